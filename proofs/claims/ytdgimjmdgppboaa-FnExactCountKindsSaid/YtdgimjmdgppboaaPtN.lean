/- The program's type of a term. -/
import Derived.Test.YtdgimjmdgppboaaPtM
import Derived.Test.YtdgimjmdgppboaaRetIIB
namespace Go.Proofs.Ytdgimjmdgppboaa
set_option maxRecDepth 100000
open Go Go.RowKit Go.Deep

theorem partOf_any (w : World) (B : Nat) (v : Value) (x : List Nd) (hv : LfN w B v x) (hB : B ≤ w.heap.size) :
    Calls Try.prog 26 #[.agg #[v]] w (PartSaid w x) := by
  have HPI := Lib.hid (partIn_any (w.alloc (.cells #[v] tTm)) B v x (hv.below (Below.alloc (Below.refl _ _) (Nat.le_refl _) _) hB) (by simp; omega))
  have HB0 := Lib.hid (Below.alloc (Below.refl w.heap.size w) (Nat.le_refl _) (.cells #[v] tTm))
  obtain ⟨A, c, rfl⟩ := hv.len
  clear hv hB
  go_enter Try.func26, Try.ntmps26
  go_wp2_with (go_at_call 39; refine HPI.out.mono ?_; rintro e w2 ⟨u, ok, rfl, b2, hok, hu⟩; have HB2 := Lib.hid (HB0.out.trans (b2.mono (by simp))); have HU := Lib.hid hu; have HOK := Lib.hid hok; clear b2 hu hok)
  refine bodyPost_ret (v := .tuple #[u, .bool ok]) (by simp [results, Try.results26, go_sem]) rfl ?_
  exact ⟨u, ok, rfl, HB2.out, HOK.out, HU.out⟩
def tyIn (x : List Nd) : Int := match treeOf x with | some t => t.inw | none => 0
def tyOut (x : List Nd) : Int := match treeOf x with | some t => t.outw | none => 0
def tyOk (x : List Nd) : Bool := (treeOf x).isSome
set_option maxHeartbeats 1600000 in
theorem impl_TypeOf (w : World) (B : Nat) (v : Value) (x : List Nd) (hv : LfN w B v x) (hB : B ≤ w.heap.size) (_ : szN x ≤ 1048576) :
    Calls Try.prog 10 #[.agg #[v]] w (IRetIIB w (tyIn x) (tyOut x) (tyOk x)) := by
  have HPO := Lib.hid (partOf_any (w.alloc (.cells #[v] tTm)) B v x (hv.below (Below.alloc (Below.refl _ _) (Nat.le_refl _) _) hB) (by simp; omega))
  have HB0 := Lib.hid (Below.alloc (Below.refl w.heap.size w) (Nat.le_refl _) (.cells #[v] tTm))
  obtain ⟨A, c, rfl⟩ := hv.len
  clear hv hB
  cases ht : treeOf x with
  | none =>
    have H1 : Hid (tyIn x = 0) := Lib.hid (by unfold tyIn; rw [ht])
    have H2 : Hid (tyOut x = 0) := Lib.hid (by unfold tyOut; rw [ht])
    have H3 : Hid (tyOk x = false) := Lib.hid (by unfold tyOk; rw [ht]; rfl)
    have HT := Lib.hid ht
    clear ht
    go_enter Try.func10, Try.ntmps10
    go_wp2_with (go_at_call 26; refine HPO.out.mono ?_; rintro e w2 ⟨u, ok, rfl, b2, hok, hu⟩; have HB2 := Lib.hid (HB0.out.trans (b2.mono (by simp))); rw [HT.out] at hok; subst hok; clear b2 hu)
    refine bodyPost_ret (v := .tuple #[.int .i64 0, .int .i64 0, .bool false]) (by simp [results, Try.results10, go_sem]) rfl ?_
    unfold IRetIIB
    rw [H1.out, H2.out, H3.out]
    exact ⟨rfl, HB2.out⟩
  | some t =>
    have H1 : Hid (tyIn x = t.inw) := Lib.hid (by unfold tyIn; rw [ht])
    have H2 : Hid (tyOut x = t.outw) := Lib.hid (by unfold tyOut; rw [ht])
    have H3 : Hid (tyOk x = true) := Lib.hid (by unfold tyOk; rw [ht]; rfl)
    have HT := Lib.hid ht
    clear ht
    obtain ⟨Tt, Vt, gt, et, hm, hc, hC⟩ := trV_wires t
    have HC := Lib.hid hC
    have HET := Lib.hid et
    clear hC et
    generalize t.inw = ti at *
    generalize t.outw = tout at *
    go_enter Try.func10, Try.ntmps10
    go_wp2_with (first | (go_at_call 26; refine HPO.out.mono ?_; rintro e w2 ⟨u, ok, rfl, b2, hok, hu⟩; have HB2 := Lib.hid (HB0.out.trans (b2.mono (by simp))); rw [HT.out] at hok; subst hok; have hu2 := (hu t HT.out).trans HET.out; subst hu2; clear b2 hu) | (with_reducible refine (HC.out _).mono ?_; rintro e w3 ⟨rfl, b3⟩; have HB3 := Lib.hid (HB2.out.trans (b3.mono HB2.out.size)); clear b3; unfold wcV) | fail)
    go_quiet (fail)
    go_wp2
    have hsz : w.heap.size ≤ w3.heap.size := HB3.out.size
    refine bodyPost_ret (v := .tuple #[.int .i64 ti, .int .i64 tout, .bool true]) (by simp [results, Try.results10, go_sem]) rfl ?_
    unfold IRetIIB
    rw [H1.out, H2.out, H3.out]
    exact ⟨rfl, by refine Below.trans HB3.out ?_; exact (by repeat' (first | exact Below.refl _ _ | apply Below.drew | apply below_drewN | apply Below.setCell | apply Below.alloc | (simp; done) | omega | (simp; omega)))⟩
end Go.Proofs.Ytdgimjmdgppboaa

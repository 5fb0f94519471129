/- The model's type of a term. -/
import Derived.Test.YtdgimjmdgppboaaTmW2
import Derived.Test.YtdgimjmdgppboaaPtN
import Derived.Test.YtdgimjmdgppboaaRetIIB
import Derived.BigQuiet
namespace Go.Proofs.Ytdgimjmdgppboaa
set_option maxRecDepth 100000
open Go Go.RowKit Go.Deep

set_option maxHeartbeats 1600000 in
theorem tmScan_any (w : World) (B : Nat) (v : Value) (x : List Nd) (hv : LfN w B v x) (hB : B ≤ w.heap.size) :
    Calls Try.prog 31 #[.agg #[v]] w (ScanSaid w x) := by
  have HB0 := Lib.hid (Below.alloc (Below.alloc (Below.refl w.heap.size w) (Nat.le_refl _) (.cells #[v] tTm)) (by simp) (.cells #[.slice none 0 0, .slice none 0 0, .slice none 0 0] tInfo))
  have HSC := Lib.hid (lbScan_any ((w.alloc (.cells #[v] tTm)).alloc (.cells #[.slice none 0 0, .slice none 0 0, .slice none 0 0] tInfo)) B v x (hv.below HB0.out hB) (by simp; omega))
  have HR0 := Lib.hid (cellsAt_new' (w.alloc (.cells #[v] tTm)) #[.slice none 0 0, .slice none 0 0, .slice none 0 0] tInfo [.slice none 0 0, .slice none 0 0, .slice none 0 0] (w.heap.size + 1) (by simp) rfl)
  have hsz0 : ((w.alloc (.cells #[v] tTm)).alloc (.cells #[.slice none 0 0, .slice none 0 0, .slice none 0 0] tInfo)).heap.size = w.heap.size + 2 := by simp
  obtain ⟨A, c, rfl⟩ := hv.len
  clear hv hB
  go_enter Try.func31, Try.ntmps31
  go_wp2_with fail
  refine HSC.out.mono ?_
  rintro e w2 ⟨v0, v1, v2, rfl, b2, hx, ⟨A0, n0, c0, rfl⟩, ⟨A1, n1, c1, rfl⟩, ⟨A2, n2, c2, rfl⟩⟩
  have HX := Lib.hid hx
  have HB2 := Lib.hid (HB0.out.trans (b2.mono (by rw [hsz0]; omega)))
  have HR2 := Lib.hid (HR0.out.below b2 (by rw [hsz0]; omega))
  obtain ⟨hr0, hr1, hr2, hrf0, hrf1, hrf2, hrs⟩ := cells3 HR2.out
  obtain ⟨-, hra1, -, -, hraf1, -, -⟩ := cells3 (HR2.out.set 0 (.slice A0 n0 c0))
  obtain ⟨-, -, hrb2, -, -, hrbf2, -⟩ := cells3 ((HR2.out.set 0 (.slice A0 n0 c0)).set 1 (.slice A1 n1 c1))
  have hsz2 : w.heap.size + 2 ≤ w2.heap.size := by rw [← hsz0]; exact b2.size
  clear b2 hx
  go_wp2
  obtain ⟨hq0, hq1, hq2, -, -, -, -⟩ := cells3 (((HR2.out.set 0 (.slice A0 n0 c0)).set 1 (.slice A1 n1 c1)).set 2 (.slice A2 n2 c2))
  refine bodyPost_ret (v := .tuple #[.agg #[.slice A0 n0 c0, .slice A1 n1 c1, .slice A2 n2 c2], .bool (okS x)]) (by simp [results, Try.results31, go_sem, hq0, hq1, hq2]) rfl ?_
  refine ⟨_, _, _, rfl, by refine Below.trans HB2.out ?_; exact (by repeat' (first | exact Below.refl _ _ | apply Below.drew | apply below_drewN | apply Below.setCell | apply Below.alloc | (simp; done) | omega | (simp; omega))), fun ho => ?_, ⟨_, _, _, rfl⟩, ⟨_, _, _, rfl⟩, ⟨_, _, _, rfl⟩⟩
  obtain ⟨X, h1, h2, h3, h4, h5⟩ := HX.out ho
  rw [hsz0] at h3 h4 h5
  exact ⟨X, h1, h2, RowA.mono (((h3.set (by omega)).set (by omega)).set (by omega)) (by omega), RowA.mono (((h4.set (by omega)).set (by omega)).set (by omega)) (by omega), RowA.mono (((h5.set (by omega)).set (by omega)).set (by omega)) (by omega)⟩
set_option maxHeartbeats 3200000 in
theorem tmType_any (w : World) (B : Nat) (v : Value) (x : List Nd) (hv : LfN w B v x) (hB : B ≤ w.heap.size) :
    Calls Try.prog 24 #[.agg #[v]] w (IRetIIB w (tyIn x) (tyOut x) (tyOk x)) := by
  have HB0 := Lib.hid (Below.alloc (Below.refl w.heap.size w) (Nat.le_refl _) (.cells #[v] tTm))
  have HSC := Lib.hid (tmScan_any (w.alloc (.cells #[v] tTm)) B v x (hv.below HB0.out hB) (by simp; omega))
  have HT0 := Lib.hid (cellsAt_new' w #[v] tTm [v] w.heap.size rfl rfl)
  have hsz0 : (w.alloc (.cells #[v] tTm)).heap.size = w.heap.size + 1 := by simp
  have hxl := hv.2.1
  obtain ⟨A, c, rfl⟩ := hv.len
  clear hv hB
  cases ht : treeOf x with
  | none =>
    have HOK : Hid (okS x = false) := Lib.hid (by rw [ok_both, ht]; rfl)
    have H1 : Hid (tyIn x = 0) := Lib.hid (by unfold tyIn; rw [ht])
    have H2 : Hid (tyOut x = 0) := Lib.hid (by unfold tyOut; rw [ht])
    have H3 : Hid (tyOk x = false) := Lib.hid (by unfold tyOk; rw [ht]; rfl)
    clear ht
    go_enter Try.func24, Try.ntmps24
    go_wp2_with fail
    refine HSC.out.mono ?_
    rintro e w2 ⟨v0, v1, v2, rfl, b2, -, ⟨A0, n0, c0, rfl⟩, ⟨A1, n1, c1, rfl⟩, ⟨A2, n2, c2, rfl⟩⟩
    have HB2 := Lib.hid (HB0.out.trans (b2.mono (by rw [hsz0]; omega)))
    have hsz2 : w.heap.size + 1 ≤ w2.heap.size := by rw [← hsz0]; exact b2.size
    rw [HOK.out]
    clear b2
    go_wp2
    refine bodyPost_ret (v := .tuple #[.int .i64 0, .int .i64 0, .bool false]) (by simp [results, Try.results24, go_sem]) rfl ?_
    unfold IRetIIB
    rw [H1.out, H2.out, H3.out]
    exact ⟨rfl, by refine Below.trans HB2.out ?_; exact (by repeat' (first | exact Below.refl _ _ | apply Below.drew | apply below_drewN | apply Below.setCell | apply Below.alloc | (simp; done) | omega | (simp; omega)))⟩
  | some t =>
    have HOK : Hid (okS x = true) := Lib.hid (by rw [ok_both, ht]; rfl)
    obtain ⟨X0, hs0, hl0, hl1, hl4, hi0, ho0⟩ := ty_both ht
    have H1 : Hid (tyIn x = t.inw) := Lib.hid (by unfold tyIn; rw [ht])
    have H2 : Hid (tyOut x = t.outw) := Lib.hid (by unfold tyOut; rw [ht])
    have H3 : Hid (tyOk x = true) := Lib.hid (by unfold tyOk; rw [ht]; rfl)
    clear ht
    go_enter Try.func24, Try.ntmps24
    go_wp2_with fail
    refine HSC.out.mono ?_
    rintro e w2 ⟨v0, v1, v2, rfl, b2, hx, -, -, -⟩
    obtain ⟨X, h1, h2, h3, h4, h5⟩ := hx HOK.out
    rw [hs0] at h1
    obtain rfl := Option.some.inj h1
    obtain ⟨l1, l2, l3⟩ := hl0
    obtain ⟨A0, c0, rfl⟩ := h3.form
    obtain ⟨g1, d1, rfl, hc1⟩ := h4.cells (by omega)
    obtain ⟨g2, d2, rfl, hc2⟩ := h5.cells (by omega)
    have HB2 := Lib.hid (HB0.out.trans (b2.mono (by rw [hsz0]; omega)))
    have HT2 := Lib.hid (HT0.out.below b2 (by rw [hsz0]; omega))
    have hsz2 : w.heap.size + 1 ≤ w2.heap.size := by rw [← hsz0]; exact b2.size
    obtain ⟨m, e1, hkm⟩ : ∃ m : Nat, (x.length : Int) - 1 = (m : Int) ∧ x.length = m + 1 := ⟨x.length - 1, by omega, by omega⟩
    have HC1 := hc1 m (by omega)
    have HC2 := hc2 m (by omega)
    have em : x.length - 1 = m := by omega
    rw [em] at hi0 ho0
    rw [hi0] at HC1
    rw [ho0] at HC2
    have hmi : (m : Int) < (X0.i.length : Int) := by omega
    have hmo : (m : Int) < (X0.o.length : Int) := by omega
    have hm0 : (0 : Int) ≤ (m : Int) := by omega
    have hwm : IntKind.i64.wrap (m : Int) = (m : Int) := Go.IntWalk.i64_in _ ⟨by omega, by omega⟩
    have ht0 : w2.cell? ⟨w.heap.size, 0, none⟩ = some (.slice A x.length c) := HT2.out.cell (i := 0) (by simp)
    have hlt0 : w.heap.size < w2.heap.size := by omega
    have hg1 : g1 < w2.heap.size := World.block_lt_of_cell? w2 _ HC1
    have hg2 : g2 < w2.heap.size := World.block_lt_of_cell? w2 _ HC2
    rw [HOK.out]
    generalize t.inw = ti at *
    generalize t.outw = tout at *
    have HLI := Lib.hid l2
    have HLO := Lib.hid l3
    have HKM := Lib.hid hkm
    clear b2 hx h1 h2 h3 h4 h5 hc1 hc2 l1 l2 l3 hi0 ho0 em hkm hs0
    go_wp2
    go_quiet (fail)
    go_wp2
    refine bodyPost_ret (v := .tuple #[.int .i64 ti, .int .i64 tout, .bool true]) (by simp [results, Try.results24, go_sem]) rfl ?_
    unfold IRetIIB
    rw [H1.out, H2.out, H3.out]
    exact ⟨rfl, by refine Below.trans HB2.out ?_; exact (by repeat' (first | exact Below.refl _ _ | apply Below.drew | apply below_drewN | apply Below.setCell | apply Below.alloc | (simp; done) | omega | (simp; omega)))⟩
theorem spec_TypeOf (w : World) (B : Nat) (v : Value) (x : List Nd) (hv : LfN w B v x) (hB : B ≤ w.heap.size) (_ : szN x ≤ 1048576) :
    Calls Try.prog 8 #[.agg #[v]] w (SRetIIB w (tyIn x) (tyOut x) (tyOk x)) := by
  have HB0 := Lib.hid (Below.alloc (Below.refl w.heap.size w) (Nat.le_refl _) (.cells #[v] tTm))
  have HTY := Lib.hid (tmType_any (w.alloc (.cells #[v] tTm)) B v x (hv.below HB0.out hB) (by simp; omega))
  have hsz0 : (w.alloc (.cells #[v] tTm)).heap.size = w.heap.size + 1 := by simp
  obtain ⟨A, c, rfl⟩ := hv.len
  clear hv hB
  go_enter Try.func8, Try.ntmps8
  go_wp2_with fail
  refine HTY.out.mono ?_
  rintro e w2 ⟨rfl, b2⟩
  have HB2 := Lib.hid (HB0.out.trans (b2.mono (by rw [hsz0]; omega)))
  clear b2
  go_wp2
  refine bodyPost_ret (v := .tuple #[.int .i64 (tyIn x), .int .i64 (tyOut x), .bool (tyOk x)]) (by simp [results, Try.results8, go_sem]) rfl ?_
  exact ⟨rfl, HB2.out⟩
end Go.Proofs.Ytdgimjmdgppboaa

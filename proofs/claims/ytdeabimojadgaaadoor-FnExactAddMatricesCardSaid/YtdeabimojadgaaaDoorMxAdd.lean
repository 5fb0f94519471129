/- Sums of matrices: both sides. -/
import Derived.Test.YtdeabimojadgaaaDoorSlc
import Derived.Test.YtdeabimojadgaaaDoorMxMul
import Derived.Test.YtdeabimojadgaaaDoorRetMatrixB
import Derived.Test.YtdeabimojadgaaaDoorMxTurn
import Derived.StillTailTactics
namespace Go.Proofs.YtdeabimojadgaaaDoor
open Go Go.RowKit Go.Deep

def addOk (p ca cb : Int) (a b : List (List Int)) : Bool := isMat p ca a && isMat p cb b && decide (ca = cb) && decide ((a.length : Int) = (b.length : Int))
def addM (p : Int) (a b : List (List Int)) : List (List Int) := a.mapIdx fun r x => axpy p x 1 (b.getD r [])
def addOkC (p ca cb : Int) (a b : List (List Int)) : Int := if addOk p ca cb a b then ca else 0
def addOkR (p ca cb : Int) (a b : List (List Int)) : List (List Int) := if addOk p ca cb a b then addM p a b else []
def addOkB (p ca cb : Int) (a b : List (List Int)) : Bool := addOk p ca cb a b
theorem addM_mat {p : Int} (hp : 2 ≤ p) {n c : Nat} {a b : List (List Int)} (h : Mat p n c a) : Mat p n c (addM p a b) := by
  refine ⟨by simp [addM, h.1], fun r hr => ?_⟩
  obtain ⟨i, hi, rfl⟩ := List.getElem_of_mem hr
  simp only [addM, List.getElem_mapIdx]
  refine ⟨?_, axpy_bd hp⟩
  rw [axpy_len]
  exact (h.2 _ (List.getElem_mem _)).1
theorem addM_sz {p : Int} {n c : Nat} {m : List (List Int)} (hn : n ≤ 24) (hc : c ≤ 24) (h : Mat p n c m) : szG m ≤ 1099511627776 := by
  have h3 : tot m = n * c := by rw [tot_const (c := c) (fun r hr => (h.2 r hr).1), h.1]
  have h4 : n * c ≤ 24 * 24 := Nat.mul_le_mul hn hc
  unfold szG
  rw [h3, h.1]
  omega
/-- The model's sum, as it grows: the first k rows done. -/
def addS (p : Int) (c : Nat) (a b : List (List Int)) (k : Nat) : List (List Int) := upd (fun r _ => axpy p (a.getD r []) 1 (b.getD r [])) k (List.replicate a.length (List.replicate c 0))
def addIn (p : Int) (c : Nat) (a b : List (List Int)) (k j : Nat) : List (List Int) := (addS p c a b k).set k (upd (fun j _ => ((a.getD k []).getD j 0 + (b.getD k []).getD j 0) % p) j (List.replicate c 0))
theorem addS_len (p : Int) (c : Nat) (a b : List (List Int)) (k : Nat) : (addS p c a b k).length = a.length := by unfold addS; rw [upd_len, List.length_replicate]
theorem addS_row {p : Int} {c : Nat} {a b : List (List Int)} {k : Nat} (h : k < a.length) : (addS p c a b k).getD k [] = List.replicate c 0 := by
  unfold addS
  rw [upd_getD _ (Nat.le_refl k), repl_getD' _ _ _ _ h]
theorem addS_end {p : Int} {c : Nat} {a b : List (List Int)} {k : Nat} (h : a.length ≤ k) : addS p c a b k = addM p a b := by
  unfold addS addM
  rw [upd_all _ (by rw [List.length_replicate]; exact h)]
  refine ext_getD [] (by simp) fun i hi => ?_
  rw [List.length_mapIdx, List.length_replicate] at hi
  rw [mapIdx_getD _ _ _ (by simpa using hi) [], mapIdx_getD _ _ _ hi []]
theorem addIn_len (p : Int) (c : Nat) (a b : List (List Int)) (k j : Nat) : (addIn p c a b k j).length = a.length := by unfold addIn; rw [List.length_set, addS_len]
theorem addIn_row {p : Int} {c : Nat} {a b : List (List Int)} {k : Nat} (h : k < a.length) (j : Nat) : (addIn p c a b k j).getD k [] = upd (fun j _ => ((a.getD k []).getD j 0 + (b.getD k []).getD j 0) % p) j (List.replicate c 0) := by
  unfold addIn
  rw [set_getD _ _ _ _ _ (by rw [addS_len]; exact h), if_pos rfl]
theorem addIn_row_len {p : Int} {c : Nat} {a b : List (List Int)} {k : Nat} (h : k < a.length) (j : Nat) : ((addIn p c a b k j).getD k []).length = c := by rw [addIn_row h, upd_len, List.length_replicate]
theorem set_self {α : Type} (xs : List α) (k : Nat) (d : α) : xs.set k (xs.getD k d) = xs := by
  apply List.ext_getElem?
  intro i
  rw [List.getElem?_set]
  by_cases c : k = i
  · subst c
    rw [if_pos rfl]
    by_cases h : k < xs.length
    · rw [if_pos h, List.getD_eq_getElem?_getD, List.getElem?_eq_getElem h]
      rfl
    · rw [if_neg h, List.getElem?_eq_none (by omega)]
  · rw [if_neg c]
theorem addIn_start {p : Int} {c : Nat} {a b : List (List Int)} {k : Nat} (h : k < a.length) : addIn p c a b k 0 = addS p c a b k := by
  unfold addIn
  rw [upd_zero, ← addS_row (p := p) (b := b) h, set_self]
theorem addIn_next {p : Int} {c : Nat} {a b : List (List Int)} {k j : Nat} (h : k < a.length) (hj : j < c) : (addIn p c a b k j).set k (((addIn p c a b k j).getD k []).set j (((a.getD k []).getD j 0 + (b.getD k []).getD j 0) % p)) = addIn p c a b k (j + 1) := by
  rw [addIn_row h]
  unfold addIn
  rw [List.set_set, ← upd_step (fun j _ => ((a.getD k []).getD j 0 + (b.getD k []).getD j 0) % p) (by rw [List.length_replicate]; exact hj) 0]
theorem addIn_end {p : Int} {c : Nat} {a b : List (List Int)} {k j : Nat} (h : k < a.length) (hl : (a.getD k []).length = c) (hj : c ≤ j) : addIn p c a b k j = addS p c a b (k + 1) := by
  unfold addIn
  have e : upd (fun j _ => ((a.getD k []).getD j 0 + (b.getD k []).getD j 0) % p) j (List.replicate c 0) = axpy p (a.getD k []) 1 (b.getD k []) := by
    rw [upd_all _ (by rw [List.length_replicate]; exact hj)]
    refine ext_getD 0 (by rw [List.length_mapIdx, List.length_replicate, axpy_len, hl]) fun i hi => ?_
    rw [List.length_mapIdx, List.length_replicate] at hi
    rw [mapIdx_getD _ _ _ (by rw [List.length_replicate]; exact hi) 0, axpy_get (by rw [hl]; exact hi), Int.one_mul]
  rw [e]
  unfold addS
  rw [upd_step (fun r _ => axpy p (a.getD r []) 1 (b.getD r [])) (by rw [List.length_replicate]; exact h) []]
set_option maxHeartbeats 1600000 in
set_option maxRecDepth 100000 in
theorem spec_AddMatrices (w : World) (B : Nat) (va vb : Value) (p ca cb : Int) (a b : List (List Int)) (hva : LfG w B va a) (hvb : LfG w B vb b) (hB : B ≤ w.heap.size) (hsa : szG a ≤ 1048576) (hsb : szG b ≤ 1048576) :
    Calls Tryd.prog 19 #[.int .i64 p, .agg #[.int .i64 ca, va], .agg #[.int .i64 cb, vb]] w (SRetMatrixB w (addOkC p ca cb a b) (addOkR p ca cb a b) (addOkB p ca cb a b)) := by
  obtain ⟨Aa, cca, rfl⟩ := hva.len
  obtain ⟨Ab, ccb, rfl⟩ := hvb.len
  have HVA := Lib.hid hva
  have HVB := Lib.hid hvb
  have HB := Lib.hid hB
  have hla : a.length ≤ 1048576 := by unfold szG at hsa; omega
  have hlb : b.length ≤ 1048576 := by unfold szG at hsb; omega
  clear hva hvb hB
  cases hma : isMat p ca a with
  | false =>
    have HMA := Lib.hid hma
    have hok : addOk p ca cb a b = false := by simp [addOk, hma]
    have HE0 := Lib.hid (show addOkC p ca cb a b = 0 by simp [addOkC, hok])
    have HE1 := Lib.hid (show addOkR p ca cb a b = [] by simp [addOkR, hok])
    have HE2 := Lib.hid (show addOkB p ca cb a b = false by simp [addOkB, hok])
    have HOK := ()
    clear HOK
    clear hok hma
    go_enter Tryd.func19, Tryd.ntmps19
    go_wp2_with fail
    refine (mxGood_any _ B _ p ca a (HVA.out.below (B' := w.heap.size) (by repeat' (first | exact Below.refl _ _ | apply Below.drew | apply Below.setCell | apply Below.alloc | (simp; done) | omega | (simp; omega))) HB.out).1 (by have := HB.out; simp; omega) HVA.out.2.1 HVA.out.2.2).mono ?_
    rintro e w1 ⟨rfl, bb⟩
    rw [HMA.out]
    obtain ⟨xa, xb, xr, xn⟩ := boxes3 bb rfl
    have HXA := Lib.hid xa
    have HXB := Lib.hid xb
    have HR := Lib.hid xr
    have HBN := Lib.hid xn
    clear xa xb xr xn bb
    obtain ⟨hax0, hax1, haxf0, haxf1, haxs⟩ := HXA.out.two
    obtain ⟨hbx0, hbx1, hbxf0, hbxf1, hbxs⟩ := HXB.out.two
    obtain ⟨hrx0, hrx1, hrxf0, hrxf1, hrxs⟩ := HR.out.two
    go_wp2
    refine bodyPost_ret (v := .tuple #[.agg #[.int .i64 0, .slice none 0 0], .bool false]) (by simp [results, Tryd.results19, go_sem, hrx0, hrx1]) rfl ?_
    rw [HE0.out, HE1.out, HE2.out]
    exact ⟨_, rfl, (by refine Below.trans HBN.out ?_; repeat' (first | exact Below.refl _ _ | apply Below.drew | apply Below.setCell | apply Below.alloc | (simp; done) | omega | (simp; omega))), ⟨none, 0, rfl, Or.inl rfl⟩, by simp [szG, tot]⟩
  | true =>
    cases hmb : isMat p cb b with
    | false =>
      have HMA := Lib.hid hma
      have HMB := Lib.hid hmb
      have hok : addOk p ca cb a b = false := by simp [addOk, hma, hmb]
      have HE0 := Lib.hid (show addOkC p ca cb a b = 0 by simp [addOkC, hok])
      have HE1 := Lib.hid (show addOkR p ca cb a b = [] by simp [addOkR, hok])
      have HE2 := Lib.hid (show addOkB p ca cb a b = false by simp [addOkB, hok])
      have HOK := ()
      clear HOK
      clear hok hma hmb
      go_enter Tryd.func19, Tryd.ntmps19
      go_wp2_with fail
      refine (mxGood_any _ B _ p ca a (HVA.out.below (B' := w.heap.size) (by repeat' (first | exact Below.refl _ _ | apply Below.drew | apply Below.setCell | apply Below.alloc | (simp; done) | omega | (simp; omega))) HB.out).1 (by have := HB.out; simp; omega) HVA.out.2.1 HVA.out.2.2).mono ?_
      rintro e w1 ⟨rfl, bb⟩
      rw [HMA.out]
      obtain ⟨xa, xb, xr, xn⟩ := boxes3 bb rfl
      have HXA := Lib.hid xa
      have HXB := Lib.hid xb
      have HR := Lib.hid xr
      have HBN := Lib.hid xn
      clear xa xb xr xn bb
      obtain ⟨hax0, hax1, haxf0, haxf1, haxs⟩ := HXA.out.two
      obtain ⟨hbx0, hbx1, hbxf0, hbxf1, hbxs⟩ := HXB.out.two
      obtain ⟨hrx0, hrx1, hrxf0, hrxf1, hrxs⟩ := HR.out.two
      go_wp2_with fail
      refine (mxGood_any _ B _ p cb b ((HVB.out.below HBN.out HB.out).below (B' := w1.heap.size) (by repeat' (first | exact Below.refl _ _ | apply Below.drew | apply Below.setCell | apply Below.alloc | (simp; done) | omega | (simp; omega))) (Nat.le_trans HB.out HBN.out.size)).1 (Nat.le_trans HB.out HBN.out.size) HVB.out.2.1 HVB.out.2.2).mono ?_
      rintro e w2 ⟨rfl, bb⟩
      rw [HMB.out]
      have hlt0 := HXA.out.lt
      have hlt1 := HXB.out.lt
      have hlt2 := HR.out.lt
      replace HXA := Lib.hid (HXA.out.below bb (by (try simp); omega))
      replace HXB := Lib.hid (HXB.out.below bb (by (try simp); omega))
      replace HR := Lib.hid (HR.out.below bb (by (try simp); omega))
      replace HBN := Lib.hid (HBN.out.trans (bb.mono HBN.out.size))
      clear bb hlt0 hlt1 hlt2 hax0 hax1 haxf0 haxf1 haxs hbx0 hbx1 hbxf0 hbxf1 hbxs hrx0 hrx1 hrxf0 hrxf1 hrxs
      obtain ⟨hax0, hax1, haxf0, haxf1, haxs⟩ := HXA.out.two
      obtain ⟨hbx0, hbx1, hbxf0, hbxf1, hbxs⟩ := HXB.out.two
      obtain ⟨hrx0, hrx1, hrxf0, hrxf1, hrxs⟩ := HR.out.two
      go_wp2
      refine bodyPost_ret (v := .tuple #[.agg #[.int .i64 0, .slice none 0 0], .bool false]) (by simp [results, Tryd.results19, go_sem, hrx0, hrx1]) rfl ?_
      rw [HE0.out, HE1.out, HE2.out]
      exact ⟨_, rfl, (by refine Below.trans HBN.out ?_; repeat' (first | exact Below.refl _ _ | apply Below.drew | apply Below.setCell | apply Below.alloc | (simp; done) | omega | (simp; omega))), ⟨none, 0, rfl, Or.inl rfl⟩, by simp [szG, tot]⟩
    | true =>
      have HMA := Lib.hid hma
      have HMB := Lib.hid hmb
      by_cases hdim : ca = cb
      rotate_left
      · have hq : ((ca : Int) != cb) = true := by simp; omega
        have hok : addOk p ca cb a b = false := by unfold addOk; rw [hma, hmb]; simp; omega
        have HE0 := Lib.hid (show addOkC p ca cb a b = 0 by simp [addOkC, hok])
        have HE1 := Lib.hid (show addOkR p ca cb a b = [] by simp [addOkR, hok])
        have HE2 := Lib.hid (show addOkB p ca cb a b = false by simp [addOkB, hok])
        have HOK := ()
        clear HOK
        clear hok hma hmb hdim 
        go_enter Tryd.func19, Tryd.ntmps19
        go_wp2_with fail
        refine (mxGood_any _ B _ p ca a (HVA.out.below (B' := w.heap.size) (by repeat' (first | exact Below.refl _ _ | apply Below.drew | apply Below.setCell | apply Below.alloc | (simp; done) | omega | (simp; omega))) HB.out).1 (by have := HB.out; simp; omega) HVA.out.2.1 HVA.out.2.2).mono ?_
        rintro e w1 ⟨rfl, bb⟩
        rw [HMA.out]
        obtain ⟨xa, xb, xr, xn⟩ := boxes3 bb rfl
        have HXA := Lib.hid xa
        have HXB := Lib.hid xb
        have HR := Lib.hid xr
        have HBN := Lib.hid xn
        clear xa xb xr xn bb
        obtain ⟨hax0, hax1, haxf0, haxf1, haxs⟩ := HXA.out.two
        obtain ⟨hbx0, hbx1, hbxf0, hbxf1, hbxs⟩ := HXB.out.two
        obtain ⟨hrx0, hrx1, hrxf0, hrxf1, hrxs⟩ := HR.out.two
        go_wp2_with fail
        refine (mxGood_any _ B _ p cb b ((HVB.out.below HBN.out HB.out).below (B' := w1.heap.size) (by repeat' (first | exact Below.refl _ _ | apply Below.drew | apply Below.setCell | apply Below.alloc | (simp; done) | omega | (simp; omega))) (Nat.le_trans HB.out HBN.out.size)).1 (Nat.le_trans HB.out HBN.out.size) HVB.out.2.1 HVB.out.2.2).mono ?_
        rintro e w2 ⟨rfl, bb⟩
        rw [HMB.out]
        have hlt0 := HXA.out.lt
        have hlt1 := HXB.out.lt
        have hlt2 := HR.out.lt
        replace HXA := Lib.hid (HXA.out.below bb (by (try simp); omega))
        replace HXB := Lib.hid (HXB.out.below bb (by (try simp); omega))
        replace HR := Lib.hid (HR.out.below bb (by (try simp); omega))
        replace HBN := Lib.hid (HBN.out.trans (bb.mono HBN.out.size))
        clear bb hlt0 hlt1 hlt2 hax0 hax1 haxf0 haxf1 haxs hbx0 hbx1 hbxf0 hbxf1 hbxs hrx0 hrx1 hrxf0 hrxf1 hrxs
        obtain ⟨hax0, hax1, haxf0, haxf1, haxs⟩ := HXA.out.two
        obtain ⟨hbx0, hbx1, hbxf0, hbxf1, hbxs⟩ := HXB.out.two
        obtain ⟨hrx0, hrx1, hrxf0, hrxf1, hrxs⟩ := HR.out.two
        go_wp2
        refine bodyPost_ret (v := .tuple #[.agg #[.int .i64 0, .slice none 0 0], .bool false]) (by simp [results, Tryd.results19, go_sem, hrx0, hrx1]) rfl ?_
        rw [HE0.out, HE1.out, HE2.out]
        exact ⟨_, rfl, (by refine Below.trans HBN.out ?_; repeat' (first | exact Below.refl _ _ | apply Below.drew | apply Below.setCell | apply Below.alloc | (simp; done) | omega | (simp; omega))), ⟨none, 0, rfl, Or.inl rfl⟩, by simp [szG, tot]⟩
      by_cases hdim2 : a.length = b.length
      rotate_left
      · have hq : ((a.length : Int) != b.length) = true := by simp; omega
        have hok : addOk p ca cb a b = false := by unfold addOk; rw [hma, hmb]; simp; omega
        have hqhdim : ((ca : Int) != cb) = false := by simp [hdim]
        have HE0 := Lib.hid (show addOkC p ca cb a b = 0 by simp [addOkC, hok])
        have HE1 := Lib.hid (show addOkR p ca cb a b = [] by simp [addOkR, hok])
        have HE2 := Lib.hid (show addOkB p ca cb a b = false by simp [addOkB, hok])
        have HOK := ()
        clear HOK
        clear hok hma hmb hdim2 hdim
        go_enter Tryd.func19, Tryd.ntmps19
        go_wp2_with fail
        refine (mxGood_any _ B _ p ca a (HVA.out.below (B' := w.heap.size) (by repeat' (first | exact Below.refl _ _ | apply Below.drew | apply Below.setCell | apply Below.alloc | (simp; done) | omega | (simp; omega))) HB.out).1 (by have := HB.out; simp; omega) HVA.out.2.1 HVA.out.2.2).mono ?_
        rintro e w1 ⟨rfl, bb⟩
        rw [HMA.out]
        obtain ⟨xa, xb, xr, xn⟩ := boxes3 bb rfl
        have HXA := Lib.hid xa
        have HXB := Lib.hid xb
        have HR := Lib.hid xr
        have HBN := Lib.hid xn
        clear xa xb xr xn bb
        obtain ⟨hax0, hax1, haxf0, haxf1, haxs⟩ := HXA.out.two
        obtain ⟨hbx0, hbx1, hbxf0, hbxf1, hbxs⟩ := HXB.out.two
        obtain ⟨hrx0, hrx1, hrxf0, hrxf1, hrxs⟩ := HR.out.two
        go_wp2_with fail
        refine (mxGood_any _ B _ p cb b ((HVB.out.below HBN.out HB.out).below (B' := w1.heap.size) (by repeat' (first | exact Below.refl _ _ | apply Below.drew | apply Below.setCell | apply Below.alloc | (simp; done) | omega | (simp; omega))) (Nat.le_trans HB.out HBN.out.size)).1 (Nat.le_trans HB.out HBN.out.size) HVB.out.2.1 HVB.out.2.2).mono ?_
        rintro e w2 ⟨rfl, bb⟩
        rw [HMB.out]
        have hlt0 := HXA.out.lt
        have hlt1 := HXB.out.lt
        have hlt2 := HR.out.lt
        replace HXA := Lib.hid (HXA.out.below bb (by (try simp); omega))
        replace HXB := Lib.hid (HXB.out.below bb (by (try simp); omega))
        replace HR := Lib.hid (HR.out.below bb (by (try simp); omega))
        replace HBN := Lib.hid (HBN.out.trans (bb.mono HBN.out.size))
        clear bb hlt0 hlt1 hlt2 hax0 hax1 haxf0 haxf1 haxs hbx0 hbx1 hbxf0 hbxf1 hbxs hrx0 hrx1 hrxf0 hrxf1 hrxs
        obtain ⟨hax0, hax1, haxf0, haxf1, haxs⟩ := HXA.out.two
        obtain ⟨hbx0, hbx1, hbxf0, hbxf1, hbxs⟩ := HXB.out.two
        obtain ⟨hrx0, hrx1, hrxf0, hrxf1, hrxs⟩ := HR.out.two
        go_wp2
        refine bodyPost_ret (v := .tuple #[.agg #[.int .i64 0, .slice none 0 0], .bool false]) (by simp [results, Tryd.results19, go_sem, hrx0, hrx1]) rfl ?_
        rw [HE0.out, HE1.out, HE2.out]
        exact ⟨_, rfl, (by refine Below.trans HBN.out ?_; repeat' (first | exact Below.refl _ _ | apply Below.drew | apply Below.setCell | apply Below.alloc | (simp; done) | omega | (simp; omega))), ⟨none, 0, rfl, Or.inl rfl⟩, by simp [szG, tot]⟩
      have hok : addOk p ca cb a b = true := by unfold addOk; rw [hma, hmb]; simp; omega
      have HE2 := Lib.hid (show addOkB p ca cb a b = true by simp [addOkB, hok])
      obtain ⟨hf, hn24a, ka, rfl, hka, hmata⟩ := (isMat_iff _ _ _).1 hma
      obtain ⟨-, hn24b, kb, rfl, hkb, hmatb⟩ := (isMat_iff _ _ _).1 hmb
      obtain ⟨hp2, hp97⟩ := fld_bd hf
      have hq_hdim : ((ka : Int) != kb) = false := by simp; omega
      have Hhdim := Lib.hid (show ka = kb by omega)
      clear hdim
      have hq_hdim2 : ((a.length : Int) != b.length) = false := by simp; omega
      have Hhdim2 := Lib.hid (show a.length = b.length by omega)
      clear hdim2
      have HE0 := Lib.hid (show addOkC p ka kb a b = ka by simp [addOkC, hok])
      have HE1 := Lib.hid (show addOkR p ka kb a b = addM p a b by simp [addOkR, hok])
      have HMTA := Lib.hid hmata
      have HMTB := Lib.hid hmatb
      clear hmata hmatb hf
      clear hok hma hmb
      go_enter Tryd.func19, Tryd.ntmps19
      go_wp2_with fail
      refine (mxGood_any _ B _ p ka a (HVA.out.below (B' := w.heap.size) (by repeat' (first | exact Below.refl _ _ | apply Below.drew | apply Below.setCell | apply Below.alloc | (simp; done) | omega | (simp; omega))) HB.out).1 (by have := HB.out; simp; omega) HVA.out.2.1 HVA.out.2.2).mono ?_
      rintro e w1 ⟨rfl, bb⟩
      rw [HMA.out]
      obtain ⟨xa, xb, xr, xn⟩ := boxes3 bb rfl
      have HXA := Lib.hid xa
      have HXB := Lib.hid xb
      have HR := Lib.hid xr
      have HBN := Lib.hid xn
      clear xa xb xr xn bb
      obtain ⟨hax0, hax1, haxf0, haxf1, haxs⟩ := HXA.out.two
      obtain ⟨hbx0, hbx1, hbxf0, hbxf1, hbxs⟩ := HXB.out.two
      obtain ⟨hrx0, hrx1, hrxf0, hrxf1, hrxs⟩ := HR.out.two
      go_wp2_with fail
      refine (mxGood_any _ B _ p kb b ((HVB.out.below HBN.out HB.out).below (B' := w1.heap.size) (by repeat' (first | exact Below.refl _ _ | apply Below.drew | apply Below.setCell | apply Below.alloc | (simp; done) | omega | (simp; omega))) (Nat.le_trans HB.out HBN.out.size)).1 (Nat.le_trans HB.out HBN.out.size) HVB.out.2.1 HVB.out.2.2).mono ?_
      rintro e w2 ⟨rfl, bb⟩
      rw [HMB.out]
      have hlt0 := HXA.out.lt
      have hlt1 := HXB.out.lt
      have hlt2 := HR.out.lt
      replace HXA := Lib.hid (HXA.out.below bb (by (try simp); omega))
      replace HXB := Lib.hid (HXB.out.below bb (by (try simp); omega))
      replace HR := Lib.hid (HR.out.below bb (by (try simp); omega))
      replace HBN := Lib.hid (HBN.out.trans (bb.mono HBN.out.size))
      clear bb hlt0 hlt1 hlt2 hax0 hax1 haxf0 haxf1 haxs hbx0 hbx1 hbxf0 hbxf1 hbxs hrx0 hrx1 hrxf0 hrxf1 hrxs
      obtain ⟨hax0, hax1, haxf0, haxf1, haxs⟩ := HXA.out.two
      obtain ⟨hbx0, hbx1, hbxf0, hbxf1, hbxs⟩ := HXB.out.two
      obtain ⟨hrx0, hrx1, hrxf0, hrxf1, hrxs⟩ := HR.out.two
      go_wp2_with fail
      have hsz2 := HBN.out.size
      refine (mxZero_any _ a.length ka (by omega) (by omega)).mono ?_
      rintro e w3 h
      obtain ⟨Am, cm, rfl, hb, ho⟩ := h.at
      clear h
      rw [List.length_replicate] at ho ⊢
      have hlt2 := HR.out.lt
      have hlt1 := HXB.out.lt
      have hlt0 := HXA.out.lt
      replace HR := Lib.hid (HR.out.below hb hlt2)
      replace HXA := Lib.hid (HXA.out.below hb hlt0)
      replace HXB := Lib.hid (HXB.out.below hb hlt1)
      have HB3 := Lib.hid (HBN.out.trans (hb.mono HBN.out.size))
      have hsz3 := hb.size
      have HO := Lib.hid (OwG.mono (T := fun q => w2.heap.size ≤ q ∧ q ≠ w3.heap.size) ho (fun q hq hl => ⟨hq, by omega⟩))
      clear hb ho hax0 hax1 haxf0 haxf1 haxs hbx0 hbx1 hbxf0 hbxf1 hbxs hrx0 hrx1 hrxf0 hrxf1 hrxs
      obtain ⟨hax0, hax1, haxf0, haxf1, haxs⟩ := HXA.out.two
      go_wp2
      clear hax0 hax1 haxf0 haxf1 haxs
      go_loopw [49, 9, 10, 11, 12, 54, 55, 56] (fun i _ _ _ _ _ _ _ wr => ∃ k : Nat, k ≤ a.length ∧ i = .int .i64 k ∧ Hid (Below w.heap.size w wr) ∧ Hid (w3.heap.size < wr.heap.size) ∧ Hid (CellsAt wr w.heap.size tM [.int .i64 ka, .slice Aa a.length cca]) ∧ Hid (CellsAt wr (w.heap.size + 1) tM [.int .i64 kb, .slice Ab b.length ccb]) ∧ Hid (CellsAt wr (w.heap.size + 1 + 1) tM [.int .i64 0, .slice none 0 0]) ∧ Hid (CellsAt wr w3.heap.size tM [.int .i64 ka, .slice Am a.length cm]) ∧ Hid (OwG wr tI tR (fun q => w2.heap.size ≤ q ∧ q ≠ w3.heap.size) (.slice Am a.length cm) (addS p ka a b k))) (fun i _ _ _ _ _ _ _ _ => a.length - (intOf i).toNat)
      case atStart => exact ⟨0, Nat.zero_le _, rfl, Lib.hid (HB3.out.alloc (by omega) _), Lib.hid (by rw [nblk_alloc]; omega), Lib.hid (HXA.out.alloc _), Lib.hid (HXB.out.alloc _), Lib.hid (HR.out.alloc _), Lib.hid (cellsAt_new _ _ _), Lib.hid (by unfold addS; rw [upd_zero]; exact OwG.blocks HO.out (fun q _ hl => blk_alloc_lt _ _ _ hl))⟩
      case round =>
        obtain ⟨k, hk, rfl, HB4, HZ4, HA4, HC4, HR4, HOUT4, HO4⟩ := hrel
        by_cases hlt : k < a.length
        · have hltb : k < b.length := by have := Hhdim2.out; omega
          obtain ⟨b1, o1, A3, c3, rfl, hb1, hc1, hrd⟩ := (HVA.out.below HB4.out HB.out).1.at hlt
          obtain ⟨b2, o2, A4, c4, rfl, hb2, hc2, hrd2⟩ := (HVB.out.below HB4.out HB.out).1.at hltb
          have HRD := Lib.hid hrd
          have HRD2 := Lib.hid hrd2
          have HROWA := Lib.hid (HMTA.out.row hlt)
          have HROWB := Lib.hid (HMTB.out.row hltb)
          have HC2 := Lib.hid hc2
          have HBB2 := Lib.hid hb2
          have HDIM := Hhdim
          have hla2 : (a.getD k []).length = ka := HROWA.out.1
          have hlb2 : (b.getD k []).length = ka := by rw [HROWB.out.1]; have := Hhdim.out; omega
          have HLB2 := Lib.hid hlb2
          rw [hla2] at hc1 HRD
          clear hrd hrd2 hb1 hb2 hc2 hla2 hlb2
          go_wp2
          go_loopw [56, 11, 12] (fun i _ _ wr2 => ∃ j : Nat, j ≤ ka ∧ i = .int .i64 j ∧ Hid (Below w.heap.size w wr2) ∧ Hid (w3.heap.size < wr2.heap.size) ∧ Hid (CellsAt wr2 w.heap.size tM [.int .i64 ka, .slice (some ⟨b1, o1, none⟩) a.length cca]) ∧ Hid (CellsAt wr2 (w.heap.size + 1) tM [.int .i64 kb, .slice (some ⟨b2, o2, none⟩) b.length ccb]) ∧ Hid (CellsAt wr2 (w.heap.size + 1 + 1) tM [.int .i64 0, .slice none 0 0]) ∧ Hid (CellsAt wr2 w3.heap.size tM [.int .i64 ka, .slice Am a.length cm]) ∧ Hid (wr2.cell? ⟨b2, o2 + k, none⟩ = some (.slice A4 (b.getD k []).length c4)) ∧ Hid (RdS wr2 (fun q => q < B) (.slice A3 ka c3) (a.getD k [])) ∧ Hid (RdS wr2 (fun q => q < B) (.slice A4 (b.getD k []).length c4) (b.getD k [])) ∧ Hid (OwG wr2 tI tR (fun q => w2.heap.size ≤ q ∧ q ≠ w3.heap.size) (.slice Am a.length cm) (addIn p ka a b k j))) (fun i _ _ _ => ka - (intOf i).toNat)
          case atStart => exact ⟨0, Nat.zero_le _, rfl, HB4, HZ4, HA4, HC4, HR4, HOUT4, HC2, HRD, HRD2, Lib.hid (by rw [addIn_start hlt]; exact HO4.out)⟩
          case round =>
            obtain ⟨j, hj, rfl, HB5, HZ5, HA5, HC5, HR5, HOUT5, HCC5, HRA5, HRB5, HO5⟩ := hrel
            by_cases hlt2 : j < ka
            · obtain ⟨b5, o5, rfl, hb5, hc5⟩ := HRA5.out.at (k := j) (by rw [HROWA.out.1]; exact hlt2)
              obtain ⟨b6, o6, rfl, hb6, hc6⟩ := HRB5.out.at (k := j) (by rw [HLB2.out]; exact hlt2)
              have HLI := Lib.hid (show (addIn p ka a b k j).length = a.length from addIn_len _ _ _ _ _ _)
              have HGI := Lib.hid (show ((addIn p ka a b k j).getD k []).length = ka from addIn_row_len hlt j)
              obtain ⟨g, c7, bb, c8, e, hg, hgl, hc7, hbS, hbl, hne, hc8, hf8, hset⟩ := HO5.out.at (r := k) (j := j) (by rw [HLI.out]; exact hlt) (by rw [HGI.out]; exact hlt2)
              rw [HLI.out] at e
              obtain ⟨rfl, -, rfl⟩ := sliceEq e
              rw [HGI.out] at hc7
              have hcc5 := HCC5.out
              rw [HLB2.out] at hcc5
              have HSET := Lib.hid (hset (((a.getD k []).getD j 0 + (b.getD k []).getD j 0) % p))
              have HBS := Lib.hid hbS
              have HB5L := Lib.hid hb5
              have HB6L := Lib.hid hb6
              have hx := (HROWA.out.2 _ (getD_mem' (show j < (a.getD k []).length by rw [HROWA.out.1]; exact hlt2) 0))
              have hy := (HROWB.out.2 _ (getD_mem' (show j < (b.getD k []).length by rw [HLB2.out]; exact hlt2) 0))
              generalize hz8 : ((addIn p ka a b k j).getD k []).getD j 0 = z8 at hc8
              clear hset e hg hbS hb5 hb6 hz8
              generalize hxe : (a.getD k []).getD j 0 = x at hc5 hx HSET
              generalize hye : (b.getD k []).getD j 0 = y at hc6 hy HSET
              have HXE := Lib.hid hxe
              have HYE := Lib.hid hye
              clear hxe hye
              obtain ⟨hx0, hx1⟩ := hx
              obtain ⟨hy0, hy1⟩ := hy
              obtain ⟨ht0, ht1, htf0, htf1, hts⟩ := HOUT5.out.two
              obtain ⟨hbx0, hbx1, hbxf0, hbxf1, hbxs⟩ := HC5.out.two
              have hjb : (j : Int) < (ka : Int) := by omega
              have hkb : (k : Int) < (b.length : Int) := by omega
              have hka2 : (k : Int) < (a.length : Int) := by omega
              go_wp2
              go_still_tail 18, (by kernel_rfl)
              still_call ((fdAdd_any p x y _ hp2 hp97 hx0 hx1 hy0 hy1).mono fun _ _ h => ⟨h.1, h.2.symm⟩)
              repeat still_step
              refine wpStill_nil ?_
              change wpList _ _ _ _ _ wr.drew
              go_wp2
              go_roundw
              case rel => exact ⟨j + 1, by omega, by go_num, Lib.hid ((HB5.out.setCell (show w.heap.size ≤ bb by have := HBS.out; omega) _).drew), Lib.hid (by show w3.heap.size < (wr.setCell _ _).heap.size; rw [nblk_setCell]; exact HZ5.out), Lib.hid ((HA5.out.setOther (by have := HBS.out; dsimp only; omega) _).drew), Lib.hid ((HC5.out.setOther (by have := HBS.out; dsimp only; omega) _).drew), Lib.hid ((HR5.out.setOther (by have := HBS.out; dsimp only; omega) _).drew), Lib.hid ((HOUT5.out.setOther (by have := HBS.out; dsimp only; omega) _).drew),
                  Lib.hid ((World.cell?_of_block (w := wr) (blk_setCell_other _ _ _ _ (by have := HBS.out; have := HBB2.out; have := HB.out; dsimp only; omega))).trans HCC5.out),
                  Lib.hid (RdS.blocks (w := wr) HRA5.out (fun q hq => blk_setCell_other _ _ _ _ (by have := HBS.out; have := HB.out; dsimp only; omega))), Lib.hid (RdS.blocks (w := wr) HRB5.out (fun q hq => blk_setCell_other _ _ _ _ (by have := HBS.out; have := HB.out; dsimp only; omega))),
                  Lib.hid (by
                    have h := HSET.out
                    rw [← HXE.out, ← HYE.out, addIn_next hlt hlt2] at h
                    rw [← HXE.out, ← HYE.out]
                    exact OwG.drew h)⟩
              case measure => simp [intOf]; omega
            · go_wp2
              go_roundw
              case rel => exact ⟨k + 1, by omega, by go_num, HB5, HZ5, HA5, HC5, HR5, HOUT5, Lib.hid (by rw [← addIn_end hlt (HROWA.out.1) (show ka ≤ j by omega)]; exact HO5.out)⟩
              case measure => simp [intOf]; omega
        · obtain ⟨ht0, ht1, htf0, htf1, hts⟩ := HOUT4.out.two
          obtain ⟨hrx0, hrx1, hrxf0, hrxf1, hrxs⟩ := HR4.out.two
          go_wp2
          refine bodyPost_ret (v := .tuple #[.agg #[.int .i64 ka, .slice Am a.length cm], .bool true]) (by simp [results, Tryd.results19, go_sem, hrx0, hrx1]) rfl ?_
          rw [HE0.out, HE1.out, HE2.out]
          have h := HO4.out
          rw [addS_end (show a.length ≤ k by omega)] at h
          refine ⟨_, rfl, (by refine Below.trans HB4.out ?_; repeat' (first | exact Below.refl _ _ | apply Below.drew | apply Below.setCell | apply Below.alloc | (simp; done) | omega | (simp; omega))), (OwG.mono (T := fun q => w2.heap.size ≤ q) h (fun q hq _ => hq.1)).blocks (fun q h _ => ?_) |>.mono (fun q h _ => by omega), addM_sz hn24a hka (addM_mat hp2 HMTA.out)⟩
          rw [blk_setCell_other _ _ _ _ (by simp; omega), blk_setCell_other _ _ _ _ (by simp; omega)]
set_option maxHeartbeats 1600000 in
set_option maxRecDepth 100000 in
theorem impl_AddMatrices (w : World) (B : Nat) (va vb : Value) (p ca cb : Int) (a b : List (List Int)) (ht : Tab w) (hva : LfG w B va a) (hvb : LfG w B vb b) (hB : B ≤ w.heap.size) (hsa : szG a ≤ 1048576) (hsb : szG b ≤ 1048576) :
    Calls Tryd.prog 20 #[.int .i64 p, .agg #[.int .i64 ca, va], .agg #[.int .i64 cb, vb]] w (IRetMatrixB w (addOkC p ca cb a b) (addOkR p ca cb a b) (addOkB p ca cb a b)) := by
  obtain ⟨Aa, cca, rfl⟩ := hva.len
  obtain ⟨Ab, ccb, rfl⟩ := hvb.len
  have HVA := Lib.hid hva
  have HVB := Lib.hid hvb
  have HB := Lib.hid hB
  have hla : a.length ≤ 1048576 := by unfold szG at hsa; omega
  have hlb : b.length ≤ 1048576 := by unfold szG at hsb; omega
  clear hva hvb hB
  have HT := Lib.hid ht
  clear ht
  cases hma : isMat p ca a with
  | false =>
    have HMA := Lib.hid hma
    have hok : addOk p ca cb a b = false := by simp [addOk, hma]
    have HE0 := Lib.hid (show addOkC p ca cb a b = 0 by simp [addOkC, hok])
    have HE1 := Lib.hid (show addOkR p ca cb a b = [] by simp [addOkR, hok])
    have HE2 := Lib.hid (show addOkB p ca cb a b = false by simp [addOkB, hok])
    have HOK := ()
    clear HOK
    clear hok hma
    go_enter Tryd.func20, Tryd.ntmps20
    go_wp2_with fail
    refine (implIsMatrix_any _ B _ p ca a (HT.out.below (by repeat' (first | exact Below.refl _ _ | apply Below.drew | apply Below.setCell | apply Below.alloc | (simp; done) | omega | (simp; omega)))) (HVA.out.below (B' := w.heap.size) (by repeat' (first | exact Below.refl _ _ | apply Below.drew | apply Below.setCell | apply Below.alloc | (simp; done) | omega | (simp; omega))) HB.out).1 (by have := HB.out; simp; omega) HVA.out.2.1 HVA.out.2.2).mono ?_
    rintro e w1 ⟨rfl, bb⟩
    rw [HMA.out]
    obtain ⟨xa, xb, xr, xn⟩ := boxes3 bb rfl
    have HXA := Lib.hid xa
    have HXB := Lib.hid xb
    have HR := Lib.hid xr
    have HBN := Lib.hid xn
    clear xa xb xr xn bb
    obtain ⟨hax0, hax1, haxf0, haxf1, haxs⟩ := HXA.out.two
    obtain ⟨hbx0, hbx1, hbxf0, hbxf1, hbxs⟩ := HXB.out.two
    obtain ⟨hrx0, hrx1, hrxf0, hrxf1, hrxs⟩ := HR.out.two
    go_wp2
    refine bodyPost_ret (v := .tuple #[.agg #[.int .i64 0, .slice none 0 0], .bool false]) (by simp [results, Tryd.results20, go_sem, hrx0, hrx1]) rfl ?_
    rw [HE0.out, HE1.out, HE2.out]
    exact ⟨_, rfl, (by refine Below.trans HBN.out ?_; repeat' (first | exact Below.refl _ _ | apply Below.drew | apply Below.setCell | apply Below.alloc | (simp; done) | omega | (simp; omega))), ⟨none, 0, rfl, Or.inl rfl⟩, by simp [szG, tot]⟩
  | true =>
    cases hmb : isMat p cb b with
    | false =>
      have HMA := Lib.hid hma
      have HMB := Lib.hid hmb
      have hok : addOk p ca cb a b = false := by simp [addOk, hma, hmb]
      have HE0 := Lib.hid (show addOkC p ca cb a b = 0 by simp [addOkC, hok])
      have HE1 := Lib.hid (show addOkR p ca cb a b = [] by simp [addOkR, hok])
      have HE2 := Lib.hid (show addOkB p ca cb a b = false by simp [addOkB, hok])
      have HOK := ()
      clear HOK
      clear hok hma hmb
      go_enter Tryd.func20, Tryd.ntmps20
      go_wp2_with fail
      refine (implIsMatrix_any _ B _ p ca a (HT.out.below (by repeat' (first | exact Below.refl _ _ | apply Below.drew | apply Below.setCell | apply Below.alloc | (simp; done) | omega | (simp; omega)))) (HVA.out.below (B' := w.heap.size) (by repeat' (first | exact Below.refl _ _ | apply Below.drew | apply Below.setCell | apply Below.alloc | (simp; done) | omega | (simp; omega))) HB.out).1 (by have := HB.out; simp; omega) HVA.out.2.1 HVA.out.2.2).mono ?_
      rintro e w1 ⟨rfl, bb⟩
      rw [HMA.out]
      obtain ⟨xa, xb, xr, xn⟩ := boxes3 bb rfl
      have HXA := Lib.hid xa
      have HXB := Lib.hid xb
      have HR := Lib.hid xr
      have HBN := Lib.hid xn
      clear xa xb xr xn bb
      obtain ⟨hax0, hax1, haxf0, haxf1, haxs⟩ := HXA.out.two
      obtain ⟨hbx0, hbx1, hbxf0, hbxf1, hbxs⟩ := HXB.out.two
      obtain ⟨hrx0, hrx1, hrxf0, hrxf1, hrxs⟩ := HR.out.two
      go_wp2_with fail
      refine (implIsMatrix_any _ B _ p cb b ((HT.out.below HBN.out).below (show Below w1.heap.size w1 _ from by repeat' (first | exact Below.refl _ _ | apply Below.drew | apply Below.setCell | apply Below.alloc | (simp; done) | omega | (simp; omega)))) ((HVB.out.below HBN.out HB.out).below (B' := w1.heap.size) (by repeat' (first | exact Below.refl _ _ | apply Below.drew | apply Below.setCell | apply Below.alloc | (simp; done) | omega | (simp; omega))) (Nat.le_trans HB.out HBN.out.size)).1 (Nat.le_trans HB.out HBN.out.size) HVB.out.2.1 HVB.out.2.2).mono ?_
      rintro e w2 ⟨rfl, bb⟩
      rw [HMB.out]
      have hlt0 := HXA.out.lt
      have hlt1 := HXB.out.lt
      have hlt2 := HR.out.lt
      replace HXA := Lib.hid (HXA.out.below bb (by (try simp); omega))
      replace HXB := Lib.hid (HXB.out.below bb (by (try simp); omega))
      replace HR := Lib.hid (HR.out.below bb (by (try simp); omega))
      replace HBN := Lib.hid (HBN.out.trans (bb.mono HBN.out.size))
      clear bb hlt0 hlt1 hlt2 hax0 hax1 haxf0 haxf1 haxs hbx0 hbx1 hbxf0 hbxf1 hbxs hrx0 hrx1 hrxf0 hrxf1 hrxs
      obtain ⟨hax0, hax1, haxf0, haxf1, haxs⟩ := HXA.out.two
      obtain ⟨hbx0, hbx1, hbxf0, hbxf1, hbxs⟩ := HXB.out.two
      obtain ⟨hrx0, hrx1, hrxf0, hrxf1, hrxs⟩ := HR.out.two
      go_wp2
      refine bodyPost_ret (v := .tuple #[.agg #[.int .i64 0, .slice none 0 0], .bool false]) (by simp [results, Tryd.results20, go_sem, hrx0, hrx1]) rfl ?_
      rw [HE0.out, HE1.out, HE2.out]
      exact ⟨_, rfl, (by refine Below.trans HBN.out ?_; repeat' (first | exact Below.refl _ _ | apply Below.drew | apply Below.setCell | apply Below.alloc | (simp; done) | omega | (simp; omega))), ⟨none, 0, rfl, Or.inl rfl⟩, by simp [szG, tot]⟩
    | true =>
      have HMA := Lib.hid hma
      have HMB := Lib.hid hmb
      by_cases hdim : ca = cb
      rotate_left
      · have hq : ((ca : Int) != cb) = true := by simp; omega
        have hok : addOk p ca cb a b = false := by unfold addOk; rw [hma, hmb]; simp; omega
        have HE0 := Lib.hid (show addOkC p ca cb a b = 0 by simp [addOkC, hok])
        have HE1 := Lib.hid (show addOkR p ca cb a b = [] by simp [addOkR, hok])
        have HE2 := Lib.hid (show addOkB p ca cb a b = false by simp [addOkB, hok])
        have HOK := ()
        clear HOK
        clear hok hma hmb hdim 
        go_enter Tryd.func20, Tryd.ntmps20
        go_wp2_with fail
        refine (implIsMatrix_any _ B _ p ca a (HT.out.below (by repeat' (first | exact Below.refl _ _ | apply Below.drew | apply Below.setCell | apply Below.alloc | (simp; done) | omega | (simp; omega)))) (HVA.out.below (B' := w.heap.size) (by repeat' (first | exact Below.refl _ _ | apply Below.drew | apply Below.setCell | apply Below.alloc | (simp; done) | omega | (simp; omega))) HB.out).1 (by have := HB.out; simp; omega) HVA.out.2.1 HVA.out.2.2).mono ?_
        rintro e w1 ⟨rfl, bb⟩
        rw [HMA.out]
        obtain ⟨xa, xb, xr, xn⟩ := boxes3 bb rfl
        have HXA := Lib.hid xa
        have HXB := Lib.hid xb
        have HR := Lib.hid xr
        have HBN := Lib.hid xn
        clear xa xb xr xn bb
        obtain ⟨hax0, hax1, haxf0, haxf1, haxs⟩ := HXA.out.two
        obtain ⟨hbx0, hbx1, hbxf0, hbxf1, hbxs⟩ := HXB.out.two
        obtain ⟨hrx0, hrx1, hrxf0, hrxf1, hrxs⟩ := HR.out.two
        go_wp2_with fail
        refine (implIsMatrix_any _ B _ p cb b ((HT.out.below HBN.out).below (show Below w1.heap.size w1 _ from by repeat' (first | exact Below.refl _ _ | apply Below.drew | apply Below.setCell | apply Below.alloc | (simp; done) | omega | (simp; omega)))) ((HVB.out.below HBN.out HB.out).below (B' := w1.heap.size) (by repeat' (first | exact Below.refl _ _ | apply Below.drew | apply Below.setCell | apply Below.alloc | (simp; done) | omega | (simp; omega))) (Nat.le_trans HB.out HBN.out.size)).1 (Nat.le_trans HB.out HBN.out.size) HVB.out.2.1 HVB.out.2.2).mono ?_
        rintro e w2 ⟨rfl, bb⟩
        rw [HMB.out]
        have hlt0 := HXA.out.lt
        have hlt1 := HXB.out.lt
        have hlt2 := HR.out.lt
        replace HXA := Lib.hid (HXA.out.below bb (by (try simp); omega))
        replace HXB := Lib.hid (HXB.out.below bb (by (try simp); omega))
        replace HR := Lib.hid (HR.out.below bb (by (try simp); omega))
        replace HBN := Lib.hid (HBN.out.trans (bb.mono HBN.out.size))
        clear bb hlt0 hlt1 hlt2 hax0 hax1 haxf0 haxf1 haxs hbx0 hbx1 hbxf0 hbxf1 hbxs hrx0 hrx1 hrxf0 hrxf1 hrxs
        obtain ⟨hax0, hax1, haxf0, haxf1, haxs⟩ := HXA.out.two
        obtain ⟨hbx0, hbx1, hbxf0, hbxf1, hbxs⟩ := HXB.out.two
        obtain ⟨hrx0, hrx1, hrxf0, hrxf1, hrxs⟩ := HR.out.two
        go_wp2
        refine bodyPost_ret (v := .tuple #[.agg #[.int .i64 0, .slice none 0 0], .bool false]) (by simp [results, Tryd.results20, go_sem, hrx0, hrx1]) rfl ?_
        rw [HE0.out, HE1.out, HE2.out]
        exact ⟨_, rfl, (by refine Below.trans HBN.out ?_; repeat' (first | exact Below.refl _ _ | apply Below.drew | apply Below.setCell | apply Below.alloc | (simp; done) | omega | (simp; omega))), ⟨none, 0, rfl, Or.inl rfl⟩, by simp [szG, tot]⟩
      by_cases hdim2 : a.length = b.length
      rotate_left
      · have hq : ((a.length : Int) != b.length) = true := by simp; omega
        have hok : addOk p ca cb a b = false := by unfold addOk; rw [hma, hmb]; simp; omega
        have hqhdim : ((ca : Int) != cb) = false := by simp [hdim]
        have HE0 := Lib.hid (show addOkC p ca cb a b = 0 by simp [addOkC, hok])
        have HE1 := Lib.hid (show addOkR p ca cb a b = [] by simp [addOkR, hok])
        have HE2 := Lib.hid (show addOkB p ca cb a b = false by simp [addOkB, hok])
        have HOK := ()
        clear HOK
        clear hok hma hmb hdim2 hdim
        go_enter Tryd.func20, Tryd.ntmps20
        go_wp2_with fail
        refine (implIsMatrix_any _ B _ p ca a (HT.out.below (by repeat' (first | exact Below.refl _ _ | apply Below.drew | apply Below.setCell | apply Below.alloc | (simp; done) | omega | (simp; omega)))) (HVA.out.below (B' := w.heap.size) (by repeat' (first | exact Below.refl _ _ | apply Below.drew | apply Below.setCell | apply Below.alloc | (simp; done) | omega | (simp; omega))) HB.out).1 (by have := HB.out; simp; omega) HVA.out.2.1 HVA.out.2.2).mono ?_
        rintro e w1 ⟨rfl, bb⟩
        rw [HMA.out]
        obtain ⟨xa, xb, xr, xn⟩ := boxes3 bb rfl
        have HXA := Lib.hid xa
        have HXB := Lib.hid xb
        have HR := Lib.hid xr
        have HBN := Lib.hid xn
        clear xa xb xr xn bb
        obtain ⟨hax0, hax1, haxf0, haxf1, haxs⟩ := HXA.out.two
        obtain ⟨hbx0, hbx1, hbxf0, hbxf1, hbxs⟩ := HXB.out.two
        obtain ⟨hrx0, hrx1, hrxf0, hrxf1, hrxs⟩ := HR.out.two
        go_wp2_with fail
        refine (implIsMatrix_any _ B _ p cb b ((HT.out.below HBN.out).below (show Below w1.heap.size w1 _ from by repeat' (first | exact Below.refl _ _ | apply Below.drew | apply Below.setCell | apply Below.alloc | (simp; done) | omega | (simp; omega)))) ((HVB.out.below HBN.out HB.out).below (B' := w1.heap.size) (by repeat' (first | exact Below.refl _ _ | apply Below.drew | apply Below.setCell | apply Below.alloc | (simp; done) | omega | (simp; omega))) (Nat.le_trans HB.out HBN.out.size)).1 (Nat.le_trans HB.out HBN.out.size) HVB.out.2.1 HVB.out.2.2).mono ?_
        rintro e w2 ⟨rfl, bb⟩
        rw [HMB.out]
        have hlt0 := HXA.out.lt
        have hlt1 := HXB.out.lt
        have hlt2 := HR.out.lt
        replace HXA := Lib.hid (HXA.out.below bb (by (try simp); omega))
        replace HXB := Lib.hid (HXB.out.below bb (by (try simp); omega))
        replace HR := Lib.hid (HR.out.below bb (by (try simp); omega))
        replace HBN := Lib.hid (HBN.out.trans (bb.mono HBN.out.size))
        clear bb hlt0 hlt1 hlt2 hax0 hax1 haxf0 haxf1 haxs hbx0 hbx1 hbxf0 hbxf1 hbxs hrx0 hrx1 hrxf0 hrxf1 hrxs
        obtain ⟨hax0, hax1, haxf0, haxf1, haxs⟩ := HXA.out.two
        obtain ⟨hbx0, hbx1, hbxf0, hbxf1, hbxs⟩ := HXB.out.two
        obtain ⟨hrx0, hrx1, hrxf0, hrxf1, hrxs⟩ := HR.out.two
        go_wp2
        refine bodyPost_ret (v := .tuple #[.agg #[.int .i64 0, .slice none 0 0], .bool false]) (by simp [results, Tryd.results20, go_sem, hrx0, hrx1]) rfl ?_
        rw [HE0.out, HE1.out, HE2.out]
        exact ⟨_, rfl, (by refine Below.trans HBN.out ?_; repeat' (first | exact Below.refl _ _ | apply Below.drew | apply Below.setCell | apply Below.alloc | (simp; done) | omega | (simp; omega))), ⟨none, 0, rfl, Or.inl rfl⟩, by simp [szG, tot]⟩
      have hok : addOk p ca cb a b = true := by unfold addOk; rw [hma, hmb]; simp; omega
      have HE2 := Lib.hid (show addOkB p ca cb a b = true by simp [addOkB, hok])
      obtain ⟨hf, hn24a, ka, rfl, hka, hmata⟩ := (isMat_iff _ _ _).1 hma
      obtain ⟨-, hn24b, kb, rfl, hkb, hmatb⟩ := (isMat_iff _ _ _).1 hmb
      obtain ⟨hp2, hp97⟩ := fld_bd hf
      have hq_hdim : ((ka : Int) != kb) = false := by simp; omega
      have Hhdim := Lib.hid (show ka = kb by omega)
      clear hdim
      have hq_hdim2 : ((a.length : Int) != b.length) = false := by simp; omega
      have Hhdim2 := Lib.hid (show a.length = b.length by omega)
      clear hdim2
      have HE0 := Lib.hid (show addOkC p ka kb a b = ka by simp [addOkC, hok])
      have HE1 := Lib.hid (show addOkR p ka kb a b = addM p a b by simp [addOkR, hok])
      have HMTA := Lib.hid hmata
      have HMTB := Lib.hid hmatb
      clear hmata hmatb hf
      clear hok hma hmb
      go_enter Tryd.func20, Tryd.ntmps20
      go_wp2_with fail
      refine (implIsMatrix_any _ B _ p ka a (HT.out.below (by repeat' (first | exact Below.refl _ _ | apply Below.drew | apply Below.setCell | apply Below.alloc | (simp; done) | omega | (simp; omega)))) (HVA.out.below (B' := w.heap.size) (by repeat' (first | exact Below.refl _ _ | apply Below.drew | apply Below.setCell | apply Below.alloc | (simp; done) | omega | (simp; omega))) HB.out).1 (by have := HB.out; simp; omega) HVA.out.2.1 HVA.out.2.2).mono ?_
      rintro e w1 ⟨rfl, bb⟩
      rw [HMA.out]
      obtain ⟨xa, xb, xr, xn⟩ := boxes3 bb rfl
      have HXA := Lib.hid xa
      have HXB := Lib.hid xb
      have HR := Lib.hid xr
      have HBN := Lib.hid xn
      clear xa xb xr xn bb
      obtain ⟨hax0, hax1, haxf0, haxf1, haxs⟩ := HXA.out.two
      obtain ⟨hbx0, hbx1, hbxf0, hbxf1, hbxs⟩ := HXB.out.two
      obtain ⟨hrx0, hrx1, hrxf0, hrxf1, hrxs⟩ := HR.out.two
      go_wp2_with fail
      refine (implIsMatrix_any _ B _ p kb b ((HT.out.below HBN.out).below (show Below w1.heap.size w1 _ from by repeat' (first | exact Below.refl _ _ | apply Below.drew | apply Below.setCell | apply Below.alloc | (simp; done) | omega | (simp; omega)))) ((HVB.out.below HBN.out HB.out).below (B' := w1.heap.size) (by repeat' (first | exact Below.refl _ _ | apply Below.drew | apply Below.setCell | apply Below.alloc | (simp; done) | omega | (simp; omega))) (Nat.le_trans HB.out HBN.out.size)).1 (Nat.le_trans HB.out HBN.out.size) HVB.out.2.1 HVB.out.2.2).mono ?_
      rintro e w2 ⟨rfl, bb⟩
      rw [HMB.out]
      have hlt0 := HXA.out.lt
      have hlt1 := HXB.out.lt
      have hlt2 := HR.out.lt
      replace HXA := Lib.hid (HXA.out.below bb (by (try simp); omega))
      replace HXB := Lib.hid (HXB.out.below bb (by (try simp); omega))
      replace HR := Lib.hid (HR.out.below bb (by (try simp); omega))
      replace HBN := Lib.hid (HBN.out.trans (bb.mono HBN.out.size))
      clear bb hlt0 hlt1 hlt2 hax0 hax1 haxf0 haxf1 haxs hbx0 hbx1 hbxf0 hbxf1 hbxs hrx0 hrx1 hrxf0 hrxf1 hrxs
      obtain ⟨hax0, hax1, haxf0, haxf1, haxs⟩ := HXA.out.two
      obtain ⟨hbx0, hbx1, hbxf0, hbxf1, hbxs⟩ := HXB.out.two
      obtain ⟨hrx0, hrx1, hrxf0, hrxf1, hrxs⟩ := HR.out.two
      go_wp2_with fail
      have hsz2 := HBN.out.size
      refine (copyRows_any _ B _ a ((HVA.out.below HBN.out HB.out).below (B' := w2.heap.size) (by repeat' (first | exact Below.refl _ _ | apply Below.drew | apply Below.setCell | apply Below.alloc | (simp; done) | omega | (simp; omega))) (Nat.le_trans HB.out HBN.out.size)).1 (by have := HB.out; (try simp); omega) (by omega) (fun r hr => by rw [(HMTA.out.row hr).1]; omega)).mono ?_
      rintro e w3 h
      obtain ⟨Am, cm, rfl, hb, ho⟩ := h.at
      clear h
      have hlt2 := HR.out.lt
      have hlt1 := HXB.out.lt
      have hlt0 := HXA.out.lt
      replace HR := Lib.hid (HR.out.below hb hlt2)
      replace HXA := Lib.hid (HXA.out.below hb hlt0)
      replace HXB := Lib.hid (HXB.out.below hb hlt1)
      have HB3 := Lib.hid (HBN.out.trans (hb.mono HBN.out.size))
      have HO := Lib.hid ho
      have hsz3 := hb.size
      clear hb ho hax0 hax1 haxf0 haxf1 haxs hbx0 hbx1 hbxf0 hbxf1 hbxs hrx0 hrx1 hrxf0 hrxf1 hrxs
      go_wp2
      go_loopw [43, 9, 10] (fun i _ _ wr => ∃ k : Nat, k ≤ a.length ∧ i = .int .i64 k ∧ Hid (Below w.heap.size w wr) ∧ Hid (w2.heap.size ≤ wr.heap.size) ∧ Hid (CellsAt wr w.heap.size tM [.int .i64 ka, .slice Aa a.length cca]) ∧ Hid (CellsAt wr (w.heap.size + 1) tM [.int .i64 kb, .slice Ab b.length ccb]) ∧ Hid (CellsAt wr (w.heap.size + 1 + 1) tM [.int .i64 0, .slice none 0 0]) ∧ Hid (OwG wr tI tR (fun q => w2.heap.size ≤ q) (.slice Am a.length cm) (upd (fun r x => axpy p x 1 (b.getD r [])) k a))) (fun i _ _ _ => a.length - (intOf i).toNat)
      case atStart => exact ⟨0, Nat.zero_le _, rfl, HB3, Lib.hid hsz3, HXA, HXB, HR, Lib.hid (by rw [upd_zero]; exact HO.out)⟩
      case round =>
        obtain ⟨k, hk, rfl, HB4, HZ4, HA4, HC4, HR4, HO4⟩ := hrel
        obtain ⟨hbx0, hbx1, hbxf0, hbxf1, hbxs⟩ := HC4.out.two
        by_cases hlt : k < a.length
        · have hltb : k < b.length := by have := Hhdim2.out; omega
          obtain ⟨b1, o1, A3, c3, rfl, hb1, hc1, hrd⟩ := (HVB.out.below HB4.out HB.out).1.at hltb
          have HRD := Lib.hid hrd
          have HLN := Lib.hid (show (upd (fun r x => axpy p x 1 (b.getD r [])) k a).length = a.length from upd_len _ _ _)
          have HGD := Lib.hid (upd_getD (fun r x => axpy p x 1 (b.getD r [])) (Nat.le_refl k) a [])
          obtain ⟨g, cg, u, e, hg, hgl, hcell, hfz, hro, hrb, hre, _⟩ := HO4.out.row (r := k) (by rw [HLN.out]; exact hlt)
          rw [HLN.out] at e
          obtain ⟨rfl, -, rfl⟩ := sliceEq e
          rw [HGD.out] at hro hrb hre
          have HRO := Lib.hid hro
          have HRE := Lib.hid hre
          have HRB := Lib.hid hrb
          have HROWA := Lib.hid (HMTA.out.row hlt)
          have HROWB := Lib.hid (HMTB.out.row hltb)
          have HST := Lib.hid (upd_put (fun r x => axpy p x 1 (b.getD r [])) hlt [])
          rw [HGD.out] at HST
          obtain ⟨Au, cu, rfl⟩ := hro.len
          clear hrd hb1 e hro hre hrb hg
          generalize hxa : a.getD k [] = xa at HRO HRE HRB HROWA HST hcell
          generalize hxb : b.getD k [] = xb at hc1 HRD HROWB HST
          clear hxa hxb
          have hltB : (k : Int) < (b.length : Int) := by omega
          go_wp2_with fail
          refine (addToRow_any _ (rg (.slice Au xa.length cu) xa) _ _ p 1 xa xb hp2 hp97 HRO.out (HRD.out.mono (fun q hq hq2 => by have h1 := HRB.out hq2.1; have h2 := HB.out; have h3 := HBN.out.size; rw [← hq2.2] at h1; omega)) (by rw [HROWA.out.1, HROWB.out.1]; have := Hhdim.out; omega) (by rw [HROWA.out.1]; omega) HROWA.out.2 HROWB.out.2 (by omega) (by omega)).mono ?_
          rintro e w4 ⟨rfl, ht4, ho4⟩
          have HT4 := Lib.hid (ht4.below (B := w2.heap.size) HZ4.out (fun q hq => by have := (HRB.out hq.1).1; rw [← hq.2] at this; exact this))
          have HO5 := Lib.hid (HRE.out w4 _ (axpy_len _ _ _ _) (ho4.mono (fun q hq _ => ⟨fun e0 => hq.1 (by rw [← List.length_eq_zero_iff, axpy_len, List.length_eq_zero_iff] at e0; exact e0), hq.2⟩)) (fun q hq _ hn => ht4.block q hq hn))
          clear ht4 ho4
          go_wp2
          go_roundw
          case rel => exact ⟨k + 1, by omega, by go_num, Lib.hid (HB4.out.trans (HT4.out.mono (by omega))), Lib.hid (Nat.le_trans HZ4.out HT4.out.size), Lib.hid (HA4.out.below HT4.out (by omega)), Lib.hid (HC4.out.below HT4.out (by omega)), Lib.hid (HR4.out.below HT4.out (by omega)), Lib.hid (by rw [← HST.out]; exact HO5.out)⟩
          case measure => simp [intOf]; omega
        · obtain ⟨hax0, hax1, haxf0, haxf1, haxs⟩ := HA4.out.two
          obtain ⟨hrx0, hrx1, hrxf0, hrxf1, hrxs⟩ := HR4.out.two
          go_wp2
          refine bodyPost_ret (v := .tuple #[.agg #[.int .i64 ka, .slice Am a.length cm], .bool true]) (by simp [results, Tryd.results20, go_sem, hrx0, hrx1]) rfl ?_
          rw [HE0.out, HE1.out, HE2.out]
          have h := HO4.out
          rw [upd_all _ (show a.length ≤ k by omega)] at h
          have hl : (addM p a b).length = a.length := by simp [addM]
          refine ⟨_, rfl, (by refine Below.trans HB4.out ?_; repeat' (first | exact Below.refl _ _ | apply Below.drew | apply Below.setCell | apply Below.alloc | (simp; done) | omega | (simp; omega))), OwG.mono (S := fun q => w2.heap.size ≤ q) ((by exact h : OwG _ tI tR (fun q => w2.heap.size ≤ q) (.slice Am a.length cm) (addM p a b)).blocks (fun q h _ => ?_)) (fun q h _ => by omega), addM_sz hn24a hka (addM_mat hp2 HMTA.out)⟩
          rw [blk_setCell_other _ _ _ _ (by simp; omega), blk_setCell_other _ _ _ _ (by simp; omega)]
end Go.Proofs.YtdeabimojadgaaaDoor

/- Products of matrices: both sides. -/
import Derived.Test.YtdeabimojadgaaaDoorMxMul2
import Derived.Test.YtdeabimojadgaaaDoorRetMatrixB
import Derived.Test.YtdeabimojadgaaaDoorMxTurn
namespace Go.Proofs.YtdeabimojadgaaaDoor
open Go Go.RowKit Go.Deep

def mulOk (p ca cb : Int) (a b : List (List Int)) : Bool := isMat p ca a && isMat p cb b && decide (ca = (b.length : Int))
def mulOkC (p ca cb : Int) (a b : List (List Int)) : Int := if mulOk p ca cb a b then cb else 0
def mulOkR (p ca cb : Int) (a b : List (List Int)) : List (List Int) := if mulOk p ca cb a b then mmul p cb.toNat a b else []
def mulOkB (p ca cb : Int) (a b : List (List Int)) : Bool := mulOk p ca cb a b
set_option maxHeartbeats 1600000 in
set_option maxRecDepth 100000 in
theorem impl_MulMatrices (w : World) (B : Nat) (va vb : Value) (p ca cb : Int) (a b : List (List Int)) (ht : Tab w) (hva : LfG w B va a) (hvb : LfG w B vb b) (hB : B ≤ w.heap.size) (hsa : szG a ≤ 1048576) (hsb : szG b ≤ 1048576) :
    Calls Tryd.prog 24 #[.int .i64 p, .agg #[.int .i64 ca, va], .agg #[.int .i64 cb, vb]] w (IRetMatrixB w (mulOkC p ca cb a b) (mulOkR p ca cb a b) (mulOkB p ca cb a b)) := by
  obtain ⟨Aa, cca, rfl⟩ := hva.len
  obtain ⟨Ab, ccb, rfl⟩ := hvb.len
  have HVA := Lib.hid hva
  have HVB := Lib.hid hvb
  have HB := Lib.hid hB
  have hla : a.length ≤ 1048576 := by unfold szG at hsa; omega
  have hlb : b.length ≤ 1048576 := by unfold szG at hsb; omega
  clear hva hvb hB
  have HT := Lib.hid ht
  clear ht
  cases hma : isMat p ca a with
  | false =>
    have HMA := Lib.hid hma
    have hok : mulOk p ca cb a b = false := by simp [mulOk, hma]
    have HE0 := Lib.hid (show mulOkC p ca cb a b = 0 by simp [mulOkC, hok])
    have HE1 := Lib.hid (show mulOkR p ca cb a b = [] by simp [mulOkR, hok])
    have HE2 := Lib.hid (show mulOkB p ca cb a b = false by simp [mulOkB, hok])
    have HOK := ()
    clear HOK
    clear hok hma
    go_enter Tryd.func24, Tryd.ntmps24
    go_wp2_with fail
    refine (implIsMatrix_any _ B _ p ca a (HT.out.below (by repeat' (first | exact Below.refl _ _ | apply Below.drew | apply Below.setCell | apply Below.alloc | (simp; done) | omega | (simp; omega)))) (HVA.out.below (B' := w.heap.size) (by repeat' (first | exact Below.refl _ _ | apply Below.drew | apply Below.setCell | apply Below.alloc | (simp; done) | omega | (simp; omega))) HB.out).1 (by have := HB.out; simp; omega) HVA.out.2.1 HVA.out.2.2).mono ?_
    rintro e w1 ⟨rfl, bb⟩
    rw [HMA.out]
    obtain ⟨xa, xb, xr, xn⟩ := boxes3 bb rfl
    have HXA := Lib.hid xa
    have HXB := Lib.hid xb
    have HR := Lib.hid xr
    have HBN := Lib.hid xn
    clear xa xb xr xn bb
    obtain ⟨hax0, hax1, haxf0, haxf1, haxs⟩ := HXA.out.two
    obtain ⟨hbx0, hbx1, hbxf0, hbxf1, hbxs⟩ := HXB.out.two
    obtain ⟨hrx0, hrx1, hrxf0, hrxf1, hrxs⟩ := HR.out.two
    go_wp2
    refine bodyPost_ret (v := .tuple #[.agg #[.int .i64 0, .slice none 0 0], .bool false]) (by simp [results, Tryd.results24, go_sem, hrx0, hrx1]) rfl ?_
    rw [HE0.out, HE1.out, HE2.out]
    exact ⟨_, rfl, (by refine Below.trans HBN.out ?_; repeat' (first | exact Below.refl _ _ | apply Below.drew | apply Below.setCell | apply Below.alloc | (simp; done) | omega | (simp; omega))), ⟨none, 0, rfl, Or.inl rfl⟩, by simp [szG, tot]⟩
  | true =>
    cases hmb : isMat p cb b with
    | false =>
      have HMA := Lib.hid hma
      have HMB := Lib.hid hmb
      have hok : mulOk p ca cb a b = false := by simp [mulOk, hma, hmb]
      have HE0 := Lib.hid (show mulOkC p ca cb a b = 0 by simp [mulOkC, hok])
      have HE1 := Lib.hid (show mulOkR p ca cb a b = [] by simp [mulOkR, hok])
      have HE2 := Lib.hid (show mulOkB p ca cb a b = false by simp [mulOkB, hok])
      have HOK := ()
      clear HOK
      clear hok hma hmb
      go_enter Tryd.func24, Tryd.ntmps24
      go_wp2_with fail
      refine (implIsMatrix_any _ B _ p ca a (HT.out.below (by repeat' (first | exact Below.refl _ _ | apply Below.drew | apply Below.setCell | apply Below.alloc | (simp; done) | omega | (simp; omega)))) (HVA.out.below (B' := w.heap.size) (by repeat' (first | exact Below.refl _ _ | apply Below.drew | apply Below.setCell | apply Below.alloc | (simp; done) | omega | (simp; omega))) HB.out).1 (by have := HB.out; simp; omega) HVA.out.2.1 HVA.out.2.2).mono ?_
      rintro e w1 ⟨rfl, bb⟩
      rw [HMA.out]
      obtain ⟨xa, xb, xr, xn⟩ := boxes3 bb rfl
      have HXA := Lib.hid xa
      have HXB := Lib.hid xb
      have HR := Lib.hid xr
      have HBN := Lib.hid xn
      clear xa xb xr xn bb
      obtain ⟨hax0, hax1, haxf0, haxf1, haxs⟩ := HXA.out.two
      obtain ⟨hbx0, hbx1, hbxf0, hbxf1, hbxs⟩ := HXB.out.two
      obtain ⟨hrx0, hrx1, hrxf0, hrxf1, hrxs⟩ := HR.out.two
      go_wp2_with fail
      refine (implIsMatrix_any _ B _ p cb b ((HT.out.below HBN.out).below (show Below w1.heap.size w1 _ from by repeat' (first | exact Below.refl _ _ | apply Below.drew | apply Below.setCell | apply Below.alloc | (simp; done) | omega | (simp; omega)))) ((HVB.out.below HBN.out HB.out).below (B' := w1.heap.size) (by repeat' (first | exact Below.refl _ _ | apply Below.drew | apply Below.setCell | apply Below.alloc | (simp; done) | omega | (simp; omega))) (Nat.le_trans HB.out HBN.out.size)).1 (Nat.le_trans HB.out HBN.out.size) HVB.out.2.1 HVB.out.2.2).mono ?_
      rintro e w2 ⟨rfl, bb⟩
      rw [HMB.out]
      have hlt0 := HXA.out.lt
      have hlt1 := HXB.out.lt
      have hlt2 := HR.out.lt
      replace HXA := Lib.hid (HXA.out.below bb (by (try simp); omega))
      replace HXB := Lib.hid (HXB.out.below bb (by (try simp); omega))
      replace HR := Lib.hid (HR.out.below bb (by (try simp); omega))
      replace HBN := Lib.hid (HBN.out.trans (bb.mono HBN.out.size))
      clear bb hlt0 hlt1 hlt2 hax0 hax1 haxf0 haxf1 haxs hbx0 hbx1 hbxf0 hbxf1 hbxs hrx0 hrx1 hrxf0 hrxf1 hrxs
      obtain ⟨hax0, hax1, haxf0, haxf1, haxs⟩ := HXA.out.two
      obtain ⟨hbx0, hbx1, hbxf0, hbxf1, hbxs⟩ := HXB.out.two
      obtain ⟨hrx0, hrx1, hrxf0, hrxf1, hrxs⟩ := HR.out.two
      go_wp2
      refine bodyPost_ret (v := .tuple #[.agg #[.int .i64 0, .slice none 0 0], .bool false]) (by simp [results, Tryd.results24, go_sem, hrx0, hrx1]) rfl ?_
      rw [HE0.out, HE1.out, HE2.out]
      exact ⟨_, rfl, (by refine Below.trans HBN.out ?_; repeat' (first | exact Below.refl _ _ | apply Below.drew | apply Below.setCell | apply Below.alloc | (simp; done) | omega | (simp; omega))), ⟨none, 0, rfl, Or.inl rfl⟩, by simp [szG, tot]⟩
    | true =>
      have HMA := Lib.hid hma
      have HMB := Lib.hid hmb
      by_cases hdim : ca = b.length
      rotate_left
      · have hq : ((ca : Int) != b.length) = true := by simp; omega
        have hok : mulOk p ca cb a b = false := by simp [mulOk, hdim]
        have HE0 := Lib.hid (show mulOkC p ca cb a b = 0 by simp [mulOkC, hok])
        have HE1 := Lib.hid (show mulOkR p ca cb a b = [] by simp [mulOkR, hok])
        have HE2 := Lib.hid (show mulOkB p ca cb a b = false by simp [mulOkB, hok])
        have HOK := ()
        clear HOK
        clear hok hma hmb hdim 
        go_enter Tryd.func24, Tryd.ntmps24
        go_wp2_with fail
        refine (implIsMatrix_any _ B _ p ca a (HT.out.below (by repeat' (first | exact Below.refl _ _ | apply Below.drew | apply Below.setCell | apply Below.alloc | (simp; done) | omega | (simp; omega)))) (HVA.out.below (B' := w.heap.size) (by repeat' (first | exact Below.refl _ _ | apply Below.drew | apply Below.setCell | apply Below.alloc | (simp; done) | omega | (simp; omega))) HB.out).1 (by have := HB.out; simp; omega) HVA.out.2.1 HVA.out.2.2).mono ?_
        rintro e w1 ⟨rfl, bb⟩
        rw [HMA.out]
        obtain ⟨xa, xb, xr, xn⟩ := boxes3 bb rfl
        have HXA := Lib.hid xa
        have HXB := Lib.hid xb
        have HR := Lib.hid xr
        have HBN := Lib.hid xn
        clear xa xb xr xn bb
        obtain ⟨hax0, hax1, haxf0, haxf1, haxs⟩ := HXA.out.two
        obtain ⟨hbx0, hbx1, hbxf0, hbxf1, hbxs⟩ := HXB.out.two
        obtain ⟨hrx0, hrx1, hrxf0, hrxf1, hrxs⟩ := HR.out.two
        go_wp2_with fail
        refine (implIsMatrix_any _ B _ p cb b ((HT.out.below HBN.out).below (show Below w1.heap.size w1 _ from by repeat' (first | exact Below.refl _ _ | apply Below.drew | apply Below.setCell | apply Below.alloc | (simp; done) | omega | (simp; omega)))) ((HVB.out.below HBN.out HB.out).below (B' := w1.heap.size) (by repeat' (first | exact Below.refl _ _ | apply Below.drew | apply Below.setCell | apply Below.alloc | (simp; done) | omega | (simp; omega))) (Nat.le_trans HB.out HBN.out.size)).1 (Nat.le_trans HB.out HBN.out.size) HVB.out.2.1 HVB.out.2.2).mono ?_
        rintro e w2 ⟨rfl, bb⟩
        rw [HMB.out]
        have hlt0 := HXA.out.lt
        have hlt1 := HXB.out.lt
        have hlt2 := HR.out.lt
        replace HXA := Lib.hid (HXA.out.below bb (by (try simp); omega))
        replace HXB := Lib.hid (HXB.out.below bb (by (try simp); omega))
        replace HR := Lib.hid (HR.out.below bb (by (try simp); omega))
        replace HBN := Lib.hid (HBN.out.trans (bb.mono HBN.out.size))
        clear bb hlt0 hlt1 hlt2 hax0 hax1 haxf0 haxf1 haxs hbx0 hbx1 hbxf0 hbxf1 hbxs hrx0 hrx1 hrxf0 hrxf1 hrxs
        obtain ⟨hax0, hax1, haxf0, haxf1, haxs⟩ := HXA.out.two
        obtain ⟨hbx0, hbx1, hbxf0, hbxf1, hbxs⟩ := HXB.out.two
        obtain ⟨hrx0, hrx1, hrxf0, hrxf1, hrxs⟩ := HR.out.two
        go_wp2
        refine bodyPost_ret (v := .tuple #[.agg #[.int .i64 0, .slice none 0 0], .bool false]) (by simp [results, Tryd.results24, go_sem, hrx0, hrx1]) rfl ?_
        rw [HE0.out, HE1.out, HE2.out]
        exact ⟨_, rfl, (by refine Below.trans HBN.out ?_; repeat' (first | exact Below.refl _ _ | apply Below.drew | apply Below.setCell | apply Below.alloc | (simp; done) | omega | (simp; omega))), ⟨none, 0, rfl, Or.inl rfl⟩, by simp [szG, tot]⟩
      have hok : mulOk p ca cb a b = true := by unfold mulOk; rw [hma, hmb]; simp; omega
      have HE2 := Lib.hid (show mulOkB p ca cb a b = true by simp [mulOkB, hok])
      obtain ⟨hf, hn24a, ka, rfl, hka, hmata⟩ := (isMat_iff _ _ _).1 hma
      obtain ⟨-, hn24b, kb, rfl, hkb, hmatb⟩ := (isMat_iff _ _ _).1 hmb
      obtain ⟨hp2, hp97⟩ := fld_bd hf
      have hq_hdim : ((ka : Int) != b.length) = false := by simp; omega
      have Hhdim := Lib.hid (show ka = b.length by omega)
      clear hdim
      have HE0 := Lib.hid (show mulOkC p ka kb a b = kb by simp [mulOkC, hok])
      have HE1 := Lib.hid (show mulOkR p ka kb a b = mmul p kb a b by simp [mulOkR, hok])
      have HMTA := Lib.hid hmata
      have HMTB := Lib.hid hmatb
      clear hmata hmatb hf
      clear hok hma hmb
      go_enter Tryd.func24, Tryd.ntmps24
      go_wp2_with fail
      refine (implIsMatrix_any _ B _ p ka a (HT.out.below (by repeat' (first | exact Below.refl _ _ | apply Below.drew | apply Below.setCell | apply Below.alloc | (simp; done) | omega | (simp; omega)))) (HVA.out.below (B' := w.heap.size) (by repeat' (first | exact Below.refl _ _ | apply Below.drew | apply Below.setCell | apply Below.alloc | (simp; done) | omega | (simp; omega))) HB.out).1 (by have := HB.out; simp; omega) HVA.out.2.1 HVA.out.2.2).mono ?_
      rintro e w1 ⟨rfl, bb⟩
      rw [HMA.out]
      obtain ⟨xa, xb, xr, xn⟩ := boxes3 bb rfl
      have HXA := Lib.hid xa
      have HXB := Lib.hid xb
      have HR := Lib.hid xr
      have HBN := Lib.hid xn
      clear xa xb xr xn bb
      obtain ⟨hax0, hax1, haxf0, haxf1, haxs⟩ := HXA.out.two
      obtain ⟨hbx0, hbx1, hbxf0, hbxf1, hbxs⟩ := HXB.out.two
      obtain ⟨hrx0, hrx1, hrxf0, hrxf1, hrxs⟩ := HR.out.two
      go_wp2_with fail
      refine (implIsMatrix_any _ B _ p kb b ((HT.out.below HBN.out).below (show Below w1.heap.size w1 _ from by repeat' (first | exact Below.refl _ _ | apply Below.drew | apply Below.setCell | apply Below.alloc | (simp; done) | omega | (simp; omega)))) ((HVB.out.below HBN.out HB.out).below (B' := w1.heap.size) (by repeat' (first | exact Below.refl _ _ | apply Below.drew | apply Below.setCell | apply Below.alloc | (simp; done) | omega | (simp; omega))) (Nat.le_trans HB.out HBN.out.size)).1 (Nat.le_trans HB.out HBN.out.size) HVB.out.2.1 HVB.out.2.2).mono ?_
      rintro e w2 ⟨rfl, bb⟩
      rw [HMB.out]
      have hlt0 := HXA.out.lt
      have hlt1 := HXB.out.lt
      have hlt2 := HR.out.lt
      replace HXA := Lib.hid (HXA.out.below bb (by (try simp); omega))
      replace HXB := Lib.hid (HXB.out.below bb (by (try simp); omega))
      replace HR := Lib.hid (HR.out.below bb (by (try simp); omega))
      replace HBN := Lib.hid (HBN.out.trans (bb.mono HBN.out.size))
      clear bb hlt0 hlt1 hlt2 hax0 hax1 haxf0 haxf1 haxs hbx0 hbx1 hbxf0 hbxf1 hbxs hrx0 hrx1 hrxf0 hrxf1 hrxs
      obtain ⟨hax0, hax1, haxf0, haxf1, haxs⟩ := HXA.out.two
      obtain ⟨hbx0, hbx1, hbxf0, hbxf1, hbxs⟩ := HXB.out.two
      obtain ⟨hrx0, hrx1, hrxf0, hrxf1, hrxs⟩ := HR.out.two
      go_wp2_with fail
      have hsz2 := HBN.out.size
      refine (productOf_any _ B _ _ p _ kb a b ((HVA.out.below HBN.out HB.out).below (B' := w2.heap.size) (by repeat' (first | exact Below.refl _ _ | apply Below.drew | apply Below.setCell | apply Below.alloc | (simp; done) | omega | (simp; omega))) (Nat.le_trans HB.out HBN.out.size)).1 ((HVB.out.below HBN.out HB.out).below (B' := w2.heap.size) (by repeat' (first | exact Below.refl _ _ | apply Below.drew | apply Below.setCell | apply Below.alloc | (simp; done) | omega | (simp; omega))) (Nat.le_trans HB.out HBN.out.size)).1 (by have := HB.out; (try simp); omega) hp2 hp97 (by omega) (by omega) (by omega) (fun r hr => ⟨by rw [(HMTA.out.2 r hr).1, Hhdim.out], (HMTA.out.2 r hr).2⟩) HMTB.out.2).mono ?_
      rintro e w3 h
      obtain ⟨Am, cm, rfl, hb, ho⟩ := h.at
      clear h
      rw [mmul_len] at ho ⊢
      have hlt2 := HR.out.lt
      replace HR := Lib.hid (HR.out.below hb (by (try simp); omega))
      have HB3 := Lib.hid (HBN.out.trans (hb.mono HBN.out.size))
      have HO := Lib.hid ho
      have hsz3 := hb.size
      clear hb ho hax0 hax1 haxf0 haxf1 haxs hbx0 hbx1 hbxf0 hbxf1 hbxs hrx0 hrx1 hrxf0 hrxf1 hrxs
      obtain ⟨hrx0, hrx1, hrxf0, hrxf1, hrxs⟩ := HR.out.two
      go_wp2
      refine bodyPost_ret (v := .tuple #[.agg #[.int .i64 kb, .slice Am a.length cm], .bool true]) (by simp [results, Tryd.results24, go_sem, hrx0, hrx1]) rfl ?_
      rw [HE0.out, HE1.out, HE2.out]
      refine ⟨_, rfl, (by refine Below.trans HB3.out ?_; repeat' (first | exact Below.refl _ _ | apply Below.drew | apply Below.setCell | apply Below.alloc | (simp; done) | omega | (simp; omega))), (HO.out.blocks (fun q h _ => ?_)).mono (fun q h _ => by omega), ?_⟩
      · rw [blk_setCell_other _ _ _ _ (by simp; omega), blk_setCell_other _ _ _ _ (by simp; omega)]
      · have h3 : tot (mmul p kb a b) = a.length * kb := by rw [tot_const (c := kb) (fun r hr => ((mmul_mat hp2 kb a b).2 r hr).1), mmul_len]
        have h4 : a.length * kb ≤ 24 * 24 := Nat.mul_le_mul hn24a hkb
        unfold szG
        rw [h3, mmul_len]
        omega
set_option maxHeartbeats 1600000 in
set_option maxRecDepth 100000 in
theorem spec_MulMatrices (w : World) (B : Nat) (va vb : Value) (p ca cb : Int) (a b : List (List Int)) (hva : LfG w B va a) (hvb : LfG w B vb b) (hB : B ≤ w.heap.size) (hsa : szG a ≤ 1048576) (hsb : szG b ≤ 1048576) :
    Calls Tryd.prog 23 #[.int .i64 p, .agg #[.int .i64 ca, va], .agg #[.int .i64 cb, vb]] w (SRetMatrixB w (mulOkC p ca cb a b) (mulOkR p ca cb a b) (mulOkB p ca cb a b)) := by
  obtain ⟨Aa, cca, rfl⟩ := hva.len
  obtain ⟨Ab, ccb, rfl⟩ := hvb.len
  have HVA := Lib.hid hva
  have HVB := Lib.hid hvb
  have HB := Lib.hid hB
  have hla : a.length ≤ 1048576 := by unfold szG at hsa; omega
  have hlb : b.length ≤ 1048576 := by unfold szG at hsb; omega
  clear hva hvb hB
  cases hma : isMat p ca a with
  | false =>
    have HMA := Lib.hid hma
    have hok : mulOk p ca cb a b = false := by simp [mulOk, hma]
    have HE0 := Lib.hid (show mulOkC p ca cb a b = 0 by simp [mulOkC, hok])
    have HE1 := Lib.hid (show mulOkR p ca cb a b = [] by simp [mulOkR, hok])
    have HE2 := Lib.hid (show mulOkB p ca cb a b = false by simp [mulOkB, hok])
    have HOK := ()
    clear HOK
    clear hok hma
    go_enter Tryd.func23, Tryd.ntmps23
    go_wp2_with fail
    refine (mxGood_any _ B _ p ca a (HVA.out.below (B' := w.heap.size) (by repeat' (first | exact Below.refl _ _ | apply Below.drew | apply Below.setCell | apply Below.alloc | (simp; done) | omega | (simp; omega))) HB.out).1 (by have := HB.out; simp; omega) HVA.out.2.1 HVA.out.2.2).mono ?_
    rintro e w1 ⟨rfl, bb⟩
    rw [HMA.out]
    obtain ⟨xa, xb, xr, xn⟩ := boxes3 bb rfl
    have HXA := Lib.hid xa
    have HXB := Lib.hid xb
    have HR := Lib.hid xr
    have HBN := Lib.hid xn
    clear xa xb xr xn bb
    obtain ⟨hax0, hax1, haxf0, haxf1, haxs⟩ := HXA.out.two
    obtain ⟨hbx0, hbx1, hbxf0, hbxf1, hbxs⟩ := HXB.out.two
    obtain ⟨hrx0, hrx1, hrxf0, hrxf1, hrxs⟩ := HR.out.two
    go_wp2
    refine bodyPost_ret (v := .tuple #[.agg #[.int .i64 0, .slice none 0 0], .bool false]) (by simp [results, Tryd.results23, go_sem, hrx0, hrx1]) rfl ?_
    rw [HE0.out, HE1.out, HE2.out]
    exact ⟨_, rfl, (by refine Below.trans HBN.out ?_; repeat' (first | exact Below.refl _ _ | apply Below.drew | apply Below.setCell | apply Below.alloc | (simp; done) | omega | (simp; omega))), ⟨none, 0, rfl, Or.inl rfl⟩, by simp [szG, tot]⟩
  | true =>
    cases hmb : isMat p cb b with
    | false =>
      have HMA := Lib.hid hma
      have HMB := Lib.hid hmb
      have hok : mulOk p ca cb a b = false := by simp [mulOk, hma, hmb]
      have HE0 := Lib.hid (show mulOkC p ca cb a b = 0 by simp [mulOkC, hok])
      have HE1 := Lib.hid (show mulOkR p ca cb a b = [] by simp [mulOkR, hok])
      have HE2 := Lib.hid (show mulOkB p ca cb a b = false by simp [mulOkB, hok])
      have HOK := ()
      clear HOK
      clear hok hma hmb
      go_enter Tryd.func23, Tryd.ntmps23
      go_wp2_with fail
      refine (mxGood_any _ B _ p ca a (HVA.out.below (B' := w.heap.size) (by repeat' (first | exact Below.refl _ _ | apply Below.drew | apply Below.setCell | apply Below.alloc | (simp; done) | omega | (simp; omega))) HB.out).1 (by have := HB.out; simp; omega) HVA.out.2.1 HVA.out.2.2).mono ?_
      rintro e w1 ⟨rfl, bb⟩
      rw [HMA.out]
      obtain ⟨xa, xb, xr, xn⟩ := boxes3 bb rfl
      have HXA := Lib.hid xa
      have HXB := Lib.hid xb
      have HR := Lib.hid xr
      have HBN := Lib.hid xn
      clear xa xb xr xn bb
      obtain ⟨hax0, hax1, haxf0, haxf1, haxs⟩ := HXA.out.two
      obtain ⟨hbx0, hbx1, hbxf0, hbxf1, hbxs⟩ := HXB.out.two
      obtain ⟨hrx0, hrx1, hrxf0, hrxf1, hrxs⟩ := HR.out.two
      go_wp2_with fail
      refine (mxGood_any _ B _ p cb b ((HVB.out.below HBN.out HB.out).below (B' := w1.heap.size) (by repeat' (first | exact Below.refl _ _ | apply Below.drew | apply Below.setCell | apply Below.alloc | (simp; done) | omega | (simp; omega))) (Nat.le_trans HB.out HBN.out.size)).1 (Nat.le_trans HB.out HBN.out.size) HVB.out.2.1 HVB.out.2.2).mono ?_
      rintro e w2 ⟨rfl, bb⟩
      rw [HMB.out]
      have hlt0 := HXA.out.lt
      have hlt1 := HXB.out.lt
      have hlt2 := HR.out.lt
      replace HXA := Lib.hid (HXA.out.below bb (by (try simp); omega))
      replace HXB := Lib.hid (HXB.out.below bb (by (try simp); omega))
      replace HR := Lib.hid (HR.out.below bb (by (try simp); omega))
      replace HBN := Lib.hid (HBN.out.trans (bb.mono HBN.out.size))
      clear bb hlt0 hlt1 hlt2 hax0 hax1 haxf0 haxf1 haxs hbx0 hbx1 hbxf0 hbxf1 hbxs hrx0 hrx1 hrxf0 hrxf1 hrxs
      obtain ⟨hax0, hax1, haxf0, haxf1, haxs⟩ := HXA.out.two
      obtain ⟨hbx0, hbx1, hbxf0, hbxf1, hbxs⟩ := HXB.out.two
      obtain ⟨hrx0, hrx1, hrxf0, hrxf1, hrxs⟩ := HR.out.two
      go_wp2
      refine bodyPost_ret (v := .tuple #[.agg #[.int .i64 0, .slice none 0 0], .bool false]) (by simp [results, Tryd.results23, go_sem, hrx0, hrx1]) rfl ?_
      rw [HE0.out, HE1.out, HE2.out]
      exact ⟨_, rfl, (by refine Below.trans HBN.out ?_; repeat' (first | exact Below.refl _ _ | apply Below.drew | apply Below.setCell | apply Below.alloc | (simp; done) | omega | (simp; omega))), ⟨none, 0, rfl, Or.inl rfl⟩, by simp [szG, tot]⟩
    | true =>
      have HMA := Lib.hid hma
      have HMB := Lib.hid hmb
      by_cases hdim : ca = b.length
      rotate_left
      · have hq : ((ca : Int) != b.length) = true := by simp; omega
        have hok : mulOk p ca cb a b = false := by simp [mulOk, hdim]
        have HE0 := Lib.hid (show mulOkC p ca cb a b = 0 by simp [mulOkC, hok])
        have HE1 := Lib.hid (show mulOkR p ca cb a b = [] by simp [mulOkR, hok])
        have HE2 := Lib.hid (show mulOkB p ca cb a b = false by simp [mulOkB, hok])
        have HOK := ()
        clear HOK
        clear hok hma hmb hdim 
        go_enter Tryd.func23, Tryd.ntmps23
        go_wp2_with fail
        refine (mxGood_any _ B _ p ca a (HVA.out.below (B' := w.heap.size) (by repeat' (first | exact Below.refl _ _ | apply Below.drew | apply Below.setCell | apply Below.alloc | (simp; done) | omega | (simp; omega))) HB.out).1 (by have := HB.out; simp; omega) HVA.out.2.1 HVA.out.2.2).mono ?_
        rintro e w1 ⟨rfl, bb⟩
        rw [HMA.out]
        obtain ⟨xa, xb, xr, xn⟩ := boxes3 bb rfl
        have HXA := Lib.hid xa
        have HXB := Lib.hid xb
        have HR := Lib.hid xr
        have HBN := Lib.hid xn
        clear xa xb xr xn bb
        obtain ⟨hax0, hax1, haxf0, haxf1, haxs⟩ := HXA.out.two
        obtain ⟨hbx0, hbx1, hbxf0, hbxf1, hbxs⟩ := HXB.out.two
        obtain ⟨hrx0, hrx1, hrxf0, hrxf1, hrxs⟩ := HR.out.two
        go_wp2_with fail
        refine (mxGood_any _ B _ p cb b ((HVB.out.below HBN.out HB.out).below (B' := w1.heap.size) (by repeat' (first | exact Below.refl _ _ | apply Below.drew | apply Below.setCell | apply Below.alloc | (simp; done) | omega | (simp; omega))) (Nat.le_trans HB.out HBN.out.size)).1 (Nat.le_trans HB.out HBN.out.size) HVB.out.2.1 HVB.out.2.2).mono ?_
        rintro e w2 ⟨rfl, bb⟩
        rw [HMB.out]
        have hlt0 := HXA.out.lt
        have hlt1 := HXB.out.lt
        have hlt2 := HR.out.lt
        replace HXA := Lib.hid (HXA.out.below bb (by (try simp); omega))
        replace HXB := Lib.hid (HXB.out.below bb (by (try simp); omega))
        replace HR := Lib.hid (HR.out.below bb (by (try simp); omega))
        replace HBN := Lib.hid (HBN.out.trans (bb.mono HBN.out.size))
        clear bb hlt0 hlt1 hlt2 hax0 hax1 haxf0 haxf1 haxs hbx0 hbx1 hbxf0 hbxf1 hbxs hrx0 hrx1 hrxf0 hrxf1 hrxs
        obtain ⟨hax0, hax1, haxf0, haxf1, haxs⟩ := HXA.out.two
        obtain ⟨hbx0, hbx1, hbxf0, hbxf1, hbxs⟩ := HXB.out.two
        obtain ⟨hrx0, hrx1, hrxf0, hrxf1, hrxs⟩ := HR.out.two
        go_wp2
        refine bodyPost_ret (v := .tuple #[.agg #[.int .i64 0, .slice none 0 0], .bool false]) (by simp [results, Tryd.results23, go_sem, hrx0, hrx1]) rfl ?_
        rw [HE0.out, HE1.out, HE2.out]
        exact ⟨_, rfl, (by refine Below.trans HBN.out ?_; repeat' (first | exact Below.refl _ _ | apply Below.drew | apply Below.setCell | apply Below.alloc | (simp; done) | omega | (simp; omega))), ⟨none, 0, rfl, Or.inl rfl⟩, by simp [szG, tot]⟩
      have hok : mulOk p ca cb a b = true := by unfold mulOk; rw [hma, hmb]; simp; omega
      have HE2 := Lib.hid (show mulOkB p ca cb a b = true by simp [mulOkB, hok])
      obtain ⟨hf, hn24a, ka, rfl, hka, hmata⟩ := (isMat_iff _ _ _).1 hma
      obtain ⟨-, hn24b, kb, rfl, hkb, hmatb⟩ := (isMat_iff _ _ _).1 hmb
      obtain ⟨hp2, hp97⟩ := fld_bd hf
      have hq_hdim : ((ka : Int) != b.length) = false := by simp; omega
      have Hhdim := Lib.hid (show ka = b.length by omega)
      clear hdim
      have HE0 := Lib.hid (show mulOkC p ka kb a b = kb by simp [mulOkC, hok])
      have HE1 := Lib.hid (show mulOkR p ka kb a b = mmul p kb a b by simp [mulOkR, hok])
      have HMTA := Lib.hid hmata
      have HMTB := Lib.hid hmatb
      clear hmata hmatb hf
      clear hok hma hmb
      go_enter Tryd.func23, Tryd.ntmps23
      go_wp2_with fail
      refine (mxGood_any _ B _ p ka a (HVA.out.below (B' := w.heap.size) (by repeat' (first | exact Below.refl _ _ | apply Below.drew | apply Below.setCell | apply Below.alloc | (simp; done) | omega | (simp; omega))) HB.out).1 (by have := HB.out; simp; omega) HVA.out.2.1 HVA.out.2.2).mono ?_
      rintro e w1 ⟨rfl, bb⟩
      rw [HMA.out]
      obtain ⟨xa, xb, xr, xn⟩ := boxes3 bb rfl
      have HXA := Lib.hid xa
      have HXB := Lib.hid xb
      have HR := Lib.hid xr
      have HBN := Lib.hid xn
      clear xa xb xr xn bb
      obtain ⟨hax0, hax1, haxf0, haxf1, haxs⟩ := HXA.out.two
      obtain ⟨hbx0, hbx1, hbxf0, hbxf1, hbxs⟩ := HXB.out.two
      obtain ⟨hrx0, hrx1, hrxf0, hrxf1, hrxs⟩ := HR.out.two
      go_wp2_with fail
      refine (mxGood_any _ B _ p kb b ((HVB.out.below HBN.out HB.out).below (B' := w1.heap.size) (by repeat' (first | exact Below.refl _ _ | apply Below.drew | apply Below.setCell | apply Below.alloc | (simp; done) | omega | (simp; omega))) (Nat.le_trans HB.out HBN.out.size)).1 (Nat.le_trans HB.out HBN.out.size) HVB.out.2.1 HVB.out.2.2).mono ?_
      rintro e w2 ⟨rfl, bb⟩
      rw [HMB.out]
      have hlt0 := HXA.out.lt
      have hlt1 := HXB.out.lt
      have hlt2 := HR.out.lt
      replace HXA := Lib.hid (HXA.out.below bb (by (try simp); omega))
      replace HXB := Lib.hid (HXB.out.below bb (by (try simp); omega))
      replace HR := Lib.hid (HR.out.below bb (by (try simp); omega))
      replace HBN := Lib.hid (HBN.out.trans (bb.mono HBN.out.size))
      clear bb hlt0 hlt1 hlt2 hax0 hax1 haxf0 haxf1 haxs hbx0 hbx1 hbxf0 hbxf1 hbxs hrx0 hrx1 hrxf0 hrxf1 hrxs
      obtain ⟨hax0, hax1, haxf0, haxf1, haxs⟩ := HXA.out.two
      obtain ⟨hbx0, hbx1, hbxf0, hbxf1, hbxs⟩ := HXB.out.two
      obtain ⟨hrx0, hrx1, hrxf0, hrxf1, hrxs⟩ := HR.out.two
      go_wp2_with fail
      have hsz2 := HBN.out.size
      refine (mxMul_any _ B _ _ p _ kb a b ((HVA.out.below HBN.out HB.out).below (B' := w2.heap.size) (by repeat' (first | exact Below.refl _ _ | apply Below.drew | apply Below.setCell | apply Below.alloc | (simp; done) | omega | (simp; omega))) (Nat.le_trans HB.out HBN.out.size)).1 ((HVB.out.below HBN.out HB.out).below (B' := w2.heap.size) (by repeat' (first | exact Below.refl _ _ | apply Below.drew | apply Below.setCell | apply Below.alloc | (simp; done) | omega | (simp; omega))) (Nat.le_trans HB.out HBN.out.size)).1 (by have := HB.out; (try simp); omega) hp2 hp97 (by omega) (by omega) (by omega) (fun r hr => ⟨by rw [(HMTA.out.2 r hr).1, Hhdim.out], (HMTA.out.2 r hr).2⟩) HMTB.out.2).mono ?_
      rintro e w3 h
      obtain ⟨Am, cm, rfl, hb, ho⟩ := h.at
      clear h
      rw [mmul_len] at ho ⊢
      have hlt2 := HR.out.lt
      replace HR := Lib.hid (HR.out.below hb (by (try simp); omega))
      have HB3 := Lib.hid (HBN.out.trans (hb.mono HBN.out.size))
      have HO := Lib.hid ho
      have hsz3 := hb.size
      clear hb ho hax0 hax1 haxf0 haxf1 haxs hbx0 hbx1 hbxf0 hbxf1 hbxs hrx0 hrx1 hrxf0 hrxf1 hrxs
      obtain ⟨hrx0, hrx1, hrxf0, hrxf1, hrxs⟩ := HR.out.two
      go_wp2
      refine bodyPost_ret (v := .tuple #[.agg #[.int .i64 kb, .slice Am a.length cm], .bool true]) (by simp [results, Tryd.results23, go_sem, hrx0, hrx1]) rfl ?_
      rw [HE0.out, HE1.out, HE2.out]
      refine ⟨_, rfl, (by refine Below.trans HB3.out ?_; repeat' (first | exact Below.refl _ _ | apply Below.drew | apply Below.setCell | apply Below.alloc | (simp; done) | omega | (simp; omega))), (HO.out.blocks (fun q h _ => ?_)).mono (fun q h _ => by omega), ?_⟩
      · rw [blk_setCell_other _ _ _ _ (by simp; omega), blk_setCell_other _ _ _ _ (by simp; omega)]
      · have h3 : tot (mmul p kb a b) = a.length * kb := by rw [tot_const (c := kb) (fun r hr => ((mmul_mat hp2 kb a b).2 r hr).1), mmul_len]
        have h4 : a.length * kb ≤ 24 * 24 := Nat.mul_le_mul hn24a hkb
        unfold szG
        rw [h3, mmul_len]
        omega
end Go.Proofs.YtdeabimojadgaaaDoor

/- The orthogonal of a relation: the program's function. -/
import Derived.Test.YtiiloioobmkicaaDoorOrtI
import Derived.Test.YtiiloioobmkicaaDoorIsRl
import Derived.Test.YtiiloioobmkicaaDoorSpOrth
import Derived.Test.YtiiloioobmkicaaDoorNullB
import Derived.Deep.Cut
import Derived.Deep.RegionWith
namespace Go.Proofs.YtiiloioobmkicaaDoor
set_option maxRecDepth 100000
open Go Go.RowKit Go.Deep

/-- Behind the call that makes the orthogonal space: the boxes, the space in a box of its own. -/
structure OrSt (w wc : World) (nb : Nat) (p : Int) (l r : Nat) (A1 : Option Addr) (n1 c1 : Nat) (N : List (List Int)) (A : Option Addr) (c : Nat) : Prop where
  bel : Below w.heap.size w wc
  bp : CellsAt wc w.heap.size 3 [.int .i64 p]
  br : CellsAt wc (w.heap.size + 1) tRl [.int .i64 l, .int .i64 r, .slice A1 n1 c1]
  by' : CellsAt wc (w.heap.size + 1 + 1) tRl [.int .i64 0, .int .i64 0, .slice none 0 0]
  bn : CellsAt wc nb tSp [.int .i64 ((l : Int) + r), .slice A N.length c]
  hn : w.heap.size + 3 ≤ nb
  rd : RdG wc wc.heap.size (.slice A N.length c) N
theorem cells_of_block {w : World} {k : Nat} {vs : Array Value} {t : TypeId} (h : w.heap[k]? = some (.cells vs t (0, 0))) : CellsAt w k t vs.toList := ⟨vs, h, by simp, fun j _ => by simp⟩
theorem mapOrth_any (w : World) (B b3 b4 : Nat) (v : Value) (A1 : Option Addr) (n1 c1 : Nat) (p : Int) (l : Nat) (r : Int) (c : Nat) (R : List (List Int)) (h3 : CellsAt w b3 3 [.int .i64 p]) (h4 : CellsAt w b4 tRl [.int .i64 l, .int .i64 r, .slice A1 n1 c1]) (hv : RdG w B v R) (hB : B ≤ w.heap.size) (hn : R.length ≤ 1000000)
    (h1 : 2 ≤ p) (h2 : p ≤ 97) (hR : Mat p R.length c R) (hl : l ≤ c) (hc : c ≤ 1000) :
    Calls Tryd.prog 53 #[v, .func (.func 72) #[] #[.pointer (some ⟨b4, 0, none⟩), .pointer (some ⟨b3, 0, none⟩)]] w (MapB w (negs p l R)) :=
  map_orth w B v R (negs p l R) _ _ hv hB hn (negs_len p l R) fun W j u hb hs hj hu => by
    rw [negs_row hj]
    exact (orthLit_any W B b3 b4 A1 n1 c1 u p l r c _ (h3.below hb h3.lt) (h4.below hb h4.lt) hu (by omega) h1 h2 (hR.row hj) hl hc).mono fun e w' ⟨v', he, hb', ho⟩ => ⟨v', he, hb', ho.read.mono fun q hq => ⟨by omega, hq.2⟩⟩
/-- A new box for a space, behind a call. -/
theorem spbox {w1 w2 : World} (b : Below (w1.alloc (.cells #[.int .i64 0, .slice none 0 0] tSp)).heap.size (w1.alloc (.cells #[.int .i64 0, .slice none 0 0] tSp)) w2) :
    w1.heap.size < w2.heap.size ∧ w2.cell? ⟨w1.heap.size, 0, none⟩ = some (.int .i64 0) ∧ w2.cell? ⟨w1.heap.size, 1, none⟩ = some (.slice none 0 0) ∧ (∀ o, w2.frozen? ⟨w1.heap.size, o, none⟩ = false) ∧ Hid (CellsAt w2 w1.heap.size tSp [.int .i64 0, .slice none 0 0]) := by
  have h := (cellsAt_new w1 #[.int .i64 0, .slice none 0 0] tSp).below b (by rw [nblk_alloc]; omega)
  exact ⟨h.lt, h.cell (i := 0) (by simp), h.cell (i := 1) (by simp), h.frozen, Lib.hid h⟩
theorem spbox' {w1 w2 : World} (b : Below (w1.alloc (.cells #[.int .i64 0, .slice none 0 0] tSp)).drew.heap.size (w1.alloc (.cells #[.int .i64 0, .slice none 0 0] tSp)).drew w2) :
    w1.heap.size < w2.heap.size ∧ w2.cell? ⟨w1.heap.size, 0, none⟩ = some (.int .i64 0) ∧ w2.cell? ⟨w1.heap.size, 1, none⟩ = some (.slice none 0 0) ∧ (∀ o, w2.frozen? ⟨w1.heap.size, o, none⟩ = false) ∧ Hid (CellsAt w2 w1.heap.size tSp [.int .i64 0, .slice none 0 0]) :=
  spbox ⟨b.os, b.tape, b.output, b.size, b.block⟩
theorem spbox_kept {w1 w2 : World} {k : Nat} (h : Hid (CellsAt w1 k tSp [.int .i64 0, .slice none 0 0])) (b : Below w1.heap.size w1 w2) :
    k < w2.heap.size ∧ w2.cell? ⟨k, 0, none⟩ = some (.int .i64 0) ∧ w2.cell? ⟨k, 1, none⟩ = some (.slice none 0 0) ∧ (∀ o, w2.frozen? ⟨k, o, none⟩ = false) ∧ Hid (CellsAt w2 k tSp [.int .i64 0, .slice none 0 0]) := by
  have h2 := h.out.below b h.out.lt
  exact ⟨h2.lt, h2.cell (i := 0) (by simp), h2.cell (i := 1) (by simp), h2.frozen, Lib.hid h2⟩
section
variable {w W w2 : World} {p : Int} {l r : Nat} {A1 : Option Addr} {n1 c1 : Nat} {N : List (List Int)} {A2 : Option Addr} {c2 : Nat} {S : Nat → Prop}
theorem orSt_new (HVB : Below w.heap.size w W) (HZ2 : Below W.heap.size W w2) (hW1 : w.heap.size + 3 ≤ W.heap.size) (hp : CellsAt W w.heap.size 3 [.int .i64 p]) (hr : CellsAt W (w.heap.size + 1) tRl [.int .i64 l, .int .i64 r, .slice A1 n1 c1]) (hy : CellsAt W (w.heap.size + 1 + 1) tRl [.int .i64 0, .int .i64 0, .slice none 0 0])
    (o2 : OwG w2 tI tR S (.slice A2 N.length c2) N) : OrSt w (w2.alloc (.cells #[.int .i64 ((l : Int) + r), .slice A2 N.length c2] tSp)) w2.heap.size p l r A1 n1 c1 N A2 c2 :=
  have HA : Below w2.heap.size w2 (w2.alloc (.cells #[.int .i64 ((l : Int) + r), .slice A2 N.length c2] tSp)) := (Below.refl _ _).alloc (Nat.le_refl _) _
  have hs := HZ2.size
  ⟨HVB.trans ((HZ2.trans (HA.mono hs)).mono HVB.size), (hp.below HZ2 hp.lt).below HA (by omega), (hr.below HZ2 hr.lt).below HA (by omega), (hy.below HZ2 hy.lt).below HA (by omega), cellsAt_new w2 _ _, by omega, ((OwG.readB o2).below HA (Nat.le_refl _)).mono (by simp)⟩
theorem orSt_set {nb : Nat} (HVB : Below w.heap.size w W) (HZ2 : Below W.heap.size W w2) (hW1 : w.heap.size + 3 ≤ W.heap.size) (hp : CellsAt W w.heap.size 3 [.int .i64 p]) (hr : CellsAt W (w.heap.size + 1) tRl [.int .i64 l, .int .i64 r, .slice A1 n1 c1]) (hy : CellsAt W (w.heap.size + 1 + 1) tRl [.int .i64 0, .int .i64 0, .slice none 0 0])
    (hnb : W.heap.size ≤ nb) (hx : CellsAt w2 nb tSp [.int .i64 0, .slice none 0 0]) (hS : ∀ q, S q → q ≠ nb)
    (o2 : OwG w2 tI tR S (.slice A2 N.length c2) N) : OrSt w ((w2.setCell ⟨nb, 0, none⟩ (.int .i64 ((l : Int) + r))).setCell ⟨nb, 1, none⟩ (.slice A2 N.length c2)) nb p l r A1 n1 c1 N A2 c2 := by
  have hb : ∀ q, q ≠ nb → ((w2.setCell ⟨nb, 0, none⟩ (.int .i64 ((l : Int) + r))).setCell ⟨nb, 1, none⟩ (.slice A2 N.length c2)).heap[q]? = w2.heap[q]? := fun q hq => (blk_setCell_other _ _ _ _ (by dsimp only; omega)).trans (blk_setCell_other _ _ _ _ (by dsimp only; omega))
  have HB : Below nb w2 ((w2.setCell ⟨nb, 0, none⟩ (.int .i64 ((l : Int) + r))).setCell ⟨nb, 1, none⟩ (.slice A2 N.length c2)) := by repeat' (first | exact Below.refl _ _ | apply Below.setCell | exact Nat.le_refl _)
  have hs := HZ2.size
  exact ⟨HVB.trans ((HZ2.trans (HB.mono hnb)).mono HVB.size), (hp.below HZ2 hp.lt).of_block (hb _ (by omega)), (hr.below HZ2 hr.lt).of_block (hb _ (by omega)), (hy.below HZ2 hy.lt).of_block (hb _ (by omega)), (hx.set 0 _).set 1 _, by omega, OwG.readB (OwG.blocks o2 fun q hq _ => hb q (hS q hq))⟩
end
set_option maxRecDepth 100000 in
set_option maxHeartbeats 6400000 in
theorem orthRel_any (w : World) (B : Nat) (v : Value) (p : Int) (l r : Nat) (R : List (List Int)) (hv : RdG w B v R) (hB : B ≤ w.heap.size) (hf : fld p = true) (hR : IsRed p R.length (l + r) R) (hlr : l + r ≤ 24) :
    Calls Tryd.prog 39 #[.int .i64 p, .agg #[.int .i64 l, .int .i64 r, v]] w (MadeRl w l r (nullB p (negs p l R) (l + r))) := by
  obtain ⟨A1, c1, rfl⟩ := hv.len
  have hp := fld_bd hf
  have hp1 := hp.1
  have hp2 := hp.2
  have HVB := Lib.hid (show Below w.heap.size w (((w.alloc (.cells #[.int .i64 p] 3)).alloc (.cells #[.int .i64 l, .int .i64 r, .slice A1 R.length c1] tRl)).alloc (.cells #[.int .i64 0, .int .i64 0, .slice none 0 0] tRl)) by repeat' (first | exact Below.refl _ _ | apply Below.alloc | (simp; done) | (simp; omega)))
  have HV := Lib.hid (hv.below HVB.out hB)
  have hB0 : B ≤ (((w.alloc (.cells #[.int .i64 p] 3)).alloc (.cells #[.int .i64 l, .int .i64 r, .slice A1 R.length c1] tRl)).alloc (.cells #[.int .i64 0, .int .i64 0, .slice none 0 0] tRl)).heap.size := Nat.le_trans hB HVB.out.size
  have HP0 := Lib.hid (((cellsAt_new w #[.int .i64 p] 3).alloc (.cells #[.int .i64 l, .int .i64 r, .slice A1 R.length c1] tRl)).alloc (.cells #[.int .i64 0, .int .i64 0, .slice none 0 0] tRl))
  have HR0 := Lib.hid ((cellsAt_new' (w.alloc (.cells #[.int .i64 p] 3)) #[.int .i64 l, .int .i64 r, .slice A1 R.length c1] tRl _ (w.heap.size + 1) (by simp) rfl).alloc (.cells #[.int .i64 0, .int .i64 0, .slice none 0 0] tRl))
  have HY0 := Lib.hid (cellsAt_new' ((w.alloc (.cells #[.int .i64 p] 3)).alloc (.cells #[.int .i64 l, .int .i64 r, .slice A1 R.length c1] tRl)) #[.int .i64 0, .int .i64 0, .slice none 0 0] tRl _ (w.heap.size + 1 + 1) (by simp) rfl)
  have hsz0 : (((w.alloc (.cells #[.int .i64 p] 3)).alloc (.cells #[.int .i64 l, .int .i64 r, .slice A1 R.length c1] tRl)).alloc (.cells #[.int .i64 0, .int .i64 0, .slice none 0 0] tRl)).heap.size = w.heap.size + 3 := by simp
  have HF := Lib.hid hf
  have HRD := Lib.hid hR
  have HC := Lib.hid (show ((l : Int) + r) = ((l + r : Nat) : Int) by omega)
  have hl0 : (0 : Int) ≤ l := by omega
  have hr0 : (0 : Int) ≤ r := by omega
  have hlrI : (l : Int) + r ≤ 24 := by omega
  clear hv hB hf hR hp
  go_enter Tryd.func39, Tryd.ntmps39
  go_upto_region 1 with fail
  generalize (((w.alloc (.cells #[.int .i64 p] 3)).alloc (.cells #[.int .i64 l, .int .i64 r, .slice A1 R.length c1] tRl)).alloc (.cells #[.int .i64 0, .int .i64 0, .slice none 0 0] tRl)) = W at HVB HV hB0 HP0 HR0 HY0 hsz0 ⊢
  have hW1 : w.heap.size + 3 ≤ W.heap.size := by omega
  clear hsz0
  have hx := HR0.out.three
  have hq := HP0.out.cell (i := 0) (by simp)
  have HELD : Hid (∀ w' : World, Hid (Below W.heap.size W w') → w'.cell? ⟨w.heap.size, 0, none⟩ = some (.int .i64 p) ∧ w'.cell? ⟨w.heap.size + 1, 0, none⟩ = some (.int .i64 l) ∧ w'.cell? ⟨w.heap.size + 1, 1, none⟩ = some (.int .i64 r) ∧ w'.cell? ⟨w.heap.size + 1, 2, none⟩ = some (.slice A1 R.length c1)) := Lib.hid (fun w' H => ⟨(H.out.cell (p := ⟨w.heap.size, 0, none⟩) (by dsimp only; omega)).trans hq, (H.out.cell (p := ⟨w.heap.size + 1, 0, none⟩) (by dsimp only; omega)).trans hx.1, (H.out.cell (p := ⟨w.heap.size + 1, 1, none⟩) (by dsimp only; omega)).trans hx.2.1, (H.out.cell (p := ⟨w.heap.size + 1, 2, none⟩) (by dsimp only; omega)).trans hx.2.2.1⟩)
  have HELD0 := Lib.hid (show W.drew.cell? ⟨w.heap.size, 0, none⟩ = some (.int .i64 p) ∧ W.drew.cell? ⟨w.heap.size + 1, 0, none⟩ = some (.int .i64 l) ∧ W.drew.cell? ⟨w.heap.size + 1, 1, none⟩ = some (.int .i64 r) ∧ W.drew.cell? ⟨w.heap.size + 1, 2, none⟩ = some (.slice A1 R.length c1) from HELD.out W (Lib.hid (Below.refl _ _)))
  obtain ⟨hq0, hq1, hq2, hq3⟩ := HELD.out W (Lib.hid (Below.refl _ _))
  clear hx hq
  go_cut [5] from 11 (fun s5 wc => ∃ (nb : Nat) (A : Option Addr) (c : Nat), s5 = .pointer (some ⟨nb, 0, none⟩) ∧ Hid (OrSt w wc nb p l r A1 R.length c1 (nullB p R (l + r)) A c))
  case first =>
    go_region_held3 (fun w' => w'.cell? ⟨w.heap.size, 0, none⟩ = some (.int .i64 p) ∧ w'.cell? ⟨w.heap.size + 1, 0, none⟩ = some (.int .i64 l) ∧ w'.cell? ⟨w.heap.size + 1, 1, none⟩ = some (.int .i64 r) ∧ w'.cell? ⟨w.heap.size + 1, 2, none⟩ = some (.slice A1 R.length c1))
      (first | with_reducible exact HELD0.out | with_reducible exact HELD1.out | with_reducible exact HELD2.out | exact HELD.out _ (Lib.hid (by repeat' (first | exact HZ2.out | exact HZ1.out | exact Below.refl _ _ | apply Below.drew | apply Below.setCell | apply Below.alloc | (simp; done) | omega | (simp; omega)))) | fail)
      (first
        | (go_at_call 70; go_split_ands; refine (pairs_any _ A1 R.length c1 l r hl0 hr0 hlrI).mono ?_; rintro e w1 ⟨rfl, b1⟩; have hst1 : Below W.heap.size W w1 := Below.trans (by first | exact (Below.refl _ _).drew | exact ((Below.refl _ _).alloc (Nat.le_refl _) _).drew) (b1.mono (Below.size (B := W.heap.size) (by first | exact (Below.refl _ _).drew | exact ((Below.refl _ _).alloc (Nat.le_refl _) _).drew))); have HZ1 := Lib.hid hst1; have hz1 : W.heap.size ≤ w1.heap.size := hst1.size; have HELD1 := Lib.hid (HELD.out w1 HZ1); (try (first | (have hsb := spbox b1; obtain ⟨hbl, hb0, hb1, hbf, HBX⟩ := hsb) | (have hsb := spbox' b1; obtain ⟨hbl, hb0, hb1, hbf, HBX⟩ := hsb) | fail)))
        | (go_at_call 71; go_split_ands; rw [HC.out]; refine (orthogonalOf_any _ B _ p (l + r) R (HV.out.below (by first | exact HZ1.out | exact HZ1.out.alloc hz1 _) hB0) (Nat.le_trans hB0 (Below.size (B := W.heap.size) (by first | exact HZ1.out | exact HZ1.out.alloc hz1 _))) HF.out HRD.out (by omega)).mono ?_; rintro e w2 ⟨v2, rfl, b2, o2⟩; obtain ⟨A2, c2, rfl⟩ := OwG.len o2; have hst2 : Below W.heap.size W w2 := Below.trans (by first | exact HZ1.out | exact HZ1.out.alloc hz1 _) (b2.mono (Below.size (B := W.heap.size) (by first | exact HZ1.out | exact HZ1.out.alloc hz1 _))); have HZ2 := Lib.hid hst2; have HELD2 := Lib.hid (HELD.out w2 HZ2); have hz2 : w1.heap.size ≤ w2.heap.size := (by first | exact b2.size | (have := b2.size; simp at this; omega)); (try (first | (have hsb := spbox b2; obtain ⟨hbl2, hb20, hb21, hb2f, HBX2⟩ := hsb) | (have hsb := spbox_kept HBX b2; obtain ⟨hbl2, hb20, hb21, hb2f, HBX2⟩ := hsb) | fail)))
        | fail)
    all_goals go_wp2_with fail
    all_goals go_meet
    all_goals first
      | exact ⟨_, A2, c2, rfl, Lib.hid (orSt_new HVB.out HZ2.out hW1 HP0.out HR0.out HY0.out o2)⟩
      | exact ⟨_, A2, c2, rfl, Lib.hid (orSt_set HVB.out HZ2.out hW1 HP0.out HR0.out HY0.out hz1 HBX2.out (fun q hq => by simp at hq; omega) o2)⟩
      | exact ⟨_, A2, c2, rfl, Lib.hid (orSt_set HVB.out HZ2.out hW1 HP0.out HR0.out HY0.out (Nat.le_refl _) HBX2.out (fun q hq => by have h1 : w1.heap.size ≤ q := hq; omega) o2)⟩
      | fail
  case rest =>
    obtain ⟨nb, A, c, rfl, H⟩ := hcut
    clear hq0 hq1 hq2 hq3 HELD HELD0 HP0 HR0 HY0 HV hB0 hW1 HVB
    have HNM := Lib.hid (nullB_mat HF.out (c := l + r) R)
    have HEQ := Lib.hid (ort_neg (l := l) HF.out HRD.out.mat (nullB_mat HF.out (c := l + r) R))
    have hln := nullB_le HF.out (c := l + r) R
    generalize nullB p R (l + r) = N at H HNM HEQ hln
    obtain ⟨hn0, hn1, hnf0, hnf1, hns⟩ := H.out.bn.two
    go_wp2_with fail
    refine (mapOrth_any wc wc.heap.size w.heap.size (w.heap.size + 1) _ A1 R.length c1 p l r (l + r) N H.out.bp H.out.br H.out.rd (Nat.le_refl _) (by omega) hp1 hp2 HNM.out (by omega) (by omega)).mono ?_
    rintro e w3 ⟨v3, rfl, b3, o3⟩
    obtain ⟨A3, c3, rfl⟩ := RdG.len o3
    have HP3 := Lib.hid (H.out.bp.below b3 H.out.bp.lt)
    have HR3 := Lib.hid (H.out.br.below b3 H.out.br.lt)
    have HY3 := Lib.hid (H.out.by'.below b3 H.out.by'.lt)
    have HB3 := Lib.hid (H.out.bel.trans (b3.mono H.out.bel.size))
    have HO3 := Lib.hid o3
    clear b3 o3 hn0 hn1 hnf0 hnf1 hns H
    have hp0 := HP3.out.cell (i := 0) (by simp)
    obtain ⟨hx0, hx1, hx2, hxf0, hxf1, hxf2, hxs⟩ := HR3.out.three
    go_wp2_with fail
    refine (relationOf_any w3 w3.heap.size _ p N.length l r (negs p l N) HO3.out (Nat.le_refl _) HF.out (negs_mat hp1 HNM.out) (by omega) (by omega)).mono ?_
    rintro e w4 ⟨v4, rfl, b4, o4⟩
    obtain ⟨A4, c4, rfl⟩ := OwG.len o4
    have hs3 : w.heap.size ≤ w3.heap.size := HB3.out.size
    have hys3 := HY3.out.lt
    have HB4 := Lib.hid (HB3.out.trans (b4.mono hs3))
    have HO4 := Lib.hid o4
    have HY4 := Lib.hid (HY3.out.below b4 hys3)
    clear b4 o4 hp0 hx0 hx1 hx2 hxf0 hxf1 hxf2 hxs
    obtain ⟨hy0, hy1, hy2, hyf0, hyf1, hyf2, hys⟩ := HY4.out.three
    go_wp2
    refine bodyPost_ret (v := .agg #[.int .i64 l, .int .i64 r, .slice A4 (rref p (negs p l N) (l + r)).length c4]) (by simp [results, Tryd.results39, go_sem, hy0, hy1, hy2]) rfl ?_
    rw [← HEQ.out]
    refine ⟨_, rfl, (by refine Below.trans HB4.out ?_; repeat' (first | exact Below.refl _ _ | apply Below.drew | apply Below.setCell | apply Below.alloc | (simp; done) | omega | (simp; omega))), (HO4.out.blocks (fun q hq _ => ?_)).mono (fun q hq _ => by omega)⟩
    repeat rw [blk_setCell_other _ _ _ _ (by dsimp only; omega)]
end Go.Proofs.YtiiloioobmkicaaDoor

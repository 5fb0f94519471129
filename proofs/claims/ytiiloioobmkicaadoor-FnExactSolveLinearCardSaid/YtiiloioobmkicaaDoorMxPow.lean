/- Powers of matrices: both sides. -/
import Derived.Test.YtiiloioobmkicaaDoorMxSq
import Derived.Test.YtiiloioobmkicaaDoorMxMul2
import Derived.Test.YtiiloioobmkicaaDoorRetMatrixB
import Derived.Deep.Cut
import Derived.Deep.RegionHeld3
namespace Go.Proofs.YtiiloioobmkicaaDoor
set_option maxRecDepth 100000
open Go Go.RowKit Go.Deep

/-- acc times the power n of m, with fuel, by squares. -/
def mpowF (p : Int) (c : Nat) : Nat → List (List Int) → List (List Int) → Nat → List (List Int)
  | 0, acc, _, _ => acc
  | f + 1, acc, m, n => if n = 0 then acc else mpowF p c f (if n % 2 = 1 then mmul p c acc m else acc) (mmul p c m m) (n / 2)
theorem mpowF_zero (p : Int) (c f : Nat) (acc m : List (List Int)) : mpowF p c f acc m 0 = acc := by cases f <;> simp [mpowF]
theorem mpowF_succ {p : Int} {c f : Nat} {acc m : List (List Int)} {n : Nat} (hn : 0 < n) : mpowF p c (f + 1) acc m n = mpowF p c f (if n % 2 = 1 then mmul p c acc m else acc) (mmul p c m m) (n / 2) := by
  rw [mpowF, if_neg (by omega)]
theorem mpowF_mat {p : Int} (hp : 2 ≤ p) {c : Nat} : ∀ (f : Nat) (acc m : List (List Int)) (n : Nat), Mat p c c acc → Mat p c c m → Mat p c c (mpowF p c f acc m n)
  | 0, acc, _, _, h, _ => h
  | f + 1, acc, m, n, h, hm => by
    rw [mpowF]
    split
    · exact h
    · have h2 := mmul_mat hp c m m
      rw [hm.1] at h2
      refine mpowF_mat hp f _ _ _ ?_ h2
      split
      · have h3 := mmul_mat hp c acc m
        rw [h.1] at h3
        exact h3
      · exact h
/-- A matrix that is read: it came in, or is the call's own, apart from the box nb. -/
def RO (w : World) (B lo nb : Nat) (v : Value) (rows : List (List Int)) : Prop := RdG w B v rows ∨ OwG w tI tR (fun q => lo ≤ q ∧ q ≠ nb) v rows
theorem RO.rd {w : World} {B lo nb : Nat} {v : Value} {rows : List (List Int)} (h : RO w B lo nb v rows) (hB : B ≤ w.heap.size) : RdG w w.heap.size v rows := by
  rcases h with h | h
  · exact h.mono hB
  · exact h.readB
theorem RO.blocks {w w' : World} {B lo nb : Nat} {v : Value} {rows : List (List Int)} (h : RO w B lo nb v rows) (hB : Below B w w') (hb : ∀ q, lo ≤ q → q ≠ nb → q < w.heap.size → w'.heap[q]? = w.heap[q]?) : RO w' B lo nb v rows := by
  rcases h with h | h
  · exact Or.inl (h.below hB (Nat.le_refl _))
  · exact Or.inr (h.blocks fun q hq hl => hb q hq.1 hq.2 hl)
/-- The loop's state: the boxes of m and of the power, and what they hold. -/
structure PowSt (w wr : World) (B nb : Nat) (c : Int) (va vm : Value) (acc mm : List (List Int)) : Prop where
  bel : Below w.heap.size w wr
  bB : B ≤ w.heap.size
  hi : w.heap.size + 2 ≤ nb
  bm : CellsAt wr w.heap.size tM [.int .i64 c, vm]
  br : CellsAt wr (w.heap.size + 1) tM [.int .i64 0, .slice none 0 0]
  bp : CellsAt wr nb tM [.int .i64 c, va]
  oa : OwG wr tI tR (fun q => w.heap.size + 2 ≤ q ∧ q ≠ nb) va acc
  om : RO wr B (w.heap.size + 2) nb vm mm
theorem PowSt.prod1 {w wr w2 : World} {B nb : Nat} {c : Int} {va vm v2 : Value} {acc mm acc2 : List (List Int)} (h : PowSt w wr B nb c va vm acc mm) (hb : Below wr.heap.size wr w2) (ho : OwG w2 tI tR (fun q => wr.heap.size ≤ q) v2 acc2) :
    PowSt w ((w2.setCell ⟨nb, 0, none⟩ (.int .i64 c)).setCell ⟨nb, 1, none⟩ v2) B nb c v2 vm acc2 mm := by
  have hn := h.bp.lt
  have hw := h.bel.size
  have hi := h.hi
  have hB := h.bB
  refine ⟨((h.bel.trans (hb.mono hw)).setCell (by dsimp only; omega) _).setCell (by dsimp only; omega) _, h.bB, h.hi, ((h.bm.below hb h.bm.lt).setOther (by dsimp only; omega) _).setOther (by dsimp only; omega) _, ((h.br.below hb h.br.lt).setOther (by dsimp only; omega) _).setOther (by dsimp only; omega) _, ((h.bp.below hb h.bp.lt).set 0 _).set 1 _, ?_, ?_⟩
  · refine (ho.blocks (fun q hq _ => ?_)).mono (fun q hq _ => by omega)
    rw [blk_setCell_other _ _ _ _ (by dsimp only; omega), blk_setCell_other _ _ _ _ (by dsimp only; omega)]
  · refine h.om.blocks (((hb.mono (by omega)).setCell (by dsimp only; omega) _).setCell (by dsimp only; omega) _) (fun q h1 h2 hl => ?_)
    rw [blk_setCell_other _ _ _ _ (by dsimp only; omega), blk_setCell_other _ _ _ _ (by dsimp only; omega)]
    exact hb.block q hl
theorem PowSt.prod2 {w wr w2 : World} {B nb : Nat} {c : Int} {va vm v2 : Value} {acc mm mm2 : List (List Int)} (h : PowSt w wr B nb c va vm acc mm) (hb : Below wr.heap.size wr w2) (ho : OwG w2 tI tR (fun q => wr.heap.size ≤ q) v2 mm2) :
    PowSt w ((w2.setCell ⟨w.heap.size, 0, none⟩ (.int .i64 c)).setCell ⟨w.heap.size, 1, none⟩ v2) B nb c va v2 acc mm2 := by
  have hn := h.bp.lt
  have hw := h.bel.size
  have hi := h.hi
  have hB := h.bB
  refine ⟨((h.bel.trans (hb.mono hw)).setCell (by dsimp only; omega) _).setCell (by dsimp only; omega) _, h.bB, h.hi, ((h.bm.below hb h.bm.lt).set 0 _).set 1 _, ((h.br.below hb h.br.lt).setOther (by dsimp only; omega) _).setOther (by dsimp only; omega) _, ((h.bp.below hb h.bp.lt).setOther (by dsimp only; omega) _).setOther (by dsimp only; omega) _, ?_, ?_⟩
  · refine h.oa.blocks (fun q hq hl => ?_)
    rw [blk_setCell_other _ _ _ _ (by dsimp only; omega), blk_setCell_other _ _ _ _ (by dsimp only; omega)]
    exact hb.block q hl
  · refine Or.inr ((ho.blocks (fun q hq _ => ?_)).mono (fun q hq _ => by omega))
    rw [blk_setCell_other _ _ _ _ (by dsimp only; omega), blk_setCell_other _ _ _ _ (by dsimp only; omega)]
theorem cellsAt_of {w : World} {b : Nat} {c : Array Value} {t : TypeId} (h : w.heap[b]? = some (.cells c t (0, 0))) : CellsAt w b t c.toList := ⟨c, h, by simp, fun j _ => by simp⟩
def powOk (p c n : Int) (rows : List (List Int)) : Bool := isSq p c rows && decide (0 ≤ n) && decide (n ≤ 1000)
def powC (p c n : Int) (rows : List (List Int)) : Int := if powOk p c n rows then c else 0
def powR (p c n : Int) (rows : List (List Int)) : List (List Int) := if powOk p c n rows then mpowF p c.toNat n.toNat (idRows c.toNat) rows n.toNat else []
theorem powR_sz {p : Int} (hp : 2 ≤ p) {c n : Nat} {rows : List (List Int)} (hc : c ≤ 24) (h : Mat p c c rows) : szG (mpowF p c n (idRows c) rows n) ≤ 1099511627776 := by
  have h2 := mpowF_mat hp n (idRows c) rows n (idRows_mat hp c) h
  have h3 : tot (mpowF p c n (idRows c) rows n) = c * c := by rw [tot_const (c := c) (fun r hr => (h2.2 r hr).1), h2.1]
  have h4 : c * c ≤ 24 * 24 := Nat.mul_le_mul hc hc
  unfold szG
  rw [h3, h2.1]
  omega
end Go.Proofs.YtiiloioobmkicaaDoor

/- Graphs: the model's graph of a leaf. -/
import Derived.Test.YthnhholeaiojjaaGrV
namespace Go.Proofs.Ythnhholeaiojjaa
set_option maxRecDepth 100000
open Go Go.RowKit Go.Deep

/-- Rows of one's own, each in a block of its own. -/
structure Fam (w : World) (B : Nat) (vs : List Value) (rows : List (List Int)) : Prop where
  len : vs.length = rows.length
  row : ∀ r, r < rows.length → RowA w B (vs.getD r .nilFunc) (rows.getD r [])
  apart : ∀ r s, r < rows.length → s < rows.length → r ≠ s → ∀ k, (vs.getD r .nilFunc).ownBlock = some k → (vs.getD s .nilFunc).ownBlock ≠ some k
section
variable {w w' : World} {B : Nat} {vs : List Value} {rows : List (List Int)}
theorem Fam.below (h : Fam w B vs rows) (hb : Below w.heap.size w w') : Fam w' B vs rows := ⟨h.len, fun r hr => RowA.below (h.row r hr) hb, h.apart⟩
theorem Fam.alloc (h : Fam w B vs rows) (o : Obj) : Fam (w.alloc o) B vs rows := h.below ((Below.refl _ _).alloc (Nat.le_refl _) _)
theorem Fam.set (h : Fam w B vs rows) {a : Addr} (ha : a.block < B) (u : Value) : Fam (w.setCell a u) B vs rows :=
  ⟨h.len, fun r hr => ownsRow_of_block (h.row r hr) fun k hk _ => blk_setCell_other _ _ _ _ (by have := (World.ownsRow.lt (h.row r hr) k hk).1; omega), h.apart⟩
theorem Fam.push (h : Fam w B vs rows) {r : Nat} (hr : r < rows.length) {g' n cap : Nat} {xs : List Int} (hown : RowA w' B (.slice (some ⟨g', 0, none⟩) n cap) xs) (hgrow : w.grownBy w' (vs.getD r .nilFunc).ownBlock)
    (hat : (vs.getD r .nilFunc).ownBlock = some g' ∨ g' = w.heap.size) : Fam w' B (vs.set r (.slice (some ⟨g', 0, none⟩) n cap)) (rows.set r xs) := by
  have hrv : r < vs.length := by rw [h.len]; exact hr
  have hown' : ∀ i, i < rows.length → i ≠ r → ∀ k, (vs.getD i .nilFunc).ownBlock = some k → k < w.heap.size ∧ k ≠ g' ∧ w'.heap[k]? = w.heap[k]? := fun i hi hir k hk => by
    have h1 := (World.ownsRow.lt (h.row i hi) k hk).2
    refine ⟨h1, fun e => ?_, hgrow.block k h1 fun e => h.apart i r hi hr hir k hk e.symm⟩
    rcases hat with h2 | h2
    · exact h.apart i r hi hr hir k hk (e ▸ h2)
    · omega
  refine ⟨by rw [List.length_set, List.length_set, h.len], fun i hi => ?_, fun i j hi hj hij k hk => ?_⟩
  · rw [List.length_set] at hi
    rw [set_getD _ _ _ _ _ hrv, set_getD _ _ _ _ _ hr]
    by_cases c : r = i
    · rw [if_pos c, if_pos c]
      exact hown
    · rw [if_neg c, if_neg c]
      exact ownsRow_of_block (h.row i hi) fun k hk _ => (hown' i hi (fun e => c e.symm) k hk).2.2
  · rw [List.length_set] at hi hj
    rw [set_getD _ _ _ _ _ hrv] at hk ⊢
    by_cases c : r = i
    · rw [if_pos c] at hk
      rw [if_neg (by omega)]
      simp only [Value.ownBlock, Option.some.injEq] at hk
      exact fun e => (hown' j hj (by omega) k e).2.1 hk.symm
    · rw [if_neg c] at hk
      by_cases c2 : r = j
      · rw [if_pos c2]
        simp only [Value.ownBlock, ne_eq, Option.some.injEq]
        exact fun e => (hown' i hi (fun e => c e.symm) k hk).2.1 e.symm
      · rw [if_neg c2]
        exact h.apart i j hi hj hij k hk
theorem Fam.nils (w : World) (B n : Nat) : Fam w B (List.replicate n (.slice none 0 0)) (List.replicate n []) := by
  refine ⟨by simp, fun r hr => ?_, fun r s hr hs _ k hk => ?_⟩
  · rw [List.length_replicate] at hr
    rw [repl_getD' _ _ _ _ hr, repl_getD' _ _ _ _ hr]
    exact World.ownsRow_nil _ _ _ _
  · rw [List.length_replicate] at hr
    rw [repl_getD' _ _ _ _ hr] at hk
    simp [Value.ownBlock] at hk
end
def rangeI (a n : Nat) : List Int := (List.range n).map fun k : Nat => ((a + k : Nat) : Int)
theorem rangeI_len (a n : Nat) : (rangeI a n).length = n := by simp [rangeI]
theorem rangeI_next (a n : Nat) : rangeI a (n + 1) = rangeI a n ++ [((a + n : Nat) : Int)] := by simp [rangeI, List.range_succ]
theorem rowA_push {w : World} {B n : Nat} {v : Value} {xs : List Int} {y : Int} (h : w.ownsRow B tI 1 v (n + 1) (icells xs ++ [.int .i64 y])) (hn : xs.length = n) : RowA w B v (xs ++ [y]) := by
  unfold RowA
  rw [List.length_append, List.length_singleton, hn]
  simpa [icells] using h
theorem Touch.grown {S : Nat → Prop} {a b c : World} {o : Option Nat} (h : Touch S a b) (hg : b.grownBy c o) (ho : ∀ q, o = some q → a.heap.size ≤ q) : Touch S a c :=
  ⟨hg.os.trans h.os, hg.tape.trans h.tape, hg.output.trans h.output, Nat.le_trans h.size hg.size, fun k hk hs => (hg.block k (Nat.lt_of_lt_of_le hk h.size) fun e => by have := ho k e.symm; omega).trans (h.block k hk hs)⟩
theorem rangeI_zero (k : Nat) : rangeI 0 (k + 1) = rangeI 0 k ++ [(k : Int)] := by rw [rangeI_next, Nat.zero_add]
/-- The graph that a call returned. -/
def GfRet (w : World) (g : Gf) (x : Ending) (w' : World) : Prop :=
  ∃ AE cE AI cI AO cO, x = .returned (.agg #[.int .i64 g.n, .slice AE g.e.length cE, .slice AI g.i.length cI, .slice AO g.o.length cO]) ∧ Below w.heap.size w w' ∧ RdEs w' (fun q => w.heap.size ≤ q ∧ q < w'.heap.size) (.slice AE g.e.length cE) g.e ∧ RdS w' (fun q => w.heap.size ≤ q ∧ q < w'.heap.size) (.slice AI g.i.length cI) g.i ∧ RdS w' (fun q => w.heap.size ≤ q ∧ q < w'.heap.size) (.slice AO g.o.length cO) g.o
/-- The graph of wires that pass through, as a call returned it: its lists are the call's own. -/
def IdRet (w : World) (n : Nat) (x : Ending) (w' : World) : Prop :=
  ∃ A1 c1 A2 c2, x = .returned (.agg #[.int .i64 n, .slice none 0 0, .slice A1 n c1, .slice A2 n c2]) ∧ Below w.heap.size w w' ∧ OwR w' tI (fun q => w.heap.size ≤ q) (.slice A1 n c1) (rangeI 0 n) ∧ OwR w' tI (fun q => w.heap.size ≤ q) (.slice A2 n c2) (rangeI 0 n)
set_option maxRecDepth 100000 in
set_option maxHeartbeats 3200000 in
theorem hgIdO_any (w : World) (n : Nat) (hn : n ≤ 12) : Calls Try.prog 34 #[.int .i64 n] w (IdRet w n) := by
  go_enter Try.func34, Try.ntmps34
  have HC0 := Lib.hid (cellsAt_new' (w.alloc (.cells #[.int .i64 0, .slice none 0 0, .slice none 0 0, .slice none 0 0] tGf)) #[.int .i64 n, .slice none 0 0, .slice none 0 0, .slice none 0 0] tGf _ (w.heap.size + 1) (by simp) rfl)
  have HY0 := Lib.hid ((cellsAt_new w #[.int .i64 0, .slice none 0 0, .slice none 0 0, .slice none 0 0] tGf).alloc (.cells #[.int .i64 n, .slice none 0 0, .slice none 0 0, .slice none 0 0] tGf))
  have HBW := Lib.hid (show Below w.heap.size w ((w.alloc (.cells #[.int .i64 0, .slice none 0 0, .slice none 0 0, .slice none 0 0] tGf)).alloc (.cells #[.int .i64 n, .slice none 0 0, .slice none 0 0, .slice none 0 0] tGf)) by repeat' (first | exact Below.refl _ _ | apply Below.alloc | (simp; done) | (simp; omega)))
  have hsz : ((w.alloc (.cells #[.int .i64 0, .slice none 0 0, .slice none 0 0, .slice none 0 0] tGf)).alloc (.cells #[.int .i64 n, .slice none 0 0, .slice none 0 0, .slice none 0 0] tGf)).heap.size = w.heap.size + 2 := by simp
  go_wp2
  generalize ((w.alloc (.cells #[.int .i64 0, .slice none 0 0, .slice none 0 0, .slice none 0 0] tGf)).alloc (.cells #[.int .i64 n, .slice none 0 0, .slice none 0 0, .slice none 0 0] tGf)) = W at HC0 HY0 HBW hsz ⊢
  have hW : w.heap.size + 2 ≤ W.heap.size := by omega
  clear hsz
  go_loopw [4] (fun ti wr => ∃ (k : Nat) (A1 : Option Addr) (c1 : Nat) (A2 : Option Addr) (c2 : Nat), k ≤ n ∧ ti = .int .i64 k ∧ Hid (Touch (fun q => q = w.heap.size + 1) W wr) ∧ Hid (CellsAt wr (w.heap.size + 1) tGf [.int .i64 n, .slice none 0 0, .slice A1 k c1, .slice A2 k c2]) ∧ Hid (Fam wr W.heap.size [.slice A1 k c1, .slice A2 k c2] [rangeI 0 k, rangeI 0 k])) (fun ti _ => n - (intOf ti).toNat)
  case atStart => exact ⟨0, none, 0, none, 0, Nat.zero_le _, rfl, Lib.hid (Touch.refl _ _), HC0, Lib.hid (Fam.nils W W.heap.size 2)⟩
  case round =>
    obtain ⟨k, A1, c1, A2, c2, hk, rfl, HT1, HC1, HF1⟩ := hrel
    have hs1 : W.heap.size ≤ wr.heap.size := HT1.out.size
    by_cases hlt : k < n
    · obtain ⟨hx0, hx1, hx2, hx3, hxl⟩ := HC1.out.four
      have HFA := Lib.hid (HF1.out.alloc (.cells #[.int .i64 k] 3))
      have HCA := Lib.hid (HC1.out.alloc (.cells #[.int .i64 k] 3))
      have HRW := Lib.hid (show RowA (wr.alloc (.cells #[.int .i64 k] 3)) W.heap.size (.slice A1 k c1) (rangeI 0 k) from HFA.out.row 0 (by simp))
      have hB8 : W.heap.size ≤ (wr.alloc (.cells #[.int .i64 k] 3)).heap.size := by simp; omega
      have HL1 := Lib.hid (rangeI_len 0 k)
      have HTA := Lib.hid (HT1.out.alloc (.cells #[.int .i64 k] 3))
      go_upto_region 6 with (at_builtin; refine wpList_pushI rfl _ _ rfl _ W.heap.size (.slice A1 k c1) (rangeI 0 k) k _ 1 rfl HRW.out rfl (cellI_new _ _ _ _ (by simp)) hB8 (by have := HL1.out; omega) ?_; rw [HL1.out]; intro g9 cap9 w9 ho9 hgr9 hat9; have HO9 := Lib.hid ho9; have HGR := Lib.hid hgr9; have HAT := Lib.hid hat9; have HC9 := Lib.hid (HCA.out.of_block (hgr9.block _ HCA.out.lt (fun e => by have := (World.ownsRow.lt HRW.out _ e.symm).1; omega))); obtain ⟨hz0, hz1, hz2, hz3, hzl⟩ := HC9.out.four; have hzf := HC9.out.frozen 2; clear ho9 hgr9 hat9)
      have hgbW : (⟨w.heap.size + 1, 2, none⟩ : Addr).block < W.heap.size := by dsimp only; omega
      have HF6 := Lib.hid ((HFA.out.push (r := 0) (by simp) (rowA_push HO9.out HL1.out) HGR.out HAT.out).set hgbW (.slice (some ⟨g9, 0, none⟩) (k + 1) cap9))
      have HC6 := Lib.hid (show CellsAt (w9.setCell ⟨w.heap.size + 1, 2, none⟩ (.slice (some ⟨g9, 0, none⟩) (k + 1) cap9)) (w.heap.size + 1) tGf [.int .i64 n, .slice none 0 0, .slice (some ⟨g9, 0, none⟩) (k + 1) cap9, .slice A2 k c2] from by have h := HC9.out.set 2 (.slice (some ⟨g9, 0, none⟩) (k + 1) cap9); simpa using h)
      have HT6 := Lib.hid ((HTA.out.grown HGR.out (fun q e => (World.ownsRow.lt HRW.out q e).1)).setCell (p := ⟨w.heap.size + 1, 2, none⟩) (Or.inl rfl) (.slice (some ⟨g9, 0, none⟩) (k + 1) cap9))
      generalize w9.setCell ⟨w.heap.size + 1, 2, none⟩ (.slice (some ⟨g9, 0, none⟩) (k + 1) cap9) = w6 at HF6 HC6 HT6 ⊢
      clear hz0 hz1 hz2 hz3 hzl hzf hx0 hx1 hx2 hx3 hxl HO9 HGR HAT HC9 HFA HCA HRW HTA
      obtain ⟨hx0, hx1, hx2, hx3, hxl⟩ := HC6.out.four
      have HFA := Lib.hid (HF6.out.alloc (.cells #[.int .i64 k] 3))
      have HCA := Lib.hid (HC6.out.alloc (.cells #[.int .i64 k] 3))
      have HTA := Lib.hid (HT6.out.alloc (.cells #[.int .i64 k] 3))
      have HRW := Lib.hid (show RowA (w6.alloc (.cells #[.int .i64 k] 3)) W.heap.size (.slice A2 k c2) (rangeI 0 k) from HFA.out.row 1 (by simp))
      have hB7 : W.heap.size ≤ (w6.alloc (.cells #[.int .i64 k] 3)).heap.size := HTA.out.size
      go_upto_region 7 with (at_builtin; refine wpList_pushI rfl _ _ rfl _ W.heap.size (.slice A2 k c2) (rangeI 0 k) k _ 1 rfl HRW.out rfl (cellI_new _ _ _ _ (by simp)) hB7 (by have := HL1.out; omega) ?_; rw [HL1.out]; intro g7 cap7 w7 ho7 hgr7 hat7; have HO7 := Lib.hid ho7; have HGR7 := Lib.hid hgr7; have HAT7 := Lib.hid hat7; have HC7 := Lib.hid (HCA.out.of_block (hgr7.block _ HCA.out.lt (fun e => by have := (World.ownsRow.lt HRW.out _ e.symm).1; omega))); obtain ⟨hz0, hz1, hz2, hz3, hzl⟩ := HC7.out.four; have hzf := HC7.out.frozen 3; clear ho7 hgr7 hat7)
      have HF7 := Lib.hid ((HFA.out.push (r := 1) (by simp) (rowA_push HO7.out HL1.out) HGR7.out HAT7.out).set (a := ⟨w.heap.size + 1, 3, none⟩) hgbW (.slice (some ⟨g7, 0, none⟩) (k + 1) cap7))
      have HC8 := Lib.hid (show CellsAt (w7.setCell ⟨w.heap.size + 1, 3, none⟩ (.slice (some ⟨g7, 0, none⟩) (k + 1) cap7)) (w.heap.size + 1) tGf [.int .i64 n, .slice none 0 0, .slice (some ⟨g9, 0, none⟩) (k + 1) cap9, .slice (some ⟨g7, 0, none⟩) (k + 1) cap7] from by have h := HC7.out.set 3 (.slice (some ⟨g7, 0, none⟩) (k + 1) cap7); simpa using h)
      have HT7 := Lib.hid ((HTA.out.grown HGR7.out (fun q e => (World.ownsRow.lt HRW.out q e).1)).setCell (p := ⟨w.heap.size + 1, 3, none⟩) (Or.inl rfl) (.slice (some ⟨g7, 0, none⟩) (k + 1) cap7))
      go_wp2
      go_roundw
      case rel => exact ⟨k + 1, by omega, by omega, HT7, _, _, _, _, HC8, Lib.hid (by rw [rangeI_zero]; exact HF7.out)⟩
      case measure => simp [intOf]; omega
    · obtain ⟨hx0, hx1, hx2, hx3, hxl⟩ := HC1.out.four
      have HYE := Lib.hid (HY0.out.of_block (HT1.out.block _ (by omega) (by omega)))
      obtain ⟨hy0, hy1, hy2, hy3, hyl⟩ := HYE.out.four
      have hkn : k = n := by omega
      have HR0 := Lib.hid (RowA.read (HF1.out.row 0 (by simp)))
      have HR1 := Lib.hid (RowA.read (HF1.out.row 1 (by simp)))
      have HL1 := Lib.hid (rangeI_len 0 n)
      have hyf0 := HYE.out.frozen 0
      have hyf1 := HYE.out.frozen 1
      have hyf2 := HYE.out.frozen 2
      have hyf3 := HYE.out.frozen 3
      clear hk hlt
      subst hkn
      go_wp2
      refine bodyPost_ret (v := .agg #[.int .i64 k, .slice none 0 0, .slice A1 k c1, .slice A2 k c2]) (by simp [results, Try.results34, go_sem, hy0, hy1, hy2, hy3]) rfl ?_
      have HBE : Hid (Below w.heap.size wr ((((wr.setCell ⟨w.heap.size, 0, none⟩ (.int .i64 k)).setCell ⟨w.heap.size, 1, none⟩ (.slice none 0 0)).setCell ⟨w.heap.size, 2, none⟩ (.slice A1 k c1)).setCell ⟨w.heap.size, 3, none⟩ (.slice A2 k c2))) := Lib.hid (by repeat' (first | exact Below.refl _ _ | apply Below.setCell | (simp; done) | omega | (simp; omega)))
      have HFE := Lib.hid ((((HF1.out.set (a := ⟨w.heap.size, 0, none⟩) (by dsimp only; omega) (.int .i64 k)).set (a := ⟨w.heap.size, 1, none⟩) (by dsimp only; omega) (.slice none 0 0)).set (a := ⟨w.heap.size, 2, none⟩) (by dsimp only; omega) (.slice A1 k c1)).set (a := ⟨w.heap.size, 3, none⟩) (by dsimp only; omega) (.slice A2 k c2))
      have HE0 := Lib.hid (OwR.mono (T := fun q => w.heap.size ≤ q) (RowA.own (HFE.out.row 0 (by simp))) (fun q hq _ => by omega))
      have HE1 := Lib.hid (OwR.mono (T := fun q => w.heap.size ≤ q) (RowA.own (HFE.out.row 1 (by simp))) (fun q hq _ => by omega))
      exact ⟨A1, c1, A2, c2, rfl, HBW.out.trans ((HT1.out.below (by omega) (fun q e => by omega) : Below w.heap.size W wr).trans HBE.out), HE0.out, HE1.out⟩
theorem hgId_any (w : World) (n : Nat) (hn : n ≤ 12) : Calls Try.prog 34 #[.int .i64 n] w (GfRet w ⟨n, [], rangeI 0 n, rangeI 0 n⟩) :=
  (hgIdO_any w n hn).mono fun e w' ⟨A1, c1, A2, c2, he, hb, h1, h2⟩ => by
    have e1 : rangeI 0 n = rangeI 0 n := rfl
    refine ⟨none, 0, A1, c1, A2, c2, ?_, hb, RdEs.nil _ _ none 0, ?_, ?_⟩
    · dsimp only
      rw [rangeI_len]
      exact he
    · dsimp only
      rw [rangeI_len]
      exact h1.read
    · dsimp only
      rw [rangeI_len]
      exact h2.read
/-- The graph of a leaf. -/
def leafGf (x : Nd) : Gf :=
  if x.k = 1 then ⟨x.v, [], rangeI 0 x.v.toNat, rangeI 0 x.v.toNat⟩ else if x.k = 2 then ⟨2, [], [0, 1], [1, 0]⟩
  else ⟨(kindW x.k).1 + (kindW x.k).2, [⟨x.k, x.v, rangeI 0 (kindW x.k).1.toNat, rangeI (kindW x.k).1.toNat (kindW x.k).2.toNat⟩], rangeI 0 (kindW x.k).1.toNat, rangeI (kindW x.k).1.toNat (kindW x.k).2.toNat⟩
end Go.Proofs.Ythnhholeaiojjaa

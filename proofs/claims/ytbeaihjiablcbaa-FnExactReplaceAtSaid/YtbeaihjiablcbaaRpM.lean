/- ReplaceAt: a part of a tree replaced by another of its type. -/
import Derived.Test.YtbeaihjiablcbaaTr
namespace Go.Proofs.Ytbeaihjiablcbaa
set_option maxRecDepth 100000
open Go Go.RowKit Go.Deep

def replT : Tr → Nat → Tr → Tr
  | .leaf _ _ _, _, s => s
  | .seq a b i o, k, s => if k < (nodesOf a).length then .seq (replT a k s) b i o else if k < (nodesOf a).length + (nodesOf b).length then .seq a (replT b (k - (nodesOf a).length) s) i o else s
  | .par a b i o, k, s => if k < (nodesOf a).length then .par (replT a k s) b i o else if k < (nodesOf a).length + (nodesOf b).length then .par a (replT b (k - (nodesOf a).length) s) i o else s
/-- What stands ahead of the part that ends at k. -/
def frontN (t : Tr) (k : Nat) : List Nd := (nodesOf t).take (k + 1 - (nodesOf (subAt t k)).length)
theorem repl_ok : ∀ (t : Tr) (k : Nat) (s : Tr), VTr t → k < (nodesOf t).length → VTr s → s.inw = (subAt t k).inw → s.outw = (subAt t k).outw →
    VTr (replT t k s) ∧ (replT t k s).inw = t.inw ∧ (replT t k s).outw = t.outw ∧ nodesOf (replT t k s) = frontN t k ++ (nodesOf s ++ (nodesOf t).drop (k + 1))
  | .leaf n i o, k, s, hv, hk, hs, h1, h2 => by
    simp only [nodesOf, List.length_cons, List.length_nil] at hk
    obtain rfl : k = 0 := by omega
    refine ⟨hs, h1, h2, ?_⟩
    show nodesOf s = [n].take (0 + 1 - [n].length) ++ (nodesOf s ++ [n].drop 1)
    simp
  | .seq a b i o, k, s, hv, hk, hs, h1, h2 => by
    obtain ⟨ha, hb, hm, hi, ho⟩ := hv
    have hlen : (nodesOf (Tr.seq a b i o)).length = (nodesOf a).length + (nodesOf b).length + 1 := by simp only [nodesOf, List.length_append, List.length_cons, List.length_nil]; omega
    rw [hlen] at hk
    by_cases c1 : k < (nodesOf a).length
    · have e1 : subAt (.seq a b i o) k = subAt a k := by rw [subAt, if_pos c1]
      have e2 : replT (.seq a b i o) k s = .seq (replT a k s) b i o := by rw [replT, if_pos c1]
      rw [e1] at h1 h2
      obtain ⟨r1, r2, r3, r4⟩ := repl_ok a k s ha c1 hs h1 h2
      have hsub := (sub_nodes a k ha c1).2.1
      rw [e2]
      refine ⟨⟨r1, hb, by rw [r3]; exact hm, by rw [r2]; exact hi, ho⟩, rfl, rfl, ?_⟩
      simp only [nodesOf, frontN]
      rw [r4, e1]
      unfold frontN
      rw [List.take_append_of_le_length (by omega), List.drop_append_of_le_length (by omega)]
      simp only [List.append_assoc]
    · by_cases c2 : k < (nodesOf a).length + (nodesOf b).length
      · have e1 : subAt (.seq a b i o) k = subAt b (k - (nodesOf a).length) := by rw [subAt, if_neg c1, if_pos c2]
        have e2 : replT (.seq a b i o) k s = .seq a (replT b (k - (nodesOf a).length) s) i o := by rw [replT, if_neg c1, if_pos c2]
        rw [e1] at h1 h2
        obtain ⟨r1, r2, r3, r4⟩ := repl_ok b (k - (nodesOf a).length) s hb (by omega) hs h1 h2
        have hsub := (sub_nodes b (k - (nodesOf a).length) hb (by omega)).2.1
        rw [e2]
        refine ⟨⟨ha, r1, by rw [r2]; exact hm, hi, by rw [r3]; exact ho⟩, rfl, rfl, ?_⟩
        simp only [nodesOf, frontN]
        rw [r4, e1]
        unfold frontN
        have e3 : k + 1 - (nodesOf (subAt b (k - (nodesOf a).length))).length = (nodesOf a).length + (k - (nodesOf a).length + 1 - (nodesOf (subAt b (k - (nodesOf a).length))).length) := by omega
        have e4 : k + 1 = (nodesOf a).length + (k - (nodesOf a).length + 1) := by omega
        rw [e3, List.take_length_add_append, List.take_append_of_le_length (by omega)]
        conv => rhs; rw [e4, List.drop_length_add_append, List.drop_append_of_le_length (by omega)]
        simp only [List.append_assoc]
      · have e1 : subAt (.seq a b i o) k = .seq a b i o := by rw [subAt, if_neg c1, if_neg c2]
        have e2 : replT (.seq a b i o) k s = s := by rw [replT, if_neg c1, if_neg c2]
        rw [e1] at h1 h2
        rw [e2]
        refine ⟨hs, h1, h2, ?_⟩
        unfold frontN
        rw [e1, hlen, show k + 1 - ((nodesOf a).length + (nodesOf b).length + 1) = 0 by omega, List.drop_eq_nil_of_le (by rw [hlen]; omega)]
        simp
  | .par a b i o, k, s, hv, hk, hs, h1, h2 => by
    obtain ⟨ha, hb, hm1, hm2, hi, ho⟩ := hv
    have hlen : (nodesOf (Tr.par a b i o)).length = (nodesOf a).length + (nodesOf b).length + 1 := by simp only [nodesOf, List.length_append, List.length_cons, List.length_nil]; omega
    rw [hlen] at hk
    by_cases c1 : k < (nodesOf a).length
    · have e1 : subAt (.par a b i o) k = subAt a k := by rw [subAt, if_pos c1]
      have e2 : replT (.par a b i o) k s = .par (replT a k s) b i o := by rw [replT, if_pos c1]
      rw [e1] at h1 h2
      obtain ⟨r1, r2, r3, r4⟩ := repl_ok a k s ha c1 hs h1 h2
      have hsub := (sub_nodes a k ha c1).2.1
      rw [e2]
      refine ⟨⟨r1, hb, by rw [r2]; exact hm1, by rw [r3]; exact hm2, by rw [r2]; exact hi, by rw [r3]; exact ho⟩, rfl, rfl, ?_⟩
      simp only [nodesOf, frontN]
      rw [r4, e1]
      unfold frontN
      rw [List.take_append_of_le_length (by omega), List.drop_append_of_le_length (by omega)]
      simp only [List.append_assoc]
    · by_cases c2 : k < (nodesOf a).length + (nodesOf b).length
      · have e1 : subAt (.par a b i o) k = subAt b (k - (nodesOf a).length) := by rw [subAt, if_neg c1, if_pos c2]
        have e2 : replT (.par a b i o) k s = .par a (replT b (k - (nodesOf a).length) s) i o := by rw [replT, if_neg c1, if_pos c2]
        rw [e1] at h1 h2
        obtain ⟨r1, r2, r3, r4⟩ := repl_ok b (k - (nodesOf a).length) s hb (by omega) hs h1 h2
        have hsub := (sub_nodes b (k - (nodesOf a).length) hb (by omega)).2.1
        rw [e2]
        refine ⟨⟨ha, r1, by rw [r2]; exact hm1, by rw [r3]; exact hm2, by rw [r2]; exact hi, by rw [r3]; exact ho⟩, rfl, rfl, ?_⟩
        simp only [nodesOf, frontN]
        rw [r4, e1]
        unfold frontN
        have e3 : k + 1 - (nodesOf (subAt b (k - (nodesOf a).length))).length = (nodesOf a).length + (k - (nodesOf a).length + 1 - (nodesOf (subAt b (k - (nodesOf a).length))).length) := by omega
        have e4 : k + 1 = (nodesOf a).length + (k - (nodesOf a).length + 1) := by omega
        rw [e3, List.take_length_add_append, List.take_append_of_le_length (by omega)]
        conv => rhs; rw [e4, List.drop_length_add_append, List.drop_append_of_le_length (by omega)]
        simp only [List.append_assoc]
      · have e1 : subAt (.par a b i o) k = .par a b i o := by rw [subAt, if_neg c1, if_neg c2]
        have e2 : replT (.par a b i o) k s = s := by rw [replT, if_neg c1, if_neg c2]
        rw [e1] at h1 h2
        rw [e2]
        refine ⟨hs, h1, h2, ?_⟩
        unfold frontN
        rw [e1, hlen, show k + 1 - ((nodesOf a).length + (nodesOf b).length + 1) = 0 by omega, List.drop_eq_nil_of_le (by rw [hlen]; omega)]
        simp
end Go.Proofs.Ytbeaihjiablcbaa

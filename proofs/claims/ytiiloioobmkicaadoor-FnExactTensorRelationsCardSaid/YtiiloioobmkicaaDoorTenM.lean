/- The juxtaposition of relations: the rows. -/
import Derived.Test.YtiiloioobmkicaaDoorCmpM
import Derived.Test.YtiiloioobmkicaaDoorRowCat
namespace Go.Proofs.YtiiloioobmkicaaDoor
set_option maxRecDepth 100000
open Go Go.RowKit Go.Deep

def ten1 (l l2 r2 : Nat) (x : List Int) : List Int := [x.take l, List.replicate l2 0, x.drop l, List.replicate r2 0].flatten
def ten2 (l r l2 : Nat) (x : List Int) : List Int := [List.replicate l 0, x.take l2, List.replicate r 0, x.drop l2].flatten
def tens (l r l2 r2 : Nat) (R S : List (List Int)) : List (List Int) := R.map (ten1 l l2 r2) ++ S.map (ten2 l r l2)
theorem tens_len (l r l2 r2 : Nat) (R S : List (List Int)) : (tens l r l2 r2 R S).length = R.length + S.length := by simp [tens]
theorem ten1_len {l l2 r2 : Nat} {x : List Int} (h : l ≤ x.length) : (ten1 l l2 r2 x).length = x.length + l2 + r2 := by
  simp [ten1]
  omega
theorem ten2_len {l r l2 : Nat} {x : List Int} (h : l2 ≤ x.length) : (ten2 l r l2 x).length = x.length + l + r := by
  simp [ten2]
  omega
theorem ten1_vec {p : Int} (hp : 2 ≤ p) {l r l2 r2 : Nat} {x : List Int} (h : Vec p (l + r) x) : Vec p (l + l2 + (r + r2)) (ten1 l l2 r2 x) := by
  refine ⟨by rw [ten1_len (by rw [h.1]; omega), h.1]; omega, fun z hz => ?_⟩
  simp only [ten1, List.flatten_cons, List.flatten_nil, List.append_nil, List.mem_append, List.mem_replicate] at hz
  rcases hz with h1 | ⟨-, rfl⟩ | h1 | ⟨-, rfl⟩
  · exact h.2 z (List.mem_of_mem_take h1)
  · omega
  · exact h.2 z (List.mem_of_mem_drop h1)
  · omega
theorem ten2_vec {p : Int} (hp : 2 ≤ p) {l r l2 r2 : Nat} {x : List Int} (h : Vec p (l2 + r2) x) : Vec p (l + l2 + (r + r2)) (ten2 l r l2 x) := by
  refine ⟨by rw [ten2_len (by rw [h.1]; omega), h.1]; omega, fun z hz => ?_⟩
  simp only [ten2, List.flatten_cons, List.flatten_nil, List.append_nil, List.mem_append, List.mem_replicate] at hz
  rcases hz with ⟨-, rfl⟩ | h1 | ⟨-, rfl⟩ | h1
  · omega
  · exact h.2 z (List.mem_of_mem_take h1)
  · omega
  · exact h.2 z (List.mem_of_mem_drop h1)
theorem tens_mat {p : Int} (hp : 2 ≤ p) {n m l r l2 r2 : Nat} {R S : List (List Int)} (h : Mat p n (l + r) R) (h2 : Mat p m (l2 + r2) S) : Mat p (n + m) (l + l2 + (r + r2)) (tens l r l2 r2 R S) := by
  refine ⟨by rw [tens_len, h.1, h2.1], fun x hx => ?_⟩
  rcases List.mem_append.1 hx with h1 | h1
  · obtain ⟨y, hy, rfl⟩ := List.mem_map.1 h1
    exact ten1_vec hp (h.2 y hy)
  · obtain ⟨y, hy, rfl⟩ := List.mem_map.1 h1
    exact ten2_vec hp (h2.2 y hy)
/-- A row of zeros in which the first j elements of x stand: the first m from o1 on, the others from o2 on. -/
def plS (n m o1 o2 j : Nat) (x : List Int) : List Int := (List.range n).map fun k => if o1 ≤ k ∧ k < o1 + m ∧ k < o1 + j then x.getD (k - o1) 0 else if o2 ≤ k ∧ k + m < o2 + j then x.getD (k + m - o2) 0 else 0
theorem plS_len (n m o1 o2 j : Nat) (x : List Int) : (plS n m o1 o2 j x).length = n := by simp [plS]
theorem plS_at {n m o1 o2 j k : Nat} {x : List Int} (h : k < n) : (plS n m o1 o2 j x).getD k 0 = if o1 ≤ k ∧ k < o1 + m ∧ k < o1 + j then x.getD (k - o1) 0 else if o2 ≤ k ∧ k + m < o2 + j then x.getD (k + m - o2) 0 else 0 := by
  unfold plS
  rw [map_getD _ _ _ (by simpa using h) 0, show (List.range n).getD k 0 = k by rw [List.getD_eq_getElem?_getD]; simp [h]]
theorem plS_start (n m o1 o2 : Nat) (x : List Int) (_h : o1 + m ≤ o2) : plS n m o1 o2 0 x = List.replicate n 0 := by
  refine ext_getD 0 (by rw [plS_len]; simp) fun k hk => ?_
  rw [plS_len] at hk
  rw [plS_at hk, if_neg (by omega), if_neg (by omega), repl_getD]
theorem plS_one {n m o1 o2 j : Nat} {x : List Int} (_h : o1 + m ≤ o2) (hj : j < m) (hn : o1 + j < n) : (plS n m o1 o2 j x).set (o1 + j) (x.getD j 0) = plS n m o1 o2 (j + 1) x := by
  refine ext_getD 0 (by rw [List.length_set, plS_len, plS_len]) fun k hk => ?_
  rw [List.length_set, plS_len] at hk
  rw [set_getD _ _ _ _ _ (by rw [plS_len]; exact hn), plS_at hk, plS_at hk]
  by_cases c : o1 + j = k
  · subst c
    rw [if_pos rfl, if_pos (by omega), show o1 + j - o1 = j by omega]
  · rw [if_neg c]
    by_cases c2 : o1 ≤ k ∧ k < o1 + m ∧ k < o1 + j
    · rw [if_pos c2, if_pos (by omega)]
    · rw [if_neg c2, if_neg (show ¬ (o1 ≤ k ∧ k < o1 + m ∧ k < o1 + (j + 1)) by omega), if_neg (by omega), if_neg (by omega)]
theorem plS_two {n m o1 o2 j : Nat} {x : List Int} (h : o1 + m ≤ o2) (hj : m ≤ j) (hn : o2 + (j - m) < n) : (plS n m o1 o2 j x).set (o2 + (j - m)) (x.getD j 0) = plS n m o1 o2 (j + 1) x := by
  refine ext_getD 0 (by rw [List.length_set, plS_len, plS_len]) fun k hk => ?_
  rw [List.length_set, plS_len] at hk
  rw [set_getD _ _ _ _ _ (by rw [plS_len]; exact hn), plS_at hk, plS_at hk]
  by_cases c : o2 + (j - m) = k
  · subst c
    rw [if_pos rfl, if_neg (by omega), if_pos (by omega), show o2 + (j - m) + m - o2 = j by omega]
  · rw [if_neg c]
    by_cases c2 : o1 ≤ k ∧ k < o1 + m ∧ k < o1 + j
    · rw [if_pos c2, if_pos (by omega)]
    · rw [if_neg c2, if_neg (show ¬ (o1 ≤ k ∧ k < o1 + m ∧ k < o1 + (j + 1)) by omega)]
      by_cases c3 : o2 ≤ k ∧ k + m < o2 + j
      · rw [if_pos c3, if_pos (by omega)]
      · rw [if_neg c3, if_neg (by omega)]
theorem plS_end1 {l r l2 r2 : Nat} {x : List Int} (h : x.length = l + r) : plS (l + l2 + (r + r2)) l 0 (l + l2) x.length x = ten1 l l2 r2 x := by
  refine ext_getD 0 (by rw [plS_len, ten1_len (by omega)]; omega) fun k hk => ?_
  rw [plS_len] at hk
  rw [plS_at hk]
  simp only [ten1, List.flatten_cons, List.flatten_nil, List.append_nil]
  by_cases c1 : k < l
  · rw [if_pos (by omega), getD_app_l _ _ _ (by rw [List.length_take]; omega), take_getD _ c1]
    rfl
  · rw [if_neg (by omega), getD_app_r _ _ _ (by rw [List.length_take]; omega), show (x.take l).length = l by rw [List.length_take]; omega]
    by_cases c2 : k < l + l2
    · rw [if_neg (by omega), getD_app_l _ _ _ (by rw [List.length_replicate]; omega), repl_getD]
    · rw [getD_app_r _ _ _ (by rw [List.length_replicate]; omega), List.length_replicate]
      by_cases c3 : k < l + l2 + r
      · rw [if_pos (by omega), getD_app_l _ _ _ (by rw [List.length_drop]; omega), drop_getD]
        congr 1
        omega
      · rw [if_neg (by omega), getD_app_r _ _ _ (by rw [List.length_drop]; omega), repl_getD]
theorem plS_end2 {l r l2 r2 : Nat} {x : List Int} (h : x.length = l2 + r2) : plS (l + l2 + (r + r2)) l2 l (l + l2 + r) x.length x = ten2 l r l2 x := by
  refine ext_getD 0 (by rw [plS_len, ten2_len (by omega)]; omega) fun k hk => ?_
  rw [plS_len] at hk
  rw [plS_at hk]
  simp only [ten2, List.flatten_cons, List.flatten_nil, List.append_nil]
  by_cases c0 : k < l
  · rw [if_neg (by omega), if_neg (by omega), getD_app_l _ _ _ (by rw [List.length_replicate]; omega), repl_getD]
  · rw [getD_app_r _ _ _ (by rw [List.length_replicate]; omega), List.length_replicate]
    by_cases c1 : k < l + l2
    · rw [if_pos (by omega), getD_app_l _ _ _ (by rw [List.length_take]; omega), take_getD _ (by omega)]
    · rw [if_neg (by omega), getD_app_r _ _ _ (by rw [List.length_take]; omega), show (x.take l2).length = l2 by rw [List.length_take]; omega]
      by_cases c2 : k < l + l2 + r
      · rw [if_neg (by omega), getD_app_l _ _ _ (by rw [List.length_replicate]; omega), repl_getD]
      · rw [if_pos (by omega), getD_app_r _ _ _ (by rw [List.length_replicate]; omega), List.length_replicate, drop_getD]
        congr 1
        omega
theorem tens_take1 {l l2 r2 k : Nat} {R : List (List Int)} (h : k < R.length) : (R.take (k + 1)).map (ten1 l l2 r2) = (R.take k).map (ten1 l l2 r2) ++ [ten1 l l2 r2 (R.getD k [])] := by
  rw [take_one h []]
  rw [List.map_append]
  rfl
theorem tens_take2 {l r l2 k : Nat} {S : List (List Int)} (h : k < S.length) : (S.take (k + 1)).map (ten2 l r l2) = (S.take k).map (ten2 l r l2) ++ [ten2 l r l2 (S.getD k [])] := by
  rw [take_one h []]
  rw [List.map_append]
  rfl
end Go.Proofs.YtiiloioobmkicaaDoor

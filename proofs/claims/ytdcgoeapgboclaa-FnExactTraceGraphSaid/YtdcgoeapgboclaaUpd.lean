/- Lists that are changed element by element: the state of a loop that has done the first k of them. -/
namespace Go.Proofs.Ytdcgoeapgboclaa
set_option maxRecDepth 100000
/-- The first k elements changed, each by what g says at its index. -/
def upd {α : Type} (g : Nat → α → α) (k : Nat) (xs : List α) : List α := xs.mapIdx fun j x => if j < k then g j x else x
theorem upd_len {α : Type} (g : Nat → α → α) (k : Nat) (xs : List α) : (upd g k xs).length = xs.length := by simp [upd]
theorem upd_zero {α : Type} (g : Nat → α → α) (xs : List α) : upd g 0 xs = xs := by
  unfold upd
  apply List.ext_getElem?
  intro i
  simp
theorem upd_all {α : Type} (g : Nat → α → α) {k : Nat} {xs : List α} (h : xs.length ≤ k) : upd g k xs = xs.mapIdx g := by
  unfold upd
  apply List.ext_getElem?
  intro i
  simp only [List.getElem?_mapIdx]
  by_cases c : i < xs.length
  · rw [List.getElem?_eq_getElem c]
    simp [show i < k by omega]
  · rw [List.getElem?_eq_none (by omega)]
    rfl
theorem upd_get? {α : Type} (g : Nat → α → α) (k i : Nat) (xs : List α) : (upd g k xs)[i]? = if i < k then xs[i]?.map (g i) else xs[i]? := by
  unfold upd
  rw [List.getElem?_mapIdx]
  by_cases c : i < k
  · simp [c]
  · simp [c]
theorem upd_same? {α : Type} (g : Nat → α → α) {k i : Nat} (h : k ≤ i) (xs : List α) : (upd g k xs)[i]? = xs[i]? := by
  rw [upd_get?, if_neg (by omega)]
theorem upd_getD {α : Type} (g : Nat → α → α) {k i : Nat} (h : k ≤ i) (xs : List α) (d : α) : (upd g k xs).getD i d = xs.getD i d := by
  rw [List.getD_eq_getElem?_getD, List.getD_eq_getElem?_getD, upd_same? g h]
theorem upd_done {α : Type} (g : Nat → α → α) {k i : Nat} (h : i < k) (xs : List α) (hi : i < xs.length) (d : α) : (upd g k xs).getD i d = g i (xs.getD i d) := by
  rw [List.getD_eq_getElem?_getD, List.getD_eq_getElem?_getD, upd_get?, if_pos h, List.getElem?_eq_getElem hi]
  rfl
theorem upd_step {α : Type} (g : Nat → α → α) {k : Nat} {xs : List α} (h : k < xs.length) (d : α) : (upd g k xs).set k (g k (xs.getD k d)) = upd g (k + 1) xs := by
  apply List.ext_getElem?
  intro i
  rw [List.getElem?_set, upd_len, upd_get?, upd_get?]
  by_cases c : k = i
  · subst c
    rw [if_pos rfl, if_pos h, if_pos (by omega), List.getD_eq_getElem?_getD, List.getElem?_eq_getElem h]
    rfl
  · rw [if_neg c]
    by_cases c2 : i < k
    · rw [if_pos c2, if_pos (by omega)]
    · rw [if_neg c2, if_neg (by omega)]
theorem upd_put {α : Type} (g : Nat → α → α) {k : Nat} {xs : List α} (h : k < xs.length) (d : α) : (upd g k xs).set k (g k ((upd g k xs).getD k d)) = upd g (k + 1) xs := by rw [upd_getD g (Nat.le_refl k), upd_step g h d]
theorem set_getD {α : Type} (xs : List α) (i j : Nat) (u d : α) (hi : i < xs.length) : (xs.set i u).getD j d = if i = j then u else xs.getD j d := by
  rw [List.getD_eq_getElem?_getD, List.getD_eq_getElem?_getD, List.getElem?_set]
  by_cases c : i = j
  · rw [if_pos c, if_pos c, if_pos hi]
    rfl
  · rw [if_neg c, if_neg c]
theorem ext_getD {α : Type} {xs ys : List α} (d : α) (hl : xs.length = ys.length) (h : ∀ i, i < xs.length → xs.getD i d = ys.getD i d) : xs = ys := by
  apply List.ext_getElem hl
  intro i h1 h2
  have := h i h1
  rwa [List.getD_eq_getElem?_getD, List.getD_eq_getElem?_getD, List.getElem?_eq_getElem h1, List.getElem?_eq_getElem h2] at this
theorem mapIdx_getD {α β : Type} (g : Nat → α → β) (xs : List α) (i : Nat) (hi : i < xs.length) (d : α) (e : β) : (xs.mapIdx g).getD i e = g i (xs.getD i d) := by
  rw [List.getD_eq_getElem?_getD, List.getD_eq_getElem?_getD, List.getElem?_mapIdx, List.getElem?_eq_getElem hi]
  rfl
theorem map_getD {α β : Type} (g : α → β) (xs : List α) (i : Nat) (hi : i < xs.length) (d : α) (e : β) : (xs.map g).getD i e = g (xs.getD i d) := by
  rw [List.getD_eq_getElem?_getD, List.getD_eq_getElem?_getD, List.getElem?_map, List.getElem?_eq_getElem hi]
  rfl
theorem repl_getD {α : Type} (n i : Nat) (z : α) : (List.replicate n z).getD i z = z := by
  rw [List.getD_eq_getElem?_getD]
  by_cases c : i < n
  · simp [c]
  · simp [c]
end Go.Proofs.Ytdcgoeapgboclaa

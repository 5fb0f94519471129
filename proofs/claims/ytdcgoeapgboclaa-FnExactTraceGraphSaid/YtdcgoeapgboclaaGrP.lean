/- A graph is valid as the program sees it: sorted and compacted, its wires are as many as they should be. -/
import Derived.Test.YtdcgoeapgboclaaOpF
import Derived.Test.YtdcgoeapgboclaaSrt
namespace Go.Proofs.Ytdcgoeapgboclaa
set_option maxRecDepth 100000
open Go Go.RowKit Go.Deep

theorem srt_mem {xs : List Int} {x : Int} : x ∈ srt xs ↔ x ∈ xs := (List.mergeSort_perm xs _).mem_iff
theorem srt_sorted (xs : List Int) : (srt xs).Pairwise (· ≤ ·) := by
  have h := List.pairwise_mergeSort (le := fun x y : Int => decide (x ≤ y)) (fun a b c h1 h2 => by simp at *; omega) (fun a b => by simp; omega) xs
  exact h.imp fun h => by simpa using h
theorem pair_at {zs : List Int} (h : zs.Pairwise (· ≤ ·)) {i j : Nat} (hij : i ≤ j) (hj : j < zs.length) : zs.getD i 0 ≤ zs.getD j 0 := by
  rw [List.getD_eq_getElem?_getD, List.getD_eq_getElem?_getD, List.getElem?_eq_getElem (by omega), List.getElem?_eq_getElem hj]
  by_cases c : i = j
  · subst c
    exact Int.le_refl _
  · exact (List.pairwise_iff_getElem.1 h) i j (by omega) hj (by omega)
theorem bang_getD (zs : List Int) (j : Nat) : zs.toArray[j]! = zs.getD j 0 := by
  by_cases h : j < zs.length
  · rw [getElem!_pos _ j (by simpa using h), List.getD_eq_getElem?_getD, List.getElem?_eq_getElem h]
    rfl
  · rw [getElem!_neg _ j (by simpa using h), List.getD_eq_getElem?_getD, List.getElem?_eq_none (by omega)]
    rfl
theorem mem_compact {zs : List Int} {x : Int} : x ∈ Lib.compact zs ↔ x ∈ zs := by
  unfold Lib.compact Lib.compactUpTo
  rw [List.mem_map]
  constructor
  · rintro ⟨j, hj, rfl⟩
    have := List.mem_range.1 (List.mem_filter.1 hj).1
    rw [bang_getD, List.getD_eq_getElem?_getD, List.getElem?_eq_getElem this]
    exact List.getElem_mem this
  · intro hx
    obtain ⟨i, hi, rfl⟩ := List.getElem_of_mem hx
    clear hx
    induction i with
    | zero => exact ⟨0, List.mem_filter.2 ⟨List.mem_range.2 hi, by simp [Lib.keeps]⟩, by rw [bang_getD, List.getD_eq_getElem?_getD, List.getElem?_eq_getElem hi]; rfl⟩
    | succ i ih =>
      by_cases c : zs.getD (i + 1) 0 = zs.getD i 0
      · obtain ⟨j, h1, h2⟩ := ih (by omega)
        refine ⟨j, h1, h2.trans ?_⟩
        rw [List.getD_eq_getElem?_getD, List.getD_eq_getElem?_getD, List.getElem?_eq_getElem hi, List.getElem?_eq_getElem (by omega)] at c
        exact c.symm
      · refine ⟨i + 1, List.mem_filter.2 ⟨List.mem_range.2 hi, ?_⟩, by rw [bang_getD, List.getD_eq_getElem?_getD, List.getElem?_eq_getElem hi]; rfl⟩
        unfold Lib.keeps
        rw [bang_getD, Nat.add_sub_cancel, bang_getD]
        simp only [decide_eq_true_eq]
        exact Or.inr c
theorem compact_lt {zs : List Int} (h : zs.Pairwise (· ≤ ·)) : (Lib.compact zs).Pairwise (· < ·) := by
  unfold Lib.compact Lib.compactUpTo
  rw [List.pairwise_map]
  have hr : ((List.range zs.length).filter (Lib.keeps zs.toArray)).Pairwise (· < ·) := List.Pairwise.filter _ List.pairwise_lt_range
  refine hr.imp_of_mem fun {a b} ha hb hab => ?_
  have hbl := List.mem_range.1 (List.mem_filter.1 hb).1
  have hk := (List.mem_filter.1 hb).2
  unfold Lib.keeps at hk
  rw [bang_getD, bang_getD, decide_eq_true_eq] at hk
  rw [bang_getD, bang_getD]
  have h1 := pair_at h (show a ≤ b - 1 by omega) (show b - 1 < zs.length by omega)
  have h2 := pair_at h (show b - 1 ≤ b by omega) hbl
  rcases hk with hk | hk
  · omega
  · omega
theorem full_iff : ∀ (D : List Int) (lo hi : Int), D.Pairwise (· < ·) → (∀ x, x ∈ D → lo ≤ x ∧ x < hi) → lo ≤ hi → (D.length : Int) ≤ hi - lo ∧ ((D.length : Int) = hi - lo ↔ ∀ k, lo ≤ k → k < hi → k ∈ D)
  | [], lo, hi, _, _, hlh => by
    refine ⟨by simp; omega, fun h k h1 h2 => by simp at h; omega, fun h => ?_⟩
    by_cases c : lo < hi
    · exact absurd (h lo (Int.le_refl _) c) (by simp)
    · simp; omega
  | x :: D, lo, hi, hp, hb, hlh => by
    have hx := hb x (by simp)
    rw [List.pairwise_cons] at hp
    obtain ⟨i1, i2⟩ := full_iff D (x + 1) hi hp.2 (fun y hy => ⟨by have := hp.1 y hy; omega, (hb y (by simp [hy])).2⟩) (by omega)
    rw [List.length_cons]
    refine ⟨by omega, fun h k h1 h2 => ?_, fun h => ?_⟩
    · have hd : (D.length : Int) = hi - (x + 1) := by omega
      by_cases c : k = x
      · simp [c]
      · exact List.mem_cons_of_mem _ (i2.1 hd k (by omega) h2)
    · have hlo := h lo (Int.le_refl _) (by omega)
      have hxl : x = lo := by
        rcases List.mem_cons.1 hlo with e | e
        · exact e.symm
        · have := hp.1 lo e; omega
      have := i2.2 (fun k h1 h2 => by
        rcases List.mem_cons.1 (h k (by omega) h2) with e | e
        · omega
        · exact e)
      omega
/-- Sorted and compacted, a row of numbers below n is as long as n just if all are there. -/
theorem compact_full {xs : List Int} {n : Int} (hn : 0 ≤ n) (h : ∀ x, x ∈ xs → 0 ≤ x ∧ x < n) : (((Lib.compact (srt xs)).length : Nat) : Int) = n ↔ ∀ k, 0 ≤ k → k < n → k ∈ xs := by
  have := (full_iff (Lib.compact (srt xs)) 0 n (compact_lt (srt_sorted xs)) (fun x hx => h x (srt_mem.1 (mem_compact.1 hx))) hn).2
  rw [Int.sub_zero] at this
  rw [this]
  constructor
  · exact fun h k h1 h2 => srt_mem.1 (mem_compact.1 (h k h1 h2))
  · exact fun h k h1 h2 => mem_compact.2 (srt_mem.2 (h k h1 h2))
theorem edP_iff (e : Ed) : edP e = true ↔ 3 ≤ e.k ∧ e.k ≤ 14 ∧ isLeafB ⟨e.k, e.v, ByteArray.empty⟩ = true ∧ (e.i.length : Int) = (kindW e.k).1 ∧ (e.o.length : Int) = (kindW e.k).2 := by
  unfold edP
  rw [leafW_kind]
  simp only [Bool.and_eq_true, decide_eq_true_eq]
  constructor
  · rintro ⟨⟨h1, h2⟩, h3⟩
    have h4 : e.k ≤ 14 := by
      unfold isLeafB at h2
      simp only [Bool.and_eq_true, decide_eq_true_eq] at h2
      exact h2.1.1.1.2
    rw [if_neg (by omega)] at h3
    rw [h3]
    exact ⟨h1, h4, h2, rfl, rfl⟩
  · rintro ⟨h1, _, h2, h3, h4⟩
    refine ⟨⟨h1, h2⟩, ?_⟩
    rw [if_neg (by omega), h3, h4]
theorem allL_iff (xs : List Int) (n : Int) : allL xs 0 (n - 1) = true ↔ ∀ x, x ∈ xs → 0 ≤ x ∧ x < n := by
  unfold allL between
  rw [List.all_eq_true]
  constructor
  · intro h x hx
    have := h x hx
    simp only [Bool.and_eq_true, decide_eq_true_eq] at this
    omega
  · intro h x hx
    have := h x hx
    simp only [Bool.and_eq_true, decide_eq_true_eq]
    omega
theorem edB_iff (n : Int) (e : Ed) : edB n e = true ↔ edP e = true ∧ (∀ x, x ∈ e.i → 0 ≤ x ∧ x < n) ∧ (∀ x, x ∈ e.o → 0 ≤ x ∧ x < n) := by
  unfold edB
  rw [edP_iff]
  simp only [Bool.and_eq_true, decide_eq_true_eq, allL_iff]
  constructor
  · rintro ⟨⟨⟨⟨⟨⟨a, b⟩, c⟩, d⟩, e⟩, f⟩, g⟩
    exact ⟨⟨a, b, c, d, e⟩, f, g⟩
  · rintro ⟨⟨a, b, c, d, e⟩, f, g⟩
    exact ⟨⟨⟨⟨⟨⟨a, b⟩, c⟩, d⟩, e⟩, f⟩, g⟩
theorem mem_occ {es : List Ed} {xi xo : List Int} {x : Int} : x ∈ occL es xi xo ↔ x ∈ xi ∨ x ∈ xo ∨ ∃ e, e ∈ es ∧ (x ∈ e.i ∨ x ∈ e.o) := by
  unfold occL
  simp only [List.mem_append, List.mem_flatten, List.mem_map]
  constructor
  · rintro ((h | h) | ⟨l, ⟨e, he, rfl⟩, h⟩)
    · exact Or.inl h
    · exact Or.inr (Or.inl h)
    · exact Or.inr (Or.inr ⟨e, he, List.mem_append.1 h⟩)
  · rintro (h | h | ⟨e, he, h⟩)
    · exact Or.inl (Or.inl h)
    · exact Or.inl (Or.inr h)
    · exact Or.inr ⟨_, ⟨e, he, rfl⟩, List.mem_append.2 h⟩
theorem use_iff {n : Nat} {es : List Ed} {xi xo : List Int} : useB n es xi xo = true ↔ ∀ k : Int, 0 ≤ k → k < n → k ∈ occL es xi xo := by
  have hm : ∀ k : Int, 0 < (fromL es xi).count k + (toL es xo).count k ↔ k ∈ occL es xi xo := fun k => by
    rw [mem_occ]
    have h1 := List.count_pos_iff (a := k) (l := fromL es xi)
    have h2 := List.count_pos_iff (a := k) (l := toL es xo)
    have h3 : k ∈ fromL es xi ↔ k ∈ xi ∨ ∃ e, e ∈ es ∧ k ∈ e.o := by
      unfold fromL
      simp only [List.mem_append, List.mem_flatten, List.mem_map]
      constructor
      · rintro (h | ⟨l, ⟨e, he, rfl⟩, h⟩)
        · exact Or.inl h
        · exact Or.inr ⟨e, he, h⟩
      · rintro (h | ⟨e, he, h⟩)
        · exact Or.inl h
        · exact Or.inr ⟨_, ⟨e, he, rfl⟩, h⟩
    have h4 : k ∈ toL es xo ↔ k ∈ xo ∨ ∃ e, e ∈ es ∧ k ∈ e.i := by
      unfold toL
      simp only [List.mem_append, List.mem_flatten, List.mem_map]
      constructor
      · rintro (h | ⟨l, ⟨e, he, rfl⟩, h⟩)
        · exact Or.inl h
        · exact Or.inr ⟨e, he, h⟩
      · rintro (h | ⟨e, he, h⟩)
        · exact Or.inl h
        · exact Or.inr ⟨_, ⟨e, he, rfl⟩, h⟩
    constructor
    · intro h
      by_cases c : 0 < (fromL es xi).count k
      · rcases h3.1 (h1.1 c) with a | ⟨e, he, a⟩
        · exact Or.inl a
        · exact Or.inr (Or.inr ⟨e, he, Or.inr a⟩)
      · rcases h4.1 (h2.1 (by omega)) with a | ⟨e, he, a⟩
        · exact Or.inr (Or.inl a)
        · exact Or.inr (Or.inr ⟨e, he, Or.inl a⟩)
    · rintro (a | a | ⟨e, he, a | a⟩)
      · have := h1.2 (h3.2 (Or.inl a)); omega
      · have := h2.2 (h4.2 (Or.inl a)); omega
      · have := h2.2 (h4.2 (Or.inr ⟨e, he, a⟩)); omega
      · have := h1.2 (h3.2 (Or.inr ⟨e, he, a⟩)); omega
  unfold useB
  rw [List.all_eq_true]
  constructor
  · intro h k h0 hk
    have := h k.toNat (List.mem_range.2 (by omega))
    rw [decide_eq_true_eq, show ((k.toNat : Nat) : Int) = k by omega] at this
    exact (hm k).1 this
  · intro h k hk
    rw [decide_eq_true_eq]
    exact (hm k).2 (h k (by omega) (by have := List.mem_range.1 hk; omega))
/-- The model's check, in the program's parts. -/
theorem valid_iff {n : Int} {es : List Ed} {xi xo : List Int} : validB n es xi xo = true ↔ (0 ≤ n ∧ n ≤ 100 ∧ es.length ≤ 60 ∧ xi.length ≤ 12 ∧ xo.length ≤ 12) ∧ (es.any fun e => !edP e) = false ∧ (∀ x, x ∈ occL es xi xo → 0 ≤ x ∧ x < n) ∧ ∀ k, 0 ≤ k → k < n → k ∈ occL es xi xo := by
  unfold validB
  simp only [Bool.and_eq_true, decide_eq_true_eq, allL_iff]
  rw [List.all_eq_true, List.any_eq_false]
  constructor
  · rintro ⟨⟨⟨⟨⟨⟨⟨⟨a, b⟩, c⟩, d⟩, e⟩, f⟩, g⟩, h⟩, u⟩
    refine ⟨⟨a, b, c, d, e⟩, fun e he => by have := ((edB_iff n e).1 (h e he)).1; simp [this], fun x hx => ?_, ?_⟩
    · rcases mem_occ.1 hx with k | k | ⟨e, he, k | k⟩
      · exact f x k
      · exact g x k
      · exact ((edB_iff n e).1 (h e he)).2.1 x k
      · exact ((edB_iff n e).1 (h e he)).2.2 x k
    · have := use_iff.1 u
      intro k h0 hk
      exact this k h0 (by omega)
  · rintro ⟨⟨a, b, c, d, e⟩, h, f, u⟩
    refine ⟨⟨⟨⟨⟨⟨⟨⟨a, b⟩, c⟩, d⟩, e⟩, fun x hx => f x (mem_occ.2 (Or.inl hx))⟩, fun x hx => f x (mem_occ.2 (Or.inr (Or.inl hx)))⟩, fun e he => ?_⟩, ?_⟩
    · refine (edB_iff n e).2 ⟨by have := h e he; simpa using this, fun x hx => f x (mem_occ.2 (Or.inr (Or.inr ⟨e, he, Or.inl hx⟩))), fun x hx => f x (mem_occ.2 (Or.inr (Or.inr ⟨e, he, Or.inr hx⟩)))⟩
    · refine use_iff.2 fun k h0 hk => u k h0 (by omega)
/-- Edges that are as they should be have few wires. -/
theorem occ_len {es : List Ed} {xi xo : List Int} (h : (es.any fun e => !edP e) = false) (h1 : es.length ≤ 60) (h2 : xi.length ≤ 12) (h3 : xo.length ≤ 12) : (occL es xi xo).length ≤ 1000 := by
  have hs : ∀ l : List Ed, (∀ e, e ∈ l → edP e = true) → ((l.map fun e => e.i ++ e.o).flatten).length ≤ l.length * 4 := by
    intro l
    induction l with
    | nil => simp
    | cons e l ih =>
      intro hl
      have := ih fun x hx => hl x (List.mem_cons_of_mem _ hx)
      have he := (edP_iff e).1 (hl e (by simp))
      have hk := kindW_bd e.k
      simp only [List.map_cons, List.flatten_cons, List.length_append, List.length_cons]
      omega
  rw [List.any_eq_false] at h
  have := hs es fun e he => by simpa using h e he
  unfold occL
  simp only [List.length_append]
  omega
end Go.Proofs.Ytdcgoeapgboclaa

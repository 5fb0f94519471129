/- Rows of ints one behind another: append of a whole row, slices.Concat. -/
import Derived.Test.YtdcgoeapgboclaaJoin
import Derived.Deep.Cut
namespace Go.Proofs.Ytdcgoeapgboclaa
set_option maxRecDepth 100000
open Go Go.RowKit Go.Deep

theorem icells_app (xs ys : List Int) : icells (xs ++ ys) = icells xs ++ icells ys := by simp [icells]
theorem rdS_sl {w : World} {S : Nat → Prop} {v : Value} {xs : List Int} (h : RdS w S v xs) : ∃ A n c, v = .slice A n c := by
  obtain ⟨A, c, e, _⟩ := h
  exact ⟨A, _, c, e⟩
theorem RdG.pair {w : World} {B b : Nat} {A1 A2 : Option Addr} {n1 n2 c1 c2 : Nat} {x y : List Int} {t : TypeId} (hc : CellsAt w b t [.slice A1 n1 c1, .slice A2 n2 c2]) (hx : RdS w (fun q => q < B) (.slice A1 n1 c1) x) (hy : RdS w (fun q => q < B) (.slice A2 n2 c2) y) (hb : b < B) : RdG w B (.slice (some ⟨b, 0, none⟩) 2 2) [x, y] := by
  refine ⟨_, 2, rfl, Nat.le_refl 2, fun r hr => ?_⟩
  match r, hr with
  | 0, _ => exact ⟨b, 0, _, rfl, hb, by simpa using hc.cell (i := 0) (by simp), hx⟩
  | 1, _ => exact ⟨b, 0, _, rfl, hb, by simpa using hc.cell (i := 1) (by simp), hy⟩
  | _ + 2, h => exact absurd h (by simp)
/-- A whole row appended to a row of one's own. -/
theorem wpList_joinR {ops : Array Oper} {rest : List Oper} {o : Oper} {a : Act} {Q : Exit → Act → World → Prop} (hgd : o.guard = none) (s x : Operand)
    (ho : o.op = .call { callee := .builtin .append, args := #[s, x], argTypes := #[23, 23] }) (w : World) (B : Nat) (v : Value) (xs ys : List Int) (S : Nat → Prop) (A : Option Addr) (n c : Nat)
    (hs : a.eval s = v) (hJ : RowA w B v xs) (hx : a.eval x = .slice A n c) (hS : RdS w S (.slice A n c) ys) (hB : B ≤ w.heap.size) (hn : xs.length + ys.length ≤ 1000000)
    (h : ∀ v' w', RowA w' B v' (xs ++ ys) → Below B w w' → wpList Try.prog ops Q rest (a.put o.dst v') w') : wpList Try.prog ops Q (o :: rest) a w := by
  obtain ⟨i0, hi0, hz0, hz1, hz2⟩ := info_parts infoI
  obtain rfl : n = ys.length := by
    obtain ⟨_, _, e, _⟩ := hS
    exact (sliceEq e).2.1
  by_cases h0 : ys.length = 0
  · rw [h0] at hx
    have e : ys = [] := List.length_eq_zero_iff.1 h0
    exact Lib.wpList_append_run w hgd s x _ _ ho _ _ hs hx v w (run_append_zero B _ _ tI i0 1 Try.underlying23 hi0 v xs.length (icells xs) hJ A c) (h v w (by rw [e, List.append_nil]; exact hJ) (Below.refl _ _))
  · obtain ⟨A', c', e, _, hS⟩ := hS
    obtain ⟨rfl, -, rfl⟩ := sliceEq e
    obtain ⟨b, o1, rfl, -, -⟩ := hS 0 (by omega)
    have hS2 : ∀ r, r < ys.length → w.cell? ⟨b, o1 + r, none⟩ = some (.int .i64 (ys.getD r 0)) := fun r hr => by
      obtain ⟨b', o', e1, -, h2⟩ := hS r hr
      obtain ⟨rfl, rfl⟩ : b = b' ∧ o1 = o' := by simpa using e1
      exact h2
    refine wpList_append_lies w hgd s x _ ho B tI i0 _ 1 8 Try.underlying23 hi0 hz0 hz1 hz2 rfl (by omega) v xs.length (icells xs) hs hJ ⟨b, o1, none⟩ ys.length c (icells ys) hx (by rw [icells_len, Nat.mul_one]) (fun j u hj => ?_) (fun u hu => ?_) (by omega) (by unfold maxLen; omega) (by omega) hB _ rfl (fun g cap w' hown hgrow _ _ => ?_)
    · have hj' : j < ys.length := by rw [← icells_len ys]; exact (List.getElem?_eq_some_iff.1 hj).1
      rw [icells_get hj'] at hj
      have hadd : (⟨b, o1, none⟩ : Addr).add j = ⟨b, o1 + j, none⟩ := by unfold Addr.add; split <;> simp_all
      rw [hadd, hS2 j hj', hj]
    · obtain ⟨z, _, rfl⟩ := List.mem_map.1 hu
      rfl
    · have hbl : Below B w w' := (Below.refl B w).grown hgrow hB (fun q hq => (World.ownsRow.lt hJ q hq).1)
      refine h _ w' ?_ hbl
      unfold RowA
      rw [List.length_append, icells_app]
      exact hown
/-- .. at a step of a region that draws its order. -/
theorem step_joinR {ops : Array Oper} {o : Oper} {a : Act} {K : Act → World → Prop} {Q : Exit → Act → World → Prop} {E : Prop} (hgd : o.guard = none) (s x : Operand)
    (ho : o.op = .call { callee := .builtin .append, args := #[s, x], argTypes := #[23, 23] }) (w : World) (B : Nat) (v : Value) (xs ys : List Int) (S : Nat → Prop) (A : Option Addr) (n c : Nat)
    (hs : a.eval s = v) (hJ : RowA w B v xs) (hx : a.eval x = .slice A n c) (hS : RdS w S (.slice A n c) ys) (hB : B ≤ w.heap.size) (hn : xs.length + ys.length ≤ 1000000)
    (h : ∀ v' w', RowA w' B v' (xs ++ ys) → Below B w w' → K (a.put o.dst v') w') : if Region.wanted o (yielded ops a.tmps) = true then Oper.wp Try.prog o a w K Q else E := by
  obtain ⟨i0, hi0, hz0, hz1, hz2⟩ := info_parts infoI
  obtain rfl : n = ys.length := by
    obtain ⟨_, _, e, _⟩ := hS
    exact (sliceEq e).2.1
  by_cases h0 : ys.length = 0
  · rw [h0] at hx
    have e : ys = [] := List.length_eq_zero_iff.1 h0
    rw [if_pos (by simp [Region.wanted, hgd])]
    exact Lib.wp_append_run w s x _ _ ho _ _ hs hx v w (run_append_zero B _ _ tI i0 1 Try.underlying23 hi0 v xs.length (icells xs) hJ A c) (h v w (by rw [e, List.append_nil]; exact hJ) (Below.refl _ _))
  · obtain ⟨A', c', e, _, hS⟩ := hS
    obtain ⟨rfl, -, rfl⟩ := sliceEq e
    obtain ⟨b, o1, rfl, -, -⟩ := hS 0 (by omega)
    have hS2 : ∀ r, r < ys.length → w.cell? ⟨b, o1 + r, none⟩ = some (.int .i64 (ys.getD r 0)) := fun r hr => by
      obtain ⟨b', o', e1, -, h2⟩ := hS r hr
      obtain ⟨rfl, rfl⟩ : b = b' ∧ o1 = o' := by simpa using e1
      exact h2
    refine step_append_lies w hgd s x _ ho B tI i0 _ 1 8 Try.underlying23 hi0 hz0 hz1 hz2 rfl (by omega) v xs.length (icells xs) hs hJ ⟨b, o1, none⟩ ys.length c (icells ys) hx (by rw [icells_len, Nat.mul_one]) (fun j u hj => ?_) (fun u hu => ?_) (by omega) (by unfold maxLen; omega) (by omega) hB _ rfl (fun g cap w' hown hgrow _ _ => ?_)
    · have hj' : j < ys.length := by rw [← icells_len ys]; exact (List.getElem?_eq_some_iff.1 hj).1
      rw [icells_get hj'] at hj
      have hadd : (⟨b, o1, none⟩ : Addr).add j = ⟨b, o1 + j, none⟩ := by unfold Addr.add; split <;> simp_all
      rw [hadd, hS2 j hj', hj]
    · obtain ⟨z, _, rfl⟩ := List.mem_map.1 hu
      rfl
    · have hbl : Below B w w' := (Below.refl B w).grown hgrow hB (fun q hq => (World.ownsRow.lt hJ q hq).1)
      refine h _ w' ?_ hbl
      unfold RowA
      rw [List.length_append, icells_app]
      exact hown
theorem RowA.below {w w' : World} {B : Nat} {v : Value} {xs : List Int} (h : RowA w B v xs) (hb : Below w.heap.size w w') : RowA w' B v xs := ownsRow_of_block h fun g _ hl => hb.block g hl
theorem RowA.read {w : World} {B : Nat} {v : Value} {xs : List Int} (h : RowA w B v xs) : RdS w (fun b => b < w.heap.size) v xs := h.own.readB
set_option maxHeartbeats 800000 in
/-- A row copied: one that may grow. -/
theorem l1Own_app (w : World) (B : Nat) (v : Value) (xs : List Int) (hv : RdS w (fun b => b < B) v xs) (hB : B ≤ w.heap.size) (hl : xs.length ≤ 1000000) :
    Calls Try.prog 58 #[v] w fun e w' => ∃ v', e = .returned v' ∧ Below w.heap.size w w' ∧ RowA w' w.heap.size v' xs := by
  have hv2 := hv
  obtain ⟨A, c, rfl, _, _⟩ := hv2
  have HBN := Lib.hid (show Below w.heap.size w (w.alloc (.cells #[] tI)) from (Below.refl _ _).alloc (Nat.le_refl _) _)
  have HV := Lib.hid (hv.below HBN.out hB)
  have HJ := Lib.hid (show RowA (w.alloc (.cells #[] tI)) w.heap.size (.slice (some ⟨w.heap.size, 0, none⟩) 0 0) [] from World.ownsRow_lit (base := w.heap.size) (size := 1) w #[] 0 (Nat.le_refl _) (by unfold maxLen; omega) rfl)
  clear hv hB
  go_enter Try.func58, Try.ntmps58
  go_wp2_with (at_builtin; refine wpList_joinR (by rfl) (.tmp 3) (.tmp 4) (by rfl) _ w.heap.size _ [] xs _ A _ c (by rfl) HJ.out (by rfl) HV.out HBN.out.size (by simp; omega) ?_; intro v2 w2 hj2 hb2; have HJ2 := Lib.hid hj2; have HB2 := Lib.hid (HBN.out.trans hb2); clear hj2 hb2)
  go_wp2
  go_ret
  exact ⟨_, rfl, HB2.out, by have := HJ2.out; rwa [List.nil_append] at this⟩
set_option maxHeartbeats 800000 in
theorem growR_any (w : World) (n : Nat) (hn : n ≤ 1000000) :
    Calls Try.prog 74 #[.slice none 0 0, .int .i64 n] w fun e w' => ∃ v, e = .returned v ∧ Below w.heap.size w w' ∧ RowA w' w.heap.size v [] := by
  obtain ⟨i0, hi0, hz0, hz1, hz2⟩ := info_parts infoI
  rcases Nat.eq_zero_or_pos n with rfl | h0
  · go_enter Try.func74, Try.ntmps74
    go_wp2
    go_ret
    exact ⟨_, rfl, Below.refl _ _, World.ownsRow_nil _ _ _ _⟩
  · have h0I : (0 : Int) < n := by omega
    go_enter Try.func74, Try.ntmps74
    go_wp2_with (at_builtin; refine Lib.wpList_append_run _ (by rfl) (.tmp 20) (.tmp 21) _ _ (by rfl) _ _ (by rfl) (by rfl) _ _ (Lib.run_append_nil_zeros w _ _ _ tI i0 _ .i64 .i64 Try.underlying23 Try.underlying3 hi0 hz0 n h0 (by rw [hz1]; omega) (by omega) (by rw [hz2]; omega)) ?_)
    have hge := grownCap_ge w n 0 tI
    have hle := grownCap_le_maxLen w n 0 tI (by unfold maxLen; omega)
    refine bodyPost_ret (v := .slice (some ⟨w.heap.size, 0, none⟩) 0 (grownCap w n 0 tI)) (by simp [results, Try.results74, go_sem]) rfl ?_
    refine ⟨_, rfl, ((Below.refl _ _).alloc (Nat.le_refl _) _).drew, rfl, Or.inr ⟨w.heap.size, grownCap w n 0 tI, _, rfl, Nat.le_refl _, heap_alloc_new w _, Nat.zero_le _, hle, ?_, by simp [icells]⟩⟩
    rw [Array.size_append, size_zeroCells, size_zeroCells]
    simp
    omega
theorem take_one {α : Type} {l : List α} {k : Nat} (h : k < l.length) (d : α) : l.take (k + 1) = l.take k ++ [l.getD k d] := by
  rw [List.take_add_one, List.getElem?_eq_getElem h, List.getD_eq_getElem?_getD, List.getElem?_eq_getElem h]
  rfl
theorem tot_app (a b : List (List Int)) : tot (a ++ b) = tot a + tot b := by
  unfold tot
  rw [List.map_append, List.sum_append]
theorem tot_one (r : List Int) : tot [r] = r.length := by simp [tot]
theorem tot_take {rows : List (List Int)} {k : Nat} (h : k < rows.length) : tot (rows.take (k + 1)) = tot (rows.take k) + (rows.getD k []).length := by rw [take_one h [], tot_app, tot_one]
theorem tot_take_le (rows : List (List Int)) (k : Nat) : tot (rows.take k) ≤ tot rows := by
  have h := tot_app (rows.take k) (rows.drop k)
  rw [List.take_append_drop] at h
  omega
theorem flat_take {rows : List (List Int)} {k : Nat} (h : k < rows.length) : (rows.take (k + 1)).flatten = (rows.take k).flatten ++ rows.getD k [] := by
  rw [take_one h [], List.flatten_append]
  simp only [List.flatten_cons, List.flatten_nil, List.append_nil]
theorem flat_len (rows : List (List Int)) : rows.flatten.length = tot rows := by simp [tot, List.length_flatten]
set_option maxHeartbeats 1600000 in
/-- Rows joined: the program's library. -/
theorem concatA_any (w : World) (B : Nat) (v : Value) (rows : List (List Int)) (hv : RdG w B v rows) (hB : B ≤ w.heap.size) (hn : rows.length ≤ 1000000) (ht : tot rows ≤ 1000000) :
    Calls Try.prog 49 #[v] w (fun e w' => ∃ v, e = .returned v ∧ Below w.heap.size w w' ∧ RowA w' w.heap.size v rows.flatten) := by
  obtain ⟨A, c, rfl⟩ := hv.len
  have HV := Lib.hid hv
  have HB := Lib.hid hB
  clear hv hB
  go_enter Try.func49, Try.ntmps49
  go_wp2
  go_loopw [11, 3, 5] (fun i z _ wr => wr = w ∧ ∃ k m : Nat, k ≤ rows.length ∧ i = .int .i64 k ∧ z = .int .i64 m ∧ Hid (m = tot (rows.take k))) (fun i _ _ _ => rows.length - (intOf i).toNat)
  case atStart => exact ⟨rfl, 0, 0, Nat.zero_le _, rfl, rfl, Lib.hid (by simp [tot])⟩
  case round =>
    obtain ⟨h0, k, m, hk, rfl, rfl, HM⟩ := hrel
    obtain rfl : w = wr := h0.symm
    clear h0
    have hmt : m ≤ 1000000 := by have := HM.out; have := tot_take_le rows k; omega
    by_cases hlt : k < rows.length
    · obtain ⟨b1, o1, A3, c3, rfl, hb1, hc1, hrd⟩ := HV.out.at hlt
      have HNX := Lib.hid (tot_take hlt)
      have hkI : (k : Int) < (rows.length : Int) := by omega
      have hl2 : m + (rows.getD k []).length ≤ 1000000 := by have := HM.out; have := tot_take hlt; have := tot_take_le rows (k + 1); omega
      have hs0 : 0 ≤ (m : Int) + ((rows.getD k []).length : Int) := by omega
      clear hrd hb1
      generalize (rows.getD k []).length = n1 at hc1 HNX hl2 hs0
      go_wp2
      go_roundw
      case rel => exact ⟨trivial, k + 1, m + n1, by omega, by go_num, by go_num, Lib.hid (by rw [HNX.out, ← HM.out])⟩
      case measure => simp [intOf]; omega
    · have HE := Lib.hid (show m = tot rows by rw [HM.out, List.take_of_length_le (by omega)])
      clear HM hk
      go_wp2_with fail
      refine (growR_any w m hmt).mono ?_
      rintro e w1 ⟨v1, rfl, b1, o1⟩
      have HB1 := Lib.hid b1
      have HO1 := Lib.hid o1
      clear b1 o1
      go_wp2
      go_loopw [27, 6, 8] (fun i o _ wr => ∃ k : Nat, k ≤ rows.length ∧ i = .int .i64 k ∧ Hid (Below w.heap.size w wr) ∧ Hid (RowA wr w.heap.size o (rows.take k).flatten)) (fun i _ _ _ => rows.length - (intOf i).toNat)
      case atStart => exact ⟨0, Nat.zero_le _, rfl, HB1, HO1⟩
      case round =>
        obtain ⟨k, hk, rfl, HB2, HO⟩ := hrel
        by_cases hlt : k < rows.length
        · obtain ⟨b1, o1, A3, c3, rfl, hb1, hc1, hrd⟩ := (HV.out.below HB2.out HB.out).at hlt
          have HRD := Lib.hid hrd
          have HNX := Lib.hid (flat_take hlt)
          have HLE := Lib.hid (show (rows.take k).flatten.length + (rows.getD k []).length ≤ 1000000 by have := tot_take hlt; have := tot_take_le rows (k + 1); rw [flat_len]; omega)
          have hkI : (k : Int) < (rows.length : Int) := by omega
          clear hrd hb1
          generalize rows.getD k [] = y at hc1 HRD HNX HLE
          generalize (rows.take k).flatten = acc at HO HNX HLE
          go_wp2_with (at_builtin; refine wpList_joinR (by rfl) (.tmp 31) (.tmp 32) (by rfl) _ w.heap.size _ acc y _ A3 _ c3 (by rfl) HO.out (by rfl) HRD.out HB2.out.size HLE.out ?_; intro v2 w2 hj2 hb2; have HJ2 := Lib.hid hj2; have HB3 := Lib.hid (HB2.out.trans hb2); clear hj2 hb2)
          go_wp2
          go_roundw
          case rel => exact ⟨k + 1, by omega, by go_num, HB3, Lib.hid (by rw [HNX.out]; exact HJ2.out)⟩
          case measure => simp [intOf]; omega
        · have HOW := Lib.hid (HO.out)
          have HF := Lib.hid (show (rows.take k).flatten = rows.flatten by rw [List.take_of_length_le (by omega)])
          rw [HF.out] at HOW
          go_wp2
          go_ret
          exact ⟨_, rfl, HB2.out, HOW.out⟩
theorem concatR_any (w : World) (B : Nat) (v : Value) (rows : List (List Int)) (hv : RdG w B v rows) (hB : B ≤ w.heap.size) (hn : rows.length ≤ 1000000) (ht : tot rows ≤ 1000000) :
    Calls Try.prog 49 #[v] w (MadeR w rows.flatten) :=
  (concatA_any w B v rows hv hB hn ht).mono fun _ _ ⟨v, h1, h2, h3⟩ => ⟨v, h1, h2, RowA.own h3⟩
end Go.Proofs.Ytdcgoeapgboclaa

/- Whether a space is valid: the model's side. -/
import Derived.Test.YtdjgkcnhmfkjoaaDoorSpanF
namespace Go.Proofs.YtdjgkcnhmfkjoaaDoor
set_option maxRecDepth 100000
open Go Go.RowKit Go.Deep

set_option maxHeartbeats 400000 in
theorem l1Same_any (w : World) (B : Nat) (va vb : Value) (xs ys : List Int) (ha : RdS w (fun b => b < B) va xs) (hb : RdS w (fun b => b < B) vb ys) (hl : xs.length ≤ 9223372036854775807) :
    Calls Tryd.prog 61 #[va, vb] w fun e w' => e = .returned (.bool (decide (xs = ys))) ∧ ∃ n, w' = w.drewN n := by
  obtain ⟨A, c, rfl, kc_c, ha⟩ := ha
  obtain ⟨A', c', rfl, kc_cp, hb⟩ := hb
  have HA := Lib.hid ha
  have HB := Lib.hid hb
  clear ha hb
  by_cases hlen : xs.length = ys.length
  · have HL := Lib.hid hlen
    have hbl : (xs.length != ys.length) = false := by simp [hlen]
    have hbl2 : ((xs.length : Int) != (ys.length : Int)) = false := by simp [hlen]
    clear hlen
    go_enter Tryd.func61, Tryd.ntmps61
    go_wp2
    go_loopw [13, 5] (fun i _ wr => ∃ k n : Nat, k ≤ xs.length ∧ i = .int .i64 k ∧ wr = w.drewN n ∧ Hid (xs.take k = ys.take k)) (fun i _ _ => xs.length - (intOf i).toNat)
    case atStart => exact ⟨0, 0, Nat.zero_le _, rfl, rfl, Lib.hid rfl⟩
    case round =>
      obtain ⟨k, n, hk, rfl, rfl, HT⟩ := hrel
      by_cases hlt : k < xs.length
      · have hlt2 : k < ys.length := by have := HL.out; omega
        obtain ⟨b, o, rfl, hbl3, hc⟩ := HA.out k hlt
        obtain ⟨b', o', rfl, hbl4, hc'⟩ := HB.out k hlt2
        have HX := Lib.hid (take_snoc hlt)
        have HY := Lib.hid (take_snoc hlt2)
        generalize hx : xs.getD k 0 = x at hc HX
        generalize hy : ys.getD k 0 = y at hc' HY
        have HXX := Lib.hid hx
        have HYY := Lib.hid hy
        clear hx hy
        have i0 : (0 : Int) ≤ k := by omega
        have i1 : (k : Int) < xs.length := by omega
        have i2 : (k : Int) < ys.length := by omega
        by_cases hxy : x = y
        · have hq : (x != y) = false := by simp [hxy]
          have HXY := Lib.hid hxy
          clear hxy
          go_wp2
          go_quiet (fail)
          go_wp2
          go_roundw
          case rel => exact ⟨k + 1, _, by omega, by go_num, rfl, Lib.hid (by rw [HX.out, HY.out, HT.out, HXY.out])⟩
          case measure => simp [intOf]; omega
        · have hq : (x != y) = true := by simp [hxy]
          have HN := Lib.hid (show decide (xs = ys) = false by
            simp
            intro h
            have := getD_of_eq h k
            rw [HXX.out, HYY.out] at this
            exact hxy this)
          clear hxy
          go_wp2
          go_quiet (fail)
          go_wp2
          go_ret
          rw [HN.out]
          exact ⟨rfl, _, World.drewN_drewN _ _ _⟩
      · have HE := Lib.hid (show decide (xs = ys) = true by
          simp
          exact eq_of_take HT.out (by omega) HL.out)
        go_wp2
        go_ret
        rw [HE.out]
        exact ⟨rfl, _, rfl⟩
  · have HN := Lib.hid (show decide (xs = ys) = false by simp; intro h; exact hlen (by rw [h]))
    have hbl : (xs.length != ys.length) = true := by simp [hlen]
    have hbl2 : ((xs.length : Int) != (ys.length : Int)) = true := by simp; omega
    clear hlen
    go_enter Tryd.func61, Tryd.ntmps61
    go_wp2
    go_ret
    rw [HN.out]
    exact ⟨rfl, 0, rfl⟩

set_option maxHeartbeats 400000 in
theorem spSame_any (w : World) (B : Nat) (va vb : Value) (xs ys : List (List Int)) (ha : RdG w B va xs) (hb : RdG w B vb ys) (hl : xs.length ≤ 9223372036854775807) (hr : ∀ r, r < xs.length → (xs.getD r []).length ≤ 9223372036854775807) :
    Calls Tryd.prog 47 #[va, vb] w fun e w' => e = .returned (.bool (decide (xs = ys))) ∧ ∃ n, w' = w.drewN n := by
  obtain ⟨A, c, rfl, kc_c, ha⟩ := ha
  obtain ⟨A', c', rfl, kc_cp, hb⟩ := hb
  have HA := Lib.hid ha
  have HB := Lib.hid hb
  have HR := Lib.hid hr
  clear ha hb hr
  by_cases hlen : xs.length = ys.length
  · have HL := Lib.hid hlen
    have hbl : (xs.length != ys.length) = false := by simp [hlen]
    have hbl2 : ((xs.length : Int) != (ys.length : Int)) = false := by simp [hlen]
    clear hlen
    go_enter Tryd.func47, Tryd.ntmps47
    go_wp2
    go_loopw [13, 5] (fun i _ wr => ∃ k : Nat, k ≤ xs.length ∧ i = .int .i64 k ∧ Hid (∃ n, wr = w.drewN n) ∧ Hid (∀ j, j < k → xs.getD j [] = ys.getD j [])) (fun i _ _ => xs.length - (intOf i).toNat)
    case atStart => exact ⟨0, Nat.zero_le _, rfl, Lib.hid ⟨0, rfl⟩, Lib.hid (fun j h => absurd h (Nat.not_lt_zero j))⟩
    case round =>
      obtain ⟨k, hk, rfl, HD, HT⟩ := hrel
      by_cases hlt : k < xs.length
      · have hlt2 : k < ys.length := by have := HL.out; omega
        obtain ⟨b, o, u, rfl, hbl3, hc0, r1⟩ := HA.out k hlt
        obtain ⟨b', o', u', rfl, hbl4, hc0', r2⟩ := HB.out k hlt2
        have hc : wr.cell? ⟨b, o + k, none⟩ = some u := by obtain ⟨n, rfl⟩ := HD.out; exact hc0
        have hc' : wr.cell? ⟨b', o' + k, none⟩ = some u' := by obtain ⟨n, rfl⟩ := HD.out; exact hc0'
        replace r1 : RdS wr (fun b => b < B) u (xs.getD k []) := by obtain ⟨n, rfl⟩ := HD.out; exact r1
        replace r2 : RdS wr (fun b => b < B) u' (ys.getD k []) := by obtain ⟨n, rfl⟩ := HD.out; exact r2
        clear hc0 hc0'
        have HR1 := Lib.hid r1
        have HR2 := Lib.hid r2
        have HRL := Lib.hid (HR.out k hlt)
        clear r1 r2
        have i1 : (k : Int) < xs.length := by omega
        have i2 : (k : Int) < ys.length := by omega
        have hq : ∀ m, Calls Tryd.prog 61 #[u, u'] (wr.drewN m) fun e w' => e = .returned (.bool (decide (xs.getD k [] = ys.getD k []))) ∧ ∃ n, w' = (wr.drewN m).drewN n := fun m => l1Same_any _ B _ _ _ _ HR1.out HR2.out HRL.out
        by_cases hxy : xs.getD k [] = ys.getD k []
        · have HXY := Lib.hid hxy
          have hd : decide (xs.getD k [] = ys.getD k []) = true := decide_eq_true hxy
          rw [hd] at hq
          have HQ := Lib.hid hq
          clear hd hq hxy
          go_wp2
          go_quiet ((go_at_call 61; exact Calls.quiet_of (HQ.out _)))
          go_wp2
          go_roundw
          case rel => exact ⟨k + 1, by omega, by go_num, Lib.hid (by obtain ⟨n, rfl⟩ := HD.out; exact ⟨_, World.drewN_drewN _ _ _⟩), Lib.hid (fun j hj => by
            by_cases c1 : j = k
            · rw [c1]; exact HXY.out
            · exact HT.out j (by omega))⟩
          case measure => simp [intOf]; omega
        · have hd : decide (xs.getD k [] = ys.getD k []) = false := decide_eq_false hxy
          rw [hd] at hq
          have HN := Lib.hid (show decide (xs = ys) = false by
            simp only [decide_eq_false_iff_not]
            intro h
            exact hxy (by rw [h]))
          have HQ := Lib.hid hq
          clear hd hq hxy
          go_wp2
          go_quiet ((go_at_call 61; exact Calls.quiet_of (HQ.out _)))
          go_wp2
          go_ret
          rw [HN.out]
          obtain ⟨n, rfl⟩ := HD.out
          exact ⟨rfl, _, World.drewN_drewN _ _ _⟩
      · have HE := Lib.hid (show decide (xs = ys) = true by
          simp only [decide_eq_true_eq]
          exact ext_getD [] HL.out (fun i hi => HT.out i (by omega)))
        go_wp2
        go_ret
        rw [HE.out]
        exact ⟨rfl, HD.out⟩
  · have HN := Lib.hid (show decide (xs = ys) = false by simp only [decide_eq_false_iff_not]; intro h; exact hlen (by rw [h]))
    have hbl : (xs.length != ys.length) = true := by simp [hlen]
    have hbl2 : ((xs.length : Int) != (ys.length : Int)) = true := by simp; omega
    clear hlen
    go_enter Tryd.func47, Tryd.ntmps47
    go_wp2
    go_ret
    rw [HN.out]
    exact ⟨rfl, 0, rfl⟩

/-- Whether a space is valid. -/
def isSp (p c : Int) (rows : List (List Int)) : Bool := fld p && decide (0 ≤ c) && decide (c ≤ 24) && decide ((rows.length : Int) ≤ c) && rows.all (rowB p c) && decide (rref p rows c.toNat = rows)
theorem isSp_no {p c : Int} {rows : List (List Int)} (h : fld p = false ∨ c < 0 ∨ 24 < c ∨ c < (rows.length : Int) ∨ rows.all (rowB p c) = false ∨ rref p rows c.toNat ≠ rows) : isSp p c rows = false := by
  cases e : isSp p c rows with
  | false => rfl
  | true =>
    unfold isSp at e
    simp only [Bool.and_eq_true, decide_eq_true_eq] at e
    obtain ⟨⟨⟨⟨⟨h1, h2⟩, h3⟩, h4⟩, h5⟩, h6⟩ := e
    rw [h1, h5] at h
    simp at h
    rcases h with h | h | h | h
    · omega
    · omega
    · omega
    · exact absurd h6 h
theorem isSp_parts {p c : Int} {rows : List (List Int)} (h : isSp p c rows = true) : fld p = true ∧ ∃ n : Nat, c = n ∧ n ≤ 24 ∧ rows.length ≤ n ∧ IsRed p rows.length n rows ∧ rref p rows n = rows := by
  unfold isSp at h
  simp only [Bool.and_eq_true, decide_eq_true_eq] at h
  obtain ⟨⟨⟨⟨⟨h1, h2⟩, h3⟩, h4⟩, h5⟩, h6⟩ := h
  obtain ⟨n, rfl⟩ : ∃ n : Nat, c = n := ⟨c.toNat, by omega⟩
  rw [Int.toNat_natCast] at h6
  exact ⟨h1, n, rfl, by omega, by omega, (rref_iff h1 (rows_mat h5)).1 h6, h6⟩
theorem isSp_yes {p : Int} {n : Nat} {rows : List (List Int)} (hf : fld p = true) (hn : n ≤ 24) (hl : rows.length ≤ n) (ha : rows.all (rowB p n) = true) (h : IsRed p rows.length n rows) : isSp p n rows = true := by
  unfold isSp
  simp only [Bool.and_eq_true, decide_eq_true_eq]
  refine ⟨⟨⟨⟨⟨hf, by omega⟩, by omega⟩, by omega⟩, ha⟩, ?_⟩
  rw [Int.toNat_natCast]
  exact rref_of_red hf h
theorem isSp_last {p : Int} {n : Nat} {rows : List (List Int)} (hf : fld p = true) (hn : n ≤ 24) (hl : rows.length ≤ n) (ha : rows.all (rowB p n) = true) : isSp p n rows = decide (rref p rows n = rows) := by
  unfold isSp
  rw [hf, ha, Int.toNat_natCast, show decide ((0 : Int) ≤ n) = true by simp, show decide ((n : Int) ≤ 24) = true by simp; omega, show decide ((rows.length : Int) ≤ n) = true by simp; omega]
  simp
set_option maxHeartbeats 3200000 in
set_option maxRecDepth 100000 in
theorem spGood_any (w : World) (B : Nat) (v : Value) (p c : Int) (rows : List (List Int)) (hv : LfG w B v rows) (hB : B ≤ w.heap.size) :
    Calls Tryd.prog 23 #[.int .i64 p, .agg #[.int .i64 c, v]] w (SaysB w (isSp p c rows)) := by
  obtain ⟨A, cp, rfl⟩ := hv.len
  have HVB := Lib.hid (show Below w.heap.size w (w.alloc (.cells #[.int .i64 c, .slice A rows.length cp] tSp)) from (Below.refl _ _).alloc (Nat.le_refl _) _)
  have HV := Lib.hid (hv.below HVB.out hB)
  have hB0 : B ≤ (w.alloc (.cells #[.int .i64 c, .slice A rows.length cp] tSp)).heap.size := Nat.le_trans hB HVB.out.size
  have HX0 := Lib.hid (cellsAt_new w #[.int .i64 c, .slice A rows.length cp] tSp)
  have hsz0 : (w.alloc (.cells #[.int .i64 c, .slice A rows.length cp] tSp)).heap.size = w.heap.size + 1 := by simp
  have HFD : Hid (∀ (W : World) (n : Nat), Calls Tryd.prog 45 #[.int .i64 p] (W.drewN n) fun e w' => e = .returned (.bool (fld p)) ∧ w' = W.drewN n) := Lib.hid (fun W n => (fdGood_any p _).mono fun _ _ h => ⟨h.1, h.2.symm⟩)
  clear hv hB
  cases hf : fld p with
  | false =>
    have HOK := Lib.hid (isSp_no (c := c) (rows := rows) (Or.inl hf))
    rw [hf] at HFD
    clear hf
    go_enter Tryd.func23, Tryd.ntmps23
    go_wp2
    generalize (w.alloc (.cells #[.int .i64 c, .slice A rows.length cp] tSp)) = W at HX0 hsz0 HV hB0 HVB ⊢
    obtain ⟨hx0, hx1, hxf0, hxf1, hxs⟩ := HX0.out.two
    clear hsz0
    go_quiet ((go_at_call 45; exact Calls.quiet_of_same (HFD.out _ _)))
    go_wp2
    go_ret
    rw [HOK.out]
    exact ⟨rfl, below_drewN HVB.out⟩
  | true =>
    rw [hf] at HFD
    by_cases hcb : c < 0 ∨ 24 < c
    · have HOK := Lib.hid (isSp_no (p := p) (c := c) (rows := rows) (by omega))
      have HIN : Hid (∀ (W : World) (n : Nat), Calls Tryd.prog 22 #[.int .i64 c, .int .i64 0, .int .i64 24] (W.drewN n) fun e w' => e = .returned (.bool false) ∧ w' = W.drewN n) := Lib.hid (fun W n => (l1In_f c 0 24 _ hcb).mono fun _ _ h => ⟨h.1, h.2.symm⟩)
      clear hf hcb
      go_enter Tryd.func23, Tryd.ntmps23
      go_wp2
      generalize (w.alloc (.cells #[.int .i64 c, .slice A rows.length cp] tSp)) = W at HX0 hsz0 HV hB0 HVB ⊢
      obtain ⟨hx0, hx1, hxf0, hxf1, hxs⟩ := HX0.out.two
      clear hsz0
      go_quiet ((first | (go_at_call 45; exact Calls.quiet_of_same (HFD.out _ _)) | (go_at_call 22; exact Calls.quiet_of_same (HIN.out _ _))))
      go_wp2
      go_ret
      rw [HOK.out]
      exact ⟨rfl, below_drewN HVB.out⟩
    · have HIN : Hid (∀ (W : World) (n : Nat), Calls Tryd.prog 22 #[.int .i64 c, .int .i64 0, .int .i64 24] (W.drewN n) fun e w' => e = .returned (.bool true) ∧ w' = W.drewN n) := Lib.hid (fun W n => (l1In_t c 0 24 _ (by omega) (by omega)).mono fun _ _ h => ⟨h.1, h.2.symm⟩)
      obtain ⟨m, rfl⟩ : ∃ m : Nat, c = m := ⟨c.toNat, by omega⟩
      have hm24 : m ≤ 24 := by omega
      clear hcb
      by_cases hlc : rows.length ≤ m
      rotate_left
      · have HOK := Lib.hid (isSp_no (p := p) (c := m) (rows := rows) (by omega))
        have hd : decide ((rows.length : Int) ≤ (m : Int)) = false := by simp; omega
        have hd2 : decide (rows.length ≤ m) = false := by simp; omega
        clear hf
        go_enter Tryd.func23, Tryd.ntmps23
        go_wp2
        generalize (w.alloc (.cells #[.int .i64 m, .slice A rows.length cp] tSp)) = W at HX0 hsz0 HV hB0 HVB ⊢
        obtain ⟨hx0, hx1, hxf0, hxf1, hxs⟩ := HX0.out.two
        clear hsz0
        go_quiet ((first | (go_at_call 45; exact Calls.quiet_of_same (HFD.out _ _)) | (go_at_call 22; exact Calls.quiet_of_same (HIN.out _ _))))
        go_wp2
        go_ret
        rw [HOK.out]
        exact ⟨rfl, below_drewN HVB.out⟩
      · have hlI : (rows.length : Int) ≤ (m : Int) := by omega
        have HRW : Hid (∀ (W : World), LfG W B (.slice A rows.length cp) rows → ∀ (n : Nat), Calls Tryd.prog 46 #[.int .i64 p, .int .i64 m, .slice A rows.length cp] (W.drewN n) fun e w' => e = .returned (.bool (rows.all (rowB p m))) ∧ w' = W.drewN n) := Lib.hid (fun W hV n => (spRows_any (W.drewN n) B _ p m rows (by exact hV.1) hV.2.1 hV.2.2 hf).mono fun _ _ h => ⟨h.1, h.2.symm⟩)
        cases hall : rows.all (rowB p m) with
        | false =>
          have HOK := Lib.hid (isSp_no (p := p) (c := m) (rows := rows) (Or.inr (Or.inr (Or.inr (Or.inr (Or.inl hall))))))
          rw [hall] at HRW
          clear hf hall
          go_enter Tryd.func23, Tryd.ntmps23
          go_wp2
          generalize (w.alloc (.cells #[.int .i64 m, .slice A rows.length cp] tSp)) = W at HX0 hsz0 HV hB0 HVB ⊢
          obtain ⟨hx0, hx1, hxf0, hxf1, hxs⟩ := HX0.out.two
          clear hsz0
          go_quiet ((first | (go_at_call 45; exact Calls.quiet_of_same (HFD.out _ _)) | (go_at_call 22; exact Calls.quiet_of_same (HIN.out _ _)) | (go_at_call 46; exact Calls.quiet_of_same (HRW.out _ HV.out _))))
          go_wp2
          go_ret
          rw [HOK.out]
          exact ⟨rfl, below_drewN HVB.out⟩
        | true =>
          have HOK := Lib.hid (isSp_last hf hm24 hlc hall)
          have HM := Lib.hid (rows_mat hall)
          have HF := Lib.hid hf
          have HRL := Lib.hid (rref_le hf HM.out)
          have HRM := Lib.hid (rref_mat hf HM.out)
          have HFQ : Hid (fld p = true) := HF
          have HALL := Lib.hid hall
          obtain ⟨h1, h2⟩ := fld_bd hf
          clear hf hall
          go_enter Tryd.func23, Tryd.ntmps23
          go_wp2
          generalize (w.alloc (.cells #[.int .i64 m, .slice A rows.length cp] tSp)) = W at HX0 hsz0 HV hB0 HVB ⊢
          obtain ⟨hx0, hx1, hxf0, hxf1, hxs⟩ := HX0.out.two
          have HELD : Hid (∀ w' : World, w'.heap[w.heap.size]? = W.heap[w.heap.size]? → w'.cell? ⟨w.heap.size, 0, none⟩ = some (.int .i64 m) ∧ w'.cell? ⟨w.heap.size, 1, none⟩ = some (.slice A rows.length cp)) := Lib.hid (fun w' H => ⟨(World.cell?_of_block (w := W) H).trans hx0, (World.cell?_of_block (w := W) H).trans hx1⟩)
          have HQ0 : Hid (W.drew.heap[w.heap.size]? = W.heap[w.heap.size]?) := Lib.hid rfl
          have HVD := Lib.hid (show LfG W.drew B (.slice A rows.length cp) rows from HV.out)
          have hBD : B ≤ W.drew.heap.size := hB0
          clear hx0 hx1 hxf0 hxf1 hxs
          go_region_held3 (fun w' => w'.cell? ⟨w.heap.size, 0, none⟩ = some (.int .i64 m) ∧ w'.cell? ⟨w.heap.size, 1, none⟩ = some (.slice A rows.length cp))
            (first | with_reducible exact HELD.out _ HQ0.out | with_reducible exact HELD.out _ HQ2.out | with_reducible exact HELD.out _ HQ3.out)
            (first
              | (go_at_call 45; go_split_ands; refine (fdGood_any p _).mono ?_; rintro e wq ⟨rfl, rfl⟩; rw [HFQ.out])
              | (go_at_call 22; go_split_ands; refine (l1In_t (m : Int) 0 24 _ (by omega) (by omega)).mono ?_; rintro e wq ⟨rfl, rfl⟩)
              | (go_at_call 46; go_split_ands; refine (spRows_any W.drew B _ p m rows HVD.out.1 HVD.out.2.1 HVD.out.2.2 HFQ.out).mono ?_; rintro e wq ⟨rfl, rfl⟩; rw [HALL.out])
              | (go_at_call 48; go_split_ands; refine (spReduce_any W.drew B _ p rows.length m rows HVD.out.1 hBD HF.out HM.out (by omega) (by omega)).mono ?_; rintro e w2 ⟨v2, rfl, b2, o2⟩; have HB2 : Hid (Below W.heap.size W w2) := Lib.hid ((Below.refl _ _).drew.trans b2); have HQ2 : Hid (w2.heap[w.heap.size]? = W.heap[w.heap.size]?) := Lib.hid (HB2.out.block _ (by omega)); have HO2 := Lib.hid (OwG.readB o2); clear b2 o2)
              | (go_at_call 47; go_split_ands; refine (spSame_any w2 w2.heap.size _ _ (rref p rows m) rows HO2.out ((HV.out.1.below HB2.out hB0).mono (Nat.le_trans hB0 HB2.out.size)) (by have := HRL.out; omega) (fun r hr => by have := (HRM.out.row hr).1; omega)).mono ?_; rintro e w3 ⟨rfl, n3, rfl⟩; have HB3 : Hid (Below W.heap.size W (w2.drewN n3)) := Lib.hid (below_drewN HB2.out); have HQ3 : Hid ((w2.drewN n3).heap[w.heap.size]? = W.heap[w.heap.size]?) := HQ2))
          go_wp2
          go_ret
          rw [HOK.out]
          exact ⟨rfl, HVB.out.trans (HB3.out.mono HVB.out.size)⟩
end Go.Proofs.YtdjgkcnhmfkjoaaDoor

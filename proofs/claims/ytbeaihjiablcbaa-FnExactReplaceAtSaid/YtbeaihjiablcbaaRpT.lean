/- ReplaceAt: the program's side. -/
import Derived.Test.YtbeaihjiablcbaaSubT
import Derived.Test.YtbeaihjiablcbaaNdC
import Derived.Test.YtbeaihjiablcbaaRpM
import Derived.Test.YtbeaihjiablcbaaRetTermB
namespace Go.Proofs.Ytbeaihjiablcbaa
set_option maxRecDepth 100000
open Go Go.RowKit Go.Deep

def tyEq (x y : List Nd) : Bool := tyOk x && (tyOk y && (decide (tyIn x = tyIn y) && decide (tyOut x = tyOut y)))
set_option maxRecDepth 100000 in
set_option maxHeartbeats 6400000 in
theorem haveOneType_any (w : World) (B : Nat) (va vb : Value) (x y : List Nd) (ha : LfN w B va x) (hb : LfN w B vb y) (hB : B ≤ w.heap.size) :
    Calls Try.prog 34 #[.agg #[va], .agg #[vb]] w fun e w' => e = .returned (.bool (tyEq x y)) ∧ Below w.heap.size w w' := by
  have HB0 := Lib.hid (show Below w.heap.size w ((w.alloc (.cells #[va] tTm)).alloc (.cells #[vb] tTm)) from ((Below.refl _ _).alloc (Nat.le_refl _) _).alloc (by simp) _)
  have HPA := Lib.hid (partOf_any ((w.alloc (.cells #[va] tTm)).alloc (.cells #[vb] tTm)) B va x (ha.below HB0.out hB) (by simp; omega))
  have HPB := Lib.hid (fun (w' : World) (h : Below w.heap.size w w') => partOf_any w' B vb y (hb.below h hB) (Nat.le_trans hB h.size))
  have HC0 := Lib.hid (cellsAt_new' (w.alloc (.cells #[va] tTm)) #[vb] tTm [vb] (w.heap.size + 1) (by simp) rfl)
  have hsz0 : ((w.alloc (.cells #[va] tTm)).alloc (.cells #[vb] tTm)).heap.size = w.heap.size + 2 := by simp
  obtain ⟨A, c, rfl⟩ := ha.len
  obtain ⟨A', c', rfl⟩ := hb.len
  clear ha hb hB
  cases hta : treeOf x with
  | none =>
    have H1 : Hid (tyEq x y = false) := Lib.hid (by unfold tyEq tyOk; rw [hta]; rfl)
    have HTA : Hid ((treeOf x).isSome = false) := Lib.hid (by rw [hta]; rfl)
    obtain ⟨bu, HTB⟩ : ∃ bu, Hid ((treeOf y).isSome = bu) := ⟨_, Lib.hid rfl⟩
    clear hta
    go_enter Try.func34, Try.ntmps34
    go_wp2_with fail
    refine HPA.out.mono ?_
    rintro e w2 ⟨u, ok, rfl, b2, hok, hu⟩
    rw [HTA.out] at hok
    subst hok
    have HB2 := Lib.hid (HB0.out.trans (b2.mono (by rw [hsz0]; omega)))
    have hc2 : w2.cell? ⟨w.heap.size + 1, 0, none⟩ = some (.slice A' y.length c') := (HC0.out.below b2 (by rw [hsz0]; omega)).cell (i := 0) (by simp)
    clear b2
    go_wp2_with fail
    refine (HPB.out _ HB2.out).mono ?_
    rintro e w3 ⟨u2, ok2, rfl, b3, hok2, hu2⟩
    rw [HTB.out] at hok2
    subst hok2
    have HB3 := Lib.hid (HB2.out.trans (b3.mono HB2.out.size))
    clear b3
    clear hu hu2
    go_wp2
    all_goals
      refine bodyPost_ret (v := .bool false) (by simp [results, Try.results34, go_sem]) rfl ?_
      rw [H1.out]
      exact ⟨rfl, HB3.out⟩
  | some ta =>
    have HTA : Hid ((treeOf x).isSome = true) := Lib.hid (by rw [hta]; rfl)
    cases htb : treeOf y with
    | none =>
      have H1 : Hid (tyEq x y = false) := Lib.hid (by unfold tyEq tyOk; rw [hta, htb]; rfl)
      have HTB : Hid ((treeOf y).isSome = false) := Lib.hid (by rw [htb]; rfl)
      clear hta htb
      go_enter Try.func34, Try.ntmps34
      go_wp2_with fail
      refine HPA.out.mono ?_
      rintro e w2 ⟨u, ok, rfl, b2, hok, hu⟩
      rw [HTA.out] at hok
      subst hok
      have HB2 := Lib.hid (HB0.out.trans (b2.mono (by rw [hsz0]; omega)))
      have hc2 : w2.cell? ⟨w.heap.size + 1, 0, none⟩ = some (.slice A' y.length c') := (HC0.out.below b2 (by rw [hsz0]; omega)).cell (i := 0) (by simp)
      clear b2
      go_wp2_with fail
      refine (HPB.out _ HB2.out).mono ?_
      rintro e w3 ⟨u2, ok2, rfl, b3, hok2, hu2⟩
      rw [HTB.out] at hok2
      subst hok2
      have HB3 := Lib.hid (HB2.out.trans (b3.mono HB2.out.size))
      clear b3
      clear hu hu2
      go_wp2
      refine bodyPost_ret (v := .bool false) (by simp [results, Try.results34, go_sem]) rfl ?_
      rw [H1.out]
      exact ⟨rfl, HB3.out⟩
    | some tb =>
      have HTB : Hid ((treeOf y).isSome = true) := Lib.hid (by rw [htb]; rfl)
      have H1 : Hid (tyEq x y = (decide (ta.inw = tb.inw) && decide (ta.outw = tb.outw))) := Lib.hid (by unfold tyEq tyOk tyIn tyOut; rw [hta, htb]; rfl)
      have HA := Lib.hid hta
      have HC := Lib.hid htb
      obtain ⟨Ta, Va, ga, ea, hma, hca, hCa⟩ := trV_wires ta
      obtain ⟨Tb, Vb, gb, eb, hmb, hcb, hCb⟩ := trV_wires tb
      have HEA := Lib.hid ea
      have HEB := Lib.hid eb
      have HCa := Lib.hid hCa
      have HCb := Lib.hid hCb
      clear hta htb ea eb hCa hCb
      generalize ta.inw = ia at *
      generalize ta.outw = oa at *
      generalize tb.inw = ib at *
      generalize tb.outw = ob at *
      go_enter Try.func34, Try.ntmps34
      go_wp2_with fail
      refine HPA.out.mono ?_
      rintro e w2 ⟨u, ok, rfl, b2, hok, hu⟩
      rw [HTA.out] at hok
      subst hok
      have HB2 := Lib.hid (HB0.out.trans (b2.mono (by rw [hsz0]; omega)))
      have hc2 : w2.cell? ⟨w.heap.size + 1, 0, none⟩ = some (.slice A' y.length c') := (HC0.out.below b2 (by rw [hsz0]; omega)).cell (i := 0) (by simp)
      clear b2
      go_wp2_with fail
      refine (HPB.out _ HB2.out).mono ?_
      rintro e w3 ⟨u2, ok2, rfl, b3, hok2, hu2⟩
      rw [HTB.out] at hok2
      subst hok2
      have HB3 := Lib.hid (HB2.out.trans (b3.mono HB2.out.size))
      clear b3
      have hu3 := (hu ta HA.out).trans HEA.out
      have hu4 := (hu2 tb HC.out).trans HEB.out
      subst hu3
      subst hu4
      clear hu hu2
      by_cases h1 : ia = ib
      · by_cases h2 : oa = ob
        · have e1 : (decide (ia = ib) && decide (oa = ob)) = true := by rw [decide_eq_true h1, decide_eq_true h2]; rfl
          rw [e1] at H1
          subst h1
          subst h2
          clear e1
          go_wp2_with (first | ((with_reducible refine (HCa.out _).mono ?_); rintro e w4 ⟨rfl, b4⟩; have HB4 := Lib.hid (HB3.out.trans (b4.mono HB3.out.size)); clear b4; unfold wcV) | ((with_reducible refine (HCb.out _).mono ?_); rintro e w5 ⟨rfl, b5⟩; have HB5 := Lib.hid (HB4.out.trans (b5.mono HB4.out.size)); clear b5; unfold wcV) | fail)
          refine bodyPost_ret (v := .bool true) (by simp [results, Try.results34, go_sem]) rfl ?_
          rw [H1.out]
          exact ⟨rfl, HB5.out⟩
        · have e1 : (decide (ia = ib) && decide (oa = ob)) = false := by rw [decide_eq_false h2, Bool.and_false]
          rw [e1] at H1
          subst h1
          clear e1
          go_wp2_with (first | ((with_reducible refine (HCa.out _).mono ?_); rintro e w4 ⟨rfl, b4⟩; have HB4 := Lib.hid (HB3.out.trans (b4.mono HB3.out.size)); clear b4; unfold wcV) | ((with_reducible refine (HCb.out _).mono ?_); rintro e w5 ⟨rfl, b5⟩; have HB5 := Lib.hid (HB4.out.trans (b5.mono HB4.out.size)); clear b5; unfold wcV) | fail)
          refine bodyPost_ret (v := .bool false) (by simp [results, Try.results34, go_sem]) rfl ?_
          rw [H1.out]
          exact ⟨rfl, HB5.out⟩
      · have e1 : (decide (ia = ib) && decide (oa = ob)) = false := by rw [decide_eq_false h1]; rfl
        rw [e1] at H1
        clear e1
        go_wp2_with (first | ((with_reducible refine (HCa.out _).mono ?_); rintro e w4 ⟨rfl, b4⟩; have HB4 := Lib.hid (HB3.out.trans (b4.mono HB3.out.size)); clear b4; unfold wcV) | ((with_reducible refine (HCb.out _).mono ?_); rintro e w5 ⟨rfl, b5⟩; have HB5 := Lib.hid (HB4.out.trans (b5.mono HB4.out.size)); clear b5; unfold wcV) | fail)
        refine bodyPost_ret (v := .bool false) (by simp [results, Try.results34, go_sem]) rfl ?_
        rw [H1.out]
        exact ⟨rfl, HB5.out⟩
theorem rdgn_three {w : World} {b B : Nat} {A1 A2 A3 : Option Addr} {n1 n2 n3 c1 c2 c3 : Nat} {x1 x2 x3 : List Nd} {t : TypeId} (h : CellsAt w b t [.slice A1 n1 c1, .slice A2 n2 c2, .slice A3 n3 c3]) (hb : b < B) (h1 : RdN w (fun q => q < B) (.slice A1 n1 c1) x1) (h2 : RdN w (fun q => q < B) (.slice A2 n2 c2) x2) (h3 : RdN w (fun q => q < B) (.slice A3 n3 c3) x3) : RdGN w B (.slice (some ⟨b, 0, none⟩) 3 3) [x1, x2, x3] := by
  obtain ⟨_, _, e1, _⟩ := id h1
  obtain ⟨_, _, e2, _⟩ := id h2
  obtain ⟨_, _, e3, _⟩ := id h3
  obtain ⟨-, rfl, -⟩ := sliceEq e1
  obtain ⟨-, rfl, -⟩ := sliceEq e2
  obtain ⟨-, rfl, -⟩ := sliceEq e3
  refine ⟨_, 3, rfl, fun r hr => ?_⟩
  match r, hr with
  | 0, _ => exact ⟨b, 0, A1, c1, rfl, hb, h.cell (i := 0) (by simp), h1⟩
  | 1, _ => exact ⟨b, 0, A2, c2, rfl, hb, h.cell (i := 1) (by simp), h2⟩
  | 2, _ => exact ⟨b, 0, A3, c3, rfl, hb, h.cell (i := 2) (by simp), h3⟩
theorem RdN.takeN {w : World} {S : Nat → Prop} {b o n c : Nat} {x : List Nd} {f : Nat} (h : RdN w S (.slice (some ⟨b, o, none⟩) n c) x) (hf : f ≤ x.length) : RdN w S (.slice (some ⟨b, o, none⟩) f c) (x.take f) := by
  obtain ⟨A', c', e, hc, _⟩ := id h
  obtain ⟨-, -, rfl⟩ := sliceEq e
  have hl : (x.take f).length = f := by rw [List.length_take]; omega
  refine ⟨_, c, by rw [hl], by rw [hl]; omega, fun k hk => ?_⟩
  rw [hl] at hk
  obtain ⟨b', o', e2, hS, c0, c1, c2⟩ := h.at (k := k) (by omega)
  obtain ⟨rfl, rfl⟩ : b = b' ∧ o = o' := by simpa using e2
  have e3 : (x.take f).getD k nd0 = x.getD k nd0 := by rw [List.getD_eq_getElem?_getD, List.getElem?_take_of_lt hk, List.getD_eq_getElem?_getD]
  rw [e3]
  exact ⟨b, o, rfl, hS, c0, c1, c2⟩
theorem RdN.dropN {w : World} {S : Nat → Prop} {b o n c : Nat} {x : List Nd} {f : Nat} (h : RdN w S (.slice (some ⟨b, o, none⟩) n c) x) (hf : f ≤ x.length) : RdN w S (.slice (some ⟨b, o + f * 3, none⟩) (n - f) (c - f)) (x.drop f) := by
  obtain ⟨A', c', e, hc, _⟩ := id h
  obtain ⟨-, rfl, rfl⟩ := sliceEq e
  refine ⟨_, c - f, by rw [List.length_drop], by rw [List.length_drop]; omega, fun k hk => ?_⟩
  rw [List.length_drop] at hk
  obtain ⟨b', o', e2, hS, c0, c1, c2⟩ := h.at (k := f + k) (by omega)
  obtain ⟨rfl, rfl⟩ : b = b' ∧ o = o' := by simpa using e2
  have e3 : (x.drop f).getD k nd0 = x.getD (f + k) nd0 := by rw [List.getD_eq_getElem?_getD, List.getElem?_drop, List.getD_eq_getElem?_getD]
  rw [e3]
  have e4 : o + f * 3 + k * 3 = o + (f + k) * 3 := by omega
  exact ⟨b, _, rfl, hS, by rw [e4]; exact c0, by rw [e4]; exact c1, by rw [e4]; exact c2⟩
theorem RdN.none' {w : World} {S : Nat → Prop} (A : Option Addr) (c : Nat) {x : List Nd} (h : x = []) : RdN w S (.slice A 0 c) x := by
  subst h
  exact ⟨A, c, rfl, Nat.zero_le _, fun k hk => absurd hk (Nat.not_lt_zero k)⟩
theorem RdN.below2 {w w' : World} {B B' : Nat} {v : Value} {x : List Nd} (h : RdN w (fun q => q < B) v x) (hb : Below w.heap.size w w') (hB : B ≤ w.heap.size) (hBB : B ≤ B' := by omega) : RdN w' (fun q => q < B') v x := (h.below hb hB).mono fun _ hk => Nat.lt_of_lt_of_le hk hBB
theorem mem_ix {x : List Nd} {n : Nd} (h : n ∈ x) : ∃ k, k < x.length ∧ x.getD k nd0 = n := by
  obtain ⟨i, hi, rfl⟩ := List.mem_iff_getElem.1 h
  exact ⟨i, hi, by rw [List.getD_eq_getElem?_getD, List.getElem?_eq_getElem hi]; rfl⟩
theorem OwnN.rp {w : World} {S : Nat → Prop} {v va vb : Value} {x y z : List Nd} {f q B1 B2 : Nat} {w1 w2 : World} (hz : z = x.take f ++ (y ++ x.drop (q + 1))) (hl : f + (y.length + (x.length - (q + 1))) ≤ 400) (hx : LfN w1 B1 va x) (hy : LfN w2 B2 vb y) (h : OwN w S v z) : OwnN w S v z := by
  refine ⟨h, by unfold cntN; rw [hz]; simp; omega, fun k hk => ?_⟩
  have hm := getD_mem' hk nd0
  generalize z.getD k nd0 = n at hm
  rw [hz] at hm
  rcases List.mem_append.1 hm with hm | hm
  · obtain ⟨j, hj, rfl⟩ := mem_ix (List.mem_of_mem_take hm)
    exact hx.2.2 j hj
  · rcases List.mem_append.1 hm with hm | hm
    · obtain ⟨j, hj, rfl⟩ := mem_ix hm
      exact hy.2.2 j hj
    · obtain ⟨j, hj, rfl⟩ := mem_ix (List.mem_of_mem_drop hm)
      exact hx.2.2 j hj
def rpOk (x : List Nd) (p : Int) (y : List Nd) : Bool := subOk x p && (tyEq (subL x p) y && decide (x.length + y.length ≤ 400 + (subL x p).length))
def rpL (x : List Nd) (p : Int) (y : List Nd) : List Nd := if rpOk x p y = true then x.take ((bk x (p.toNat + 1) 1).getD 0) ++ (y ++ x.drop (p.toNat + 1)) else []
set_option maxRecDepth 100000 in
set_option maxHeartbeats 12800000 in
theorem impl_ReplaceAt (w : World) (B : Nat) (va vb : Value) (x y : List Nd) (p : Int) (hpb : Bi p) (ha : LfN w B va x) (hb : LfN w B vb y) (hB : B ≤ w.heap.size) (hx : szN x ≤ 1048576) (hy : szN y ≤ 1048576) :
    Calls Try.prog 17 #[.agg #[va], .int .i64 p, .agg #[vb]] w (IRetTermB w (rpL x p y) (rpOk x p y)) := by
  have HB0 := Lib.hid (show Below w.heap.size w (((w.alloc (.cells #[va] tTm)).alloc (.cells #[vb] tTm)).alloc (.cells #[.slice none 0 0] tTm)) from (((Below.refl _ _).alloc (Nat.le_refl _) _).alloc (by simp) _).alloc (by simp; omega) _)
  have HSU := Lib.hid (impl_SubtermAt (((w.alloc (.cells #[va] tTm)).alloc (.cells #[vb] tTm)).alloc (.cells #[.slice none 0 0] tTm)) B va x p hpb (ha.below HB0.out hB) (by simp; omega) hx)
  have HA0 := Lib.hid (((cellsAt_new' w #[va] tTm [va] w.heap.size rfl rfl).alloc (.cells #[vb] tTm)).alloc (.cells #[.slice none 0 0] tTm))
  have HC0 := Lib.hid ((cellsAt_new' (w.alloc (.cells #[va] tTm)) #[vb] tTm [vb] (w.heap.size + 1) (by simp) rfl).alloc (.cells #[.slice none 0 0] tTm))
  have HR0 := Lib.hid (cellsAt_new' ((w.alloc (.cells #[va] tTm)).alloc (.cells #[vb] tTm)) #[.slice none 0 0] tTm [.slice none 0 0] (w.heap.size + 2) (by simp) rfl)
  have hsz0 : (((w.alloc (.cells #[va] tTm)).alloc (.cells #[vb] tTm)).alloc (.cells #[.slice none 0 0] tTm)).heap.size = w.heap.size + 3 := by simp
  have HX := Lib.hid ha
  have HY := Lib.hid hb
  have HB := Lib.hid hB
  obtain ⟨hpb1, hpb2⟩ := hpb
  obtain ⟨A, c, rfl⟩ := ha.len
  obtain ⟨A', c', rfl⟩ := hb.len
  have hyl : y.length ≤ 1048576 := by unfold szN szNs at hy; omega
  clear ha hb hB hx hy
  cases hso : subOk x p with
  | false =>
    have H3 : Hid (rpOk x p y = false) := Lib.hid (by unfold rpOk; rw [hso]; rfl)
    have H1 : Hid (rpL x p y = []) := Lib.hid (by unfold rpL; rw [H3.out]; rfl)
    have HSO := Lib.hid hso
    clear hso
    generalize subL x p = sl at *
    go_enter Try.func17, Try.ntmps17
    go_wp2_with fail
    refine HSU.out.mono ?_
    rintro e w2 ⟨v2, rfl, b2, o2⟩
    rw [HSO.out]
    have HB2 := Lib.hid (HB0.out.trans (b2.mono (by rw [hsz0]; omega)))
    have HA2 := Lib.hid (HA0.out.below b2 (by rw [hsz0]; omega))
    have HC2 := Lib.hid (HC0.out.below b2 (by rw [hsz0]; omega))
    have HR2 := Lib.hid (HR0.out.below b2 (by rw [hsz0]; omega))
    have hsz2 : w.heap.size + 3 ≤ w2.heap.size := by rw [← hsz0]; exact b2.size
    obtain ⟨A2, c2, rfl⟩ := o2.len
    have HO2 := Lib.hid o2.rd
    have ha2 : w2.cell? ⟨w.heap.size, 0, none⟩ = some (.slice A x.length c) := HA2.out.cell (i := 0) (by simp)
    have hc2 : w2.cell? ⟨w.heap.size + 1, 0, none⟩ = some (.slice A' y.length c') := HC2.out.cell (i := 0) (by simp)
    have hr2 : w2.cell? ⟨w.heap.size + 2, 0, none⟩ = some (.slice none 0 0) := HR2.out.cell (i := 0) (by simp)
    have hrf2 := HR2.out.frozen
    have hlt0 : w.heap.size < w2.heap.size := by omega
    have hlt1 : w.heap.size + 1 < w2.heap.size := by omega
    have hlt2 : w.heap.size + 2 < w2.heap.size := by omega
    have hq2 : ((w2.setCell ⟨w.heap.size + 2, 0, none⟩ (.slice none 0 0)).alloc (.cells #[.slice A2 sl.length c2] tTm)).cell? ⟨w.heap.size + 2, 0, none⟩ = some (.slice none 0 0) := ((HR2.out.set 0 (.slice none 0 0)).alloc _).cell (i := 0) (by simp)
    clear b2 o2
    go_wp2
    refine bodyPost_ret (v := .tuple #[.agg #[.slice none 0 0], .bool false]) (by simp [results, Try.results17, go_sem, hq2]) rfl ?_
    unfold IRetTermB
    rw [H1.out, H3.out]
    exact ⟨_, rfl, (HB2.out.setCell (by dsimp only; omega) _).alloc (by simp; omega) _, ownN_nil _ _⟩
  | true =>
    have hso2 := hso
    unfold subOk at hso2
    rw [Bool.and_eq_true, decide_eq_true_eq] at hso2
    obtain ⟨hty, hp0, hpx⟩ := hso2
    obtain ⟨t, ht⟩ := Option.isSome_iff_exists.1 hty
    obtain ⟨X, hX, -, -, hx4, -, -⟩ := ty_both ht
    obtain ⟨q, rfl⟩ : ∃ q : Nat, p = (q : Int) := ⟨p.toNat, by omega⟩
    have hq : q < x.length := by omega
    obtain ⟨f, hf, hfq, -⟩ := sub_first hX hq
    have hsub : subL x (q : Int) = (x.take (q + 1)).drop f := by unfold subL; rw [hso, if_pos rfl]; show (x.take (q + 1)).drop ((bk x (q + 1) 1).getD 0) = _; rw [hf]; rfl
    have hsl : (subL x (q : Int)).length = q + 1 - f := by rw [hsub, sub_len hq]
    have hrp : rpOk x (q : Int) y = (tyEq (subL x (q : Int)) y && decide (x.length + y.length ≤ 400 + (subL x (q : Int)).length)) := by unfold rpOk; rw [hso]; rfl
    have hrl : rpL x (q : Int) y = if rpOk x (q : Int) y = true then x.take f ++ (y ++ x.drop (q + 1)) else [] := by
      unfold rpL
      show (if rpOk x (q : Int) y = true then x.take ((bk x (q + 1) 1).getD 0) ++ (y ++ x.drop (q + 1)) else []) = _
      rw [hf]
      rfl
    have HF := Lib.hid hf
    have HSO := Lib.hid hso
    clear hso hty hX hsub hf ht hp0 hpx
    cases heq : tyEq (subL x (q : Int)) y with
    | false =>
      have H3 : Hid (rpOk x (q : Int) y = false) := Lib.hid (by rw [hrp, heq]; rfl)
      have H1 : Hid (rpL x (q : Int) y = []) := Lib.hid (by rw [hrl, H3.out]; rfl)
      have HEQ := Lib.hid heq
      clear heq hrp hrl
      generalize subL x (q : Int) = sl at *
      have HSL := Lib.hid hsl
      clear hsl
      go_enter Try.func17, Try.ntmps17
      go_wp2_with fail
      refine HSU.out.mono ?_
      rintro e w2 ⟨v2, rfl, b2, o2⟩
      rw [HSO.out]
      have HB2 := Lib.hid (HB0.out.trans (b2.mono (by rw [hsz0]; omega)))
      have HA2 := Lib.hid (HA0.out.below b2 (by rw [hsz0]; omega))
      have HC2 := Lib.hid (HC0.out.below b2 (by rw [hsz0]; omega))
      have HR2 := Lib.hid (HR0.out.below b2 (by rw [hsz0]; omega))
      have hsz2 : w.heap.size + 3 ≤ w2.heap.size := by rw [← hsz0]; exact b2.size
      obtain ⟨A2, c2, rfl⟩ := o2.len
      have HO2 := Lib.hid o2.rd
      have ha2 : w2.cell? ⟨w.heap.size, 0, none⟩ = some (.slice A x.length c) := HA2.out.cell (i := 0) (by simp)
      have hc2 : w2.cell? ⟨w.heap.size + 1, 0, none⟩ = some (.slice A' y.length c') := HC2.out.cell (i := 0) (by simp)
      have hr2 : w2.cell? ⟨w.heap.size + 2, 0, none⟩ = some (.slice none 0 0) := HR2.out.cell (i := 0) (by simp)
      have hrf2 := HR2.out.frozen
      have hlt0 : w.heap.size < w2.heap.size := by omega
      have hlt1 : w.heap.size + 1 < w2.heap.size := by omega
      have hlt2 : w.heap.size + 2 < w2.heap.size := by omega
      have hq2 : ((w2.setCell ⟨w.heap.size + 2, 0, none⟩ (.slice none 0 0)).alloc (.cells #[.slice A2 sl.length c2] tTm)).cell? ⟨w.heap.size + 2, 0, none⟩ = some (.slice none 0 0) := ((HR2.out.set 0 (.slice none 0 0)).alloc _).cell (i := 0) (by simp)
      clear b2 o2
      have HW3 : Hid (Below w2.heap.size w2 (w2.alloc (.cells #[.slice A2 sl.length c2] tTm))) := Lib.hid ((Below.refl _ _).alloc (Nat.le_refl _) _)
      have HB3 : Hid (Below w.heap.size w (w2.alloc (.cells #[.slice A2 sl.length c2] tTm))) := Lib.hid (HB2.out.alloc (by omega) _)
      have HHO := Lib.hid (haveOneType_any (w2.alloc (.cells #[.slice A2 sl.length c2] tTm)) w2.heap.size (.slice A2 sl.length c2) (.slice A' y.length c') sl y (HO2.out.below HW3.out (Nat.le_refl _)) ((HY.out.below HB3.out HB.out).mono (by have := HB.out; omega)) (by simp))
      rw [HEQ.out] at HHO
      have HD2 := Lib.hid (cellsAt_new' w2 #[.slice A2 sl.length c2] tTm [.slice A2 sl.length c2] w2.heap.size rfl rfl)
      have hsz3 : (w2.alloc (.cells #[.slice A2 sl.length c2] tTm)).heap.size = w2.heap.size + 1 := by simp
      go_wp2_with fail
      refine HHO.out.mono ?_
      rintro e w4 ⟨rfl, b4⟩
      have HB4 := Lib.hid (HB3.out.trans (b4.mono (by rw [hsz3]; omega)))
      have HA4 := Lib.hid ((HA2.out.alloc (.cells #[.slice A2 sl.length c2] tTm)).below b4 (by rw [hsz3]; omega))
      have HC4 := Lib.hid ((HC2.out.alloc (.cells #[.slice A2 sl.length c2] tTm)).below b4 (by rw [hsz3]; omega))
      have HR4 := Lib.hid ((HR2.out.alloc (.cells #[.slice A2 sl.length c2] tTm)).below b4 (by rw [hsz3]; omega))
      have HD4 := Lib.hid (HD2.out.below b4 (by rw [hsz3]; omega))
      have hsz4 : w2.heap.size + 1 ≤ w4.heap.size := by rw [← hsz3]; exact b4.size
      have ha4 : w4.cell? ⟨w.heap.size, 0, none⟩ = some (.slice A x.length c) := HA4.out.cell (i := 0) (by simp)
      have hc4 : w4.cell? ⟨w.heap.size + 1, 0, none⟩ = some (.slice A' y.length c') := HC4.out.cell (i := 0) (by simp)
      have hd4 : w4.cell? ⟨w2.heap.size, 0, none⟩ = some (.slice A2 sl.length c2) := HD4.out.cell (i := 0) (by simp)
      have hr4 : w4.cell? ⟨w.heap.size + 2, 0, none⟩ = some (.slice none 0 0) := HR4.out.cell (i := 0) (by simp)
      have hrf4 := HR4.out.frozen
      have hq4 : (w4.setCell ⟨w.heap.size + 2, 0, none⟩ (.slice none 0 0)).cell? ⟨w.heap.size + 2, 0, none⟩ = some (.slice none 0 0) := (HR4.out.set 0 (.slice none 0 0)).cell (i := 0) (by simp)
      clear b4 hr2 hrf2 hq2
      go_wp2
      refine bodyPost_ret (v := .tuple #[.agg #[.slice none 0 0], .bool false]) (by simp [results, Try.results17, go_sem, hq4]) rfl ?_
      unfold IRetTermB
      rw [H1.out, H3.out]
      exact ⟨_, rfl, HB4.out.setCell (by dsimp only; omega) _, ownN_nil _ _⟩
    | true =>
      have HEQ := Lib.hid heq
      have hw1 : IntKind.i64.wrap ((x.length : Int) - ((subL x (q : Int)).length : Int)) = (x.length : Int) - ((subL x (q : Int)).length : Int) := Go.IntWalk.i64_in _ ⟨by omega, by omega⟩
      have hw2 : IntKind.i64.wrap ((x.length : Int) - ((subL x (q : Int)).length : Int) + (y.length : Int)) = (x.length : Int) - ((subL x (q : Int)).length : Int) + (y.length : Int) := Go.IntWalk.i64_in _ ⟨by omega, by omega⟩
      by_cases hln : x.length + y.length ≤ 400 + (subL x (q : Int)).length
      · have hlnI : (x.length : Int) - ((subL x (q : Int)).length : Int) + (y.length : Int) ≤ 400 := by omega
        have H3 : Hid (rpOk x (q : Int) y = true) := Lib.hid (by rw [hrp, heq, decide_eq_true hln]; rfl)
        have H1 : Hid (rpL x (q : Int) y = x.take f ++ (y ++ x.drop (q + 1))) := Lib.hid (by rw [hrl, H3.out, if_pos rfl])
        obtain ⟨b, o, rfl, hb, -, -, -⟩ := HX.out.1.at hq
        have hcap : x.length ≤ c := by obtain ⟨A', c', e, h, _⟩ := HX.out.1; obtain ⟨-, -, rfl⟩ := sliceEq e; exact h
        have HTN := Lib.hid (show totN [x.take f, y, x.drop (q + 1)] ≤ 1000000 by simp [totN]; omega)
        have HFL := Lib.hid (show f ≤ x.length by omega)
        have hLN : f + (y.length + (x.length - (q + 1))) ≤ 400 := by omega
        have HLN := Lib.hid hLN
        clear heq hrp hrl hLN
        obtain ⟨z, HZ⟩ : ∃ z, Hid (x.take f ++ (y ++ x.drop (q + 1)) = z) := ⟨_, Lib.hid rfl⟩
        rw [HZ.out] at H1
        have HFZ := Lib.hid (show [x.take f, y, x.drop (q + 1)].flatten = z by rw [← HZ.out]; simp)
        have HOZ := Lib.hid (fun (w' : World) (S : Nat → Prop) (v' : Value) (h : OwN w' S v' z) => OwnN.rp HZ.out.symm HLN.out HX.out HY.out h)
        generalize subL x (q : Int) = sl at *
        have HSL := Lib.hid hsl
        clear hsl
        go_enter Try.func17, Try.ntmps17
        go_wp2_with fail
        refine HSU.out.mono ?_
        rintro e w2 ⟨v2, rfl, b2, o2⟩
        rw [HSO.out]
        have HB2 := Lib.hid (HB0.out.trans (b2.mono (by rw [hsz0]; omega)))
        have HA2 := Lib.hid (HA0.out.below b2 (by rw [hsz0]; omega))
        have HC2 := Lib.hid (HC0.out.below b2 (by rw [hsz0]; omega))
        have HR2 := Lib.hid (HR0.out.below b2 (by rw [hsz0]; omega))
        have hsz2 : w.heap.size + 3 ≤ w2.heap.size := by rw [← hsz0]; exact b2.size
        obtain ⟨A2, c2, rfl⟩ := o2.len
        have HO2 := Lib.hid o2.rd
        have ha2 : w2.cell? ⟨w.heap.size, 0, none⟩ = some (.slice (some ⟨b, o, none⟩) x.length c) := HA2.out.cell (i := 0) (by simp)
        have hc2 : w2.cell? ⟨w.heap.size + 1, 0, none⟩ = some (.slice A' y.length c') := HC2.out.cell (i := 0) (by simp)
        have hr2 : w2.cell? ⟨w.heap.size + 2, 0, none⟩ = some (.slice none 0 0) := HR2.out.cell (i := 0) (by simp)
        have hrf2 := HR2.out.frozen
        have hlt0 : w.heap.size < w2.heap.size := by omega
        have hlt1 : w.heap.size + 1 < w2.heap.size := by omega
        have hlt2 : w.heap.size + 2 < w2.heap.size := by omega
        have hq2 : ((w2.setCell ⟨w.heap.size + 2, 0, none⟩ (.slice none 0 0)).alloc (.cells #[.slice A2 sl.length c2] tTm)).cell? ⟨w.heap.size + 2, 0, none⟩ = some (.slice none 0 0) := ((HR2.out.set 0 (.slice none 0 0)).alloc _).cell (i := 0) (by simp)
        clear b2 o2
        have HW3 : Hid (Below w2.heap.size w2 (w2.alloc (.cells #[.slice A2 sl.length c2] tTm))) := Lib.hid ((Below.refl _ _).alloc (Nat.le_refl _) _)
        have HB3 : Hid (Below w.heap.size w (w2.alloc (.cells #[.slice A2 sl.length c2] tTm))) := Lib.hid (HB2.out.alloc (by omega) _)
        have HHO := Lib.hid (haveOneType_any (w2.alloc (.cells #[.slice A2 sl.length c2] tTm)) w2.heap.size (.slice A2 sl.length c2) (.slice A' y.length c') sl y (HO2.out.below HW3.out (Nat.le_refl _)) ((HY.out.below HB3.out HB.out).mono (by have := HB.out; omega)) (by simp))
        rw [HEQ.out] at HHO
        have HD2 := Lib.hid (cellsAt_new' w2 #[.slice A2 sl.length c2] tTm [.slice A2 sl.length c2] w2.heap.size rfl rfl)
        have hsz3 : (w2.alloc (.cells #[.slice A2 sl.length c2] tTm)).heap.size = w2.heap.size + 1 := by simp
        go_wp2_with fail
        refine HHO.out.mono ?_
        rintro e w4 ⟨rfl, b4⟩
        have HB4 := Lib.hid (HB3.out.trans (b4.mono (by rw [hsz3]; omega)))
        have HA4 := Lib.hid ((HA2.out.alloc (.cells #[.slice A2 sl.length c2] tTm)).below b4 (by rw [hsz3]; omega))
        have HC4 := Lib.hid ((HC2.out.alloc (.cells #[.slice A2 sl.length c2] tTm)).below b4 (by rw [hsz3]; omega))
        have HR4 := Lib.hid ((HR2.out.alloc (.cells #[.slice A2 sl.length c2] tTm)).below b4 (by rw [hsz3]; omega))
        have HD4 := Lib.hid (HD2.out.below b4 (by rw [hsz3]; omega))
        have hsz4 : w2.heap.size + 1 ≤ w4.heap.size := by rw [← hsz3]; exact b4.size
        have ha4 : w4.cell? ⟨w.heap.size, 0, none⟩ = some (.slice (some ⟨b, o, none⟩) x.length c) := HA4.out.cell (i := 0) (by simp)
        have hc4 : w4.cell? ⟨w.heap.size + 1, 0, none⟩ = some (.slice A' y.length c') := HC4.out.cell (i := 0) (by simp)
        have hd4 : w4.cell? ⟨w2.heap.size, 0, none⟩ = some (.slice A2 sl.length c2) := HD4.out.cell (i := 0) (by simp)
        have hr4 : w4.cell? ⟨w.heap.size + 2, 0, none⟩ = some (.slice none 0 0) := HR4.out.cell (i := 0) (by simp)
        have hrf4 := HR4.out.frozen
        have hq4 : (w4.setCell ⟨w.heap.size + 2, 0, none⟩ (.slice none 0 0)).cell? ⟨w.heap.size + 2, 0, none⟩ = some (.slice none 0 0) := (HR4.out.set 0 (.slice none 0 0)).cell (i := 0) (by simp)
        clear b4 hr2 hrf2 hq2
        have HFN := Lib.hid (firstNode_any w4.drew B (.slice (some ⟨b, o, none⟩) x.length c) x q f ((HX.out.below HB4.out HB.out).below ((Below.refl B w4).drew) (Nat.le_refl _)) (by have := HB.out; have := HB4.out.size; simp; omega) hq hx4 HF.out)
        have HELD : Hid (∀ w' : World, Below w4.heap.size w4 w' → w'.cell? ⟨w.heap.size, 0, none⟩ = some (.slice (some ⟨b, o, none⟩) x.length c) ∧ w'.cell? ⟨w.heap.size + 1, 0, none⟩ = some (.slice A' y.length c')) := Lib.hid (fun w' H => ⟨(H.cell (p := ⟨w.heap.size, 0, none⟩) (by dsimp only; omega)).trans ha4, (H.cell (p := ⟨w.heap.size + 1, 0, none⟩) (by dsimp only; omega)).trans hc4⟩)
        have HD0 := Lib.hid (HELD.out w4.drew (Below.refl _ _).drew)
        have hwq : IntKind.i64.wrap ((q : Int) + 1) = (q : Int) + 1 := Go.IntWalk.i64_in _ ⟨by omega, by omega⟩
        have hs1 : (0 : Int) ≤ (f : Int) := by omega
        have hs2 : (f : Int) ≤ (c : Int) := by omega
        have hs3 : (q : Int) + 1 ≤ (x.length : Int) := by omega
        have hs4 : (0 : Int) ≤ (q : Int) + 1 := by omega
        have HLF := Lib.hid (show ∀ n : Nat, n < n + 1 from fun n => by omega)
        by_cases hcq : c = q + 1
        · have hct : (c = q + 1) = True := eq_true hcq
          have HXQ := Lib.hid (show x.length - (q + 1) = 0 by omega)
          clear hcq
          go_wp2
          go_region_held3 (fun w' => w'.cell? ⟨w.heap.size, 0, none⟩ = some (.slice (some ⟨b, o, none⟩) x.length c) ∧ w'.cell? ⟨w.heap.size + 1, 0, none⟩ = some (.slice A' y.length c'))
            (first | with_reducible exact HD0.out | with_reducible exact HD1.out | with_reducible exact HD5.out | with_reducible exact HD6.out | with_reducible exact HD7.out _ | fail)
            (first
              | (go_at_call 36; go_split_ands; refine HFN.out.mono ?_; rintro e w5 ⟨rfl, b5⟩; have HB5 : Hid (Below w4.heap.size w4 w5) := Lib.hid ((Below.refl _ _).drew.trans (b5.mono (by simp))); have HD1 := Lib.hid (HELD.out w5 HB5.out); have HB5W := Lib.hid (HB4.out.trans (HB5.out.mono HB4.out.size)); have hsz5 : w4.heap.size ≤ w5.heap.size := HB5.out.size; have HW6 : Hid (Below w5.heap.size w5 (w5.alloc (.cells #[.slice (some ⟨b, o, none⟩) f c, .slice A' y.length c', .slice (some ⟨b, o, none⟩) (x.length - (q + 1)) (c - (q + 1))] 26))) := Lib.hid ((Below.refl _ _).alloc (Nat.le_refl _) _); have HD5 := Lib.hid (HELD.out (w5.alloc (.cells #[.slice (some ⟨b, o, none⟩) f c, .slice A' y.length c', .slice (some ⟨b, o, none⟩) (x.length - (q + 1)) (c - (q + 1))] 26)) (HB5.out.alloc (by omega) _)); clear b5)
              | (go_at_call 35; go_split_ands; refine (concatN_any _ (w5.heap.size + 1) _ [x.take f, y, x.drop (q + 1)] (rdgn_three (cellsAt_new' w5 #[.slice (some ⟨b, o, none⟩) f c, .slice A' y.length c', .slice (some ⟨b, o, none⟩) (x.length - (q + 1)) (c - (q + 1))] 26 [.slice (some ⟨b, o, none⟩) f c, .slice A' y.length c', .slice (some ⟨b, o, none⟩) (x.length - (q + 1)) (c - (q + 1))] w5.heap.size rfl rfl) (HLF.out _) (((HX.out.1.below HB5W.out HB.out).takeN HFL.out).below2 HW6.out (by have := HB.out; omega) (by have := HB.out; omega)) ((HY.out.1.below HB5W.out HB.out).below2 HW6.out (by have := HB.out; omega) (by have := HB.out; omega)) (by rw [HXQ.out]; exact RdN.none' _ _ (List.drop_eq_nil_of_le (by have := HXQ.out; omega)))) (by simp) (by simp) HTN.out).mono ?_; rintro e w6 ⟨v6, rfl, b6, o6⟩; rw [HFZ.out] at o6; have HO6 := Lib.hid o6; obtain ⟨A6, c6, rfl⟩ := o6.form; have HB6 : Hid (Below w4.heap.size w4 w6) := Lib.hid ((HB5.out.alloc (by omega) _).trans (b6.mono (by simp; omega))); have HD6 := Lib.hid (HELD.out w6 HB6.out); have hsz6 : w5.heap.size + 1 ≤ w6.heap.size := Nat.le_trans (by simp) b6.size; have HR6 := Lib.hid (HR4.out.below HB6.out (by omega)); have hr6 : w6.cell? ⟨w.heap.size + 2, 0, none⟩ = some (.slice none 0 0) := HR6.out.cell (i := 0) (by simp); have hrf6 := HR6.out.frozen; have HD7 : Hid (∀ u, (w6.setCell ⟨w.heap.size + 2, 0, none⟩ u).cell? ⟨w.heap.size, 0, none⟩ = some (.slice (some ⟨b, o, none⟩) x.length c) ∧ (w6.setCell ⟨w.heap.size + 2, 0, none⟩ u).cell? ⟨w.heap.size + 1, 0, none⟩ = some (.slice A' y.length c')) := Lib.hid (fun u => ⟨(World.cell?_of_block (w := w6) (blk_setCell_other _ _ _ _ (by dsimp only; omega))).trans HD6.out.1, (World.cell?_of_block (w := w6) (blk_setCell_other _ _ _ _ (by dsimp only; omega))).trans HD6.out.2⟩); clear b6 o6)
              | fail)
          have hq6 : (w6.setCell ⟨w.heap.size + 2, 0, none⟩ (.slice A6 z.length c6)).cell? ⟨w.heap.size + 2, 0, none⟩ = some (.slice A6 z.length c6) := (HR6.out.set 0 (.slice A6 z.length c6)).cell (i := 0) (by simp)
          go_wp2
          refine bodyPost_ret (v := .tuple #[.agg #[.slice A6 z.length c6], .bool true]) (by simp [results, Try.results17, go_sem, hq6]) rfl ?_
          unfold IRetTermB
          rw [H1.out, H3.out]
          refine ⟨_, rfl, (HB4.out.trans (HB6.out.mono HB4.out.size)).setCell (by dsimp only; omega) _, HOZ.out _ _ _ ?_⟩
          exact (HO6.out.own.blocks (fun q hq hql => blk_setCell_other _ _ _ _ (by dsimp only; first | omega | (simp at hq; omega)))).mono (fun q hq _ => by first | omega | (simp at hq; omega))
        · go_wp2
          go_region_held3 (fun w' => w'.cell? ⟨w.heap.size, 0, none⟩ = some (.slice (some ⟨b, o, none⟩) x.length c) ∧ w'.cell? ⟨w.heap.size + 1, 0, none⟩ = some (.slice A' y.length c'))
            (first | with_reducible exact HD0.out | with_reducible exact HD1.out | with_reducible exact HD5.out | with_reducible exact HD6.out | with_reducible exact HD7.out _ | fail)
            (first
              | (go_at_call 36; go_split_ands; refine HFN.out.mono ?_; rintro e w5 ⟨rfl, b5⟩; have HB5 : Hid (Below w4.heap.size w4 w5) := Lib.hid ((Below.refl _ _).drew.trans (b5.mono (by simp))); have HD1 := Lib.hid (HELD.out w5 HB5.out); have HB5W := Lib.hid (HB4.out.trans (HB5.out.mono HB4.out.size)); have hsz5 : w4.heap.size ≤ w5.heap.size := HB5.out.size; have HW6 : Hid (Below w5.heap.size w5 (w5.alloc (.cells #[.slice (some ⟨b, o, none⟩) f c, .slice A' y.length c', .slice (some ⟨b, o + (q + 1) * 3, none⟩) (x.length - (q + 1)) (c - (q + 1))] 26))) := Lib.hid ((Below.refl _ _).alloc (Nat.le_refl _) _); have HD5 := Lib.hid (HELD.out (w5.alloc (.cells #[.slice (some ⟨b, o, none⟩) f c, .slice A' y.length c', .slice (some ⟨b, o + (q + 1) * 3, none⟩) (x.length - (q + 1)) (c - (q + 1))] 26)) (HB5.out.alloc (by omega) _)); clear b5)
              | (go_at_call 35; go_split_ands; refine (concatN_any _ (w5.heap.size + 1) _ [x.take f, y, x.drop (q + 1)] (rdgn_three (cellsAt_new' w5 #[.slice (some ⟨b, o, none⟩) f c, .slice A' y.length c', .slice (some ⟨b, o + (q + 1) * 3, none⟩) (x.length - (q + 1)) (c - (q + 1))] 26 [.slice (some ⟨b, o, none⟩) f c, .slice A' y.length c', .slice (some ⟨b, o + (q + 1) * 3, none⟩) (x.length - (q + 1)) (c - (q + 1))] w5.heap.size rfl rfl) (HLF.out _) (((HX.out.1.below HB5W.out HB.out).takeN HFL.out).below2 HW6.out (by have := HB.out; omega) (by have := HB.out; omega)) ((HY.out.1.below HB5W.out HB.out).below2 HW6.out (by have := HB.out; omega) (by have := HB.out; omega)) (((HX.out.1.below HB5W.out HB.out).dropN (f := q + 1) (by omega)).below2 HW6.out (by have := HB.out; omega) (by have := HB.out; omega))) (by simp) (by simp) HTN.out).mono ?_; rintro e w6 ⟨v6, rfl, b6, o6⟩; rw [HFZ.out] at o6; have HO6 := Lib.hid o6; obtain ⟨A6, c6, rfl⟩ := o6.form; have HB6 : Hid (Below w4.heap.size w4 w6) := Lib.hid ((HB5.out.alloc (by omega) _).trans (b6.mono (by simp; omega))); have HD6 := Lib.hid (HELD.out w6 HB6.out); have hsz6 : w5.heap.size + 1 ≤ w6.heap.size := Nat.le_trans (by simp) b6.size; have HR6 := Lib.hid (HR4.out.below HB6.out (by omega)); have hr6 : w6.cell? ⟨w.heap.size + 2, 0, none⟩ = some (.slice none 0 0) := HR6.out.cell (i := 0) (by simp); have hrf6 := HR6.out.frozen; have HD7 : Hid (∀ u, (w6.setCell ⟨w.heap.size + 2, 0, none⟩ u).cell? ⟨w.heap.size, 0, none⟩ = some (.slice (some ⟨b, o, none⟩) x.length c) ∧ (w6.setCell ⟨w.heap.size + 2, 0, none⟩ u).cell? ⟨w.heap.size + 1, 0, none⟩ = some (.slice A' y.length c')) := Lib.hid (fun u => ⟨(World.cell?_of_block (w := w6) (blk_setCell_other _ _ _ _ (by dsimp only; omega))).trans HD6.out.1, (World.cell?_of_block (w := w6) (blk_setCell_other _ _ _ _ (by dsimp only; omega))).trans HD6.out.2⟩); clear b6 o6)
              | fail)
          have hq6 : (w6.setCell ⟨w.heap.size + 2, 0, none⟩ (.slice A6 z.length c6)).cell? ⟨w.heap.size + 2, 0, none⟩ = some (.slice A6 z.length c6) := (HR6.out.set 0 (.slice A6 z.length c6)).cell (i := 0) (by simp)
          go_wp2
          refine bodyPost_ret (v := .tuple #[.agg #[.slice A6 z.length c6], .bool true]) (by simp [results, Try.results17, go_sem, hq6]) rfl ?_
          unfold IRetTermB
          rw [H1.out, H3.out]
          refine ⟨_, rfl, (HB4.out.trans (HB6.out.mono HB4.out.size)).setCell (by dsimp only; omega) _, HOZ.out _ _ _ ?_⟩
          exact (HO6.out.own.blocks (fun q hq hql => blk_setCell_other _ _ _ _ (by dsimp only; first | omega | (simp at hq; omega)))).mono (fun q hq _ => by first | omega | (simp at hq; omega))
      · have hlnI : ¬ (x.length : Int) - ((subL x (q : Int)).length : Int) + (y.length : Int) ≤ 400 := by omega
        have H3 : Hid (rpOk x (q : Int) y = false) := Lib.hid (by rw [hrp, heq, decide_eq_false hln]; rfl)
        have H1 : Hid (rpL x (q : Int) y = []) := Lib.hid (by rw [hrl, H3.out]; rfl)
        clear heq hrp hrl
        generalize subL x (q : Int) = sl at *
        have HSL := Lib.hid hsl
        clear hsl
        go_enter Try.func17, Try.ntmps17
        go_wp2_with fail
        refine HSU.out.mono ?_
        rintro e w2 ⟨v2, rfl, b2, o2⟩
        rw [HSO.out]
        have HB2 := Lib.hid (HB0.out.trans (b2.mono (by rw [hsz0]; omega)))
        have HA2 := Lib.hid (HA0.out.below b2 (by rw [hsz0]; omega))
        have HC2 := Lib.hid (HC0.out.below b2 (by rw [hsz0]; omega))
        have HR2 := Lib.hid (HR0.out.below b2 (by rw [hsz0]; omega))
        have hsz2 : w.heap.size + 3 ≤ w2.heap.size := by rw [← hsz0]; exact b2.size
        obtain ⟨A2, c2, rfl⟩ := o2.len
        have HO2 := Lib.hid o2.rd
        have ha2 : w2.cell? ⟨w.heap.size, 0, none⟩ = some (.slice A x.length c) := HA2.out.cell (i := 0) (by simp)
        have hc2 : w2.cell? ⟨w.heap.size + 1, 0, none⟩ = some (.slice A' y.length c') := HC2.out.cell (i := 0) (by simp)
        have hr2 : w2.cell? ⟨w.heap.size + 2, 0, none⟩ = some (.slice none 0 0) := HR2.out.cell (i := 0) (by simp)
        have hrf2 := HR2.out.frozen
        have hlt0 : w.heap.size < w2.heap.size := by omega
        have hlt1 : w.heap.size + 1 < w2.heap.size := by omega
        have hlt2 : w.heap.size + 2 < w2.heap.size := by omega
        have hq2 : ((w2.setCell ⟨w.heap.size + 2, 0, none⟩ (.slice none 0 0)).alloc (.cells #[.slice A2 sl.length c2] tTm)).cell? ⟨w.heap.size + 2, 0, none⟩ = some (.slice none 0 0) := ((HR2.out.set 0 (.slice none 0 0)).alloc _).cell (i := 0) (by simp)
        clear b2 o2
        have HW3 : Hid (Below w2.heap.size w2 (w2.alloc (.cells #[.slice A2 sl.length c2] tTm))) := Lib.hid ((Below.refl _ _).alloc (Nat.le_refl _) _)
        have HB3 : Hid (Below w.heap.size w (w2.alloc (.cells #[.slice A2 sl.length c2] tTm))) := Lib.hid (HB2.out.alloc (by omega) _)
        have HHO := Lib.hid (haveOneType_any (w2.alloc (.cells #[.slice A2 sl.length c2] tTm)) w2.heap.size (.slice A2 sl.length c2) (.slice A' y.length c') sl y (HO2.out.below HW3.out (Nat.le_refl _)) ((HY.out.below HB3.out HB.out).mono (by have := HB.out; omega)) (by simp))
        rw [HEQ.out] at HHO
        have HD2 := Lib.hid (cellsAt_new' w2 #[.slice A2 sl.length c2] tTm [.slice A2 sl.length c2] w2.heap.size rfl rfl)
        have hsz3 : (w2.alloc (.cells #[.slice A2 sl.length c2] tTm)).heap.size = w2.heap.size + 1 := by simp
        go_wp2_with fail
        refine HHO.out.mono ?_
        rintro e w4 ⟨rfl, b4⟩
        have HB4 := Lib.hid (HB3.out.trans (b4.mono (by rw [hsz3]; omega)))
        have HA4 := Lib.hid ((HA2.out.alloc (.cells #[.slice A2 sl.length c2] tTm)).below b4 (by rw [hsz3]; omega))
        have HC4 := Lib.hid ((HC2.out.alloc (.cells #[.slice A2 sl.length c2] tTm)).below b4 (by rw [hsz3]; omega))
        have HR4 := Lib.hid ((HR2.out.alloc (.cells #[.slice A2 sl.length c2] tTm)).below b4 (by rw [hsz3]; omega))
        have HD4 := Lib.hid (HD2.out.below b4 (by rw [hsz3]; omega))
        have hsz4 : w2.heap.size + 1 ≤ w4.heap.size := by rw [← hsz3]; exact b4.size
        have ha4 : w4.cell? ⟨w.heap.size, 0, none⟩ = some (.slice A x.length c) := HA4.out.cell (i := 0) (by simp)
        have hc4 : w4.cell? ⟨w.heap.size + 1, 0, none⟩ = some (.slice A' y.length c') := HC4.out.cell (i := 0) (by simp)
        have hd4 : w4.cell? ⟨w2.heap.size, 0, none⟩ = some (.slice A2 sl.length c2) := HD4.out.cell (i := 0) (by simp)
        have hr4 : w4.cell? ⟨w.heap.size + 2, 0, none⟩ = some (.slice none 0 0) := HR4.out.cell (i := 0) (by simp)
        have hrf4 := HR4.out.frozen
        have hq4 : (w4.setCell ⟨w.heap.size + 2, 0, none⟩ (.slice none 0 0)).cell? ⟨w.heap.size + 2, 0, none⟩ = some (.slice none 0 0) := (HR4.out.set 0 (.slice none 0 0)).cell (i := 0) (by simp)
        clear b4 hr2 hrf2 hq2
        go_wp2
        refine bodyPost_ret (v := .tuple #[.agg #[.slice none 0 0], .bool false]) (by simp [results, Try.results17, go_sem, hq4]) rfl ?_
        unfold IRetTermB
        rw [H1.out, H3.out]
        exact ⟨_, rfl, HB4.out.setCell (by dsimp only; omega) _, ownN_nil _ _⟩
end Go.Proofs.Ytbeaihjiablcbaa

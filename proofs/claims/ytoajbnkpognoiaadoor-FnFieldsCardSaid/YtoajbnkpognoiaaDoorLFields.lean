/- The law FnFields: for every input it returns true; each argument and the variable smallPrimes read behind the call as before. No conditions but the row's own: smallPrimes starts as the program's text lays it (tied). -/
import Derived.Test.YtoajbnkpognoiaaDoorTie
import Derived.Test.YtoajbnkpognoiaaDoorCards
import Derived.Test.YtoajbnkpognoiaaDoorLawBytes
import Derived.Test.YtoajbnkpognoiaaDoorFdFuncs2
import Derived.Test.YtoajbnkpognoiaaDoorFdFuncs3
import Derived.Test.YtoajbnkpognoiaaDoorFdMore
import Derived.Test.YtoajbnkpognoiaaDoorDraw1
namespace Go.Proofs.YtoajbnkpognoiaaDoor
open Go Go.RowKit Go.WideShapes Go.ChangeShapes

theorem Bytes.grow {w : World} {B B' : Nat} {V : Value} (h : Bytes w B V) (hB : B ≤ B') : Bytes w B' V := by
  obtain ⟨A, n, c, e, hn, h⟩ := h
  refine ⟨A, n, c, e, hn, fun j hj => ?_⟩
  obtain ⟨b, o, u, e2, hlt, r⟩ := h j hj
  exact ⟨b, o, u, e2, Nat.lt_of_lt_of_le hlt hB, r⟩
theorem big_any (V V' : Value) (w : World) (h : Bytes w w.heap.size V) (h' : Bytes w w.heap.size V') : Calls Tryd.prog 5 #[V, V'] w fun e w' => RetB e ∧ w = w' := by
  obtain ⟨A, n, c, rfl, hn, _⟩ := h
  obtain ⟨A', n', c', rfl, hn', _⟩ := h'
  by_cases hb : 1048576 < n
  · go_enter Tryd.func5, Tryd.ntmps5
    go_wp2
    go_ret
    exact ⟨⟨_, rfl⟩, rfl⟩
  · have hb2 : n ≤ 1048576 := by omega
    clear hb
    go_enter Tryd.func5, Tryd.ntmps5
    go_wp2
    go_ret
    exact ⟨⟨_, rfl⟩, rfl⟩
theorem elems_head {p a : Int} {zs : List Int} (h : elems p (a :: zs) = true) : elems p [a] = true := by
  have := (elems_iff _ _).1 h
  exact (elems_iff _ _).2 ⟨this.1, fun z hz => this.2 z (by simp at hz; simp [hz])⟩
theorem elems_of {p : Int} {zs : List Int} (hp : fld p = true) (h : ∀ z, z ∈ zs → 0 ≤ z ∧ z < p) : elems p zs = true := (elems_iff _ _).2 ⟨hp, fun z hz => (el_iff _ _).2 (h z hz)⟩
theorem resLog_cases (p b a : Int) : resLog p b a = (0, false) ∨ ∃ m : Nat, m ≤ 97 ∧ resLog p b a = ((m : Int), true) ∧ elems p [b, a] = true ∧ pw p b m = a := by
  cases h : elems p [b, a] with
  | false => exact Or.inl (by simp [resLog, h])
  | true =>
    have e : resLog p b a = logFrom p b a p.toNat 0 := by simp [resLog, h]
    have hb := (elems_cases h).2.1
    rw [e]
    cases h2 : (logFrom p b a p.toNat 0).2 with
    | false => exact Or.inl (logFrom_no h2)
    | true =>
      obtain ⟨m, e1, hm, hq⟩ := logFrom_ok (p := p) (b := b) (a := a) (f := p.toNat) (n := 0) (r := (logFrom p b a p.toNat 0).1) (by rw [← h2])
      exact Or.inr ⟨m, by omega, by rw [← e1, ← h2], rfl, hq⟩

set_option maxHeartbeats 4000000 in
set_option maxRecDepth 100000 in
theorem law_Fields (V V' : Value) (w : World) (ht : Tab w) (hv : Bytes w w.heap.size V) (hv' : Bytes w w.heap.size V') : Calls Tryd.prog 3 #[V, V'] w fun e w' => e = .returned (.bool true) ∧ Below w.heap.size w w' := by
  have HT := Lib.hid ht
  have HV := Lib.hid hv
  have HV' := Lib.hid hv'
  clear ht hv hv'
  go_enter Tryd.func3, Tryd.ntmps3
  go_wp2_with fail
  refine (big_any V V' w HV.out HV'.out).mono ?_
  rintro e w' ⟨⟨t, rfl⟩, rfl⟩
  cases t with
  | true =>
    go_wp2
    go_ret
    exact ⟨rfl, Below.refl _ _⟩
  | false =>
    go_wp2_with fail
    refine (DrawFieldMul_any w V HV.out).mono ?_
    rintro e w1 ⟨⟨p, a, b, hp, ha, hb, rfl⟩, b1⟩
    have HB1 := Lib.hid b1
    have HT1 := Lib.hid (HT.out.below b1)
    clear b1 hp ha hb
    go_wp2_with fail
    refine (impl_FieldMul p a b _ HT1.out).mono ?_
    rintro e w2 ⟨rfl, b2⟩
    have HB2 := Lib.hid (HB1.out.trans (b2.mono HB1.out.size))
    have HT2 := Lib.hid (HT1.out.below b2)
    clear b2
    go_wp2_with fail
    refine (spec_FieldMul p a b _).mono ?_
    rintro e w' ⟨rfl, rfl⟩
    cases h : elems p [a, b] with
    | false =>
      have HE := Lib.hid (show resMul p a b = (0, false) from by simp [resMul, h])
      rw [HE.out]
      clear h
      go_wp2_with fail
      refine (DrawDiscreteLog_any w2 V' (HV'.out.below HB2.out (Nat.le_refl _) |>.grow HB2.out.size)).mono ?_
      rintro e x1 ⟨⟨q, c, d, hq1, hq2, hq3, rfl⟩, c1⟩
      have HC1 := Lib.hid (HB2.out.trans (c1.mono HB2.out.size))
      have HU1 := Lib.hid (HT2.out.below c1)
      clear c1 hq1 hq2 hq3
      go_wp2_with fail
      refine (impl_DiscreteLog q c d _ HU1.out).mono ?_
      rintro e x2 ⟨rfl, c2⟩
      have HC2 := Lib.hid (HC1.out.trans (c2.mono HC1.out.size))
      have HU2 := Lib.hid (HU1.out.below c2)
      clear c2
      go_wp2_with fail
      refine (spec_DiscreteLog q c d _).mono ?_
      rintro e w' ⟨rfl, rfl⟩
      rcases resLog_cases q c d with hr | ⟨m, hm, hr, hel2, hpw⟩
      · have HR := Lib.hid hr
        clear hr
        rw [HR.out]
        go_wp2
        go_ret
        exact ⟨rfl, HC2.out⟩
      · have HR := Lib.hid hr
        have HX2 := Lib.hid (show resPow q c (m : Int) = (d, true) from by rw [resPow_pos (elems_head hel2) (by omega), hpw])
        clear hr hel2 hpw
        rw [HR.out]
        go_wp2_with fail
        refine (impl_FieldPower q c (m : Int) _ HU2.out).mono ?_
        rintro e x3 ⟨rfl, c3⟩
        have HC3 := Lib.hid (HC2.out.trans (c3.mono HC2.out.size))
        clear c3
        rw [HX2.out]
        go_wp2
        go_ret
        exact ⟨rfl, HC3.out⟩
    | true =>
      obtain ⟨hp, ⟨h1, h2⟩, hz⟩ := elems_cases h
      obtain ⟨a1, a2⟩ := hz a (by simp)
      obtain ⟨b1, b2⟩ := hz b (by simp)
      obtain ⟨m1, m2⟩ := mul_bd h2 a1 a2 b1 b2
      have HP := Lib.hid hp
      have HE := Lib.hid (show resMul p a b = (a * b % p, true) from by simp [resMul, h])
      have hsw : elems p [b, a] = true := elems_of hp (fun z hz' => hz z (by simp at hz' ⊢; omega))
      have HEs := Lib.hid (show resMul p b a = (a * b % p, true) from by simp [resMul, hsw, Int.mul_comm])
      have HA := Lib.hid (show resAdd p a b = ((a + b) % p, true) from by simp [resAdd, h])
      have HAs := Lib.hid (show resAdd p b a = ((a + b) % p, true) from by simp [resAdd, hsw, Int.add_comm])
      have HH := Lib.hid h
      rw [HE.out]
      clear h hsw hz hp
      go_wp2_with fail
      refine (impl_FieldMul p b a _ HT2.out).mono ?_
      rintro e w3 ⟨rfl, b3⟩
      have HB3 := Lib.hid (HB2.out.trans (b3.mono HB2.out.size))
      have HT3 := Lib.hid (HT2.out.below b3)
      clear b3
      rw [HEs.out]
      go_wp2_with fail
      refine (impl_FieldAdd p a b _ HT3.out).mono ?_
      rintro e w4 ⟨rfl, b4⟩
      have HB4 := Lib.hid (HB3.out.trans (b4.mono HB3.out.size))
      have HT4 := Lib.hid (HT3.out.below b4)
      clear b4
      rw [HA.out]
      go_wp2_with fail
      refine (impl_FieldAdd p b a _ HT4.out).mono ?_
      rintro e w5 ⟨rfl, b5⟩
      have HB5 := Lib.hid (HB4.out.trans (b5.mono HB4.out.size))
      have HT5 := Lib.hid (HT4.out.below b5)
      clear b5
      rw [HAs.out]
      go_wp2_with fail
      refine (impl_FieldInverse p b _ HT5.out).mono ?_
      rintro e w6 ⟨rfl, b6⟩
      have HB6 := Lib.hid (HB5.out.trans (b6.mono HB5.out.size))
      have HT6 := Lib.hid (HT5.out.below b6)
      clear b6
      by_cases h0 : b = 0
      · have HI := Lib.hid (show resInv p b = (0, false) from by simp [resInv, h0])
        have hb : (b != 0) = false := by simp [h0]
        rw [HI.out]
        clear h0
        go_wp2_with fail
        refine (DrawDiscreteLog_any w6 V' (HV'.out.below HB6.out (Nat.le_refl _) |>.grow HB6.out.size)).mono ?_
        rintro e x1 ⟨⟨q, c, d, hq1, hq2, hq3, rfl⟩, c1⟩
        have HC1 := Lib.hid (HB6.out.trans (c1.mono HB6.out.size))
        have HU1 := Lib.hid (HT6.out.below c1)
        clear c1 hq1 hq2 hq3
        go_wp2_with fail
        refine (impl_DiscreteLog q c d _ HU1.out).mono ?_
        rintro e x2 ⟨rfl, c2⟩
        have HC2 := Lib.hid (HC1.out.trans (c2.mono HC1.out.size))
        have HU2 := Lib.hid (HU1.out.below c2)
        clear c2
        go_wp2_with fail
        refine (spec_DiscreteLog q c d _).mono ?_
        rintro e w' ⟨rfl, rfl⟩
        rcases resLog_cases q c d with hr | ⟨m, hm, hr, hel2, hpw⟩
        · have HR := Lib.hid hr
          clear hr
          rw [HR.out]
          go_wp2
          go_ret
          exact ⟨rfl, HC2.out⟩
        · have HR := Lib.hid hr
          have HX2 := Lib.hid (show resPow q c (m : Int) = (d, true) from by rw [resPow_pos (elems_head hel2) (by omega), hpw])
          clear hr hel2 hpw
          rw [HR.out]
          go_wp2_with fail
          refine (impl_FieldPower q c (m : Int) _ HU2.out).mono ?_
          rintro e x3 ⟨rfl, c3⟩
          have HC3 := Lib.hid (HC2.out.trans (c3.mono HC2.out.size))
          clear c3
          rw [HX2.out]
          go_wp2
          go_ret
          exact ⟨rfl, HC3.out⟩
      · have h3 : 0 < b := by omega
        have hel : elems p [b] = true := elems_of HP.out (fun z hz => by simp at hz; omega)
        have HI := Lib.hid (show resInv p b = (inv p b, true) from by simp [resInv, hel, h0])
        have hb : (b != 0) = true := by simp [h0]
        have HM := Lib.hid (mul_back HP.out a1 a2 h3 b2)
        obtain ⟨o1, o2, o3, o4⟩ := ord_facts HP.out h3 b2
        have i1 := (inv_bd h1 b).1
        have i2 := (inv_bd h1 b).2
        have HO := Lib.hid (show resOrd p b = ((ord p b : Int), true) from by simp [resOrd, hel, h0])
        have HX := Lib.hid (show resPow p b (ord p b : Int) = (1, true) from by rw [resPow_pos hel (by omega), o3])
        have HY := Lib.hid (show resPow p b (-1) = (inv p b, true) from by rw [show (-1 : Int) = -((1 : Nat) : Int) from rfl, resPow_neg hel (by omega) (by omega) h0, pw_one i1 i2])
        have HC := Lib.hid (show resMul p (a * b % p) (inv p b) = (a, true) from by
          have : elems p [a * b % p, inv p b] = true := elems_of HP.out (fun z hz => by
            simp at hz
            rcases hz with rfl | rfl
            · exact ⟨Int.emod_nonneg _ (by omega), Int.emod_lt_of_pos _ (by omega)⟩
            · exact ⟨i1, i2⟩)
          simp [resMul, this, HM.out])
        have HQ := Lib.hid o4
        have h1p : (1 : Int) % p = 1 := Int.emod_eq_of_lt (by omega) (by omega)
        have H1P := Lib.hid h1p
        rw [HI.out]
        clear h0 hel o3 o4 h1p
        go_wp2_with fail
        refine (impl_FieldMul p (a * b % p) (inv p b) _ HT6.out).mono ?_
        rintro e w7 ⟨rfl, b7⟩
        have HB7 := Lib.hid (HB6.out.trans (b7.mono HB6.out.size))
        have HT7 := Lib.hid (HT6.out.below b7)
        clear b7
        rw [HC.out]
        go_wp2_with fail
        refine (impl_ElementOrder p b _ HT7.out).mono ?_
        rintro e w8 ⟨rfl, b8⟩
        have HB8 := Lib.hid (HB7.out.trans (b8.mono HB7.out.size))
        have HT8 := Lib.hid (HT7.out.below b8)
        clear b8
        rw [HO.out]
        go_wp2_with fail
        refine (impl_FieldPower p b (ord p b : Int) _ HT8.out).mono ?_
        rintro e w9 ⟨rfl, b9⟩
        have HB9 := Lib.hid (HB8.out.trans (b9.mono HB8.out.size))
        have HT9 := Lib.hid (HT8.out.below b9)
        clear b9
        rw [HX.out]
        go_wp2_with fail
        refine (impl_FieldPower p b (-1) _ HT9.out).mono ?_
        rintro e w10 ⟨rfl, b10⟩
        have HB10 := Lib.hid (HB9.out.trans (b10.mono HB9.out.size))
        have HT10 := Lib.hid (HT9.out.below b10)
        clear b10
        rw [HY.out]
        have hq : (p - 1) % (ord p b : Int) = 0 := HQ.out
        have h1q : (1 : Int) % p = 1 := H1P.out
        go_wp2_with fail
        refine (DrawDiscreteLog_any w10 V' (HV'.out.below HB10.out (Nat.le_refl _) |>.grow HB10.out.size)).mono ?_
        rintro e x1 ⟨⟨q, c, d, hq1, hq2, hq3, rfl⟩, c1⟩
        have HC1 := Lib.hid (HB10.out.trans (c1.mono HB10.out.size))
        have HU1 := Lib.hid (HT10.out.below c1)
        clear c1 hq1 hq2 hq3
        go_wp2_with fail
        refine (impl_DiscreteLog q c d _ HU1.out).mono ?_
        rintro e x2 ⟨rfl, c2⟩
        have HC2 := Lib.hid (HC1.out.trans (c2.mono HC1.out.size))
        have HU2 := Lib.hid (HU1.out.below c2)
        clear c2
        go_wp2_with fail
        refine (spec_DiscreteLog q c d _).mono ?_
        rintro e w' ⟨rfl, rfl⟩
        rcases resLog_cases q c d with hr | ⟨m, hm, hr, hel2, hpw⟩
        · have HR := Lib.hid hr
          clear hr
          rw [HR.out]
          go_wp2
          go_ret
          exact ⟨rfl, HC2.out⟩
        · have HR := Lib.hid hr
          have HX2 := Lib.hid (show resPow q c (m : Int) = (d, true) from by rw [resPow_pos (elems_head hel2) (by omega), hpw])
          clear hr hel2 hpw
          rw [HR.out]
          go_wp2_with fail
          refine (impl_FieldPower q c (m : Int) _ HU2.out).mono ?_
          rintro e x3 ⟨rfl, c3⟩
          have HC3 := Lib.hid (HC2.out.trans (c3.mono HC2.out.size))
          clear c3
          rw [HX2.out]
          go_wp2
          go_ret
          exact ⟨rfl, HC3.out⟩

theorem fnFields_fn {H : Type} (ds gs : List (DataW H)) (h1 : ds.length = Tryd.f3.params.toList.length) (h2 : gs.length = Rows.fnFieldsSpec.vars.length) : Rows.fnFieldsSpec.fn H (ds ++ gs) = { results := [.lit (.bool true)], args := ds, vars := gs } := by
  rw [Tryd.params3] at h1
  match ds, gs, h1, h2 with
  | [_, _], [_], _, _ => rfl
set_option maxRecDepth 100000 in
theorem fnFields_lifted (os : Os) (started : os.Started) (H : Type) (enc : TypeId × Value → H) :
    ReturnsInHanded {} Tryd.checked os 3 .any (fun w args => (Rows.fnFieldsSpec.pre enc Tryd.prog Tryd.f3 [] false w args ∧ laidMetH Tryd.prog Rows.fnFieldsRow.laid w) ∧ sizedMet enc Tryd.prog Tryd.f3 (OpenSpec.ofChange Rows.fnFieldsSpec) false w args)
      (Rows.fnFieldsSpec.post enc Tryd.prog Tryd.f3 false true false false) := by
  refine returnsInHanded_of_change_and (C := Tryd.checked) (X := fun w _ => laidMetH Tryd.prog Rows.fnFieldsRow.laid w) (fun _ _ _ hh h => h.of_heap hh) own started (by kernel_rfl) Tryd.func3
    (ChangeSpec.witness_shaped (enc := enc) (C := Tryd.checked) (os := os) (X := fun w _ => laidMetH Tryd.prog Rows.fnFieldsRow.laid w) false (World.doorLaid Tryd.prog 400 os) #[.slice none 0 0, .slice none 0 0] 8 rfl (World.shaped_of_RefB (by kernel_rfl) (by kernel_rfl)) (by kernel_rfl) (by kernel_rfl) (by kernel_rfl) (door_met os _)) ?_
  intro W base args ds gs before hval0 hW _ _ hL _
  have hval : ∀ (j : Nat) t v, Tryd.f3.params[j]? = some t → args[j]? = some v → Value.okWide Tryd.prog W .any base t v := hval0
  have hW' := hW
  obtain ⟨p, q, hA0, hV0, rfl, hfz, hnd⟩ := hW
  have hT := tab_of_laid hL
  replace hA0 : DataW.TrodAll enc Tryd.prog W 0 (fun _ => true) true Tryd.f3.params.toList args.toList ds p := hA0
  rw [Tryd.params3] at hA0 hval
  obtain ⟨n0, n1, rfl, hn0, hn1⟩ := bytes2 hval hA0 (fun x hx => hW'.lt x (by simp [hx]))
  refine (law_Fields n0 n1 W hT hn0 hn1).mono fun e W' ⟨he, hb⟩ => ?_
  subst he
  exact ⟨_, rfl, post_true (by kernel_rfl) (by kernel_rfl) (by kernel_rfl) rfl Tryd.underlying4 fnFields_fn hW' hb⟩
theorem fnFields_holds : Rows.FnFieldsSaid :=
  OpenClaim.holds_of_wide 3 Tryd.f3 rfl rfl rfl rfl rfl rfl rfl ⟨rfl, rfl, rfl, rfl, rfl⟩ rfl rfl rfl rfl rfl (by kernel_rfl) Tryd.func3 (by kernel_rfl)
    (of_decide_eq_true (by kernel_rfl)) (by unfold Func.isWrapper; first | (rw [if_pos (by decide +kernel)]; kernel_rfl) | (rw [if_neg (by decide +kernel)]; exact ⟨rfl, rfl⟩))
    (fun os started H enc _ => fnFields_lifted os started H enc)
theorem fnFields_card_holds : Rows.FnFieldsCardSaid :=
  Claim7.holds_tied_plain_at .later [] [.data] true _ false
    fnFields_holds (fun _ h => by cases h) (by kernel_rfl) (fun _ h => by cases h) fnFields_row_tie rfl ⟨rfl, rfl⟩ (by kernel_rfl) rfl
    (fun f fn hf hfn => by
      obtain rfl : f = 3 := Option.some.inj ((show Tryd.prog.funcNamed "loop.example/g01073/laws.FnFields" = some 3 by kernel_rfl).symm.trans hf) |>.symm
      obtain rfl : fn = Tryd.f3 := (Option.some.inj (Tryd.func3.symm.trans hfn)).symm
      exact ⟨by kernel_rfl, fun j t ht => by
        rw [Tryd.params3] at ht
        have hm := Array.mem_of_getElem? ht
        have hall : ((#[22, 22] : Array TypeId).toList.all fun u => !Tryd.prog.wantsStandIn u) = true := by kernel_rfl
        exact (show Tryd.prog.wantsStandIn t = false by simpa using List.all_eq_true.1 hall t (Array.mem_toList_iff.2 hm))⟩)
    (by kernel_rfl)
end Go.Proofs.YtoajbnkpognoiaaDoor

/- The law FnFieldRoots: for every input it returns true; each argument and the variable smallPrimes read behind the call as before. No conditions but the row's own: smallPrimes starts as the program's text lays it (tied). -/
import Derived.Test.YtoajbnkpognoiaaDoorTie
import Derived.Test.YtoajbnkpognoiaaDoorCards
import Derived.Test.YtoajbnkpognoiaaDoorLawBytes
import Derived.Test.YtoajbnkpognoiaaDoorFdFuncs2
import Derived.Test.YtoajbnkpognoiaaDoorFdQuad
import Derived.Test.YtoajbnkpognoiaaDoorFdMore
namespace Go.Proofs.YtoajbnkpognoiaaDoor
open Go Go.RowKit Go.WideShapes Go.ChangeShapes

theorem big_any2 (V V' : Value) (w : World) (h : Bytes w w.heap.size V) (h' : Bytes w w.heap.size V') : Calls Tryd.prog 5 #[V, V'] w fun e w' => RetB e ∧ w = w' := by
  obtain ⟨A, n, c, rfl, hn, _⟩ := h
  obtain ⟨A', n', c', rfl, hn', _⟩ := h'
  by_cases hb : 1048576 < n
  · go_enter Tryd.func5, Tryd.ntmps5
    go_wp2
    go_ret
    exact ⟨⟨_, rfl⟩, rfl⟩
  · have hb2 : n ≤ 1048576 := by omega
    clear hb
    go_enter Tryd.func5, Tryd.ntmps5
    go_wp2
    go_ret
    exact ⟨⟨_, rfl⟩, rfl⟩
theorem Bytes.grow {w : World} {B B' : Nat} {V : Value} (h : Bytes w B V) (hB : B ≤ B') : Bytes w B' V := by
  obtain ⟨A, n, c, e, hn, h⟩ := h
  refine ⟨A, n, c, e, hn, fun j hj => ?_⟩
  obtain ⟨b, o, u, e2, hlt, r⟩ := h j hj
  exact ⟨b, o, u, e2, Nat.lt_of_lt_of_le hlt hB, r⟩
theorem elems_of {p : Int} {zs : List Int} (hp : fld p = true) (h : ∀ z, z ∈ zs → 0 ≤ z ∧ z < p) : elems p zs = true := (elems_iff _ _).2 ⟨hp, fun z hz => (el_iff _ _).2 (h z hz)⟩
theorem elems3 {p a b c : Int} (hp : fld p = true) (ha : 0 ≤ a ∧ a < p) (hb : 0 ≤ b ∧ b < p) (hc : 0 ≤ c ∧ c < p) : elems p [a, b, c] = true := elems_of hp (fun z hz => by
  rcases List.mem_cons.1 hz with rfl | hz
  · exact ha
  · rcases List.mem_cons.1 hz with rfl | hz
    · exact hb
    · rcases List.mem_cons.1 hz with rfl | hz
      · exact hc
      · cases hz)
theorem resQ_len (p a b c : Int) : (resQ p a b c).length ≤ 97 := by
  unfold resQ
  cases h : elems p [a, b, c] with
  | false => simp
  | true =>
    have := (elems_cases h).2.1
    have := qroots_len p a b c p.toNat
    simp
    omega
theorem resRt_yes {p a : Int} (hp : fld p = true) (ha : 0 ≤ a ∧ a < p) : (resRt p a = (0, false) ∧ ∀ m : Nat, (m : Int) < p → ¬ (m : Int) * m % p = a) ∨ ∃ m : Nat, (m : Int) < p ∧ resRt p a = ((m : Int), true) ∧ (m : Int) * m % p = a := by
  have hel : elems p [a] = true := elems_of hp (fun z hz => by simp at hz; rw [hz]; exact ha)
  have e : resRt p a = rtFrom p a p.toNat 0 := by simp [resRt, hel]
  rw [e]
  cases h2 : (rtFrom p a p.toNat 0).2 with
  | false =>
    refine Or.inl ⟨?_, fun m hm => rtFrom_no h2 m (Nat.zero_le _) (by omega)⟩
    have : (rtFrom p a p.toNat 0).1 = 0 := rtFrom_zero h2
    rw [← this, ← h2]
  | true =>
    obtain ⟨m, e1, hm, hq⟩ := rtFrom_ok (p := p) (a := a) (f := p.toNat) (n := 0) (r := (rtFrom p a p.toNat 0).1) (by rw [← h2])
    exact Or.inr ⟨m, by omega, by rw [← e1, ← h2], hq⟩
theorem resRt_no {p a : Int} (h : fld p = false ∨ ¬ (0 ≤ a ∧ a < p)) : resRt p a = (0, false) := by
  unfold resRt
  rw [if_neg]
  intro hel
  have := (elems_iff _ _).1 hel
  rcases h with h | h
  · rw [h] at this
    exact absurd this.1 (by simp)
  · exact h ((el_iff _ _).1 (this.2 a (by simp)))

set_option maxHeartbeats 4000000 in
set_option maxRecDepth 100000 in
theorem law_FieldRoots (V V' : Value) (w : World) (ht : Tab w) (hv : Bytes w w.heap.size V) (hv' : Bytes w w.heap.size V') : Calls Tryd.prog 4 #[V, V'] w fun e w' => e = .returned (.bool true) ∧ Below w.heap.size w w' := by
  have HT := Lib.hid ht
  have HV := Lib.hid hv
  have HV' := Lib.hid hv'
  clear ht hv hv'
  go_enter Tryd.func4, Tryd.ntmps4
  go_wp2_with fail
  refine (big_any2 V V' w HV.out HV'.out).mono ?_
  rintro e w' ⟨⟨t, rfl⟩, rfl⟩
  cases t with
  | true =>
    go_wp2
    go_ret
    exact ⟨rfl, Below.refl _ _⟩
  | false =>
    go_wp2_with fail
    refine (DrawSquareRoot_any w V HV.out).mono ?_
    rintro e w1 ⟨⟨p, a, hp0, ha0, rfl⟩, b1⟩
    obtain ⟨ha1, ha2⟩ := ha0
    have HB1 := Lib.hid (show Below w.heap.size w w1 from b1)
    have HT1 := Lib.hid (HT.out.below b1)
    clear b1 hp0
    go_wp2_with fail
    refine (impl_SquareRoot p a _ HT1.out).mono ?_
    rintro e w2 ⟨rfl, b2⟩
    have HB2 := Lib.hid (HB1.out.trans (b2.mono HB1.out.size))
    have HT2 := Lib.hid (HT1.out.below b2)
    clear b2
    go_wp2_with fail
    refine (spec_SquareRoot p a _).mono ?_
    rintro e w' ⟨rfl, rfl⟩
    cases hp : fld p with
    | false =>
      have HE := Lib.hid (resRt_no (p := p) (a := a) (Or.inl hp))
      have HR := Lib.hid (show resRoot p = (0, false) from by simp [resRoot, hp])
      rw [HE.out]
      clear hp
      go_wp2_with fail
      refine (impl_PrimitiveRoot p _ HT2.out).mono ?_
      rintro e w' ⟨rfl, rfl⟩
      go_wp2_with fail
      refine (spec_PrimitiveRoot p _).mono ?_
      rintro e w' ⟨rfl, rfl⟩
      rw [HR.out]
      go_wp2_with fail
      refine (DrawQuadraticRoots_any w2 V' (HV'.out.below HB2.out (Nat.le_refl _) |>.grow HB2.out.size)).mono ?_
      rintro e x1 ⟨⟨q, x, y, z, hq1, hq2, hq3, hq4, rfl⟩, c1⟩
      have HC1 := Lib.hid (HB2.out.trans (c1.mono HB2.out.size))
      have HU1 := Lib.hid (HT2.out.below c1)
      clear c1 hq1 hq2 hq3 hq4
      go_wp2_with fail
      refine (impl_QuadraticRoots q x y z _ HU1.out).mono ?_
      rintro e x2 ⟨l1, rfl, k1, c2⟩
      have HC2 := Lib.hid (HC1.out.trans (c2.mono HC1.out.size))
      have HR2 := Lib.hid k1.read
      clear c2 k1
      go_wp2_with fail
      refine (spec_QuadraticRoots q x y z _).mono ?_
      rintro e x3 ⟨l2, rfl, k2, c3⟩
      have HC3 := Lib.hid (HC2.out.trans (c3.mono HC2.out.size))
      have HR3 := Lib.hid (HR2.out.below c3 (Nat.le_refl _))
      have HS3 := Lib.hid c3.size
      have HK2 := Lib.hid k2.read
      have hlen := resQ_len q x y z
      obtain ⟨A, cc, rfl, hcell0⟩ := HR3.out
      have HCE := Lib.hid hcell0
      clear c3 k2 HR2 hcell0
      go_wp2_with fail
      refine (sameInts_any _ x3.heap.size _ _ _ _ (HR3.out.mono HS3.out) HK2.out (by omega)).mono ?_
      rintro e x4 ⟨rfl, n4, rfl⟩
      cases hel : elems q [x, y, z] with
      | false =>
        have HE := Lib.hid (show resQ q x y z = [] from by simp [resQ, hel])
        have HN := Lib.hid (show (resQ q x y z).length = 0 from by rw [HE.out]; rfl)
        clear hel
        go_wp2
        go_loop [168] (fun i => i = .int .i64 0) (fun _ => 0)
        case atStart => rfl
        case round =>
          subst hrel
          have h00 : ¬ ((0 : Int) < ((resQ q x y z).length : Int)) := by have := HN.out; omega
          have h01 : ¬ (0 < (resQ q x y z).length) := by have := HN.out; omega
          go_wp2
          go_ret
          exact ⟨rfl, below_drewN HC3.out⟩
      | true =>
        obtain ⟨hp2, ⟨g1, g2⟩, hz2⟩ := elems_cases hel
        obtain ⟨xa, xb⟩ := hz2 x (by simp)
        obtain ⟨ya, yb⟩ := hz2 y (by simp)
        obtain ⟨za, zb⟩ := hz2 z (by simp)
        have HE := Lib.hid (show resQ q x y z = qroots q x y z q.toNat from by simp [resQ, hel])
        have HTW := Lib.hid (show (resQ q x y z).length ≤ 2 ∨ (x = 0 ∧ y = 0 ∧ z = 0) from by rw [HE.out]; exact quad_two hp2 ⟨xa, xb⟩ ⟨ya, yb⟩ ⟨za, zb⟩)
        clear hel hp2 hz2
        go_wp2
        go_loop [168] (fun i => ∃ k : Nat, k ≤ (resQ q x y z).length ∧ i = .int .i64 k) (fun i => (resQ q x y z).length - (intOf i).toNat)
        case atStart => exact ⟨0, Nat.zero_le _, rfl⟩
        case round =>
          obtain ⟨k, hk, rfl⟩ := hrel
          by_cases hlt : k < (resQ q x y z).length
          · obtain ⟨b', o', rfl, hb', hcell⟩ := HCE.out k hlt
            have hmem := getD_mem hlt
            generalize (resQ q x y z).getD k 0 = v at hcell hmem
            rw [HE.out] at hmem
            obtain ⟨v0, v1, hv⟩ := qroots_mem hmem
            have hvq : v < q := by omega
            obtain ⟨q1, q2⟩ := mul_bd g2 xa xb v0 hvq
            obtain ⟨r1, r2⟩ := mul_bd g2 ya yb v0 hvq
            have s1 : 0 ≤ x * v * v := Int.mul_nonneg q1 v0
            have s2 : x * v * v ≤ 9409 * 97 := Int.mul_le_mul q2 (by omega) v0 (by omega)
            have hlt' : (k : Int) < ((resQ q x y z).length : Int) := by omega
            clear hmem v1
            go_wp2
            go_round
            case rel => exact ⟨k + 1, by omega, by go_num⟩
            case measure => simp [intOf]; omega
          · rcases HTW.out with htw | ⟨e1, e2, e3⟩
            · have htw' : ((resQ q x y z).length : Int) ≤ 2 := by omega
              go_wp2
              go_ret
              exact ⟨rfl, below_drewN HC3.out⟩
            · have f1 : (x == 0) = true := by simp [e1]
              have f2 : (y == 0) = true := by simp [e2]
              have f3 : (z == 0) = true := by simp [e3]
              clear e1 e2 e3
              by_cases htw : (resQ q x y z).length ≤ 2
              · have htw' : ((resQ q x y z).length : Int) ≤ 2 := by omega
                go_wp2
                go_ret
                exact ⟨rfl, below_drewN HC3.out⟩
              · have htw' : ¬ ((resQ q x y z).length : Int) ≤ 2 := by omega
                go_wp2
                go_ret
                exact ⟨rfl, below_drewN HC3.out⟩
    | true =>
      obtain ⟨h1, h2⟩ := fld_bd hp
      have HP := Lib.hid hp
      have hg : 1 ≤ rootFrom p p.toNat 1 ∧ rootFrom p p.toNat 1 < p ∧ (ord p (rootFrom p p.toNat 1) : Int) = p - 1 := by
        obtain ⟨r, r1, r2, r3⟩ := root_ex hp
        obtain ⟨g1, g2, g3⟩ := rootFrom_ok (p := p) (r := r) (f := p.toNat) (a := 1) r1 (by omega) r3
        exact ⟨g1, by omega, g3⟩
      have HR := Lib.hid (show resRoot p = (rootFrom p p.toNat 1, true) from by simp [resRoot, hp])
      clear hp
      generalize rootFrom p p.toNat 1 = g at hg HR
      obtain ⟨g1, g2, g3⟩ := hg
      have HO := Lib.hid (show resOrd p g = (p - 1, true) from by
        have : elems p [g] = true := elems_of HP.out (fun z hz => by simp at hz; omega)
        simp [resOrd, this, g3]
        omega)
      clear g3
      by_cases hae : 0 ≤ a ∧ a < p
      · obtain ⟨c1, c2⟩ := hae
        have hx : a % p = a := Int.emod_eq_of_lt c1 c2
        have HX := Lib.hid hx
        have x1 : 0 ≤ -a % p := Int.emod_nonneg _ (by omega)
        have x2 : -a % p < p := Int.emod_lt_of_pos _ (by omega)
        have HQ := Lib.hid (elems3 HP.out (show (0 : Int) ≤ 1 ∧ 1 < p by omega) (show (0 : Int) ≤ 0 ∧ 0 < p by omega) ⟨x1, x2⟩)
        clear x1 x2
        rcases resRt_yes HP.out ⟨c1, c2⟩ with ⟨hr, hno⟩ | ⟨m, hm, hr, hsq⟩
        · have HE := Lib.hid hr
          have HL := Lib.hid (show (resQ p 1 0 (-a % p)).length = 0 from by
            have e : resQ p 1 0 (-a % p) = qroots p 1 0 (-a % p) p.toNat := by unfold resQ; rw [if_pos HQ.out]
            rw [e]
            match hq : qroots p 1 0 (-a % p) p.toNat with
            | [] => rfl
            | v :: _ =>
              obtain ⟨v0, v1, hv⟩ := qroots_mem (p := p) (a := 1) (b := 0) (c := -a % p) (v := v) (n := p.toNat) (by rw [hq]; simp)
              have := (square_iff ⟨c1, c2⟩ rfl).1 hv
              obtain ⟨m, rfl⟩ := Int.eq_ofNat_of_zero_le v0
              exact absurd this (hno m (by omega)))
          clear hr hno
          rw [HE.out]
          go_wp2_with fail
          refine (impl_PrimitiveRoot p _ HT2.out).mono ?_
          rintro e w' ⟨rfl, rfl⟩
          go_wp2_with fail
          refine (spec_PrimitiveRoot p _).mono ?_
          rintro e w' ⟨rfl, rfl⟩
          rw [HR.out]
          go_wp2_with fail
          refine (impl_ElementOrder p g _ HT2.out).mono ?_
          rintro e w3 ⟨rfl, b3⟩
          have HB3 := Lib.hid (HB2.out.trans (b3.mono HB2.out.size))
          have HT3 := Lib.hid (HT2.out.below b3)
          clear b3
          rw [HO.out]
          go_wp2_with fail
          refine (impl_QuadraticRoots p 1 0 _ _ HT3.out).mono ?_
          rintro e w4 ⟨l0, rfl, k0, b4⟩
          have HB4 := Lib.hid (HB3.out.trans (b4.mono HB3.out.size))
          have HT4 := Lib.hid (HT3.out.below b4)
          obtain ⟨A0, cc0, rfl, _⟩ := k0.read
          clear k0 b4
          rw [HQ.out]
          have hl0 : ¬ ((0 : Int) < ((resQ p 1 0 (-a % p)).length : Int)) := by have := HL.out; omega
          have hl1 : ¬ (0 < (resQ p 1 0 (-a % p)).length) := by have := HL.out; omega
          go_wp2_with fail
          refine (DrawQuadraticRoots_any w4 V' (HV'.out.below HB4.out (Nat.le_refl _) |>.grow HB4.out.size)).mono ?_
          rintro e x1 ⟨⟨q, x, y, z, hq1, hq2, hq3, hq4, rfl⟩, c1⟩
          have HC1 := Lib.hid (HB4.out.trans (c1.mono HB4.out.size))
          have HU1 := Lib.hid (HT4.out.below c1)
          clear c1 hq1 hq2 hq3 hq4
          go_wp2_with fail
          refine (impl_QuadraticRoots q x y z _ HU1.out).mono ?_
          rintro e x2 ⟨l1, rfl, k1, c2⟩
          have HC2 := Lib.hid (HC1.out.trans (c2.mono HC1.out.size))
          have HR2 := Lib.hid k1.read
          clear c2 k1
          go_wp2_with fail
          refine (spec_QuadraticRoots q x y z _).mono ?_
          rintro e x3 ⟨l2, rfl, k2, c3⟩
          have HC3 := Lib.hid (HC2.out.trans (c3.mono HC2.out.size))
          have HR3 := Lib.hid (HR2.out.below c3 (Nat.le_refl _))
          have HS3 := Lib.hid c3.size
          have HK2 := Lib.hid k2.read
          have hlen := resQ_len q x y z
          obtain ⟨A, cc, rfl, hcell0⟩ := HR3.out
          have HCE := Lib.hid hcell0
          clear c3 k2 HR2 hcell0
          go_wp2_with fail
          refine (sameInts_any _ x3.heap.size _ _ _ _ (HR3.out.mono HS3.out) HK2.out (by omega)).mono ?_
          rintro e x4 ⟨rfl, n4, rfl⟩
          cases hel : elems q [x, y, z] with
          | false =>
            have HE := Lib.hid (show resQ q x y z = [] from by simp [resQ, hel])
            have HN := Lib.hid (show (resQ q x y z).length = 0 from by rw [HE.out]; rfl)
            clear hel
            go_wp2
            go_loop [168] (fun i => i = .int .i64 0) (fun _ => 0)
            case atStart => rfl
            case round =>
              subst hrel
              have h00 : ¬ ((0 : Int) < ((resQ q x y z).length : Int)) := by have := HN.out; omega
              have h01 : ¬ (0 < (resQ q x y z).length) := by have := HN.out; omega
              go_wp2
              go_ret
              exact ⟨rfl, below_drewN HC3.out⟩
          | true =>
            obtain ⟨hp2, ⟨g1, g2⟩, hz2⟩ := elems_cases hel
            obtain ⟨xa, xb⟩ := hz2 x (by simp)
            obtain ⟨ya, yb⟩ := hz2 y (by simp)
            obtain ⟨za, zb⟩ := hz2 z (by simp)
            have HE := Lib.hid (show resQ q x y z = qroots q x y z q.toNat from by simp [resQ, hel])
            have HTW := Lib.hid (show (resQ q x y z).length ≤ 2 ∨ (x = 0 ∧ y = 0 ∧ z = 0) from by rw [HE.out]; exact quad_two hp2 ⟨xa, xb⟩ ⟨ya, yb⟩ ⟨za, zb⟩)
            clear hel hp2 hz2
            go_wp2
            go_loop [168] (fun i => ∃ k : Nat, k ≤ (resQ q x y z).length ∧ i = .int .i64 k) (fun i => (resQ q x y z).length - (intOf i).toNat)
            case atStart => exact ⟨0, Nat.zero_le _, rfl⟩
            case round =>
              obtain ⟨k, hk, rfl⟩ := hrel
              by_cases hlt : k < (resQ q x y z).length
              · obtain ⟨b', o', rfl, hb', hcell⟩ := HCE.out k hlt
                have hmem := getD_mem hlt
                generalize (resQ q x y z).getD k 0 = v at hcell hmem
                rw [HE.out] at hmem
                obtain ⟨v0, v1, hv⟩ := qroots_mem hmem
                have hvq : v < q := by omega
                obtain ⟨q1, q2⟩ := mul_bd g2 xa xb v0 hvq
                obtain ⟨r1, r2⟩ := mul_bd g2 ya yb v0 hvq
                have s1 : 0 ≤ x * v * v := Int.mul_nonneg q1 v0
                have s2 : x * v * v ≤ 9409 * 97 := Int.mul_le_mul q2 (by omega) v0 (by omega)
                have hlt' : (k : Int) < ((resQ q x y z).length : Int) := by omega
                clear hmem v1
                go_wp2
                go_round
                case rel => exact ⟨k + 1, by omega, by go_num⟩
                case measure => simp [intOf]; omega
              · rcases HTW.out with htw | ⟨e1, e2, e3⟩
                · have htw' : ((resQ q x y z).length : Int) ≤ 2 := by omega
                  go_wp2
                  go_ret
                  exact ⟨rfl, below_drewN HC3.out⟩
                · have f1 : (x == 0) = true := by simp [e1]
                  have f2 : (y == 0) = true := by simp [e2]
                  have f3 : (z == 0) = true := by simp [e3]
                  clear e1 e2 e3
                  by_cases htw : (resQ q x y z).length ≤ 2
                  · have htw' : ((resQ q x y z).length : Int) ≤ 2 := by omega
                    go_wp2
                    go_ret
                    exact ⟨rfl, below_drewN HC3.out⟩
                  · have htw' : ¬ ((resQ q x y z).length : Int) ≤ 2 := by omega
                    go_wp2
                    go_ret
                    exact ⟨rfl, below_drewN HC3.out⟩
        · have HE := Lib.hid hr
          have HL := Lib.hid (show 0 < (resQ p 1 0 (-a % p)).length from by
            have e : resQ p 1 0 (-a % p) = qroots p 1 0 (-a % p) p.toNat := by unfold resQ; rw [if_pos HQ.out]
            rw [e]
            exact List.length_pos_of_mem (qroots_has (m := m) ((square_iff ⟨c1, c2⟩ rfl).2 hsq) (by omega)))
          obtain ⟨q1, q2⟩ := mul_bd h2 (by omega : (0 : Int) ≤ m) hm (by omega : (0 : Int) ≤ m) hm
          have hsq' : ((m : Int) * m % p != a) = false := by simp [hsq]
          clear hr hsq
          rw [HE.out]
          go_wp2_with fail
          refine (impl_PrimitiveRoot p _ HT2.out).mono ?_
          rintro e w' ⟨rfl, rfl⟩
          go_wp2_with fail
          refine (spec_PrimitiveRoot p _).mono ?_
          rintro e w' ⟨rfl, rfl⟩
          rw [HR.out]
          go_wp2_with fail
          refine (impl_ElementOrder p g _ HT2.out).mono ?_
          rintro e w3 ⟨rfl, b3⟩
          have HB3 := Lib.hid (HB2.out.trans (b3.mono HB2.out.size))
          have HT3 := Lib.hid (HT2.out.below b3)
          clear b3
          rw [HO.out]
          go_wp2_with fail
          refine (impl_QuadraticRoots p 1 0 _ _ HT3.out).mono ?_
          rintro e w4 ⟨l0, rfl, k0, b4⟩
          have HB4 := Lib.hid (HB3.out.trans (b4.mono HB3.out.size))
          have HT4 := Lib.hid (HT3.out.below b4)
          obtain ⟨A0, cc0, rfl, _⟩ := k0.read
          clear k0 b4
          rw [HQ.out]
          have hl0 : (0 : Int) < ((resQ p 1 0 (-a % p)).length : Int) := by have := HL.out; omega
          have hl1 : 0 < (resQ p 1 0 (-a % p)).length := HL.out
          go_wp2_with fail
          refine (DrawQuadraticRoots_any w4 V' (HV'.out.below HB4.out (Nat.le_refl _) |>.grow HB4.out.size)).mono ?_
          rintro e x1 ⟨⟨q, x, y, z, hq1, hq2, hq3, hq4, rfl⟩, c1⟩
          have HC1 := Lib.hid (HB4.out.trans (c1.mono HB4.out.size))
          have HU1 := Lib.hid (HT4.out.below c1)
          clear c1 hq1 hq2 hq3 hq4
          go_wp2_with fail
          refine (impl_QuadraticRoots q x y z _ HU1.out).mono ?_
          rintro e x2 ⟨l1, rfl, k1, c2⟩
          have HC2 := Lib.hid (HC1.out.trans (c2.mono HC1.out.size))
          have HR2 := Lib.hid k1.read
          clear c2 k1
          go_wp2_with fail
          refine (spec_QuadraticRoots q x y z _).mono ?_
          rintro e x3 ⟨l2, rfl, k2, c3⟩
          have HC3 := Lib.hid (HC2.out.trans (c3.mono HC2.out.size))
          have HR3 := Lib.hid (HR2.out.below c3 (Nat.le_refl _))
          have HS3 := Lib.hid c3.size
          have HK2 := Lib.hid k2.read
          have hlen := resQ_len q x y z
          obtain ⟨A, cc, rfl, hcell0⟩ := HR3.out
          have HCE := Lib.hid hcell0
          clear c3 k2 HR2 hcell0
          go_wp2_with fail
          refine (sameInts_any _ x3.heap.size _ _ _ _ (HR3.out.mono HS3.out) HK2.out (by omega)).mono ?_
          rintro e x4 ⟨rfl, n4, rfl⟩
          cases hel : elems q [x, y, z] with
          | false =>
            have HE := Lib.hid (show resQ q x y z = [] from by simp [resQ, hel])
            have HN := Lib.hid (show (resQ q x y z).length = 0 from by rw [HE.out]; rfl)
            clear hel
            go_wp2
            go_loop [168] (fun i => i = .int .i64 0) (fun _ => 0)
            case atStart => rfl
            case round =>
              subst hrel
              have h00 : ¬ ((0 : Int) < ((resQ q x y z).length : Int)) := by have := HN.out; omega
              have h01 : ¬ (0 < (resQ q x y z).length) := by have := HN.out; omega
              go_wp2
              go_ret
              exact ⟨rfl, below_drewN HC3.out⟩
          | true =>
            obtain ⟨hp2, ⟨g1, g2⟩, hz2⟩ := elems_cases hel
            obtain ⟨xa, xb⟩ := hz2 x (by simp)
            obtain ⟨ya, yb⟩ := hz2 y (by simp)
            obtain ⟨za, zb⟩ := hz2 z (by simp)
            have HE := Lib.hid (show resQ q x y z = qroots q x y z q.toNat from by simp [resQ, hel])
            have HTW := Lib.hid (show (resQ q x y z).length ≤ 2 ∨ (x = 0 ∧ y = 0 ∧ z = 0) from by rw [HE.out]; exact quad_two hp2 ⟨xa, xb⟩ ⟨ya, yb⟩ ⟨za, zb⟩)
            clear hel hp2 hz2
            go_wp2
            go_loop [168] (fun i => ∃ k : Nat, k ≤ (resQ q x y z).length ∧ i = .int .i64 k) (fun i => (resQ q x y z).length - (intOf i).toNat)
            case atStart => exact ⟨0, Nat.zero_le _, rfl⟩
            case round =>
              obtain ⟨k, hk, rfl⟩ := hrel
              by_cases hlt : k < (resQ q x y z).length
              · obtain ⟨b', o', rfl, hb', hcell⟩ := HCE.out k hlt
                have hmem := getD_mem hlt
                generalize (resQ q x y z).getD k 0 = v at hcell hmem
                rw [HE.out] at hmem
                obtain ⟨v0, v1, hv⟩ := qroots_mem hmem
                have hvq : v < q := by omega
                obtain ⟨q1, q2⟩ := mul_bd g2 xa xb v0 hvq
                obtain ⟨r1, r2⟩ := mul_bd g2 ya yb v0 hvq
                have s1 : 0 ≤ x * v * v := Int.mul_nonneg q1 v0
                have s2 : x * v * v ≤ 9409 * 97 := Int.mul_le_mul q2 (by omega) v0 (by omega)
                have hlt' : (k : Int) < ((resQ q x y z).length : Int) := by omega
                clear hmem v1
                go_wp2
                go_round
                case rel => exact ⟨k + 1, by omega, by go_num⟩
                case measure => simp [intOf]; omega
              · rcases HTW.out with htw | ⟨e1, e2, e3⟩
                · have htw' : ((resQ q x y z).length : Int) ≤ 2 := by omega
                  go_wp2
                  go_ret
                  exact ⟨rfl, below_drewN HC3.out⟩
                · have f1 : (x == 0) = true := by simp [e1]
                  have f2 : (y == 0) = true := by simp [e2]
                  have f3 : (z == 0) = true := by simp [e3]
                  clear e1 e2 e3
                  by_cases htw : (resQ q x y z).length ≤ 2
                  · have htw' : ((resQ q x y z).length : Int) ≤ 2 := by omega
                    go_wp2
                    go_ret
                    exact ⟨rfl, below_drewN HC3.out⟩
                  · have htw' : ¬ ((resQ q x y z).length : Int) ≤ 2 := by omega
                    go_wp2
                    go_ret
                    exact ⟨rfl, below_drewN HC3.out⟩
      · have HE := Lib.hid (resRt_no (p := p) (a := a) (Or.inr hae))
        by_cases hneg : a < 0
        · have hz1 : ¬ 0 ≤ a := by omega
          obtain rfl : a = -1 := by omega
          have htm : Int.tmod (-1) p = -1 := by
            rw [Int.neg_tmod, Int.tmod_eq_emod_of_nonneg (by omega), Int.emod_eq_of_lt (by omega) (by omega)]
          clear hae
          rw [HE.out]
          go_wp2_with fail
          refine (impl_PrimitiveRoot p _ HT2.out).mono ?_
          rintro e w' ⟨rfl, rfl⟩
          go_wp2_with fail
          refine (spec_PrimitiveRoot p _).mono ?_
          rintro e w' ⟨rfl, rfl⟩
          rw [HR.out]
          go_wp2_with fail
          refine (impl_ElementOrder p g _ HT2.out).mono ?_
          rintro e w3 ⟨rfl, b3⟩
          have HB3 := Lib.hid (HB2.out.trans (b3.mono HB2.out.size))
          have HT3 := Lib.hid (HT2.out.below b3)
          clear b3
          rw [HO.out]
          go_wp2_with fail
          refine (impl_QuadraticRoots p 1 0 _ _ HT3.out).mono ?_
          rintro e w4 ⟨l0, rfl, k0, b4⟩
          have HB4 := Lib.hid (HB3.out.trans (b4.mono HB3.out.size))
          have HT4 := Lib.hid (HT3.out.below b4)
          obtain ⟨A0, cc0, rfl, _⟩ := k0.read
          clear k0 b4
          go_wp2_with fail
          refine (DrawQuadraticRoots_any w4 V' (HV'.out.below HB4.out (Nat.le_refl _) |>.grow HB4.out.size)).mono ?_
          rintro e x1 ⟨⟨q, x, y, z, hq1, hq2, hq3, hq4, rfl⟩, c1⟩
          have HC1 := Lib.hid (HB4.out.trans (c1.mono HB4.out.size))
          have HU1 := Lib.hid (HT4.out.below c1)
          clear c1 hq1 hq2 hq3 hq4
          go_wp2_with fail
          refine (impl_QuadraticRoots q x y z _ HU1.out).mono ?_
          rintro e x2 ⟨l1, rfl, k1, c2⟩
          have HC2 := Lib.hid (HC1.out.trans (c2.mono HC1.out.size))
          have HR2 := Lib.hid k1.read
          clear c2 k1
          go_wp2_with fail
          refine (spec_QuadraticRoots q x y z _).mono ?_
          rintro e x3 ⟨l2, rfl, k2, c3⟩
          have HC3 := Lib.hid (HC2.out.trans (c3.mono HC2.out.size))
          have HR3 := Lib.hid (HR2.out.below c3 (Nat.le_refl _))
          have HS3 := Lib.hid c3.size
          have HK2 := Lib.hid k2.read
          have hlen := resQ_len q x y z
          obtain ⟨A, cc, rfl, hcell0⟩ := HR3.out
          have HCE := Lib.hid hcell0
          clear c3 k2 HR2 hcell0
          go_wp2_with fail
          refine (sameInts_any _ x3.heap.size _ _ _ _ (HR3.out.mono HS3.out) HK2.out (by omega)).mono ?_
          rintro e x4 ⟨rfl, n4, rfl⟩
          cases hel : elems q [x, y, z] with
          | false =>
            have HE := Lib.hid (show resQ q x y z = [] from by simp [resQ, hel])
            have HN := Lib.hid (show (resQ q x y z).length = 0 from by rw [HE.out]; rfl)
            clear hel
            go_wp2
            go_loop [168] (fun i => i = .int .i64 0) (fun _ => 0)
            case atStart => rfl
            case round =>
              subst hrel
              have h00 : ¬ ((0 : Int) < ((resQ q x y z).length : Int)) := by have := HN.out; omega
              have h01 : ¬ (0 < (resQ q x y z).length) := by have := HN.out; omega
              go_wp2
              go_ret
              exact ⟨rfl, below_drewN HC3.out⟩
          | true =>
            obtain ⟨hp2, ⟨g1, g2⟩, hz2⟩ := elems_cases hel
            obtain ⟨xa, xb⟩ := hz2 x (by simp)
            obtain ⟨ya, yb⟩ := hz2 y (by simp)
            obtain ⟨za, zb⟩ := hz2 z (by simp)
            have HE := Lib.hid (show resQ q x y z = qroots q x y z q.toNat from by simp [resQ, hel])
            have HTW := Lib.hid (show (resQ q x y z).length ≤ 2 ∨ (x = 0 ∧ y = 0 ∧ z = 0) from by rw [HE.out]; exact quad_two hp2 ⟨xa, xb⟩ ⟨ya, yb⟩ ⟨za, zb⟩)
            clear hel hp2 hz2
            go_wp2
            go_loop [168] (fun i => ∃ k : Nat, k ≤ (resQ q x y z).length ∧ i = .int .i64 k) (fun i => (resQ q x y z).length - (intOf i).toNat)
            case atStart => exact ⟨0, Nat.zero_le _, rfl⟩
            case round =>
              obtain ⟨k, hk, rfl⟩ := hrel
              by_cases hlt : k < (resQ q x y z).length
              · obtain ⟨b', o', rfl, hb', hcell⟩ := HCE.out k hlt
                have hmem := getD_mem hlt
                generalize (resQ q x y z).getD k 0 = v at hcell hmem
                rw [HE.out] at hmem
                obtain ⟨v0, v1, hv⟩ := qroots_mem hmem
                have hvq : v < q := by omega
                obtain ⟨q1, q2⟩ := mul_bd g2 xa xb v0 hvq
                obtain ⟨r1, r2⟩ := mul_bd g2 ya yb v0 hvq
                have s1 : 0 ≤ x * v * v := Int.mul_nonneg q1 v0
                have s2 : x * v * v ≤ 9409 * 97 := Int.mul_le_mul q2 (by omega) v0 (by omega)
                have hlt' : (k : Int) < ((resQ q x y z).length : Int) := by omega
                clear hmem v1
                go_wp2
                go_round
                case rel => exact ⟨k + 1, by omega, by go_num⟩
                case measure => simp [intOf]; omega
              · rcases HTW.out with htw | ⟨e1, e2, e3⟩
                · have htw' : ((resQ q x y z).length : Int) ≤ 2 := by omega
                  go_wp2
                  go_ret
                  exact ⟨rfl, below_drewN HC3.out⟩
                · have f1 : (x == 0) = true := by simp [e1]
                  have f2 : (y == 0) = true := by simp [e2]
                  have f3 : (z == 0) = true := by simp [e3]
                  clear e1 e2 e3
                  by_cases htw : (resQ q x y z).length ≤ 2
                  · have htw' : ((resQ q x y z).length : Int) ≤ 2 := by omega
                    go_wp2
                    go_ret
                    exact ⟨rfl, below_drewN HC3.out⟩
                  · have htw' : ¬ ((resQ q x y z).length : Int) ≤ 2 := by omega
                    go_wp2
                    go_ret
                    exact ⟨rfl, below_drewN HC3.out⟩
        · have c1 : 0 ≤ a := by omega
          have c2 : p ≤ a := by omega
          have x1 : 0 ≤ a % p := Int.emod_nonneg _ (by omega)
          have x2 : a % p < p := Int.emod_lt_of_pos _ (by omega)
          clear hae hneg
          rw [HE.out]
          go_wp2_with fail
          refine (impl_PrimitiveRoot p _ HT2.out).mono ?_
          rintro e w' ⟨rfl, rfl⟩
          go_wp2_with fail
          refine (spec_PrimitiveRoot p _).mono ?_
          rintro e w' ⟨rfl, rfl⟩
          rw [HR.out]
          go_wp2_with fail
          refine (impl_ElementOrder p g _ HT2.out).mono ?_
          rintro e w3 ⟨rfl, b3⟩
          have HB3 := Lib.hid (HB2.out.trans (b3.mono HB2.out.size))
          have HT3 := Lib.hid (HT2.out.below b3)
          clear b3
          rw [HO.out]
          go_wp2_with fail
          refine (impl_QuadraticRoots p 1 0 _ _ HT3.out).mono ?_
          rintro e w4 ⟨l0, rfl, k0, b4⟩
          have HB4 := Lib.hid (HB3.out.trans (b4.mono HB3.out.size))
          have HT4 := Lib.hid (HT3.out.below b4)
          obtain ⟨A0, cc0, rfl, _⟩ := k0.read
          clear k0 b4
          go_wp2_with fail
          refine (DrawQuadraticRoots_any w4 V' (HV'.out.below HB4.out (Nat.le_refl _) |>.grow HB4.out.size)).mono ?_
          rintro e x1 ⟨⟨q, x, y, z, hq1, hq2, hq3, hq4, rfl⟩, c1⟩
          have HC1 := Lib.hid (HB4.out.trans (c1.mono HB4.out.size))
          have HU1 := Lib.hid (HT4.out.below c1)
          clear c1 hq1 hq2 hq3 hq4
          go_wp2_with fail
          refine (impl_QuadraticRoots q x y z _ HU1.out).mono ?_
          rintro e x2 ⟨l1, rfl, k1, c2⟩
          have HC2 := Lib.hid (HC1.out.trans (c2.mono HC1.out.size))
          have HR2 := Lib.hid k1.read
          clear c2 k1
          go_wp2_with fail
          refine (spec_QuadraticRoots q x y z _).mono ?_
          rintro e x3 ⟨l2, rfl, k2, c3⟩
          have HC3 := Lib.hid (HC2.out.trans (c3.mono HC2.out.size))
          have HR3 := Lib.hid (HR2.out.below c3 (Nat.le_refl _))
          have HS3 := Lib.hid c3.size
          have HK2 := Lib.hid k2.read
          have hlen := resQ_len q x y z
          obtain ⟨A, cc, rfl, hcell0⟩ := HR3.out
          have HCE := Lib.hid hcell0
          clear c3 k2 HR2 hcell0
          go_wp2_with fail
          refine (sameInts_any _ x3.heap.size _ _ _ _ (HR3.out.mono HS3.out) HK2.out (by omega)).mono ?_
          rintro e x4 ⟨rfl, n4, rfl⟩
          cases hel : elems q [x, y, z] with
          | false =>
            have HE := Lib.hid (show resQ q x y z = [] from by simp [resQ, hel])
            have HN := Lib.hid (show (resQ q x y z).length = 0 from by rw [HE.out]; rfl)
            clear hel
            go_wp2
            go_loop [168] (fun i => i = .int .i64 0) (fun _ => 0)
            case atStart => rfl
            case round =>
              subst hrel
              have h00 : ¬ ((0 : Int) < ((resQ q x y z).length : Int)) := by have := HN.out; omega
              have h01 : ¬ (0 < (resQ q x y z).length) := by have := HN.out; omega
              go_wp2
              go_ret
              exact ⟨rfl, below_drewN HC3.out⟩
          | true =>
            obtain ⟨hp2, ⟨g1, g2⟩, hz2⟩ := elems_cases hel
            obtain ⟨xa, xb⟩ := hz2 x (by simp)
            obtain ⟨ya, yb⟩ := hz2 y (by simp)
            obtain ⟨za, zb⟩ := hz2 z (by simp)
            have HE := Lib.hid (show resQ q x y z = qroots q x y z q.toNat from by simp [resQ, hel])
            have HTW := Lib.hid (show (resQ q x y z).length ≤ 2 ∨ (x = 0 ∧ y = 0 ∧ z = 0) from by rw [HE.out]; exact quad_two hp2 ⟨xa, xb⟩ ⟨ya, yb⟩ ⟨za, zb⟩)
            clear hel hp2 hz2
            go_wp2
            go_loop [168] (fun i => ∃ k : Nat, k ≤ (resQ q x y z).length ∧ i = .int .i64 k) (fun i => (resQ q x y z).length - (intOf i).toNat)
            case atStart => exact ⟨0, Nat.zero_le _, rfl⟩
            case round =>
              obtain ⟨k, hk, rfl⟩ := hrel
              by_cases hlt : k < (resQ q x y z).length
              · obtain ⟨b', o', rfl, hb', hcell⟩ := HCE.out k hlt
                have hmem := getD_mem hlt
                generalize (resQ q x y z).getD k 0 = v at hcell hmem
                rw [HE.out] at hmem
                obtain ⟨v0, v1, hv⟩ := qroots_mem hmem
                have hvq : v < q := by omega
                obtain ⟨q1, q2⟩ := mul_bd g2 xa xb v0 hvq
                obtain ⟨r1, r2⟩ := mul_bd g2 ya yb v0 hvq
                have s1 : 0 ≤ x * v * v := Int.mul_nonneg q1 v0
                have s2 : x * v * v ≤ 9409 * 97 := Int.mul_le_mul q2 (by omega) v0 (by omega)
                have hlt' : (k : Int) < ((resQ q x y z).length : Int) := by omega
                clear hmem v1
                go_wp2
                go_round
                case rel => exact ⟨k + 1, by omega, by go_num⟩
                case measure => simp [intOf]; omega
              · rcases HTW.out with htw | ⟨e1, e2, e3⟩
                · have htw' : ((resQ q x y z).length : Int) ≤ 2 := by omega
                  go_wp2
                  go_ret
                  exact ⟨rfl, below_drewN HC3.out⟩
                · have f1 : (x == 0) = true := by simp [e1]
                  have f2 : (y == 0) = true := by simp [e2]
                  have f3 : (z == 0) = true := by simp [e3]
                  clear e1 e2 e3
                  by_cases htw : (resQ q x y z).length ≤ 2
                  · have htw' : ((resQ q x y z).length : Int) ≤ 2 := by omega
                    go_wp2
                    go_ret
                    exact ⟨rfl, below_drewN HC3.out⟩
                  · have htw' : ¬ ((resQ q x y z).length : Int) ≤ 2 := by omega
                    go_wp2
                    go_ret
                    exact ⟨rfl, below_drewN HC3.out⟩

theorem fnFieldRoots_fn {H : Type} (ds gs : List (DataW H)) (h1 : ds.length = Tryd.f4.params.toList.length) (h2 : gs.length = Rows.fnFieldRootsSpec.vars.length) : Rows.fnFieldRootsSpec.fn H (ds ++ gs) = { results := [.lit (.bool true)], args := ds, vars := gs } := by
  rw [Tryd.params4] at h1
  match ds, gs, h1, h2 with
  | [_, _], [_], _, _ => rfl
set_option maxRecDepth 100000 in
theorem fnFieldRoots_lifted (os : Os) (started : os.Started) (H : Type) (enc : TypeId × Value → H) :
    ReturnsInHanded {} Tryd.checked os 4 .any (fun w args => (Rows.fnFieldRootsSpec.pre enc Tryd.prog Tryd.f4 [] false w args ∧ laidMetH Tryd.prog Rows.fnFieldRootsRow.laid w) ∧ sizedMet enc Tryd.prog Tryd.f4 (OpenSpec.ofChange Rows.fnFieldRootsSpec) false w args)
      (Rows.fnFieldRootsSpec.post enc Tryd.prog Tryd.f4 false true false false) := by
  refine returnsInHanded_of_change_and (C := Tryd.checked) (X := fun w _ => laidMetH Tryd.prog Rows.fnFieldRootsRow.laid w) (fun _ _ _ hh h => h.of_heap hh) own started (by kernel_rfl) Tryd.func4
    (ChangeSpec.witness_shaped (enc := enc) (C := Tryd.checked) (os := os) (X := fun w _ => laidMetH Tryd.prog Rows.fnFieldRootsRow.laid w) false (World.doorLaid Tryd.prog 400 os) #[.slice none 0 0, .slice none 0 0] 8 rfl (World.shaped_of_RefB (by kernel_rfl) (by kernel_rfl)) (by kernel_rfl) (by kernel_rfl) (by kernel_rfl) (door_met os _)) ?_
  intro W base args ds gs before hval0 hW _ _ hL _
  have hval : ∀ (j : Nat) t v, Tryd.f4.params[j]? = some t → args[j]? = some v → Value.okWide Tryd.prog W .any base t v := hval0
  have hW' := hW
  obtain ⟨p, q, hA0, hV0, rfl, hfz, hnd⟩ := hW
  have hT := tab_of_laid hL
  replace hA0 : DataW.TrodAll enc Tryd.prog W 0 (fun _ => true) true Tryd.f4.params.toList args.toList ds p := hA0
  rw [Tryd.params4] at hA0 hval
  obtain ⟨n0, n1, rfl, hn0, hn1⟩ := bytes2 hval hA0 (fun x hx => hW'.lt x (by simp [hx]))
  refine (law_FieldRoots n0 n1 W hT hn0 hn1).mono fun e W' ⟨he, hb⟩ => ?_
  subst he
  exact ⟨_, rfl, post_true (by kernel_rfl) (by kernel_rfl) (by kernel_rfl) rfl Tryd.underlying4 fnFieldRoots_fn hW' hb⟩
theorem fnFieldRoots_holds : Rows.FnFieldRootsSaid :=
  OpenClaim.holds_of_wide 4 Tryd.f4 rfl rfl rfl rfl rfl rfl rfl ⟨rfl, rfl, rfl, rfl, rfl⟩ rfl rfl rfl rfl rfl (by kernel_rfl) Tryd.func4 (by kernel_rfl)
    (of_decide_eq_true (by kernel_rfl)) (by unfold Func.isWrapper; first | (rw [if_pos (by decide +kernel)]; kernel_rfl) | (rw [if_neg (by decide +kernel)]; exact ⟨rfl, rfl⟩))
    (fun os started H enc _ => fnFieldRoots_lifted os started H enc)
theorem fnFieldRoots_card_holds : Rows.FnFieldRootsCardSaid :=
  Claim7.holds_tied_plain_at .later [] [.data] true _ false
    fnFieldRoots_holds (fun _ h => by cases h) (by kernel_rfl) (fun _ h => by cases h) fnFieldRoots_row_tie rfl ⟨rfl, rfl⟩ (by kernel_rfl) rfl
    (fun f fn hf hfn => by
      obtain rfl : f = 4 := Option.some.inj ((show Tryd.prog.funcNamed "loop.example/g01073/laws.FnFieldRoots" = some 4 by kernel_rfl).symm.trans hf) |>.symm
      obtain rfl : fn = Tryd.f4 := (Option.some.inj (Tryd.func4.symm.trans hfn)).symm
      exact ⟨by kernel_rfl, fun j t ht => by
        rw [Tryd.params4] at ht
        have hm := Array.mem_of_getElem? ht
        have hall : ((#[22, 22] : Array TypeId).toList.all fun u => !Tryd.prog.wantsStandIn u) = true := by kernel_rfl
        exact (show Tryd.prog.wantsStandIn t = false by simpa using List.all_eq_true.1 hall t (Array.mem_toList_iff.2 hm))⟩)
    (by kernel_rfl)
end Go.Proofs.YtoajbnkpognoiaaDoor

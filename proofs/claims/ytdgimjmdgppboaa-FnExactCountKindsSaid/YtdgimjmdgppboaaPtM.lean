/- The program's parts: the tree of a whole term. -/
import Derived.Test.YtdgimjmdgppboaaPtL
namespace Go.Proofs.Ytdgimjmdgppboaa
set_option maxRecDepth 100000
open Go Go.RowKit Go.Deep

theorem stack_next {x : List Nd} {k : Nat} {st : List Tr} (h : k < x.length) (e : stackT [] (x.take k) = some st) : stackT [] (x.take (k + 1)) = stepT st (x.getD k nd0) := by
  rw [takeN_snoc h, stackT_snoc, e]
  rfl
theorem stack_bad {x : List Nd} {k : Nat} {st : List Tr} (h : k < x.length) (e : stackT [] (x.take k) = some st) (e2 : stepT st (x.getD k nd0) = none) : treeOf x = none := by
  have e3 := stack_next h e
  rw [e2] at e3
  have e4 : stackT [] x = none := by
    conv => lhs; rw [← List.take_append_drop (k + 1) x, stackT_app, e3]
    rfl
  unfold treeOf
  rw [e4]
  simp
theorem stack_len : ∀ (ns : List Nd) {st st' : List Tr}, stackT st ns = some st' → st'.length ≤ st.length + ns.length
  | [], st, st', h => by
    obtain rfl := Option.some.inj h
    simp
  | n :: ns, st, st', h => by
    simp only [stackT] at h
    cases e : stepT st n with
    | none => rw [e] at h; cases h
    | some s2 =>
      rw [e] at h
      have h2 := stack_len ns h
      have h3 : s2.length ≤ st.length + 1 := by
        unfold stepT at e
        split at e
        · obtain rfl := Option.some.inj e
          simp
        · split at e
          · split at e
            · cases e4 : joinT n.k _ _ with
              | none => rw [e4] at e; cases e
              | some t => rw [e4] at e; obtain rfl := Option.some.inj e; simp
            · cases e
          · cases e
      simp only [List.length_cons]
      omega
theorem tree_one {x : List Nd} {t : Tr} (hl : x.length ≤ 400) (e : stackT [] x = some [t]) : treeOf x = some t := by
  unfold treeOf
  rw [if_pos hl]
  generalize stackT [] x = s at e
  subst e
  rfl
theorem tree_many {x : List Nd} {st : List Tr} (hl : x.length ≤ 400) (e : stackT [] x = some st) (h1 : st.length ≠ 1) : treeOf x = none := by
  unfold treeOf
  rw [if_pos hl]
  generalize stackT [] x = s at e
  subst e
  rcases st with _ | ⟨a, _ | ⟨b, r⟩⟩
  · rfl
  · simp at h1
  · rfl
def PartSaid (w : World) (x : List Nd) (e : Ending) (w' : World) : Prop :=
  ∃ u ok, e = .returned (.tuple #[u, .bool ok]) ∧ Below w.heap.size w w' ∧ ok = (treeOf x).isSome ∧ ∀ t, treeOf x = some t → u = trV t
set_option maxRecDepth 100000 in
set_option maxHeartbeats 6400000 in
theorem partIn_any (w : World) (B : Nat) (v : Value) (x : List Nd) (hv : LfN w B v x) (hB : B ≤ w.heap.size) :
    Calls Try.prog 39 #[.map none, .agg #[v]] w (PartSaid w x) := by
  obtain ⟨A, c, rfl⟩ := hv.len
  have HV := Lib.hid hv.1
  have HB := Lib.hid hB
  have hxl := hv.2.1
  clear hv hB
  by_cases hl : x.length ≤ 400
  · go_enter Try.func39, Try.ntmps39
    go_wp2
    go_loopw [18, 6] (fun i p wr => ∃ (k : Nat) (st : List Tr), k ≤ x.length ∧ i = .int .i64 k ∧ st.length ≤ k ∧ Hid (stackT [] (x.take k) = some st) ∧ Hid (∀ t ∈ st, Fits t) ∧ Hid (Below w.heap.size w wr) ∧ Hid (OwP wr (w.heap.size + 1) p st) ∧ w.heap.size + 1 ≤ wr.heap.size) (fun i _ _ => x.length - (intOf i).toNat)
    case atStart =>
      exact ⟨0, [], Nat.zero_le _, rfl, Nat.le_refl _, Lib.hid rfl, Lib.hid (by simp), Lib.hid (by repeat' (first | exact Below.refl _ _ | apply Below.drew | apply below_drewN | apply Below.setCell | apply Below.alloc | (simp; done) | omega | (simp; omega))), Lib.hid (OwP.nil _ _), by simp⟩
    case round =>
      obtain ⟨k, st, hk, rfl, hst, HSC, HFT, HBW, HOW, hws⟩ := hrel
      have hbw := HBW.out
      by_cases hlt : k < x.length
      · have HNX := Lib.hid (stack_next hlt HSC.out)
        have HBAD := Lib.hid (stack_bad hlt HSC.out)
        obtain ⟨b, o, rfl, hb, hc0, hc1, hc2⟩ := (HV.out.below hbw HB.out).at hlt
        generalize x.getD k nd0 = nd at hc0 hc1 hc2 HNX HBAD
        have hkI : (k : Int) < (x.length : Int) := by omega
        have HAD := Lib.hid (addNode_any (wr.alloc (.cells #[.int .i64 nd.k, .int .i64 nd.v, .string nd.s] tNd)) (w.heap.size + 1) u6 st nd (HOW.out.grown (World.grownBy_alloc wr _ none)) (by simp; omega) HFT.out (by omega))
        unfold ndV at HAD
        clear hbw
        go_wp2_with fail
        refine HAD.out.mono ?_
        rintro e w2 ⟨u, ok, rfl, b2, hu⟩
        have HB2 := Lib.hid (show Below (w.heap.size + 1) wr w2 from (Below.alloc (Below.refl _ _) hws _).trans b2)
        have HBW2 := Lib.hid (HBW.out.trans (HB2.out.mono (Nat.le_succ _)))
        have hsz2 : w.heap.size + 1 ≤ w2.heap.size := Nat.le_trans hws HB2.out.size
        clear b2 hc0 hc1 hc2 HAD
        rcases hu with ⟨st', hs, rfl, ho⟩ | ⟨hs, rfl⟩
        · have HO := Lib.hid ho
          have HS := Lib.hid hs
          have HF2 := Lib.hid (stepT_fits HFT.out hs)
          have hst2 : st'.length ≤ k + 1 := by
            have h9 := stack_len _ (HNX.out.trans hs)
            rw [List.length_take, List.length_nil] at h9
            omega
          clear ho hs
          go_wp2
          go_roundw
          case rel => exact ⟨k + 1, st', by omega, by go_num, hst2, Lib.hid (HNX.out.trans HS.out), HF2, HBW2, HO, hsz2⟩
          case measure => simp [intOf]; omega
        · have HNO := Lib.hid (HBAD.out hs)
          clear hs
          go_wp2
          refine bodyPost_ret (v := .tuple #[.nilIface, .bool false]) (by simp [results, Try.results39, go_sem]) rfl ?_
          exact ⟨_, _, rfl, by refine Below.trans HBW2.out ?_; exact ((by repeat' (first | exact Below.refl _ _ | apply Below.drew | apply below_drewN | apply Below.setCell | apply Below.alloc | (simp; done) | omega | (simp; omega)))), by rw [HNO.out]; rfl, fun t ht => by rw [HNO.out] at ht; cases ht⟩
      · have hk2 : k = x.length := by omega
        have hkI : ¬ (k : Int) < (x.length : Int) := by omega
        rw [hk2, List.take_length] at HSC
        clear hbw
        by_cases h1 : st.length = 1
        · obtain ⟨t, rfl⟩ : ∃ t, st = [t] := by
            rcases st with _ | ⟨a, _ | ⟨b, r⟩⟩
            · simp at h1
            · exact ⟨a, rfl⟩
            · simp at h1
          have HTR := Lib.hid (tree_one hl HSC.out)
          obtain ⟨g, cap, rfl, -⟩ := World.ownsRow.form HOW.out (by simp)
          have hc0 : wr.cell? ⟨g, 0, none⟩ = some (trV t) := OwP.cell (t := t) (q := 0) HOW.out (by simp)
          obtain ⟨Tt, Vt, gt, et, -⟩ := trV_wires t
          rw [et] at hc0
          simp only [List.length_cons, List.length_nil, Nat.zero_add] at *
          go_wp2
          refine bodyPost_ret (v := .tuple #[.iface Tt Vt, .bool true]) (by simp [results, Try.results39, go_sem]) rfl ?_
          refine ⟨_, _, rfl, HBW.out, by rw [HTR.out]; rfl, fun t' ht => ?_⟩
          rw [HTR.out] at ht
          obtain rfl := Option.some.inj ht
          exact et.symm
        · have HNO := Lib.hid (tree_many hl HSC.out h1)
          obtain ⟨A6, c6, rfl⟩ := HOW.out.form
          have hne : ¬ (st.length : Int) = 1 := by omega
          go_wp2
          refine bodyPost_ret (v := .tuple #[.nilIface, .bool false]) (by simp [results, Try.results39, go_sem]) rfl ?_
          exact ⟨_, _, rfl, by refine Below.trans HBW.out ?_; exact ((by repeat' (first | exact Below.refl _ _ | apply Below.drew | apply below_drewN | apply Below.setCell | apply Below.alloc | (simp; done) | omega | (simp; omega)))), by rw [HNO.out]; rfl, fun t ht => by rw [HNO.out] at ht; cases ht⟩
  · have HNO : Hid (treeOf x = none) := Lib.hid (by unfold treeOf; rw [if_neg hl])
    have hl2 : (400 : Int) < (x.length : Int) := by omega
    go_enter Try.func39, Try.ntmps39
    go_wp2
    refine bodyPost_ret (v := .tuple #[.nilIface, .bool false]) (by simp [results, Try.results39, go_sem]) rfl ?_
    exact ⟨_, _, rfl, by refine Below.trans (Below.refl _ _) ?_; exact ((by repeat' (first | exact Below.refl _ _ | apply Below.drew | apply below_drewN | apply Below.setCell | apply Below.alloc | (simp; done) | omega | (simp; omega)))), by rw [HNO.out]; rfl, fun t ht => by rw [HNO.out] at ht; cases ht⟩
end Go.Proofs.Ytdgimjmdgppboaa

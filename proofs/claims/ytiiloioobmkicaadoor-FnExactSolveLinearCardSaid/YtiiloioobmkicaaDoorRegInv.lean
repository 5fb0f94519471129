/- A region that draws its order, by an invariant over the operations that are done: each operation is proved once. -/
import Derived.RegionTactic
namespace Go.Proofs.YtiiloioobmkicaaDoor
set_option maxRecDepth 100000
open Go

/-- What an operation that is ready waits for is done. -/
theorem dep_all {md : Region.Mode} {ops : Array Oper} {L : Array Bool} {i : Nat} {o : Oper} (h : ((ops[i]?).map (·.after.all fun e => !Region.binds md e || L.getD e.on false)).getD false = true) (ho : ops[i]? = some o) : (o.after.all fun e => !Region.binds md e || L.getD e.on false) = true := by
  rw [ho] at h
  simpa using h
theorem dep_of {md : Region.Mode} {ops : Array Oper} {L : Array Bool} {i : Nat} {o : Oper} (ho : ops[i]? = some o) (h : (o.after.all fun e => !Region.binds md e || L.getD e.on false) = true) : ((ops[i]?).map (·.after.all fun e => !Region.binds md e || L.getD e.on false)).getD false = true := by
  rw [ho]
  simpa using h
/-- How many operations are not done yet. -/
def undone (n : Nat) (listed : Array Bool) : Nat := ((List.range n).filter fun i => !listed.getD i true).length
theorem undone_set {n i : Nat} {listed : Array Bool} (hi : i < n) (h : listed.getD i true = false) : undone n (listed.setIfInBounds i true) < undone n listed := by
  have hsz : i < listed.size := by
    by_cases c : i < listed.size
    · exact c
    · rw [Array.getD_eq_getD_getElem?, Array.getElem?_eq_none (by omega)] at h
      cases h
  have hg : ∀ j, (listed.setIfInBounds i true).getD j true = if i = j then true else listed.getD j true := fun j => by
    rw [Array.getD_eq_getD_getElem?, Array.getD_eq_getD_getElem?, Array.getElem?_setIfInBounds]
    by_cases c : i = j
    · rw [if_pos c, if_pos c, if_pos hsz]; rfl
    · rw [if_neg c, if_neg c]
  unfold undone
  have key : ∀ l : List Nat, l.Nodup → i ∈ l → (l.filter fun j => !(listed.setIfInBounds i true).getD j true).length < (l.filter fun j => !listed.getD j true).length := by
    intro l
    induction l with
    | nil => intro _ hm; cases hm
    | cons x l ih =>
      intro hnd hm
      obtain ⟨hx, hnd'⟩ := List.nodup_cons.1 hnd
      rw [List.filter_cons, List.filter_cons]
      by_cases c : i = x
      · subst c
        have e1 : (!(listed.setIfInBounds i true).getD i true) = false := by rw [hg, if_pos rfl]; rfl
        have e2 : (!listed.getD i true) = true := by rw [h]; rfl
        rw [e1, e2, if_neg (by decide), if_pos rfl, List.length_cons]
        have e3 : (l.filter fun j => !(listed.setIfInBounds i true).getD j true) = l.filter fun j => !listed.getD j true := List.filter_congr fun j hj => by
          rw [hg, if_neg (fun e => hx (by rw [e]; exact hj))]
        rw [e3]
        omega
      · have hm' : i ∈ l := by
          rcases List.mem_cons.1 hm with h1 | h1
          · exact absurd h1 c
          · exact h1
        have e1 : (!(listed.setIfInBounds i true).getD x true) = !listed.getD x true := by rw [hg, if_neg c]
        rw [e1]
        have := ih hnd' hm'
        split
        · rw [List.length_cons, List.length_cons]; omega
        · exact this
  exact key _ List.nodup_range (List.mem_range.2 hi)
theorem ready_facts {md : Region.Mode} {ops : Array Oper} {listed : Array Bool} {i : Nat} (h : i ∈ Region.ready md ops listed) :
    i < ops.size ∧ listed.getD i true = false ∧ ((ops[i]?).map (·.after.all fun e => !Region.binds md e || listed.getD e.on false)).getD false = true := by
  unfold Region.ready at h
  rw [List.mem_filter, List.mem_range, Bool.and_eq_true, Bool.not_eq_true'] at h
  exact ⟨h.1, h.2.1, h.2.2⟩
theorem wpAny_inv {P : Program} {md : Region.Mode} {ops : Array Oper} {Q : Exit → Act → World → Prop} (I : Array Bool → Act → World → Prop)
    (hstep : ∀ listed a w i, I listed a w → i < ops.size → listed.getD i true = false → ((ops[i]?).map (·.after.all fun e => !Region.binds md e || listed.getD e.on false)).getD false = true →
      wpOp P ops Q i (fun a' w' => I (listed.setIfInBounds i true) a' w') a w)
    (hdone : ∀ listed a w, I listed a w → Region.ready md ops listed = [] → Q .normal a w) :
    ∀ (fuel : Nat) (listed : Array Bool) (a : Act) (w : World), undone ops.size listed ≤ fuel → I listed a w → wpAny P md ops Q fuel listed a w := by
  intro fuel
  induction fuel with
  | zero =>
    intro listed a w hf hI
    have hr : Region.ready md ops listed = [] := by
      refine List.eq_nil_iff_forall_not_mem.2 fun i hi => ?_
      obtain ⟨h1, h2, -⟩ := ready_facts hi
      have := undone_set h1 h2
      omega
    exact ⟨hr, hdone _ _ _ hI hr⟩
  | succ fuel ih =>
    intro listed a w hf hI
    refine ⟨fun hr => hdone _ _ _ hI hr, fun i hi => ?_⟩
    obtain ⟨h1, h2, h3⟩ := ready_facts hi
    have hu := undone_set h1 h2
    exact wpOp_mono (fun a' w' h => ih _ a' w' (by omega) h) (hstep listed a w i hI h1 h2 h3)
/-- Operation j is done. -/
def dn (L : Array Bool) (j : Nat) : Prop := L.getD j false = true
theorem dn_set {L : Array Bool} {i j : Nat} (h : dn (L.setIfInBounds i true) j) : i = j ∨ dn L j := by
  unfold dn at *
  by_cases c : i = j
  · exact .inl c
  · right
    rw [Array.getD_eq_getD_getElem?, Array.getElem?_setIfInBounds, if_neg c, ← Array.getD_eq_getD_getElem?] at h
    exact h
theorem dn_keep {L : Array Bool} {i j : Nat} (h : dn L j) : dn (L.setIfInBounds i true) j := by
  unfold dn at *
  rw [Array.getD_eq_getD_getElem?] at *
  rw [Array.getElem?_setIfInBounds]
  by_cases c : i = j
  · rw [if_pos c]
    split
    · rfl
    · rename_i c2
      rw [Array.getElem?_eq_none (by omega)] at h
      cases h
  · rw [if_neg c]
    exact h
theorem dn_not {L : Array Bool} {i : Nat} (h : L.getD i true = false) : ¬ dn L i := fun d => by
  unfold dn at d
  rw [Array.getD_eq_getD_getElem?] at h d
  cases e : L[i]? with
  | none => rw [e] at h; cases h
  | some v => rw [e] at h d; simp at h d; rw [h] at d; cases d
theorem undone_repl (n : Nat) : undone n (Array.replicate n false) ≤ n := by
  unfold undone
  exact Nat.le_trans (List.length_filter_le _ _) (by rw [List.length_range]; exact Nat.le_refl _)
theorem not_dn_repl (n j : Nat) : ¬ dn (Array.replicate n false) j := by
  unfold dn
  rw [Array.getD_eq_getD_getElem?, Array.getElem?_replicate]
  split <;> simp
/-- Slots 8, 9 and 19 to 24 of a frame written. -/
def put8 (a : Act) (v8 v9 v19 v20 v21 v22 v23 v24 : Value) : Act := (((((((a.put (some 8) v8).put (some 9) v9).put (some 19) v19).put (some 20) v20).put (some 21) v21).put (some 22) v22).put (some 23) v23).put (some 24) v24
theorem region_by {P : Program} {id : Nat} {ops : Array Oper} {Q : Exit → Act → World → Prop} {a0 : Act} {w : World} (hm : P.follows .mixedOrders = true)
    (J : Array Bool → Value → Value → Value → Value → Value → Value → Value → Value → World → Prop)
    (v8 v9 v19 v20 v21 v22 v23 v24 : Value) (ha : a0 = put8 a0 v8 v9 v19 v20 v21 v22 v23 v24) (h0 : J (Array.replicate ops.size false) v8 v9 v19 v20 v21 v22 v23 v24 { w with drawn := w.drawn + 1 })
    (hstep : ∀ L v8 v9 v19 v20 v21 v22 v23 v24 w i, J L v8 v9 v19 v20 v21 v22 v23 v24 w → i < ops.size → L.getD i true = false → ((ops[i]?).map (·.after.all fun e => !Region.binds .any e || L.getD e.on false)).getD false = true →
      wpOp P ops Q i (fun a' w' => ∃ v8 v9 v19 v20 v21 v22 v23 v24, a' = put8 a0 v8 v9 v19 v20 v21 v22 v23 v24 ∧ J (L.setIfInBounds i true) v8 v9 v19 v20 v21 v22 v23 v24 w') (put8 a0 v8 v9 v19 v20 v21 v22 v23 v24) w)
    (hdone : ∀ L v8 v9 v19 v20 v21 v22 v23 v24 w, J L v8 v9 v19 v20 v21 v22 v23 v24 w → Region.ready .any ops L = [] → Q .normal (put8 a0 v8 v9 v19 v20 v21 v22 v23 v24) w) :
    (Code.region id ops true).wp P Q a0 w := by
  refine wp_region_any hm (wpAny_inv (fun L a w => ∃ v8 v9 v19 v20 v21 v22 v23 v24, a = put8 a0 v8 v9 v19 v20 v21 v22 v23 v24 ∧ J L v8 v9 v19 v20 v21 v22 v23 v24 w) ?_ ?_ _ _ _ _ (undone_repl _) ⟨v8, v9, v19, v20, v21, v22, v23, v24, ha, h0⟩)
  · rintro L a w i ⟨v8, v9, v19, v20, v21, v22, v23, v24, rfl, h⟩ hi hn hr
    exact hstep _ _ _ _ _ _ _ _ _ _ i h hi hn hr
  · rintro L a w ⟨v8, v9, v19, v20, v21, v22, v23, v24, rfl, h⟩ hr
    exact hdone _ _ _ _ _ _ _ _ _ _ h hr
end Go.Proofs.YtiiloioobmkicaaDoor

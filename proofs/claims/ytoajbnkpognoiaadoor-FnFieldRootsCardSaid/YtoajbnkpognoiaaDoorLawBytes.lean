/- Arguments of two slices of bytes, as the laws over drawn arguments take them. -/
import Derived.Test.YtoajbnkpognoiaaDoorLawCommon
import Derived.Test.YtoajbnkpognoiaaDoorDraw1
namespace Go.Proofs.YtoajbnkpognoiaaDoor
open Go Go.RowKit Go.WideShapes Go.ChangeShapes

theorem cellsByte : Tryd.prog.cellsOf 5 = 1 := by kernel_rfl
section
variable {H : Type} {enc : TypeId × Value → H} {W : World} {base : Nat} {ds : List (DataW H)} {ps : List MemPlace}
theorem bytes_cons {ts : List TypeId} {vs : List Value} (hval : ∀ (j : Nat) t v, (22 :: ts)[j]? = some t → vs[j]? = some v → Value.okWide Tryd.prog W .any base t v)
    (h : DataW.TrodAll enc Tryd.prog W 0 (fun _ => true) true (22 :: ts) vs ds ps) (hlt : ∀ x ∈ ps, x.block < W.heap.size) :
    ∃ V vs' ds' ps', vs = V :: vs' ∧ Bytes W W.heap.size V ∧ (∀ (j : Nat) t v, ts[j]? = some t → vs'[j]? = some v → Value.okWide Tryd.prog W .any base t v) ∧ DataW.TrodAll enc Tryd.prog W 0 (fun _ => true) true ts vs' ds' ps' ∧ ∀ x ∈ ps', x.block < W.heap.size := by
  match vs, ds, h with
  | v :: vs, d :: ds, h =>
    obtain ⟨p, q, h1, h2, rfl⟩ := h
    obtain ⟨A, zs, c, rfl, hl, hw, hc⟩ := open_row Tryd.underlying22 Tryd.underlying5 cellsByte (hval 0 22 v rfl rfl) h1 (fun x hx => hlt x (by simp [hx]))
    refine ⟨_, vs, ds, q, rfl, ⟨A, zs.length, c, rfl, hl, fun j hj => ?_⟩, fun j t v ht hv => hval (j + 1) t v (by simpa using ht) (by simpa using hv), h2, fun x hx => hlt x (by simp [hx])⟩
    obtain ⟨b, o, e, hb, hcell⟩ := hc j hj
    have hz : (Lit.int .u8 (zs.getD j 0)).wf = true := hw _ (getD_mem hj)
    generalize zs.getD j 0 = z at hz hcell
    have hz' : 0 ≤ z ∧ z ≤ 255 := by
      have e1 : IntKind.u8.min = 0 := by decide
      have e2 : IntKind.u8.max = 255 := by decide
      simp [Lit.wf] at hz
      omega
    exact ⟨b, o, _, e, hb, hz'.1, hz'.2, hcell⟩
theorem bytes2 {args : Array Value} (hval : ∀ (j : Nat) t v, (#[22, 22] : Array TypeId)[j]? = some t → args[j]? = some v → Value.okWide Tryd.prog W .any base t v)
    (h : DataW.TrodAll enc Tryd.prog W 0 (fun _ => true) true (#[22, 22] : Array TypeId).toList args.toList ds ps) (hlt : ∀ x ∈ ps, x.block < W.heap.size) :
    ∃ V V', args = #[V, V'] ∧ Bytes W W.heap.size V ∧ Bytes W W.heap.size V' := by
  obtain ⟨l⟩ := args
  have hv0 : ∀ (j : Nat) t v, (#[22, 22] : Array TypeId).toList[j]? = some t → l[j]? = some v → Value.okWide Tryd.prog W .any base t v := fun j t v ht hv => hval j t v (by simpa using ht) (by simpa using hv)
  obtain ⟨V, l0, d0, p0, rfl, hV, hv1, h0, hlt0⟩ := bytes_cons hv0 h hlt
  obtain ⟨V', l1, d1, p1, rfl, hV', hv2, h1, hlt1⟩ := bytes_cons hv1 h0 hlt0
  obtain rfl := ints_nil h1
  exact ⟨V, V', rfl, hV, hV'⟩
end
end Go.Proofs.YtoajbnkpognoiaaDoor

/- Graphs: the model's check of a graph over a field, without delays. -/
import Derived.Test.YthnhholeaiojjaaDoorGrV
namespace Go.Proofs.YthnhholeaiojjaaDoor
set_option maxRecDepth 100000
open Go Go.RowKit Go.Deep

theorem es_false {f : Ed → Bool} {es : List Ed} {k : Nat} (hk : k < es.length) (h : f (es.getD k ed0) = false) : es.all f = false := by
  rw [List.all_eq_false]
  exact ⟨es.getD k ed0, getD_mem' hk ed0, by rw [h]; exact Bool.false_ne_true⟩
theorem es_take {f : Ed → Bool} {es : List Ed} {k : Nat} (hk : k < es.length) (h1 : (es.take k).all f = true) (h2 : f (es.getD k ed0) = true) : (es.take (k + 1)).all f = true := by
  rw [take_one hk ed0, List.all_append, h1]
  simpa using h2
def goodB (p n : Int) (es : List Ed) (xi xo : List Int) : Bool := fld p && validB n es xi xo && es.all (fun e => decide (e.v < p))
def timeB (k : Int) : Bool := decide (k ≠ 8) && decide (k ≠ 14)
def askB (p n : Int) (es : List Ed) (xi xo : List Int) : Bool := goodB p n es xi xo && es.all (fun e => timeB e.k)
set_option maxRecDepth 100000 in
set_option maxHeartbeats 6400000 in
theorem hgGood_any (w : World) (B : Nat) (p : Int) (n : Int) (es : List Ed) (xi xo : List Int) (AE : Option Addr) (cE : Nat) (AI : Option Addr) (cI : Nat) (AO : Option Addr) (cO : Nat) (hE : RdE w B (.slice AE es.length cE) es) (hI : RdS w (fun q => q < B) (.slice AI xi.length cI) xi) (hO : RdS w (fun q => q < B) (.slice AO xo.length cO) xo) (hB : B ≤ w.heap.size)
    (hle : es.length ≤ 9223372036854775807) (hli : xi.length ≤ 9223372036854775807) (hlo : xo.length ≤ 9223372036854775807) (hlr : ∀ k, k < es.length → (es.getD k ed0).i.length ≤ 9223372036854775807 ∧ (es.getD k ed0).o.length ≤ 9223372036854775807) :
    Calls Tryd.prog 11 #[.int .i64 p, .agg #[.int .i64 n, .slice AE es.length cE, .slice AI xi.length cI, .slice AO xo.length cO]] w fun x w' => x = .returned (.bool (goodB p n es xi xo)) ∧ Below w.heap.size w w' := by
  have HV := Lib.hid (show goodB p n es xi xo = (fld p && validB n es xi xo && es.all (fun e => decide (e.v < p))) from rfl)
  have HX := Lib.hid (cellsAt_new w #[.int .i64 n, .slice AE es.length cE, .slice AI xi.length cI, .slice AO xo.length cO] tGf)
  have HBW := Lib.hid (show Below w.heap.size w (w.alloc (.cells #[.int .i64 n, .slice AE es.length cE, .slice AI xi.length cI, .slice AO xo.length cO] tGf)) from (Below.refl _ _).alloc (Nat.le_refl _) _)
  have HE := Lib.hid (hE.below HBW.out hB)
  have HI := Lib.hid (hI.below HBW.out hB)
  have HO := Lib.hid (hO.below HBW.out hB)
  have HLR := Lib.hid hlr
  have hB0 : B ≤ (w.alloc (.cells #[.int .i64 n, .slice AE es.length cE, .slice AI xi.length cI, .slice AO xo.length cO] tGf)).heap.size := Nat.le_trans hB HBW.out.size
  clear hE hI hO hB hlr
  go_enter Tryd.func11, Tryd.ntmps11
  go_wp2_with fail
  refine (fdGood_any p _).mono ?_
  rintro x w' ⟨rfl, rfl⟩
  have hsz : (w.alloc (.cells #[.int .i64 n, .slice AE es.length cE, .slice AI xi.length cI, .slice AO xo.length cO] tGf)).heap.size = w.heap.size + 1 := by simp
  generalize w.alloc (.cells #[.int .i64 n, .slice AE es.length cE, .slice AI xi.length cI, .slice AO xo.length cO] tGf) = W at HX HBW HE HI HO hB0 hsz ⊢
  have hW : w.heap.size < W.heap.size := by omega
  clear hsz
  obtain ⟨hx0, hx1, hx2, hx3, hxl⟩ := HX.out.four
  cases hf : fld p with
  | false =>
    have HN := Lib.hid (show goodB p n es xi xo = false by rw [HV.out, hf]; rfl)
    clear hf
    go_wp2
    go_ret
    rw [HN.out]
    exact ⟨rfl, HBW.out⟩
  | true =>
    have HF := Lib.hid hf
    clear hf
    go_wp2_with fail
    refine (hgValid_any W B n es xi xo AE cE AI cI AO cO HE.out HI.out HO.out hB0 hle hli hlo HLR.out).mono ?_
    rintro x w2 ⟨rfl, b2⟩
    have HB2 := Lib.hid b2
    have HX2 := Lib.hid (HX.out.below b2 hW)
    have HE1 := Lib.hid (HE.out.below b2 hB0)
    clear b2 hx0 hx1 hx2 hx3 hxl
    cases hv : validB n es xi xo with
    | false =>
      have HN := Lib.hid (show goodB p n es xi xo = false by rw [HV.out, hv]; simp)
      clear hv
      go_wp2
      go_ret
      rw [HN.out]
      exact ⟨rfl, HBW.out.trans (HB2.out.mono HBW.out.size)⟩
    | true =>
      have HVV := Lib.hid hv
      clear hv
      obtain ⟨hx0, hx1, hx2, hx3, hxl⟩ := HX2.out.four
      go_wp2
      clear hx0 hx1 hx2 hx3 hxl
      go_loopw [18, 6] (fun ti _ wr => ∃ k : Nat, k ≤ es.length ∧ ti = .int .i64 k ∧ Hid (Below w2.heap.size w2 wr) ∧ Hid ((es.take k).all (fun e => decide (e.v < p)) = true)) (fun ti _ _ => es.length - (intOf ti).toNat)
      case atStart => exact ⟨0, Nat.zero_le _, rfl, Lib.hid (Below.refl _ _), Lib.hid (by simp)⟩
      case round =>
        obtain ⟨k, hk, rfl, HB1, HT1⟩ := hrel
        by_cases hlt : k < es.length
        · obtain ⟨b1, o1, A1, c1, A2, c2, e1, hb1, hg0, hg1, hg2, hg3, hr1, hr2⟩ := (HE1.out.below HB1.out (Nat.le_trans hB0 HB2.out.size)).at hlt
          subst e1
          have HFALSE := Lib.hid (fun h => es_false (f := fun e => decide (e.v < p)) hlt h)
          have HTRUE := Lib.hid (fun h => es_take (f := fun e => decide (e.v < p)) hlt HT1.out h)
          clear hr1 hr2
          generalize es.getD k ed0 = ej at hg0 hg1 hg2 hg3 HFALSE HTRUE
          have HA : Hid (Below w2.heap.size w2 (wr.alloc (.cells #[.int .i64 ej.k, .int .i64 ej.v, .slice A1 ej.i.length c1, .slice A2 ej.o.length c2] tEd))) := Lib.hid (HB1.out.trans ((Below.refl wr.heap.size wr).alloc (Nat.le_refl _) _ |>.mono HB1.out.size))
          cases hb4 : decide (ej.v < p) with
          | false =>
            have HN := Lib.hid (show goodB p n es xi xo = false by rw [HV.out, HFALSE.out hb4]; simp)
            have hge : p ≤ ej.v := by simpa using hb4
            clear hb4
            go_wp2
            go_ret
            rw [HN.out]
            exact ⟨rfl, HBW.out.trans ((HB2.out.trans (HA.out.mono HB2.out.size)).mono HBW.out.size)⟩
          | true =>
            have HT2 := Lib.hid (HTRUE.out hb4)
            have hge : ej.v < p := by simpa using hb4
            clear hb4
            go_wp2
            go_roundw
            case rel => exact ⟨k + 1, by omega, by go_num, HA, HT2⟩
            case measure => simp [intOf]; omega
        · have HAL := Lib.hid (show es.all (fun e => decide (e.v < p)) = true by have h := HT1.out; rwa [List.take_of_length_le (by omega : es.length ≤ k)] at h)
          have HN := Lib.hid (show goodB p n es xi xo = true by rw [HV.out, HF.out, HVV.out, HAL.out]; rfl)
          go_wp2
          go_ret
          rw [HN.out]
          exact ⟨rfl, HBW.out.trans ((HB2.out.trans (HB1.out.mono HB2.out.size)).mono HBW.out.size)⟩
end Go.Proofs.YthnhholeaiojjaaDoor

/- The program's open graphs: edges with their interface first. The words; one edge's check; all wires in one row. -/
import Derived.Test.YtdcgoeapgboclaaGrV
import Derived.Test.YtdcgoeapgboclaaPtA
import Derived.Test.YtdcgoeapgboclaaStp
import Derived.Deep.Onto
namespace Go.Proofs.Ytdcgoeapgboclaa
set_option maxRecDepth 100000
open Go Go.RowKit Go.Deep

abbrev tOE : TypeId := 70
/-- An open edge as a value. -/
def oeV (u1 u2 : Value) (k v : Int) : Value := .agg #[u1, u2, .int .i64 k, .int .i64 v, .string ByteArray.empty]
/-- An open graph as a value. -/
def ogV (ui uo : Value) (n : Int) (ue : Value) : Value := .agg #[ui, uo, .int .i64 n, ue]
/-- The slice v reads as the open edges es. -/
def RdO (w : World) (B : Nat) (v : Value) (es : List Ed) : Prop :=
  ∃ A c, v = .slice A es.length c ∧ es.length ≤ c ∧ ∀ k, k < es.length → ∃ b o A1 c1 A2 c2, A = some ⟨b, o, none⟩ ∧ b < B ∧ w.cell? ⟨b, o + k * 5, none⟩ = some (.slice A1 (es.getD k ed0).i.length c1) ∧ w.cell? ⟨b, o + k * 5 + 1, none⟩ = some (.slice A2 (es.getD k ed0).o.length c2) ∧
    w.cell? ⟨b, o + k * 5 + 2, none⟩ = some (.int .i64 (es.getD k ed0).k) ∧ w.cell? ⟨b, o + k * 5 + 3, none⟩ = some (.int .i64 (es.getD k ed0).v) ∧ w.cell? ⟨b, o + k * 5 + 4, none⟩ = some (.string ByteArray.empty) ∧
    RdS w (fun q => q < B) (.slice A1 (es.getD k ed0).i.length c1) (es.getD k ed0).i ∧ RdS w (fun q => q < B) (.slice A2 (es.getD k ed0).o.length c2) (es.getD k ed0).o
theorem RdO.below {w w' : World} {B B' : Nat} {v : Value} {es : List Ed} (h : RdO w B v es) (hb : Below B' w w') (hB : B ≤ B') : RdO w' B v es := by
  obtain ⟨A, c, e, hc, h⟩ := h
  refine ⟨A, c, e, hc, fun k hk => ?_⟩
  obtain ⟨b, o, A1, c1, A2, c2, e2, h3, h4, h5, h6, h7, h8, h9, h10⟩ := h k hk
  have hlt : b < B' := Nat.lt_of_lt_of_le h3 hB
  exact ⟨b, o, A1, c1, A2, c2, e2, h3, (hb.cell (p := ⟨b, o + k * 5, none⟩) hlt).trans h4, (hb.cell (p := ⟨b, o + k * 5 + 1, none⟩) hlt).trans h5, (hb.cell (p := ⟨b, o + k * 5 + 2, none⟩) hlt).trans h6, (hb.cell (p := ⟨b, o + k * 5 + 3, none⟩) hlt).trans h7, (hb.cell (p := ⟨b, o + k * 5 + 4, none⟩) hlt).trans h8, h9.below hb hB, h10.below hb hB⟩
theorem RdO.mono {w : World} {B B' : Nat} {v : Value} {es : List Ed} (h : RdO w B v es) (hB : B ≤ B') : RdO w B' v es := by
  obtain ⟨A, c, e, hc, h⟩ := h
  refine ⟨A, c, e, hc, fun k hk => ?_⟩
  obtain ⟨b, o, A1, c1, A2, c2, e2, h3, h4, h5, h6, h7, h8, h9, h10⟩ := h k hk
  exact ⟨b, o, A1, c1, A2, c2, e2, Nat.lt_of_lt_of_le h3 hB, h4, h5, h6, h7, h8, h9.mono fun _ hq => Nat.lt_of_lt_of_le hq hB, h10.mono fun _ hq => Nat.lt_of_lt_of_le hq hB⟩
theorem RdO.len {w : World} {B : Nat} {v : Value} {es : List Ed} (h : RdO w B v es) : ∃ A c, v = .slice A es.length c := by
  obtain ⟨A, c, e, _⟩ := h
  exact ⟨A, c, e⟩
theorem RdO.at {w : World} {B : Nat} {A : Option Addr} {n c : Nat} {es : List Ed} (h : RdO w B (.slice A n c) es) {k : Nat} (hk : k < es.length) :
    ∃ b o A1 c1 A2 c2, A = some ⟨b, o, none⟩ ∧ b < B ∧ w.cell? ⟨b, o + k * 5, none⟩ = some (.slice A1 (es.getD k ed0).i.length c1) ∧ w.cell? ⟨b, o + k * 5 + 1, none⟩ = some (.slice A2 (es.getD k ed0).o.length c2) ∧
    w.cell? ⟨b, o + k * 5 + 2, none⟩ = some (.int .i64 (es.getD k ed0).k) ∧ w.cell? ⟨b, o + k * 5 + 3, none⟩ = some (.int .i64 (es.getD k ed0).v) ∧ w.cell? ⟨b, o + k * 5 + 4, none⟩ = some (.string ByteArray.empty) ∧
    RdS w (fun q => q < B) (.slice A1 (es.getD k ed0).i.length c1) (es.getD k ed0).i ∧ RdS w (fun q => q < B) (.slice A2 (es.getD k ed0).o.length c2) (es.getD k ed0).o := by
  obtain ⟨A', c', e, _, h⟩ := h
  obtain ⟨rfl, -, -⟩ := sliceEq e
  exact h k hk
/-! ### All wires in one row -/
theorem rdG_pair {w : World} {b : Nat} {u0 u1 : Value} {x0 x1 : List Int} {t : TypeId} (hb : b = w.heap.size) (h0 : RdS w (fun q => q < w.heap.size) u0 x0) (h1 : RdS w (fun q => q < w.heap.size) u1 x1) :
    RdG (w.alloc (.cells #[u0, u1] t)) (w.alloc (.cells #[u0, u1] t)).heap.size (.slice (some ⟨b, 0, none⟩) 2 2) [x0, x1] := by
  subst hb
  have hB : Below w.heap.size w (w.alloc (.cells #[u0, u1] t)) := (Below.refl _ _).alloc (Nat.le_refl _) _
  refine rdG_list (cellsAt_new w #[u0, u1] t) (by simp) (by simp) (by simp) (fun i hi => ?_)
  match i, hi with
  | 0, _ => exact (h0.below hB (Nat.le_refl _)).mono fun q hq => by simp; omega
  | 1, _ => exact (h1.below hB (Nat.le_refl _)).mono fun q hq => by simp; omega
theorem RowA.lower {w : World} {B B' : Nat} {v : Value} {xs : List Int} (h : RowA w B v xs) (hb : B' ≤ B) : RowA w B' v xs := World.ownsRow.mono h hb
set_option maxHeartbeats 800000 in
theorem bothA_any (w : World) (B : Nat) (u1 u2 : Value) (xi xo : List Int) (h1 : RdS w (fun q => q < B) u1 xi) (h2 : RdS w (fun q => q < B) u2 xo) (hB : B ≤ w.heap.size) (hl : xi.length + xo.length ≤ 1000000) :
    Calls Try.prog 48 #[.agg #[u1, u2]] w (fun e w' => ∃ v, e = .returned v ∧ Below w.heap.size w w' ∧ RowA w' w.heap.size v (xi ++ xo)) := by
  obtain ⟨A1, c1, k1, rfl⟩ : ∃ A c, xi.length ≤ c ∧ u1 = .slice A xi.length c := by obtain ⟨A, c, e, hc, -⟩ := h1; exact ⟨A, c, hc, e⟩
  obtain ⟨A2, c2, k2, rfl⟩ : ∃ A c, xo.length ≤ c ∧ u2 = .slice A xo.length c := by obtain ⟨A, c, e, hc, -⟩ := h2; exact ⟨A, c, hc, e⟩
  have HC : ∀ (o : Obj) (t : TypeId) (b : Nat), b = (w.alloc o).heap.size → Hid (Calls Try.prog 49 #[.slice (some ⟨b, 0, none⟩) 2 2] ((w.alloc o).alloc (.cells #[.slice A1 xi.length c1, .slice A2 xo.length c2] t)) (fun e w' => ∃ v, e = .returned v ∧ Below ((w.alloc o).alloc (.cells #[.slice A1 xi.length c1, .slice A2 xo.length c2] t)).heap.size ((w.alloc o).alloc (.cells #[.slice A1 xi.length c1, .slice A2 xo.length c2] t)) w' ∧ RowA w' ((w.alloc o).alloc (.cells #[.slice A1 xi.length c1, .slice A2 xo.length c2] t)).heap.size v [xi, xo].flatten)) := fun o t b hbe => Lib.hid (by
    have hb : Below w.heap.size w (w.alloc o) := (Below.refl _ _).alloc (Nat.le_refl _) _
    refine concatA_any _ _ _ [xi, xo] (rdG_pair hbe ?_ ?_) (Nat.le_refl _) (by simp) (by simp [tot]; omega)
    · exact (h1.below hb hB).mono fun q hq => by simp; omega
    · exact (h2.below hb hB).mono fun q hq => by simp; omega)
  clear h1 h2
  go_enter Try.func48, Try.ntmps48
  go_wp2_with fail
  refine (HC _ _ _ (by simp)).out.mono ?_
  rintro e w2 ⟨v, rfl, b, o⟩
  have HB2 := Lib.hid (Below.trans (((Below.refl w.heap.size w).alloc (Nat.le_refl _) _).alloc (by simp) _) (b.mono (by simp; omega)))
  have HO := Lib.hid (RowA.lower o (show w.heap.size ≤ _ by simp; omega))
  clear b o
  obtain ⟨Av, cv, rfl⟩ := (RowA.own HO.out).len
  go_wp2
  go_ret
  have := HO.out
  simp only [List.flatten_cons, List.flatten_nil, List.append_nil] at this
  exact ⟨_, by simp, HB2.out, this⟩
theorem both_any (w : World) (B : Nat) (u1 u2 : Value) (xi xo : List Int) (h1 : RdS w (fun q => q < B) u1 xi) (h2 : RdS w (fun q => q < B) u2 xo) (hB : B ≤ w.heap.size) (hl : xi.length + xo.length ≤ 1000000) :
    Calls Try.prog 48 #[.agg #[u1, u2]] w (MadeR w (xi ++ xo)) :=
  (bothA_any w B u1 u2 xi xo h1 h2 hB hl).mono fun _ _ ⟨v, h1, h2, h3⟩ => ⟨v, h1, h2, RowA.own h3⟩
end Go.Proofs.Ytdcgoeapgboclaa

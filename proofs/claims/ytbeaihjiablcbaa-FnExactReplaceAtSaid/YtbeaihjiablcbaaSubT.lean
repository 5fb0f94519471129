/- SubtermAt: the part of a term that ends at a node: the model and the program. -/
import Derived.Test.YtbeaihjiablcbaaFsN
import Derived.Test.YtbeaihjiablcbaaNdA
import Derived.Test.YtbeaihjiablcbaaCkT
import Derived.Test.YtbeaihjiablcbaaRetTermB
import Derived.Deep.RegionHeld3
namespace Go.Proofs.Ytbeaihjiablcbaa
set_option maxRecDepth 100000
open Go Go.RowKit Go.Deep

def subOk (x : List Nd) (p : Int) : Bool := tyOk x && decide (0 ≤ p ∧ p < x.length)
def subL (x : List Nd) (p : Int) : List Nd := if subOk x p = true then (x.take (p.toNat + 1)).drop ((bk x (p.toNat + 1) 1).getD 0) else []
theorem sub_first {x : List Nd} {X : Sc} {p : Nat} (hX : scanS .nil 0 x = some X) (hp : p < x.length) : ∃ f : Nat, bk x (p + 1) 1 = some f ∧ f ≤ p ∧ X.f.getD p 0 = (f : Int) := by
  have h := (bk_scan x x.length (Nat.le_refl _) X (by rw [List.take_length]; exact hX)).2 p hp
  obtain ⟨a, h1, h2, h3⟩ := h
  exact ⟨a, by rw [h3 1 (Nat.le_refl _), if_pos rfl], h2, h1⟩
theorem sub_getD {x : List Nd} {f p k : Nat} (hp : p < x.length) (hk : k < ((x.take (p + 1)).drop f).length) : ((x.take (p + 1)).drop f).getD k nd0 = x.getD (f + k) nd0 := by
  rw [List.length_drop, List.length_take] at hk
  rw [List.getD_eq_getElem?_getD, List.getElem?_drop, List.getElem?_take_of_lt (by omega), List.getD_eq_getElem?_getD]
theorem sub_len {x : List Nd} {f p : Nat} (hp : p < x.length) : ((x.take (p + 1)).drop f).length = p + 1 - f := by
  rw [List.length_drop, List.length_take]
  omega
theorem RdN.sub {w : World} {S : Nat → Prop} {b o n c : Nat} {x : List Nd} (h : RdN w S (.slice (some ⟨b, o, none⟩) n c) x) {f p : Nat} (hp : p < x.length) :
    RdN w S (.slice (some ⟨b, o + f * 3, none⟩) (p + 1 - f) (c - f)) ((x.take (p + 1)).drop f) := by
  obtain ⟨A', c', e, hc, _⟩ := id h
  obtain ⟨-, -, rfl⟩ := sliceEq e
  refine ⟨_, c - f, by rw [sub_len hp], by rw [sub_len hp]; omega, fun k hk => ?_⟩
  rw [sub_getD hp hk]
  rw [sub_len hp] at hk
  obtain ⟨b', o', e2, hS, c0, c1, c2⟩ := h.at (k := f + k) (by omega)
  obtain ⟨rfl, rfl⟩ : b = b' ∧ o = o' := by simpa using e2
  have e3 : o + f * 3 + k * 3 = o + (f + k) * 3 := by omega
  exact ⟨b, o + f * 3, rfl, hS, by rw [e3]; exact c0, by rw [e3]; exact c1, by rw [e3]; exact c2⟩
theorem OwnN.sub {w : World} {S : Nat → Prop} {v : Value} {x : List Nd} {f p : Nat} (hp : p < x.length) (hl : x.length ≤ 400) (hs : ∀ k, k < x.length → (x.getD k nd0).s.size ≤ 9223372036854775807) (h : OwN w S v ((x.take (p + 1)).drop f)) : OwnN w S v ((x.take (p + 1)).drop f) := by
  refine ⟨h, by unfold cntN; rw [sub_len hp]; omega, fun k hk => ?_⟩
  rw [sub_getD hp hk]
  rw [sub_len hp] at hk
  exact hs _ (by omega)
theorem ownN_nil (w : World) (S : Nat → Prop) : OwnN w S (.slice none 0 0) [] := ⟨⟨none, 0, rfl, Nat.le_refl _, Or.inl rfl⟩, Nat.zero_le _, fun k hk => absurd hk (Nat.not_lt_zero k)⟩

set_option maxRecDepth 100000 in
set_option maxHeartbeats 6400000 in
theorem impl_SubtermAt (w : World) (B : Nat) (v : Value) (x : List Nd) (p : Int) (hpb : Bi p) (hv : LfN w B v x) (hB : B ≤ w.heap.size) (_ : szN x ≤ 1048576) :
    Calls Try.prog 33 #[.agg #[v], .int .i64 p] w (IRetTermB w (subL x p) (subOk x p)) := by
  have HB0 := Lib.hid (Below.alloc (Below.alloc (Below.refl w.heap.size w) (Nat.le_refl _) (.cells #[v] tTm)) (by simp) (.cells #[.slice none 0 0] tTm))
  have HPO := Lib.hid (partOf_any ((w.alloc (.cells #[v] tTm)).alloc (.cells #[.slice none 0 0] tTm)) B v x (hv.below HB0.out hB) (by simp; omega))
  have HT0 := Lib.hid ((cellsAt_new' w #[v] tTm [v] w.heap.size rfl rfl).alloc (.cells #[.slice none 0 0] tTm))
  have HR0 := Lib.hid (cellsAt_new' (w.alloc (.cells #[v] tTm)) #[.slice none 0 0] tTm [.slice none 0 0] (w.heap.size + 1) (by simp) rfl)
  have hsz0 : ((w.alloc (.cells #[v] tTm)).alloc (.cells #[.slice none 0 0] tTm)).heap.size = w.heap.size + 2 := by simp
  have HV := Lib.hid hv
  have HB := Lib.hid hB
  have hxl := hv.2.1
  obtain ⟨hpb1, hpb2⟩ := hpb
  obtain ⟨A, c, rfl⟩ := hv.len
  clear hv hB
  cases ht : treeOf x with
  | none =>
    have H3 : Hid (subOk x p = false) := Lib.hid (by unfold subOk tyOk; rw [ht]; rfl)
    have H1 : Hid (subL x p = []) := Lib.hid (by unfold subL; rw [H3.out]; rfl)
    have HT := Lib.hid ht
    clear ht
    go_enter Try.func33, Try.ntmps33
    go_wp2_with fail
    refine HPO.out.mono ?_
    rintro e w2 ⟨u, ok, rfl, b2, hok, hu⟩
    rw [HT.out] at hok
    subst hok
    have HB2 := Lib.hid (HB0.out.trans (b2.mono (by rw [hsz0]; omega)))
    have HR2 := Lib.hid (HR0.out.below b2 (by rw [hsz0]; omega))
    have hr0 : w2.cell? ⟨w.heap.size + 1, 0, none⟩ = some (.slice none 0 0) := HR2.out.cell (i := 0) (by simp)
    have hrf := HR2.out.frozen
    have hq : (w2.setCell ⟨w.heap.size + 1, 0, none⟩ (.slice none 0 0)).cell? ⟨w.heap.size + 1, 0, none⟩ = some (.slice none 0 0) := (HR2.out.set 0 (.slice none 0 0)).cell (i := 0) (by simp)
    clear hu b2
    go_wp2
    refine bodyPost_ret (v := .tuple #[.agg #[.slice none 0 0], .bool false]) (by simp [results, Try.results33, go_sem, hq]) rfl ?_
    unfold IRetTermB
    rw [H1.out, H3.out]
    exact ⟨_, rfl, HB2.out.setCell (by dsimp only; omega) _, ownN_nil _ _⟩
  | some t =>
    obtain ⟨X, hX, hXl, hx1, hx4, -, -⟩ := ty_both ht
    by_cases hin : 0 ≤ p ∧ p < x.length
    · obtain ⟨q, rfl⟩ : ∃ q : Nat, p = (q : Int) := ⟨p.toNat, by omega⟩
      have hq : q < x.length := by omega
      obtain ⟨f, hf, hfq, -⟩ := sub_first hX hq
      have H3 : Hid (subOk x (q : Int) = true) := Lib.hid (by unfold subOk tyOk; rw [ht, decide_eq_true hin]; rfl)
      have H1 : Hid (subL x (q : Int) = (x.take (q + 1)).drop f) := Lib.hid (by unfold subL; rw [H3.out, if_pos rfl]; show (x.take (q + 1)).drop ((bk x (q + 1) 1).getD 0) = _; rw [hf]; rfl)
      have HF := Lib.hid hf
      have HT := Lib.hid ht
      obtain ⟨b, o, rfl, hb, -, -, -⟩ := HV.out.1.at hq
      have hcap : x.length ≤ c := by obtain ⟨A', c', e, h, _⟩ := HV.out.1; obtain ⟨-, -, rfl⟩ := sliceEq e; exact h
      clear ht hX hXl hf
      have hpI : ¬ (q : Int) < 0 := by omega
      have hpI2 : ¬ (x.length : Int) ≤ (q : Int) := by omega
      go_enter Try.func33, Try.ntmps33
      go_wp2_with fail
      refine HPO.out.mono ?_
      rintro e w2 ⟨u, ok, rfl, b2, hok, hu⟩
      rw [HT.out] at hok
      subst hok
      have HB2 := Lib.hid (HB0.out.trans (b2.mono (by rw [hsz0]; omega)))
      have HT2 := Lib.hid (HT0.out.below b2 (by rw [hsz0]; omega))
      have HR2 := Lib.hid (HR0.out.below b2 (by rw [hsz0]; omega))
      have hsz2 : w.heap.size + 2 ≤ w2.heap.size := by rw [← hsz0]; exact b2.size
      have ht0 : w2.cell? ⟨w.heap.size, 0, none⟩ = some (.slice (some ⟨b, o, none⟩) x.length c) := HT2.out.cell (i := 0) (by simp)
      clear hu b2
      have HELD : Hid (∀ w' : World, Below (w.heap.size + 2) w2 w' → w'.cell? ⟨w.heap.size, 0, none⟩ = some (.slice (some ⟨b, o, none⟩) x.length c) ∧ w'.cell? ⟨w.heap.size + 1, 0, none⟩ = some (.slice none 0 0) ∧ (∀ j, w'.frozen? ⟨w.heap.size + 1, j, none⟩ = false)) :=
        Lib.hid (fun w' H => ⟨(H.cell (p := ⟨w.heap.size, 0, none⟩) (by dsimp only; omega)).trans ht0, (H.cell (p := ⟨w.heap.size + 1, 0, none⟩) (by dsimp only; omega)).trans (HR2.out.cell (i := 0) (by simp)), fun j => (H.frozen (p := ⟨w.heap.size + 1, j, none⟩) (by dsimp only; omega)).trans (HR2.out.frozen j)⟩)
      have HD0 := Lib.hid (HELD.out w2.drew (Below.refl _ _).drew)
      have HFN := Lib.hid (firstNode_any w2.drew B (.slice (some ⟨b, o, none⟩) x.length c) x q f ((HV.out.below HB2.out HB.out).below ((Below.refl B w2).drew) (Nat.le_refl _)) (by have := HB.out; simp; omega) hq hx4 HF.out)
      have hw1 : IntKind.i64.wrap ((q : Int) + 1) = (q : Int) + 1 := Go.IntWalk.i64_in _ ⟨by omega, by omega⟩
      have hs1 : (0 : Int) ≤ (f : Int) := by omega
      have hs2 : (f : Int) ≤ (q : Int) + 1 := by omega
      have hs3 : (q : Int) + 1 ≤ (c : Int) := by omega
      have hBw2 : B ≤ w2.heap.size := by have := HB.out; omega
      have HV2 := Lib.hid (HV.out.1.below HB2.out HB.out)
      have hcf : ¬ c = f := by omega
      have hls : ((x.take (q + 1)).drop f).length ≤ 1000000 := by rw [sub_len hq]; omega
      go_wp2
      go_region_held3 (fun w' => w'.cell? ⟨w.heap.size, 0, none⟩ = some (.slice (some ⟨b, o, none⟩) x.length c))
        (first | with_reducible exact HD0.out.1 | with_reducible exact HD1.out.1 | with_reducible exact HD2.out.1 | with_reducible exact HD3.out _ | fail)
        (first
          | (go_at_call 36; go_split_ands; refine HFN.out.mono ?_; rintro e w3 ⟨rfl, b3⟩; have HB3 : Hid (Below w2.heap.size w2 w3) := Lib.hid ((Below.refl _ _).drew.trans (b3.mono (by simp))); have HD1 := Lib.hid (HELD.out w3 (HB3.out.mono hsz2)); clear b3)
          | (go_at_call 47; go_split_ands; refine (cloneN_any w3 B _ ((x.take (q + 1)).drop f) ((HV2.out.below HB3.out hBw2).sub hq) (Nat.le_trans hBw2 HB3.out.size) hls).mono ?_; rintro e w4 ⟨v4, rfl, b4, o4⟩; obtain ⟨A4, c4, rfl⟩ := o4.len; have HO4 := Lib.hid o4; have HB4 : Hid (Below w2.heap.size w2 w4) := Lib.hid (HB3.out.trans (b4.mono HB3.out.size)); have HD2 := Lib.hid (HELD.out w4 (HB4.out.mono hsz2)); have hr4 := HD2.out.2.1; have hrf4 := HD2.out.2.2; have HD3 : Hid (∀ u, (w4.setCell ⟨w.heap.size + 1, 0, none⟩ u).cell? ⟨w.heap.size, 0, none⟩ = some (.slice (some ⟨b, o, none⟩) x.length c)) := Lib.hid (fun u => (World.cell?_of_block (w := w4) (blk_setCell_other _ _ _ _ (by dsimp only; omega))).trans HD2.out.1); have hsz4 : w2.heap.size ≤ w3.heap.size := HB3.out.size; clear b4 o4)
          | fail)
      have HR4 := Lib.hid (HR2.out.below (HB4.out.mono hsz2) (by omega))
      have hq4 : (w4.setCell ⟨w.heap.size + 1, 0, none⟩ (.slice A4 (min (q + 1) x.length - f) c4)).cell? ⟨w.heap.size + 1, 0, none⟩ = some (.slice A4 (min (q + 1) x.length - f) c4) := (HR4.out.set 0 (.slice A4 (min (q + 1) x.length - f) c4)).cell (i := 0) (by simp)
      go_wp2
      refine bodyPost_ret (v := .tuple #[.agg #[.slice A4 ((x.take (q + 1)).drop f).length c4], .bool true]) (by simp [results, Try.results33, go_sem, hq4]) rfl ?_
      unfold IRetTermB
      rw [H1.out, H3.out]
      refine ⟨_, rfl, Below.setCell (HB2.out.trans (HB4.out.mono (by omega))) (by dsimp only; omega) _, OwnN.sub hq hx4 HV.out.2.2 ?_⟩
      exact (HO4.out.blocks (fun k hk hkl => blk_setCell_other _ _ _ _ (by dsimp only; omega))).mono (fun k hk _ => by omega)
    · have H3 : Hid (subOk x p = false) := Lib.hid (by unfold subOk; rw [decide_eq_false hin, Bool.and_false])
      have H1 : Hid (subL x p = []) := Lib.hid (by unfold subL; rw [H3.out]; rfl)
      have HT := Lib.hid ht
      clear ht hX hXl
      go_enter Try.func33, Try.ntmps33
      go_wp2_with fail
      refine HPO.out.mono ?_
      rintro e w2 ⟨u, ok, rfl, b2, hok, hu⟩
      rw [HT.out] at hok
      subst hok
      have HB2 := Lib.hid (HB0.out.trans (b2.mono (by rw [hsz0]; omega)))
      have HT2 := Lib.hid (HT0.out.below b2 (by rw [hsz0]; omega))
      have HR2 := Lib.hid (HR0.out.below b2 (by rw [hsz0]; omega))
      have ht0 : w2.cell? ⟨w.heap.size, 0, none⟩ = some (.slice A x.length c) := HT2.out.cell (i := 0) (by simp)
      have hr0 : w2.cell? ⟨w.heap.size + 1, 0, none⟩ = some (.slice none 0 0) := HR2.out.cell (i := 0) (by simp)
      have hrf := HR2.out.frozen
      have hq : (w2.setCell ⟨w.heap.size + 1, 0, none⟩ (.slice none 0 0)).cell? ⟨w.heap.size + 1, 0, none⟩ = some (.slice none 0 0) := (HR2.out.set 0 (.slice none 0 0)).cell (i := 0) (by simp)
      have hlt0 : w.heap.size < w2.heap.size := HT2.out.lt
      clear hu b2
      by_cases h0 : p < 0
      · go_wp2
        refine bodyPost_ret (v := .tuple #[.agg #[.slice none 0 0], .bool false]) (by simp [results, Try.results33, go_sem, hq]) rfl ?_
        unfold IRetTermB
        rw [H1.out, H3.out]
        exact ⟨_, rfl, HB2.out.setCell (by dsimp only; omega) _, ownN_nil _ _⟩
      · have h1 : (x.length : Int) ≤ p := by omega
        go_wp2
        refine bodyPost_ret (v := .tuple #[.agg #[.slice none 0 0], .bool false]) (by simp [results, Try.results33, go_sem, hq]) rfl ?_
        unfold IRetTermB
        rw [H1.out, H3.out]
        exact ⟨_, rfl, HB2.out.setCell (by dsimp only; omega) _, ownN_nil _ _⟩
end Go.Proofs.Ytbeaihjiablcbaa

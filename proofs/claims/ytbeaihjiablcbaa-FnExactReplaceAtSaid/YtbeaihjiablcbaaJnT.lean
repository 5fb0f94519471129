/- SeqTerm, ParTerm: two terms joined: the program and the model. -/
import Derived.Test.YtbeaihjiablcbaaApT
import Derived.Test.YtbeaihjiablcbaaCkT
import Derived.Test.YtbeaihjiablcbaaRetTermB
namespace Go.Proofs.Ytbeaihjiablcbaa
set_option maxRecDepth 100000
open Go Go.RowKit Go.Deep

def jnOk (k : Int) (x y : List Nd) : Bool := tyOk x && tyOk y && tyOk (x ++ (y ++ [jointN k]))
def jnL (k : Int) (x y : List Nd) : List Nd := if jnOk k x y = true then x ++ (y ++ [jointN k]) else []
theorem jn_some {k : Int} {x y : List Nd} {A C : Tr} (hk : k = 15 ∨ k = 16) (ha : treeOf x = some A) (hc : treeOf y = some C) : jnOk k x y = (decide (x.length + y.length + 1 ≤ 400) && (joinT k A C).isSome) := by
  unfold jnOk tyOk
  rw [ha, hc, join_tree ha hc hk]
  by_cases h : x.length + y.length + 1 ≤ 400
  · rw [if_pos h, decide_eq_true h]
    rfl
  · rw [if_neg h, decide_eq_false h]
    rfl
theorem jn_nodes {k : Int} {A C t : Tr} (hk : k = 15 ∨ k = 16) (h : joinT k A C = some t) : nodesOf t = nodesOf A ++ (nodesOf C ++ [jointN k]) := by
  unfold joinT at h
  rcases hk with rfl | rfl
  · rw [if_pos rfl] at h
    split at h
    · obtain rfl := Option.some.inj h
      rfl
    · cases h
  · rw [if_neg (by decide)] at h
    split at h
    · obtain rfl := Option.some.inj h
      rfl
    · cases h
theorem LfN.join {w : World} {B : Nat} {v va vb : Value} {k : Int} {x y : List Nd} {B1 B2 : Nat} {w1 w2 : World} (hx : LfN w1 B1 va x) (hy : LfN w2 B2 vb y) (hl : x.length + y.length + 1 ≤ 9223372036854775807) (h : RdN w (fun b => b < B) v (x ++ (y ++ [jointN k]))) : LfN w B v (x ++ (y ++ [jointN k])) := by
  refine ⟨h, by simp; omega, fun j hj => ?_⟩
  by_cases h1 : j < x.length
  · rw [List.getD_eq_getElem?_getD, List.getElem?_append_left h1, ← List.getD_eq_getElem?_getD]
    exact hx.2.2 j h1
  · rw [List.getD_eq_getElem?_getD, List.getElem?_append_right (by omega)]
    by_cases h2 : j - x.length < y.length
    · rw [List.getElem?_append_left h2, ← List.getD_eq_getElem?_getD]
      exact hy.2.2 _ h2
    · rw [List.getElem?_append_right (by omega)]
      have h3 : j - x.length - y.length = 0 := by simp at hj; omega
      rw [h3]
      exact Nat.zero_le _
theorem OwnN.join {w : World} {S : Nat → Prop} {v : Value} {k : Int} {x y : List Nd} (h : OwN w S v (x ++ (y ++ [jointN k]))) (hl : x.length + y.length + 1 ≤ 400) {B1 B2 : Nat} {w1 w2 : World} {va vb : Value} (hx : LfN w1 B1 va x) (hy : LfN w2 B2 vb y) : OwnN w S v (x ++ (y ++ [jointN k])) := by
  have h2 := LfN.join (k := k) hx hy (by omega) h.readB
  exact ⟨h, by unfold cntN; simp; omega, h2.2.2⟩
theorem ownN_nil' (w : World) (S : Nat → Prop) : OwnN w S (.slice none 0 0) [] := ⟨⟨none, 0, rfl, Nat.le_refl _, Or.inl rfl⟩, Nat.zero_le _, fun k hk => absurd hk (Nat.not_lt_zero k)⟩
set_option maxRecDepth 100000 in
set_option maxHeartbeats 12800000 in
theorem joinTerms_any (w : World) (B : Nat) (k : Int) (va vb : Value) (x y : List Nd) (hk : k = 15 ∨ k = 16) (ha : LfN w B va x) (hb : LfN w B vb y) (hB : B ≤ w.heap.size) :
    Calls Try.prog 25 #[.int .i64 k, .agg #[va], .agg #[vb]] w (IRetTermB w (jnL k x y) (jnOk k x y)) := by
  have HB0 := Lib.hid (show Below w.heap.size w (((w.alloc (.cells #[va] tTm)).alloc (.cells #[vb] tTm)).alloc (.cells #[.slice none 0 0] tTm)) from (((Below.refl _ _).alloc (Nat.le_refl _) _).alloc (by simp) _).alloc (by simp; omega) _)
  have HPA := Lib.hid (partOf_any (((w.alloc (.cells #[va] tTm)).alloc (.cells #[vb] tTm)).alloc (.cells #[.slice none 0 0] tTm)) B va x (ha.below HB0.out hB) (by simp; omega))
  have HPB := Lib.hid (fun (w' : World) (h : Below w.heap.size w w') => partOf_any w' B vb y (hb.below h hB) (Nat.le_trans hB h.size))
  have HA0 := Lib.hid (((cellsAt_new' w #[va] tTm [va] w.heap.size rfl rfl).alloc (.cells #[vb] tTm)).alloc (.cells #[.slice none 0 0] tTm))
  have HC0 := Lib.hid ((cellsAt_new' (w.alloc (.cells #[va] tTm)) #[vb] tTm [vb] (w.heap.size + 1) (by simp) rfl).alloc (.cells #[.slice none 0 0] tTm))
  have HR0 := Lib.hid (cellsAt_new' ((w.alloc (.cells #[va] tTm)).alloc (.cells #[vb] tTm)) #[.slice none 0 0] tTm [.slice none 0 0] (w.heap.size + 2) (by simp) rfl)
  have hsz0 : (((w.alloc (.cells #[va] tTm)).alloc (.cells #[vb] tTm)).alloc (.cells #[.slice none 0 0] tTm)).heap.size = w.heap.size + 3 := by simp
  have HX := Lib.hid ha
  have HY := Lib.hid hb
  obtain ⟨A, c, rfl⟩ := ha.len
  obtain ⟨A', c', rfl⟩ := hb.len
  clear ha hb hB
  cases ht : treeOf x with
  | none =>
    have H3 : Hid (jnOk k x y = false) := Lib.hid (by unfold jnOk tyOk; rw [ht]; rfl)
    have H1 : Hid (jnL k x y = []) := Lib.hid (by unfold jnL; rw [H3.out]; rfl)
    have HT := Lib.hid ht
    obtain ⟨bu, HU⟩ : ∃ bu, Hid ((treeOf y).isSome = bu) := ⟨_, Lib.hid rfl⟩
    clear ht
    go_enter Try.func25, Try.ntmps25
    go_wp2_with fail
    refine HPA.out.mono ?_
    rintro e w2 ⟨u, ok, rfl, b2, hok, hu⟩
    rw [HT.out] at hok
    subst hok
    have HB2 := Lib.hid (HB0.out.trans (b2.mono (by rw [hsz0]; omega)))
    have HA2 := Lib.hid (HA0.out.below b2 (by rw [hsz0]; omega))
    have HC2 := Lib.hid (HC0.out.below b2 (by rw [hsz0]; omega))
    have HR2 := Lib.hid (HR0.out.below b2 (by rw [hsz0]; omega))
    have hsz2 : w.heap.size + 3 ≤ w2.heap.size := by rw [← hsz0]; exact b2.size
    have hc2 : w2.cell? ⟨w.heap.size + 1, 0, none⟩ = some (.slice A' y.length c') := HC2.out.cell (i := 0) (by simp)
    clear b2
    go_wp2_with fail
    refine (HPB.out _ HB2.out).mono ?_
    rintro e w3 ⟨u2, ok2, rfl, b3, hok2, hu2⟩
    rw [HU.out] at hok2
    subst hok2
    have HB3 := Lib.hid (HB2.out.trans (b3.mono HB2.out.size))
    have HA3 := Lib.hid (HA2.out.below b3 (by omega))
    have HC3 := Lib.hid (HC2.out.below b3 (by omega))
    have HR3 := Lib.hid (HR2.out.below b3 (by omega))
    have hsz3 : w2.heap.size ≤ w3.heap.size := b3.size
    have ha3 : w3.cell? ⟨w.heap.size, 0, none⟩ = some (.slice A x.length c) := HA3.out.cell (i := 0) (by simp)
    have hc3 : w3.cell? ⟨w.heap.size + 1, 0, none⟩ = some (.slice A' y.length c') := HC3.out.cell (i := 0) (by simp)
    have hr3 : w3.cell? ⟨w.heap.size + 2, 0, none⟩ = some (.slice none 0 0) := HR3.out.cell (i := 0) (by simp)
    have hrf3 := HR3.out.frozen
    have hq3 : (w3.setCell ⟨w.heap.size + 2, 0, none⟩ (.slice none 0 0)).cell? ⟨w.heap.size + 2, 0, none⟩ = some (.slice none 0 0) := (HR3.out.set 0 (.slice none 0 0)).cell (i := 0) (by simp)
    clear b3 hc2 hu hu2
    go_wp2
    all_goals
      refine bodyPost_ret (v := .tuple #[.agg #[.slice none 0 0], .bool false]) (by simp [results, Try.results25, go_sem, hq3]) rfl ?_
      unfold IRetTermB
      rw [H1.out, H3.out]
      exact ⟨_, rfl, HB3.out.setCell (by dsimp only; omega) _, ownN_nil' _ _⟩
  | some ta =>
    cases hu0 : treeOf y with
    | none =>
      have H3 : Hid (jnOk k x y = false) := Lib.hid (by unfold jnOk tyOk; rw [ht, hu0]; rfl)
      have H1 : Hid (jnL k x y = []) := Lib.hid (by unfold jnL; rw [H3.out]; rfl)
      have HT := Lib.hid ht
      have HU := Lib.hid hu0
      clear ht hu0
      go_enter Try.func25, Try.ntmps25
      go_wp2_with fail
      refine HPA.out.mono ?_
      rintro e w2 ⟨u, ok, rfl, b2, hok, hu⟩
      rw [HT.out] at hok
      subst hok
      have HB2 := Lib.hid (HB0.out.trans (b2.mono (by rw [hsz0]; omega)))
      have HA2 := Lib.hid (HA0.out.below b2 (by rw [hsz0]; omega))
      have HC2 := Lib.hid (HC0.out.below b2 (by rw [hsz0]; omega))
      have HR2 := Lib.hid (HR0.out.below b2 (by rw [hsz0]; omega))
      have hsz2 : w.heap.size + 3 ≤ w2.heap.size := by rw [← hsz0]; exact b2.size
      have hc2 : w2.cell? ⟨w.heap.size + 1, 0, none⟩ = some (.slice A' y.length c') := HC2.out.cell (i := 0) (by simp)
      clear b2
      go_wp2_with fail
      refine (HPB.out _ HB2.out).mono ?_
      rintro e w3 ⟨u2, ok2, rfl, b3, hok2, hu2⟩
      rw [HU.out] at hok2
      subst hok2
      have HB3 := Lib.hid (HB2.out.trans (b3.mono HB2.out.size))
      have HA3 := Lib.hid (HA2.out.below b3 (by omega))
      have HC3 := Lib.hid (HC2.out.below b3 (by omega))
      have HR3 := Lib.hid (HR2.out.below b3 (by omega))
      have hsz3 : w2.heap.size ≤ w3.heap.size := b3.size
      have ha3 : w3.cell? ⟨w.heap.size, 0, none⟩ = some (.slice A x.length c) := HA3.out.cell (i := 0) (by simp)
      have hc3 : w3.cell? ⟨w.heap.size + 1, 0, none⟩ = some (.slice A' y.length c') := HC3.out.cell (i := 0) (by simp)
      have hr3 : w3.cell? ⟨w.heap.size + 2, 0, none⟩ = some (.slice none 0 0) := HR3.out.cell (i := 0) (by simp)
      have hrf3 := HR3.out.frozen
      have hq3 : (w3.setCell ⟨w.heap.size + 2, 0, none⟩ (.slice none 0 0)).cell? ⟨w.heap.size + 2, 0, none⟩ = some (.slice none 0 0) := (HR3.out.set 0 (.slice none 0 0)).cell (i := 0) (by simp)
      clear b3 hc2 hu hu2
      go_wp2
      refine bodyPost_ret (v := .tuple #[.agg #[.slice none 0 0], .bool false]) (by simp [results, Try.results25, go_sem, hq3]) rfl ?_
      unfold IRetTermB
      rw [H1.out, H3.out]
      exact ⟨_, rfl, HB3.out.setCell (by dsimp only; omega) _, ownN_nil' _ _⟩
    | some tb =>
      obtain ⟨hVa, hna, hla⟩ := tree_valid ht
      obtain ⟨hVb, hnb, hlb⟩ := tree_valid hu0
      have hjn := jn_some hk ht hu0
      have HTA := Lib.hid (show ∀ t, treeOf x = some t → t = ta from fun t h => Option.some.inj (h.symm.trans ht))
      have HTB := Lib.hid (show ∀ t, treeOf y = some t → t = tb from fun t h => Option.some.inj (h.symm.trans hu0))
      have HJP := Lib.hid (fun w0 => joinParts_any w0 k ta tb hVa.fits hVb.fits)
      have hwl : IntKind.i64.wrap ((x.length : Int) + (y.length : Int)) = (x.length : Int) + (y.length : Int) := Go.IntWalk.i64_in _ ⟨by omega, by omega⟩
      have hwl2 : IntKind.i64.wrap ((x.length : Int) + (y.length : Int) + 1) = (x.length : Int) + (y.length : Int) + 1 := Go.IntWalk.i64_in _ ⟨by omega, by omega⟩
      by_cases hlen : x.length + y.length + 1 ≤ 400
      · have hlenI : (x.length : Int) + (y.length : Int) + 1 ≤ 400 := by omega
        cases hjt : joinT k ta tb with
        | none =>
          have H3 : Hid (jnOk k x y = false) := Lib.hid (by rw [hjn, hjt, decide_eq_true hlen]; rfl)
          have H1 : Hid (jnL k x y = []) := Lib.hid (by unfold jnL; rw [H3.out]; rfl)
          have HJT := Lib.hid hjt
          have HT0 := Lib.hid ht
          have HU0 := Lib.hid hu0
          have HT : Hid ((treeOf x).isSome = true) := Lib.hid (by rw [ht]; rfl)
          have HU : Hid ((treeOf y).isSome = true) := Lib.hid (by rw [hu0]; rfl)
          clear ht hu0 hjn hjt hlen hVa hna hla hVb hnb hlb
          go_enter Try.func25, Try.ntmps25
          go_wp2_with fail
          refine HPA.out.mono ?_
          rintro e w2 ⟨u, ok, rfl, b2, hok, hu⟩
          rw [HT.out] at hok
          subst hok
          have HB2 := Lib.hid (HB0.out.trans (b2.mono (by rw [hsz0]; omega)))
          have HA2 := Lib.hid (HA0.out.below b2 (by rw [hsz0]; omega))
          have HC2 := Lib.hid (HC0.out.below b2 (by rw [hsz0]; omega))
          have HR2 := Lib.hid (HR0.out.below b2 (by rw [hsz0]; omega))
          have hsz2 : w.heap.size + 3 ≤ w2.heap.size := by rw [← hsz0]; exact b2.size
          have hc2 : w2.cell? ⟨w.heap.size + 1, 0, none⟩ = some (.slice A' y.length c') := HC2.out.cell (i := 0) (by simp)
          clear b2
          go_wp2_with fail
          refine (HPB.out _ HB2.out).mono ?_
          rintro e w3 ⟨u2, ok2, rfl, b3, hok2, hu2⟩
          rw [HU.out] at hok2
          subst hok2
          have HB3 := Lib.hid (HB2.out.trans (b3.mono HB2.out.size))
          have HA3 := Lib.hid (HA2.out.below b3 (by omega))
          have HC3 := Lib.hid (HC2.out.below b3 (by omega))
          have HR3 := Lib.hid (HR2.out.below b3 (by omega))
          have hsz3 : w2.heap.size ≤ w3.heap.size := b3.size
          have ha3 : w3.cell? ⟨w.heap.size, 0, none⟩ = some (.slice A x.length c) := HA3.out.cell (i := 0) (by simp)
          have hc3 : w3.cell? ⟨w.heap.size + 1, 0, none⟩ = some (.slice A' y.length c') := HC3.out.cell (i := 0) (by simp)
          have hr3 : w3.cell? ⟨w.heap.size + 2, 0, none⟩ = some (.slice none 0 0) := HR3.out.cell (i := 0) (by simp)
          have hrf3 := HR3.out.frozen
          have hq3 : (w3.setCell ⟨w.heap.size + 2, 0, none⟩ (.slice none 0 0)).cell? ⟨w.heap.size + 2, 0, none⟩ = some (.slice none 0 0) := (HR3.out.set 0 (.slice none 0 0)).cell (i := 0) (by simp)
          clear b3 hc2
          have hu1 := hu ta HT0.out
          have hu3 := hu2 tb HU0.out
          subst hu1
          subst hu3
          clear hu hu2
          go_wp2_with fail
          refine (HJP.out _).mono ?_
          rintro e w4 ⟨tj, okj, rfl, b4, hj⟩
          rw [HJT.out] at hj
          obtain rfl : okj = false := by
            cases okj with
            | false => rfl
            | true => cases hj
          have HB4 := Lib.hid (HB3.out.trans (b4.mono HB3.out.size))
          have HR4 := Lib.hid (HR3.out.below b4 (by omega))
          have hsz4 : w3.heap.size ≤ w4.heap.size := b4.size
          have hr4 : w4.cell? ⟨w.heap.size + 2, 0, none⟩ = some (.slice none 0 0) := HR4.out.cell (i := 0) (by simp)
          have hrf4 := HR4.out.frozen
          have hq4 : (w4.setCell ⟨w.heap.size + 2, 0, none⟩ (.slice none 0 0)).cell? ⟨w.heap.size + 2, 0, none⟩ = some (.slice none 0 0) := (HR4.out.set 0 (.slice none 0 0)).cell (i := 0) (by simp)
          clear b4
          obtain ⟨Tj, Vj, gj, ej, -⟩ := trV_wires tj
          rw [ej]
          go_wp2
          refine bodyPost_ret (v := .tuple #[.agg #[.slice none 0 0], .bool false]) (by simp [results, Try.results25, go_sem, hq4]) rfl ?_
          unfold IRetTermB
          rw [H1.out, H3.out]
          exact ⟨_, rfl, HB4.out.setCell (by dsimp only; omega) _, ownN_nil' _ _⟩
        | some tj0 =>
          have H3 : Hid (jnOk k x y = true) := Lib.hid (by rw [hjn, hjt, decide_eq_true hlen]; rfl)
          have H1 : Hid (jnL k x y = x ++ (y ++ [jointN k])) := Lib.hid (by unfold jnL; rw [H3.out]; rfl)
          have hnj := jn_nodes hk hjt
          rw [hna, hnb] at hnj
          have hLL : (x ++ (y ++ [jointN k])).length ≤ 1000 := by simp; omega
          have HTO := Lib.hid (fun w0 => termOf_any w0 tj0 (by rw [hnj]; exact hLL))
          rw [hnj] at HTO
          have HLN := Lib.hid hlen
          have HJT := Lib.hid hjt
          have HT0 := Lib.hid ht
          have HU0 := Lib.hid hu0
          have HT : Hid ((treeOf x).isSome = true) := Lib.hid (by rw [ht]; rfl)
          have HU : Hid ((treeOf y).isSome = true) := Lib.hid (by rw [hu0]; rfl)
          clear ht hu0 hjn hjt hlen hVa hna hla hVb hnb hlb hnj hLL
          go_enter Try.func25, Try.ntmps25
          go_wp2_with fail
          refine HPA.out.mono ?_
          rintro e w2 ⟨u, ok, rfl, b2, hok, hu⟩
          rw [HT.out] at hok
          subst hok
          have HB2 := Lib.hid (HB0.out.trans (b2.mono (by rw [hsz0]; omega)))
          have HA2 := Lib.hid (HA0.out.below b2 (by rw [hsz0]; omega))
          have HC2 := Lib.hid (HC0.out.below b2 (by rw [hsz0]; omega))
          have HR2 := Lib.hid (HR0.out.below b2 (by rw [hsz0]; omega))
          have hsz2 : w.heap.size + 3 ≤ w2.heap.size := by rw [← hsz0]; exact b2.size
          have hc2 : w2.cell? ⟨w.heap.size + 1, 0, none⟩ = some (.slice A' y.length c') := HC2.out.cell (i := 0) (by simp)
          clear b2
          go_wp2_with fail
          refine (HPB.out _ HB2.out).mono ?_
          rintro e w3 ⟨u2, ok2, rfl, b3, hok2, hu2⟩
          rw [HU.out] at hok2
          subst hok2
          have HB3 := Lib.hid (HB2.out.trans (b3.mono HB2.out.size))
          have HA3 := Lib.hid (HA2.out.below b3 (by omega))
          have HC3 := Lib.hid (HC2.out.below b3 (by omega))
          have HR3 := Lib.hid (HR2.out.below b3 (by omega))
          have hsz3 : w2.heap.size ≤ w3.heap.size := b3.size
          have ha3 : w3.cell? ⟨w.heap.size, 0, none⟩ = some (.slice A x.length c) := HA3.out.cell (i := 0) (by simp)
          have hc3 : w3.cell? ⟨w.heap.size + 1, 0, none⟩ = some (.slice A' y.length c') := HC3.out.cell (i := 0) (by simp)
          have hr3 : w3.cell? ⟨w.heap.size + 2, 0, none⟩ = some (.slice none 0 0) := HR3.out.cell (i := 0) (by simp)
          have hrf3 := HR3.out.frozen
          have hq3 : (w3.setCell ⟨w.heap.size + 2, 0, none⟩ (.slice none 0 0)).cell? ⟨w.heap.size + 2, 0, none⟩ = some (.slice none 0 0) := (HR3.out.set 0 (.slice none 0 0)).cell (i := 0) (by simp)
          clear b3 hc2
          have hu1 := hu ta HT0.out
          have hu3 := hu2 tb HU0.out
          subst hu1
          subst hu3
          clear hu hu2
          go_wp2_with fail
          refine (HJP.out _).mono ?_
          rintro e w4 ⟨tj, okj, rfl, b4, hj⟩
          rw [HJT.out] at hj
          obtain ⟨rfl, rfl⟩ : okj = true ∧ tj = tj0 := by
            cases okj with
            | false => cases hj
            | true => exact ⟨rfl, (Option.some.inj hj).symm⟩
          have HB4 := Lib.hid (HB3.out.trans (b4.mono HB3.out.size))
          have HR4 := Lib.hid (HR3.out.below b4 (by omega))
          have hsz4 : w3.heap.size ≤ w4.heap.size := b4.size
          have hr4 : w4.cell? ⟨w.heap.size + 2, 0, none⟩ = some (.slice none 0 0) := HR4.out.cell (i := 0) (by simp)
          have hrf4 := HR4.out.frozen
          have hq4 : (w4.setCell ⟨w.heap.size + 2, 0, none⟩ (.slice none 0 0)).cell? ⟨w.heap.size + 2, 0, none⟩ = some (.slice none 0 0) := (HR4.out.set 0 (.slice none 0 0)).cell (i := 0) (by simp)
          clear b4
          obtain ⟨Tj, Vj, gj, ej, -⟩ := trV_wires tj
          rw [ej]
          rw [ej] at HTO
          go_wp2_with fail
          refine (HTO.out _).mono ?_
          rintro e w5 ⟨v5, rfl, b5, o5⟩
          have HO5 := Lib.hid o5
          obtain ⟨A5, c5, rfl⟩ := o5.form
          have HB5 := Lib.hid (HB4.out.trans (b5.mono HB4.out.size))
          have HR5 := Lib.hid (HR4.out.below b5 (by omega))
          have hsz5 : w4.heap.size ≤ w5.heap.size := b5.size
          have hr5 : w5.cell? ⟨w.heap.size + 2, 0, none⟩ = some (.slice none 0 0) := HR5.out.cell (i := 0) (by simp)
          have hrf5 := HR5.out.frozen
          obtain ⟨z, HZ⟩ : ∃ z, Hid (x ++ (y ++ [jointN k]) = z) := ⟨_, Lib.hid rfl⟩
          rw [HZ.out] at HO5 H1 ⊢
          have hq5 : (w5.setCell ⟨w.heap.size + 2, 0, none⟩ (.slice A5 z.length c5)).cell? ⟨w.heap.size + 2, 0, none⟩ = some (.slice A5 z.length c5) := (HR5.out.set 0 (.slice A5 z.length c5)).cell (i := 0) (by simp)
          clear b5 o5 hr4 hrf4 hq4 hr3 hrf3 hq3
          go_wp2
          refine bodyPost_ret (v := .tuple #[.agg #[.slice A5 z.length c5], .bool true]) (by simp [results, Try.results25, go_sem, hq5]) rfl ?_
          unfold IRetTermB
          rw [H1.out, H3.out]
          refine ⟨_, rfl, HB5.out.setCell (by dsimp only; omega) _, ?_⟩
          have hO := (HO5.out.own.blocks (w' := w5.setCell ⟨w.heap.size + 2, 0, none⟩ (.slice A5 z.length c5)) (fun q hq hql => blk_setCell_other _ _ _ _ (by dsimp only; omega))).mono (T := fun b => w.heap.size ≤ b) (fun q hq _ => by omega)
          rw [← HZ.out] at hO ⊢
          exact OwnN.join hO HLN.out HX.out HY.out
      · have hlenI : ¬ (x.length : Int) + (y.length : Int) + 1 ≤ 400 := by omega
        have H3 : Hid (jnOk k x y = false) := Lib.hid (by rw [hjn, decide_eq_false hlen]; rfl)
        have H1 : Hid (jnL k x y = []) := Lib.hid (by unfold jnL; rw [H3.out]; rfl)
        have HT0 := Lib.hid ht
        have HU0 := Lib.hid hu0
        have HT : Hid ((treeOf x).isSome = true) := Lib.hid (by rw [ht]; rfl)
        have HU : Hid ((treeOf y).isSome = true) := Lib.hid (by rw [hu0]; rfl)
        clear ht hu0 hjn hlen hVa hna hla hVb hnb hlb
        go_enter Try.func25, Try.ntmps25
        go_wp2_with fail
        refine HPA.out.mono ?_
        rintro e w2 ⟨u, ok, rfl, b2, hok, hu⟩
        rw [HT.out] at hok
        subst hok
        have HB2 := Lib.hid (HB0.out.trans (b2.mono (by rw [hsz0]; omega)))
        have HA2 := Lib.hid (HA0.out.below b2 (by rw [hsz0]; omega))
        have HC2 := Lib.hid (HC0.out.below b2 (by rw [hsz0]; omega))
        have HR2 := Lib.hid (HR0.out.below b2 (by rw [hsz0]; omega))
        have hsz2 : w.heap.size + 3 ≤ w2.heap.size := by rw [← hsz0]; exact b2.size
        have hc2 : w2.cell? ⟨w.heap.size + 1, 0, none⟩ = some (.slice A' y.length c') := HC2.out.cell (i := 0) (by simp)
        clear b2
        go_wp2_with fail
        refine (HPB.out _ HB2.out).mono ?_
        rintro e w3 ⟨u2, ok2, rfl, b3, hok2, hu2⟩
        rw [HU.out] at hok2
        subst hok2
        have HB3 := Lib.hid (HB2.out.trans (b3.mono HB2.out.size))
        have HA3 := Lib.hid (HA2.out.below b3 (by omega))
        have HC3 := Lib.hid (HC2.out.below b3 (by omega))
        have HR3 := Lib.hid (HR2.out.below b3 (by omega))
        have hsz3 : w2.heap.size ≤ w3.heap.size := b3.size
        have ha3 : w3.cell? ⟨w.heap.size, 0, none⟩ = some (.slice A x.length c) := HA3.out.cell (i := 0) (by simp)
        have hc3 : w3.cell? ⟨w.heap.size + 1, 0, none⟩ = some (.slice A' y.length c') := HC3.out.cell (i := 0) (by simp)
        have hr3 : w3.cell? ⟨w.heap.size + 2, 0, none⟩ = some (.slice none 0 0) := HR3.out.cell (i := 0) (by simp)
        have hrf3 := HR3.out.frozen
        have hq3 : (w3.setCell ⟨w.heap.size + 2, 0, none⟩ (.slice none 0 0)).cell? ⟨w.heap.size + 2, 0, none⟩ = some (.slice none 0 0) := (HR3.out.set 0 (.slice none 0 0)).cell (i := 0) (by simp)
        clear b3 hc2 hu hu2
        go_wp2
        refine bodyPost_ret (v := .tuple #[.agg #[.slice none 0 0], .bool false]) (by simp [results, Try.results25, go_sem, hq3]) rfl ?_
        unfold IRetTermB
        rw [H1.out, H3.out]
        exact ⟨_, rfl, HB3.out.setCell (by dsimp only; omega) _, ownN_nil' _ _⟩
end Go.Proofs.Ytbeaihjiablcbaa

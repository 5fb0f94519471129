/- ReplaceAt: the model's side. -/
import Derived.Test.YtbeaihjiablcbaaRpT
import Derived.Test.YtbeaihjiablcbaaJnS
import Derived.Deep.RegionHeld3
namespace Go.Proofs.Ytbeaihjiablcbaa
set_option maxRecDepth 100000
open Go Go.RowKit Go.Deep

theorem rp_facts {x : List Nd} {t : Tr} {X : Sc} {q : Nat} (ht : treeOf x = some t) (hX : scanS .nil 0 x = some X) (hq : q < x.length) :
    ∃ f, bk x (q + 1) 1 = some f ∧ f ≤ q ∧ X.f.getD q 0 = (f : Int) ∧ (x.take (q + 1)).drop f = nodesOf (subAt t q) ∧ X.i.getD q 0 = (subAt t q).inw ∧ X.o.getD q 0 = (subAt t q).outw ∧ f = q + 1 - (nodesOf (subAt t q)).length ∧ (nodesOf (subAt t q)).length ≤ q + 1 := by
  obtain ⟨hV, hn, hl⟩ := tree_valid ht
  obtain ⟨f, h1, h2, h3⟩ := sub_first hX hq
  obtain ⟨X', e1, -, -, h4⟩ := scan_sub t .nil 0 hV ⟨rfl, rfl, rfl⟩
  rw [hn, hX] at e1
  obtain rfl := Option.some.inj e1
  obtain ⟨g1, g2, g3⟩ := h4 q (by rw [hn]; exact hq)
  rw [Nat.zero_add] at g1 g2 g3
  obtain ⟨k1, k2, k3⟩ := sub_nodes t q hV (by rw [hn]; exact hq)
  have hf : f = q + 1 - (nodesOf (subAt t q)).length := by
    rw [h3] at g1
    omega
  refine ⟨f, h1, h2, h3, ?_, g2, g3, hf, k2⟩
  rw [hn] at k3
  rw [List.drop_take, ← k3, ← hf]
  congr 1
  omega
theorem rp_ok {x y : List Nd} {t s : Tr} {q f : Nat} (ht : treeOf x = some t) (hs : treeOf y = some s) (hq : q < x.length) (hf : f = q + 1 - (nodesOf (subAt t q)).length) (hle : (nodesOf (subAt t q)).length ≤ q + 1) (h1 : s.inw = (subAt t q).inw) (h2 : s.outw = (subAt t q).outw) :
    okS (x.take f ++ (y ++ x.drop (q + 1))) = decide (x.length + y.length ≤ 400 + (nodesOf (subAt t q)).length) := by
  obtain ⟨hV, hn, hl⟩ := tree_valid ht
  obtain ⟨hS, hm, hk⟩ := tree_valid hs
  obtain ⟨r1, -, -, r4⟩ := repl_ok t q s hV (by rw [hn]; exact hq) hS h1 h2
  have e : nodesOf (replT t q s) = x.take f ++ (y ++ x.drop (q + 1)) := by
    rw [r4, hm]
    unfold frontN
    rw [hn, ← hf]
  have hlen : (x.take f ++ (y ++ x.drop (q + 1))).length = f + (y.length + (x.length - (q + 1))) := by
    rw [List.length_append, List.length_append, List.length_take, List.length_drop]
    omega
  by_cases c : x.length + y.length ≤ 400 + (nodesOf (subAt t q)).length
  · rw [decide_eq_true c, ok_both, ← e, tree_nodes r1 (by rw [e, hlen]; omega)]
    rfl
  · rw [decide_eq_false c]
    unfold okS
    rw [decide_eq_false (show ¬ (x.take f ++ (y ++ x.drop (q + 1))).length ≤ 400 by rw [hlen]; omega)]
    simp
theorem LfN.rp {w : World} {B : Nat} {v va vb : Value} {x y z : List Nd} {f q B1 B2 : Nat} {w1 w2 : World} (hz : z = x.take f ++ (y ++ x.drop (q + 1))) (hl : z.length ≤ 9223372036854775807) (hx : LfN w1 B1 va x) (hy : LfN w2 B2 vb y) (h : RdN w (fun b => b < B) v z) : LfN w B v z := by
  refine ⟨h, hl, fun k hk => ?_⟩
  have hm := getD_mem' hk nd0
  generalize z.getD k nd0 = n at hm
  rw [hz] at hm
  rcases List.mem_append.1 hm with hm | hm
  · obtain ⟨j, hj, rfl⟩ := mem_ix (List.mem_of_mem_take hm)
    exact hx.2.2 j hj
  · rcases List.mem_append.1 hm with hm | hm
    · obtain ⟨j, hj, rfl⟩ := mem_ix hm
      exact hy.2.2 j hj
    · obtain ⟨j, hj, rfl⟩ := mem_ix (List.mem_of_mem_drop hm)
      exact hx.2.2 j hj
set_option maxRecDepth 100000 in
set_option maxHeartbeats 12800000 in
theorem spec_ReplaceAt (w : World) (B : Nat) (va vb : Value) (x y : List Nd) (p : Int) (hpb : Bi p) (ha : LfN w B va x) (hb : LfN w B vb y) (hB : B ≤ w.heap.size) (hsx : szN x ≤ 1048576) (hsy : szN y ≤ 1048576) :
    Calls Try.prog 16 #[.agg #[va], .int .i64 p, .agg #[vb]] w (SRetTermB w (rpL x p y) (rpOk x p y)) := by
  have HB0 := Lib.hid (show Below w.heap.size w (((w.alloc (.cells #[va] tTm)).alloc (.cells #[vb] tTm)).alloc (.cells #[.slice none 0 0] tTm)) from (((Below.refl _ _).alloc (Nat.le_refl _) _).alloc (by simp) _).alloc (by simp; omega) _)
  have HSC := Lib.hid (tmScan_any (((w.alloc (.cells #[va] tTm)).alloc (.cells #[vb] tTm)).alloc (.cells #[.slice none 0 0] tTm)) B va x (ha.below HB0.out hB) (by simp; omega))
  have HA0 := Lib.hid (((cellsAt_new' w #[va] tTm [va] w.heap.size rfl rfl).alloc (.cells #[vb] tTm)).alloc (.cells #[.slice none 0 0] tTm))
  have HC0 := Lib.hid ((cellsAt_new' (w.alloc (.cells #[va] tTm)) #[vb] tTm [vb] (w.heap.size + 1) (by simp) rfl).alloc (.cells #[.slice none 0 0] tTm))
  have HR0 := Lib.hid (cellsAt_new' ((w.alloc (.cells #[va] tTm)).alloc (.cells #[vb] tTm)) #[.slice none 0 0] tTm [.slice none 0 0] (w.heap.size + 2) (by simp) rfl)
  have hsz0 : (((w.alloc (.cells #[va] tTm)).alloc (.cells #[vb] tTm)).alloc (.cells #[.slice none 0 0] tTm)).heap.size = w.heap.size + 3 := by simp
  have HX := Lib.hid ha
  have HY := Lib.hid hb
  have HB := Lib.hid hB
  have hxl0 : x.length ≤ 1048576 := by unfold szN szNs at hsx; omega
  have hyl0 : y.length ≤ 1048576 := by unfold szN szNs at hsy; omega
  have hlm : IntKind.i64.wrap ((x.length : Int) - 1) = (x.length : Int) - 1 := Go.IntWalk.i64_in _ ⟨by omega, by omega⟩
  obtain ⟨hpb1, hpb2⟩ := hpb
  obtain ⟨yi, HYI⟩ : ∃ yi, Hid (tyIn y = yi) := ⟨_, Lib.hid rfl⟩
  obtain ⟨yo, HYO⟩ : ∃ yo, Hid (tyOut y = yo) := ⟨_, Lib.hid rfl⟩
  obtain ⟨A, c, rfl⟩ := ha.len
  obtain ⟨A', c', rfl⟩ := hb.len
  clear ha hb hB hsx hsy
  cases hok : okS x with
  | false =>
    have H3 : Hid (rpOk x p y = false) := Lib.hid (by unfold rpOk subOk tyOk; rw [← ok_both, hok]; rfl)
    have H1 : Hid (rpL x p y = []) := Lib.hid (by unfold rpL; rw [H3.out]; rfl)
    obtain ⟨yk, HYK⟩ : ∃ yk, Hid (tyOk y = yk) := ⟨_, Lib.hid rfl⟩
    have HOK := Lib.hid hok
    clear hok
    go_enter Try.func16, Try.ntmps16
    go_wp2_with fail
    refine HSC.out.mono ?_
    rintro e w2 ⟨v0, v1, v2, rfl, b2, hx, ⟨A0, n0, c0, rfl⟩, ⟨A1, n1, c1, rfl⟩, ⟨A2, n2, c2, rfl⟩⟩
    rw [HOK.out]
    have HXS := Lib.hid hx
    have HB2 := Lib.hid (HB0.out.trans (b2.mono (by rw [hsz0]; omega)))
    have HA2 := Lib.hid (HA0.out.below b2 (by rw [hsz0]; omega))
    have HC2 := Lib.hid (HC0.out.below b2 (by rw [hsz0]; omega))
    have HR2 := Lib.hid (HR0.out.below b2 (by rw [hsz0]; omega))
    have hsz2 : w.heap.size + 3 ≤ w2.heap.size := by rw [← hsz0]; exact b2.size
    have hc2 : w2.cell? ⟨w.heap.size + 1, 0, none⟩ = some (.slice A' y.length c') := HC2.out.cell (i := 0) (by simp)
    have hlt1 : w.heap.size + 1 < w2.heap.size := by omega
    have HI2 := Lib.hid (cellsAt_new' w2 #[.slice A0 n0 c0, .slice A1 n1 c1, .slice A2 n2 c2] tInfo [.slice A0 n0 c0, .slice A1 n1 c1, .slice A2 n2 c2] w2.heap.size rfl rfl)
    have HW3 : Hid (Below w2.heap.size w2 (w2.alloc (.cells #[.slice A0 n0 c0, .slice A1 n1 c1, .slice A2 n2 c2] tInfo))) := Lib.hid ((Below.refl _ _).alloc (Nat.le_refl _) _)
    have HB3 : Hid (Below w.heap.size w (w2.alloc (.cells #[.slice A0 n0 c0, .slice A1 n1 c1, .slice A2 n2 c2] tInfo))) := Lib.hid (HB2.out.alloc (by omega) _)
    have hsz3 : (w2.alloc (.cells #[.slice A0 n0 c0, .slice A1 n1 c1, .slice A2 n2 c2] tInfo)).heap.size = w2.heap.size + 1 := by simp
    have HTY := Lib.hid (tmType_any (w2.alloc (.cells #[.slice A0 n0 c0, .slice A1 n1 c1, .slice A2 n2 c2] tInfo)) B (.slice A' y.length c') y (HY.out.below HB3.out HB.out) (by have := HB.out; simp; omega))
    rw [HYI.out, HYO.out, HYK.out] at HTY
    clear b2 hx
    go_wp2_with fail
    refine HTY.out.mono ?_
    rintro e w4 ⟨rfl, b4⟩
    have HB4 := Lib.hid (HB3.out.trans (b4.mono (by rw [hsz3]; omega)))
    have HA4 := Lib.hid ((HA2.out.alloc (.cells #[.slice A0 n0 c0, .slice A1 n1 c1, .slice A2 n2 c2] tInfo)).below b4 (by rw [hsz3]; omega))
    have HC4 := Lib.hid ((HC2.out.alloc (.cells #[.slice A0 n0 c0, .slice A1 n1 c1, .slice A2 n2 c2] tInfo)).below b4 (by rw [hsz3]; omega))
    have HR4 := Lib.hid ((HR2.out.alloc (.cells #[.slice A0 n0 c0, .slice A1 n1 c1, .slice A2 n2 c2] tInfo)).below b4 (by rw [hsz3]; omega))
    have HI4 := Lib.hid (HI2.out.below b4 (by rw [hsz3]; omega))
    have HW4 : Hid (Below w2.heap.size w2 w4) := Lib.hid (HW3.out.trans (b4.mono (by rw [hsz3]; omega)))
    have hsz4 : w2.heap.size + 1 ≤ w4.heap.size := by rw [← hsz3]; exact b4.size
    have ha4 : w4.cell? ⟨w.heap.size, 0, none⟩ = some (.slice A x.length c) := HA4.out.cell (i := 0) (by simp)
    have hr4 : w4.cell? ⟨w.heap.size + 2, 0, none⟩ = some (.slice none 0 0) := HR4.out.cell (i := 0) (by simp)
    have hrf4 := HR4.out.frozen
    have hi0 : w4.cell? ⟨w2.heap.size, 0, none⟩ = some (.slice A0 n0 c0) := HI4.out.cell (i := 0) (by simp)
    have hi1 : w4.cell? ⟨w2.heap.size, 1, none⟩ = some (.slice A1 n1 c1) := HI4.out.cell (i := 1) (by simp)
    have hi2 : w4.cell? ⟨w2.heap.size, 2, none⟩ = some (.slice A2 n2 c2) := HI4.out.cell (i := 2) (by simp)
    have hq4 : (w4.setCell ⟨w.heap.size + 2, 0, none⟩ (.slice none 0 0)).cell? ⟨w.heap.size + 2, 0, none⟩ = some (.slice none 0 0) := (HR4.out.set 0 (.slice none 0 0)).cell (i := 0) (by simp)
    clear b4 hc2
    go_wp2
    all_goals
      refine bodyPost_ret (v := .tuple #[.agg #[.slice none 0 0], .bool false]) (by simp [results, Try.results16, go_sem, hq4]) rfl ?_
      unfold SRetTermB
      rw [H1.out, H3.out]
      exact ⟨_, rfl, HB4.out.setCell (by dsimp only; omega) _, ownN_nil _ _⟩
  | true =>
    obtain ⟨t, ht⟩ : ∃ t, treeOf x = some t := by
      rw [ok_both] at hok
      exact Option.isSome_iff_exists.1 hok
    obtain ⟨X, hX, -, -, hx4, -, -⟩ := ty_both ht
    have HOK := Lib.hid hok
    cases hyk : tyOk y with
    | false =>
      have H3 : Hid (rpOk x p y = false) := Lib.hid (by unfold rpOk tyEq; rw [hyk]; simp)
      have H1 : Hid (rpL x p y = []) := Lib.hid (by unfold rpL; rw [H3.out]; rfl)
      have HYK := Lib.hid hyk
      clear hok hyk ht hX
      go_enter Try.func16, Try.ntmps16
      go_wp2_with fail
      refine HSC.out.mono ?_
      rintro e w2 ⟨v0, v1, v2, rfl, b2, hx, ⟨A0, n0, c0, rfl⟩, ⟨A1, n1, c1, rfl⟩, ⟨A2, n2, c2, rfl⟩⟩
      rw [HOK.out]
      have HXS := Lib.hid hx
      have HB2 := Lib.hid (HB0.out.trans (b2.mono (by rw [hsz0]; omega)))
      have HA2 := Lib.hid (HA0.out.below b2 (by rw [hsz0]; omega))
      have HC2 := Lib.hid (HC0.out.below b2 (by rw [hsz0]; omega))
      have HR2 := Lib.hid (HR0.out.below b2 (by rw [hsz0]; omega))
      have hsz2 : w.heap.size + 3 ≤ w2.heap.size := by rw [← hsz0]; exact b2.size
      have hc2 : w2.cell? ⟨w.heap.size + 1, 0, none⟩ = some (.slice A' y.length c') := HC2.out.cell (i := 0) (by simp)
      have hlt1 : w.heap.size + 1 < w2.heap.size := by omega
      have HI2 := Lib.hid (cellsAt_new' w2 #[.slice A0 n0 c0, .slice A1 n1 c1, .slice A2 n2 c2] tInfo [.slice A0 n0 c0, .slice A1 n1 c1, .slice A2 n2 c2] w2.heap.size rfl rfl)
      have HW3 : Hid (Below w2.heap.size w2 (w2.alloc (.cells #[.slice A0 n0 c0, .slice A1 n1 c1, .slice A2 n2 c2] tInfo))) := Lib.hid ((Below.refl _ _).alloc (Nat.le_refl _) _)
      have HB3 : Hid (Below w.heap.size w (w2.alloc (.cells #[.slice A0 n0 c0, .slice A1 n1 c1, .slice A2 n2 c2] tInfo))) := Lib.hid (HB2.out.alloc (by omega) _)
      have hsz3 : (w2.alloc (.cells #[.slice A0 n0 c0, .slice A1 n1 c1, .slice A2 n2 c2] tInfo)).heap.size = w2.heap.size + 1 := by simp
      have HTY := Lib.hid (tmType_any (w2.alloc (.cells #[.slice A0 n0 c0, .slice A1 n1 c1, .slice A2 n2 c2] tInfo)) B (.slice A' y.length c') y (HY.out.below HB3.out HB.out) (by have := HB.out; simp; omega))
      rw [HYI.out, HYO.out, HYK.out] at HTY
      clear b2 hx
      go_wp2_with fail
      refine HTY.out.mono ?_
      rintro e w4 ⟨rfl, b4⟩
      have HB4 := Lib.hid (HB3.out.trans (b4.mono (by rw [hsz3]; omega)))
      have HA4 := Lib.hid ((HA2.out.alloc (.cells #[.slice A0 n0 c0, .slice A1 n1 c1, .slice A2 n2 c2] tInfo)).below b4 (by rw [hsz3]; omega))
      have HC4 := Lib.hid ((HC2.out.alloc (.cells #[.slice A0 n0 c0, .slice A1 n1 c1, .slice A2 n2 c2] tInfo)).below b4 (by rw [hsz3]; omega))
      have HR4 := Lib.hid ((HR2.out.alloc (.cells #[.slice A0 n0 c0, .slice A1 n1 c1, .slice A2 n2 c2] tInfo)).below b4 (by rw [hsz3]; omega))
      have HI4 := Lib.hid (HI2.out.below b4 (by rw [hsz3]; omega))
      have HW4 : Hid (Below w2.heap.size w2 w4) := Lib.hid (HW3.out.trans (b4.mono (by rw [hsz3]; omega)))
      have hsz4 : w2.heap.size + 1 ≤ w4.heap.size := by rw [← hsz3]; exact b4.size
      have ha4 : w4.cell? ⟨w.heap.size, 0, none⟩ = some (.slice A x.length c) := HA4.out.cell (i := 0) (by simp)
      have hr4 : w4.cell? ⟨w.heap.size + 2, 0, none⟩ = some (.slice none 0 0) := HR4.out.cell (i := 0) (by simp)
      have hrf4 := HR4.out.frozen
      have hi0 : w4.cell? ⟨w2.heap.size, 0, none⟩ = some (.slice A0 n0 c0) := HI4.out.cell (i := 0) (by simp)
      have hi1 : w4.cell? ⟨w2.heap.size, 1, none⟩ = some (.slice A1 n1 c1) := HI4.out.cell (i := 1) (by simp)
      have hi2 : w4.cell? ⟨w2.heap.size, 2, none⟩ = some (.slice A2 n2 c2) := HI4.out.cell (i := 2) (by simp)
      have hq4 : (w4.setCell ⟨w.heap.size + 2, 0, none⟩ (.slice none 0 0)).cell? ⟨w.heap.size + 2, 0, none⟩ = some (.slice none 0 0) := (HR4.out.set 0 (.slice none 0 0)).cell (i := 0) (by simp)
      clear b4 hc2
      go_wp2
      refine bodyPost_ret (v := .tuple #[.agg #[.slice none 0 0], .bool false]) (by simp [results, Try.results16, go_sem, hq4]) rfl ?_
      unfold SRetTermB
      rw [H1.out, H3.out]
      exact ⟨_, rfl, HB4.out.setCell (by dsimp only; omega) _, ownN_nil _ _⟩
    | true =>
      have HYK := Lib.hid hyk
      by_cases hin : 0 ≤ p ∧ p < x.length
      · obtain ⟨q, rfl⟩ : ∃ q : Nat, p = (q : Int) := ⟨p.toNat, by omega⟩
        have hq : q < x.length := by omega
        obtain ⟨s, hs⟩ := Option.isSome_iff_exists.1 hyk
        obtain ⟨f, hf, hfq, hfX, hsub, hfi, hfo, hfe, hfle⟩ := rp_facts ht hX hq
        obtain ⟨sV, sn, -⟩ : VTr (subAt t q) ∧ (nodesOf (subAt t q)).length ≤ 400 ∧ True := by
          obtain ⟨hV, hn, hl⟩ := tree_valid ht
          exact ⟨(sub_nodes t q hV (by rw [hn]; exact hq)).1, by omega, trivial⟩
        have hso : subOk x (q : Int) = true := by unfold subOk tyOk; rw [ht, decide_eq_true hin]; rfl
        have hsl : subL x (q : Int) = nodesOf (subAt t q) := by rw [← hsub]; unfold subL; rw [hso, if_pos rfl]; show (x.take (q + 1)).drop ((bk x (q + 1) 1).getD 0) = _; rw [hf]; rfl
        have hst := tree_nodes sV sn
        have hti : tyIn (subL x (q : Int)) = (subAt t q).inw := by unfold tyIn; rw [hsl, hst]
        have hto : tyOut (subL x (q : Int)) = (subAt t q).outw := by unfold tyOut; rw [hsl, hst]
        have htk : tyOk (subL x (q : Int)) = true := by unfold tyOk; rw [hsl, hst]; rfl
        have hyi : s.inw = yi := by rw [← HYI.out]; unfold tyIn; rw [hs]
        have hyo : s.outw = yo := by rw [← HYO.out]; unfold tyOut; rw [hs]
        have hrp : rpOk x (q : Int) y = ((decide ((subAt t q).inw = yi) && decide ((subAt t q).outw = yo)) && decide (x.length + y.length ≤ 400 + (nodesOf (subAt t q)).length)) := by
          unfold rpOk tyEq
          rw [hso, htk, hyk, hti, hto, HYI.out, HYO.out, hsl]
          rfl
        have hrl : rpL x (q : Int) y = if rpOk x (q : Int) y = true then x.take f ++ (y ++ x.drop (q + 1)) else [] := by
          unfold rpL
          show (if rpOk x (q : Int) y = true then x.take ((bk x (q + 1) 1).getD 0) ++ (y ++ x.drop (q + 1)) else []) = _
          rw [hf]
          rfl
        have hro := fun h1 h2 => rp_ok (y := y) (s := s) (f := f) ht hs hq hfe hfle h1 h2
        rw [hyi, hyo] at hro
        have HXX := Lib.hid hX
        have HFX := Lib.hid hfX
        have HFI := Lib.hid hfi
        have HFO := Lib.hid hfo
        have HL1 := Lib.hid (fun w0 => l1In_t (q : Int) 0 ((x.length : Int) - 1) w0 (by omega) (by omega))
        have hyl : y.length ≤ 400 := (tree_valid hs).2.2
        generalize (nodesOf (subAt t q)).length = sl at *
        generalize (subAt t q).inw = si at *
        generalize (subAt t q).outw = so at *
        clear hok hyk ht hX hs hfX hsub hfi hfo sV sn hso hsl hst hti hto htk hyi hyo hin
        by_cases hei : si = yi
        · by_cases heo : so = yo
          · have hcap : x.length ≤ c := by obtain ⟨A', c', e, h, _⟩ := HX.out.1; obtain ⟨-, -, rfl⟩ := sliceEq e; exact h
            obtain ⟨b, o, rfl, hb, -, -, -⟩ := HX.out.1.at hq
            have hroo := hro hei.symm heo.symm
            obtain ⟨z, HZ⟩ : ∃ z, Hid (x.take f ++ (y ++ x.drop (q + 1)) = z) := ⟨_, Lib.hid rfl⟩
            have H3 : Hid (rpOk x (q : Int) y = okS z) := Lib.hid (by rw [hrp, decide_eq_true hei, decide_eq_true heo, ← HZ.out, hroo]; rfl)
            have H1 : Hid (rpL x (q : Int) y = if okS z = true then z else []) := Lib.hid (by rw [hrl, H3.out, HZ.out])
            have hzl : z.length = f + (y.length + (x.length - (q + 1))) := by
              rw [← HZ.out, List.length_append, List.length_append, List.length_take, List.length_drop]
              omega
            have HZ4 := Lib.hid (show okS z = true → f + (y.length + (x.length - (q + 1))) ≤ 400 from fun h => by
              rw [← hzl]
              unfold okS at h
              simp at h
              omega)
            have HLZ := Lib.hid (fun (w' : World) (v' : Value) (B' : Nat) (h : RdN w' (fun b => b < B') v' z) => LfN.rp (w := w') (B := B') (v := v') HZ.out.symm (by omega) HX.out HY.out h)
            have HL5 := Lib.hid (show ([] : List Nd).length + (x.take f).length ≤ 1000000 by simp; omega)
            have HL6 := Lib.hid (show (x.take f).length + y.length ≤ 1000000 by rw [List.length_take]; omega)
            have HL7 := Lib.hid (show (x.take f ++ y).length + (x.drop (q + 1)).length ≤ 1000000 by rw [List.length_append, List.length_take, List.length_drop]; omega)
            have HFL := Lib.hid (show f ≤ x.length by omega)
            have hwq : IntKind.i64.wrap ((q : Int) + 1) = (q : Int) + 1 := Go.IntWalk.i64_in _ ⟨by omega, by omega⟩
            have hs1 : (0 : Int) ≤ (f : Int) := by omega
            have hs2 : (f : Int) ≤ (c : Int) := by omega
            have hcz : (c = 0) = False := eq_false (by omega)
            have hs3 : (q : Int) + 1 ≤ (x.length : Int) := by omega
            have hs4 : (0 : Int) ≤ (q : Int) + 1 := by omega
            have HCQ := Lib.hid (show c = q + 1 → x.length - (q + 1) = 0 by omega)
            subst hei
            subst heo
            clear hrp hrl hro hroo hf hzl hfe hfle
            go_enter Try.func16, Try.ntmps16
            go_wp2_with fail
            refine HSC.out.mono ?_
            rintro e w2 ⟨v0, v1, v2, rfl, b2, hx, ⟨A0, n0, c0, rfl⟩, ⟨A1, n1, c1, rfl⟩, ⟨A2, n2, c2, rfl⟩⟩
            rw [HOK.out]
            have HXS := Lib.hid hx
            have HB2 := Lib.hid (HB0.out.trans (b2.mono (by rw [hsz0]; omega)))
            have HA2 := Lib.hid (HA0.out.below b2 (by rw [hsz0]; omega))
            have HC2 := Lib.hid (HC0.out.below b2 (by rw [hsz0]; omega))
            have HR2 := Lib.hid (HR0.out.below b2 (by rw [hsz0]; omega))
            have hsz2 : w.heap.size + 3 ≤ w2.heap.size := by rw [← hsz0]; exact b2.size
            have hc2 : w2.cell? ⟨w.heap.size + 1, 0, none⟩ = some (.slice A' y.length c') := HC2.out.cell (i := 0) (by simp)
            have hlt1 : w.heap.size + 1 < w2.heap.size := by omega
            have HI2 := Lib.hid (cellsAt_new' w2 #[.slice A0 n0 c0, .slice A1 n1 c1, .slice A2 n2 c2] tInfo [.slice A0 n0 c0, .slice A1 n1 c1, .slice A2 n2 c2] w2.heap.size rfl rfl)
            have HW3 : Hid (Below w2.heap.size w2 (w2.alloc (.cells #[.slice A0 n0 c0, .slice A1 n1 c1, .slice A2 n2 c2] tInfo))) := Lib.hid ((Below.refl _ _).alloc (Nat.le_refl _) _)
            have HB3 : Hid (Below w.heap.size w (w2.alloc (.cells #[.slice A0 n0 c0, .slice A1 n1 c1, .slice A2 n2 c2] tInfo))) := Lib.hid (HB2.out.alloc (by omega) _)
            have hsz3 : (w2.alloc (.cells #[.slice A0 n0 c0, .slice A1 n1 c1, .slice A2 n2 c2] tInfo)).heap.size = w2.heap.size + 1 := by simp
            have HTY := Lib.hid (tmType_any (w2.alloc (.cells #[.slice A0 n0 c0, .slice A1 n1 c1, .slice A2 n2 c2] tInfo)) B (.slice A' y.length c') y (HY.out.below HB3.out HB.out) (by have := HB.out; simp; omega))
            rw [HYI.out, HYO.out, HYK.out] at HTY
            clear b2 hx
            go_wp2_with fail
            refine HTY.out.mono ?_
            rintro e w4 ⟨rfl, b4⟩
            have HB4 := Lib.hid (HB3.out.trans (b4.mono (by rw [hsz3]; omega)))
            have HA4 := Lib.hid ((HA2.out.alloc (.cells #[.slice A0 n0 c0, .slice A1 n1 c1, .slice A2 n2 c2] tInfo)).below b4 (by rw [hsz3]; omega))
            have HC4 := Lib.hid ((HC2.out.alloc (.cells #[.slice A0 n0 c0, .slice A1 n1 c1, .slice A2 n2 c2] tInfo)).below b4 (by rw [hsz3]; omega))
            have HR4 := Lib.hid ((HR2.out.alloc (.cells #[.slice A0 n0 c0, .slice A1 n1 c1, .slice A2 n2 c2] tInfo)).below b4 (by rw [hsz3]; omega))
            have HI4 := Lib.hid (HI2.out.below b4 (by rw [hsz3]; omega))
            have HW4 : Hid (Below w2.heap.size w2 w4) := Lib.hid (HW3.out.trans (b4.mono (by rw [hsz3]; omega)))
            have hsz4 : w2.heap.size + 1 ≤ w4.heap.size := by rw [← hsz3]; exact b4.size
            have ha4 : w4.cell? ⟨w.heap.size, 0, none⟩ = some (.slice (some ⟨b, o, none⟩) x.length c) := HA4.out.cell (i := 0) (by simp)
            have hr4 : w4.cell? ⟨w.heap.size + 2, 0, none⟩ = some (.slice none 0 0) := HR4.out.cell (i := 0) (by simp)
            have hrf4 := HR4.out.frozen
            have hi0 : w4.cell? ⟨w2.heap.size, 0, none⟩ = some (.slice A0 n0 c0) := HI4.out.cell (i := 0) (by simp)
            have hi1 : w4.cell? ⟨w2.heap.size, 1, none⟩ = some (.slice A1 n1 c1) := HI4.out.cell (i := 1) (by simp)
            have hi2 : w4.cell? ⟨w2.heap.size, 2, none⟩ = some (.slice A2 n2 c2) := HI4.out.cell (i := 2) (by simp)
            have hq4 : (w4.setCell ⟨w.heap.size + 2, 0, none⟩ (.slice none 0 0)).cell? ⟨w.heap.size + 2, 0, none⟩ = some (.slice none 0 0) := (HR4.out.set 0 (.slice none 0 0)).cell (i := 0) (by simp)
            clear b4 hc2
            obtain ⟨X', hX', hXg, hr0', hr1', hr2'⟩ := HXS.out HOK.out
            obtain rfl : X = X' := Option.some.inj (HXX.out.symm.trans hX')
            obtain ⟨g0, d0, e0, hcl0⟩ := hr0'.cells (by have := hXg.1.1; omega)
            obtain ⟨g1, d1, e1, hcl1⟩ := hr1'.cells (by have := hXg.1.2.1; omega)
            obtain ⟨g2, d2, e2, hcl2⟩ := hr2'.cells (by have := hXg.1.2.2; omega)
            obtain ⟨rfl, rfl, rfl⟩ := sliceEq e0
            obtain ⟨rfl, rfl, rfl⟩ := sliceEq e1
            obtain ⟨rfl, rfl, rfl⟩ := sliceEq e2
            have hXl := hXg.1
            have hk0 := hcl0 q (by have := hXl.1; omega)
            have hk1 := hcl1 q (by have := hXl.2.1; omega)
            have hk2 := hcl2 q (by have := hXl.2.2; omega)
            rw [HFX.out] at hk0
            rw [HFI.out] at hk1
            rw [HFO.out] at hk2
            have hy0 := (HW4.out.cell (p := ⟨g0, q, none⟩) (World.block_lt_of_cell? w2 _ hk0)).trans hk0
            have hy1 := (HW4.out.cell (p := ⟨g1, q, none⟩) (World.block_lt_of_cell? w2 _ hk1)).trans hk1
            have hy2 := (HW4.out.cell (p := ⟨g2, q, none⟩) (World.block_lt_of_cell? w2 _ hk2)).trans hk2
            have hq0I : (q : Int) < (X.f.length : Int) := by have := hXl.1; omega
            have hq1I : (q : Int) < (X.i.length : Int) := by have := hXl.2.1; omega
            have hq2I : (q : Int) < (X.o.length : Int) := by have := hXl.2.2; omega
            have hqz : (0 : Int) ≤ (q : Int) := by omega
            clear hX' hXg hr0' hr1' hr2' e0 e1 e2 hcl0 hcl1 hcl2 hXl hk0 hk1 hk2
            have hc4 : w4.cell? ⟨w.heap.size + 1, 0, none⟩ = some (.slice A' y.length c') := HC4.out.cell (i := 0) (by simp)
            have HELD : Hid (∀ w' : World, Below w4.heap.size w4 w' → w'.cell? ⟨w.heap.size, 0, none⟩ = some (.slice (some ⟨b, o, none⟩) x.length c) ∧ w'.cell? ⟨w2.heap.size, 0, none⟩ = some (.slice (some ⟨g0, 0, none⟩) X.f.length c0) ∧ w'.cell? ⟨g0, q, none⟩ = some (.int .i64 f) ∧ w'.cell? ⟨w.heap.size + 1, 0, none⟩ = some (.slice A' y.length c')) := Lib.hid (fun w' H => ⟨(H.cell (p := ⟨w.heap.size, 0, none⟩) (by dsimp only; omega)).trans ha4, (H.cell (p := ⟨w2.heap.size, 0, none⟩) (by dsimp only; omega)).trans hi0, (H.cell (p := ⟨g0, q, none⟩) (World.block_lt_of_cell? w4 _ hy0)).trans hy0, (H.cell (p := ⟨w.heap.size + 1, 0, none⟩) (by dsimp only; omega)).trans hc4⟩)
            have HD0 := Lib.hid (HELD.out w4.drew (Below.refl _ _).drew)
            have HD1 := Lib.hid (HELD.out (w4.alloc (.cells #[] tNd)).drew ((Below.refl _ _).alloc (Nat.le_refl _) _).drew)
            have HJ : Hid (RowN (w4.alloc (.cells #[] tNd)).drew w4.heap.size (.slice (some ⟨w4.heap.size, 0, none⟩) 0 0) []) := Lib.hid (RowN.below (World.ownsRow_lit (base := w4.heap.size) (size := 3) (e := tNd) w4 #[] 0 (Nat.le_refl _) (by unfold maxLen; omega) rfl) (Below.refl _ _).drew)
            have HBW5 : Hid (Below w.heap.size w (w4.alloc (.cells #[] tNd)).drew) := Lib.hid ((HB4.out.alloc (by have := HB4.out.size; omega) _).drew)
            have HRX := Lib.hid ((HX.out.1.below HBW5.out HB.out).takeN HFL.out)
            go_wp2_with (first | (go_at_call 32; refine (HL1.out _).mono ?_; rintro e w' ⟨rfl, rfl⟩) | fail)
            go_region_held3 (fun w' => w'.cell? ⟨w.heap.size, 0, none⟩ = some (.slice (some ⟨b, o, none⟩) x.length c) ∧ w'.cell? ⟨w2.heap.size, 0, none⟩ = some (.slice (some ⟨g0, 0, none⟩) X.f.length c0) ∧ w'.cell? ⟨g0, q, none⟩ = some (.int .i64 f) ∧ w'.cell? ⟨w.heap.size + 1, 0, none⟩ = some (.slice A' y.length c'))
              (first | with_reducible exact HD0.out | with_reducible exact HD1.out | with_reducible exact HD5.out | fail)
              (first
                | (refine step_joinN (by rfl) (.tmp 59) (.tmp 67) (by rfl) _ w4.heap.size _ [] (x.take f) (fun b => b < B) (some ⟨b, o, none⟩) f c (by rfl) HJ.out (by rfl) HRX.out (by simp) HL5.out ?_; intro v5 w5 hj5 hb5; have HJ5 := Lib.hid hj5; have HB45 : Hid (Below w4.heap.size w4 w5) := Lib.hid ((((Below.refl _ _).alloc (Nat.le_refl _) _).drew).trans hb5); have HD5 := Lib.hid (HELD.out w5 HB45.out); have hsz5 : w4.heap.size ≤ w5.heap.size := HB45.out.size; clear hj5 hb5)
                | fail)
            rw [List.nil_append] at HJ5
            have HC5 := Lib.hid (HC4.out.below HB45.out (by omega))
            have hc5 : w5.cell? ⟨w.heap.size + 1, 0, none⟩ = some (.slice A' y.length c') := HC5.out.cell (i := 0) (by simp)
            have HY5 := Lib.hid (HY.out.1.below (HB4.out.trans (HB45.out.mono HB4.out.size)) HB.out)
            go_wp2_with (at_builtin; refine wpList_joinN (by rfl) (.tmp 69) (.tmp 71) (by rfl) _ w4.heap.size _ (x.take f) y (fun b => b < B) A' _ c' (by rfl) HJ5.out (by rfl) HY5.out hsz5 HL6.out ?_)
            intro v6 w6 hj6 hb6
            have HJ6 := Lib.hid hj6
            have HB46 : Hid (Below w4.heap.size w4 w6) := Lib.hid (HB45.out.trans hb6)
            have hsz6 : w5.heap.size ≤ w6.heap.size := hb6.size
            have ht6 := (HELD.out w6 HB46.out).1
            have HX6 := Lib.hid (HX.out.1.below (HB4.out.trans (HB46.out.mono HB4.out.size)) HB.out)
            clear hj6 hb6 hc5 hc4 ha4 hi0 hi1 hi2 hr4 hrf4 hq4 hy0 hy1 hy2 HD0 HD1 HD5
            by_cases hcq : c = q + 1
            · have hct : (c = q + 1) = True := eq_true hcq
              have HXQ := Lib.hid (HCQ.out hcq)
              clear hcq
              go_wp2_with (at_builtin; refine wpList_joinN (by rfl) (.tmp 73) (.tmp 78) (by rfl) _ w4.heap.size _ (x.take f ++ y) (x.drop (q + 1)) (fun b => b < B) (some ⟨b, o, none⟩) _ (c - (q + 1)) (by rfl) HJ6.out (by rfl) (by rw [HXQ.out]; exact RdN.none' _ _ (List.drop_eq_nil_of_le (by have := HXQ.out; omega))) (by omega) HL7.out ?_)
              intro v7 w7 hj7 hb7
              rw [HZ.out] at hj7
              obtain ⟨A7, c7, rfl⟩ := hj7.form
              have HJ7 := Lib.hid hj7
              have HB47 : Hid (Below w4.heap.size w4 w7) := Lib.hid (HB46.out.trans hb7)
              have HR7 := Lib.hid (HR4.out.below HB47.out (by omega))
              have hsz7 : w6.heap.size ≤ w7.heap.size := hb7.size
              have HIF := Lib.hid (tmIf_any w7 w7.heap.size (.slice A7 z.length c7) z (HLZ.out _ _ _ hj7.own.readB) (Nat.le_refl _))
              clear hj7 hb7 ht6
              go_wp2_with fail
              refine HIF.out.mono ?_
              rintro e w8 ⟨rfl, b8⟩
              have HB48 : Hid (Below w4.heap.size w4 w8) := Lib.hid (HB47.out.trans (b8.mono (by omega)))
              have HR8 := Lib.hid (HR7.out.below b8 (by omega))
              have hsz8 : w7.heap.size ≤ w8.heap.size := b8.size
              have hr8 : w8.cell? ⟨w.heap.size + 2, 0, none⟩ = some (.slice none 0 0) := HR8.out.cell (i := 0) (by simp)
              have hrf8 := HR8.out.frozen
              have HJ8 := Lib.hid (HJ7.out.below b8)
              clear b8
              cases hz : okS z with
              | false =>
                rw [hz] at H1 H3
                have hq8 : (w8.setCell ⟨w.heap.size + 2, 0, none⟩ (.slice none 0 0)).cell? ⟨w.heap.size + 2, 0, none⟩ = some (.slice none 0 0) := (HR8.out.set 0 (.slice none 0 0)).cell (i := 0) (by simp)
                clear hz
                go_wp2
                refine bodyPost_ret (v := .tuple #[.agg #[.slice none 0 0], .bool false]) (by simp [results, Try.results16, go_sem, hq8]) rfl ?_
                unfold SRetTermB
                rw [H1.out, H3.out]
                exact ⟨_, rfl, (HB4.out.trans (HB48.out.mono HB4.out.size)).setCell (by dsimp only; omega) _, ownN_nil _ _⟩
              | true =>
                rw [hz] at H1 H3
                have HZL := Lib.hid (HZ4.out hz)
                have hq8 : (w8.setCell ⟨w.heap.size + 2, 0, none⟩ (.slice A7 z.length c7)).cell? ⟨w.heap.size + 2, 0, none⟩ = some (.slice A7 z.length c7) := (HR8.out.set 0 (.slice A7 z.length c7)).cell (i := 0) (by simp)
                clear hz
                go_wp2
                refine bodyPost_ret (v := .tuple #[.agg #[.slice A7 z.length c7], .bool true]) (by simp [results, Try.results16, go_sem, hq8]) rfl ?_
                unfold SRetTermB
                rw [H1.out, H3.out]
                first | rw [if_pos rfl] | rw [if_pos trivial]
                refine ⟨_, rfl, (HB4.out.trans (HB48.out.mono HB4.out.size)).setCell (by dsimp only; omega) _, OwnN.rp HZ.out.symm HZL.out HX.out HY.out ?_⟩
                exact (HJ8.out.own.blocks (fun q hq hql => blk_setCell_other _ _ _ _ (by dsimp only; omega))).mono (fun q hq _ => by omega)
            · go_wp2_with (at_builtin; refine wpList_joinN (by rfl) (.tmp 73) (.tmp 78) (by rfl) _ w4.heap.size _ (x.take f ++ y) (x.drop (q + 1)) (fun b => b < B) (some ⟨b, o + (q + 1) * 3, none⟩) _ (c - (q + 1)) (by rfl) HJ6.out (by rfl) (HX6.out.dropN (by omega)) (by omega) HL7.out ?_)
              intro v7 w7 hj7 hb7
              rw [HZ.out] at hj7
              obtain ⟨A7, c7, rfl⟩ := hj7.form
              have HJ7 := Lib.hid hj7
              have HB47 : Hid (Below w4.heap.size w4 w7) := Lib.hid (HB46.out.trans hb7)
              have HR7 := Lib.hid (HR4.out.below HB47.out (by omega))
              have hsz7 : w6.heap.size ≤ w7.heap.size := hb7.size
              have HIF := Lib.hid (tmIf_any w7 w7.heap.size (.slice A7 z.length c7) z (HLZ.out _ _ _ hj7.own.readB) (Nat.le_refl _))
              clear hj7 hb7 ht6
              go_wp2_with fail
              refine HIF.out.mono ?_
              rintro e w8 ⟨rfl, b8⟩
              have HB48 : Hid (Below w4.heap.size w4 w8) := Lib.hid (HB47.out.trans (b8.mono (by omega)))
              have HR8 := Lib.hid (HR7.out.below b8 (by omega))
              have hsz8 : w7.heap.size ≤ w8.heap.size := b8.size
              have hr8 : w8.cell? ⟨w.heap.size + 2, 0, none⟩ = some (.slice none 0 0) := HR8.out.cell (i := 0) (by simp)
              have hrf8 := HR8.out.frozen
              have HJ8 := Lib.hid (HJ7.out.below b8)
              clear b8
              cases hz : okS z with
              | false =>
                rw [hz] at H1 H3
                have hq8 : (w8.setCell ⟨w.heap.size + 2, 0, none⟩ (.slice none 0 0)).cell? ⟨w.heap.size + 2, 0, none⟩ = some (.slice none 0 0) := (HR8.out.set 0 (.slice none 0 0)).cell (i := 0) (by simp)
                clear hz
                go_wp2
                refine bodyPost_ret (v := .tuple #[.agg #[.slice none 0 0], .bool false]) (by simp [results, Try.results16, go_sem, hq8]) rfl ?_
                unfold SRetTermB
                rw [H1.out, H3.out]
                exact ⟨_, rfl, (HB4.out.trans (HB48.out.mono HB4.out.size)).setCell (by dsimp only; omega) _, ownN_nil _ _⟩
              | true =>
                rw [hz] at H1 H3
                have HZL := Lib.hid (HZ4.out hz)
                have hq8 : (w8.setCell ⟨w.heap.size + 2, 0, none⟩ (.slice A7 z.length c7)).cell? ⟨w.heap.size + 2, 0, none⟩ = some (.slice A7 z.length c7) := (HR8.out.set 0 (.slice A7 z.length c7)).cell (i := 0) (by simp)
                clear hz
                go_wp2
                refine bodyPost_ret (v := .tuple #[.agg #[.slice A7 z.length c7], .bool true]) (by simp [results, Try.results16, go_sem, hq8]) rfl ?_
                unfold SRetTermB
                rw [H1.out, H3.out]
                first | rw [if_pos rfl] | rw [if_pos trivial]
                refine ⟨_, rfl, (HB4.out.trans (HB48.out.mono HB4.out.size)).setCell (by dsimp only; omega) _, OwnN.rp HZ.out.symm HZL.out HX.out HY.out ?_⟩
                exact (HJ8.out.own.blocks (fun q hq hql => blk_setCell_other _ _ _ _ (by dsimp only; omega))).mono (fun q hq _ => by omega)
          · have H3 : Hid (rpOk x (q : Int) y = false) := Lib.hid (by rw [hrp, decide_eq_false heo, Bool.and_false]; rfl)
            have H1 : Hid (rpL x (q : Int) y = []) := Lib.hid (by rw [hrl, H3.out]; rfl)
            subst hei
            clear hrp hrl hro hf
            go_enter Try.func16, Try.ntmps16
            go_wp2_with fail
            refine HSC.out.mono ?_
            rintro e w2 ⟨v0, v1, v2, rfl, b2, hx, ⟨A0, n0, c0, rfl⟩, ⟨A1, n1, c1, rfl⟩, ⟨A2, n2, c2, rfl⟩⟩
            rw [HOK.out]
            have HXS := Lib.hid hx
            have HB2 := Lib.hid (HB0.out.trans (b2.mono (by rw [hsz0]; omega)))
            have HA2 := Lib.hid (HA0.out.below b2 (by rw [hsz0]; omega))
            have HC2 := Lib.hid (HC0.out.below b2 (by rw [hsz0]; omega))
            have HR2 := Lib.hid (HR0.out.below b2 (by rw [hsz0]; omega))
            have hsz2 : w.heap.size + 3 ≤ w2.heap.size := by rw [← hsz0]; exact b2.size
            have hc2 : w2.cell? ⟨w.heap.size + 1, 0, none⟩ = some (.slice A' y.length c') := HC2.out.cell (i := 0) (by simp)
            have hlt1 : w.heap.size + 1 < w2.heap.size := by omega
            have HI2 := Lib.hid (cellsAt_new' w2 #[.slice A0 n0 c0, .slice A1 n1 c1, .slice A2 n2 c2] tInfo [.slice A0 n0 c0, .slice A1 n1 c1, .slice A2 n2 c2] w2.heap.size rfl rfl)
            have HW3 : Hid (Below w2.heap.size w2 (w2.alloc (.cells #[.slice A0 n0 c0, .slice A1 n1 c1, .slice A2 n2 c2] tInfo))) := Lib.hid ((Below.refl _ _).alloc (Nat.le_refl _) _)
            have HB3 : Hid (Below w.heap.size w (w2.alloc (.cells #[.slice A0 n0 c0, .slice A1 n1 c1, .slice A2 n2 c2] tInfo))) := Lib.hid (HB2.out.alloc (by omega) _)
            have hsz3 : (w2.alloc (.cells #[.slice A0 n0 c0, .slice A1 n1 c1, .slice A2 n2 c2] tInfo)).heap.size = w2.heap.size + 1 := by simp
            have HTY := Lib.hid (tmType_any (w2.alloc (.cells #[.slice A0 n0 c0, .slice A1 n1 c1, .slice A2 n2 c2] tInfo)) B (.slice A' y.length c') y (HY.out.below HB3.out HB.out) (by have := HB.out; simp; omega))
            rw [HYI.out, HYO.out, HYK.out] at HTY
            clear b2 hx
            go_wp2_with fail
            refine HTY.out.mono ?_
            rintro e w4 ⟨rfl, b4⟩
            have HB4 := Lib.hid (HB3.out.trans (b4.mono (by rw [hsz3]; omega)))
            have HA4 := Lib.hid ((HA2.out.alloc (.cells #[.slice A0 n0 c0, .slice A1 n1 c1, .slice A2 n2 c2] tInfo)).below b4 (by rw [hsz3]; omega))
            have HC4 := Lib.hid ((HC2.out.alloc (.cells #[.slice A0 n0 c0, .slice A1 n1 c1, .slice A2 n2 c2] tInfo)).below b4 (by rw [hsz3]; omega))
            have HR4 := Lib.hid ((HR2.out.alloc (.cells #[.slice A0 n0 c0, .slice A1 n1 c1, .slice A2 n2 c2] tInfo)).below b4 (by rw [hsz3]; omega))
            have HI4 := Lib.hid (HI2.out.below b4 (by rw [hsz3]; omega))
            have HW4 : Hid (Below w2.heap.size w2 w4) := Lib.hid (HW3.out.trans (b4.mono (by rw [hsz3]; omega)))
            have hsz4 : w2.heap.size + 1 ≤ w4.heap.size := by rw [← hsz3]; exact b4.size
            have ha4 : w4.cell? ⟨w.heap.size, 0, none⟩ = some (.slice A x.length c) := HA4.out.cell (i := 0) (by simp)
            have hr4 : w4.cell? ⟨w.heap.size + 2, 0, none⟩ = some (.slice none 0 0) := HR4.out.cell (i := 0) (by simp)
            have hrf4 := HR4.out.frozen
            have hi0 : w4.cell? ⟨w2.heap.size, 0, none⟩ = some (.slice A0 n0 c0) := HI4.out.cell (i := 0) (by simp)
            have hi1 : w4.cell? ⟨w2.heap.size, 1, none⟩ = some (.slice A1 n1 c1) := HI4.out.cell (i := 1) (by simp)
            have hi2 : w4.cell? ⟨w2.heap.size, 2, none⟩ = some (.slice A2 n2 c2) := HI4.out.cell (i := 2) (by simp)
            have hq4 : (w4.setCell ⟨w.heap.size + 2, 0, none⟩ (.slice none 0 0)).cell? ⟨w.heap.size + 2, 0, none⟩ = some (.slice none 0 0) := (HR4.out.set 0 (.slice none 0 0)).cell (i := 0) (by simp)
            clear b4 hc2
            obtain ⟨X', hX', hXg, hr0', hr1', hr2'⟩ := HXS.out HOK.out
            obtain rfl : X = X' := Option.some.inj (HXX.out.symm.trans hX')
            obtain ⟨g0, d0, e0, hcl0⟩ := hr0'.cells (by have := hXg.1.1; omega)
            obtain ⟨g1, d1, e1, hcl1⟩ := hr1'.cells (by have := hXg.1.2.1; omega)
            obtain ⟨g2, d2, e2, hcl2⟩ := hr2'.cells (by have := hXg.1.2.2; omega)
            obtain ⟨rfl, rfl, rfl⟩ := sliceEq e0
            obtain ⟨rfl, rfl, rfl⟩ := sliceEq e1
            obtain ⟨rfl, rfl, rfl⟩ := sliceEq e2
            have hXl := hXg.1
            have hk0 := hcl0 q (by have := hXl.1; omega)
            have hk1 := hcl1 q (by have := hXl.2.1; omega)
            have hk2 := hcl2 q (by have := hXl.2.2; omega)
            rw [HFX.out] at hk0
            rw [HFI.out] at hk1
            rw [HFO.out] at hk2
            have hy0 := (HW4.out.cell (p := ⟨g0, q, none⟩) (World.block_lt_of_cell? w2 _ hk0)).trans hk0
            have hy1 := (HW4.out.cell (p := ⟨g1, q, none⟩) (World.block_lt_of_cell? w2 _ hk1)).trans hk1
            have hy2 := (HW4.out.cell (p := ⟨g2, q, none⟩) (World.block_lt_of_cell? w2 _ hk2)).trans hk2
            have hq0I : (q : Int) < (X.f.length : Int) := by have := hXl.1; omega
            have hq1I : (q : Int) < (X.i.length : Int) := by have := hXl.2.1; omega
            have hq2I : (q : Int) < (X.o.length : Int) := by have := hXl.2.2; omega
            have hqz : (0 : Int) ≤ (q : Int) := by omega
            clear hX' hXg hr0' hr1' hr2' e0 e1 e2 hcl0 hcl1 hcl2 hXl hk0 hk1 hk2
            go_wp2_with (first | (go_at_call 32; refine (HL1.out _).mono ?_; rintro e w' ⟨rfl, rfl⟩) | fail)
            refine bodyPost_ret (v := .tuple #[.agg #[.slice none 0 0], .bool false]) (by simp [results, Try.results16, go_sem, hq4]) rfl ?_
            unfold SRetTermB
            rw [H1.out, H3.out]
            exact ⟨_, rfl, HB4.out.setCell (by dsimp only; omega) _, ownN_nil _ _⟩
        · have H3 : Hid (rpOk x (q : Int) y = false) := Lib.hid (by rw [hrp, decide_eq_false hei]; rfl)
          have H1 : Hid (rpL x (q : Int) y = []) := Lib.hid (by rw [hrl, H3.out]; rfl)
          clear hrp hrl hro hf
          go_enter Try.func16, Try.ntmps16
          go_wp2_with fail
          refine HSC.out.mono ?_
          rintro e w2 ⟨v0, v1, v2, rfl, b2, hx, ⟨A0, n0, c0, rfl⟩, ⟨A1, n1, c1, rfl⟩, ⟨A2, n2, c2, rfl⟩⟩
          rw [HOK.out]
          have HXS := Lib.hid hx
          have HB2 := Lib.hid (HB0.out.trans (b2.mono (by rw [hsz0]; omega)))
          have HA2 := Lib.hid (HA0.out.below b2 (by rw [hsz0]; omega))
          have HC2 := Lib.hid (HC0.out.below b2 (by rw [hsz0]; omega))
          have HR2 := Lib.hid (HR0.out.below b2 (by rw [hsz0]; omega))
          have hsz2 : w.heap.size + 3 ≤ w2.heap.size := by rw [← hsz0]; exact b2.size
          have hc2 : w2.cell? ⟨w.heap.size + 1, 0, none⟩ = some (.slice A' y.length c') := HC2.out.cell (i := 0) (by simp)
          have hlt1 : w.heap.size + 1 < w2.heap.size := by omega
          have HI2 := Lib.hid (cellsAt_new' w2 #[.slice A0 n0 c0, .slice A1 n1 c1, .slice A2 n2 c2] tInfo [.slice A0 n0 c0, .slice A1 n1 c1, .slice A2 n2 c2] w2.heap.size rfl rfl)
          have HW3 : Hid (Below w2.heap.size w2 (w2.alloc (.cells #[.slice A0 n0 c0, .slice A1 n1 c1, .slice A2 n2 c2] tInfo))) := Lib.hid ((Below.refl _ _).alloc (Nat.le_refl _) _)
          have HB3 : Hid (Below w.heap.size w (w2.alloc (.cells #[.slice A0 n0 c0, .slice A1 n1 c1, .slice A2 n2 c2] tInfo))) := Lib.hid (HB2.out.alloc (by omega) _)
          have hsz3 : (w2.alloc (.cells #[.slice A0 n0 c0, .slice A1 n1 c1, .slice A2 n2 c2] tInfo)).heap.size = w2.heap.size + 1 := by simp
          have HTY := Lib.hid (tmType_any (w2.alloc (.cells #[.slice A0 n0 c0, .slice A1 n1 c1, .slice A2 n2 c2] tInfo)) B (.slice A' y.length c') y (HY.out.below HB3.out HB.out) (by have := HB.out; simp; omega))
          rw [HYI.out, HYO.out, HYK.out] at HTY
          clear b2 hx
          go_wp2_with fail
          refine HTY.out.mono ?_
          rintro e w4 ⟨rfl, b4⟩
          have HB4 := Lib.hid (HB3.out.trans (b4.mono (by rw [hsz3]; omega)))
          have HA4 := Lib.hid ((HA2.out.alloc (.cells #[.slice A0 n0 c0, .slice A1 n1 c1, .slice A2 n2 c2] tInfo)).below b4 (by rw [hsz3]; omega))
          have HC4 := Lib.hid ((HC2.out.alloc (.cells #[.slice A0 n0 c0, .slice A1 n1 c1, .slice A2 n2 c2] tInfo)).below b4 (by rw [hsz3]; omega))
          have HR4 := Lib.hid ((HR2.out.alloc (.cells #[.slice A0 n0 c0, .slice A1 n1 c1, .slice A2 n2 c2] tInfo)).below b4 (by rw [hsz3]; omega))
          have HI4 := Lib.hid (HI2.out.below b4 (by rw [hsz3]; omega))
          have HW4 : Hid (Below w2.heap.size w2 w4) := Lib.hid (HW3.out.trans (b4.mono (by rw [hsz3]; omega)))
          have hsz4 : w2.heap.size + 1 ≤ w4.heap.size := by rw [← hsz3]; exact b4.size
          have ha4 : w4.cell? ⟨w.heap.size, 0, none⟩ = some (.slice A x.length c) := HA4.out.cell (i := 0) (by simp)
          have hr4 : w4.cell? ⟨w.heap.size + 2, 0, none⟩ = some (.slice none 0 0) := HR4.out.cell (i := 0) (by simp)
          have hrf4 := HR4.out.frozen
          have hi0 : w4.cell? ⟨w2.heap.size, 0, none⟩ = some (.slice A0 n0 c0) := HI4.out.cell (i := 0) (by simp)
          have hi1 : w4.cell? ⟨w2.heap.size, 1, none⟩ = some (.slice A1 n1 c1) := HI4.out.cell (i := 1) (by simp)
          have hi2 : w4.cell? ⟨w2.heap.size, 2, none⟩ = some (.slice A2 n2 c2) := HI4.out.cell (i := 2) (by simp)
          have hq4 : (w4.setCell ⟨w.heap.size + 2, 0, none⟩ (.slice none 0 0)).cell? ⟨w.heap.size + 2, 0, none⟩ = some (.slice none 0 0) := (HR4.out.set 0 (.slice none 0 0)).cell (i := 0) (by simp)
          clear b4 hc2
          obtain ⟨X', hX', hXg, hr0', hr1', hr2'⟩ := HXS.out HOK.out
          obtain rfl : X = X' := Option.some.inj (HXX.out.symm.trans hX')
          obtain ⟨g0, d0, e0, hcl0⟩ := hr0'.cells (by have := hXg.1.1; omega)
          obtain ⟨g1, d1, e1, hcl1⟩ := hr1'.cells (by have := hXg.1.2.1; omega)
          obtain ⟨g2, d2, e2, hcl2⟩ := hr2'.cells (by have := hXg.1.2.2; omega)
          obtain ⟨rfl, rfl, rfl⟩ := sliceEq e0
          obtain ⟨rfl, rfl, rfl⟩ := sliceEq e1
          obtain ⟨rfl, rfl, rfl⟩ := sliceEq e2
          have hXl := hXg.1
          have hk0 := hcl0 q (by have := hXl.1; omega)
          have hk1 := hcl1 q (by have := hXl.2.1; omega)
          have hk2 := hcl2 q (by have := hXl.2.2; omega)
          rw [HFX.out] at hk0
          rw [HFI.out] at hk1
          rw [HFO.out] at hk2
          have hy0 := (HW4.out.cell (p := ⟨g0, q, none⟩) (World.block_lt_of_cell? w2 _ hk0)).trans hk0
          have hy1 := (HW4.out.cell (p := ⟨g1, q, none⟩) (World.block_lt_of_cell? w2 _ hk1)).trans hk1
          have hy2 := (HW4.out.cell (p := ⟨g2, q, none⟩) (World.block_lt_of_cell? w2 _ hk2)).trans hk2
          have hq0I : (q : Int) < (X.f.length : Int) := by have := hXl.1; omega
          have hq1I : (q : Int) < (X.i.length : Int) := by have := hXl.2.1; omega
          have hq2I : (q : Int) < (X.o.length : Int) := by have := hXl.2.2; omega
          have hqz : (0 : Int) ≤ (q : Int) := by omega
          clear hX' hXg hr0' hr1' hr2' e0 e1 e2 hcl0 hcl1 hcl2 hXl hk0 hk1 hk2
          go_wp2_with (first | (go_at_call 32; refine (HL1.out _).mono ?_; rintro e w' ⟨rfl, rfl⟩) | fail)
          refine bodyPost_ret (v := .tuple #[.agg #[.slice none 0 0], .bool false]) (by simp [results, Try.results16, go_sem, hq4]) rfl ?_
          unfold SRetTermB
          rw [H1.out, H3.out]
          exact ⟨_, rfl, HB4.out.setCell (by dsimp only; omega) _, ownN_nil _ _⟩
      · have H3 : Hid (rpOk x p y = false) := Lib.hid (by unfold rpOk subOk; rw [decide_eq_false hin, Bool.and_false]; rfl)
        have H1 : Hid (rpL x p y = []) := Lib.hid (by unfold rpL; rw [H3.out]; rfl)
        have HL1 := Lib.hid (fun w0 => l1In_f p 0 ((x.length : Int) - 1) w0 (by omega))
        clear hok hyk ht hX
        go_enter Try.func16, Try.ntmps16
        go_wp2_with fail
        refine HSC.out.mono ?_
        rintro e w2 ⟨v0, v1, v2, rfl, b2, hx, ⟨A0, n0, c0, rfl⟩, ⟨A1, n1, c1, rfl⟩, ⟨A2, n2, c2, rfl⟩⟩
        rw [HOK.out]
        have HXS := Lib.hid hx
        have HB2 := Lib.hid (HB0.out.trans (b2.mono (by rw [hsz0]; omega)))
        have HA2 := Lib.hid (HA0.out.below b2 (by rw [hsz0]; omega))
        have HC2 := Lib.hid (HC0.out.below b2 (by rw [hsz0]; omega))
        have HR2 := Lib.hid (HR0.out.below b2 (by rw [hsz0]; omega))
        have hsz2 : w.heap.size + 3 ≤ w2.heap.size := by rw [← hsz0]; exact b2.size
        have hc2 : w2.cell? ⟨w.heap.size + 1, 0, none⟩ = some (.slice A' y.length c') := HC2.out.cell (i := 0) (by simp)
        have hlt1 : w.heap.size + 1 < w2.heap.size := by omega
        have HI2 := Lib.hid (cellsAt_new' w2 #[.slice A0 n0 c0, .slice A1 n1 c1, .slice A2 n2 c2] tInfo [.slice A0 n0 c0, .slice A1 n1 c1, .slice A2 n2 c2] w2.heap.size rfl rfl)
        have HW3 : Hid (Below w2.heap.size w2 (w2.alloc (.cells #[.slice A0 n0 c0, .slice A1 n1 c1, .slice A2 n2 c2] tInfo))) := Lib.hid ((Below.refl _ _).alloc (Nat.le_refl _) _)
        have HB3 : Hid (Below w.heap.size w (w2.alloc (.cells #[.slice A0 n0 c0, .slice A1 n1 c1, .slice A2 n2 c2] tInfo))) := Lib.hid (HB2.out.alloc (by omega) _)
        have hsz3 : (w2.alloc (.cells #[.slice A0 n0 c0, .slice A1 n1 c1, .slice A2 n2 c2] tInfo)).heap.size = w2.heap.size + 1 := by simp
        have HTY := Lib.hid (tmType_any (w2.alloc (.cells #[.slice A0 n0 c0, .slice A1 n1 c1, .slice A2 n2 c2] tInfo)) B (.slice A' y.length c') y (HY.out.below HB3.out HB.out) (by have := HB.out; simp; omega))
        rw [HYI.out, HYO.out, HYK.out] at HTY
        clear b2 hx
        go_wp2_with fail
        refine HTY.out.mono ?_
        rintro e w4 ⟨rfl, b4⟩
        have HB4 := Lib.hid (HB3.out.trans (b4.mono (by rw [hsz3]; omega)))
        have HA4 := Lib.hid ((HA2.out.alloc (.cells #[.slice A0 n0 c0, .slice A1 n1 c1, .slice A2 n2 c2] tInfo)).below b4 (by rw [hsz3]; omega))
        have HC4 := Lib.hid ((HC2.out.alloc (.cells #[.slice A0 n0 c0, .slice A1 n1 c1, .slice A2 n2 c2] tInfo)).below b4 (by rw [hsz3]; omega))
        have HR4 := Lib.hid ((HR2.out.alloc (.cells #[.slice A0 n0 c0, .slice A1 n1 c1, .slice A2 n2 c2] tInfo)).below b4 (by rw [hsz3]; omega))
        have HI4 := Lib.hid (HI2.out.below b4 (by rw [hsz3]; omega))
        have HW4 : Hid (Below w2.heap.size w2 w4) := Lib.hid (HW3.out.trans (b4.mono (by rw [hsz3]; omega)))
        have hsz4 : w2.heap.size + 1 ≤ w4.heap.size := by rw [← hsz3]; exact b4.size
        have ha4 : w4.cell? ⟨w.heap.size, 0, none⟩ = some (.slice A x.length c) := HA4.out.cell (i := 0) (by simp)
        have hr4 : w4.cell? ⟨w.heap.size + 2, 0, none⟩ = some (.slice none 0 0) := HR4.out.cell (i := 0) (by simp)
        have hrf4 := HR4.out.frozen
        have hi0 : w4.cell? ⟨w2.heap.size, 0, none⟩ = some (.slice A0 n0 c0) := HI4.out.cell (i := 0) (by simp)
        have hi1 : w4.cell? ⟨w2.heap.size, 1, none⟩ = some (.slice A1 n1 c1) := HI4.out.cell (i := 1) (by simp)
        have hi2 : w4.cell? ⟨w2.heap.size, 2, none⟩ = some (.slice A2 n2 c2) := HI4.out.cell (i := 2) (by simp)
        have hq4 : (w4.setCell ⟨w.heap.size + 2, 0, none⟩ (.slice none 0 0)).cell? ⟨w.heap.size + 2, 0, none⟩ = some (.slice none 0 0) := (HR4.out.set 0 (.slice none 0 0)).cell (i := 0) (by simp)
        clear b4 hc2
        go_wp2_with (first | (go_at_call 32; refine (HL1.out _).mono ?_; rintro e w' ⟨rfl, rfl⟩) | fail)
        refine bodyPost_ret (v := .tuple #[.agg #[.slice none 0 0], .bool false]) (by simp [results, Try.results16, go_sem, hq4]) rfl ?_
        unfold SRetTermB
        rw [H1.out, H3.out]
        exact ⟨_, rfl, HB4.out.setCell (by dsimp only; omega) _, ownN_nil _ _⟩
end Go.Proofs.Ytbeaihjiablcbaa

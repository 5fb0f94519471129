/- The program's parts: what a node makes of the parts before it. -/
import Derived.Test.YtdgimjmdgppboaaPtK
import Derived.Deep.RegionHeld3
import Derived.Deep.Cut
import Derived.StillTailTactics
namespace Go.Proofs.Ytdgimjmdgppboaa
set_option maxRecDepth 100000
open Go Go.RowKit Go.Deep

abbrev tPart : TypeId := 46
/-- A row of one's own that holds parts, the last one first in the list. -/
def OwP (w : World) (B : Nat) (v : Value) (st : List Tr) : Prop := w.ownsRow B tPart 1 v st.length (st.reverse.map trV)
theorem infoP : (Try.prog.info? tPart).map (fun i => (i.zero, i.size, i.bytes)) = some (some .nilIface, 1, 16) := by kernel_rfl
theorem OwP.nil (w : World) (B : Nat) : OwP w B (.slice none 0 0) [] := World.ownsRow_nil _ _ _ _
theorem OwP.form {w : World} {B : Nat} {v : Value} {st : List Tr} (h : OwP w B v st) : ∃ A c, v = .slice A st.length c := by
  rcases h.2 with ⟨rfl, h0⟩ | ⟨g, cap, cur, rfl, _⟩
  · exact ⟨none, 0, by rw [h0]⟩
  · exact ⟨_, cap, rfl⟩
theorem OwP.grown {w w' : World} {B : Nat} {v : Value} {st : List Tr} (h : OwP w B v st) (hg : w.grownBy w' none) : OwP w' B v st :=
  World.ownsRow.kept h hg (by cases v.ownBlock <;> simp)
theorem OwP.cell {w : World} {B g n c : Nat} {st : List Tr} (h : OwP w B (.slice (some ⟨g, 0, none⟩) n c) st) {q : Nat} {t : Tr} (hq : st.reverse[q]? = some t) : w.cell? ⟨g, q, none⟩ = some (trV t) := by
  have hc := World.ownsRow.cells h (g := g) rfl q (trV t) (by rw [List.getElem?_map, hq]; rfl)
  have e : (⟨g, 0, none⟩ : Addr).add q = ⟨g, q, none⟩ := by unfold Addr.add; split <;> simp_all
  rw [e] at hc
  exact hc
/-- The row cut at its end. -/
theorem OwP.cut {w : World} {B g c n : Nat} {a b : Tr} {r : List Tr} (h : OwP w B (.slice (some ⟨g, 0, none⟩) n c) (b :: a :: r)) : w.ownsRow B tPart 1 (.slice (some ⟨g, 0, none⟩) r.length c) (r.reverse.map trV).length (r.reverse.map trV) := by
  obtain ⟨h1, h2⟩ := h
  refine ⟨by simp, Or.inr ?_⟩
  rcases h2 with ⟨e, _⟩ | ⟨g', cap, cur, e, hb, hg, hn, hm, hs, ht⟩
  · cases e
  · cases e
    refine ⟨g, c, cur, by simp, hb, hg, by simp at hn ⊢; omega, hm, hs, ?_⟩
    have e2 := congrArg (fun l => l.take r.length) ht
    simp only [List.take_take] at e2
    rw [Nat.min_eq_left (by simp only [List.length_cons]; omega)] at e2
    simp only [List.length_map, List.length_reverse, Nat.mul_one]
    rw [e2]
    simp
theorem OwP.cutN {w : World} {B g c n : Nat} {a b : Tr} {r : List Tr} (h : OwP w B (.slice (some ⟨g, 0, none⟩) n c) (b :: a :: r)) : w.ownsRow B tPart 1 (.slice (some ⟨g, 0, none⟩) r.length c) r.length (r.reverse.map trV) := by
  have h2 := h.cut
  rw [List.length_map, List.length_reverse] at h2
  exact h2
section
variable {ops : Array Oper} {rest : List Oper} {o : Oper} {a : Act} {Q : Exit → Act → World → Prop}
theorem wpList_pushP (hgd : o.guard = none) (s x : Operand) (ho : o.op = .call { callee := .builtin .append, args := #[s, x], argTypes := #[82, 82] }) (w : World) (B n : Nat) (v : Value) (vs : List Value) (y : Value) (b c : Nat)
    (hs : a.eval s = v) (hown : w.ownsRow B tPart 1 v n vs) (hx : a.eval x = .slice (some ⟨b, 0, none⟩) 1 c) (hc : w.cell? ⟨b, 0, none⟩ = some y) (hy : y.oneCell' = true) (hB : B ≤ w.heap.size) (hn : n + 1 ≤ 1000000)
    (h : ∀ g cap w', w'.ownsRow B tPart 1 (.slice (some ⟨g, 0, none⟩) (n + 1) cap) (n + 1) (vs ++ [y]) → w.grownBy w' v.ownBlock → wpList Try.prog ops Q rest (a.put o.dst (.slice (some ⟨g, 0, none⟩) (n + 1) cap)) w') : wpList Try.prog ops Q (o :: rest) a w := by
  obtain ⟨i0, hi0, hz0, hz1, hz2⟩ := info_parts infoP
  refine wpList_append_lies w hgd s x _ ho B tPart i0 _ 1 16 Try.underlying82 hi0 hz0 hz1 hz2 rfl (by omega) v n vs hs hown ⟨b, 0, none⟩ 1 c [y] hx rfl (fun j u hj => ?_) (fun u hu => ?_) (by omega) (by unfold maxLen; omega) (by omega) hB _ rfl (fun g cap w' h1 h2 h3 _ => h g cap w' h1 h2)
  · match j, hj with
    | 0, hj =>
      simp at hj
      subst hj
      simpa [Addr.add] using hc
  · simp at hu
    subst hu
    exact hy
end
theorem cellV_new (w : World) (y : Value) (t : TypeId) (b : Nat) (hb : b = w.heap.size) : (w.alloc (.cells #[y] t)).cell? ⟨b, 0, none⟩ = some y := by
  subst hb
  have h := (cellsAt_new w #[y] t).cell (i := 0) (by simp)
  rw [h]
  rfl
/-- What a write into rows from B on leaves alone. -/
theorem below_grown {w w' : World} {B n : Nat} {v : Value} {xs : List Value} (h : w.ownsRow B tPart 1 v n xs) (hg : w.grownBy w' v.ownBlock) (hB : B ≤ w.heap.size) : Below B w w' :=
  ⟨hg.os, hg.tape, hg.output, hg.size, fun k hk => hg.block k (Nat.lt_of_lt_of_le hk hB) (fun e => by have := (World.ownsRow.lt h k e.symm).1; omega)⟩
theorem stepT_leaf_no {n : Nd} (_h : isLeafB n = false) (hj : isJointB n = true) (a b : Tr) (r : List Tr) : stepT (b :: a :: r) n = (joinT n.k a b).map (· :: r) := stepT_joint hj a b r
def AddSaid (w : World) (B : Nat) (st : List Tr) (n : Nd) (e : Ending) (w' : World) : Prop :=
  ∃ u ok, e = .returned (.tuple #[u, .bool ok]) ∧ Below B w w' ∧ ((∃ st', stepT st n = some st' ∧ ok = true ∧ OwP w' B u st') ∨ (stepT st n = none ∧ ok = false))
set_option maxRecDepth 100000 in
set_option maxHeartbeats 6400000 in
theorem addNode_any (w : World) (B : Nat) (v : Value) (st : List Tr) (n : Nd) (hv : OwP w B v st) (hB : B ≤ w.heap.size) (hf : ∀ t ∈ st, Fits t) (hlen : st.length ≤ 1000) :
    Calls Try.prog 48 #[.map none, v, ndV n] w (AddSaid w B st n) := by
  obtain ⟨A, c, rfl⟩ := hv.form
  have HV := Lib.hid hv
  have HB := Lib.hid hB
  have HF := Lib.hid hf
  have HLI := Lib.hid (fun w0 => leafIn_any w0 n)
  have HIJ := Lib.hid (fun w0 => isJoint_any w0 n)
  clear hv hf
  by_cases hl : isLeafB n = true
  · have HST := Lib.hid (stepT_leaf hl st)
    have HR : Hid (leafRes n = trV (.leaf n (leafW n).1 (leafW n).2)) := Lib.hid (if_pos hl)
    rw [hl, HR.out] at HLI
    obtain ⟨T, V, g, et, -⟩ := trV_wires (.leaf n (leafW n).1 (leafW n).2)
    have HET := Lib.hid et
    rw [et] at HLI
    clear hl et HR HF
    unfold ndV at HLI ⊢
    go_enter Try.func48, Try.ntmps48
    go_wp2_with (first | (at_builtin; refine wpList_pushP rfl _ _ rfl _ B st.length _ (st.reverse.map trV) (.iface T V) w1.heap.size 1 rfl (World.ownsRow.alloc HV1.out _) rfl (cellV_new _ _ _ _ rfl) rfl (by have := HB1.out.size; have := HB.out; simp; omega) (by omega) ?_) | (first | (go_at_call 52; refine (HLI.out _).mono ?_; rintro e w1 ⟨rfl, b1⟩; have HB1 : Hid (Below w.heap.size w w1) := Lib.hid ((Below.alloc (Below.refl _ _) (Nat.le_refl _) _).trans (b1.mono (by simp))); have hc := Lib.hid ((cellsAt_new' w #[.int .i64 n.k, .int .i64 n.v, .string n.s] tNd [.int .i64 n.k, .int .i64 n.v, .string n.s] _ rfl rfl).below b1 (by simp)); obtain ⟨hn0, hn1, hn2, -, -, -, hsz1⟩ := cells3 hc.out; have HV1 := Lib.hid (HV.out.grown (grown_of_below HB1.out)); clear b1) | (go_at_call 47; refine (HIJ.out _).mono ?_; rintro e w2 ⟨rfl, b2⟩; have HB2 := Lib.hid (HB1.out.trans (b2.mono HB1.out.size)); have hc2 := Lib.hid (hc.out.below b2 hc.out.lt); obtain ⟨hm0, hm1, hm2, -, -, -, hsz2⟩ := cells3 hc2.out; clear b2) | fail) | fail)
    intro g2 cap w3 ho hg
    go_wp2
    have HE := Lib.hid ((HB1.out.mono HB.out).trans ((Below.alloc (Below.refl B w1) (Nat.le_trans HB.out HB1.out.size) (.cells #[.iface T V] tPart)).trans (below_grown (World.ownsRow.alloc HV1.out _) hg (by have := HB1.out.size; have := HB.out; simp; omega))))
    refine bodyPost_ret (v := .tuple #[.slice (some ⟨g2, 0, none⟩) (st.length + 1) cap, .bool true]) (by simp [results, Try.results48, go_sem]) rfl ?_
    refine ⟨_, _, rfl, HE.out, Or.inl ⟨_, HST.out, rfl, ?_⟩⟩
    unfold OwP
    rw [List.reverse_cons, List.map_append, List.length_cons, List.map_singleton, HET.out, List.map_reverse]
    exact ho
  · have hl0 : isLeafB n = false := by simpa using hl
    have HR : Hid (leafRes n = .nilIface) := Lib.hid (if_neg hl)
    rw [hl0, HR.out] at HLI
    by_cases hj : isJointB n = true
    · rcases st with _ | ⟨b, _ | ⟨a, r⟩⟩
      · have HST : Hid (stepT [] n = none) := Lib.hid (by unfold stepT; rw [if_neg hl])
        rw [hj] at HIJ
        clear hl hj HR
        unfold ndV at HLI HIJ ⊢
        simp only [List.length_nil] at *
        go_enter Try.func48, Try.ntmps48
        go_wp2_with (first | (go_at_call 52; refine (HLI.out _).mono ?_; rintro e w1 ⟨rfl, b1⟩; have HB1 : Hid (Below w.heap.size w w1) := Lib.hid ((Below.alloc (Below.refl _ _) (Nat.le_refl _) _).trans (b1.mono (by simp))); have hc := Lib.hid ((cellsAt_new' w #[.int .i64 n.k, .int .i64 n.v, .string n.s] tNd [.int .i64 n.k, .int .i64 n.v, .string n.s] _ rfl rfl).below b1 (by simp)); obtain ⟨hn0, hn1, hn2, -, -, -, hsz1⟩ := cells3 hc.out; clear b1) | (go_at_call 47; refine (HIJ.out _).mono ?_; rintro e w2 ⟨rfl, b2⟩; have HB2 := Lib.hid (HB1.out.trans (b2.mono HB1.out.size)); have hc2 := Lib.hid (hc.out.below b2 hc.out.lt); obtain ⟨hm0, hm1, hm2, -, -, -, hsz2⟩ := cells3 hc2.out; clear b2) | fail)
        refine bodyPost_ret (v := .tuple #[.slice none 0 0, .bool false]) (by simp [results, Try.results48, go_sem]) rfl ?_
        exact ⟨_, _, rfl, HB2.out.mono HB.out, Or.inr ⟨HST.out, rfl⟩⟩
      · have HST : Hid (stepT [b] n = none) := Lib.hid (by unfold stepT; rw [if_neg hl])
        rw [hj] at HIJ
        clear hl hj HR
        unfold ndV at HLI HIJ ⊢
        simp only [List.length_cons, List.length_nil, Nat.zero_add] at *
        go_enter Try.func48, Try.ntmps48
        go_wp2_with (first | (go_at_call 52; refine (HLI.out _).mono ?_; rintro e w1 ⟨rfl, b1⟩; have HB1 : Hid (Below w.heap.size w w1) := Lib.hid ((Below.alloc (Below.refl _ _) (Nat.le_refl _) _).trans (b1.mono (by simp))); have hc := Lib.hid ((cellsAt_new' w #[.int .i64 n.k, .int .i64 n.v, .string n.s] tNd [.int .i64 n.k, .int .i64 n.v, .string n.s] _ rfl rfl).below b1 (by simp)); obtain ⟨hn0, hn1, hn2, -, -, -, hsz1⟩ := cells3 hc.out; clear b1) | (go_at_call 47; refine (HIJ.out _).mono ?_; rintro e w2 ⟨rfl, b2⟩; have HB2 := Lib.hid (HB1.out.trans (b2.mono HB1.out.size)); have hc2 := Lib.hid (hc.out.below b2 hc.out.lt); obtain ⟨hm0, hm1, hm2, -, -, -, hsz2⟩ := cells3 hc2.out; clear b2) | fail)
        refine bodyPost_ret (v := .tuple #[.slice none 0 0, .bool false]) (by simp [results, Try.results48, go_sem]) rfl ?_
        exact ⟨_, _, rfl, HB2.out.mono HB.out, Or.inr ⟨HST.out, rfl⟩⟩
      · have HST := Lib.hid (stepT_leaf_no hl0 hj a b r)
        rw [hj] at HIJ
        have hfa := HF.out a (by simp)
        have hfb := HF.out b (by simp)
        have HJP := fun w0 => joinParts_any w0 n.k a b hfa hfb
        obtain ⟨Ta, Va, ga, ea, -⟩ := trV_wires a
        obtain ⟨Tb, Vb, gb, eb, -⟩ := trV_wires b
        rw [ea, eb] at HJP
        have HJP2 := Lib.hid HJP
        obtain ⟨g, cap, e2, -⟩ := World.ownsRow.form HV.out (by simp)
        have hpa : ∀ w0 : World, OwP w0 B (.slice (some ⟨g, 0, none⟩) (b :: a :: r).length cap) (b :: a :: r) → w0.cell? ⟨g, r.length, none⟩ = some (.iface Ta Va) ∧ w0.cell? ⟨g, r.length + 1, none⟩ = some (.iface Tb Vb) := fun w0 h => ⟨by rw [← ea]; exact h.cell (by simp [List.reverse_cons]), by rw [← eb]; exact h.cell (by simp [List.reverse_cons])⟩
        have HPA := Lib.hid hpa
        rw [e2] at HV ⊢
        have hrl : ((b :: a :: r).length : Int) = (r.length : Int) + 2 := by simp; omega
        obtain ⟨m, hm⟩ : ∃ m, m = (b :: a :: r).length := ⟨_, rfl⟩
        rw [← hm] at HV HPA hrl hlen ⊢
        have HM := Lib.hid hm
        clear hl hj HR HJP hfa hfb hpa e2 hm HF ea eb
        unfold ndV at HLI HIJ ⊢
        go_enter Try.func48, Try.ntmps48
        go_wp2_with (first | (go_at_call 52; refine (HLI.out _).mono ?_; rintro e w1 ⟨rfl, b1⟩; have HB1 : Hid (Below w.heap.size w w1) := Lib.hid ((Below.alloc (Below.refl _ _) (Nat.le_refl _) _).trans (b1.mono (by simp))); have hc := Lib.hid ((cellsAt_new' w #[.int .i64 n.k, .int .i64 n.v, .string n.s] tNd [.int .i64 n.k, .int .i64 n.v, .string n.s] _ rfl rfl).below b1 (by simp)); obtain ⟨hn0, hn1, hn2, -, -, -, hsz1⟩ := cells3 hc.out; clear b1) | (go_at_call 47; refine (HIJ.out _).mono ?_; rintro e w2 ⟨rfl, b2⟩; have HB2 := Lib.hid (HB1.out.trans (b2.mono HB1.out.size)); have hc2 := Lib.hid (hc.out.below b2 hc.out.lt); obtain ⟨hm0, hm1, hm2, -, -, -, hsz2⟩ := cells3 hc2.out; clear b2) | fail)
        have HV2 := Lib.hid (HV.out.grown (grown_of_below HB2.out))
        obtain ⟨q, hqI, HQ⟩ : ∃ q : Nat, (r.length : Int) + 1 = (q : Int) ∧ Hid (q = r.length + 1) := ⟨r.length + 1, by omega, Lib.hid rfl⟩
        obtain ⟨hpc, hpd⟩ := HPA.out w2 HV2.out
        rw [← HQ.out] at hpd
        have hi1 : (r.length : Int) < (m : Int) := by omega
        have hi2 : (q : Int) < (m : Int) := by omega
        have hi3 : r.length < m := by omega
        have hi4 : q < m := by omega
        have hw : IntKind.i64.wrap ((q : Int)) = (q : Int) := Go.IntWalk.i64_in _ ⟨by omega, by omega⟩
        clear hrl
        have hr0 : (0 : Int) ≤ (r.length : Int) := by omega
        have hcp : (m : Int) ≤ 1000 := by omega
        have hcp2 : r.length ≤ cap := by
          rcases HV.out.2 with ⟨e, _⟩ | ⟨g', cap', cur, e, -, -, hn, -⟩
          · cases e
          · cases e; omega
        have hcpI : (r.length : Int) ≤ (cap : Int) := by omega
        have hgl : g < w2.heap.size := by
          obtain ⟨g', c', e7, -, h7⟩ := World.ownsRow.form HV2.out (by simp)
          have e8 := congrArg Value.ownBlock e7
          simp only [Value.ownBlock, Option.some.injEq] at e8
          rw [e8]
          exact h7
        have HELD : Hid (∀ w' : World, w'.heap[w.heap.size]? = w2.heap[w.heap.size]? ∧ w'.heap[g]? = w2.heap[g]? → w'.cell? ⟨w.heap.size, 0, none⟩ = some (.int .i64 n.k) ∧ w'.cell? ⟨g, r.length, none⟩ = some (.iface Ta Va) ∧ w'.cell? ⟨g, q, none⟩ = some (.iface Tb Vb)) := Lib.hid (fun w' H => ⟨(World.cell?_of_block (w := w2) H.1).trans hm0, (World.cell?_of_block (w := w2) H.2).trans hpc, (World.cell?_of_block (w := w2) H.2).trans hpd⟩)
        have HQ0 : Hid (w2.drew.heap[w.heap.size]? = w2.heap[w.heap.size]? ∧ w2.drew.heap[g]? = w2.heap[g]?) := Lib.hid ⟨rfl, rfl⟩
        clear hm0 hm1 hm2 hn0 hn1 hn2 hpc hpd
        go_region_held3 (fun w' => w'.cell? ⟨w.heap.size, 0, none⟩ = some (.int .i64 n.k) ∧ w'.cell? ⟨g, r.length, none⟩ = some (.iface Ta Va) ∧ w'.cell? ⟨g, q, none⟩ = some (.iface Tb Vb))
          (first | with_reducible exact HELD.out _ HQ0.out | with_reducible exact HELD.out _ HQ3.out | fail)
          (first
            | (go_at_call 53; go_split_ands; refine (HJP2.out w2.drew).mono ?_; rintro e w3 ⟨t, ok, rfl, b3, hjt⟩; obtain ⟨Tt, Vt, gt, et, -⟩ := trV_wires t; rw [et]; have HB3 := Lib.hid (HB2.out.trans ((Below.trans (Below.refl _ _).drew b3).mono HB2.out.size)); have HQ3 : Hid (w3.heap[w.heap.size]? = w2.heap[w.heap.size]? ∧ w3.heap[g]? = w2.heap[g]?) := Lib.hid ⟨(Below.trans (Below.refl _ _).drew b3).block _ hsz2, (Below.trans (Below.refl _ _).drew b3).block _ hgl⟩; have HET := Lib.hid et; have HJT := Lib.hid hjt; have HV3 := Lib.hid (HV2.out.grown (grown_of_below (Below.trans (Below.refl _ _).drew b3))); have HV4 := Lib.hid (show w3.ownsRow B tPart 1 (.slice (some ⟨g, 0, none⟩) r.length cap) r.length (r.reverse.map trV) from OwP.cutN HV3.out); clear b3 hjt et)
            | fail)
        go_wp2_with (at_builtin; refine wpList_pushP rfl _ _ rfl _ B r.length _ (r.reverse.map trV) (.iface Tt Vt) w3.heap.size 1 rfl (World.ownsRow.alloc HV4.out _) rfl (cellV_new _ _ _ _ rfl) rfl (by have := HB3.out.size; have := HB.out; simp; omega) (by omega) ?_)
        intro g2 cap2 w4 ho hg
        go_wp2
        have HE := Lib.hid ((HB3.out.mono HB.out).trans ((Below.alloc (Below.refl B w3) (Nat.le_trans HB.out HB3.out.size) (.cells #[.iface Tt Vt] tPart)).trans (below_grown (World.ownsRow.alloc HV4.out _) hg (by have := HB3.out.size; have := HB.out; simp; omega))))
        refine bodyPost_ret (v := .tuple #[.slice (some ⟨g2, 0, none⟩) (r.length + 1) cap2, .bool ok]) (by simp [results, Try.results48, go_sem]) rfl ?_
        refine ⟨_, ok, rfl, HE.out, ?_⟩
        cases ok with
        | false => exact Or.inr ⟨by rw [HST.out, HJT.out]; rfl, rfl⟩
        | true =>
          refine Or.inl ⟨t :: r, by rw [HST.out, HJT.out]; rfl, rfl, ?_⟩
          unfold OwP
          rw [List.reverse_cons, List.map_append, List.length_cons, List.map_singleton, HET.out, List.map_reverse]
          exact ho
    · have hj0 : isJointB n = false := by simpa using hj
      have HST : Hid (stepT st n = none) := Lib.hid (by
        unfold stepT
        rw [if_neg hl]
        split
        · rw [if_neg hj]
        · rfl)
      rw [hj0] at HIJ
      clear hl hj HR
      unfold ndV at HLI HIJ ⊢
      go_enter Try.func48, Try.ntmps48
      go_wp2_with (first | (go_at_call 52; refine (HLI.out _).mono ?_; rintro e w1 ⟨rfl, b1⟩; have HB1 : Hid (Below w.heap.size w w1) := Lib.hid ((Below.alloc (Below.refl _ _) (Nat.le_refl _) _).trans (b1.mono (by simp))); have hc := Lib.hid ((cellsAt_new' w #[.int .i64 n.k, .int .i64 n.v, .string n.s] tNd [.int .i64 n.k, .int .i64 n.v, .string n.s] _ rfl rfl).below b1 (by simp)); obtain ⟨hn0, hn1, hn2, -, -, -, hsz1⟩ := cells3 hc.out; clear b1) | (go_at_call 47; refine (HIJ.out _).mono ?_; rintro e w2 ⟨rfl, b2⟩; have HB2 := Lib.hid (HB1.out.trans (b2.mono HB1.out.size)); have hc2 := Lib.hid (hc.out.below b2 hc.out.lt); obtain ⟨hm0, hm1, hm2, -, -, -, hsz2⟩ := cells3 hc2.out; clear b2) | fail)
      refine bodyPost_ret (v := .tuple #[.slice none 0 0, .bool false]) (by simp [results, Try.results48, go_sem]) rfl ?_
      exact ⟨_, _, rfl, HB2.out.mono HB.out, Or.inr ⟨HST.out, rfl⟩⟩
end Go.Proofs.Ytdgimjmdgppboaa

/- slices.Clone, slices.Clip, slices.Equal at ints; copies of rows. -/
import Derived.Test.YtahlicbjbbpihaaDoorMxK
import Derived.OwnWalk
import Derived.Deep.AppendLies
import Derived.Lib.SliceRun
import Derived.Lib.Walk
namespace Go.Proofs.YtahlicbjbbpihaaDoor
set_option maxRecDepth 100000
open Go Go.RowKit Go.Deep

theorem owR_of_owns {w : World} {S : Nat → Prop} {v : Value} {xs : List Int} {base : Nat} (h : w.ownsRow base tI 1 v xs.length (icells xs)) (hs : ∀ k, v.ownBlock = some k → S k) : OwR w tI S v xs := by
  rcases h.2 with ⟨rfl, h0⟩ | ⟨g, cap, cur, rfl, _, h4, h5, h6, h7, h8⟩
  · have : xs = [] := List.eq_nil_of_length_eq_zero h0
    subst this
    exact OwR.nil _ _
  · refine ⟨_, cap, rfl, Or.inr ⟨g, rfl, hs g rfl, cur, h4, by rw [icells_len]; omega, fun j hj => ?_⟩⟩
    have e : (icells xs)[j]? = (cur.toList.take (xs.length * 1))[j]? := by rw [h8]
    rw [icells_len] at hj
    rw [e, List.getElem?_take_of_lt (by omega)]
    simp
set_option maxHeartbeats 400000 in
theorem clone_any (w : World) (B : Nat) (v : Value) (xs : List Int) (hv : RdS w (fun b => b < B) v xs) (hB : B ≤ w.heap.size) (hl : xs.length ≤ 1000000) :
    Calls Tryd.prog 140 #[v] w (MadeR w xs) := by
  obtain ⟨i0, hi0, hz0, hz1, hz2⟩ := info_parts infoI
  obtain ⟨A, c, rfl, hv⟩ := hv
  have qn : ∀ (w : World) (a : Option Addr) (n c n' c' : Nat), (binOp .eql 33 (.slice a n c) (.slice none n' c')).run Tryd.prog w = .ok (.bool a.isNone) w := fun w a n c n' c' => Lib.run_eql_slice_nil w _ _ a n c n' c' Tryd.underlying33
  have HV := Lib.hid hv
  have HB := Lib.hid hB
  cases A with
  | none =>
    have h0 : xs = [] := by
      cases xs with
      | nil => rfl
      | cons x xs => obtain ⟨b, o, e, _⟩ := hv 0 (by simp); cases e
    subst h0
    clear hv hB
    go_enter Tryd.func140, Tryd.ntmps140
    go_wp2
    go_ret
    exact ⟨_, rfl, Below.refl _ _, OwR.nil _ _⟩
  | some a =>
    clear hv hB
    go_enter Tryd.func140, Tryd.ntmps140
    go_wp2_with (at_builtin; refine wpList_append_own _ rfl (.tmp 5) (.tmp 6) 33 rfl w.heap.size 3 i0 (.int .i64 0) 1 8 Tryd.underlying33 hi0 hz0 hz1 hz2 rfl (by decide) (.slice (some ⟨w.heap.size, 0, none⟩) 0 0) 0 [] rfl (World.ownsRow_made w #[] 0 (Nat.le_refl _) (Nat.zero_le _) rfl) a xs.length c (icells xs) rfl (by rw [icells_len]; omega) ?c2 (by intro u hu; unfold icells at hu; obtain ⟨x, _, rfl⟩ := List.mem_map.1 hu; rfl) (by unfold maxLen; omega) (by omega) (by simp) ?_)
    case c2 =>
      intro j u hj
      have hjn : j < xs.length := by have := (List.getElem?_eq_some_iff.1 hj).1; rwa [icells_len] at this
      obtain ⟨b, o, e, hb, hc⟩ := HV.out j hjn
      injection e with e
      subst e
      rw [Addr.add_lit]
      refine Lib.cell?_alloc_some _ ?_
      rw [hc]
      rw [icells_get hjn] at hj
      exact hj
    intro v' w1 hown hgrow hnil
    have HO := Lib.hid hown
    have HBN := Lib.hid (((Below.refl w.heap.size w).alloc (Nat.le_refl _) (.cells #[] 3)).grown hgrow (by simp) (by intro k hk; simp [Value.ownBlock] at hk; omega))
    have HBL := Lib.hid (show ∀ k, v'.ownBlock = some k → w.heap.size ≤ k from fun k hk => (hown.lt k hk).1)
    clear hown hgrow hnil
    go_wp2
    go_ret
    exact ⟨v', rfl, HBN.out, owR_of_owns (by simpa using HO.out) HBL.out⟩
set_option maxHeartbeats 400000 in
theorem l1Own_any (w : World) (B : Nat) (v : Value) (xs : List Int) (hv : RdS w (fun b => b < B) v xs) (hB : B ≤ w.heap.size) (hl : xs.length ≤ 1000000) :
    Calls Tryd.prog 105 #[v] w (MadeR w xs) := by
  obtain ⟨i0, hi0, hz0, hz1, hz2⟩ := info_parts infoI
  obtain ⟨A, c, rfl, hv⟩ := hv
  have qn : ∀ (w : World) (a : Option Addr) (n c n' c' : Nat), (binOp .eql 33 (.slice a n c) (.slice none n' c')).run Tryd.prog w = .ok (.bool a.isNone) w := fun w a n c n' c' => Lib.run_eql_slice_nil w _ _ a n c n' c' Tryd.underlying33
  have HV := Lib.hid hv
  have HB := Lib.hid hB
  cases A with
  | none =>
    have h0 : xs = [] := by
      cases xs with
      | nil => rfl
      | cons x xs => obtain ⟨b, o, e, _⟩ := hv 0 (by simp); cases e
    subst h0
    clear hv hB
    go_enter Tryd.func105, Tryd.ntmps105
    go_wp2
    go_ret
    exact ⟨_, rfl, (Below.refl _ _).alloc (Nat.le_refl _) _, OwR.nil _ _⟩
  | some a =>
    clear hv hB
    go_enter Tryd.func105, Tryd.ntmps105
    go_wp2_with (at_builtin; refine wpList_append_own _ rfl (.tmp 3) (.tmp 4) 33 rfl w.heap.size 3 i0 (.int .i64 0) 1 8 Tryd.underlying33 hi0 hz0 hz1 hz2 rfl (by decide) (.slice (some ⟨w.heap.size, 0, none⟩) 0 0) 0 [] rfl (World.ownsRow_made w #[] 0 (Nat.le_refl _) (Nat.zero_le _) rfl) a xs.length c (icells xs) rfl (by rw [icells_len]; omega) ?c2 (by intro u hu; unfold icells at hu; obtain ⟨x, _, rfl⟩ := List.mem_map.1 hu; rfl) (by unfold maxLen; omega) (by omega) (by simp) ?_)
    case c2 =>
      intro j u hj
      have hjn : j < xs.length := by have := (List.getElem?_eq_some_iff.1 hj).1; rwa [icells_len] at this
      obtain ⟨b, o, e, hb, hc⟩ := HV.out j hjn
      injection e with e
      subst e
      rw [Addr.add_lit]
      refine Lib.cell?_alloc_some _ ?_
      rw [hc]
      rw [icells_get hjn] at hj
      exact hj
    intro v' w1 hown hgrow hnil
    have HO := Lib.hid hown
    have HBN := Lib.hid (((Below.refl w.heap.size w).alloc (Nat.le_refl _) (.cells #[] 3)).grown hgrow (by simp) (by intro k hk; simp [Value.ownBlock] at hk; omega))
    have HBL := Lib.hid (show ∀ k, v'.ownBlock = some k → w.heap.size ≤ k from fun k hk => (hown.lt k hk).1)
    clear hown hgrow hnil
    go_wp2
    go_ret
    exact ⟨v', rfl, HBN.out, owR_of_owns (by simpa using HO.out) HBL.out⟩
def copyS (rows : List (List Int)) (k : Nat) : List (List Int) := upd (fun j _ => rows.getD j []) k (List.replicate rows.length [])
theorem copyS_end {rows : List (List Int)} {k : Nat} (h : rows.length ≤ k) : copyS rows k = rows := by
  unfold copyS
  rw [upd_all _ (by rw [List.length_replicate]; exact h)]
  exact ext_getD [] (by simp) fun i hi => by
    rw [List.length_mapIdx] at hi
    rw [mapIdx_getD _ _ _ hi []]
/-- A call made a grid of its own, with a block even where it is empty, and room for all its rows. -/
def MadeGc (w : World) (rows : List (List Int)) (e : Ending) (w' : World) : Prop := ∃ g c, e = .returned (.slice (some ⟨g, 0, none⟩) rows.length c) ∧ (rows.length ≤ c ∧ c ≤ 1000000) ∧ Below w.heap.size w w' ∧ OwG w' tI tR (fun b => w.heap.size ≤ b) (.slice (some ⟨g, 0, none⟩) rows.length c) rows
set_option maxHeartbeats 400000 in
theorem copyRows_cap (w : World) (B : Nat) (v : Value) (rows : List (List Int)) (hv : RdG w B v rows) (hB : B ≤ w.heap.size) (hl : rows.length ≤ 1000000) (hr : ∀ r, r < rows.length → (rows.getD r []).length ≤ 1000000) :
    Calls Tryd.prog 138 #[v] w (MadeGc w rows) := by
  obtain ⟨A, c, rfl⟩ := hv.len
  have hmk := make_rows rows.length (by omega)
  have HV := Lib.hid hv
  have HB := Lib.hid hB
  have HR := Lib.hid hr
  clear hv hB hr
  go_enter Tryd.func138, Tryd.ntmps138
  go_wp2
  go_loopw [11, 4, 5] (fun i _ _ wr => ∃ (k : Nat) (vs : List Value), k ≤ rows.length ∧ i = .int .i64 k ∧ Hid (Below w.heap.size w wr) ∧ Hid (w.heap.size < wr.heap.size) ∧ Hid (GridAt wr tI tR (fun b => w.heap.size ≤ b) w.heap.size vs (copyS rows k))) (fun i _ _ _ => rows.length - (intOf i).toNat)
  case atStart => exact ⟨0, _, Nat.zero_le _, rfl, Lib.hid ((Below.refl _ _).alloc (Nat.le_refl _) _), Lib.hid (by rw [nblk_alloc]; omega), Lib.hid (by unfold copyS; rw [upd_zero]; exact made_grid w _ _ (Nat.le_refl _))⟩
  case round =>
    obtain ⟨k, vs, hk, rfl, hb, HS, HC⟩ := hrel
    by_cases hlt : k < rows.length
    · obtain ⟨b, o, A3, c3, rfl, hbB, hcell, hrow⟩ := (HV.out.below hb.out HB.out).at hlt
      have HROW := Lib.hid hrow
      have HBB := Lib.hid (Nat.le_trans HB.out hb.out.size)
      have HLN := Lib.hid (show (copyS rows k).length = rows.length by unfold copyS; rw [upd_len, List.length_replicate])
      have HRL := Lib.hid (HR.out k hlt)
      clear hrow hbB
      generalize hx : rows.getD k [] = xk at hcell HROW HRL
      have HX := Lib.hid hx
      clear hx
      go_wp2_with fail
      refine (clone_any _ B _ _ HROW.out HBB.out HRL.out).mono ?_
      rintro e w2 ⟨v2, rfl, b2, o2⟩
      have HO2 := Lib.hid o2
      have HB2 := Lib.hid b2
      have hb3 := Lib.hid (hb.out.trans (b2.mono hb.out.size))
      have HG3 := Lib.hid ((HC.out.mono (T := fun b => w.heap.size ≤ b ∧ b < wr.heap.size) (fun q h1 h2 => ⟨h1, h2⟩)).blocks (w' := w2) (fun k hk _ => b2.block k hk.2))
      obtain ⟨A2, c2, rfl⟩ := o2.len
      clear o2 b2
      have hc := HG3.out.cell (by rw [HLN.out]; exact hlt)
      have hf := HG3.out.outer.frozen k
      have HP := Lib.hid (HG3.out.put (by rw [HLN.out]; exact hlt) HO2.out (fun q h1 h2 => by omega))
      have HS3 := Lib.hid (Nat.lt_of_lt_of_le HS.out HB2.out.size)
      generalize vs.getD k Value.nilFunc = u2 at hc
      go_wp2
      go_roundw
      case rel => exact ⟨k + 1, _, by omega, by go_num, Lib.hid (hb3.out.setCell (Nat.le_refl _) _), Lib.hid (by rw [nblk_setCell]; exact HS3.out), Lib.hid (by
        have := HP.out
        rw [← HX.out] at this
        unfold copyS at this ⊢
        rw [upd_step (fun j _ => rows.getD j []) (by rw [List.length_replicate]; exact hlt) []] at this
        rw [HX.out] at this
        exact this.mono (T := fun b => w.heap.size ≤ b) (fun q h _ => by have := HB2.out.size; have := hb.out.size; omega))⟩
      case measure => simp [intOf]; omega
    · go_wp2
      go_ret
      refine ⟨_, _, rfl, ⟨Nat.le_refl _, hl⟩, hb.out, _, _, rfl, Or.inr ⟨_, vs, rfl, ?_⟩⟩
      have := HC.out
      rw [copyS_end (by omega)] at this
      exact this
theorem copyRows_any (w : World) (B : Nat) (v : Value) (rows : List (List Int)) (hv : RdG w B v rows) (hB : B ≤ w.heap.size) (hl : rows.length ≤ 1000000) (hr : ∀ r, r < rows.length → (rows.getD r []).length ≤ 1000000) :
    Calls Tryd.prog 138 #[v] w (MadeG w rows) :=
  (copyRows_cap w B v rows hv hB hl hr).mono fun _e _w' ⟨_g, _c, h1, _, h2, h3⟩ => ⟨_, h1, h2, h3⟩
/-- Room beyond the length struck. -/
theorem clip_any (w : World) (g n c : Nat) (h : n ≤ c) (_hc : c ≤ 1000000) : Calls Tryd.prog 137 #[.slice (some ⟨g, 0, none⟩) n c] w fun e w' => e = .returned (.slice (some ⟨g, 0, none⟩) n n) ∧ w = w' := by
  go_enter Tryd.func137, Tryd.ntmps137
  go_wp2
  go_ret
  exact ⟨rfl, rfl⟩
end Go.Proofs.YtahlicbjbbpihaaDoor

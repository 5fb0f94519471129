/- What the laws' helpers do with a mark of a string and with a slice of nodes: they mark it, and say whether it bears the marks still. -/
import Derived.Test.YtdgimjmdgppboaaLeafN
import Derived.Laws.BytesArg
namespace Go.Proofs.Ytdgimjmdgppboaa
set_option maxRecDepth 100000
open Go Go.RowKit Go.Deep

/-- The digits of k ahead of out. -/
def digs (k : Nat) (out : ByteArray) : ByteArray :=
  if k = 0 then out else digs (k / 10) (strOfNums [48 + (k : Int) % 10] ++ out)
termination_by k
decreasing_by omega
def mtx (k : Int) : ByteArray := if k ≤ 0 then ByteArray.mk #[109, 48] else ByteArray.mk #[109] ++ digs k.toNat ByteArray.empty
theorem digs_size (k : Nat) (out : ByteArray) : (digs k out).size ≤ out.size + k := by
  rw [digs]
  split
  · omega
  · have := digs_size (k / 10) (strOfNums [48 + (k : Int) % 10] ++ out)
    have h1 : (strOfNums [48 + (k : Int) % 10]).size = 1 := rfl
    rw [ByteArray.size_append, h1] at this
    omega
termination_by k
decreasing_by omega
theorem mtx_size (k : Int) (hk : k ≤ 9223372036854775807) : (mtx k).size ≤ 9223372036854775807 := by
  unfold mtx
  split
  · exact Nat.le_trans (show (ByteArray.mk #[109, 48]).size ≤ 2 from Nat.le_refl 2) (by omega)
  · have h1 : (ByteArray.mk #[109]).size = 1 := rfl
    have h2 : (strOfNums [48 + (k.toNat : Int) % 10]).size = 1 := rfl
    have h3 : ByteArray.empty.size = 0 := rfl
    rw [ByteArray.size_append, h1, digs, if_neg (by omega)]
    have := digs_size (k.toNat / 10) (strOfNums [48 + (k.toNat : Int) % 10] ++ ByteArray.empty)
    rw [ByteArray.size_append, h2, h3] at this
    omega

set_option maxRecDepth 100000 in
set_option maxHeartbeats 800000 in
theorem markText_any (w : World) (k : Int) (hk : 0 ≤ k) (hk2 : k ≤ 9223372036854775806) : Calls Try.prog 45 #[.int .i64 k] w fun e w' => e = .returned (.string (mtx k)) ∧ Below w.heap.size w w' := by
  by_cases h0 : k ≤ 0
  · have HM := Lib.hid (show mtx k = ByteArray.mk #[109, 48] by unfold mtx; rw [if_pos h0])
    rw [HM.out]
    go_enter Try.func45, Try.ntmps45
    go_wp2
    go_ret
    exact ⟨rfl, Below.refl _ _⟩
  · obtain ⟨n, rfl⟩ : ∃ n : Nat, k = (n : Int) := ⟨k.toNat, by omega⟩
    have HM := Lib.hid (show mtx (n : Int) = ByteArray.mk #[109] ++ digs n ByteArray.empty by unfold mtx; rw [if_neg h0]; simp)
    rw [HM.out]
    go_enter Try.func45, Try.ntmps45
    go_wp2
    go_loopw [0, 3] (fun tk tx wr => ∃ (q : Nat) (out : ByteArray), tk = .int .i64 q ∧ tx = .string out ∧ q ≤ 9223372036854775807 ∧ Hid (out.size + q ≤ n) ∧ Hid (digs q out = digs n ByteArray.empty) ∧ Hid (Below w.heap.size w wr)) (fun tk _ _ => (intOf tk).toNat)
    case atStart => exact ⟨n, ByteArray.empty, rfl, rfl, by omega, Lib.hid (by rw [show ByteArray.empty.size = 0 from rfl]; omega), Lib.hid rfl, Lib.hid (Below.refl _ _)⟩
    case round =>
      obtain ⟨q, out, rfl, rfl, hq, HZ, HD, HW⟩ := hrel
      by_cases h1 : q = 0
      · have hd : digs q out = out := by rw [digs, if_pos h1]
        have HE := Lib.hid (hd.symm.trans HD.out)
        have hqI : ¬ (0 : Int) < (q : Int) := by omega
        have hz1 : ¬ 9223372036854775807 < (ByteArray.mk #[109]).size + out.size := by have := HZ.out; rw [show (ByteArray.mk #[109]).size = 1 from rfl]; omega
        clear hd
        go_wp2
        refine bodyPost_ret (v := .string (ByteArray.mk #[109] ++ out)) (by simp [results, Try.results45, go_sem]) rfl ?_
        exact ⟨by rw [HE.out], HW.out⟩
      · have hqI : (0 : Int) < (q : Int) := by omega
        have hd : digs q out = digs (q / 10) (strOfNums [48 + (q : Int) % 10] ++ out) := by rw [digs, if_neg h1]
        have HE := Lib.hid (hd.symm.trans HD.out)
        have hcv := run_convert_bytes_arg (P := Try.prog) (wr.alloc (.cells #[.int .u8 (48 + (q : Int) % 10)] 5)) 86 5 Try.underlying86 Try.underlying5 wr.heap.size 0 1 1 [48 + (q : Int) % 10] rfl (fun i hi => by
          have e : i = 0 := by omega
          subst e
          simp) 9 Try.underlying9
        have hz1 : ¬ 9223372036854775807 < (strOfNums [48 + (q : Int) % 10]).size + out.size := by have := HZ.out; rw [show (strOfNums [48 + (q : Int) % 10]).size = 1 from rfl]; omega
        clear hd
        go_wp2
        go_roundw
        case rel => exact ⟨q / 10, _, by go_num, rfl, by omega, Lib.hid (by have := HZ.out; rw [ByteArray.size_append, show (strOfNums [48 + (q : Int) % 10]).size = 1 from rfl]; omega), HE, Lib.hid (HW.out.alloc HW.out.size _)⟩
        case measure => simp [intOf]; omega
/-- The nodes that bear the marks from k on. -/
def mkNd (k : Int) (i : Nat) : Nd := ⟨k + (i : Int) * 3, k + (i : Int) * 3 + 1, mtx (k + (i : Int) * 3 + 2)⟩
def mkN (k : Int) (x : List Nd) : List Nd := (List.range x.length).map (mkNd k)
theorem mkN_len (k : Int) (x : List Nd) : (mkN k x).length = x.length := by simp [mkN]
theorem mkN_at (k : Int) (x : List Nd) {i : Nat} (h : i < x.length) : (mkN k x).getD i nd0 = mkNd k i := by simp [mkN, List.getD_eq_getElem?_getD, h]
theorem mkN_step (k : Int) (x : List Nd) {i : Nat} (h : i < x.length) : ((mkN k x).take i ++ x.drop i).set i (mkNd k i) = (mkN k x).take (i + 1) ++ x.drop (i + 1) := by
  refine List.ext_getElem? fun j => ?_
  have hl : (mkN k x).length = x.length := mkN_len k x
  have hi : (mkN k x)[i]? = some (mkNd k i) := by simp [mkN, h]
  rw [List.getElem?_set]
  by_cases h1 : i = j
  · subst h1
    rw [if_pos rfl, if_pos (by simp [hl]; omega), List.getElem?_append_left (by simp [hl]; omega), List.getElem?_take_of_lt (by omega), hi]
  · rw [if_neg h1]
    by_cases h2 : j < i
    · rw [List.getElem?_append_left (by simp [hl]; omega), List.getElem?_append_left (by simp [hl]; omega), List.getElem?_take_of_lt h2, List.getElem?_take_of_lt (by omega)]
    · rw [List.getElem?_append_right (by simp [hl]; omega), List.getElem?_append_right (by simp [hl]; omega), List.getElem?_drop, List.getElem?_drop]
      congr 1
      simp [hl]
      omega
def MarkedN (w : World) (S : Nat → Prop) (v : Value) (k : Int) (x : List Nd) (e : Ending) (w' : World) : Prop := e = .returned (.int .i64 (k + (cntN x : Nat))) ∧ Touch S w w' ∧ OwnN w' S v (mkN k x)
theorem ownN_marks {w : World} {S : Nat → Prop} {A : Option Addr} {c : Nat} {x : List Nd} (k : Int) (hc : x.length ≤ c) (hx : cntN x ≤ 1099511627776) (hl : k + (cntN x : Nat) ≤ 9223372036854775807)
    (h : x = [] ∨ ∃ b, A = some ⟨b, 0, none⟩ ∧ S b ∧ CellsAt w b tNd (ncells (mkN k x))) : OwnN w S (.slice A x.length c) (mkN k x) := by
  refine ⟨⟨A, c, by rw [mkN_len], by rw [mkN_len]; exact hc, ?_⟩, by unfold cntN at *; rw [mkN_len]; exact hx, fun j hj => ?_⟩
  · rcases h with h | h
    · left
      subst h
      rfl
    · exact Or.inr h
  · rw [mkN_len] at hj
    rw [mkN_at k x hj]
    exact mtx_size _ (by unfold cntN at hl; omega)

set_option maxRecDepth 100000 in
set_option maxHeartbeats 1600000 in
theorem markedN_any (w : World) (S : Nat → Prop) (v : Value) (x : List Nd) (k : Int) (hv : OwnN w S v x) (h0 : 0 ≤ k) (hl : k + (cntN x : Nat) ≤ 9223372036854775807) :
    Calls Try.prog 30 #[v, .int .i64 k] w (MarkedN w S v k x) := by
  obtain ⟨⟨A, c, rfl, hc, hx⟩, hcn, -⟩ := hv
  have HFIN : Hid (∀ w', (x = [] ∨ ∃ b, A = some ⟨b, 0, none⟩ ∧ S b ∧ CellsAt w' b tNd (ncells (mkN k x))) → OwnN w' S (.slice A x.length c) (mkN k x)) := Lib.hid (fun w' h => ownN_marks k hc hcn hl h)
  rcases hx with rfl | ⟨b, rfl, hS, hB⟩
  · go_enter Try.func30, Try.ntmps30
    go_wp2
    refine wp_loop_rounds 1 ?_
    rw [rounds_succ]
    go_wp2
    go_ret
    exact ⟨by simp [cntN], Touch.refl _ _, HFIN.out _ (by simp)⟩
  · have HC : Hid (CellsAt w b tNd (ncells x)) := Lib.hid hB
    have HS := Lib.hid hS
    have HL : Hid (cntN x = x.length * 3) := Lib.hid rfl
    have HCN := Lib.hid hcn
    have hl2 : k + (x.length : Int) * 3 ≤ 9223372036854775807 := by have := HL.out; omega
    have hlen : x.length ≤ 1099511627776 := by have := HL.out; omega
    clear hB hS hcn hl
    go_enter Try.func30, Try.ntmps30
    go_wp2
    go_loopw [1, 5] (fun tk ti wr => ∃ i : Nat, i ≤ x.length ∧ ti = .int .i64 i ∧ tk = .int .i64 (k + (i : Int) * 3) ∧ Hid (Touch S w wr) ∧ Hid (CellsAt wr b tNd (ncells ((mkN k x).take i ++ x.drop i)))) (fun _ ti _ => x.length - (intOf ti).toNat)
    case atStart => exact ⟨0, Nat.zero_le _, rfl, by go_num, Lib.hid (Touch.refl _ _), Lib.hid (by simpa using HC.out)⟩
    case round =>
      obtain ⟨i, hi, rfl, rfl, HT, HO⟩ := hrel
      by_cases hlt : i < x.length
      · have hll : ((mkN k x).take i ++ x.drop i).length = x.length := by rw [List.length_append, List.length_take, List.length_drop, mkN_len]; omega
        have HNS := Lib.hid (ncells_set (ns := (mkN k x).take i ++ x.drop i) (i := i) (x := mkNd k i) (by omega))
        rw [mkN_step k x hlt] at HNS
        have hlc : i * 3 + 3 ≤ (ncells ((mkN k x).take i ++ x.drop i)).length := by rw [ncells_len]; omega
        clear hll
        generalize (mkN k x).take i ++ x.drop i = ys at HO HNS hlc
        have hxI : (i : Int) < (x.length : Int) := by omega
        have hos := HO.out.lt
        obtain ⟨m, hm⟩ : ∃ m : Int, k + (i : Int) * 3 = m := ⟨_, rfl⟩
        have hw1 : IntKind.i64.wrap (m + 1) = m + 1 := Go.IntWalk.i64_in _ ⟨by omega, by omega⟩
        have hw2 : IntKind.i64.wrap (m + 1 + 1) = m + 1 + 1 := Go.IntWalk.i64_in _ ⟨by omega, by omega⟩
        have hw3 : IntKind.i64.wrap (m + 1 + 1 + 1) = m + 1 + 1 + 1 := Go.IntWalk.i64_in _ ⟨by omega, by omega⟩
        have hmk : 0 ≤ m ∧ m + 3 ≤ 9223372036854775807 := ⟨by omega, by omega⟩
        obtain ⟨hm0, hm3⟩ := hmk
        have HM := Lib.hid hm
        have HND : Hid (mkNd k i = ⟨m, m + 1, mtx (m + 1 + 1)⟩) := Lib.hid (by unfold mkNd; rw [hm, show m + 1 + 1 = m + 2 by omega])
        rw [HND.out] at HNS
        rw [hm]
        clear hm
        obtain ⟨u0, hu0⟩ : ∃ u, wr.cell? ⟨b, i * 3, none⟩ = some u := ⟨_, (HO.out.cell (i := i * 3) (by omega)).trans (List.getElem?_eq_getElem (by omega))⟩
        obtain ⟨u1, hu1⟩ : ∃ u, wr.cell? ⟨b, i * 3 + 1, none⟩ = some u := ⟨_, (HO.out.cell (i := i * 3 + 1) (by omega)).trans (List.getElem?_eq_getElem (by omega))⟩
        have hf := HO.out.frozen
        have HO1 := Lib.hid ((HO.out.set (i * 3) (.int .i64 m)).set (i * 3 + 1) (.int .i64 (m + 1)))
        have HT1 := Lib.hid ((HT.out.setCell (p := ⟨b, i * 3, none⟩) (Or.inl HS.out) (.int .i64 m)).setCell (p := ⟨b, i * 3 + 1, none⟩) (Or.inl HS.out) (.int .i64 (m + 1)))
        have hlc1 : ((((ncells ys).set (i * 3) (.int .i64 m)).set (i * 3 + 1) (.int .i64 (m + 1))).length = (ncells ys).length) := by simp
        have hm2a : 0 ≤ m + 1 + 1 := by omega
        have hm2b : m + 1 + 1 ≤ 9223372036854775806 := by omega
        go_wp2_with fail
        refine (markText_any _ (m + 1 + 1) hm2a hm2b).mono ?_
        rintro e w2 ⟨rfl, b2⟩
        have HO2 := Lib.hid (HO1.out.below b2 HO1.out.lt)
        have HT2 := Lib.hid (HT1.out.trans (Touch.of_below b2 (fun q h1 h2 => absurd h2 (by omega))))
        obtain ⟨u2, hu2⟩ : ∃ u, w2.cell? ⟨b, i * 3 + 2, none⟩ = some u := ⟨_, (HO2.out.cell (i := i * 3 + 2) (by omega)).trans (List.getElem?_eq_getElem (by omega))⟩
        have hf2 := HO2.out.frozen
        clear b2 hu0 hu1 hf
        go_wp2
        go_roundw
        case rel => exact ⟨i + 1, by omega, by go_num, by have := HM.out; go_num, Lib.hid (HT2.out.setCell (p := ⟨b, i * 3 + 2, none⟩) (Or.inl HS.out) _), Lib.hid (by rw [← HNS.out]; exact HO2.out.set (i * 3 + 2) _)⟩
        case measure => simp [intOf]; omega
      · have hin : i = x.length := by omega
        have hxI : ¬ (i : Int) < (x.length : Int) := by omega
        have HF := Lib.hid (show (mkN k x).take i ++ x.drop i = mkN k x by rw [hin, List.take_of_length_le (by rw [mkN_len]; omega), List.drop_length, List.append_nil])
        have HI := Lib.hid (show k + (i : Int) * 3 = k + (cntN x : Nat) by rw [hin, HL.out]; omega)
        rw [HF.out] at HO
        clear hin
        go_wp2
        go_ret
        exact ⟨congrArg (fun z : Int => Ending.returned (.int .i64 z)) HI.out, HT.out, HFIN.out _ (Or.inr ⟨b, rfl, HS.out, HO.out⟩)⟩
set_option maxRecDepth 100000 in
set_option maxHeartbeats 3200000 in
theorem heldN_any (w : World) (B : Nat) (v : Value) (x : List Nd) (k : Int) (hv : LfN w B v (mkN k x)) (h0 : 0 ≤ k) (hl : k + (cntN x : Nat) ≤ 9223372036854775807) :
    Calls Try.prog 36 #[v, .int .i64 k] w (Found w k (cntN x)) := by
  obtain ⟨A, c, rfl⟩ := hv.len
  have HV := Lib.hid hv.1.all
  have hlen0 := hv.2.1
  rw [mkN_len] at hlen0
  have HL : Hid (cntN x = x.length * 3) := Lib.hid rfl
  have hl2 : k + (x.length : Int) * 3 ≤ 9223372036854775807 := by have := HL.out; omega
  rw [mkN_len]
  rw [mkN_len] at HV
  clear hv hl
  go_enter Try.func36, Try.ntmps36
  go_wp2
  go_loopw [1, 5] (fun tk ti wr => ∃ i : Nat, i ≤ x.length ∧ ti = .int .i64 i ∧ tk = .int .i64 (k + (i : Int) * 3) ∧ Hid (Below w.heap.size w wr)) (fun _ ti _ => x.length - (intOf ti).toNat)
  case atStart => exact ⟨0, Nat.zero_le _, rfl, by go_num, Lib.hid (Below.refl _ _)⟩
  case round =>
    obtain ⟨i, hi, rfl, rfl, HB2⟩ := hrel
    by_cases hlt : i < x.length
    · obtain ⟨b, o, rfl, hb, hc0, hc1, hc2⟩ := (HV.out.below HB2.out (Nat.le_refl _)).at (k := i) (by rw [mkN_len]; exact hlt)
      rw [mkN_at k x hlt] at hc0 hc1 hc2
      have hxI : (i : Int) < (x.length : Int) := by omega
      have i0 : (0 : Int) ≤ (i : Int) := by omega
      have hs2 : w.heap.size ≤ wr.heap.size := HB2.out.size
      obtain ⟨m, hm⟩ : ∃ m : Int, k + (i : Int) * 3 = m := ⟨_, rfl⟩
      have hw1 : IntKind.i64.wrap (m + 1) = m + 1 := Go.IntWalk.i64_in _ ⟨by omega, by omega⟩
      have hw2 : IntKind.i64.wrap (m + 1 + 1) = m + 1 + 1 := Go.IntWalk.i64_in _ ⟨by omega, by omega⟩
      have hw3 : IntKind.i64.wrap (m + 1 + 1 + 1) = m + 1 + 1 + 1 := Go.IntWalk.i64_in _ ⟨by omega, by omega⟩
      have hm2a : 0 ≤ m + 1 + 1 := by omega
      have hm2b : m + 1 + 1 ≤ 9223372036854775806 := by omega
      have hnd : mkNd k i = ⟨m, m + 1, mtx (m + 1 + 1)⟩ := by unfold mkNd; rw [hm, show m + 1 + 1 = m + 2 by omega]
      rw [hnd] at hc0 hc1 hc2
      have HM := Lib.hid hm
      rw [hm]
      clear hm hnd
      have HTX := Lib.hid (fun w0 => markText_any w0 (m + 1 + 1) hm2a hm2b)
      obtain ⟨tx, HX⟩ : ∃ tx, Hid (mtx (m + 1 + 1) = tx) := ⟨_, Lib.hid rfl⟩
      rw [HX.out] at hc2 HTX
      have hbm0 : (m != m) = false := by simp
      have hbm1 : ((m + 1) != (m + 1)) = false := by simp
      have HELD : Hid (∀ w' : World, Below wr.heap.size wr w' → w'.cell? ⟨b, o + i * 3 + 2, none⟩ = some (.string tx)) :=
        Lib.hid (fun w' H => (H.cell (p := ⟨b, o + i * 3 + 2, none⟩) (by dsimp only; omega)).trans hc2)
      have HD0 := Lib.hid (HELD.out wr.drew (Below.refl _ _).drew)
      clear hc2
      go_wp2
      go_region_held3 (fun w' => w'.cell? ⟨b, o + i * 3 + 2, none⟩ = some (.string tx))
        (first | with_reducible exact HD0.out | with_reducible exact HD1.out | fail)
        (first
          | (go_at_call 45; go_split_ands; refine (HTX.out wr.drew).mono ?_; rintro e w2 ⟨rfl, b2⟩; have HB3 : Hid (Below wr.heap.size wr w2) := Lib.hid ((Below.refl _ _).drew.trans b2); have HD1 := Lib.hid (HELD.out w2 HB3.out); clear b2)
          | fail)
      have HB4 := Lib.hid (HB2.out.trans (HB3.out.mono hs2))
      go_wp2
      go_roundw
      case rel => exact ⟨i + 1, by omega, by go_num, by have := HM.out; go_num, HB4⟩
      case measure => simp [intOf]; omega
    · have hin : i = x.length := by omega
      have hxI : ¬ (i : Int) < (x.length : Int) := by omega
      have HI := Lib.hid (show k + (i : Int) * 3 = k + (cntN x : Nat) by rw [hin, HL.out]; omega)
      clear hin
      go_wp2
      go_ret
      exact ⟨congrArg (fun z : Int => Ending.returned (.int .i64 z)) HI.out, HB2.out⟩
end Go.Proofs.Ytdgimjmdgppboaa

/- Whether a space has a vector: the program's side. -/
import Derived.Test.YtpoghbdomknfcaaDoorMath
import Derived.Test.YtpoghbdomknfcaaDoorSpOrth
import Derived.Laws.CopyOwn
import Derived.StillTailTactics
namespace Go.Proofs.YtpoghbdomknfcaaDoor
set_option maxRecDepth 100000
open Go Go.RowKit Go.Deep

/-- A list of at most 24 ints with zeros behind. -/
def pad24 (xs : List Int) : List Int := xs ++ List.replicate (24 - xs.length) 0
theorem pad24_len {xs : List Int} (h : xs.length ≤ 24) : (pad24 xs).length = 24 := by simp [pad24]; omega
theorem pad24_get {xs : List Int} {j : Nat} (h : j < xs.length) : (pad24 xs).getD j 0 = xs.getD j 0 := by
  unfold pad24
  rw [List.getD_eq_getElem?_getD, List.getD_eq_getElem?_getD, List.getElem?_append_left h]
theorem pad24_out {xs : List Int} {j : Nat} (h : xs.length ≤ j) : (pad24 xs).getD j 0 = 0 := by
  unfold pad24
  rw [List.getD_eq_getElem?_getD, List.getElem?_append_right h, ← List.getD_eq_getElem?_getD, repl_getD]
theorem pad24_axpy {p f : Int} {r xs : List Int} (hl : xs.length = r.length) (h : r.length ≤ 24) : upd (fun j x => (x + f * xs.getD j 0) % p) xs.length (pad24 r) = pad24 (axpy p r f xs) := by
  refine ext_getD 0 (by rw [upd_len, pad24_len h, pad24_len (by rw [axpy_len]; exact h)]) fun j hj => ?_
  rw [upd_len, pad24_len h] at hj
  by_cases c : j < r.length
  · rw [upd_done _ (by omega) _ (by rw [pad24_len h]; exact hj), pad24_get c, pad24_get (by rw [axpy_len]; exact c), axpy_get c]
  · rw [upd_getD _ (by omega), pad24_out (by omega), pad24_out (by rw [axpy_len]; omega)]
theorem pad24_zero {xs : List Int} {c : Nat} (hl : xs.length = c) (h : c ≤ 24) : decide (pad24 xs = List.replicate 24 0) = decide (xs = List.replicate c 0) := by
  rw [Bool.eq_iff_iff, decide_eq_true_eq, decide_eq_true_eq]
  constructor
  · intro e
    refine ext_getD 0 (by simp [hl]) fun j hj => ?_
    rw [← pad24_get hj, e, repl_getD, repl_getD]
  · rintro rfl
    refine ext_getD 0 (by rw [pad24_len (by simpa using h)]; simp) fun j hj => ?_
    by_cases c1 : j < c
    · rw [pad24_get (by simpa using c1), repl_getD, repl_getD]
    · rw [pad24_out (by simpa using c1), repl_getD]
theorem splice_pad {xs : List Int} : splice (icells (List.replicate 24 0)) 0 (icells xs) = icells (pad24 xs) := by
  unfold splice pad24 icells
  rw [List.length_map, Nat.zero_add, List.take_zero, List.nil_append, List.map_append, List.map_replicate, List.map_replicate, List.drop_replicate]
/-- A row was changed in an array of 24 ints. -/
def Wrote24 (w : World) (b : Nat) (ys : List Int) (e : Ending) (w' : World) : Prop := e = .returned (.tuple #[]) ∧ Touch (fun k => k = b) w w' ∧ W24 w' b ys
set_option maxHeartbeats 800000 in
theorem addToRow24_any (w : World) (b : Nat) (vs : Value) (p f : Int) (ts xs : List Int) (h1 : 2 ≤ p) (h2 : p ≤ 97) (ho : W24 w b ts) (hs : RdS w (fun k => ¬ k = b) vs xs) (hl : xs.length ≤ 24)
    (hbt : ∀ x, x ∈ ts → 0 ≤ x ∧ x < p) (hbs : ∀ x, x ∈ xs → 0 ≤ x ∧ x < p) (hf0 : 0 ≤ f) (hf1 : f ≤ 97) :
    Calls Tryd.prog 113 #[.int .i64 p, .slice (some ⟨b, 0, none⟩) 24 24, .int .i64 f, vs] w (Wrote24 w b (upd (fun j x => (x + f * xs.getD j 0) % p) xs.length ts)) := by
  obtain ⟨A2, c2, rfl, kc_c2, hsc⟩ := hs
  have HS := Lib.hid (show RdS w (fun k => ¬ k = b) (.slice A2 xs.length c2) xs from ⟨A2, c2, rfl, kc_c2, hsc⟩)
  have HO := Lib.hid ho
  have HBT := Lib.hid hbt
  have HBS := Lib.hid hbs
  have HTL := Lib.hid ho.1
  clear ho hsc hbt hbs
  go_enter Tryd.func113, Tryd.ntmps113
  go_wp2
  go_loopw [12, 8, 9] (fun i _ _ wr => ∃ k : Nat, k ≤ xs.length ∧ i = .int .i64 k ∧ Hid (Touch (fun q => q = b) w wr) ∧ Hid (W24 wr b (upd (fun j x => (x + f * xs.getD j 0) % p) k ts))) (fun i _ _ _ => xs.length - (intOf i).toNat)
  case atStart => exact ⟨0, Nat.zero_le _, rfl, Lib.hid (Touch.refl _ _), Lib.hid (by rw [upd_zero]; exact HO.out)⟩
  case round =>
    obtain ⟨k, hk, rfl, HT, HR⟩ := hrel
    by_cases hlt : k < xs.length
    · obtain ⟨b0, o0, rfl, hb0, hc0⟩ := (HS.out.touch HT.out (fun _ h => h)).at hlt
      have hk24 : k < 24 := by omega
      obtain ⟨hc1, hfz⟩ := HR.out.at hk24
      have HXV := Lib.hid (upd_getD (fun j x => (x + f * xs.getD j 0) % p) (Nat.le_refl k) ts 0)
      rw [HXV.out] at hc1
      have hz := HBS.out _ (getD_mem' hlt 0)
      have hy := HBT.out _ (getD_mem' (show k < ts.length by rw [HTL.out]; exact hk24) 0)
      have HST := Lib.hid (HR.out.set k ((ts.getD k 0 + f * xs.getD k 0) % p))
      have HNX := Lib.hid (upd_step (fun j x => (x + f * xs.getD j 0) % p) (xs := ts) (k := k) (by rw [HTL.out]; exact hk24) 0)
      have hkI : (k : Int) < (xs.length : Int) := by omega
      have hk24I : (k : Int) < 24 := by omega
      clear hb0
      generalize xs.getD k 0 = z at hc0 hz HST HNX
      generalize ts.getD k 0 = y at hc1 hy HST HNX HXV
      obtain ⟨hz0, hz1⟩ := hz
      obtain ⟨hy0, hy1⟩ := hy
      have hm0 : 0 ≤ f * z := Int.mul_nonneg hf0 hz0
      have hm1 : f * z ≤ 97 * 97 := Int.mul_le_mul (by omega) (by omega) hz0 (by omega)
      go_wp2
      go_roundw
      case rel => exact ⟨k + 1, by omega, by go_num, Lib.hid (HT.out.setCell (Or.inl rfl) _), Lib.hid (by rw [← HNX.out]; exact HST.out)⟩
      case measure => simp [intOf]; omega
    · obtain rfl : k = xs.length := by omega
      go_wp2
      go_end0
      exact ⟨rfl, HT.out, HR.out⟩
/-- What is left of a vector, as an array. -/
def Made24 (w : World) (xs : List Int) (e : Ending) (w' : World) : Prop := e = .returned (.agg (icells xs).toArray) ∧ Below w.heap.size w w'
set_option maxHeartbeats 3200000 in
set_option maxRecDepth 100000 in
theorem remainderOf_any (w : World) (B : Nat) (vb vv : Value) (p : Int) (c : Nat) (R : List (List Int)) (v : List Int) (hb : RdG w B vb R) (hv : RdS w (fun b => b < B) vv v) (hB : B ≤ w.heap.size) (hf : fld p = true) (hR : IsRed p R.length c R) (hV : Vec p c v) (hc : c ≤ 24) :
    Calls Tryd.prog 120 #[.int .i64 p, .agg #[.int .i64 c, vb], vv] w (Made24 w (pad24 (restV p R v R.length))) := by
  obtain ⟨A1, c1, rfl⟩ := hb.len
  obtain ⟨Av, cv, rfl, kc_cv, hv'⟩ := hv
  obtain ⟨h1, h2⟩ := fld_bd hf
  have hvl : v.length = c := hV.1
  have HVL := Lib.hid hvl
  have HV := Lib.hid (show RdS w (fun b => b < B) (.slice Av v.length cv) v from ⟨Av, cv, rfl, kc_cv, hv'⟩)
  have HG := Lib.hid hb
  have HB := Lib.hid hB
  have HR := Lib.hid hR
  have HVC := Lib.hid hV
  have hRc := hR.le
  rw [hvl] at HV ⊢
  clear hb hv' hB hR hV hf hvl
  go_enter Tryd.func120, Tryd.ntmps120
  go_upto_region 2 with fail
  rw [zero24]
  change Code.wp _ _ _ _ (((w.alloc (.cells #[.int .i64 c, .slice A1 R.length c1] tSp)).alloc (.cells (icells (List.replicate 24 0)).toArray tSR)).alloc (.cells (icells (List.replicate 24 0)).toArray tSR))
  have HX := Lib.hid (show CellsAt (((w.alloc (.cells #[.int .i64 c, .slice A1 R.length c1] tSp)).alloc (.cells (icells (List.replicate 24 0)).toArray tSR)).alloc (.cells (icells (List.replicate 24 0)).toArray tSR)) w.heap.size tSp [.int .i64 c, .slice A1 R.length c1] from ((cellsAt_new w #[.int .i64 c, .slice A1 R.length c1] tSp).alloc _).alloc _)
  have HY := Lib.hid (show W24 (((w.alloc (.cells #[.int .i64 c, .slice A1 R.length c1] tSp)).alloc (.cells (icells (List.replicate 24 0)).toArray tSR)).alloc (.cells (icells (List.replicate 24 0)).toArray tSR)) (w.heap.size + 1) (List.replicate 24 0) from (w24_new _ _ (by simp) _ (by simp)).blocks (blk_alloc_lt _ _ _ (by simp)))
  have HZ := Lib.hid (show W24 (((w.alloc (.cells #[.int .i64 c, .slice A1 R.length c1] tSp)).alloc (.cells (icells (List.replicate 24 0)).toArray tSR)).alloc (.cells (icells (List.replicate 24 0)).toArray tSR)) (w.heap.size + 1 + 1) (List.replicate 24 0) from w24_new _ _ (by simp) _ (by simp))
  have HBW := Lib.hid (show Below w.heap.size w (((w.alloc (.cells #[.int .i64 c, .slice A1 R.length c1] tSp)).alloc (.cells (icells (List.replicate 24 0)).toArray tSR)).alloc (.cells (icells (List.replicate 24 0)).toArray tSR)) by repeat' (first | exact Below.refl _ _ | apply Below.alloc | (simp; done) | (simp; omega)))
  have hsz : (((w.alloc (.cells #[.int .i64 c, .slice A1 R.length c1] tSp)).alloc (.cells (icells (List.replicate 24 0)).toArray tSR)).alloc (.cells (icells (List.replicate 24 0)).toArray tSR)).heap.size = w.heap.size + 3 := by simp
  generalize (((w.alloc (.cells #[.int .i64 c, .slice A1 R.length c1] tSp)).alloc (.cells (icells (List.replicate 24 0)).toArray tSR)).alloc (.cells (icells (List.replicate 24 0)).toArray tSR)) = W at HX HY HZ HBW hsz ⊢
  have hW3 : w.heap.size + 3 ≤ W.heap.size := by omega
  clear hsz
  have HSRC := Lib.hid (HV.out.below HBW.out HB.out)
  go_wp2_with (refine wpList_copy_splice rfl (.tmp 10) (.tmp 11) 37 37 rfl 3 Tryd.underlying37 (by kernel_rfl) _ _ 24 24 c cv rfl rfl (w.heap.size + 1 + 1) 0 (icells (List.replicate 24 0)) tSR HZ.out.2 (icells v) (by rw [icells_len, HVL.out]; exact (Nat.min_eq_left hc).symm) ?c1 (by rw [icells_len, HVL.out, icells_len, List.length_replicate]; omega) (fun u hu => by simp only [icells, List.mem_map] at hu; obtain ⟨y, -, rfl⟩ := hu; rfl) (w.heap.size + 2) W (Below.refl _ _) (by omega) ?_)
  case c1 =>
    rw [icells_len, HVL.out]
    intro h0
    obtain ⟨b, o, rfl, hbS, hc0⟩ := HSRC.out.at (k := 0) (by rw [HVL.out]; exact h0)
    have key : ∀ j u, (icells v)[j]? = some u → W.cell? ((⟨b, o, none⟩ : Addr).add j) = some u := fun j u hj => by
      have hjl : j < v.length := by
        have := (List.getElem?_eq_some_iff.1 hj).1
        rwa [icells_len] at this
      obtain ⟨b', o', e, -, hcj⟩ := HSRC.out.at hjl
      injection e with e
      injection e with e1 e2
      subst e1 e2
      rw [icells_get hjl] at hj
      have e3 : (⟨b, o, none⟩ : Addr).add j = ⟨b, o + j, none⟩ := by simp [Addr.add]
      rw [e3, hcj]
      exact hj
    first | exact ⟨rfl, _, rfl, key⟩ | exact ⟨_, rfl, key⟩
  intro W2 HW2 HB2
  have HZ2 := Lib.hid (show W24 W2 (w.heap.size + 1 + 1) (pad24 v) from ⟨pad24_len (by rw [HVL.out]; exact hc), by rw [← splice_pad]; exact HW2.out⟩)
  have HB2h := Lib.hid HB2
  have HX2 := Lib.hid (HX.out.below HB2 (by omega))
  have HY2 := Lib.hid (HY.out.blocks (HB2.block _ (by omega)))
  have hs2 : W.heap.size ≤ W2.heap.size := HB2.size
  clear HW2 HB2 HSRC
  have HCX : Hid (∀ w' : World, Below (w.heap.size + 2) W2 w' → w'.cell? ⟨w.heap.size, 0, none⟩ = some (.int .i64 c) ∧ w'.cell? ⟨w.heap.size, 1, none⟩ = some (.slice A1 R.length c1)) := Lib.hid (fun w' hb => by
    obtain ⟨a0, a1, -⟩ := (HX2.out.below hb (by omega)).two
    exact ⟨a0, a1⟩)
  have HBW2 := Lib.hid (HBW.out.trans (HB2h.out.mono (by omega)))
  have HRR : Hid (∀ w' : World, Below (w.heap.size + 2) W2 w' → RdG w' B (.slice A1 R.length c1) R) := Lib.hid (fun w' hb => (HG.out.below HBW2.out HB.out).below hb (by have := HB.out; omega))
  obtain ⟨hx0, hx1⟩ := HCX.out W2 (Below.refl _ _)
  go_wp2
  go_loopw [16, 9] (fun i _ wr => ∃ k : Nat, k ≤ R.length ∧ i = .int .i64 k ∧ Hid (Below (w.heap.size + 2) W2 wr) ∧ Hid (W24 wr (w.heap.size + 1 + 1) (pad24 (restV p R v k)))) (fun i _ _ => R.length - (intOf i).toNat)
  case atStart => exact ⟨0, Nat.zero_le _, rfl, Lib.hid (Below.refl _ _), HZ2⟩
  case round =>
    obtain ⟨k, hk, rfl, HB3, HZ3⟩ := hrel
    by_cases hlt : k < R.length
    · obtain ⟨b1, o1, A3, c3, rfl, hb1, hc1, hrd⟩ := (HRR.out wr HB3.out).at hlt
      have HRD := Lib.hid hrd
      have hle := HR.out.lt k hlt
      have HROW := Lib.hid (HR.out.mat.row hlt)
      have HRV := Lib.hid (restV_vec (p := p) (R := R) h1 HVC.out k)
      have HNX := Lib.hid (show restV p R v (k + 1) = axpy p (restV p R v k) (p - (restV p R v k).getD (lead0 (R.getD k [])) 0) (R.getD k []) from rfl)
      have hel := HRV.out.el hle
      have HLX := Lib.hid (leadI_pos (xs := R.getD k []) (by rw [HROW.out.1]; exact hle))
      have hkI : (k : Int) < (R.length : Int) := by omega
      clear hrd hb1
      generalize R.getD k [] = xr at hc1 HRD hle HROW HNX hel HLX
      generalize restV p R v k = rs at HZ3 HRV HNX hel
      obtain ⟨hcz, hfz⟩ := HZ3.out.at (i := lead0 xr) (by omega)
      rw [pad24_get (by rw [HRV.out.1]; exact hle)] at hcz
      have HLC : Hid (∀ n, Calls Tryd.prog 131 #[.slice A3 xr.length c3] (wr.drewN n) fun e w' => e = .returned (.int .i64 (lead0 xr)) ∧ w' = wr.drewN n) := Lib.hid (fun n => (leadIdx_any (wr.drewN n) B _ xr HRD.out (by rw [HROW.out.1]; omega)).mono fun _ _ h => ⟨by rw [h.1, HLX.out], h.2.symm⟩)
      have HAX := Lib.hid (pad24_axpy (p := p) (f := p - rs.getD (lead0 xr) 0) (r := rs) (xs := xr) (by rw [HROW.out.1, HRV.out.1]) (by rw [HRV.out.1]; exact hc))
      have HPE : Hid (∀ x, x ∈ pad24 rs → 0 ≤ x ∧ x < p) := Lib.hid (fun x hx => by
        unfold pad24 at hx
        rcases List.mem_append.1 hx with h | h
        · exact HRV.out.2 x h
        · have := (List.mem_replicate.1 h).2; omega)
      have hq24 : (lead0 xr : Int) < 24 := by omega
      have HQ := Lib.hid hle
      generalize lead0 xr = q at HNX hel hcz hfz HLC hq24 HAX HQ
      generalize rs.getD q 0 = y at HNX hel hcz HAX
      obtain ⟨hy0, hy1⟩ := hel
      have hwr : IntKind.i64.wrap (p - y) = p - y := Go.IntWalk.i64_in _ ⟨by omega, by omega⟩
      clear hle HLX
      go_wp2
      go_still_tail 9, (by kernel_rfl)
      still_call ((HLC.out _).mono fun _ _ h => ⟨h.1, h.2⟩)
      repeat still_step
      refine wpStill_nil ?_
      change wpList _ _ _ _ _ wr.drew
      go_wp2_with fail
      refine (addToRow24_any wr.drew (w.heap.size + 1 + 1) _ p (p - y) (pad24 rs) xr h1 h2 HZ3.out (HRD.out.mono (fun q hq => by have := HB.out; omega)) (by rw [HROW.out.1]; exact hc) HPE.out HROW.out.2 (by omega) (by omega)).mono ?_
      rintro e w3 ⟨rfl, t3, o3⟩
      have HO3 := Lib.hid o3
      have HB4 := Lib.hid (HB3.out.drew.trans (t3.below (B := w.heap.size + 2) (Nat.le_trans (by omega) HB3.out.size) (fun q hq => by omega)))
      clear t3 o3 hwr
      go_wp2
      go_roundw
      case rel => exact ⟨k + 1, by omega, by go_num, HB4, Lib.hid (by rw [HNX.out, ← HAX.out]; exact HO3.out)⟩
      case measure => simp [intOf]; omega
    · obtain rfl : k = R.length := by omega
      have HY3 := Lib.hid (HY2.out.blocks (HB3.out.block _ (by omega)))
      have HLP := Lib.hid (pad24_len (xs := restV p R v R.length) (by rw [(restV_vec (p := p) (R := R) h1 HVC.out R.length).1]; exact hc))
      generalize hfin : pad24 (restV p R v R.length) = fin at HZ3 HLP
      have HFIN := Lib.hid hfin
      clear hfin
      go_wp2_with (first | (refine wpList_load_row rfl tSR _ rfl _ rfl _ _ _ _ HZ3.out.2 Tryd.underlying108 rfl (by rw [infoSR]; simp [icells_len, HLP.out]) ?_) | (refine wpList_store_row rfl tSR _ _ rfl _ (icells fin).toArray rfl rfl _ _ HY3.out.2 (by rw [infoSR]; simp [icells_len, HLP.out]) (by simp [icells_len, HLP.out]) (icells_one _) ?_))
      have HR3 := Lib.hid (HY3.out.setRow HLP.out)
      have hsW : w.heap.size ≤ W2.heap.size := by omega
      refine bodyPost_ret (v := .agg (icells fin).toArray) (results_cell_row rfl _ _ _ _ _ _ _ rfl HR3.out.2 Tryd.underlying108 rfl (by rw [infoSR]; simp [icells_len, HLP.out])) rfl ?_
      rw [HFIN.out]
      exact ⟨rfl, below_setRow (HBW2.out.trans (HB3.out.mono (by omega))) (by omega) _⟩
/-- Two arrays of 24 ints compared. -/
theorem eql_small (w : World) (xs ys : List Int) (hx : xs.length = 24) (hy : ys.length = 24) :
    (binOp .eql tSR (.agg (icells xs).toArray) (.agg (icells ys).toArray)).run Tryd.prog w = .ok (.bool (decide (xs = ys))) w := by
  obtain ⟨i0, hi0, -, -, -⟩ := info_parts infoI
  rw [run_eql_struct, show (10000 : Nat) = 9999 + 1 from rfl, run_equalIn_array w 9999 _ _ Tryd.underlying108 hi0, cellsI, show (9999 : Nat) = 9998 + 1 from rfl,
    run_eqItems_ints w 9998 Tryd.underlying3 xs ys _ (fun i hi => by have := List.mem_range.1 hi; omega), all_range_eq hx hy]
  rfl
set_option maxHeartbeats 1600000 in
theorem contains_sp (w : World) (B : Nat) (vb vv : Value) (p : Int) (c : Nat) (R : List (List Int)) (v : List Int) (hb : RdG w B vb R) (hv : RdS w (fun b => b < B) vv v) (hB : B ≤ w.heap.size) (hf : fld p = true) (hR : IsRed p R.length c R) (hV : Vec p c v) (hc : c ≤ 24) :
    Calls Tryd.prog 84 #[.int .i64 p, .agg #[.int .i64 c, vb], vv] w (SaysB w (hasV p c R v)) := by
  obtain ⟨A1, c1, rfl⟩ := hb.len
  obtain ⟨Av, cv, rfl, kc_cv, hv'⟩ := hv
  obtain ⟨h1, h2⟩ := fld_bd hf
  have HVB := Lib.hid (show Below w.heap.size w (w.alloc (.cells #[.int .i64 c, .slice A1 R.length c1] tSp)) from (Below.refl _ _).alloc (Nat.le_refl _) _)
  have HV := Lib.hid ((show RdS w (fun b => b < B) (.slice Av v.length cv) v from ⟨Av, cv, rfl, kc_cv, hv'⟩).below HVB.out hB)
  have HG := Lib.hid (hb.below HVB.out hB)
  have hB0 : B ≤ (w.alloc (.cells #[.int .i64 c, .slice A1 R.length c1] tSp)).heap.size := Nat.le_trans hB HVB.out.size
  have HF := Lib.hid hf
  have HR := Lib.hid hR
  have HVC := Lib.hid hV
  have hrl : (restV p R v R.length).length = c := (restV_vec (p := p) (R := R) h1 hV R.length).1
  have HPL := Lib.hid (pad24_len (xs := restV p R v R.length) (by rw [hrl]; exact hc))
  have HHV := Lib.hid ((hasV_rest h1 hR hV).trans (pad24_zero hrl hc).symm)
  clear hb hv' hB hf hR hV hrl
  go_enter Tryd.func84, Tryd.ntmps84
  go_wp2_with fail
  refine (remainderOf_any _ B _ _ p c R v HG.out HV.out hB0 HF.out HR.out HVC.out hc).mono ?_
  rintro e w2 ⟨rfl, b2⟩
  have HB2 := Lib.hid (HVB.out.trans (b2.mono HVB.out.size))
  clear b2
  generalize pad24 (restV p R v R.length) = fin at HPL HHV ⊢
  have HEQ := Lib.hid (fun W : World => eql_small W fin (List.replicate 24 0) HPL.out (by simp))
  by_cases hz : fin = List.replicate 24 0
  · have heq : ∀ W : World, (binOp .eql tSR (.agg (icells fin).toArray) (.agg (icells (List.replicate 24 0)).toArray)).run Tryd.prog W = .ok (.bool true) W := fun W => by rw [HEQ.out W, decide_eq_true hz]
    have HH := Lib.hid (show hasV p c R v = true by rw [HHV.out, decide_eq_true hz])
    clear hz
    rw [← zero24] at heq
    go_wp2
    go_ret
    rw [HH.out]
    exact ⟨rfl, HB2.out⟩
  · have heq : ∀ W : World, (binOp .eql tSR (.agg (icells fin).toArray) (.agg (icells (List.replicate 24 0)).toArray)).run Tryd.prog W = .ok (.bool false) W := fun W => by rw [HEQ.out W, decide_eq_false hz]
    have HH := Lib.hid (show hasV p c R v = false by rw [HHV.out, decide_eq_false hz])
    clear hz
    rw [← zero24] at heq
    go_wp2
    go_ret
    rw [HH.out]
    exact ⟨rfl, HB2.out⟩
end Go.Proofs.YtpoghbdomknfcaaDoor

/- IdentityRelation: both sides. -/
import Derived.Test.YtiiloioobmkicaaGrF
import Derived.Test.YtiiloioobmkicaaRlM
import Derived.Test.YtiiloioobmkicaaSpanF
import Derived.Test.YtiiloioobmkicaaRetRelationB
import Derived.Test.YtiiloioobmkicaaPushG
namespace Go.Proofs.Ytiiloioobmkicaa
set_option maxRecDepth 100000
open Go Go.RowKit Go.Deep

def idrL (n : Int) : Int := if sidesB n n then n else 0
def idrR (n : Int) : List (List Int) := if sidesB n n then jn (idRows n.toNat) (idRows n.toNat) else []
theorem idr_no {n : Int} (h : sidesB n n = false) : idrL n = 0 ∧ idrR n = [] := by simp [idrL, idrR, h]
theorem idr_yes {k : Nat} (h : sidesB k k = true) : idrL k = k ∧ idrR k = jn (idRows k) (idRows k) := by simp [idrL, idrR, h]
theorem idg_sz {p : Int} {c : Nat} {M : List (List Int)} (h : Mat p M.length c M) (hl : M.length + c ≤ 24) : szG (jn (idRows M.length) M) ≤ 1099511627776 := by
  have h1 : ∀ r, r ∈ jn (idRows M.length) M → r.length = M.length + c := by
    intro r hr
    obtain ⟨i, hi, rfl⟩ := List.getElem_of_mem hr
    have hi2 := hi
    rw [jn_len, idRows_len] at hi2
    have e := jn_row (a := idRows M.length) (b := M) (i := i) (by rw [idRows_len]; exact hi2)
    rw [List.getD_eq_getElem?_getD, List.getElem?_eq_getElem hi] at e
    simp only [Option.getD_some] at e
    rw [e, List.length_append, idRows_get hi2, unitRow_len, (h.row hi2).1]
  have h2 := tot_const h1
  rw [jn_len, idRows_len] at h2
  unfold szG
  rw [jn_len, idRows_len, h2]
  have : M.length * (M.length + c) ≤ 24 * 24 := Nat.mul_le_mul (by omega) hl
  omega
theorem idr_sz {k : Nat} (h : k + k ≤ 24) : szG (jn (idRows k) (idRows k)) ≤ 1099511627776 := by
  have h1 := idg_sz (p := 2) (c := k) (M := idRows k) (by rw [idRows_len]; exact idRows_mat (Int.le_refl 2) k) (by rw [idRows_len]; exact h)
  rw [idRows_len] at h1
  exact h1
theorem sides_nat {n : Int} (h : sidesB n n = true) : ∃ k : Nat, n = k ∧ k + k ≤ 24 := by
  unfold sidesB at h
  simp at h
  exact ⟨n.toNat, by omega, by omega⟩
set_option maxRecDepth 100000 in
set_option maxHeartbeats 3200000 in
theorem impl_IdentityRelation (w : World) (n : Int) (hb : Bi n) :
    Calls Try.prog 5 #[.int .i64 n] w (IRetRelationB w (idrL n) (idrL n) (idrR n) (sidesB n n)) := by
  have HVB := Lib.hid (show Below w.heap.size w (w.alloc (.cells #[.int .i64 0, .int .i64 0, .slice none 0 0] tRl)) from (Below.refl _ _).alloc (Nat.le_refl _) _)
  have HY0 := Lib.hid (cellsAt_new w #[.int .i64 0, .int .i64 0, .slice none 0 0] tRl)
  have hsz0 : (w.alloc (.cells #[.int .i64 0, .int .i64 0, .slice none 0 0] tRl)).heap.size = w.heap.size + 1 := by simp
  have hb2 := hb.2
  clear hb
  cases hs : sidesB n n with
  | false =>
    have HS := Lib.hid hs
    clear hs
    go_enter Try.func5, Try.ntmps5
    go_upto_region 1 with fail
    generalize (w.alloc (.cells #[.int .i64 0, .int .i64 0, .slice none 0 0] tRl)) = W0 at HVB HY0 hsz0 ⊢
    obtain ⟨hy0, hy1, hy2, hyf0, hyf1, hyf2, hys⟩ := HY0.out.three
    go_wp2_with fail
    refine (areSides_any W0 n n hb2).mono ?_
    rintro e w' ⟨rfl, rfl⟩
    rw [HS.out]
    go_wp2
    refine bodyPost_ret (v := .tuple #[.agg #[.int .i64 0, .int .i64 0, .slice none 0 0], .bool false]) (by simp [results, Try.results5, go_sem, hy0, hy1, hy2]) rfl ?_
    rw [(idr_no HS.out).1, (idr_no HS.out).2]
    exact ⟨_, rfl, (by refine Below.trans HVB.out ?_; repeat' (first | exact Below.refl _ _ | apply Below.drew | apply Below.setCell | apply Below.alloc | (simp; done) | omega | (simp; omega))), ⟨none, 0, rfl, Nat.le_refl 0, Or.inl rfl⟩, by simp [szG, tot]⟩
  | true =>
    obtain ⟨k, rfl, hk⟩ := sides_nat hs
    have HS := Lib.hid hs
    have HSZ := Lib.hid (idr_sz hk)
    have HIL := Lib.hid (fun r (hr : r < (idRows k).length) => (show ((idRows k).getD r []).length ≤ 1000 by rw [idRows_len] at hr; rw [idRows_get hr, unitRow_len]; omega))
    clear hs
    go_enter Try.func5, Try.ntmps5
    go_upto_region 1 with fail
    generalize (w.alloc (.cells #[.int .i64 0, .int .i64 0, .slice none 0 0] tRl)) = W0 at HVB HY0 hsz0 ⊢
    obtain ⟨hy0, hy1, hy2, hyf0, hyf1, hyf2, hys⟩ := HY0.out.three
    go_wp2_with fail
    refine (areSides_any W0 k k hb2).mono ?_
    rintro e w' ⟨rfl, rfl⟩
    rw [HS.out]
    go_wp2_with fail
    refine (identityRows_any W0 k (by omega)).mono ?_
    rintro e w3 ⟨v3, rfl, b3, o3⟩
    obtain ⟨A3, c3, rfl⟩ := OwG.len o3
    have HO3 := Lib.hid (OwG.readB o3)
    have HB3 := Lib.hid (HVB.out.trans (b3.mono HVB.out.size))
    have HY3 := Lib.hid (HY0.out.below b3 hys)
    have hs3 : w.heap.size + 1 ≤ w3.heap.size := Nat.le_trans (by omega) b3.size
    clear b3 o3 hy0 hy1 hy2 hyf0 hyf1 hyf2 hys
    have HG := Lib.hid (graphOf_any w3 w3.heap.size _ k (idRows k) HO3.out (Nat.le_refl _) (by rw [idRows_len]; omega) HIL.out (by rw [idRows_len k]; exact HIL.out))
    rw [idRows_len] at HG
    rw [idRows_len]
    obtain ⟨hy0, hy1, hy2, hyf0, hyf1, hyf2, hys⟩ := HY3.out.three
    go_wp2_with fail
    refine HG.out.mono ?_
    rintro e w4 ⟨v4, rfl, b4, o4⟩
    obtain ⟨A4, c4, rfl⟩ := OwG.len o4
    have HB4 := Lib.hid (HB3.out.trans (b4.mono HB3.out.size))
    have HO4 := Lib.hid (OwG.mono (T := fun q => w3.heap.size ≤ q) o4 (fun q hq _ => hq))
    have HY4 := Lib.hid (HY3.out.below b4 hys)
    clear b4 o4 hy0 hy1 hy2 hyf0 hyf1 hyf2 hys
    obtain ⟨hy0, hy1, hy2, hyf0, hyf1, hyf2, hys⟩ := HY4.out.three
    go_wp2
    refine bodyPost_ret (v := .tuple #[.agg #[.int .i64 k, .int .i64 k, .slice A4 (jn (idRows k) (idRows k)).length c4], .bool true]) (by simp [results, Try.results5, go_sem, hy0, hy1, hy2]) rfl ?_
    rw [(idr_yes HS.out).1, (idr_yes HS.out).2]
    refine ⟨_, rfl, (by refine Below.trans HB4.out ?_; repeat' (first | exact Below.refl _ _ | apply Below.drew | apply Below.setCell | apply Below.alloc | (simp; done) | omega | (simp; omega))), (HO4.out.blocks (fun q hq _ => ?_)).mono (fun q hq _ => by omega), HSZ.out⟩
    repeat rw [blk_setCell_other _ _ _ _ (by dsimp only; omega)]
theorem id_row {n k : Nat} (h : k < n) : ((List.replicate (2 * n) (0 : Int)).set k 1).set (n + k) 1 = unitRow n k ++ unitRow n k := by
  refine ext_getD 0 (by simp [unitRow_len]; omega) fun i hi => ?_
  simp at hi
  rw [set_getD _ _ _ _ _ (by simp; omega), set_getD _ _ _ _ _ (by simp; omega), repl_getD]
  by_cases c : i < n
  · rw [getD_app_l _ _ _ (by rw [unitRow_len]; exact c), unitRow_get h, if_neg (by omega)]
  · rw [getD_app_r _ _ _ (by rw [unitRow_len]; omega), unitRow_len, unitRow_get h]
    by_cases d : n + k = i
    · rw [if_pos d, if_pos (by omega)]
    · rw [if_neg d, if_neg (by omega), if_neg (by omega)]
set_option maxRecDepth 100000 in
set_option maxHeartbeats 3200000 in
theorem rlId_any (w : World) (n : Nat) (hn : n ≤ 12) :
    Calls Try.prog 10 #[.int .i64 n] w (MadeRl w n n (jn (idRows n) (idRows n))) := by
  have hmk := make_ints (2 * n) (by omega)
  have e2 : ((2 * n : Nat) : Int) = 2 * (n : Int) := by omega
  simp only [e2] at hmk
  go_enter Try.func10, Try.ntmps10
  go_wp2
  go_loopw [4, 5] (fun i _ wr => ∃ (k : Nat) (v : Value) (vs : List Value), k ≤ n ∧ i = .int .i64 k ∧ Hid (Below w.heap.size w wr) ∧ Hid (CellsAt wr w.heap.size tRl [.int .i64 0, .int .i64 0, .slice none 0 0]) ∧ Hid (CellsAt wr (w.heap.size + 1) tRl [.int .i64 n, .int .i64 n, v]) ∧ Hid (GridB wr (w.heap.size + 2) v vs (jn ((idRows n).take k) (idRows n)))) (fun i _ _ => n - (intOf i).toNat)
  case atStart => exact ⟨0, .slice none 0 0, [], Nat.zero_le _, rfl, Lib.hid (by repeat' (first | exact Below.refl _ _ | apply Below.drew | apply Below.setCell | apply Below.alloc | (simp; done) | (simp; omega))), Lib.hid ((cellsAt_new' _ _ _ _ _ (by simp) rfl).alloc _), Lib.hid (cellsAt_new' _ _ _ _ _ (by simp) rfl), Lib.hid (by rw [List.take_zero]; exact GridB.nil _ _)⟩
  case round =>
    obtain ⟨k, v, vs, hk, rfl, HB2, HY, HO, HG⟩ := hrel
    by_cases hlt : k < n
    · have HLI : Hid (k < (idRows n).length) := Lib.hid (by rw [idRows_len]; exact hlt)
      have HNX := Lib.hid (show jn ((idRows n).take (k + 1)) (idRows n) = jn ((idRows n).take k) (idRows n) ++ [unitRow n k ++ unitRow n k] by rw [jn_take HLI.out, idRows_get hlt])
      have hpn : (jn ((idRows n).take k) (idRows n)).length + 1 ≤ 1000000 := by rw [jn_len, List.length_take, idRows_len]; omega
      have hkI : (k : Int) < (n : Int) := by omega
      have hos := HO.out.lt
      generalize jn ((idRows n).take k) (idRows n) = ps at HG HNX hpn
      have HOWN := Lib.hid (World.ownsRow_lit (base := wr.heap.size) (e := 3) (size := 1) wr (madeCells #[.int .i64 0] (2 * n)) (2 * n) (Nat.le_refl _) (by unfold maxLen; omega) (by rw [← Array.length_toList, toList_madeCells_one]; simp))
      have hcell : (wr.alloc (.cells (madeCells #[.int .i64 0] (2 * n)) 3)).cell? ⟨wr.heap.size, k, none⟩ = some (.int .i64 0) := by
        rw [HOWN.out.cellAt k (by omega), toList_madeCells_one]; simp [show k < 2 * n by omega]
      have hfz := HOWN.out.frozenAt k
      have HOWN2 := Lib.hid (show (wr.alloc (.cells ((madeCells #[.int .i64 0] (2 * n)).setIfInBounds k (.int .i64 1)) 3)).ownsRow wr.heap.size 3 1 (.slice (some ⟨wr.heap.size, 0, none⟩) (2 * n) (2 * n)) (2 * n) (icells ((List.replicate (2 * n) 0).set k 1)) from by
        have := World.ownsRow_lit (base := wr.heap.size) (e := 3) (size := 1) wr ((madeCells #[.int .i64 0] (2 * n)).setIfInBounds k (.int .i64 1)) (2 * n) (Nat.le_refl _) (by unfold maxLen; omega) (by rw [Array.size_setIfInBounds, ← Array.length_toList, toList_madeCells_one]; simp)
        rw [Array.toList_setIfInBounds, toList_madeCells_one, show List.replicate (2 * n) (Value.int .i64 0) = icells (List.replicate (2 * n) 0) by simp [icells], icells_set] at this
        exact this)
      have hcell2 : (wr.alloc (.cells ((madeCells #[.int .i64 0] (2 * n)).setIfInBounds k (.int .i64 1)) 3)).cell? ⟨wr.heap.size, n + k, none⟩ = some (.int .i64 0) := by
        have h := HOWN2.out.cellAt (n + k) (by omega)
        rw [h]
        simp [icells, show n + k < 2 * n by omega]
        rw [List.getElem_set, if_neg (by omega)]
        simp
      have hfz2 := HOWN2.out.frozenAt (n + k)
      have HST := Lib.hid (show RowA (wr.alloc (.cells (((madeCells #[.int .i64 0] (2 * n)).setIfInBounds k (.int .i64 1)).setIfInBounds (n + k) (.int .i64 1)) 3)) wr.heap.size (.slice (some ⟨wr.heap.size, 0, none⟩) (2 * n) (2 * n)) (unitRow n k ++ unitRow n k) from by
        have := World.ownsRow_lit (base := wr.heap.size) (e := 3) (size := 1) wr (((madeCells #[.int .i64 0] (2 * n)).setIfInBounds k (.int .i64 1)).setIfInBounds (n + k) (.int .i64 1)) (2 * n) (Nat.le_refl _) (by unfold maxLen; omega) (by rw [Array.size_setIfInBounds, Array.size_setIfInBounds, ← Array.length_toList, toList_madeCells_one]; simp)
        rw [Array.toList_setIfInBounds, Array.toList_setIfInBounds, toList_madeCells_one, show List.replicate (2 * n) (Value.int .i64 0) = icells (List.replicate (2 * n) 0) by simp [icells], icells_set, icells_set, id_row hlt] at this
        unfold RowA
        rw [List.length_append, unitRow_len, show n + n = 2 * n by omega]
        exact this)
      have HBW : Hid (Below wr.heap.size wr (wr.alloc (.cells (((madeCells #[.int .i64 0] (2 * n)).setIfInBounds k (.int .i64 1)).setIfInBounds (n + k) (.int .i64 1)) 3))) := Lib.hid ((Below.refl _ _).alloc (Nat.le_refl _) _)
      have HO0 := HO.out.three.2.2.1
      have hsz : w.heap.size + 2 ≤ wr.heap.size := by omega
      go_upto_region 8 with fail
      generalize (wr.alloc (.cells (((madeCells #[.int .i64 0] (2 * n)).setIfInBounds k (.int .i64 1)).setIfInBounds (n + k) (.int .i64 1)) 3)) = V at HST HBW ⊢
      have hVS : wr.heap.size ≤ V.heap.size := HBW.out.size
      have HA : Hid (Below V.heap.size V (V.alloc (.cells #[.slice (some ⟨wr.heap.size, 0, none⟩) (2 * n) (2 * n)] 39))) := Lib.hid ((Below.refl _ _).alloc (Nat.le_refl _) _)
      have HB5 := Lib.hid (HBW.out.trans (HA.out.mono hVS))
      have HG5 := Lib.hid (HG.out.below HB5.out)
      have HU5 := Lib.hid ((RowA.below HST.out HA.out).own.mono (T := fun q => wr.heap.size ≤ q ∧ q < (V.alloc (.cells #[.slice (some ⟨wr.heap.size, 0, none⟩) (2 * n) (2 * n)] 39)).heap.size) (fun q h1 h2 => ⟨h1, h2⟩))
      have HC5 := Lib.hid (show (V.alloc (.cells #[.slice (some ⟨wr.heap.size, 0, none⟩) (2 * n) (2 * n)] 39)).cell? ⟨V.heap.size, 0, none⟩ = some (.slice (some ⟨wr.heap.size, 0, none⟩) (2 * n) (2 * n)) from by have hc := (cellsAt_new V #[.slice (some ⟨wr.heap.size, 0, none⟩) (2 * n) (2 * n)] 39).cell (i := 0) (by simp); rw [hc]; rfl)
      have hs5 : wr.heap.size ≤ (V.alloc (.cells #[.slice (some ⟨wr.heap.size, 0, none⟩) (2 * n) (2 * n)] 39)).heap.size := HB5.out.size
      have HY5 := Lib.hid (HY.out.below HB5.out (by omega))
      have HO5 := Lib.hid (HO.out.below HB5.out hos)
      have hvo : V.cell? ⟨w.heap.size + 1, 2, none⟩ = some v := (HO.out.below HBW.out hos).three.2.2.1
      clear hcell hfz hcell2 hfz2 HO0
      go_wp2_with (at_builtin; refine wpList_pushG (by rfl) (.tmp 26) (.tmp 28) (by rfl) _ (w.heap.size + 2) wr.heap.size _ vs ps V.heap.size 1 (some ⟨wr.heap.size, 0, none⟩) (2 * n) (2 * n) (unitRow n k ++ unitRow n k) (by rfl) HG5.out (by rfl) HC5.out HU5.out hsz hs5 hpn ?_; intro v6 vs6 w6 hg6 hb6; obtain ⟨A6, c6, e6⟩ := GridA.form hg6; generalize (ps ++ [unitRow n k ++ unitRow n k]).length = n6 at e6; subst e6; have HB6 := Lib.hid (HB2.out.trans ((HB5.out.mono HB2.out.size).trans (hb6.mono (by omega)))); have HG6 := Lib.hid hg6; have HY6 := Lib.hid (HY5.out.below hb6 (by omega)); have HO6 := Lib.hid (HO5.out.below hb6 (by omega)); clear hg6 hb6; have ho6 := HO6.out.three; obtain ⟨ho0, ho1, ho2, hof0, hof1, hof2, hos6⟩ := ho6)
      have HLT := Lib.hid hlt
      go_wp2
      go_roundw
      case rel => exact ⟨k + 1, _, vs6, by omega, by go_num, Lib.hid (HB6.out.setCell (by show w.heap.size ≤ w.heap.size + 1; omega) _), Lib.hid (HY6.out.setOther (by dsimp only; omega) _), Lib.hid (HO6.out.set 2 _), Lib.hid (by
            rw [HNX.out]
            exact GridA.mono (GridA.blocks HG6.out (fun q hq _ => blk_setCell_other _ _ _ _ (by dsimp only; omega))) (fun q hq hl => ⟨hq.1, hl⟩))⟩
      case measure => simp [intOf]; have := HLT.out; omega
    · obtain ⟨Av, cpv, rfl⟩ := GridA.form HG.out
      obtain ⟨ho0, ho1, ho2, hof0, hof1, hof2, hos⟩ := HO.out.three
      obtain ⟨hy0, hy1, hy2, hyf0, hyf1, hyf2, hys⟩ := HY.out.three
      have hk2 : k = n := by omega
      subst hk2
      have e : (idRows k).take k = idRows k := List.take_of_length_le (by rw [idRows_len]; exact Nat.le_refl _)
      rw [e] at HG ho2
      go_wp2
      refine bodyPost_ret (v := .agg #[.int .i64 k, .int .i64 k, .slice Av (jn (idRows k) (idRows k)).length cpv]) (by simp [results, Try.results10, go_sem, hy0, hy1, hy2]) rfl ?_
      have h := GridB.own HG.out
      refine ⟨_, rfl, (by refine Below.trans HB2.out ?_; repeat' (first | exact Below.refl _ _ | apply Below.drew | apply Below.setCell | apply Below.alloc | (simp; done) | (simp; omega))), ?_⟩
      refine (h.blocks (fun q h _ => ?_)).mono (fun q h _ => by omega)
      repeat rw [blk_setCell_other _ _ _ _ (by simp; omega)]
set_option maxRecDepth 100000 in
set_option maxHeartbeats 3200000 in
theorem spec_IdentityRelation (w : World) (n : Int) :
    Calls Try.prog 4 #[.int .i64 n] w (SRetRelationB w (idrL n) (idrL n) (idrR n) (sidesB n n)) := by
  have HVB := Lib.hid (show Below w.heap.size w (w.alloc (.cells #[.int .i64 0, .int .i64 0, .slice none 0 0] tRl)) from (Below.refl _ _).alloc (Nat.le_refl _) _)
  have HY0 := Lib.hid (cellsAt_new w #[.int .i64 0, .int .i64 0, .slice none 0 0] tRl)
  have hsz0 : (w.alloc (.cells #[.int .i64 0, .int .i64 0, .slice none 0 0] tRl)).heap.size = w.heap.size + 1 := by simp
  cases hs : sidesB n n with
  | false =>
    have HS := Lib.hid hs
    have HN := Lib.hid (show n < 0 ∨ 12 < n by unfold sidesB at hs; simp at hs; omega)
    clear hs
    go_enter Try.func4, Try.ntmps4
    go_upto_region 1 with fail
    generalize (w.alloc (.cells #[.int .i64 0, .int .i64 0, .slice none 0 0] tRl)) = W0 at HVB HY0 hsz0 ⊢
    obtain ⟨hy0, hy1, hy2, hyf0, hyf1, hyf2, hys⟩ := HY0.out.three
    go_wp2_with fail
    refine (l1In_f n 0 12 W0 HN.out).mono ?_
    rintro e w' ⟨rfl, rfl⟩
    go_wp2
    refine bodyPost_ret (v := .tuple #[.agg #[.int .i64 0, .int .i64 0, .slice none 0 0], .bool false]) (by simp [results, Try.results4, go_sem, hy0, hy1, hy2]) rfl ?_
    rw [(idr_no HS.out).1, (idr_no HS.out).2]
    exact ⟨_, rfl, (by refine Below.trans HVB.out ?_; repeat' (first | exact Below.refl _ _ | apply Below.drew | apply Below.setCell | apply Below.alloc | (simp; done) | omega | (simp; omega))), ⟨none, 0, rfl, Nat.le_refl 0, Or.inl rfl⟩, by simp [szG, tot]⟩
  | true =>
    obtain ⟨k, rfl, hk⟩ := sides_nat hs
    have HS := Lib.hid hs
    have HSZ := Lib.hid (idr_sz hk)
    clear hs
    go_enter Try.func4, Try.ntmps4
    go_upto_region 1 with fail
    generalize (w.alloc (.cells #[.int .i64 0, .int .i64 0, .slice none 0 0] tRl)) = W0 at HVB HY0 hsz0 ⊢
    obtain ⟨hy0, hy1, hy2, hyf0, hyf1, hyf2, hys⟩ := HY0.out.three
    go_wp2_with fail
    refine (l1In_t k 0 12 W0 (by omega) (by omega)).mono ?_
    rintro e w' ⟨rfl, rfl⟩
    go_wp2_with fail
    refine (rlId_any W0 k (by omega)).mono ?_
    rintro e w4 ⟨v4, rfl, b4, o4⟩
    obtain ⟨A4, c4, rfl⟩ := OwG.len o4
    have HB4 := Lib.hid (HVB.out.trans (b4.mono HVB.out.size))
    have HO4 := Lib.hid (OwG.mono (T := fun q => W0.heap.size ≤ q) o4 (fun q hq _ => hq))
    have HY4 := Lib.hid (HY0.out.below b4 hys)
    clear b4 o4 hy0 hy1 hy2 hyf0 hyf1 hyf2 hys
    obtain ⟨hy0, hy1, hy2, hyf0, hyf1, hyf2, hys⟩ := HY4.out.three
    go_wp2
    refine bodyPost_ret (v := .tuple #[.agg #[.int .i64 k, .int .i64 k, .slice A4 (jn (idRows k) (idRows k)).length c4], .bool true]) (by simp [results, Try.results4, go_sem, hy0, hy1, hy2]) rfl ?_
    rw [(idr_yes HS.out).1, (idr_yes HS.out).2]
    refine ⟨_, rfl, (by refine Below.trans HB4.out ?_; repeat' (first | exact Below.refl _ _ | apply Below.drew | apply Below.setCell | apply Below.alloc | (simp; done) | omega | (simp; omega))), (HO4.out.blocks (fun q hq _ => ?_)).mono (fun q hq _ => by omega), HSZ.out⟩
    repeat rw [blk_setCell_other _ _ _ _ (by dsimp only; omega)]
end Go.Proofs.Ytiiloioobmkicaa

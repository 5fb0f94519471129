/- MirrorTerm: the model's mirror image. -/
import Derived.Test.YtiealgnmhjebeaaMiT
import Derived.Test.YtiealgnmhjebeaaPrT
import Derived.Test.YtiealgnmhjebeaaJnS
import Derived.Test.YtiealgnmhjebeaaMiK
namespace Go.Proofs.Ytiealgnmhjebeaa
set_option maxRecDepth 100000
open Go Go.RowKit Go.Deep

abbrev TmSaid (w : World) (xs : List Nd) (e : Ending) (w' : World) : Prop := ∃ v', e = .returned (.agg #[v']) ∧ Below w.heap.size w w' ∧ RowN w' w.heap.size v' xs
set_option maxHeartbeats 1600000 in
theorem tmOne_any (w : World) (k v : Int) : Calls Try.prog 66 #[.int .i64 k, .int .i64 v] w (TmSaid w [⟨k, v, ByteArray.empty⟩]) := by
  have HO := Lib.hid (show RowN ((w.alloc (.cells #[.slice (some ⟨w.heap.size + 1, 0, none⟩) 1 1] tTm)).alloc (.cells #[.int .i64 k, .int .i64 v, .string ByteArray.empty] tNd)) (w.heap.size + 1) (.slice (some ⟨w.heap.size + 1, 0, none⟩) 1 1) [⟨k, v, ByteArray.empty⟩] from by have := World.ownsRow_lit (base := w.heap.size + 1) (size := 3) (e := tNd) (w.alloc (.cells #[.slice (some ⟨w.heap.size + 1, 0, none⟩) 1 1] tTm)) #[.int .i64 k, .int .i64 v, .string ByteArray.empty] 1 (by simp) (by unfold maxLen; omega) rfl; rw [show (w.alloc (.cells #[.slice (some ⟨w.heap.size + 1, 0, none⟩) 1 1] tTm)).heap.size = w.heap.size + 1 by simp] at this; exact this)
  have HB0 := Lib.hid (show Below w.heap.size w ((w.alloc (.cells #[.slice (some ⟨w.heap.size + 1, 0, none⟩) 1 1] tTm)).alloc (.cells #[.int .i64 k, .int .i64 v, .string ByteArray.empty] tNd)) from ((Below.refl _ _).alloc (Nat.le_refl _) _).alloc (by simp) _)
  go_enter Try.func66, Try.ntmps66
  go_wp2
  refine bodyPost_ret (v := .agg #[.slice (some ⟨w.heap.size + 1, 0, none⟩) 1 1]) (by simp [results, Try.results66, go_sem]) rfl ?_
  exact ⟨_, rfl, HB0.out, RowN.mono HO.out (by omega)⟩
set_option maxRecDepth 100000 in
set_option maxHeartbeats 6400000 in
theorem mirM_leaf (w : World) (B : Nat) (v : Value) (n : Nd) (hn : isLeafB n = true) (hv : LfN w B v [n]) (hB : B ≤ w.heap.size) :
    Calls Try.prog 33 #[.agg #[v]] w (TmSaid w [mirL n]) := by
  obtain ⟨k1, k14, -, -, hs⟩ := leaf_range hn
  have hm : mirL n = ⟨mirK n.k, n.v, ByteArray.empty⟩ := by unfold mirL; rw [hs]
  rw [hm]
  have HB0 := Lib.hid (show Below w.heap.size w ((w.alloc (.cells #[v] tTm)).alloc (.cells #[.slice none 0 0] tTm)) from ((Below.refl _ _).alloc (Nat.le_refl _) _).alloc (by simp) _)
  have HT0 := Lib.hid ((cellsAt_new' w #[v] tTm [v] w.heap.size rfl rfl).alloc (.cells #[.slice none 0 0] tTm))
  have HR0 := Lib.hid (cellsAt_new' (w.alloc (.cells #[v] tTm)) #[.slice none 0 0] tTm [.slice none 0 0] (w.heap.size + 1) (by simp) rfl)
  have hsz0 : ((w.alloc (.cells #[v] tTm)).alloc (.cells #[.slice none 0 0] tTm)).heap.size = w.heap.size + 2 := by simp
  have htp := tmTop_any ((w.alloc (.cells #[v] tTm)).alloc (.cells #[.slice none 0 0] tTm)) B v [n] (hv.below HB0.out hB) (by simp; omega) (by simp) (by simp)
  rw [show ([n].getD ([n].length - 1) nd0) = n from rfl] at htp
  have HTP := Lib.hid htp
  have HV := Lib.hid hv.1
  have HB := Lib.hid hB
  have HKD := Lib.hid (fun w0 => tmMirrorKind_any w0 n.k k1 k14)
  obtain ⟨mk, HMK⟩ : ∃ mk, Hid (mirK n.k = mk) := ⟨_, Lib.hid rfl⟩
  rw [HMK.out]
  simp only [HMK.out] at HKD
  have HON := Lib.hid (fun w0 => tmOne_any w0 mk n.v)
  obtain ⟨z, HZ⟩ : ∃ z, Hid (([⟨mk, n.v, ByteArray.empty⟩] : List Nd) = z) := ⟨_, Lib.hid rfl⟩
  rw [HZ.out]
  simp only [HZ.out] at HON
  obtain ⟨A, c, rfl⟩ := hv.len
  rw [show [n].length = 1 from rfl] at *
  clear hv hB htp hn hm hs
  have hk15 : n.k < 15 := by omega
  go_enter Try.func33, Try.ntmps33
  go_wp2_with fail
  refine HTP.out.mono ?_
  rintro e w2 ⟨rfl, b2⟩
  have HB2 := Lib.hid (HB0.out.trans (b2.mono (by rw [hsz0]; omega)))
  have HT2 := Lib.hid (HT0.out.below b2 (by rw [hsz0]; omega))
  have HR2 := Lib.hid (HR0.out.below b2 (by rw [hsz0]; omega))
  have hsz2 : w.heap.size + 2 ≤ w2.heap.size := by rw [← hsz0]; exact b2.size
  have ht0 : w2.cell? ⟨w.heap.size, 0, none⟩ = some (.slice A 1 c) := HT2.out.cell (i := 0) (by simp)
  obtain ⟨b, o, rfl, hb, hc0, hc1, hc2⟩ := (HV.out.below HB2.out HB.out).at (k := 0) (by simp)
  rw [show [n].getD 0 nd0 = n from rfl, Nat.zero_mul, Nat.add_zero] at hc0 hc1 hc2
  have hbB : b < w.heap.size := Nat.lt_of_lt_of_le hb HB.out
  have HELD : Hid (∀ w' : World, Below (w.heap.size + 1) w2 w' → w'.cell? ⟨w.heap.size, 0, none⟩ = some (.slice (some ⟨b, o, none⟩) 1 c) ∧ w'.cell? ⟨b, o + 1, none⟩ = some (.int .i64 n.v)) := Lib.hid (fun w' H => ⟨(H.cell (p := ⟨w.heap.size, 0, none⟩) (by dsimp only; omega)).trans ht0, (H.cell (p := ⟨b, o + 1, none⟩) (by dsimp only; omega)).trans hc1⟩)
  have HD0 := Lib.hid (HELD.out w2.drew (Below.refl _ _).drew)
  clear b2 hc0 hc1 hc2
  go_wp2
  go_region_held3 (fun w' => w'.cell? ⟨w.heap.size, 0, none⟩ = some (.slice (some ⟨b, o, none⟩) 1 c) ∧ w'.cell? ⟨b, o + 1, none⟩ = some (.int .i64 n.v))
    (first | with_reducible exact HD0.out | with_reducible exact HD1.out | with_reducible exact HD2.out _ | fail)
    (first
      | (go_at_call 67; go_split_ands; refine (HKD.out _).mono ?_; rintro e w' ⟨rfl, rfl⟩)
      | (go_at_call 66; go_split_ands; refine (HON.out w2.drew).mono ?_; rintro e w3 ⟨v3, rfl, b3, o3⟩; obtain ⟨A3, c3, rfl⟩ := o3.form; have HO3 := Lib.hid o3; have HB3 : Hid (Below w2.heap.size w2 w3) := Lib.hid ((Below.refl _ _).drew.trans (b3.mono (by simp))); have HD1 := Lib.hid (HELD.out w3 (HB3.out.mono (by omega))); have HR3 := Lib.hid (HR2.out.below HB3.out (by omega)); have hr3 : w3.cell? ⟨w.heap.size + 1, 0, none⟩ = some (.slice none 0 0) := HR3.out.cell (i := 0) (by simp); have hrf3 := HR3.out.frozen; have HD2 : Hid (∀ u, (w3.setCell ⟨w.heap.size + 1, 0, none⟩ u).cell? ⟨w.heap.size, 0, none⟩ = some (.slice (some ⟨b, o, none⟩) 1 c) ∧ (w3.setCell ⟨w.heap.size + 1, 0, none⟩ u).cell? ⟨b, o + 1, none⟩ = some (.int .i64 n.v)) := Lib.hid (fun u => ⟨(World.cell?_of_block (w := w3) (blk_setCell_other _ _ _ _ (by dsimp only; omega))).trans HD1.out.1, (World.cell?_of_block (w := w3) (blk_setCell_other _ _ _ _ (by dsimp only; omega))).trans HD1.out.2⟩); clear b3 o3)
      | fail)
  have hq3 : (w3.setCell ⟨w.heap.size + 1, 0, none⟩ (.slice A3 z.length c3)).cell? ⟨w.heap.size + 1, 0, none⟩ = some (.slice A3 z.length c3) := (HR3.out.set 0 (.slice A3 z.length c3)).cell (i := 0) (by simp)
  go_wp2
  refine bodyPost_ret (v := .agg #[.slice A3 z.length c3]) (by simp [results, Try.results33, go_sem, hq3]) rfl ?_
  exact ⟨_, rfl, (HB2.out.trans (HB3.out.mono (by omega))).setCell (by dsimp only; omega) _, RowN.mono (HO3.out.set (by simp; omega)) (by simp; omega)⟩
set_option maxRecDepth 100000 in
set_option maxHeartbeats 12800000 in
theorem mirM_seq (w : World) (B : Nat) (v : Value) (t ta tb : Tr) (hj : Jt t ta tb) (hV : VTr t) (hl : (nodesOf t).length ≤ 400) (hv : LfN w B v (nodesOf t)) (hB : B ≤ w.heap.size) (ma mb : List Nd) (hml : ma.length + mb.length + 1 ≤ 1000000) (hk : (((nodesOf t).getD ((nodesOf t).length - 1) nd0).k = 15))
    (hA : ∀ (w : World) (B : Nat) (v : Value), LfN w B v (nodesOf ta) → B ≤ w.heap.size → Calls Try.prog 33 #[.agg #[v]] w (TmSaid w ma))
    (hC : ∀ (w : World) (B : Nat) (v : Value), LfN w B v (nodesOf tb) → B ≤ w.heap.size → Calls Try.prog 33 #[.agg #[v]] w (TmSaid w mb)) :
    Calls Try.prog 33 #[.agg #[v]] w (TmSaid w (mb ++ (ma ++ [jointN 15]))) := by
  have hpos := nodes_pos t
  obtain ⟨hva, hvb⟩ := hj.valid hV
  obtain ⟨K, -, hn⟩ := hj.nodes
  have hla : (nodesOf ta).length ≤ 400 := by rw [hn, List.length_append] at hl; omega
  have hlb : (nodesOf tb).length ≤ 400 := by rw [hn, List.length_append, List.length_append] at hl; omega
  have HB0 := Lib.hid (show Below w.heap.size w ((w.alloc (.cells #[v] tTm)).alloc (.cells #[.slice none 0 0] tTm)) from ((Below.refl _ _).alloc (Nat.le_refl _) _).alloc (by simp) _)
  have HT0 := Lib.hid ((cellsAt_new' w #[v] tTm [v] w.heap.size rfl rfl).alloc (.cells #[.slice none 0 0] tTm))
  have HR0 := Lib.hid (cellsAt_new' (w.alloc (.cells #[v] tTm)) #[.slice none 0 0] tTm [.slice none 0 0] (w.heap.size + 1) (by simp) rfl)
  have hsz0 : ((w.alloc (.cells #[v] tTm)).alloc (.cells #[.slice none 0 0] tTm)).heap.size = w.heap.size + 2 := by simp
  have HTP := Lib.hid (tmTop_any ((w.alloc (.cells #[v] tTm)).alloc (.cells #[.slice none 0 0] tTm)) B v (nodesOf t) (hv.below HB0.out hB) (by simp; omega) hpos hl)
  rw [hk] at HTP
  have HPP := Lib.hid (fun (w' : World) (hb : Below w.heap.size w w') => tmParts_any w' B v t ta tb hj hV hl (hv.below hb hB) (Nat.le_trans hB hb.size))
  have HAA := Lib.hid hA
  have HCC := Lib.hid hC
  have HTJ := Lib.hid (fun (w' : World) (r1 r2 : Value) (h1 : RdN w' (fun b => b < w'.heap.size) r1 mb) (h2 : RdN w' (fun b => b < w'.heap.size) r2 ma) => tmSeq_any w' w'.heap.size r1 r2 mb ma h1 h2 (Nat.le_refl _) (by omega))
  obtain ⟨z, HZ⟩ : ∃ z, Hid (mb ++ (ma ++ [jointN 15]) = z) := ⟨_, Lib.hid rfl⟩
  rw [HZ.out]
  simp only [HZ.out] at HTJ
  obtain ⟨A, c, rfl⟩ := hv.len
  have HLA : Hid (∀ (w' : World) (B' B2 : Nat) (v' : Value), RowN w' B' v' (nodesOf ta) → B2 = w'.heap.size → LfN w' B2 v' (nodesOf ta)) := Lib.hid (fun w' B' B2 v' h e => by rw [e]; exact LfN.tree hva hla h.own.readB)
  have HLB : Hid (∀ (w' : World) (B' B2 : Nat) (v' : Value), RowN w' B' v' (nodesOf tb) → B2 = w'.heap.size → LfN w' B2 v' (nodesOf tb)) := Lib.hid (fun w' B' B2 v' h e => by rw [e]; exact LfN.tree hvb hlb h.own.readB)
  clear hv hB hk hA hC hn hl hla hlb hpos hj hV hml
  generalize nodesOf t = x at *
  go_enter Try.func33, Try.ntmps33
  go_wp2_with fail
  refine HTP.out.mono ?_
  rintro e w2 ⟨rfl, b2⟩
  have HB2 := Lib.hid (HB0.out.trans (b2.mono (by rw [hsz0]; omega)))
  have HT2 := Lib.hid (HT0.out.below b2 (by rw [hsz0]; omega))
  have HR2 := Lib.hid (HR0.out.below b2 (by rw [hsz0]; omega))
  have hsz2 : w.heap.size + 2 ≤ w2.heap.size := by rw [← hsz0]; exact b2.size
  have ht0 : w2.cell? ⟨w.heap.size, 0, none⟩ = some (.slice A x.length c) := HT2.out.cell (i := 0) (by simp)
  clear b2
  go_wp2_with fail
  refine (HPP.out _ HB2.out).mono ?_
  rintro e w3 ⟨va, vb, rfl, b3, oa, ob⟩
  have HB3 := Lib.hid (HB2.out.trans (b3.mono HB2.out.size))
  have HR3 := Lib.hid (HR2.out.below b3 (by omega))
  have hsz3 : w2.heap.size ≤ w3.heap.size := b3.size
  obtain ⟨A3, c3, rfl⟩ := oa.form
  obtain ⟨A4, c4, rfl⟩ := ob.form
  generalize hxa : nodesOf ta = xa at *
  generalize hxb : nodesOf tb = xb at *
  have HLA3 := Lib.hid (HLA.out w3 _ _ _ oa rfl)
  have HLB3 := Lib.hid (HLB.out w3 _ _ _ ob rfl)
  have HW4 : Hid (Below w3.heap.size w3 ((w3.alloc (.cells #[.slice A3 xa.length c3] tTm)).alloc (.cells #[.slice A4 xb.length c4] tTm))) := Lib.hid (by repeat' (first | exact Below.refl _ _ | apply Below.drew | apply below_drewN | apply Below.setCell | apply Below.alloc | (simp; done) | omega | (simp; omega)))
  have HXA := Lib.hid ((cellsAt_new' w3 #[.slice A3 xa.length c3] tTm [.slice A3 xa.length c3] w3.heap.size rfl rfl).alloc (.cells #[.slice A4 xb.length c4] tTm))
  have HXB := Lib.hid (cellsAt_new' (w3.alloc (.cells #[.slice A3 xa.length c3] tTm)) #[.slice A4 xb.length c4] tTm [.slice A4 xb.length c4] (w3.heap.size + 1) (by simp) rfl)
  have hsz4 : ((w3.alloc (.cells #[.slice A3 xa.length c3] tTm)).alloc (.cells #[.slice A4 xb.length c4] tTm)).heap.size = w3.heap.size + 2 := by simp
  have HELD : Hid (∀ w' : World, Below (w3.heap.size + 2) ((w3.alloc (.cells #[.slice A3 xa.length c3] tTm)).alloc (.cells #[.slice A4 xb.length c4] tTm)) w' → w'.cell? ⟨w3.heap.size, 0, none⟩ = some (.slice A3 xa.length c3) ∧ w'.cell? ⟨w3.heap.size + 1, 0, none⟩ = some (.slice A4 xb.length c4)) := Lib.hid (fun w' H => ⟨(HXA.out.below H (by omega)).cell (i := 0) (by simp), (HXB.out.below H (by omega)).cell (i := 0) (by simp)⟩)
  have HD0 := Lib.hid (HELD.out ((w3.alloc (.cells #[.slice A3 xa.length c3] tTm)).alloc (.cells #[.slice A4 xb.length c4] tTm)).drew (Below.refl _ _).drew)
  have HFST : Hid (Calls Try.prog 33 #[.agg #[(.slice A4 xb.length c4)]] ((w3.alloc (.cells #[.slice A3 xa.length c3] tTm)).alloc (.cells #[.slice A4 xb.length c4] tTm)).drew (TmSaid ((w3.alloc (.cells #[.slice A3 xa.length c3] tTm)).alloc (.cells #[.slice A4 xb.length c4] tTm)).drew mb)) := Lib.hid (HCC.out ((w3.alloc (.cells #[.slice A3 xa.length c3] tTm)).alloc (.cells #[.slice A4 xb.length c4] tTm)).drew w3.heap.size (.slice A4 xb.length c4) ((HLB3.out.below HW4.out (Nat.le_refl _)).below (B' := w3.heap.size) (Below.refl _ _).drew (Nat.le_refl _)) (by simp; omega))
  have HSND : Hid (∀ w', Below (w3.heap.size + 2) ((w3.alloc (.cells #[.slice A3 xa.length c3] tTm)).alloc (.cells #[.slice A4 xb.length c4] tTm)) w' → Calls Try.prog 33 #[.agg #[(.slice A3 xa.length c3)]] w' (TmSaid w' ma)) := Lib.hid (fun w' H => HAA.out w' w3.heap.size (.slice A3 xa.length c3) ((HLA3.out.below HW4.out (Nat.le_refl _)).below H (by omega)) (by have := H.size; rw [hsz4] at this; omega))
  clear b3 oa ob hxa hxb
  go_wp2
  go_region_held3 (fun w' => w'.cell? ⟨w3.heap.size, 0, none⟩ = some (.slice A3 xa.length c3) ∧ w'.cell? ⟨w3.heap.size + 1, 0, none⟩ = some (.slice A4 xb.length c4))
    (first | with_reducible exact HD0.out | with_reducible exact HD1.out | with_reducible exact HD2.out | with_reducible exact HD3.out | with_reducible exact HD4.out _ | fail)
    (first
      | (go_at_call 33; go_split_ands; (with_reducible refine HFST.out.mono ?_); rintro e w5 ⟨r1, rfl, b5, o5⟩; have HO5 := Lib.hid o5; have HB5 : Hid (Below (w3.heap.size + 2) ((w3.alloc (.cells #[.slice A3 xa.length c3] tTm)).alloc (.cells #[.slice A4 xb.length c4] tTm)) w5) := Lib.hid ((Below.refl _ _).drew.trans (b5.mono (by simp))); have HD1 := Lib.hid (HELD.out w5 HB5.out); have hsz5 : w3.heap.size + 2 ≤ w5.heap.size := Nat.le_trans (by simp) HB5.out.size; obtain ⟨A5, c5, rfl⟩ := o5.form; clear b5 o5)
      | (go_at_call 33; go_split_ands; (with_reducible refine (HSND.out _ HB5.out).mono ?_); rintro e w6 ⟨r2, rfl, b6, o6⟩; have HO6 := Lib.hid o6; have HO5' := Lib.hid (HO5.out.below b6); have HB6 : Hid (Below (w3.heap.size + 2) ((w3.alloc (.cells #[.slice A3 xa.length c3] tTm)).alloc (.cells #[.slice A4 xb.length c4] tTm)) w6) := Lib.hid (HB5.out.trans (b6.mono hsz5)); have HD2 := Lib.hid (HELD.out w6 HB6.out); have hsz6 : w5.heap.size ≤ w6.heap.size := b6.size; obtain ⟨A6, c6, rfl⟩ := o6.form; clear b6 o6)
      | (go_at_call 69; go_split_ands; refine (HTJ.out w6 _ _ HO5'.out.own.readB HO6.out.own.readB).mono ?_; rintro e w7 ⟨r3, rfl, b7, o7⟩; have HO7 := Lib.hid o7; have HB7 : Hid (Below (w3.heap.size + 2) ((w3.alloc (.cells #[.slice A3 xa.length c3] tTm)).alloc (.cells #[.slice A4 xb.length c4] tTm)) w7) := Lib.hid (HB6.out.trans (b7.mono (by omega))); have HD3 := Lib.hid (HELD.out w7 HB7.out); have hsz7 : w6.heap.size ≤ w7.heap.size := b7.size; obtain ⟨A7, c7, rfl⟩ := o7.form; have HR7 := Lib.hid (((HR3.out.alloc (.cells #[.slice A3 xa.length c3] tTm)).alloc (.cells #[.slice A4 xb.length c4] tTm)).below HB7.out (by omega)); have hr7 : w7.cell? ⟨w.heap.size + 1, 0, none⟩ = some (.slice none 0 0) := HR7.out.cell (i := 0) (by simp); have hrf7 := HR7.out.frozen; have HD4 : Hid (∀ u, (w7.setCell ⟨w.heap.size + 1, 0, none⟩ u).cell? ⟨w3.heap.size, 0, none⟩ = some (.slice A3 xa.length c3) ∧ (w7.setCell ⟨w.heap.size + 1, 0, none⟩ u).cell? ⟨w3.heap.size + 1, 0, none⟩ = some (.slice A4 xb.length c4)) := Lib.hid (fun u => ⟨(World.cell?_of_block (w := w7) (blk_setCell_other _ _ _ _ (by dsimp only; omega))).trans HD3.out.1, (World.cell?_of_block (w := w7) (blk_setCell_other _ _ _ _ (by dsimp only; omega))).trans HD3.out.2⟩); clear b7 o7)
      | fail)
  have hq7 : (w7.setCell ⟨w.heap.size + 1, 0, none⟩ (.slice A7 z.length c7)).cell? ⟨w.heap.size + 1, 0, none⟩ = some (.slice A7 z.length c7) := (HR7.out.set 0 (.slice A7 z.length c7)).cell (i := 0) (by simp)
  go_wp2
  refine bodyPost_ret (v := .agg #[.slice A7 z.length c7]) (by simp [results, Try.results33, go_sem, hq7]) rfl ?_
  exact ⟨_, rfl, ((HB3.out.trans (HW4.out.mono (by omega))).trans (HB7.out.mono (by omega))).setCell (by dsimp only; omega) _, RowN.mono (HO7.out.set (by omega)) (by omega)⟩
set_option maxRecDepth 100000 in
set_option maxHeartbeats 12800000 in
theorem mirM_par (w : World) (B : Nat) (v : Value) (t ta tb : Tr) (hj : Jt t ta tb) (hV : VTr t) (hl : (nodesOf t).length ≤ 400) (hv : LfN w B v (nodesOf t)) (hB : B ≤ w.heap.size) (ma mb : List Nd) (hml : ma.length + mb.length + 1 ≤ 1000000) (hk : (((nodesOf t).getD ((nodesOf t).length - 1) nd0).k = 16))
    (hA : ∀ (w : World) (B : Nat) (v : Value), LfN w B v (nodesOf ta) → B ≤ w.heap.size → Calls Try.prog 33 #[.agg #[v]] w (TmSaid w ma))
    (hC : ∀ (w : World) (B : Nat) (v : Value), LfN w B v (nodesOf tb) → B ≤ w.heap.size → Calls Try.prog 33 #[.agg #[v]] w (TmSaid w mb)) :
    Calls Try.prog 33 #[.agg #[v]] w (TmSaid w (ma ++ (mb ++ [jointN 16]))) := by
  have hpos := nodes_pos t
  obtain ⟨hva, hvb⟩ := hj.valid hV
  obtain ⟨K, -, hn⟩ := hj.nodes
  have hla : (nodesOf ta).length ≤ 400 := by rw [hn, List.length_append] at hl; omega
  have hlb : (nodesOf tb).length ≤ 400 := by rw [hn, List.length_append, List.length_append] at hl; omega
  have HB0 := Lib.hid (show Below w.heap.size w ((w.alloc (.cells #[v] tTm)).alloc (.cells #[.slice none 0 0] tTm)) from ((Below.refl _ _).alloc (Nat.le_refl _) _).alloc (by simp) _)
  have HT0 := Lib.hid ((cellsAt_new' w #[v] tTm [v] w.heap.size rfl rfl).alloc (.cells #[.slice none 0 0] tTm))
  have HR0 := Lib.hid (cellsAt_new' (w.alloc (.cells #[v] tTm)) #[.slice none 0 0] tTm [.slice none 0 0] (w.heap.size + 1) (by simp) rfl)
  have hsz0 : ((w.alloc (.cells #[v] tTm)).alloc (.cells #[.slice none 0 0] tTm)).heap.size = w.heap.size + 2 := by simp
  have HTP := Lib.hid (tmTop_any ((w.alloc (.cells #[v] tTm)).alloc (.cells #[.slice none 0 0] tTm)) B v (nodesOf t) (hv.below HB0.out hB) (by simp; omega) hpos hl)
  rw [hk] at HTP
  have HPP := Lib.hid (fun (w' : World) (hb : Below w.heap.size w w') => tmParts_any w' B v t ta tb hj hV hl (hv.below hb hB) (Nat.le_trans hB hb.size))
  have HAA := Lib.hid hA
  have HCC := Lib.hid hC
  have HTJ := Lib.hid (fun (w' : World) (r1 r2 : Value) (h1 : RdN w' (fun b => b < w'.heap.size) r1 ma) (h2 : RdN w' (fun b => b < w'.heap.size) r2 mb) => tmPar_any w' w'.heap.size r1 r2 ma mb h1 h2 (Nat.le_refl _) (by omega))
  obtain ⟨z, HZ⟩ : ∃ z, Hid (ma ++ (mb ++ [jointN 16]) = z) := ⟨_, Lib.hid rfl⟩
  rw [HZ.out]
  simp only [HZ.out] at HTJ
  obtain ⟨A, c, rfl⟩ := hv.len
  have HLA : Hid (∀ (w' : World) (B' B2 : Nat) (v' : Value), RowN w' B' v' (nodesOf ta) → B2 = w'.heap.size → LfN w' B2 v' (nodesOf ta)) := Lib.hid (fun w' B' B2 v' h e => by rw [e]; exact LfN.tree hva hla h.own.readB)
  have HLB : Hid (∀ (w' : World) (B' B2 : Nat) (v' : Value), RowN w' B' v' (nodesOf tb) → B2 = w'.heap.size → LfN w' B2 v' (nodesOf tb)) := Lib.hid (fun w' B' B2 v' h e => by rw [e]; exact LfN.tree hvb hlb h.own.readB)
  clear hv hB hk hA hC hn hl hla hlb hpos hj hV hml
  generalize nodesOf t = x at *
  go_enter Try.func33, Try.ntmps33
  go_wp2_with fail
  refine HTP.out.mono ?_
  rintro e w2 ⟨rfl, b2⟩
  have HB2 := Lib.hid (HB0.out.trans (b2.mono (by rw [hsz0]; omega)))
  have HT2 := Lib.hid (HT0.out.below b2 (by rw [hsz0]; omega))
  have HR2 := Lib.hid (HR0.out.below b2 (by rw [hsz0]; omega))
  have hsz2 : w.heap.size + 2 ≤ w2.heap.size := by rw [← hsz0]; exact b2.size
  have ht0 : w2.cell? ⟨w.heap.size, 0, none⟩ = some (.slice A x.length c) := HT2.out.cell (i := 0) (by simp)
  clear b2
  go_wp2_with fail
  refine (HPP.out _ HB2.out).mono ?_
  rintro e w3 ⟨va, vb, rfl, b3, oa, ob⟩
  have HB3 := Lib.hid (HB2.out.trans (b3.mono HB2.out.size))
  have HR3 := Lib.hid (HR2.out.below b3 (by omega))
  have hsz3 : w2.heap.size ≤ w3.heap.size := b3.size
  obtain ⟨A3, c3, rfl⟩ := oa.form
  obtain ⟨A4, c4, rfl⟩ := ob.form
  generalize hxa : nodesOf ta = xa at *
  generalize hxb : nodesOf tb = xb at *
  have HLA3 := Lib.hid (HLA.out w3 _ _ _ oa rfl)
  have HLB3 := Lib.hid (HLB.out w3 _ _ _ ob rfl)
  have HW4 : Hid (Below w3.heap.size w3 ((w3.alloc (.cells #[.slice A3 xa.length c3] tTm)).alloc (.cells #[.slice A4 xb.length c4] tTm))) := Lib.hid (by repeat' (first | exact Below.refl _ _ | apply Below.drew | apply below_drewN | apply Below.setCell | apply Below.alloc | (simp; done) | omega | (simp; omega)))
  have HXA := Lib.hid ((cellsAt_new' w3 #[.slice A3 xa.length c3] tTm [.slice A3 xa.length c3] w3.heap.size rfl rfl).alloc (.cells #[.slice A4 xb.length c4] tTm))
  have HXB := Lib.hid (cellsAt_new' (w3.alloc (.cells #[.slice A3 xa.length c3] tTm)) #[.slice A4 xb.length c4] tTm [.slice A4 xb.length c4] (w3.heap.size + 1) (by simp) rfl)
  have hsz4 : ((w3.alloc (.cells #[.slice A3 xa.length c3] tTm)).alloc (.cells #[.slice A4 xb.length c4] tTm)).heap.size = w3.heap.size + 2 := by simp
  have HELD : Hid (∀ w' : World, Below (w3.heap.size + 2) ((w3.alloc (.cells #[.slice A3 xa.length c3] tTm)).alloc (.cells #[.slice A4 xb.length c4] tTm)) w' → w'.cell? ⟨w3.heap.size, 0, none⟩ = some (.slice A3 xa.length c3) ∧ w'.cell? ⟨w3.heap.size + 1, 0, none⟩ = some (.slice A4 xb.length c4)) := Lib.hid (fun w' H => ⟨(HXA.out.below H (by omega)).cell (i := 0) (by simp), (HXB.out.below H (by omega)).cell (i := 0) (by simp)⟩)
  have HD0 := Lib.hid (HELD.out ((w3.alloc (.cells #[.slice A3 xa.length c3] tTm)).alloc (.cells #[.slice A4 xb.length c4] tTm)).drew (Below.refl _ _).drew)
  have HFST : Hid (Calls Try.prog 33 #[.agg #[(.slice A3 xa.length c3)]] ((w3.alloc (.cells #[.slice A3 xa.length c3] tTm)).alloc (.cells #[.slice A4 xb.length c4] tTm)).drew (TmSaid ((w3.alloc (.cells #[.slice A3 xa.length c3] tTm)).alloc (.cells #[.slice A4 xb.length c4] tTm)).drew ma)) := Lib.hid (HAA.out ((w3.alloc (.cells #[.slice A3 xa.length c3] tTm)).alloc (.cells #[.slice A4 xb.length c4] tTm)).drew w3.heap.size (.slice A3 xa.length c3) ((HLA3.out.below HW4.out (Nat.le_refl _)).below (B' := w3.heap.size) (Below.refl _ _).drew (Nat.le_refl _)) (by simp; omega))
  have HSND : Hid (∀ w', Below (w3.heap.size + 2) ((w3.alloc (.cells #[.slice A3 xa.length c3] tTm)).alloc (.cells #[.slice A4 xb.length c4] tTm)) w' → Calls Try.prog 33 #[.agg #[(.slice A4 xb.length c4)]] w' (TmSaid w' mb)) := Lib.hid (fun w' H => HCC.out w' w3.heap.size (.slice A4 xb.length c4) ((HLB3.out.below HW4.out (Nat.le_refl _)).below H (by omega)) (by have := H.size; rw [hsz4] at this; omega))
  clear b3 oa ob hxa hxb
  go_wp2
  go_region_held3 (fun w' => w'.cell? ⟨w3.heap.size, 0, none⟩ = some (.slice A3 xa.length c3) ∧ w'.cell? ⟨w3.heap.size + 1, 0, none⟩ = some (.slice A4 xb.length c4))
    (first | with_reducible exact HD0.out | with_reducible exact HD1.out | with_reducible exact HD2.out | with_reducible exact HD3.out | with_reducible exact HD4.out _ | fail)
    (first
      | (go_at_call 33; go_split_ands; (with_reducible refine HFST.out.mono ?_); rintro e w5 ⟨r1, rfl, b5, o5⟩; have HO5 := Lib.hid o5; have HB5 : Hid (Below (w3.heap.size + 2) ((w3.alloc (.cells #[.slice A3 xa.length c3] tTm)).alloc (.cells #[.slice A4 xb.length c4] tTm)) w5) := Lib.hid ((Below.refl _ _).drew.trans (b5.mono (by simp))); have HD1 := Lib.hid (HELD.out w5 HB5.out); have hsz5 : w3.heap.size + 2 ≤ w5.heap.size := Nat.le_trans (by simp) HB5.out.size; obtain ⟨A5, c5, rfl⟩ := o5.form; clear b5 o5)
      | (go_at_call 33; go_split_ands; (with_reducible refine (HSND.out _ HB5.out).mono ?_); rintro e w6 ⟨r2, rfl, b6, o6⟩; have HO6 := Lib.hid o6; have HO5' := Lib.hid (HO5.out.below b6); have HB6 : Hid (Below (w3.heap.size + 2) ((w3.alloc (.cells #[.slice A3 xa.length c3] tTm)).alloc (.cells #[.slice A4 xb.length c4] tTm)) w6) := Lib.hid (HB5.out.trans (b6.mono hsz5)); have HD2 := Lib.hid (HELD.out w6 HB6.out); have hsz6 : w5.heap.size ≤ w6.heap.size := b6.size; obtain ⟨A6, c6, rfl⟩ := o6.form; clear b6 o6)
      | (go_at_call 70; go_split_ands; refine (HTJ.out w6 _ _ HO5'.out.own.readB HO6.out.own.readB).mono ?_; rintro e w7 ⟨r3, rfl, b7, o7⟩; have HO7 := Lib.hid o7; have HB7 : Hid (Below (w3.heap.size + 2) ((w3.alloc (.cells #[.slice A3 xa.length c3] tTm)).alloc (.cells #[.slice A4 xb.length c4] tTm)) w7) := Lib.hid (HB6.out.trans (b7.mono (by omega))); have HD3 := Lib.hid (HELD.out w7 HB7.out); have hsz7 : w6.heap.size ≤ w7.heap.size := b7.size; obtain ⟨A7, c7, rfl⟩ := o7.form; have HR7 := Lib.hid (((HR3.out.alloc (.cells #[.slice A3 xa.length c3] tTm)).alloc (.cells #[.slice A4 xb.length c4] tTm)).below HB7.out (by omega)); have hr7 : w7.cell? ⟨w.heap.size + 1, 0, none⟩ = some (.slice none 0 0) := HR7.out.cell (i := 0) (by simp); have hrf7 := HR7.out.frozen; have HD4 : Hid (∀ u, (w7.setCell ⟨w.heap.size + 1, 0, none⟩ u).cell? ⟨w3.heap.size, 0, none⟩ = some (.slice A3 xa.length c3) ∧ (w7.setCell ⟨w.heap.size + 1, 0, none⟩ u).cell? ⟨w3.heap.size + 1, 0, none⟩ = some (.slice A4 xb.length c4)) := Lib.hid (fun u => ⟨(World.cell?_of_block (w := w7) (blk_setCell_other _ _ _ _ (by dsimp only; omega))).trans HD3.out.1, (World.cell?_of_block (w := w7) (blk_setCell_other _ _ _ _ (by dsimp only; omega))).trans HD3.out.2⟩); clear b7 o7)
      | fail)
  have hq7 : (w7.setCell ⟨w.heap.size + 1, 0, none⟩ (.slice A7 z.length c7)).cell? ⟨w.heap.size + 1, 0, none⟩ = some (.slice A7 z.length c7) := (HR7.out.set 0 (.slice A7 z.length c7)).cell (i := 0) (by simp)
  go_wp2
  refine bodyPost_ret (v := .agg #[.slice A7 z.length c7]) (by simp [results, Try.results33, go_sem, hq7]) rfl ?_
  exact ⟨_, rfl, ((HB3.out.trans (HW4.out.mono (by omega))).trans (HB7.out.mono (by omega))).setCell (by dsimp only; omega) _, RowN.mono (HO7.out.set (by omega)) (by omega)⟩
theorem getD_lastN (l : List Nd) (n : Nd) : (l ++ [n]).getD ((l ++ [n]).length - 1) nd0 = n := by
  rw [List.length_append, List.length_cons, List.length_nil, Nat.zero_add, Nat.add_sub_cancel, List.getD_eq_getElem?_getD, List.getElem?_append_right (Nat.le_refl _), Nat.sub_self]
  rfl
theorem Jt.topN {t a b : Tr} {K : Int} (h : nodesOf t = nodesOf a ++ (nodesOf b ++ [jointN K])) : ((nodesOf t).getD ((nodesOf t).length - 1) nd0).k = K := by
  rw [h, ← List.append_assoc, getD_lastN]
  rfl
theorem tmMirror_any : ∀ (t : Tr), VTr t → (nodesOf t).length ≤ 400 → ∀ (w : World) (B : Nat) (v : Value), LfN w B v (nodesOf t) → B ≤ w.heap.size → Calls Try.prog 33 #[.agg #[v]] w (TmSaid w (nodesOf (mirT t)))
  | .leaf n i o, hV, _, w, B, v, hv, hB => by
    exact mirM_leaf w B v n hV.1 hv hB
  | .seq a b i o, hV, hl, w, B, v, hv, hB => by
    have hl2 : (nodesOf a).length + (nodesOf b).length ≤ 400 := by simp only [nodesOf, List.length_append, List.length_cons, List.length_nil] at hl; omega
    have ma := (mirT_valid hV.1).2.2.2
    have mb := (mirT_valid hV.2.1).2.2.2
    exact mirM_seq w B v (.seq a b i o) a b (Or.inl ⟨i, o, rfl⟩) hV hl hv hB _ _ (by omega) (Jt.topN rfl) (tmMirror_any a hV.1 (by omega)) (tmMirror_any b hV.2.1 (by omega))
  | .par a b i o, hV, hl, w, B, v, hv, hB => by
    have hl2 : (nodesOf a).length + (nodesOf b).length ≤ 400 := by simp only [nodesOf, List.length_append, List.length_cons, List.length_nil] at hl; omega
    have ma := (mirT_valid hV.1).2.2.2
    have mb := (mirT_valid hV.2.1).2.2.2
    exact mirM_par w B v (.par a b i o) a b (Or.inr ⟨i, o, rfl⟩) hV hl hv hB _ _ (by omega) (Jt.topN rfl) (tmMirror_any a hV.1 (by omega)) (tmMirror_any b hV.2.1 (by omega))
set_option maxRecDepth 100000 in
set_option maxHeartbeats 6400000 in
theorem spec_MirrorTerm (w : World) (B : Nat) (v : Value) (x : List Nd) (hv : LfN w B v x) (hB : B ≤ w.heap.size) (_ : szN x ≤ 1048576) :
    Calls Try.prog 9 #[.agg #[v]] w (SRetTermB w (miL x) (tyOk x)) := by
  have HB0 := Lib.hid (show Below w.heap.size w ((w.alloc (.cells #[v] tTm)).alloc (.cells #[.slice none 0 0] tTm)) from ((Below.refl _ _).alloc (Nat.le_refl _) _).alloc (by simp) _)
  have HT0 := Lib.hid ((cellsAt_new' w #[v] tTm [v] w.heap.size rfl rfl).alloc (.cells #[.slice none 0 0] tTm))
  have HR0 := Lib.hid (cellsAt_new' (w.alloc (.cells #[v] tTm)) #[.slice none 0 0] tTm [.slice none 0 0] (w.heap.size + 1) (by simp) rfl)
  have hsz0 : ((w.alloc (.cells #[v] tTm)).alloc (.cells #[.slice none 0 0] tTm)).heap.size = w.heap.size + 2 := by simp
  have HVA := Lib.hid (tmValid_any ((w.alloc (.cells #[v] tTm)).alloc (.cells #[.slice none 0 0] tTm)) B v x (hv.below HB0.out hB) (by simp; omega))
  have HLV := Lib.hid (fun (w' : World) (hb : Below w.heap.size w w') => hv.below hb hB)
  have HBB := Lib.hid hB
  obtain ⟨A, c, rfl⟩ := hv.len
  clear hv hB
  cases ht : treeOf x with
  | none =>
    have H3 : Hid (tyOk x = false) := Lib.hid (by unfold tyOk; rw [ht]; rfl)
    have H1 : Hid (miL x = []) := Lib.hid (by unfold miL; rw [ht])
    have HOK : Hid (okS x = false) := Lib.hid (by rw [ok_both, ht]; rfl)
    clear ht
    go_enter Try.func9, Try.ntmps9
    go_wp2_with fail
    refine HVA.out.mono ?_
    rintro e w2 ⟨rfl, b2⟩
    rw [HOK.out]
    have HB2 := Lib.hid (HB0.out.trans (b2.mono (by rw [hsz0]; omega)))
    have HR2 := Lib.hid (HR0.out.below b2 (by rw [hsz0]; omega))
    have hr2 : w2.cell? ⟨w.heap.size + 1, 0, none⟩ = some (.slice none 0 0) := HR2.out.cell (i := 0) (by simp)
    have hrf2 := HR2.out.frozen
    have hq2 : (w2.setCell ⟨w.heap.size + 1, 0, none⟩ (.slice none 0 0)).cell? ⟨w.heap.size + 1, 0, none⟩ = some (.slice none 0 0) := (HR2.out.set 0 (.slice none 0 0)).cell (i := 0) (by simp)
    clear b2
    go_wp2
    refine bodyPost_ret (v := .tuple #[.agg #[.slice none 0 0], .bool false]) (by simp [results, Try.results9, go_sem, hq2]) rfl ?_
    unfold SRetTermB
    rw [H1.out, H3.out]
    exact ⟨_, rfl, HB2.out.setCell (by dsimp only; omega) _, ownN_nil' _ _⟩
  | some t =>
    have H3 : Hid (tyOk x = true) := Lib.hid (by unfold tyOk; rw [ht]; rfl)
    have H1 : Hid (miL x = nodesOf (mirT t)) := Lib.hid (by unfold miL; rw [ht])
    have HOK : Hid (okS x = true) := Lib.hid (by rw [ok_both, ht]; rfl)
    obtain ⟨hV, hn, hl⟩ := tree_valid ht
    obtain ⟨mV, -, -, mL⟩ := mirT_valid hV
    have hml : (nodesOf (mirT t)).length ≤ 400 := by rw [mL, hn]; exact hl
    have HON := Lib.hid (fun (w' : World) (S : Nat → Prop) (v' : Value) (h : OwN w' S v' (nodesOf (mirT t))) => OwnN.tree mV hml h)
    have HTM := Lib.hid (fun (w' : World) (hb : Below w.heap.size w w') => tmMirror_any t hV (by rw [hn]; exact hl) w' B (.slice A x.length c) (by rw [hn]; exact HLV.out w' hb) (Nat.le_trans HBB.out hb.size))
    generalize nodesOf (mirT t) = z at *
    clear ht hV hn hl mV mL hml
    go_enter Try.func9, Try.ntmps9
    go_wp2_with fail
    refine HVA.out.mono ?_
    rintro e w2 ⟨rfl, b2⟩
    rw [HOK.out]
    have HB2 := Lib.hid (HB0.out.trans (b2.mono (by rw [hsz0]; omega)))
    have HT2 := Lib.hid (HT0.out.below b2 (by rw [hsz0]; omega))
    have HR2 := Lib.hid (HR0.out.below b2 (by rw [hsz0]; omega))
    have hsz2 : w.heap.size + 2 ≤ w2.heap.size := by rw [← hsz0]; exact b2.size
    have ht0 : w2.cell? ⟨w.heap.size, 0, none⟩ = some (.slice A x.length c) := HT2.out.cell (i := 0) (by simp)
    clear b2
    go_wp2_with fail
    refine (HTM.out _ HB2.out).mono ?_
    rintro e w3 ⟨v3, rfl, b3, o3⟩
    obtain ⟨A3, c3, rfl⟩ := o3.form
    have HO3 := Lib.hid o3
    have HB3 := Lib.hid (HB2.out.trans (b3.mono HB2.out.size))
    have HR3 := Lib.hid (HR2.out.below b3 (by omega))
    have hsz3 : w2.heap.size ≤ w3.heap.size := b3.size
    have hr3 : w3.cell? ⟨w.heap.size + 1, 0, none⟩ = some (.slice none 0 0) := HR3.out.cell (i := 0) (by simp)
    have hrf3 := HR3.out.frozen
    have hq3 : (w3.setCell ⟨w.heap.size + 1, 0, none⟩ (.slice A3 z.length c3)).cell? ⟨w.heap.size + 1, 0, none⟩ = some (.slice A3 z.length c3) := (HR3.out.set 0 (.slice A3 z.length c3)).cell (i := 0) (by simp)
    clear b3 o3 ht0
    go_wp2
    refine bodyPost_ret (v := .tuple #[.agg #[.slice A3 z.length c3], .bool true]) (by simp [results, Try.results9, go_sem, hq3]) rfl ?_
    unfold SRetTermB
    rw [H1.out, H3.out]
    exact ⟨_, rfl, HB3.out.setCell (by dsimp only; omega) _, HON.out _ _ _ ((HO3.out.own.blocks (fun q hq hql => blk_setCell_other _ _ _ _ (by dsimp only; omega))).mono (fun q hq _ => by omega))⟩
end Go.Proofs.Ytiealgnmhjebeaa

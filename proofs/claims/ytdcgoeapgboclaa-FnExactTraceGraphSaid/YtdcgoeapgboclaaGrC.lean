/- Graphs: the model counts how often each wire occurs. -/
import Derived.Test.YtdcgoeapgboclaaGrW
import Derived.Deep.RegionLaw
namespace Go.Proofs.Ytdcgoeapgboclaa
set_option maxRecDepth 100000
open Go Go.RowKit Go.Deep

abbrev tGf : TypeId := 29
/-- The wires where a wire of the graph begins, and where it ends. -/
theorem edge_len {f : Ed → List Int} : ∀ {es : List Ed}, (∀ e, e ∈ es → (f e).length ≤ 1000) → ((es.map f).flatten).length ≤ 1000 * es.length
  | [], _ => by simp
  | e :: es, h => by
    have h1 := h e (by simp)
    have h2 := edge_len (f := f) (es := es) fun x hx => h x (by simp [hx])
    simp only [List.map_cons, List.flatten_cons, List.length_append, List.length_cons]
    omega
theorem cntRow_bd {n q : Nat} (l : List Int) (h : q < n) : 0 ≤ (cntRow n l).getD q 0 ∧ (cntRow n l).getD q 0 ≤ l.length := by
  rw [cntRow_at l h]
  have := List.count_le_length (a := (q : Int)) (l := l)
  omega
theorem count_put {w : World} {g n q : Nat} {F : List Int} {x : Int} (h : OwR w tI (fun b => b = g) (.slice (some ⟨g, 0, none⟩) n n) (cntRow n F)) (hq : q < n) (hx : (q : Int) = x) :
    w.cell? ⟨g, q, none⟩ = some (.int .i64 ((cntRow n F).getD q 0)) ∧ w.frozen? ⟨g, q, none⟩ = false ∧ g < w.heap.size ∧ OwR (w.setCell ⟨g, q, none⟩ (.int .i64 ((cntRow n F).getD q 0 + 1))) tI (fun b => b = g) (.slice (some ⟨g, 0, none⟩) n n) (cntRow n (F ++ [x])) := by
  obtain ⟨b, c, e, hb, hl, h1, h2, h3⟩ := h.at (j := q) (by rw [cntRow_len]; exact hq)
  subst hb
  refine ⟨h1, h2, hl, ?_⟩
  have := h3 ((cntRow n F).getD q 0 + 1)
  rwa [cntRow_step hx hq] at this
def fromL (es : List Ed) (xi : List Int) : List Int := xi ++ (es.map Ed.o).flatten
def toL (es : List Ed) (xo : List Int) : List Int := xo ++ (es.map Ed.i).flatten
theorem edge_take {f : Ed → List Int} {es : List Ed} {k : Nat} (h : k < es.length) : ((es.take (k + 1)).map f).flatten = ((es.take k).map f).flatten ++ f (es.getD k ed0) := by
  rw [take_one h ed0, List.map_append, List.flatten_append]
  simp
theorem all_at {xs : List Int} {lo hi : Int} (h : allL xs lo hi = true) {k : Nat} (hk : k < xs.length) : lo ≤ xs.getD k 0 ∧ xs.getD k 0 ≤ hi := by
  unfold allL at h
  have := List.all_eq_true.1 h _ (getD_mem' hk 0)
  simpa [between] using this
set_option maxRecDepth 100000 in
set_option maxHeartbeats 6400000 in
theorem hgCounts_any (w : World) (B n : Nat) (es : List Ed) (xi xo : List Int) (AE : Option Addr) (cE : Nat) (AI : Option Addr) (cI : Nat) (AO : Option Addr) (cO : Nat) (hE : RdE w B (.slice AE es.length cE) es) (hI : RdS w (fun q => q < B) (.slice AI xi.length cI) xi) (hO : RdS w (fun q => q < B) (.slice AO xo.length cO) xo) (hB : B ≤ w.heap.size) (hn : n ≤ 1000)
    (hi : allL xi 0 (n - 1) = true) (ho : allL xo 0 (n - 1) = true) (he : ∀ k, k < es.length → allL (es.getD k ed0).i 0 (n - 1) = true ∧ allL (es.getD k ed0).o 0 (n - 1) = true ∧ (es.getD k ed0).i.length ≤ 1000 ∧ (es.getD k ed0).o.length ≤ 1000) (hle : es.length ≤ 1000) (hli : xi.length ≤ 1000) (hlo : xo.length ≤ 1000) :
    Calls Try.prog 56 #[.agg #[.int .i64 n, .slice AE es.length cE, .slice AI xi.length cI, .slice AO xo.length cO]] w fun x w' => ∃ u v, x = .returned (.tuple #[u, v]) ∧ Below w.heap.size w w' ∧ OwR w' tI (fun q => w.heap.size ≤ q) u (cntRow n (fromL es xi)) ∧ OwR w' tI (fun q => w.heap.size ≤ q) v (cntRow n (toL es xo)) := by
  have HX := Lib.hid (cellsAt_new w #[.int .i64 n, .slice AE es.length cE, .slice AI xi.length cI, .slice AO xo.length cO] tGf)
  have HBW := Lib.hid (show Below w.heap.size w (w.alloc (.cells #[.int .i64 n, .slice AE es.length cE, .slice AI xi.length cI, .slice AO xo.length cO] tGf)) from (Below.refl _ _).alloc (Nat.le_refl _) _)
  have HE := Lib.hid (hE.below HBW.out hB)
  have HI := Lib.hid (hI.below HBW.out hB)
  have HO := Lib.hid (hO.below HBW.out hB)
  have hmk := make_ints n (by omega)
  have HAI := Lib.hid hi
  have HAO := Lib.hid ho
  have HAE := Lib.hid he
  have hB0 : B ≤ (w.alloc (.cells #[.int .i64 n, .slice AE es.length cE, .slice AI xi.length cI, .slice AO xo.length cO] tGf)).heap.size := Nat.le_trans hB HBW.out.size
  clear hE hI hO hB hi ho he
  go_enter Try.func56, Try.ntmps56
  go_upto_region 1 with fail
  have hsz : (w.alloc (.cells #[.int .i64 n, .slice AE es.length cE, .slice AI xi.length cI, .slice AO xo.length cO] tGf)).heap.size = w.heap.size + 1 := by simp
  generalize w.alloc (.cells #[.int .i64 n, .slice AE es.length cE, .slice AI xi.length cI, .slice AO xo.length cO] tGf) = W at HX HBW HE HI HO hB0 hsz ⊢
  have hW : w.heap.size < W.heap.size := by omega
  clear hsz
  obtain ⟨hx0, hx1, hx2, hx3, hxl⟩ := HX.out.four
  have HMW := Lib.hid (show Below W.heap.size W ((W.alloc (.cells (madeCells #[.int .i64 0] n) 3)).alloc (.cells (madeCells #[.int .i64 0] n) 3)) from by repeat' (first | exact Below.refl _ _ | apply Below.alloc | (simp; done) | (simp; omega)))
  have HBC := HMW
  have HFC := Lib.hid (show OwR ((W.alloc (.cells (madeCells #[.int .i64 0] n) 3)).alloc (.cells (madeCells #[.int .i64 0] n) 3)) tI (fun b => b = W.heap.size) (.slice (some ⟨W.heap.size, 0, none⟩) n n) (cntRow n []) from by
    rw [cntRow_nil]
    exact owR_at (S := fun b => b = W.heap.size) rfl ((made_ints W n).alloc _) (by simp))
  have HTC := Lib.hid (show OwR ((W.alloc (.cells (madeCells #[.int .i64 0] n) 3)).alloc (.cells (madeCells #[.int .i64 0] n) 3)) tI (fun b => b = W.heap.size + 1) (.slice (some ⟨W.heap.size + 1, 0, none⟩) n n) (cntRow n []) from by
    rw [cntRow_nil]
    have h := made_ints (W.alloc (.cells (madeCells #[.int .i64 0] n) 3)) n
    rw [nblk_alloc] at h
    exact owR_at (S := fun b => b = W.heap.size + 1) rfl h (by simp))
  have HZC := Lib.hid (show W.heap.size + 2 ≤ ((W.alloc (.cells (madeCells #[.int .i64 0] n) 3)).alloc (.cells (madeCells #[.int .i64 0] n) 3)).heap.size from by simp)
  have HFL := Lib.hid (show ([] : List Int).length ≤ 1000000 from by simp)
  have HTL := Lib.hid (show ([] : List Int).length ≤ 1000000 from by simp)
  go_wp2
  go_loopw [25, 7] (fun ti _ wr => ∃ k : Nat, k ≤ xi.length ∧ ti = .int .i64 k ∧ Hid (Below W.heap.size W wr) ∧ Hid (W.heap.size + 2 ≤ wr.heap.size) ∧ Hid (OwR wr tI (fun b => b = W.heap.size) (.slice (some ⟨W.heap.size, 0, none⟩) n n) (cntRow n ([] ++ xi.take k))) ∧ Hid (OwR wr tI (fun b => b = (W.heap.size + 1)) (.slice (some ⟨W.heap.size + 1, 0, none⟩) n n) (cntRow n []))) (fun ti _ _ => xi.length - (intOf ti).toNat)
  case atStart => exact ⟨0, Nat.zero_le _, rfl, HBC, HZC, Lib.hid (by rw [List.take_zero, List.append_nil]; exact HFC.out), Lib.hid (by exact HTC.out)⟩
  case round =>
    clear HBC HFC HTC HZC
    obtain ⟨k, hk, rfl, HB1, HZ1, HF1, HT1⟩ := hrel
    by_cases hlt : k < xi.length
    · have hBr : B ≤ wr.heap.size := Nat.le_trans hB0 HB1.out.size
      obtain ⟨b1, o1, e1, hb1, hc1⟩ := RdS.at (HI.out.below HB1.out hB0) hlt
      subst e1
      have hbd := all_at HAI.out hlt
      have HNX := Lib.hid (show [] ++ xi.take (k + 1) = ([] ++ xi.take k) ++ [xi.getD k 0] from by rw [take_one hlt 0]; exact (List.append_assoc ..).symm)
      generalize hx : xi.getD k 0 = x at hc1 hbd HNX
      clear hx
      obtain ⟨q, rfl⟩ : ∃ q : Nat, x = (q : Int) := ⟨x.toNat, by omega⟩
      have hqn : q < n := by omega
      obtain ⟨hy0, hy1, hyl, hy2⟩ := count_put HF1.out hqn rfl
      have hyb := cntRow_bd (n := n) ([] ++ xi.take k) hqn
      have hyn : ([] ++ xi.take k).length ≤ 3000000 := by rw [List.length_append, List.length_take]; have := HFL.out; omega
      have HY2 := Lib.hid hy2
      clear hy2
      generalize (cntRow n ([] ++ xi.take k)).getD q 0 = y at hy0 hyb HY2
      have hwy : IntKind.i64.wrap (y + 1) = y + 1 := Go.IntWalk.i64_in _ ⟨by omega, by omega⟩
      have hqI : (q : Int) < (n : Int) := by omega
      clear hbd
      go_wp2
      go_roundw
      case rel => exact ⟨k + 1, by omega, by go_num, Lib.hid (HB1.out.setCell (by dsimp only; omega) _), Lib.hid (by rw [nblk_setCell]; exact HZ1.out), Lib.hid (by rw [HNX.out]; exact HY2.out), Lib.hid (HT1.out.blocks fun b hb _ _ _ => blk_setCell_other _ _ _ _ (by dsimp only; omega))⟩
      case measure => simp [intOf]; omega
    · have HEND := Lib.hid (show xi.take k = xi from List.take_of_length_le (by omega))
      rw [HEND.out] at HF1
      have HBC := HB1
      have HFC := HF1
      have HTC := HT1
      have HZC := HZ1
      
      clear HB1 HF1 HT1 HZ1 HEND
      have hXb := HX.out.below HBC.out HX.out.lt
      obtain ⟨hx0, hx1, hx2, hx3, hxl⟩ := hXb.four
      go_wp2
      rw [List.nil_append] at HFC
      clear hXb hx0 hx1 hx2 hx3 hxl hlt hk
      go_loopw [39, 9] (fun ti _ wr => ∃ k : Nat, k ≤ xo.length ∧ ti = .int .i64 k ∧ Hid (Below W.heap.size W wr) ∧ Hid (W.heap.size + 2 ≤ wr.heap.size) ∧ Hid (OwR wr tI (fun b => b = W.heap.size) (.slice (some ⟨W.heap.size, 0, none⟩) n n) (cntRow n xi)) ∧ Hid (OwR wr tI (fun b => b = (W.heap.size + 1)) (.slice (some ⟨W.heap.size + 1, 0, none⟩) n n) (cntRow n ([] ++ xo.take k)))) (fun ti _ _ => xo.length - (intOf ti).toNat)
      case atStart => exact ⟨0, Nat.zero_le _, rfl, HBC, HZC, Lib.hid (by exact HFC.out), Lib.hid (by rw [List.take_zero, List.append_nil]; exact HTC.out)⟩
      case round =>
        clear HBC HFC HTC HZC
        obtain ⟨k, hk, rfl, HB1, HZ1, HF1, HT1⟩ := hrel
        by_cases hlt : k < xo.length
        · have hBr : B ≤ wr.heap.size := Nat.le_trans hB0 HB1.out.size
          obtain ⟨b1, o1, e1, hb1, hc1⟩ := RdS.at (HO.out.below HB1.out hB0) hlt
          subst e1
          have hbd := all_at HAO.out hlt
          have HNX := Lib.hid (show [] ++ xo.take (k + 1) = ([] ++ xo.take k) ++ [xo.getD k 0] from by rw [take_one hlt 0]; exact (List.append_assoc ..).symm)
          generalize hx : xo.getD k 0 = x at hc1 hbd HNX
          clear hx
          obtain ⟨q, rfl⟩ : ∃ q : Nat, x = (q : Int) := ⟨x.toNat, by omega⟩
          have hqn : q < n := by omega
          obtain ⟨hy0, hy1, hyl, hy2⟩ := count_put HT1.out hqn rfl
          have hyb := cntRow_bd (n := n) ([] ++ xo.take k) hqn
          have hyn : ([] ++ xo.take k).length ≤ 3000000 := by rw [List.length_append, List.length_take]; have := HTL.out; omega
          have HY2 := Lib.hid hy2
          clear hy2
          generalize (cntRow n ([] ++ xo.take k)).getD q 0 = y at hy0 hyb HY2
          have hwy : IntKind.i64.wrap (y + 1) = y + 1 := Go.IntWalk.i64_in _ ⟨by omega, by omega⟩
          have hqI : (q : Int) < (n : Int) := by omega
          clear hbd
          go_wp2
          go_roundw
          case rel => exact ⟨k + 1, by omega, by go_num, Lib.hid (HB1.out.setCell (by dsimp only; omega) _), Lib.hid (by rw [nblk_setCell]; exact HZ1.out), Lib.hid (HF1.out.blocks fun b hb _ _ _ => blk_setCell_other _ _ _ _ (by dsimp only; omega)), Lib.hid (by rw [HNX.out]; exact HY2.out)⟩
          case measure => simp [intOf]; omega
        · have HEND := Lib.hid (show xo.take k = xo from List.take_of_length_le (by omega))
          rw [HEND.out] at HT1
          have HBC := HB1
          have HFC := HF1
          have HTC := HT1
          have HZC := HZ1
          
          clear HB1 HF1 HT1 HZ1 HEND
          have hXb := HX.out.below HBC.out HX.out.lt
          obtain ⟨hx0, hx1, hx2, hx3, hxl⟩ := hXb.four
          go_wp2
          rw [List.nil_append] at HTC
          clear hXb hx0 hx1 hx2 hx3 hxl hlt hk HFL HTL
          go_loopw [53, 11, 13, 15, 60, 74] (fun ti _ _ _ _ _ wr => ∃ j : Nat, j ≤ es.length ∧ ti = .int .i64 j ∧ Hid (Below W.heap.size W wr) ∧ Hid (W.heap.size + 2 ≤ wr.heap.size) ∧ Hid (OwR wr tI (fun b => b = W.heap.size) (.slice (some ⟨W.heap.size, 0, none⟩) n n) (cntRow n (xi ++ ((es.take j).map Ed.o).flatten))) ∧ Hid (OwR wr tI (fun b => b = (W.heap.size + 1)) (.slice (some ⟨W.heap.size + 1, 0, none⟩) n n) (cntRow n (xo ++ ((es.take j).map Ed.i).flatten)))) (fun ti _ _ _ _ _ _ => es.length - (intOf ti).toNat)
          case atStart => exact ⟨0, Nat.zero_le _, rfl, HBC, HZC, Lib.hid (by rw [List.take_zero, List.map_nil, List.flatten_nil, List.append_nil]; exact HFC.out), Lib.hid (by rw [List.take_zero, List.map_nil, List.flatten_nil, List.append_nil]; exact HTC.out)⟩
          case round =>
            clear HBC HFC HTC HZC
            obtain ⟨j, hj, rfl, HBC, HZC, HFC, HTC⟩ := hrel
            by_cases hlt : j < es.length
            · have HNF := Lib.hid (edge_take (f := Ed.o) hlt)
              have HNT := Lib.hid (edge_take (f := Ed.i) hlt)
              have hae := HAE.out j hlt
              have HFB := Lib.hid (show ((es.take j).map Ed.o).flatten.length ≤ 1000000 from by
                have h := edge_len (f := Ed.o) (es := es.take j) fun e h => by
                  obtain ⟨i, hi, rfl⟩ := mem_getD ed0 (List.mem_of_mem_take h)
                  exact (HAE.out i hi).2.2.2
                rw [List.length_take] at h
                omega)
              have HTB := Lib.hid (show ((es.take j).map Ed.i).flatten.length ≤ 1000000 from by
                have h := edge_len (f := Ed.i) (es := es.take j) fun e h => by
                  obtain ⟨i, hi, rfl⟩ := mem_getD ed0 (List.mem_of_mem_take h)
                  exact (HAE.out i hi).2.2.1
                rw [List.length_take] at h
                omega)
              obtain ⟨b1, o1, A1, c1, A2, c2, e1, hb1, hg0, hg1, hg2, hg3, hr1, hr2⟩ := HE.out.at hlt
              subst e1
              have hbW : b1 < W.heap.size := by omega
              replace hg0 := (HBC.out.cell (p := ⟨b1, o1 + j * 4, none⟩) hbW).trans hg0
              replace hg1 := (HBC.out.cell (p := ⟨b1, o1 + j * 4 + 1, none⟩) hbW).trans hg1
              replace hg2 := (HBC.out.cell (p := ⟨b1, o1 + j * 4 + 2, none⟩) hbW).trans hg2
              replace hg3 := (HBC.out.cell (p := ⟨b1, o1 + j * 4 + 3, none⟩) hbW).trans hg3
              generalize es.getD j ed0 = ej at hg0 hg1 hg2 hg3 hr1 hr2 hae HNF HNT
              have HRI := Lib.hid hr1
              have HRO := Lib.hid hr2
              have HAEI := Lib.hid hae.1
              have HAEO := Lib.hid hae.2.1
              have hle1 := hae.2.2.1
              have hle2 := hae.2.2.2
              have HFL := Lib.hid (show (xi ++ ((es.take j).map Ed.o).flatten).length ≤ 1001000 from by rw [List.length_append]; have := HFB.out; omega)
              have HTL := Lib.hid (show (xo ++ ((es.take j).map Ed.i).flatten).length ≤ 1001000 from by rw [List.length_append]; have := HTB.out; omega)
              obtain ⟨bx, hbx⟩ : ∃ bx, bx = wr.heap.size := ⟨_, rfl⟩
              have HXC := Lib.hid (show CellsAt (wr.alloc (.cells #[.int .i64 ej.k, .int .i64 ej.v, .slice A1 ej.i.length c1, .slice A2 ej.o.length c2] tEd)) bx tEd [.int .i64 ej.k, .int .i64 ej.v, .slice A1 ej.i.length c1, .slice A2 ej.o.length c2] from by rw [hbx]; exact cellsAt_new wr #[.int .i64 ej.k, .int .i64 ej.v, .slice A1 ej.i.length c1, .slice A2 ej.o.length c2] tEd)
              have hbx2 : W.heap.size + 2 ≤ bx := by have := HZC.out; omega
              have HBD := Lib.hid (show Below W.heap.size W (wr.alloc (.cells #[.int .i64 ej.k, .int .i64 ej.v, .slice A1 ej.i.length c1, .slice A2 ej.o.length c2] tEd)) from HBC.out.trans ((Below.refl wr.heap.size wr).alloc (Nat.le_refl _) _ |>.mono HBC.out.size))
              have HZD := Lib.hid (show W.heap.size + 2 ≤ (wr.alloc (.cells #[.int .i64 ej.k, .int .i64 ej.v, .slice A1 ej.i.length c1, .slice A2 ej.o.length c2] tEd)).heap.size from by rw [nblk_alloc]; have := HZC.out; omega)
              have HFD := Lib.hid (HFC.out.blocks (w' := wr.alloc (.cells #[.int .i64 ej.k, .int .i64 ej.v, .slice A1 ej.i.length c1, .slice A2 ej.o.length c2] tEd)) fun b hb hl _ _ => blk_alloc_lt _ _ _ hl)
              have HTD := Lib.hid (HTC.out.blocks (w' := wr.alloc (.cells #[.int .i64 ej.k, .int .i64 ej.v, .slice A1 ej.i.length c1, .slice A2 ej.o.length c2] tEd)) fun b hb hl _ _ => blk_alloc_lt _ _ _ hl)
              clear hr1 hr2 hae HBC HFC HTC HZC
              have HZC := HZD
              have HBC := HBD
              have HFC := HFD
              have HTC := HTD
              clear HBD HFD HTD HZD
              have hlj := hlt
              go_upto_region 16 with fail
              generalize wr.alloc (.cells #[.int .i64 ej.k, .int .i64 ej.v, .slice A1 ej.i.length c1, .slice A2 ej.o.length c2] tEd) = WE at HXC HBC HFC HTC HZC ⊢
              rw [← hbx]
              clear hbx
              obtain ⟨hx0, hx1, hx2, hx3, hxl⟩ := HXC.out.four
              go_wp2
              clear hx0 hx1 hx2 hx3 hxl hg0 hg1 hg2 hg3
              go_loopw [60, 13] (fun ti _ wr => ∃ k : Nat, k ≤ ej.o.length ∧ ti = .int .i64 k ∧ Hid (Below W.heap.size W wr) ∧ Hid (W.heap.size + 2 ≤ wr.heap.size) ∧ Hid (OwR wr tI (fun b => b = W.heap.size) (.slice (some ⟨W.heap.size, 0, none⟩) n n) (cntRow n ((xi ++ ((es.take j).map Ed.o).flatten) ++ ej.o.take k))) ∧ Hid (OwR wr tI (fun b => b = (W.heap.size + 1)) (.slice (some ⟨W.heap.size + 1, 0, none⟩) n n) (cntRow n (xo ++ ((es.take j).map Ed.i).flatten))) ∧ Hid (CellsAt wr bx tEd [.int .i64 ej.k, .int .i64 ej.v, .slice A1 ej.i.length c1, .slice A2 ej.o.length c2])) (fun ti _ _ => ej.o.length - (intOf ti).toNat)
              case atStart => exact ⟨0, Nat.zero_le _, rfl, HBC, HZC, Lib.hid (by rw [List.take_zero, List.append_nil]; exact HFC.out), Lib.hid (by exact HTC.out), HXC⟩
              case round =>
                clear HBC HFC HTC HZC HXC
                obtain ⟨k, hk, rfl, HB1, HZ1, HF1, HT1, HX1⟩ := hrel
                by_cases hlt : k < ej.o.length
                · have hBr : B ≤ wr.heap.size := Nat.le_trans hB0 HB1.out.size
                  obtain ⟨b1, o1, e1, hb1, hc1⟩ := RdS.at (HRO.out.below HB1.out hB0) hlt
                  subst e1
                  have hbd := all_at HAEO.out hlt
                  have HNX := Lib.hid (show (xi ++ ((es.take j).map Ed.o).flatten) ++ ej.o.take (k + 1) = ((xi ++ ((es.take j).map Ed.o).flatten) ++ ej.o.take k) ++ [ej.o.getD k 0] from by rw [take_one hlt 0]; exact (List.append_assoc ..).symm)
                  generalize hx : ej.o.getD k 0 = x at hc1 hbd HNX
                  clear hx
                  obtain ⟨q, rfl⟩ : ∃ q : Nat, x = (q : Int) := ⟨x.toNat, by omega⟩
                  have hqn : q < n := by omega
                  obtain ⟨hy0, hy1, hyl, hy2⟩ := count_put HF1.out hqn rfl
                  have hyb := cntRow_bd (n := n) ((xi ++ ((es.take j).map Ed.o).flatten) ++ ej.o.take k) hqn
                  have hyn : ((xi ++ ((es.take j).map Ed.o).flatten) ++ ej.o.take k).length ≤ 3000000 := by rw [List.length_append, List.length_take]; have := HFL.out; omega
                  have HY2 := Lib.hid hy2
                  clear hy2
                  generalize (cntRow n ((xi ++ ((es.take j).map Ed.o).flatten) ++ ej.o.take k)).getD q 0 = y at hy0 hyb HY2
                  have hwy : IntKind.i64.wrap (y + 1) = y + 1 := Go.IntWalk.i64_in _ ⟨by omega, by omega⟩
                  have hqI : (q : Int) < (n : Int) := by omega
                  clear hbd
                  go_wp2
                  go_roundw
                  case rel => exact ⟨k + 1, by omega, by go_num, Lib.hid (HB1.out.setCell (by dsimp only; omega) _), Lib.hid (by rw [nblk_setCell]; exact HZ1.out), Lib.hid (by rw [HNX.out]; exact HY2.out), Lib.hid (HT1.out.blocks fun b hb _ _ _ => blk_setCell_other _ _ _ _ (by dsimp only; omega)), Lib.hid (HX1.out.setOther (by dsimp only; omega) _)⟩
                  case measure => simp [intOf]; omega
                · have HEND := Lib.hid (show ej.o.take k = ej.o from List.take_of_length_le (by omega))
                  rw [HEND.out] at HF1
                  have HBC := HB1
                  have HFC := HF1
                  have HTC := HT1
                  have HZC := HZ1
                  have HXC := HX1
                  clear HB1 HF1 HT1 HZ1 HEND HX1
                  have hXe := HXC.out.four
                  obtain ⟨hx0, hx1, hx2, hx3, hxl⟩ := hXe
                  go_wp2
                  clear hx0 hx1 hx2 hx3 hxl hlt hk
                  go_loopw [74, 15] (fun ti _ wr => ∃ k : Nat, k ≤ ej.i.length ∧ ti = .int .i64 k ∧ Hid (Below W.heap.size W wr) ∧ Hid (W.heap.size + 2 ≤ wr.heap.size) ∧ Hid (OwR wr tI (fun b => b = W.heap.size) (.slice (some ⟨W.heap.size, 0, none⟩) n n) (cntRow n ((xi ++ ((es.take j).map Ed.o).flatten) ++ ej.o))) ∧ Hid (OwR wr tI (fun b => b = (W.heap.size + 1)) (.slice (some ⟨W.heap.size + 1, 0, none⟩) n n) (cntRow n ((xo ++ ((es.take j).map Ed.i).flatten) ++ ej.i.take k))) ∧ Hid (CellsAt wr bx tEd [.int .i64 ej.k, .int .i64 ej.v, .slice A1 ej.i.length c1, .slice A2 ej.o.length c2])) (fun ti _ _ => ej.i.length - (intOf ti).toNat)
                  case atStart => exact ⟨0, Nat.zero_le _, rfl, HBC, HZC, Lib.hid (by exact HFC.out), Lib.hid (by rw [List.take_zero, List.append_nil]; exact HTC.out), HXC⟩
                  case round =>
                    clear HBC HFC HTC HZC HXC
                    obtain ⟨k, hk, rfl, HB1, HZ1, HF1, HT1, HX1⟩ := hrel
                    by_cases hlt : k < ej.i.length
                    · have hBr : B ≤ wr.heap.size := Nat.le_trans hB0 HB1.out.size
                      obtain ⟨b1, o1, e1, hb1, hc1⟩ := RdS.at (HRI.out.below HB1.out hB0) hlt
                      subst e1
                      have hbd := all_at HAEI.out hlt
                      have HNX := Lib.hid (show (xo ++ ((es.take j).map Ed.i).flatten) ++ ej.i.take (k + 1) = ((xo ++ ((es.take j).map Ed.i).flatten) ++ ej.i.take k) ++ [ej.i.getD k 0] from by rw [take_one hlt 0]; exact (List.append_assoc ..).symm)
                      generalize hx : ej.i.getD k 0 = x at hc1 hbd HNX
                      clear hx
                      obtain ⟨q, rfl⟩ : ∃ q : Nat, x = (q : Int) := ⟨x.toNat, by omega⟩
                      have hqn : q < n := by omega
                      obtain ⟨hy0, hy1, hyl, hy2⟩ := count_put HT1.out hqn rfl
                      have hyb := cntRow_bd (n := n) ((xo ++ ((es.take j).map Ed.i).flatten) ++ ej.i.take k) hqn
                      have hyn : ((xo ++ ((es.take j).map Ed.i).flatten) ++ ej.i.take k).length ≤ 3000000 := by rw [List.length_append, List.length_take]; have := HTL.out; omega
                      have HY2 := Lib.hid hy2
                      clear hy2
                      generalize (cntRow n ((xo ++ ((es.take j).map Ed.i).flatten) ++ ej.i.take k)).getD q 0 = y at hy0 hyb HY2
                      have hwy : IntKind.i64.wrap (y + 1) = y + 1 := Go.IntWalk.i64_in _ ⟨by omega, by omega⟩
                      have hqI : (q : Int) < (n : Int) := by omega
                      clear hbd
                      go_wp2
                      go_roundw
                      case rel => exact ⟨k + 1, by omega, by go_num, Lib.hid (HB1.out.setCell (by dsimp only; omega) _), Lib.hid (by rw [nblk_setCell]; exact HZ1.out), Lib.hid (HF1.out.blocks fun b hb _ _ _ => blk_setCell_other _ _ _ _ (by dsimp only; omega)), Lib.hid (by rw [HNX.out]; exact HY2.out), Lib.hid (HX1.out.setOther (by dsimp only; omega) _)⟩
                      case measure => simp [intOf]; omega
                    · have HEND := Lib.hid (show ej.i.take k = ej.i from List.take_of_length_le (by omega))
                      rw [HEND.out] at HT1
                      have HBC := HB1
                      have HFC := HF1
                      have HTC := HT1
                      have HZC := HZ1
                      have HXC := HX1
                      clear HB1 HF1 HT1 HZ1 HEND HX1
                      go_wp2
                      go_roundw
                      case rel => exact ⟨j + 1, by omega, by go_num, HBC, HZC, Lib.hid (by rw [HNF.out, ← List.append_assoc]; exact HFC.out), Lib.hid (by rw [HNT.out, ← List.append_assoc]; exact HTC.out)⟩
                      case measure => simp [intOf]; omega
            · have HEJ := Lib.hid (show es.take j = es from List.take_of_length_le (by omega))
              rw [HEJ.out] at HFC HTC
              go_wp2
              refine bodyPost_ret (v := .tuple #[.slice (some ⟨W.heap.size, 0, none⟩) n n, .slice (some ⟨W.heap.size + 1, 0, none⟩) n n]) (by simp [results, Try.results56, go_sem]) rfl ?_
              exact ⟨_, _, rfl, HBW.out.trans (HBC.out.mono HBW.out.size), HFC.out.mono (fun q hq _ => by omega), HTC.out.mono (fun q hq _ => by omega)⟩
end Go.Proofs.Ytdcgoeapgboclaa

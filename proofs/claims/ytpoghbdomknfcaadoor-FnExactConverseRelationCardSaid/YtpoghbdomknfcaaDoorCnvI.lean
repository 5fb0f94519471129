/- Pairs exchanged: the program's helper. -/
import Derived.Test.YtpoghbdomknfcaaDoorPartR
import Derived.Deep.RegionHeld3
namespace Go.Proofs.YtpoghbdomknfcaaDoor
set_option maxRecDepth 100000
open Go Go.RowKit Go.Deep

def pex (l : Nat) (x : List Int) : List Int := x.drop l ++ x.take l
def pexs (l : Nat) (R : List (List Int)) : List (List Int) := R.map (pex l)
theorem pexs_len (l : Nat) (R : List (List Int)) : (pexs l R).length = R.length := by simp [pexs]
theorem pexs_row {l : Nat} {R : List (List Int)} {i : Nat} (h : i < R.length) : (pexs l R).getD i [] = pex l (R.getD i []) := map_getD _ _ _ h [] []
theorem pex_len (l : Nat) (x : List Int) : (pex l x).length = x.length := by
  unfold pex
  rw [List.length_append, List.length_drop, List.length_take]
  omega
theorem pexs_mat {p : Int} {n l r : Nat} {R : List (List Int)} (h : Mat p n (l + r) R) : Mat p n (r + l) (pexs l R) := by
  refine ⟨by rw [pexs_len, h.1], fun x hx => ?_⟩
  obtain ⟨y, hy, rfl⟩ := List.mem_map.1 hx
  refine ⟨by rw [pex_len, (h.2 y hy).1]; omega, fun z hz => ?_⟩
  rcases List.mem_append.1 hz with h1 | h1
  · exact (h.2 y hy).2 z (List.mem_of_mem_drop h1)
  · exact (h.2 y hy).2 z (List.mem_of_mem_take h1)
set_option maxHeartbeats 1600000 in
theorem exchanged_any (w : World) (B : Nat) (A1 : Option Addr) (n1 c1 : Nat) (u : Value) (l : Nat) (r : Int) (xs : List Int) (hu : RdS w (fun b => b < B) u xs) (hB : B ≤ w.heap.size) (hl : l ≤ xs.length) (hn : xs.length ≤ 1000) :
    Calls Tryd.prog 96 #[.agg #[.int .i64 l, .int .i64 r, .slice A1 n1 c1], u] w (MadeR w (pex l xs)) := by
  obtain ⟨Au, cu, rfl⟩ := rdS_len hu
  have HVB := Lib.hid (show Below w.heap.size w (w.alloc (.cells #[.int .i64 l, .int .i64 r, .slice A1 n1 c1] tRl)) from (Below.refl _ _).alloc (Nat.le_refl _) _)
  have HU := Lib.hid (hu.below HVB.out hB)
  have hB0 : B ≤ (w.alloc (.cells #[.int .i64 l, .int .i64 r, .slice A1 n1 c1] tRl)).heap.size := Nat.le_trans hB HVB.out.size
  have HR0 := Lib.hid (cellsAt_new w #[.int .i64 l, .int .i64 r, .slice A1 n1 c1] tRl)
  clear hu hB
  go_enter Tryd.func96, Tryd.ntmps96
  go_upto_region 1 with fail
  generalize (w.alloc (.cells #[.int .i64 l, .int .i64 r, .slice A1 n1 c1] tRl)) = W at HVB HU hB0 HR0 ⊢
  have hx := HR0.out.three
  have hrs := HR0.out.lt
  have HELD : Hid (∀ w' : World, w'.heap[w.heap.size]? = W.heap[w.heap.size]? → w'.cell? ⟨w.heap.size, 0, none⟩ = some (.int .i64 l) ∧ w'.cell? ⟨w.heap.size, 1, none⟩ = some (.int .i64 r) ∧ w'.cell? ⟨w.heap.size, 2, none⟩ = some (.slice A1 n1 c1)) := Lib.hid (fun w' H => ⟨(World.cell?_of_block (w := W) H).trans hx.1, (World.cell?_of_block (w := W) H).trans hx.2.1, (World.cell?_of_block (w := W) H).trans hx.2.2.1⟩)
  clear hx
  have HQ0 : Hid (W.drew.heap[w.heap.size]? = W.heap[w.heap.size]?) := Lib.hid rfl
  have HUD := Lib.hid (show RdS W.drew (fun b => b < B) (.slice Au xs.length cu) xs from HU.out)
  have hBD : B ≤ W.drew.heap.size := hB0
  have hl2 : (xs.drop l).length + (xs.take l).length ≤ 1000 := by rw [List.length_drop, List.length_take]; omega
  go_wp2
  go_region_held3 (fun w' => w'.cell? ⟨w.heap.size, 0, none⟩ = some (.int .i64 l) ∧ w'.cell? ⟨w.heap.size, 1, none⟩ = some (.int .i64 r) ∧ w'.cell? ⟨w.heap.size, 2, none⟩ = some (.slice A1 n1 c1))
    (first | with_reducible exact HELD.out _ HQ0.out | with_reducible exact HELD.out _ HQ1.out | with_reducible exact HELD.out _ HQ2.out | with_reducible exact HELD.out _ HQ3.out | with_reducible exact HELD.out _ HQ4.out)
    (first
      | (go_at_call 78; go_split_ands; refine (second_any W.drew B _ _ l r xs HUD.out hBD hl).mono ?_; rintro e w1 ⟨v1, rfl, b1, o1⟩; obtain ⟨Ad, nd, cd, rfl⟩ := rdS_sl o1; have HB1 : Hid (Below W.heap.size W w1) := Lib.hid ((Below.refl _ _).drew.trans b1); have HQ1 : Hid (w1.heap[w.heap.size]? = W.heap[w.heap.size]?) := Lib.hid (HB1.out.block _ hrs); have HO1 := Lib.hid o1; have HU1 := Lib.hid (HU.out.below HB1.out hB0); have hB1 : B ≤ w1.heap.size := Nat.le_trans hB0 HB1.out.size; clear b1 o1)
      | (go_at_call 117; go_split_ands; refine (first_any w1 B _ _ l r xs HU1.out hB1 hl).mono ?_; rintro e w2 ⟨v2, rfl, b2, o2⟩; obtain ⟨At, nt, ct, rfl⟩ := rdS_sl o2; have HB2 : Hid (Below W.heap.size W w2) := Lib.hid (HB1.out.trans (b2.mono HB1.out.size)); have HQ2 : Hid (w2.heap[w.heap.size]? = W.heap[w.heap.size]?) := Lib.hid (HB2.out.block _ hrs); have HA : Hid (Below w2.heap.size w2 (w2.alloc (.cells #[.slice Ad nd cd, .slice At nt ct] 37))) := Lib.hid ((Below.refl _ _).alloc (Nat.le_refl _) _); have hB2 : B ≤ w2.heap.size := Nat.le_trans hB0 HB2.out.size; have HRG := Lib.hid (RdG.pair (B := w2.heap.size + 1) (cellsAt_new w2 #[.slice Ad nd cd, .slice At nt ct] 37) (((HO1.out.below b2 hB1).below HA.out hB2).mono (fun q hq => by omega)) ((o2.below HA.out hB2).mono (fun q hq => by omega)) (by omega)); have HB3 : Hid (Below W.heap.size W (w2.alloc (.cells #[.slice Ad nd cd, .slice At nt ct] 37))) := Lib.hid (HB2.out.trans (HA.out.mono HB2.out.size)); have HQ3 : Hid ((w2.alloc (.cells #[.slice Ad nd cd, .slice At nt ct] 37)).heap[w.heap.size]? = W.heap[w.heap.size]?) := Lib.hid (HB3.out.block _ hrs); have hAS : w2.heap.size + 1 ≤ (w2.alloc (.cells #[.slice Ad nd cd, .slice At nt ct] 37)).heap.size := by simp)
      | (go_at_call 86; go_split_ands; refine (concatR_any _ (w2.heap.size + 1) _ [xs.drop l, xs.take l] HRG.out hAS (by simp) (by simp [tot]; omega)).mono ?_; rintro e w4 ⟨v4, rfl, b4, o4⟩; have HB4 : Hid (Below W.heap.size W w4) := Lib.hid (HB3.out.trans (b4.mono HB3.out.size)); have HQ4 : Hid (w4.heap[w.heap.size]? = W.heap[w.heap.size]?) := Lib.hid (HB4.out.block _ hrs); have HO4 := Lib.hid (OwR.mono (T := fun q => w.heap.size ≤ q) o4 (fun q hq _ => by have := HVB.out.size; have := HB2.out.size; simp at hq; omega)); clear b4 o4))
  go_wp2
  go_ret
  refine ⟨_, rfl, HVB.out.trans (HB4.out.mono HVB.out.size), ?_⟩
  have e : [xs.drop l, xs.take l].flatten = pex l xs := by simp [pex]
  rw [← e]
  exact HO4.out
/-- All pairs exchanged. -/
theorem mapExch_any (w : World) (B : Nat) (v : Value) (A1 : Option Addr) (n1 c1 : Nat) (l : Nat) (r : Int) (R : List (List Int)) (hv : RdG w B v R) (hB : B ≤ w.heap.size) (hn : R.length ≤ 1000000) (hl : ∀ j, j < R.length → l ≤ (R.getD j []).length ∧ (R.getD j []).length ≤ 1000) :
    Calls Tryd.prog 77 #[v, .func (.func 96) #[.agg #[.int .i64 l, .int .i64 r, .slice A1 n1 c1]] #[]] w (MapB w (pexs l R)) :=
  map_exchanged w B v R (pexs l R) _ hv hB hn (pexs_len l R) fun W j u hb hs hj hu => by
    rw [pexs_row hj]
    exact (exchanged_any W B A1 n1 c1 u l r _ hu (by omega) (hl j hj).1 (hl j hj).2).mono fun e w' ⟨v', he, hb', ho⟩ => ⟨v', he, hb', ho.read.mono fun q hq => ⟨by omega, hq.2⟩⟩
end Go.Proofs.YtpoghbdomknfcaaDoor

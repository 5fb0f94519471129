/- The orthogonal of a relation: the program's helpers. -/
import Derived.Test.YtiiloioobmkicaaDoorPartR
import Derived.Test.YtiiloioobmkicaaDoorOrtM
import Derived.Deep.RegionHeld3
namespace Go.Proofs.YtiiloioobmkicaaDoor
set_option maxRecDepth 100000
open Go Go.RowKit Go.Deep

def negl (p : Int) (x : List Int) : List Int := x.map fun a => (p - a) % p
theorem negl_len (p : Int) (x : List Int) : (negl p x).length = x.length := by simp [negl]
theorem neg_vmul {p : Int} {n : Nat} {x : List Int} (hx : x.length = n) : vmul p n [p - 1] [x] = negl p x := by
  unfold vmul negl
  rw [comb, comb.eq_2 _ _ _ _ (fun f fs r rs h _ => by cases h)]
  refine ext_getD 0 (by rw [axpy_len, List.length_replicate, List.length_map, hx]) fun j hj => ?_
  rw [axpy_len, List.length_replicate] at hj
  rw [axpy_get (by simpa using hj), repl_getD, map_getD _ _ _ (by omega) 0 0, neg_mod, show (0 : Int) + (p - 1) * x.getD j 0 = -x.getD j 0 + p * x.getD j 0 by grind, Int.add_mul_emod_self_left]
theorem neg1_eq (p : Int) (l : Nat) (x : List Int) : neg1 p l x = x.take l ++ negl p (x.drop l) := rfl
set_option maxHeartbeats 800000 in
theorem negativeOf_any (w : World) (B : Nat) (u : Value) (p : Int) (n : Nat) (x : List Int) (hu : RdS w (fun b => b < B) u x) (hB : B ≤ w.heap.size) (h1 : 2 ≤ p) (h2 : p ≤ 97) (hx : Vec p n x) (hn : n ≤ 1000) :
    Calls Tryd.prog 75 #[.int .i64 p, u] w (MadeR w (negl p x)) := by
  obtain ⟨Au, cu, rfl⟩ := rdS_len hu
  have HVB := Lib.hid (show Below w.heap.size w ((w.alloc (.cells #[.int .i64 (p - 1)] 3)).alloc (.cells #[.slice Au x.length cu] 42)) by repeat' (first | exact Below.refl _ _ | apply Below.alloc | (simp; done) | (simp; omega)))
  have HC0 := Lib.hid (show RdS ((w.alloc (.cells #[.int .i64 (p - 1)] 3)).alloc (.cells #[.slice Au x.length cu] 42)) (fun b => b < w.heap.size + 2) (.slice (some ⟨w.heap.size, 0, none⟩) 1 1) [p - 1] from
    ((owR_at (S := fun b => b < w.heap.size + 2) (by omega) ((cellsAt_new w #[.int .i64 (p - 1)] 3).alloc (.cells #[.slice Au x.length cu] 42)) (xs := [p - 1]) (n := 1) (c := 1) rfl).read.mono fun q hq => hq.1))
  have HG0 := Lib.hid (show RdG ((w.alloc (.cells #[.int .i64 (p - 1)] 3)).alloc (.cells #[.slice Au x.length cu] 42)) (w.heap.size + 2) (.slice (some ⟨w.heap.size + 1, 0, none⟩) 1 1) [x] from by
    refine ⟨_, 1, rfl, Nat.le_refl 1, fun r hr => ?_⟩
    obtain rfl : r = 0 := by simp at hr; omega
    refine ⟨w.heap.size + 1, 0, .slice Au x.length cu, rfl, by omega, ?_, (hu.below HVB.out hB).mono fun q hq => by omega⟩
    have hc := (cellsAt_new' (w.alloc (.cells #[.int .i64 (p - 1)] 3)) #[.slice Au x.length cu] 42 _ (w.heap.size + 1) (by simp) rfl).cell (i := 0) (by simp)
    rw [Nat.zero_add, hc]
    rfl)
  have hsz : w.heap.size + 2 ≤ ((w.alloc (.cells #[.int .i64 (p - 1)] 3)).alloc (.cells #[.slice Au x.length cu] 42)).heap.size := by simp
  have HX := Lib.hid hx
  have hxl : x.length ≤ 1000 := by rw [hx.1]; exact hn
  have HE := Lib.hid (show vmul p x.length [p - 1] [x] = negl p x from neg_vmul rfl)
  clear hu hB hx
  go_enter Tryd.func75, Tryd.ntmps75
  go_wp2_with fail
  refine (combineRows_any _ (w.heap.size + 2) _ _ p x.length [p - 1] [x] HC0.out HG0.out hsz h1 h2 (by omega) (by simp) (by simp) (fun z hz => by simp at hz; omega) (fun r hr => by simp at hr; subst hr; exact ⟨rfl, HX.out.2⟩)).mono ?_
  rintro e w2 ⟨v2, rfl, b2, o2⟩
  have HB2 := Lib.hid b2
  have HO2 := Lib.hid o2
  rw [HE.out] at HO2
  clear b2 o2
  go_wp2
  go_ret
  exact ⟨_, rfl, HVB.out.trans (HB2.out.mono HVB.out.size), OwR.mono (T := fun q => w.heap.size ≤ q) HO2.out fun q hq _ => by have := HVB.out.size; omega⟩
set_option maxHeartbeats 1600000 in
theorem orthLit_any (w : World) (B b3 b4 : Nat) (A1 : Option Addr) (n1 c1 : Nat) (u : Value) (p : Int) (l : Nat) (r : Int) (c : Nat) (xs : List Int) (h3 : CellsAt w b3 3 [.int .i64 p]) (h4 : CellsAt w b4 tRl [.int .i64 l, .int .i64 r, .slice A1 n1 c1])
    (hu : RdS w (fun b => b < B) u xs) (hB : B ≤ w.heap.size) (h1 : 2 ≤ p) (h2 : p ≤ 97) (hx : Vec p c xs) (hl : l ≤ c) (hc : c ≤ 1000) :
    Calls Tryd.prog 72 #[u, .pointer (some ⟨b4, 0, none⟩), .pointer (some ⟨b3, 0, none⟩)] w (MadeR w (neg1 p l xs)) := by
  obtain ⟨Au, cu, rfl⟩ := rdS_len hu
  have hp0 : w.cell? ⟨b3, 0, none⟩ = some (.int .i64 p) := h3.cell (i := 0) (by simp)
  have hq := h4.three
  have hb3 := h3.lt
  have hb4 := h4.lt
  have HELD : Hid (∀ w' : World, w'.heap[b3]? = w.heap[b3]? → w'.heap[b4]? = w.heap[b4]? → w'.cell? ⟨b3, 0, none⟩ = some (.int .i64 p) ∧ w'.cell? ⟨b4, 0, none⟩ = some (.int .i64 l) ∧ w'.cell? ⟨b4, 1, none⟩ = some (.int .i64 r) ∧ w'.cell? ⟨b4, 2, none⟩ = some (.slice A1 n1 c1)) := Lib.hid (fun w' H K => ⟨(World.cell?_of_block (w := w) H).trans hp0, (World.cell?_of_block (w := w) K).trans hq.1, (World.cell?_of_block (w := w) K).trans hq.2.1, (World.cell?_of_block (w := w) K).trans hq.2.2.1⟩)
  have HQ0 : Hid (w.drew.heap[b3]? = w.heap[b3]?) := Lib.hid rfl
  have HK0 : Hid (w.drew.heap[b4]? = w.heap[b4]?) := Lib.hid rfl
  have HU := Lib.hid hu
  have HUD := Lib.hid (show RdS w.drew (fun b => b < B) (.slice Au xs.length cu) xs from hu)
  have hBD : B ≤ w.drew.heap.size := hB
  have hlx : l ≤ xs.length := by rw [hx.1]; exact hl
  have HV2 := Lib.hid (show Vec p (c - l) (xs.drop l) from ⟨by rw [List.length_drop, hx.1], fun z hz => hx.2 z (List.mem_of_mem_drop hz)⟩)
  have hl2 : (xs.take l).length + (negl p (xs.drop l)).length ≤ 1000 := by have := hx.1; rw [List.length_take, negl_len, List.length_drop]; omega
  clear hq hp0 hu h3 h4 hx
  go_enter Tryd.func72, Tryd.ntmps72
  go_wp2
  go_region_held3 (fun w' => w'.cell? ⟨b3, 0, none⟩ = some (.int .i64 p) ∧ w'.cell? ⟨b4, 0, none⟩ = some (.int .i64 l) ∧ w'.cell? ⟨b4, 1, none⟩ = some (.int .i64 r) ∧ w'.cell? ⟨b4, 2, none⟩ = some (.slice A1 n1 c1))
    (first | with_reducible exact HELD.out _ HQ0.out HK0.out | with_reducible exact HELD.out _ HQ1.out HK1.out | with_reducible exact HELD.out _ HQ2.out HK2.out | with_reducible exact HELD.out _ HQ3.out HK3.out | with_reducible exact HELD.out _ HQ4.out HK4.out | with_reducible exact HELD.out _ HQ5.out HK5.out)
    (first
      | (go_at_call 74; go_split_ands; refine (first_any w.drew B _ _ l r xs HUD.out hBD hlx).mono ?_; rintro e w1 ⟨v1, rfl, b1, o1⟩; obtain ⟨At, nt, ct, rfl⟩ := rdS_sl o1; have HB1 : Hid (Below w.heap.size w w1) := Lib.hid ((Below.refl _ _).drew.trans b1); have HQ1 : Hid (w1.heap[b3]? = w.heap[b3]?) := Lib.hid (HB1.out.block _ hb3); have HK1 : Hid (w1.heap[b4]? = w.heap[b4]?) := Lib.hid (HB1.out.block _ hb4); have HO1 := Lib.hid o1; have HU1 := Lib.hid (HU.out.below HB1.out hB); have hB1 : B ≤ w1.heap.size := Nat.le_trans hB HB1.out.size; clear b1 o1)
      | (go_at_call 54; go_split_ands; refine (second_any w1 B _ _ l r xs HU1.out hB1 hlx).mono ?_; rintro e w2 ⟨v2, rfl, b2, o2⟩; have HB2 : Hid (Below w.heap.size w w2) := Lib.hid (HB1.out.trans (b2.mono HB1.out.size)); have HQ2 : Hid (w2.heap[b3]? = w.heap[b3]?) := Lib.hid (HB2.out.block _ hb3); have HK2 : Hid (w2.heap[b4]? = w.heap[b4]?) := Lib.hid (HB2.out.block _ hb4); have HO2 := Lib.hid o2; have HT2 := Lib.hid (HO1.out.below b2 hB1); have hB2 : B ≤ w2.heap.size := Nat.le_trans hB HB2.out.size; clear b2 o2)
      | (go_at_call 75; go_split_ands; refine (negativeOf_any w2 B _ p (c - l) (xs.drop l) HO2.out hB2 h1 h2 HV2.out (by omega)).mono ?_; rintro e w3 ⟨v3, rfl, b3', o3⟩; obtain ⟨An, nn, cn, rfl⟩ := rdS_sl o3.readB; have HB3 : Hid (Below w.heap.size w w3) := Lib.hid (HB2.out.trans (b3'.mono HB2.out.size)); have HQ3 : Hid (w3.heap[b3]? = w.heap[b3]?) := Lib.hid (HB3.out.block _ hb3); have HK3 : Hid (w3.heap[b4]? = w.heap[b4]?) := Lib.hid (HB3.out.block _ hb4); have HT3 := Lib.hid (HT2.out.below b3' hB2); have HN3 := Lib.hid o3.readB; have hB3 : B ≤ w3.heap.size := Nat.le_trans hB HB3.out.size; have HA : Hid (Below w3.heap.size w3 (w3.alloc (.cells #[.slice At nt ct, .slice An nn cn] 42))) := Lib.hid ((Below.refl _ _).alloc (Nat.le_refl _) _); have HRG := Lib.hid (RdG.pair (B := w3.heap.size + 1) (cellsAt_new w3 #[.slice At nt ct, .slice An nn cn] 42) ((HT3.out.below HA.out hB3).mono (fun q hq => by omega)) ((HN3.out.below HA.out (Nat.le_refl _)).mono (fun q hq => by omega)) (by omega)); have HB4 : Hid (Below w.heap.size w (w3.alloc (.cells #[.slice At nt ct, .slice An nn cn] 42))) := Lib.hid (HB3.out.trans (HA.out.mono HB3.out.size)); have HQ4 : Hid ((w3.alloc (.cells #[.slice At nt ct, .slice An nn cn] 42)).heap[b3]? = w.heap[b3]?) := Lib.hid (HB4.out.block _ hb3); have HK4 : Hid ((w3.alloc (.cells #[.slice At nt ct, .slice An nn cn] 42)).heap[b4]? = w.heap[b4]?) := Lib.hid (HB4.out.block _ hb4); have hAS : w3.heap.size + 1 ≤ (w3.alloc (.cells #[.slice At nt ct, .slice An nn cn] 42)).heap.size := by simp)
      | (go_at_call 73; go_split_ands; refine (concatR_any _ (w3.heap.size + 1) _ [xs.take l, negl p (xs.drop l)] HRG.out hAS (by simp) (by simp [tot]; omega)).mono ?_; rintro e w5 ⟨v5, rfl, b5, o5⟩; have HB5 : Hid (Below w.heap.size w w5) := Lib.hid (HB4.out.trans (b5.mono HB4.out.size)); have HQ5 : Hid (w5.heap[b3]? = w.heap[b3]?) := Lib.hid (HB5.out.block _ hb3); have HK5 : Hid (w5.heap[b4]? = w.heap[b4]?) := Lib.hid (HB5.out.block _ hb4); have HO5 := Lib.hid (OwR.mono (T := fun q => w.heap.size ≤ q) o5 (fun q hq _ => by have := HB3.out.size; simp at hq; omega)); clear b5 o5))
  go_wp2
  go_ret
  refine ⟨_, rfl, HB5.out, ?_⟩
  have e : [xs.take l, negl p (xs.drop l)].flatten = neg1 p l xs := by simp [neg1_eq]
  rw [← e]
  exact HO5.out
end Go.Proofs.YtiiloioobmkicaaDoor

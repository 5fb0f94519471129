/- The orthogonal of a relation: the program's helpers. -/
import Derived.Test.YtdjgkcnhmfkjoaaDoorPartR
import Derived.Test.YtdjgkcnhmfkjoaaDoorOrtM
import Derived.Deep.RegionHeld3
namespace Go.Proofs.YtdjgkcnhmfkjoaaDoor
set_option maxRecDepth 100000
open Go Go.RowKit Go.Deep

def negl (p : Int) (x : List Int) : List Int := x.map fun a => (p - a) % p
theorem negl_len (p : Int) (x : List Int) : (negl p x).length = x.length := by simp [negl]
theorem neg_vmul {p : Int} {n : Nat} {x : List Int} (hx : x.length = n) : vmul p n [p - 1] [x] = negl p x := by
  unfold vmul negl
  rw [comb, comb.eq_2 _ _ _ _ (fun f fs r rs h _ => by cases h)]
  refine ext_getD 0 (by rw [axpy_len, List.length_replicate, List.length_map, hx]) fun j hj => ?_
  rw [axpy_len, List.length_replicate] at hj
  rw [axpy_get (by simpa using hj), repl_getD, map_getD _ _ _ (by omega) 0 0, neg_mod, show (0 : Int) + (p - 1) * x.getD j 0 = -x.getD j 0 + p * x.getD j 0 by grind, Int.add_mul_emod_self_left]
theorem neg1_eq (p : Int) (l : Nat) (x : List Int) : neg1 p l x = x.take l ++ negl p (x.drop l) := rfl
set_option maxHeartbeats 800000 in
theorem negativeOf_any (w : World) (B : Nat) (u : Value) (p : Int) (n : Nat) (x : List Int) (hu : RdS w (fun b => b < B) u x) (hB : B ≤ w.heap.size) (h1 : 2 ≤ p) (h2 : p ≤ 97) (hx : Vec p n x) (hn : n ≤ 1000) :
    Calls Tryd.prog 38 #[.int .i64 p, u] w (MadeR w (negl p x)) := by
  obtain ⟨Au, cu, rfl⟩ := rdS_len hu
  have HVB := Lib.hid (show Below w.heap.size w ((w.alloc (.cells #[.int .i64 (p - 1)] 3)).alloc (.cells #[.slice Au x.length cu] 40)) by repeat' (first | exact Below.refl _ _ | apply Below.alloc | (simp; done) | (simp; omega)))
  have HC0 := Lib.hid (show RdS ((w.alloc (.cells #[.int .i64 (p - 1)] 3)).alloc (.cells #[.slice Au x.length cu] 40)) (fun b => b < w.heap.size + 2) (.slice (some ⟨w.heap.size, 0, none⟩) 1 1) [p - 1] from
    ((owR_at (S := fun b => b < w.heap.size + 2) (by omega) ((cellsAt_new w #[.int .i64 (p - 1)] 3).alloc (.cells #[.slice Au x.length cu] 40)) (xs := [p - 1]) (n := 1) (c := 1) rfl).read.mono fun q hq => hq.1))
  have HG0 := Lib.hid (show RdG ((w.alloc (.cells #[.int .i64 (p - 1)] 3)).alloc (.cells #[.slice Au x.length cu] 40)) (w.heap.size + 2) (.slice (some ⟨w.heap.size + 1, 0, none⟩) 1 1) [x] from by
    refine ⟨_, 1, rfl, Nat.le_refl 1, fun r hr => ?_⟩
    obtain rfl : r = 0 := by simp at hr; omega
    refine ⟨w.heap.size + 1, 0, .slice Au x.length cu, rfl, by omega, ?_, (hu.below HVB.out hB).mono fun q hq => by omega⟩
    have hc := (cellsAt_new' (w.alloc (.cells #[.int .i64 (p - 1)] 3)) #[.slice Au x.length cu] 40 _ (w.heap.size + 1) (by simp) rfl).cell (i := 0) (by simp)
    rw [Nat.zero_add, hc]
    rfl)
  have hsz : w.heap.size + 2 ≤ ((w.alloc (.cells #[.int .i64 (p - 1)] 3)).alloc (.cells #[.slice Au x.length cu] 40)).heap.size := by simp
  have HX := Lib.hid hx
  have hxl : x.length ≤ 1000 := by rw [hx.1]; exact hn
  have HE := Lib.hid (show vmul p x.length [p - 1] [x] = negl p x from neg_vmul rfl)
  clear hu hB hx
  go_enter Tryd.func38, Tryd.ntmps38
  go_wp2_with fail
  refine (combineRows_any _ (w.heap.size + 2) _ _ p x.length [p - 1] [x] HC0.out HG0.out hsz h1 h2 (by omega) (by simp) (by simp) (fun z hz => by simp at hz; omega) (fun r hr => by simp at hr; subst hr; exact ⟨rfl, HX.out.2⟩)).mono ?_
  rintro e w2 ⟨v2, rfl, b2, o2⟩
  have HB2 := Lib.hid b2
  have HO2 := Lib.hid o2
  rw [HE.out] at HO2
  clear b2 o2
  go_wp2
  go_ret
  exact ⟨_, rfl, HVB.out.trans (HB2.out.mono HVB.out.size), OwR.mono (T := fun q => w.heap.size ≤ q) HO2.out fun q hq _ => by have := HVB.out.size; omega⟩
end Go.Proofs.YtdjgkcnhmfkjoaaDoor

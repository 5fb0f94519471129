/- The parts of arguments and results that have memory: rows and grids of ints; what the laws' helpers do with them, each in one form. -/
import Derived.Test.YtdcgoeapgboclaaMem
namespace Go.Proofs.Ytdcgoeapgboclaa
set_option maxRecDepth 100000
open Go Go.RowKit Go.Deep

/-- What an int that came in is. -/
def Bi (n : Int) : Prop := -9223372036854775808 ≤ n ∧ n ≤ 9223372036854775807
/-- The slice v reads as the ints xs, below block B. -/
def LfR (w : World) (B : Nat) (v : Value) (xs : List Int) : Prop := RdS w (fun b => b < B) v xs ∧ xs.length ≤ 9223372036854775807
/-- The slice v reads as the rows, below block B. -/
def LfG (w : World) (B : Nat) (v : Value) (rows : List (List Int)) : Prop := RdG w B v rows ∧ rows.length ≤ 9223372036854775807 ∧ ∀ r, r < rows.length → (rows.getD r []).length ≤ 9223372036854775807
theorem LfR.below {w w' : World} {B B' : Nat} {v : Value} {x : List Int} (h : LfR w B v x) (hb : Below B' w w') (hB : B ≤ B') : LfR w' B v x := ⟨h.1.below hb hB, h.2⟩
theorem LfG.below {w w' : World} {B B' : Nat} {v : Value} {x : List (List Int)} (h : LfG w B v x) (hb : Below B' w w') (hB : B ≤ B') : LfG w' B v x := ⟨h.1.below hb hB, h.2⟩
theorem LfR.mono {w : World} {B B' : Nat} {v : Value} {x : List Int} (h : LfR w B v x) (hB : B ≤ B') : LfR w B' v x := ⟨h.1.mono fun _ hk => Nat.lt_of_lt_of_le hk hB, h.2⟩
theorem LfG.mono {w : World} {B B' : Nat} {v : Value} {x : List (List Int)} (h : LfG w B v x) (hB : B ≤ B') : LfG w B' v x := ⟨h.1.mono hB, h.2⟩
theorem LfR.len {w : World} {B : Nat} {v : Value} {x : List Int} (h : LfR w B v x) : ∃ A c, v = .slice A x.length c := by
  obtain ⟨⟨A, c, e, kc_c, _⟩, _⟩ := h
  exact ⟨A, c, e⟩
theorem LfG.len {w : World} {B : Nat} {v : Value} {x : List (List Int)} (h : LfG w B v x) : ∃ A c, v = .slice A x.length c := h.1.len
/-- How many ints and rows there are. -/
def szR (x : List Int) : Nat := x.length
def szG (x : List (List Int)) : Nat := x.length + tot x
/-- How many marks. -/
def cntR (x : List Int) : Nat := x.length
def cntG (x : List (List Int)) : Nat := tot x
theorem cntR_le (x : List Int) : cntR x ≤ szR x := Nat.le_refl _
theorem cntG_le (x : List (List Int)) : cntG x ≤ szG x := by unfold cntG szG; omega
def mkR (k : Int) (x : List Int) : List Int := marks k x.length
def mkG (k : Int) (x : List (List Int)) : List (List Int) := marksG k x
theorem mkR_len (k : Int) (x : List Int) : (mkR k x).length = x.length := marks_len _ _
theorem mkG_len (k : Int) (x : List (List Int)) : (mkG k x).length = x.length := marksG_len _ _
/-- The slice v is the call's own. -/
def OwnR (w : World) (S : Nat → Prop) (v : Value) (x : List Int) : Prop := OwR w tI S v x ∧ szR x ≤ 1099511627776
def OwnG (w : World) (S : Nat → Prop) (v : Value) (x : List (List Int)) : Prop := OwG w tI tR S v x ∧ szG x ≤ 1099511627776
theorem OwnR.rd {w : World} {S : Nat → Prop} {v : Value} {x : List Int} (h : OwnR w S v x) : LfR w w.heap.size v x := ⟨h.1.readB, by have := h.2; unfold szR at this; omega⟩
theorem OwnG.rd {w : World} {S : Nat → Prop} {v : Value} {x : List (List Int)} (h : OwnG w S v x) : LfG w w.heap.size v x :=
  ⟨h.1.readB, by have := h.2; unfold szG at this; omega, fun r hr => by have := h.2; have := row_le hr; unfold szG at *; omega⟩
theorem OwnR.mono {w : World} {S T : Nat → Prop} {v : Value} {x : List Int} (h : OwnR w S v x) (hs : ∀ k, S k → k < w.heap.size → T k) : OwnR w T v x := ⟨h.1.mono hs, h.2⟩
theorem OwnG.mono {w : World} {S T : Nat → Prop} {v : Value} {x : List (List Int)} (h : OwnG w S v x) (hs : ∀ k, S k → k < w.heap.size → T k) : OwnG w T v x := ⟨h.1.mono hs, h.2⟩
theorem OwnR.blocks {w w' : World} {S : Nat → Prop} {v : Value} {x : List Int} (h : OwnR w S v x) (hb : ∀ k, S k → k < w.heap.size → w'.heap[k]? = w.heap[k]?) : OwnR w' S v x := ⟨h.1.blocks fun k hk hl _ _ => hb k hk hl, h.2⟩
theorem OwnG.blocks {w w' : World} {S : Nat → Prop} {v : Value} {x : List (List Int)} (h : OwnG w S v x) (hb : ∀ k, S k → k < w.heap.size → w'.heap[k]? = w.heap[k]?) : OwnG w' S v x := ⟨h.1.blocks hb, h.2⟩
theorem OwnR.below {w w' : World} {S : Nat → Prop} {B : Nat} {v : Value} {x : List Int} (h : OwnR w S v x) (hb : Below B w w') (hs : ∀ k, S k → k < w.heap.size → k < B) : OwnR w' S v x := h.blocks fun k hk hl => hb.block k (hs k hk hl)
theorem OwnG.below {w w' : World} {S : Nat → Prop} {B : Nat} {v : Value} {x : List (List Int)} (h : OwnG w S v x) (hb : Below B w w') (hs : ∀ k, S k → k < w.heap.size → k < B) : OwnG w' S v x := h.blocks fun k hk hl => hb.block k (hs k hk hl)
theorem OwnR.len {w : World} {S : Nat → Prop} {v : Value} {x : List Int} (h : OwnR w S v x) : ∃ A c, v = .slice A x.length c := h.1.len
theorem OwnG.len {w : World} {S : Nat → Prop} {v : Value} {x : List (List Int)} (h : OwnG w S v x) : ∃ A c, v = .slice A x.length c := OwG.len h.1

/-- Too many, or as many fewer as there are. -/
def SzB (left : Int) (n : Nat) (w : World) (e : Ending) (w' : World) : Prop := Below w.heap.size w w' ∧ (e = .returned (.int .i64 (-1)) ∨ ((n : Int) ≤ left ∧ e = .returned (.int .i64 (left - n))))
theorem szR_any (w : World) (B : Nat) (v : Value) (x : List Int) (left : Int) (hv : LfR w B v x) (h0 : 0 ≤ left) (h1 : left ≤ 1000000000) :
    Calls Try.prog 27 #[v, .int .i64 left] w (SzB left (szR x) w) := by
  obtain ⟨A, c, rfl⟩ := hv.len
  refine (szIntS_any w A x.length c left h0 h1 hv.2).mono ?_
  rintro e w' ⟨rfl, rfl⟩
  refine ⟨Below.refl _ _, ?_⟩
  unfold szI szR
  split
  · exact Or.inl rfl
  · exact Or.inr ⟨by omega, rfl⟩
/-- The call made a leaf of its own. -/
def MkR (w : World) (x : List Int) (e : Ending) (w' : World) : Prop := ∃ v, e = .returned v ∧ Below w.heap.size w w' ∧ OwnR w' (fun b => w.heap.size ≤ b) v x
def MkG (w : World) (x : List (List Int)) (e : Ending) (w' : World) : Prop := ∃ v, e = .returned v ∧ Below w.heap.size w w' ∧ OwnG w' (fun b => w.heap.size ≤ b) v x
theorem toR_any (w : World) (B : Nat) (v : Value) (x : List Int) (hv : LfR w B v x) (hB : B ≤ w.heap.size) (hl : szR x ≤ 1048576) :
    Calls Try.prog 32 #[v] w (MkR w x) :=
  (toIntS_any w B v x hv.1 hB (by unfold szR at hl; omega)).mono fun e w' ⟨v, h1, h2, h3⟩ => ⟨v, h1, h2, h3, by omega⟩
/-- Equal data: the comparison says so. -/
def SaysYes (w : World) (e : Ending) (w' : World) : Prop := e = .returned (.bool true) ∧ Below w.heap.size w w'
theorem eqR_any (w : World) (B : Nat) (v u : Value) (x : List Int) (hv : LfR w B v x) (hu : LfR w B u x) :
    Calls Try.prog 23 #[v, u] w (SaysYes w) :=
  (eqIntS_any w B v u x x hv.1 hu.1 hv.2).mono fun e w' ⟨h1, n, h2⟩ => ⟨by rw [h1]; simp, by rw [h2]; exact below_drewN (Below.refl _ _)⟩
/-- The leaf is marked from k on. -/
def MarkedR (w : World) (S : Nat → Prop) (v : Value) (k : Int) (x : List Int) (e : Ending) (w' : World) : Prop := e = .returned (.int .i64 (k + (cntR x : Nat))) ∧ Touch S w w' ∧ OwnR w' S v (mkR k x)
def MarkedG (w : World) (S : Nat → Prop) (v : Value) (k : Int) (x : List (List Int)) (e : Ending) (w' : World) : Prop := e = .returned (.int .i64 (k + (cntG x : Nat))) ∧ Touch S w w' ∧ OwnG w' S v (mkG k x)
theorem tot_marksG (k : Int) (x : List (List Int)) : tot (marksG k x) = tot x := by
  unfold tot marksG
  congr 1
  apply List.ext_getElem?
  intro i
  simp only [List.getElem?_map, List.getElem?_mapIdx]
  cases x[i]? with
  | none => rfl
  | some r => simp [marks_len]
theorem markedR_any (w : World) (S : Nat → Prop) (v : Value) (x : List Int) (k : Int) (hv : OwnR w S v x) (h0 : 0 ≤ k) (hl : k + (cntR x : Nat) ≤ 9223372036854775807) :
    Calls Try.prog 24 #[v, .int .i64 k] w (MarkedR w S v k x) :=
  (markR_any w S v x k hv.1 h0 hl).mono fun e w' ⟨h1, h2, h3⟩ => ⟨h1, h2.1.mono fun q _ hq => by rw [hq.2]; exact hv.1.blk hq.1, h3, by have := hv.2; unfold szR mkR at *; rw [marks_len]; exact this⟩
/-- The marks are found. -/
def Found (w : World) (k : Int) (n : Nat) (e : Ending) (w' : World) : Prop := e = .returned (.int .i64 (k + (n : Nat))) ∧ Below w.heap.size w w'
theorem heldR_any (w : World) (B : Nat) (v : Value) (x : List Int) (k : Int) (hv : LfR w B v (mkR k x)) (h0 : 0 ≤ k) (hl : k + (cntR x : Nat) ≤ 9223372036854775807) :
    Calls Try.prog 25 #[v, .int .i64 k] w (Found w k (cntR x)) :=
  (heldIntS_any w B v k x.length hv.1 h0 hl).mono fun e w' ⟨h1, h2⟩ => ⟨h1, by rw [h2]; exact Below.refl _ _⟩
theorem Touch.cellAt' {S : Nat → Prop} {w w' : World} (h : Touch S w w') {p : Addr} (hp : p.block < w.heap.size) (hs : ¬ S p.block) : w'.cell? p = w.cell? p := World.cell?_of_block (w := w) (h.block p.block hp hs)
/-! ### Inside a region that draws its order: the world at hand has come from w0. -/
def MkR' (w0 w : World) (x : List Int) (e : Ending) (w' : World) : Prop := ∃ v, e = .returned v ∧ Hid (Below w.heap.size w w') ∧ Hid (Below w0.heap.size w0 w') ∧ Hid (LfR w' w'.heap.size v x)
def MkG' (w0 w : World) (x : List (List Int)) (e : Ending) (w' : World) : Prop := ∃ v, e = .returned v ∧ Hid (Below w.heap.size w w') ∧ Hid (Below w0.heap.size w0 w') ∧ Hid (LfG w' w'.heap.size v x)
theorem toR_fr (w0 w : World) (H : Hid (Below w0.heap.size w0 w)) (x : List Int) (v : Value) (hv : LfR w0 w0.heap.size v x) (hl : szR x ≤ 1048576) :
    Calls Try.prog 32 #[v] w (MkR' w0 w x) :=
  (toR_any w w0.heap.size v x (hv.below H.out (Nat.le_refl _)) H.out.size hl).mono fun _ _ ⟨v, he, hb, ho⟩ => ⟨v, he, Lib.hid hb, Lib.hid (H.out.trans (hb.mono H.out.size)), Lib.hid ho.rd⟩
/-! A box made ahead of a call, behind it. -/
theorem box_behind {w w' : World} {c : Array Value} {t : TypeId} (h : Below (w.alloc (.cells c t)).heap.size (w.alloc (.cells c t)) w') : w'.heap[w.heap.size]? = some (.cells c t (0, 0)) :=
  (h.block _ (by rw [nblk_alloc]; omega)).trans (blk_alloc_new _ _)
theorem box_behind' {w w' : World} {c : Array Value} {t : TypeId} (h : Below (w.alloc (.cells c t)).drew.heap.size (w.alloc (.cells c t)).drew w') : w'.heap[w.heap.size]? = some (.cells c t (0, 0)) :=
  (h.block _ (by show w.heap.size < (w.alloc (.cells c t)).heap.size; rw [nblk_alloc]; omega)).trans (blk_alloc_new _ _)
theorem box_kept {w w' : World} {k : Nat} {o : Obj} (hb : w.heap[k]? = some o) (h : Below w.heap.size w w') : w'.heap[k]? = some o :=
  (h.block _ (Array.getElem?_eq_some_iff.1 hb).1).trans hb
theorem box_cell {w : World} {k : Nat} {c : Array Value} {t : TypeId} (h : w.heap[k]? = some (.cells c t (0, 0))) (i : Nat) : w.cell? ⟨k, i, none⟩ = c[i]? := by simp [World.cell?, h]
theorem box_free {w : World} {k : Nat} {c : Array Value} {t : TypeId} (h : w.heap[k]? = some (.cells c t (0, 0))) (o : Nat) : w.frozen? ⟨k, o, none⟩ = false := by simp [World.frozen?, h]
end Go.Proofs.Ytdcgoeapgboclaa

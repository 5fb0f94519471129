/- Grids of one's own: rows lent, written, read. -/
import Derived.Test.YtahlicbjbbpihaaDoorMatK
import Derived.Deep.RegionHeld3
import Derived.RegionTactic
namespace Go.Proofs.YtahlicbjbbpihaaDoor
set_option maxRecDepth 100000
open Go Go.RowKit Go.Deep

theorem upd_repl {α : Type} (n : Nat) (z y : α) : (List.replicate n z).mapIdx (fun _ _ => y) = List.replicate n y := by
  apply List.ext_getElem?
  intro i
  rw [List.getElem?_mapIdx]
  by_cases c : i < n
  · simp [c]
  · simp [c]
theorem CellsAt.drew {w : World} {b : Nat} {t : TypeId} {vs : List Value} (h : CellsAt w b t vs) : CellsAt w.drew b t vs := h
theorem GridAt.drew {w : World} {ti ts : TypeId} {S : Nat → Prop} {g : Nat} {vs : List Value} {rows : List (List Int)} (h : GridAt w ti ts S g vs rows) : GridAt w.drew ti ts S g vs rows := h.blocks fun _ _ _ => rfl
theorem CellsAt.two {w : World} {b : Nat} {t : TypeId} {v0 v1 : Value} (h : CellsAt w b t [v0, v1]) : w.cell? ⟨b, 0, none⟩ = some v0 ∧ w.cell? ⟨b, 1, none⟩ = some v1 ∧ w.frozen? ⟨b, 0, none⟩ = false ∧ w.frozen? ⟨b, 1, none⟩ = false ∧ b < w.heap.size :=
  ⟨h.cell (i := 0) (by simp), h.cell (i := 1) (by simp), h.frozen 0, h.frozen 1, h.lt⟩
theorem cellsAt_new' (w : World) (c : Array Value) (t : TypeId) (vs : List Value) (b : Nat) (hb : b = w.heap.size) (hv : c.toList = vs) : CellsAt (w.alloc (.cells c t)) b t vs := by
  subst hb hv
  exact cellsAt_new w c t

/-! ### Rows of a grid lent to a callee, or written. -/
/-- The block of a row that is not empty. -/
def rg (u : Value) (xs : List Int) : Nat → Prop := fun b => xs ≠ [] ∧ b = blkOf u
theorem OwR.region {w : World} {ti : TypeId} {S : Nat → Prop} {u : Value} {xs : List Int} (h : OwR w ti S u xs) : OwR w ti (rg u xs) u xs ∧ (xs ≠ [] → S (blkOf u) ∧ blkOf u < w.heap.size) := by
  obtain ⟨A, c, e, h⟩ := h
  rcases h with h | ⟨b, e2, h3, h4⟩
  · exact ⟨⟨A, c, e, Or.inl h⟩, fun hx => absurd h hx⟩
  · by_cases hx : xs = []
    · exact ⟨⟨A, c, e, Or.inl hx⟩, fun hx2 => absurd hx hx2⟩
    · have hb : blkOf u = b := by rw [e, e2]; rfl
      exact ⟨⟨A, c, e, Or.inr ⟨b, e2, ⟨hx, hb.symm⟩, h4⟩⟩, fun _ => by rw [hb]; exact ⟨h3, h4.lt⟩⟩
theorem OwG.row {w : World} {ti ts : TypeId} {S : Nat → Prop} {v : Value} {rows : List (List Int)} (h : OwG w ti ts S v rows) {r : Nat} (hr : r < rows.length) :
    ∃ g c u, v = .slice (some ⟨g, 0, none⟩) rows.length c ∧ S g ∧ g < w.heap.size ∧ w.cell? ⟨g, r, none⟩ = some u ∧ w.frozen? ⟨g, r, none⟩ = false ∧ OwR w ti (rg u (rows.getD r [])) u (rows.getD r []) ∧
      (rows.getD r [] ≠ [] → S (blkOf u) ∧ blkOf u < w.heap.size ∧ blkOf u ≠ g) ∧
      (∀ w' ys, ys.length = (rows.getD r []).length → OwR w' ti (rg u ys) u ys → (∀ k, k < w.heap.size → S k → ¬ rg u (rows.getD r []) k → w'.heap[k]? = w.heap[k]?) → OwG w' ti ts S v (rows.set r ys)) ∧
      ∀ s, s < rows.length → s ≠ r → ∃ u2, w.cell? ⟨g, s, none⟩ = some u2 ∧ RdS w (fun b => S b ∧ ¬ rg u (rows.getD r []) b) u2 (rows.getD s []) := by
  obtain ⟨A, c, e, h⟩ := h
  rcases h with h | ⟨g, vs, e2, h3⟩
  · subst h
    exact absurd hr (Nat.not_lt_zero _)
  · subst e2
    obtain ⟨hro, hrs⟩ := (h3.row r hr).region
    refine ⟨g, c, vs.getD r .nilFunc, e, h3.inS, h3.outer.lt, h3.cell hr, h3.outer.frozen r, hro, fun hx => ⟨(hrs hx).1, (hrs hx).2, h3.off r hr hx⟩, fun w' ys hl ho hb => ?_, fun s hs hsr => ⟨_, h3.cell hs, ?_⟩⟩
    · refine ⟨_, c, by rw [List.length_set]; exact e, Or.inr ⟨g, vs, rfl, ?_⟩⟩
      have he : ys = [] ↔ rows.getD r [] = [] := by rw [← List.length_eq_zero_iff, hl, List.length_eq_zero_iff]
      have hS : ys ≠ [] → S (blkOf (vs.getD r .nilFunc)) := fun hy => (hrs (fun h0 => hy (he.2 h0))).1
      have ho2 : OwR w' ti S (vs.getD r .nilFunc) ys := ho.mono fun k hk _ => by rw [hk.2]; exact hS hk.1
      -- the blocks of S alone are asked for
      refine ⟨h3.outer.of_block (hb _ h3.outer.lt h3.inS fun ⟨hx, e⟩ => h3.off r hr hx e.symm), h3.inS, by rw [List.length_set, h3.len], fun i hi => ?_, fun i hi hx => ?_, fun i j hi hj hij hxi hxj => ?_⟩
      · rw [List.length_set] at hi
        rw [set_getD _ _ _ _ _ hr]
        by_cases c : r = i
        · rw [if_pos c, ← c]
          exact ho2
        · rw [if_neg c]
          exact (h3.row i hi).blocks fun k hk hlt hx e => hb k hlt hk fun ⟨hx2, e2⟩ => h3.apart r i hr hi c hx2 hx (e2.symm.trans e)
      · rw [List.length_set] at hi
        rw [set_getD _ _ _ _ _ hr] at hx
        by_cases c : r = i
        · rw [if_pos c] at hx
          exact h3.off i hi (by rw [← c]; exact fun e => hx (he.2 e))
        · rw [if_neg c] at hx
          exact h3.off i hi hx
      · rw [List.length_set] at hi hj
        rw [set_getD _ _ _ _ _ hr] at hxi hxj
        refine h3.apart i j hi hj hij ?_ ?_
        · by_cases c : r = i
          · rw [if_pos c] at hxi
            rw [← c]
            exact fun e => hxi (he.2 e)
          · rw [if_neg c] at hxi
            exact hxi
        · by_cases c : r = j
          · rw [if_pos c] at hxj
            rw [← c]
            exact fun e => hxj (he.2 e)
          · rw [if_neg c] at hxj
            exact hxj
    · obtain ⟨hso, hss⟩ := (h3.row s hs).region
      exact hso.read.mono fun b hb => ⟨by rw [hb.1.2]; exact (hss hb.1.1).1, fun ⟨hx, e2⟩ => h3.apart s r hs hr hsr hb.1.1 hx (hb.1.2.symm.trans e2)⟩
theorem RdS.touch {w w' : World} {S T : Nat → Prop} {v : Value} {xs : List Int} (h : RdS w S v xs) (ht : Touch T w w') (hs : ∀ b, S b → ¬ T b) : RdS w' S v xs := by
  obtain ⟨A, c, e, h⟩ := h
  refine ⟨A, c, e, fun k hk => ?_⟩
  obtain ⟨b, o, e2, h3, hc⟩ := h k hk
  refine ⟨b, o, e2, h3, (World.cell?_of_block (w := w) (a := ⟨b, o + k, none⟩) (ht.block b ?_ (hs b h3))).trans hc⟩
  by_cases c1 : b < w.heap.size
  · exact c1
  · have : w.heap[b]? = none := by simp; omega
    simp [World.cell?, this] at hc
theorem RdS.at {w : World} {S : Nat → Prop} {A : Option Addr} {n c : Nat} {xs : List Int} (h : RdS w S (.slice A n c) xs) {k : Nat} (hk : k < xs.length) : ∃ b o, A = some ⟨b, o, none⟩ ∧ S b ∧ w.cell? ⟨b, o + k, none⟩ = some (.int .i64 (xs.getD k 0)) := by
  obtain ⟨A', c', e, h⟩ := h
  obtain ⟨b, o, e2, h3, hc⟩ := h k hk
  injection e with e1
  exact ⟨b, o, e1.trans e2, h3, hc⟩
/-- A row of one's own: what a round of a loop wants to know of element j, and what a store there leaves. -/
theorem OwR.at {w : World} {ti : TypeId} {S : Nat → Prop} {v : Value} {xs : List Int} (h : OwR w ti S v xs) {j : Nat} (hj : j < xs.length) :
    ∃ b c, v = .slice (some ⟨b, 0, none⟩) xs.length c ∧ S b ∧ b < w.heap.size ∧ w.cell? ⟨b, j, none⟩ = some (.int .i64 (xs.getD j 0)) ∧ w.frozen? ⟨b, j, none⟩ = false ∧ ∀ u, OwR (w.setCell ⟨b, j, none⟩ (.int .i64 u)) ti S v (xs.set j u) := by
  rcases h.cases with ⟨h0, _⟩ | ⟨b, c, e, hs, _, hc⟩
  · rw [h0] at hj
    exact absurd hj (Nat.not_lt_zero j)
  · refine ⟨b, c, e, hs, hc.lt, ?_, hc.frozen j, fun u => ?_⟩
    · rw [hc.cell (by rw [icells_len]; exact hj)]
      exact icells_get hj
    · rw [e]
      refine owR_at hs ?_ (by rw [List.length_set])
      have := hc.set j (.int .i64 u)
      rwa [icells_set] at this


/-- All that a loop knows of a grid of its own when it writes element j of row r. -/
theorem OwG.at {w : World} {ti ts : TypeId} {S : Nat → Prop} {v : Value} {rows : List (List Int)} (h : OwG w ti ts S v rows) {r j : Nat} (hr : r < rows.length) (hj : j < (rows.getD r []).length) :
    ∃ g c b c2, v = .slice (some ⟨g, 0, none⟩) rows.length c ∧ S g ∧ g < w.heap.size ∧ w.cell? ⟨g, r, none⟩ = some (.slice (some ⟨b, 0, none⟩) (rows.getD r []).length c2) ∧ S b ∧ b < w.heap.size ∧ b ≠ g ∧
      w.cell? ⟨b, j, none⟩ = some (.int .i64 ((rows.getD r []).getD j 0)) ∧ w.frozen? ⟨b, j, none⟩ = false ∧ ∀ u, OwG (w.setCell ⟨b, j, none⟩ (.int .i64 u)) ti ts S v (rows.set r ((rows.getD r []).set j u)) := by
  obtain ⟨g, c, u, e, hg, hgl, hcell, hfz, ho, hb, hre, _⟩ := h.row hr
  obtain ⟨b, c2, e2, hs, hbl, hc, hf, hset⟩ := ho.at hj
  have hx : rows.getD r [] ≠ [] := hs.1
  obtain ⟨h1, h2, h3⟩ := hb hx
  have hbb : b = blkOf u := hs.2
  refine ⟨g, c, b, c2, e, hg, hgl, by rw [hcell, e2], by rw [hbb]; exact h1, hbl, by rw [hbb]; exact h3, hc, hf, fun x => hre _ _ (by rw [List.length_set]) ?_ ?_⟩
  · refine (hset x).mono fun k hk _ => ⟨?_, hk.2⟩
    intro h0
    exact hx (List.eq_nil_of_length_eq_zero (by rw [← List.length_eq_zero_iff, List.length_set, List.length_eq_zero_iff] at h0; rw [h0]; rfl))
  · intro k hk hS hn
    exact blk_setCell_other _ _ _ _ (fun e3 => hn ⟨hx, by rw [← hbb]; exact e3⟩)
theorem OwG.drew {w : World} {ti ts : TypeId} {S : Nat → Prop} {v : Value} {rows : List (List Int)} (h : OwG w ti ts S v rows) : OwG w.drew ti ts S v rows := h.blocks fun _ _ _ => rfl
theorem sliceEq {A B : Option Addr} {n m c d : Nat} (h : Value.slice A n c = .slice B m d) : A = B ∧ n = m ∧ c = d := by
  injection h with h1 h2 h3
  exact ⟨h1, h2, h3⟩


/-- What a call that returned a matrix left: the struct's data, in memory of its own. -/
theorem MadeM.at {w w' : World} {c : Int} {rows : List (List Int)} {e : Ending} (h : MadeM w c rows e w') : ∃ A c2, e = .returned (.agg #[.int .i64 c, .slice A rows.length c2]) ∧ Below w.heap.size w w' ∧ OwG w' tI tR (fun b => w.heap.size ≤ b) (.slice A rows.length c2) rows := by
  obtain ⟨v, he, hb, ho⟩ := h
  obtain ⟨A, c2, rfl⟩ := ho.len
  exact ⟨A, c2, he, hb, ho⟩
theorem MadeG.at {w w' : World} {rows : List (List Int)} {e : Ending} (h : MadeG w rows e w') : ∃ A c2, e = .returned (.slice A rows.length c2) ∧ Below w.heap.size w w' ∧ OwG w' tI tR (fun b => w.heap.size ≤ b) (.slice A rows.length c2) rows := by
  obtain ⟨v, he, hb, ho⟩ := h
  obtain ⟨A, c2, rfl⟩ := ho.len
  exact ⟨A, c2, he, hb, ho⟩
/-- What a round knows of a grid that came in. -/
theorem RdG.at {w : World} {B : Nat} {A : Option Addr} {n c : Nat} {rows : List (List Int)} (h : RdG w B (.slice A n c) rows) {r : Nat} (hr : r < rows.length) :
    ∃ b o A2 c2, A = some ⟨b, o, none⟩ ∧ b < B ∧ w.cell? ⟨b, o + r, none⟩ = some (.slice A2 (rows.getD r []).length c2) ∧ RdS w (fun b => b < B) (.slice A2 (rows.getD r []).length c2) (rows.getD r []) := by
  obtain ⟨A', c', e, h⟩ := h
  obtain ⟨b, o, u, e2, h3, hc, hs⟩ := h r hr
  injection e with e1
  obtain ⟨A2, c2, rfl, hs2⟩ := hs
  exact ⟨b, o, A2, c2, e1.trans e2, h3, hc, A2, c2, rfl, hs2⟩
theorem lt_of_cell {w : World} {p : Addr} {u : Value} (h : w.cell? p = some u) : p.block < w.heap.size := World.block_lt_of_cell? w _ h
/-- Three boxes made ahead of a call, behind it. -/
theorem boxes3 {w w1 : World} {a b c : Array Value} {ta tb tc : TypeId} {B : Nat} (h : Below B (((w.alloc (.cells a ta)).alloc (.cells b tb)).alloc (.cells c tc)) w1) (hB : B = (((w.alloc (.cells a ta)).alloc (.cells b tb)).alloc (.cells c tc)).heap.size) :
    CellsAt w1 w.heap.size ta a.toList ∧ CellsAt w1 (w.heap.size + 1) tb b.toList ∧ CellsAt w1 (w.heap.size + 1 + 1) tc c.toList ∧ Below w.heap.size w w1 := by
  subst hB
  have e1 := cellsAt_new w a ta
  have e2 := cellsAt_new (w.alloc (.cells a ta)) b tb
  have e3 := cellsAt_new ((w.alloc (.cells a ta)).alloc (.cells b tb)) c tc
  simp only [nblk_alloc] at e2 e3
  refine ⟨((e1.alloc _).alloc _).below h (by simp only [nblk_alloc]; omega), (e2.alloc _).below h (by simp only [nblk_alloc]; omega), e3.below h (by simp only [nblk_alloc]; omega), ?_⟩
  refine Below.trans ?_ (h.mono (by simp only [nblk_alloc]; omega))
  exact ((((Below.refl _ _).alloc (Nat.le_refl _) _).alloc (by simp only [nblk_alloc]; omega) _).alloc (by simp only [nblk_alloc]; omega) _)
theorem boxes2 {w w1 : World} {a b : Array Value} {ta tb : TypeId} {B : Nat} (h : Below B ((w.alloc (.cells a ta)).alloc (.cells b tb)) w1) (hB : B = ((w.alloc (.cells a ta)).alloc (.cells b tb)).heap.size) :
    CellsAt w1 w.heap.size ta a.toList ∧ CellsAt w1 (w.heap.size + 1) tb b.toList ∧ Below w.heap.size w w1 := by
  subst hB
  have e1 := cellsAt_new w a ta
  have e2 := cellsAt_new (w.alloc (.cells a ta)) b tb
  simp only [nblk_alloc] at e2
  refine ⟨(e1.alloc _).below h (by simp only [nblk_alloc]; omega), e2.below h (by simp only [nblk_alloc]; omega), ?_⟩
  refine Below.trans ?_ (h.mono (by simp only [nblk_alloc]; omega))
  exact (((Below.refl _ _).alloc (Nat.le_refl _) _).alloc (by simp only [nblk_alloc]; omega) _)
end Go.Proofs.YtahlicbjbbpihaaDoor

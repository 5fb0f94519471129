/- The law FnExactKindName: for every kind it returns true; the argument and the variable leafWords read behind the call as before. No conditions but the row's own: leafWords starts as the program's text lays it (tied). -/
import Derived.Test.YtiealgnmhjebeaaDoorTie
import Derived.Test.YtiealgnmhjebeaaDoorCards
import Derived.Test.YtiealgnmhjebeaaDoorRows
import Derived.Test.YtiealgnmhjebeaaDoorLawKit
import Derived.LaidLaws
import Derived.ChangeArms
import Derived.Lib.LaidTab
import Derived.Lib.Hide
import Derived.Handy
namespace Go.Proofs.YtiealgnmhjebeaaDoor
set_option maxRecDepth 100000
open Go Go.RowKit Go.WideShapes Go.ChangeShapes

/-- The words of the kinds, as the text of the program has them. -/
def kwAll : List ByteArray := [⟨#[]⟩, ⟨#[105, 100]⟩, ⟨#[115, 119, 97, 112]⟩, ⟨#[99, 111, 112, 121]⟩, ⟨#[100, 105, 115, 99, 97, 114, 100]⟩, ⟨#[97, 100, 100]⟩, ⟨#[122, 101, 114, 111]⟩, ⟨#[115, 99, 97, 108, 101]⟩, ⟨#[100, 101, 108, 97, 121]⟩, ⟨#[99, 111, 99, 111, 112, 121]⟩, ⟨#[99, 111, 100, 105, 115, 99, 97, 114, 100]⟩, ⟨#[99, 111, 97, 100, 100]⟩, ⟨#[99, 111, 122, 101, 114, 111]⟩, ⟨#[99, 111, 115, 99, 97, 108, 101]⟩, ⟨#[99, 111, 100, 101, 108, 97, 121]⟩]
def kwOk (k : Int) : Bool := decide (3 ≤ k) && decide (k ≤ 14)
def kwOf (k : Int) : ByteArray := if kwOk k then kwAll.getD k.toNat ByteArray.empty else ByteArray.empty
def WordTab (w : World) : Prop := ∃ t fr, w.heap[0]? = some (.cells (kwAll.map Value.string).toArray t fr)

theorem cells_of_words {H : Type} {enc : TypeId × Value → H} {P : Program} {w : World} {base : Nat} {sp : Nat → Bool} {held : Bool} {fuel : Nat} {t e : TypeId} {n : Nat} {cs : List Value} {ws : List ByteArray} {p : List MemPlace}
    (ht : P.underlying t = some (.array n e)) (he : P.underlying e = some .string) (hce : P.cellsOf e = 1) (hct : P.cellsOf t = n)
    (h : DataW.trod enc P w base sp held fuel t cs = some (.agg (ws.map fun b => .lit (.string b.data.toList)), p)) : cs = ws.map Value.string := by
  cases fuel with
  | zero => simp [DataW.trod] at h
  | succ fuel =>
    simp only [DataW.trod, ht, hce, hct, Nat.mul_one] at h
    split at h
    · rename_i hl
      obtain ⟨xs, hm, hx⟩ := Option.map_eq_some_iff.1 h
      have hxs : xs.map (·.1) = ws.map fun b => (DataW.lit (.string b.data.toList) : DataW H) := by
        have := congrArg Prod.fst hx
        simpa using this
      have hxl : xs.length = n := by simpa using Lib.mapM_length hm
      have hzl : ws.length = n := by
        have := congrArg List.length hxs
        simp at this
        omega
      apply List.ext_getElem?
      intro i
      by_cases hi : i < n
      · obtain ⟨b, hb, hf⟩ := Lib.mapM_at hm i i (by simp [hi])
        obtain ⟨s, hc, rfl, _⟩ := DataW.trod_string he hf
        have h1 : cs[i]? = some (.string s) := by
          have := congrArg (·[0]?) hc
          simpa [List.getElem?_take, List.getElem?_drop] using this
        have h2 : (xs.map (·.1))[i]? = some (DataW.lit (.string s.data.toList) : DataW H) := by simp [hb]
        rw [hxs] at h2
        simp only [List.getElem?_map, Option.map_eq_some_iff, DataW.lit.injEq, Lit.string.injEq] at h2
        obtain ⟨z', hz', h3⟩ := h2
        have h4 : z' = s := by
          obtain ⟨a⟩ := z'
          obtain ⟨b⟩ := s
          congr 1
          exact Array.ext' h3
        subst h4
        simp [h1, hz']
      · rw [List.getElem?_eq_none (by omega), List.getElem?_eq_none (by simp; omega)]
    · cases h

abbrev wordsLaid : List (String × DataW Unit) := [("loop.example/g01073/impl.leafWords", Rows.laid_loop_example_g01073_impl_leafWords)] /- variable 0 -/
theorem ownW : ownKnob Tryd.prog.godebug = none := by kernel_rfl
theorem gWords : Tryd.prog.globalNamed "loop.example/g01073/impl.leafWords" = some 0 := by kernel_rfl
theorem tWords : (Tryd.prog.globals[0]?).map (·.type) = some 28 := by kernel_rfl
theorem uWords : Tryd.prog.underlying 28 = some (.array 15 9) := by kernel_rfl
theorem uString : Tryd.prog.underlying 9 = some .string := by kernel_rfl
theorem cellsString : Tryd.prog.cellsOf 9 = 1 := by kernel_rfl
theorem cellsWords : Tryd.prog.cellsOf 28 = 15 := by kernel_rfl
theorem words_of_laid {W : World} (h : laidMetH Tryd.prog wordsLaid W) : WordTab W := by
  rw [MakeChecks.laidMetH_plain _ _ _ (by kernel_rfl)] at h
  obtain ⟨ps, ⟨g', t', cs, fuel, p, q, hg', ht', hvar, hd, _, _⟩, _⟩ := h
  obtain rfl := Option.some.inj (gWords.symm.trans hg')
  obtain rfl := Option.some.inj (tWords.symm.trans ht')
  have hcs := cells_of_words (ws := kwAll) uWords uString cellsString cellsWords (show DataW.trod _ _ _ _ _ _ _ _ _ = some (.agg (kwAll.map fun b => .lit (.string b.data.toList)), p) from hd)
  unfold World.var? at hvar
  rw [gWords] at hvar
  simp only [Option.bind_some] at hvar
  split at hvar
  · rename_i cs' t fr hg
    obtain rfl := Option.some.inj hvar
    exact ⟨t, fr, by rw [hg, ← hcs]⟩
  · cases hvar
/-- The door's own heap meets the condition: three closed facts. -/
theorem words_met (os : Os) (args : Array Value) : laidMetH Tryd.prog wordsLaid ((World.doorLaid Tryd.prog 400 os).forCall (fun _ _ => 0) ⟨#[], args, []⟩).memory :=
  laidMetH_of_parts3 (fuel := 8) (laidMet_of_run' 8 (by kernel_rfl) (by kernel_rfl)) (by kernel_rfl) (by kernel_rfl)
theorem kindIn_t (n lo hi : Int) (w : World) (h1 : lo ≤ n) (h2 : n ≤ hi) : Calls Tryd.prog 6 #[.int .i64 n, .int .i64 lo, .int .i64 hi] w fun e w' => e = .returned (.bool true) ∧ w = w' := by
  go_enter Tryd.func6, Tryd.ntmps6
  go_wp2
  go_ret
  exact ⟨rfl, rfl⟩
theorem kindIn_f (n lo hi : Int) (w : World) (h : n < lo ∨ hi < n) : Calls Tryd.prog 6 #[.int .i64 n, .int .i64 lo, .int .i64 hi] w fun e w' => e = .returned (.bool false) ∧ w = w' := by
  go_enter Tryd.func6, Tryd.ntmps6
  by_cases c : lo ≤ n
  · have h' : ¬ n ≤ hi := by omega
    go_wp2
    go_ret
    exact ⟨rfl, rfl⟩
  · have h' : n < lo := by omega
    go_wp2
    go_ret
    exact ⟨rfl, rfl⟩
theorem kw_at {k : Int} {i : Nat} (h : k = 3 + i) (hi : i < 12) : ((kwAll.drop 3).map Value.string)[i]? = some (.string (kwOf k)) ∧ (kwAll.map Value.string)[i + 3]? = some (.string (kwOf k)) := by
  have hk : i = 0 ∨ i = 1 ∨ i = 2 ∨ i = 3 ∨ i = 4 ∨ i = 5 ∨ i = 6 ∨ i = 7 ∨ i = 8 ∨ i = 9 ∨ i = 10 ∨ i = 11 := by omega
  subst h
  rcases hk with c | c | c | c | c | c | c | c | c | c | c | c <;> (subst c; exact ⟨rfl, rfl⟩)
theorem cnNames_any (w : World) : Calls Tryd.prog 7 #[] w fun e w' => ∃ b, e = .returned (.slice (some ⟨b, 0, none⟩) 12 12) ∧ Below w.heap.size w w' ∧ ∀ i v, ((kwAll.drop 3).map Value.string)[i]? = some v → w'.cell? ⟨b, i, none⟩ = some v := by
  go_enter Tryd.func7, Tryd.ntmps7
  go_wp2
  go_ret
  exact ⟨_, rfl, (Below.refl _ _).alloc (Nat.le_refl _) _, fun i v h => by
    have e : (w.alloc (.cells ((kwAll.drop 3).map Value.string).toArray 9)).heap[w.heap.size]? = some (.cells ((kwAll.drop 3).map Value.string).toArray 9 (0, 0)) := by unfold World.alloc; exact Array.getElem?_push_size
    have e2 : (w.alloc (.cells ((kwAll.drop 3).map Value.string).toArray 9)).cell? ⟨w.heap.size, i, none⟩ = some v := by simp only [World.cell?, e, List.getElem?_toArray, h]; rfl
    exact e2⟩
theorem kwOk_t {k : Int} (h : 3 ≤ k ∧ k ≤ 14) : kwOk k = true := by unfold kwOk; simp [h.1, h.2]
theorem kwOk_f {k : Int} (h : ¬ (3 ≤ k ∧ k ≤ 14)) : kwOk k = false ∧ kwOf k = ByteArray.empty := by
  have e : kwOk k = false := by unfold kwOk; simp; omega
  exact ⟨e, by unfold kwOf; rw [e]; rfl⟩
theorem spec_KindName (k : Int) (w : World) : Calls Tryd.prog 4 #[.int .i64 k] w fun e w' => e = .returned (.tuple #[.string (kwOf k), .bool (kwOk k)]) ∧ Below w.heap.size w w' := by
  by_cases h : 3 ≤ k ∧ k ≤ 14
  · have HL := Lib.hid (kindIn_t k 3 14 w h.1 h.2)
    have HN := Lib.hid (fun w0 => cnNames_any w0)
    obtain ⟨i, hi⟩ : ∃ i : Nat, k = 3 + i := ⟨(k - 3).toNat, by omega⟩
    have hi2 : i < 12 := by omega
    have hi3 : (i : Int) < 12 := by omega
    have HC := Lib.hid (kw_at hi hi2).1
    have hw : IntKind.i64.wrap (k - 3) = i := by rw [Go.IntWalk.i64_in _ ⟨by omega, by omega⟩]; omega
    rw [kwOk_t h]
    obtain ⟨x, hx⟩ : ∃ x, x = kwOf k := ⟨_, rfl⟩
    rw [← hx] at HC ⊢
    clear h hx hi
    go_enter Tryd.func4, Tryd.ntmps4
    go_wp2_with (first | (go_at_call 6; refine HL.out.mono ?_; rintro e w' ⟨rfl, rfl⟩) | (go_at_call 7; refine (HN.out _).mono ?_; rintro e w' ⟨b, rfl, hb, hcs⟩; have hc := hcs _ _ HC.out; have HBB := Lib.hid hb; clear hb hcs) | fail)
    refine bodyPost_ret (v := .tuple #[.string x, .bool true]) (by simp [results, Tryd.results4, go_sem]) rfl ?_
    exact ⟨rfl, by repeat' (first | exact HBB.out | apply Below.drew | apply Below.alloc | (simp; done) | omega | (simp; omega))⟩
  · obtain ⟨e, e2⟩ := kwOk_f h
    have HL := Lib.hid (kindIn_f k 3 14 w (by omega))
    rw [e, e2]
    clear e e2
    go_enter Tryd.func4, Tryd.ntmps4
    go_wp2_with fail
    refine HL.out.mono ?_
    rintro e w' ⟨rfl, rfl⟩
    go_wp2
    refine bodyPost_ret (v := .tuple #[.string ByteArray.empty, .bool false]) (by simp [results, Tryd.results4, go_sem]; rfl) rfl ?_
    exact ⟨rfl, by repeat' (first | exact Below.refl _ _ | apply Below.drew | apply Below.alloc | (simp; done) | omega | (simp; omega))⟩
theorem wordTab_cell {w : World} (ht : WordTab w) {i : Nat} {v : Value} (hv : (kwAll.map Value.string)[i]? = some v) : w.cell? ⟨0, i, none⟩ = some v := by
  obtain ⟨t, fr, ht⟩ := ht
  simp [World.cell?, ht, hv]
theorem impl_KindName (k : Int) (w : World) (ht : WordTab w) : Calls Tryd.prog 5 #[.int .i64 k] w fun e w' => e = .returned (.tuple #[.string (kwOf k), .bool (kwOk k)]) ∧ w = w' := by
  by_cases h : 3 ≤ k ∧ k ≤ 14
  · obtain ⟨i, hi⟩ : ∃ i : Nat, k = 3 + i := ⟨(k - 3).toNat, by omega⟩
    have hc := wordTab_cell ht (kw_at hi (by omega)).2
    rw [kwOk_t h]
    obtain ⟨x, hx⟩ : ∃ x, x = kwOf k := ⟨_, rfl⟩
    rw [← hx] at hc ⊢
    obtain ⟨j, hj⟩ : ∃ j : Nat, i + 3 = j := ⟨_, rfl⟩
    rw [hj] at hc
    obtain rfl : k = (j : Int) := by omega
    have h1 : ¬ (j : Int) < 3 := by omega
    have h2 : ¬ 14 < (j : Int) := by omega
    have h3 : (j : Int) < 15 := by omega
    have h4 : j < 15 := by omega
    clear h hx hi ht hj
    go_enter Tryd.func5, Tryd.ntmps5
    go_wp2
    refine bodyPost_ret (v := .tuple #[.string x, .bool true]) (by simp [results, Tryd.results5, go_sem]) rfl ?_
    exact ⟨rfl, rfl⟩
  · obtain ⟨e, e2⟩ := kwOk_f h
    rw [e, e2]
    clear e e2
    by_cases c : k < 3
    · go_enter Tryd.func5, Tryd.ntmps5
      go_wp2
      refine bodyPost_ret (v := .tuple #[.string ByteArray.empty, .bool false]) (by simp [results, Tryd.results5, go_sem]; rfl) rfl ?_
      exact ⟨rfl, rfl⟩
    · have h' : 14 < k := by omega
      go_enter Tryd.func5, Tryd.ntmps5
      go_wp2
      refine bodyPost_ret (v := .tuple #[.string ByteArray.empty, .bool false]) (by simp [results, Tryd.results5, go_sem]; rfl) rfl ?_
      exact ⟨rfl, rfl⟩
theorem law_KindName (k : Int) (w : World) (ht : WordTab w) : Calls Tryd.prog 3 #[.int .i64 k] w fun e w' => e = .returned (.bool true) ∧ Below w.heap.size w w' := by
  have HT := Lib.hid ht
  have HS := Lib.hid (spec_KindName k w)
  obtain ⟨x, hx⟩ : ∃ x, x = kwOf k := ⟨_, rfl⟩
  obtain ⟨y, hy⟩ : ∃ y, y = kwOk k := ⟨_, rfl⟩
  have HI := Lib.hid (fun w' (h : WordTab w') => impl_KindName k w' h)
  rw [← hx, ← hy] at HS HI
  clear ht hx hy
  go_enter Tryd.func3, Tryd.ntmps3
  go_wp2_with fail
  refine HS.out.mono ?_
  rintro e w' ⟨rfl, hb⟩
  have HB := Lib.hid hb
  clear hb
  go_wp2_with fail
  refine (HI.out w' ?_).mono ?_
  · obtain ⟨t, fr, h⟩ := HT.out
    exact ⟨t, fr, (HB.out.block _ (Array.getElem?_eq_some_iff.1 h).1).trans h⟩
  rintro e w2 ⟨rfl, rfl⟩
  go_wp2
  go_ret
  exact ⟨rfl, HB.out⟩
theorem kindArg {H : Type} {enc : TypeId × Value → H} {W : World} {base : Nat} {ds : List (DataW H)} {ps : List MemPlace} {args : Array Value} (hval : ∀ (j : Nat) t v, (#[3] : Array TypeId)[j]? = some t → args[j]? = some v → Value.okWide Tryd.prog W .any base t v)
    (h : DataW.TrodAll enc Tryd.prog W 0 (fun _ => true) true (#[3] : Array TypeId).toList args.toList ds ps) : ∃ n0, args = #[.int .i64 n0] := by
  obtain ⟨l⟩ := args
  match l, ds, h with
  | [v], d :: ds, h =>
    obtain ⟨p, q, h1, h2, rfl⟩ := h
    obtain ⟨n, rfl, rfl, rfl, hw⟩ := open_int Tryd.underlying3 (hval 0 3 v rfl rfl) h1
    exact ⟨n, rfl⟩
  | _ :: _ :: _, d :: ds, h =>
    obtain ⟨p, q, h1, h2, rfl⟩ := h
    cases ds <;> cases h2

theorem fnExactKindName_fn {H : Type} (ds gs : List (DataW H)) (h1 : ds.length = Tryd.f3.params.toList.length) (h2 : gs.length = Rows.fnExactKindNameSpec.vars.length) : Rows.fnExactKindNameSpec.fn H (ds ++ gs) = { results := [.lit (.bool true)], args := ds, vars := gs } := by
  rw [Tryd.params3] at h1
  match ds, gs, h1, h2 with
  | [_], [_], _, _ => rfl
set_option maxRecDepth 100000 in
theorem fnExactKindName_lifted (os : Os) (started : os.Started) (H : Type) (enc : TypeId × Value → H) :
    ReturnsInHanded {} Tryd.checked os 3 .any (fun w args => (Rows.fnExactKindNameSpec.pre enc Tryd.prog Tryd.f3 [] false w args ∧ laidMetH Tryd.prog Rows.fnExactKindNameRow.laid w) ∧ sizedMet enc Tryd.prog Tryd.f3 (OpenSpec.ofChange Rows.fnExactKindNameSpec) false w args)
      (Rows.fnExactKindNameSpec.post enc Tryd.prog Tryd.f3 false true false false) := by
  refine returnsInHanded_of_change_and (C := Tryd.checked) (X := fun w _ => laidMetH Tryd.prog Rows.fnExactKindNameRow.laid w) (fun _ _ _ hh h => h.of_heap hh) ownW started (by kernel_rfl) Tryd.func3
    (ChangeSpec.witness_shaped (enc := enc) (C := Tryd.checked) (os := os) (X := fun w _ => laidMetH Tryd.prog Rows.fnExactKindNameRow.laid w) false (World.doorLaid Tryd.prog 400 os) #[.int .i64 0] 8 rfl (World.shaped_of_RefB (by kernel_rfl) (by kernel_rfl)) (by kernel_rfl) (by kernel_rfl) (by kernel_rfl) (words_met os _)) ?_
  intro W base args ds gs before hval0 hW _ _ hL _
  have hval : ∀ (j : Nat) t v, Tryd.f3.params[j]? = some t → args[j]? = some v → Value.okWide Tryd.prog W .any base t v := hval0
  have hW' := hW
  obtain ⟨p, q, hA0, hV0, rfl, hfz, hnd⟩ := hW
  have hT := words_of_laid hL
  replace hA0 : DataW.TrodAll enc Tryd.prog W 0 (fun _ => true) true Tryd.f3.params.toList args.toList ds p := hA0
  rw [Tryd.params3] at hA0 hval
  obtain ⟨n0, rfl⟩ := kindArg hval hA0
  refine (law_KindName n0 W hT).mono fun e W' ⟨he, hb⟩ => ?_
  subst he
  exact ⟨_, rfl, post_true (by kernel_rfl) (by kernel_rfl) (by kernel_rfl) rfl Tryd.underlying4 fnExactKindName_fn hW' hb⟩
theorem fnExactKindName_holds : Rows.FnExactKindNameSaid :=
  OpenClaim.holds_of_wide 3 Tryd.f3 rfl rfl rfl rfl rfl rfl rfl ⟨rfl, rfl, rfl, rfl, rfl⟩ rfl rfl rfl rfl rfl (by kernel_rfl) Tryd.func3 (by kernel_rfl)
    (of_decide_eq_true (by kernel_rfl)) (by unfold Func.isWrapper; first | (rw [if_pos (by decide +kernel)]; kernel_rfl) | (rw [if_neg (by decide +kernel)]; exact ⟨rfl, rfl⟩))
    (fun os started H enc _ => fnExactKindName_lifted os started H enc)
theorem fnExactKindName_card_holds : Rows.FnExactKindNameCardSaid :=
  Claim7.holds_tied_plain_at .later [] [.data] true _ false
    fnExactKindName_holds (fun _ h => by cases h) (by kernel_rfl) (fun _ h => by cases h) fnExactKindName_row_tie rfl ⟨rfl, rfl⟩ (by kernel_rfl) rfl
    (fun f fn hf hfn => by
      obtain rfl : f = 3 := Option.some.inj ((show Tryd.prog.funcNamed "loop.example/g01073/laws.FnExactKindName" = some 3 by kernel_rfl).symm.trans hf) |>.symm
      obtain rfl : fn = Tryd.f3 := (Option.some.inj (Tryd.func3.symm.trans hfn)).symm
      exact ⟨by kernel_rfl, fun j t ht => by
        rw [Tryd.params3] at ht
        have hm := Array.mem_of_getElem? ht
        have hall : ((#[3] : Array TypeId).toList.all fun u => !Tryd.prog.wantsStandIn u) = true := by kernel_rfl
        exact (show Tryd.prog.wantsStandIn t = false by simpa using List.all_eq_true.1 hall t (Array.mem_toList_iff.2 hm))⟩)
    (by kernel_rfl)

end Go.Proofs.YtiealgnmhjebeaaDoor

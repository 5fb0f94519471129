/- Regions that draw their order, whose operations read and call: one walk in index order, whatever class of worlds the calls keep. -/
import Derived.Test.YtdcgoeapgboclaaProg
import Derived.Deep.QuietTactic
namespace Go.Proofs.Ytdcgoeapgboclaa
set_option maxRecDepth 100000
open Go

/-- A goal that nothing unfolds. -/
structure Qt (p : Prop) : Prop where
  out : p
theorem region_quiet {P : Program} {id : Nat} {Q : Exit → Act → World → Prop} {a : Act} {w : World} {l : List Oper} (C : World → Prop) (hm : P.follows .mixedOrders = true) (hB : Region.lexB .any l.toArray = true) (hC : C w.drew)
    (h : Qt (wpQuiet P l.toArray C (fun a' => ∀ w', C w' → Q .normal a' w') l a)) : (Code.region id l.toArray true).wp P Q a w :=
  wp_region_quiet (C := C) hm hB hC (by simpa using h.out)
theorem quiet_step {P : Program} {ops : Array Oper} {C : World → Prop} {Q : Act → Prop} {o : Oper} {rest : List Oper} {a : Act}
    (h : ∀ K : Act → Prop, (∀ a, Qt (wpQuiet P ops C Q rest a) → K a) → (if Region.wanted o (yielded ops a.tmps) then o.quiet P a C K else K (a.put o.dst undef))) : Qt (wpQuiet P ops C Q (o :: rest) a) :=
  ⟨wpQuiet_step fun K hK => h K fun a ha => hK a ha.out⟩
theorem quiet_nil {P : Program} {ops : Array Oper} {C : World → Prop} {Q : Act → Prop} {a : Act} (h : Q a) : Qt (wpQuiet P ops C Q [] a) := ⟨wpQuiet_nil h⟩
end Go.Proofs.Ytdcgoeapgboclaa

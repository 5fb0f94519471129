/- A space and a vector beside it: the program's side. -/
import Derived.Test.YtpoghbdomknfcaaDoorVecS
import Derived.Test.YtpoghbdomknfcaaDoorSpI
namespace Go.Proofs.YtpoghbdomknfcaaDoor
set_option maxRecDepth 100000
open Go Go.RowKit Go.Deep

/-- A new block with one slice reads as one row. -/
theorem RdG.one {w : World} {B b : Nat} {A : Option Addr} {c : Nat} {v : List Int} {t : TypeId} (hc : CellsAt w b t [.slice A v.length c]) (hv : RdS w (fun q => q < B) (.slice A v.length c) v) (hb : b < B) (d : Nat) (hd : 1 ≤ d := by first | exact Nat.le_refl _ | omega) : RdG w B (.slice (some ⟨b, 0, none⟩) 1 d) [v] := by
  refine ⟨_, d, rfl, hd, fun r hr => ?_⟩
  obtain rfl : r = 0 := by simp at hr; omega
  exact ⟨b, 0, _, rfl, hb, by simpa using hc.cell (i := 0) (by simp), hv⟩
end Go.Proofs.YtpoghbdomknfcaaDoor

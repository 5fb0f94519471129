/- The program's reduced list of rows. -/
import Derived.Test.YtiiloioobmkicaaRdRows
import Derived.Test.YtiiloioobmkicaaMath
import Derived.Test.YtiiloioobmkicaaSpA
namespace Go.Proofs.Ytiiloioobmkicaa
set_option maxRecDepth 100000
open Go Go.RowKit Go.Deep

theorem repl_nils (n : Nat) : List.replicate n (List.replicate 0 (0 : Int)) = nils n := rfl
end Go.Proofs.Ytiiloioobmkicaa

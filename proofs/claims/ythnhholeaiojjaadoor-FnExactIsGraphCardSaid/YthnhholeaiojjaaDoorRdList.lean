/- The program's reduced list of rows. -/
import Derived.Test.YthnhholeaiojjaaDoorRdRows
import Derived.Test.YthnhholeaiojjaaDoorMath
import Derived.Test.YthnhholeaiojjaaDoorSpA
namespace Go.Proofs.YthnhholeaiojjaaDoor
set_option maxRecDepth 100000
open Go Go.RowKit Go.Deep

theorem repl_nils (n : Nat) : List.replicate n (List.replicate 0 (0 : Int)) = nils n := rfl
end Go.Proofs.YthnhholeaiojjaaDoor

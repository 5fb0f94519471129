/- The program's reduced list of rows. -/
import Derived.Test.YtbeaihjiablcbaaRdRows
import Derived.Test.YtbeaihjiablcbaaMath
import Derived.Test.YtbeaihjiablcbaaSpA
namespace Go.Proofs.Ytbeaihjiablcbaa
set_option maxRecDepth 100000
open Go Go.RowKit Go.Deep

theorem repl_nils (n : Nat) : List.replicate n (List.replicate 0 (0 : Int)) = nils n := rfl
end Go.Proofs.Ytbeaihjiablcbaa

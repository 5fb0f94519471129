/- IsSpace: both sides, as the harness wants them. -/
import Derived.Test.YtgncgihneemmcaaDoorSpI
import Derived.Test.YtgncgihneemmcaaDoorRetB
namespace Go.Proofs.YtgncgihneemmcaaDoor
set_option maxRecDepth 100000
open Go Go.RowKit Go.Deep

theorem spec_IsSpace (w : World) (B : Nat) (v : Value) (p c : Int) (rows : List (List Int)) (hv : LfG w B v rows) (hB : B ≤ w.heap.size) (_hs : szG rows ≤ 1048576) :
    Calls Tryd.prog 39 #[.int .i64 p, .agg #[.int .i64 c, v]] w (SRetB w (isSp p c rows)) := (specIsSpace_any w B v p c rows hv hB).mono fun _ _ h => h
theorem impl_IsSpace (w : World) (B : Nat) (v : Value) (p c : Int) (rows : List (List Int)) (ht : Tab w) (hv : LfG w B v rows) (hB : B ≤ w.heap.size) (_hs : szG rows ≤ 1048576) :
    Calls Tryd.prog 41 #[.int .i64 p, .agg #[.int .i64 c, v]] w (IRetB w (isSp p c rows)) := (implIsSpace_any w B v p c rows ht hv hB).mono fun _ _ h => h
end Go.Proofs.YtgncgihneemmcaaDoor

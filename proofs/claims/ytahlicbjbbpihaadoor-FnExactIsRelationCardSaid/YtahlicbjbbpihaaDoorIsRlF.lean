/- IsRelation: both sides, as the harness wants them. -/
import Derived.Test.YtahlicbjbbpihaaDoorIsRl
import Derived.Test.YtahlicbjbbpihaaDoorLawGB
namespace Go.Proofs.YtahlicbjbbpihaaDoor
set_option maxRecDepth 100000
open Go Go.RowKit Go.Deep

theorem spec_IsRelation (w : World) (B : Nat) (v : Value) (p l r : Int) (rows : List (List Int)) (_hbl : Bi l) (_hbr : Bi r) (hv : LfG w B v rows) (hB : B ≤ w.heap.size) (hs : szG rows ≤ 1048576) :
    Calls Tryd.prog 45 #[.int .i64 p, .agg #[.int .i64 l, .int .i64 r, v]] w (SRetB w (isRl p l r rows)) := specIsRelation_any w B v p l r rows hv hB hs
theorem impl_IsRelation (w : World) (B : Nat) (v : Value) (p l r : Int) (rows : List (List Int)) (hbl : Bi l) (_hbr : Bi r) (ht : Tab w) (hv : LfG w B v rows) (hB : B ≤ w.heap.size) (_hs : szG rows ≤ 1048576) :
    Calls Tryd.prog 47 #[.int .i64 p, .agg #[.int .i64 l, .int .i64 r, v]] w (IRetB w (isRl p l r rows)) := (implIsRelation_any w B v p l r rows ht hv hB hbl.2).mono fun _ _ h => h
end Go.Proofs.YtahlicbjbbpihaaDoor

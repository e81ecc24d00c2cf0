/- The document's digest, with its shape. -/
import Derived.Test.YtknkmblacaaegaaDoorShaKit
import Derived.Test.YtknkmblacaaegaaDoorShaRefSum
namespace Go.Proofs.YtknkmblacaaegaaDoor
open Go.RowKit
set_option linter.unusedVariables false
set_option linter.unusedSimpArgs false
set_option maxRecDepth 100000

/-- The document's digest, with its shape. -/
theorem refSha32 (v : Value) (l : List Int) (w : World) (h : Bs w v l) (ho : Oct l) (hl : l.length ≤ 50000) :
    Calls Tryd.prog 21 #[v] w fun e w' => Shaped 32 (digest l) w e w' :=
  (refSha v l w h ho hl).mono fun e w' h => h.shaped (digest_length l)

end Go.Proofs.YtknkmblacaaegaaDoor

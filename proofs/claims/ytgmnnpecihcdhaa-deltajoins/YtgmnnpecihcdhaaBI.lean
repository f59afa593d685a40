/-
  What the document's Minus return.
  Conditions: as each theorem states them.
-/
import Derived.Test.YtgmnnpecihcdhaaBG
namespace Go.Proofs.Ytgmnnpecihcdhaa
open Go.ChangeShapes Go.WideShapes Go.ChangeAt Go.RowKit
set_option linter.unusedVariables false
set_option linter.unusedSimpArgs false
set_option maxRecDepth 100000


end Go.Proofs.Ytgmnnpecihcdhaa

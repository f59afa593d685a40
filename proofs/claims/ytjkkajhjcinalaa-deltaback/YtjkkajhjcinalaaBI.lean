/-
  What the document's Minus return.
  Conditions: as each theorem states them.
-/
import Derived.Test.YtjkkajhjcinalaaG1
namespace Go.Proofs.Ytjkkajhjcinalaa
open Go.ChangeShapes Go.WideShapes Go.ChangeAt Go.RowKit
set_option linter.unusedVariables false
set_option linter.unusedSimpArgs false
set_option maxRecDepth 100000


end Go.Proofs.Ytjkkajhjcinalaa

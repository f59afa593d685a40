/-
  What lattice.next and Count return.
  Conditions: as each theorem states them.
-/
import Derived.Test.YtfgphphaopcolaaLE
import Derived.Test.YtfgphphaopcolaaLF
namespace Go.Proofs.Ytfgphphaopcolaa
open Go.ChangeShapes Go.WideShapes Go.ChangeAt Go.RowKit
set_option linter.unusedVariables false
set_option linter.unusedSimpArgs false

/-- How many nodes. -/
def cnt (ds : Dims) (M : Int) : Int := if goodC ds M then (tp ds M 0 + 1) * (tp ds M 1 + 1) * (tp ds M 2 + 1) * (tp ds M 3 + 1) else 0
theorem mul_bd {x y X Y : Int} (hx : 1 ≤ x) (hX : x ≤ X) (hy : 1 ≤ y) (hY : y ≤ Y) : 1 ≤ x * y ∧ x * y ≤ X * Y := by
  constructor
  · have := Int.mul_le_mul hx hy (by omega) (by omega)
    simpa using this
  · exact Int.mul_le_mul hX hY (by omega) (by omega)

end Go.Proofs.Ytfgphphaopcolaa

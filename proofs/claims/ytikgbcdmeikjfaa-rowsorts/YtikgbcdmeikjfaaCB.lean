/-
  Rows of bytes as the texts on package code have them, and as the others do.
  Conditions: as each theorem states them.
-/
import Derived.Test.YtikgbcdmeikjfaaCF
import Derived.Test.YtikgbcdmeikjfaaCG
import Derived.Test.YtikgbcdmeikjfaaCM
namespace Go.Proofs.Ytikgbcdmeikjfaa
open Go.ChangeShapes Go.WideShapes Go.ChangeAt Go.RowKit
set_option linter.unusedVariables false
set_option linter.unusedSimpArgs false
set_option maxRecDepth 100000

theorem row8_of {w : World} {a : Option Addr} {n c : Nat} {l : List Int} (h : IRow .u8 w a n c l) (hu : ∀ x ∈ l, U8 x) : code.Row8 w a n c l := by
  obtain ⟨h1, h2, h3, h4, h5⟩ := h
  exact ⟨h1, h2, h3, hu, h4, h5⟩
theorem row8_irow {w : World} {a : Option Addr} {n c : Nat} {l : List Int} (h : code.Row8 w a n c l) : IRow .u8 w a n c l ∧ ∀ x ∈ l, U8 x := by
  obtain ⟨h1, h2, h3, h4, h5, h6⟩ := h
  exact ⟨⟨h1, h2, h3, h5, h6⟩, h4⟩
theorem vals8 (l : List Int) : code.vals l = vals .u8 l := rfl
/-- What is read off the front of small numbers. -/
theorem get_small {x : Int} {r : List Int} (h0 : 0 ≤ x) (h : x < 128) : code.getB (x :: r) = true ∧ code.getV (x :: r) = x ∧ code.getN (x :: r) = 1 := by
  have := code.get_digs x r (by unfold U64; omega)
  have e : code.digs x = [x] := code.digF_stop h
  rw [e] at this
  simpa using this

end Go.Proofs.Ytikgbcdmeikjfaa

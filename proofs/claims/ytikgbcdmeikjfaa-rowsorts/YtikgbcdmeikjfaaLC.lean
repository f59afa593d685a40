/-
  What lattice.Base, Below, Rank return, and the document's own.
  Conditions: as each theorem states them.
-/
import Derived.Test.YtikgbcdmeikjfaaLB
namespace Go.Proofs.Ytikgbcdmeikjfaa
open Go.ChangeShapes Go.WideShapes Go.ChangeAt Go.RowKit
set_option linter.unusedVariables false
set_option linter.unusedSimpArgs false
set_option maxRecDepth 100000

/-- None of four numbers is above the other's. -/
def bel (a0 a1 a2 a3 b0 b1 b2 b3 : Int) : Bool := decide (a0 ≤ b0 ∧ a1 ≤ b1 ∧ a2 ≤ b2 ∧ a3 ≤ b3)
def rnk (a0 a1 a2 a3 : Int) : Int := a0 + a1 + a2 + a3
theorem mn_self (a b : Int) : (mn a b == a) = decide (a ≤ b) := by
  unfold mn
  by_cases h : b < a
  · rw [if_pos h, decide_eq_false (by omega)]; simp; omega
  · rw [if_neg h, decide_eq_true (by omega)]; simp
theorem mn_bel (a0 a1 a2 a3 b0 b1 b2 b3 : Int) : (mn a0 b0 == a0 && (mn a1 b1 == a1 && (mn a2 b2 == a2 && mn a3 b3 == a3))) = bel a0 a1 a2 a3 b0 b1 b2 b3 := by
  rw [mn_self, mn_self, mn_self, mn_self]
  unfold bel
  simp

theorem base_any (w : World) : Calls Try.prog 28 #[] w fun e w' => e = .returned (.agg #[.int .u8 0, .int .u8 0, .int .u8 0, .int .u8 0]) ∧ Below w.heap.size w w' := by
  go_enter Try.func28, Try.ntmps28
  go_wp2
  go_returns
  exact ⟨rfl, by go_grown⟩

theorem two_nodes (w : World) (a0 a1 a2 a3 b0 b1 b2 b3 : Int) (t t' : TypeId) : Hid (∀ x, Below ((w.alloc (.cells #[.int .u8 a0, .int .u8 a1, .int .u8 a2, .int .u8 a3] t)).alloc (.cells #[.int .u8 b0, .int .u8 b1, .int .u8 b2, .int .u8 b3] t')).heap.size ((w.alloc (.cells #[.int .u8 a0, .int .u8 a1, .int .u8 a2, .int .u8 a3] t)).alloc (.cells #[.int .u8 b0, .int .u8 b1, .int .u8 b2, .int .u8 b3] t')) x →
    Below ((w.alloc (.cells #[.int .u8 a0, .int .u8 a1, .int .u8 a2, .int .u8 a3] t)).alloc (.cells #[.int .u8 b0, .int .u8 b1, .int .u8 b2, .int .u8 b3] t')).heap.size ((w.alloc (.cells #[.int .u8 a0, .int .u8 a1, .int .u8 a2, .int .u8 a3] t)).alloc (.cells #[.int .u8 b0, .int .u8 b1, .int .u8 b2, .int .u8 b3] t')) x ∧
    x.cell? ⟨w.heap.size, 0, none⟩ = some (.int .u8 a0) ∧ x.cell? ⟨w.heap.size, 1, none⟩ = some (.int .u8 a1) ∧ x.cell? ⟨w.heap.size, 2, none⟩ = some (.int .u8 a2) ∧ x.cell? ⟨w.heap.size, 3, none⟩ = some (.int .u8 a3) ∧
    x.cell? ⟨w.heap.size + 1, 0, none⟩ = some (.int .u8 b0) ∧ x.cell? ⟨w.heap.size + 1, 1, none⟩ = some (.int .u8 b1) ∧ x.cell? ⟨w.heap.size + 1, 2, none⟩ = some (.int .u8 b2) ∧ x.cell? ⟨w.heap.size + 1, 3, none⟩ = some (.int .u8 b3)) := by
  refine hid fun x hB => ⟨hB, ?_, ?_, ?_, ?_, ?_, ?_, ?_, ?_⟩ <;> rw [(bcell hB).1 _ _ (by simp <;> omega)] <;> simp [go_sem]

end Go.Proofs.Ytikgbcdmeikjfaa

/-
  How three numbers may lie to each other; cells that are kept in the law CalcOrders.
  Conditions: as each theorem states them.
-/
import Derived.Test.YtagcjfcmgfifnaaK
namespace Go.Proofs.Ytagcjfcmgfifnaa
open Go.RowKit
set_option linter.unusedVariables false
set_option linter.unusedSimpArgs false

theorem start6 (w : World) (a0 a1 b0 b1 c0 c1 : Int) : w.heap.size + 1 + 1 < ((((w.alloc (.cells #[.int .i64 a0, .int .i64 a1] 45)).alloc (.cells #[.int .i64 b0, .int .i64 b1] 45)).alloc (.cells #[.int .i64 c0, .int .i64 c1] 45)).drew).heap.size ∧ Below w.heap.size w ((((w.alloc (.cells #[.int .i64 a0, .int .i64 a1] 45)).alloc (.cells #[.int .i64 b0, .int .i64 b1] 45)).alloc (.cells #[.int .i64 c0, .int .i64 c1] 45)).drew) ∧ ((((w.alloc (.cells #[.int .i64 a0, .int .i64 a1] 45)).alloc (.cells #[.int .i64 b0, .int .i64 b1] 45)).alloc (.cells #[.int .i64 c0, .int .i64 c1] 45)).drew).cell? ⟨w.heap.size, 0, none⟩ = some (.int .i64 a0) ∧ ((((w.alloc (.cells #[.int .i64 a0, .int .i64 a1] 45)).alloc (.cells #[.int .i64 b0, .int .i64 b1] 45)).alloc (.cells #[.int .i64 c0, .int .i64 c1] 45)).drew).cell? ⟨w.heap.size, 1, none⟩ = some (.int .i64 a1) ∧ ((((w.alloc (.cells #[.int .i64 a0, .int .i64 a1] 45)).alloc (.cells #[.int .i64 b0, .int .i64 b1] 45)).alloc (.cells #[.int .i64 c0, .int .i64 c1] 45)).drew).cell? ⟨w.heap.size + 1, 0, none⟩ = some (.int .i64 b0) ∧ ((((w.alloc (.cells #[.int .i64 a0, .int .i64 a1] 45)).alloc (.cells #[.int .i64 b0, .int .i64 b1] 45)).alloc (.cells #[.int .i64 c0, .int .i64 c1] 45)).drew).cell? ⟨w.heap.size + 1, 1, none⟩ = some (.int .i64 b1) ∧ ((((w.alloc (.cells #[.int .i64 a0, .int .i64 a1] 45)).alloc (.cells #[.int .i64 b0, .int .i64 b1] 45)).alloc (.cells #[.int .i64 c0, .int .i64 c1] 45)).drew).cell? ⟨w.heap.size + 1 + 1, 0, none⟩ = some (.int .i64 c0) ∧ ((((w.alloc (.cells #[.int .i64 a0, .int .i64 a1] 45)).alloc (.cells #[.int .i64 b0, .int .i64 b1] 45)).alloc (.cells #[.int .i64 c0, .int .i64 c1] 45)).drew).cell? ⟨w.heap.size + 1 + 1, 1, none⟩ = some (.int .i64 c1) := by
  refine ⟨by simp, ((((Below.refl _ _).alloc (Nat.le_refl _) _).alloc (by simp) _).alloc (by simp; omega) _).drew, ?_, ?_, ?_, ?_, ?_, ?_⟩ <;> simp [go_sem]
theorem keep6 {w W w' : World} {a0 a1 b0 b1 c0 c1 : Int} (hb : Below W.heap.size W w') (h : w.heap.size + 1 + 1 < W.heap.size ∧ Below w.heap.size w W ∧ W.cell? ⟨w.heap.size, 0, none⟩ = some (.int .i64 a0) ∧ W.cell? ⟨w.heap.size, 1, none⟩ = some (.int .i64 a1) ∧ W.cell? ⟨w.heap.size + 1, 0, none⟩ = some (.int .i64 b0) ∧ W.cell? ⟨w.heap.size + 1, 1, none⟩ = some (.int .i64 b1) ∧ W.cell? ⟨w.heap.size + 1 + 1, 0, none⟩ = some (.int .i64 c0) ∧ W.cell? ⟨w.heap.size + 1 + 1, 1, none⟩ = some (.int .i64 c1)) : w.heap.size + 1 + 1 < w'.heap.size ∧ Below w.heap.size w w' ∧ w'.cell? ⟨w.heap.size, 0, none⟩ = some (.int .i64 a0) ∧ w'.cell? ⟨w.heap.size, 1, none⟩ = some (.int .i64 a1) ∧ w'.cell? ⟨w.heap.size + 1, 0, none⟩ = some (.int .i64 b0) ∧ w'.cell? ⟨w.heap.size + 1, 1, none⟩ = some (.int .i64 b1) ∧ w'.cell? ⟨w.heap.size + 1 + 1, 0, none⟩ = some (.int .i64 c0) ∧ w'.cell? ⟨w.heap.size + 1 + 1, 1, none⟩ = some (.int .i64 c1) := by
  obtain ⟨h0, h1, h2, h3, h4, h5, h6, h7⟩ := h
  obtain ⟨hc, hf⟩ := bcell hb
  exact ⟨Nat.lt_of_lt_of_le h0 hb.size, bt h1 hb, (hc _ _ (by omega)).trans h2, (hc _ _ (by omega)).trans h3, (hc _ _ (by omega)).trans h4, (hc _ _ (by omega)).trans h5, (hc _ _ (by omega)).trans h6, (hc _ _ (by omega)).trans h7⟩

theorem sg_opp (x y : Int) : sg y x = -sg x y := by
  unfold sg
  by_cases h1 : x < y <;> by_cases h2 : y < x <;> simp [h1, h2] <;> omega
theorem sg_cases (x y : Int) : (sg x y = -1 ∧ x < y) ∨ (sg x y = 0 ∧ x = y) ∨ (sg x y = 1 ∧ y < x) := by
  unfold sg
  by_cases h1 : x < y
  · left; simp [h1]
  · by_cases h2 : y < x
    · right; right; simp [h1, h2]
    · right; left; simp [h1, h2]; omega
/-- How three numbers may lie to each other. -/
theorem sg_three (x y z : Int) : (sg x y = -1 ∧ sg y z = -1 ∧ sg x z = -1) ∨ (sg x y = -1 ∧ sg y z = 0 ∧ sg x z = -1) ∨ (sg x y = -1 ∧ sg y z = 1 ∧ sg x z = -1) ∨ (sg x y = -1 ∧ sg y z = 1 ∧ sg x z = 0) ∨ (sg x y = -1 ∧ sg y z = 1 ∧ sg x z = 1) ∨
    (sg x y = 0 ∧ sg y z = -1 ∧ sg x z = -1) ∨ (sg x y = 0 ∧ sg y z = 0 ∧ sg x z = 0) ∨ (sg x y = 0 ∧ sg y z = 1 ∧ sg x z = 1) ∨
    (sg x y = 1 ∧ sg y z = -1 ∧ sg x z = -1) ∨ (sg x y = 1 ∧ sg y z = -1 ∧ sg x z = 0) ∨ (sg x y = 1 ∧ sg y z = -1 ∧ sg x z = 1) ∨ (sg x y = 1 ∧ sg y z = 0 ∧ sg x z = 1) ∨ (sg x y = 1 ∧ sg y z = 1 ∧ sg x z = 1) := by
  rcases sg_cases x y with ⟨e1, h1⟩ | ⟨e1, h1⟩ | ⟨e1, h1⟩ <;> rcases sg_cases y z with ⟨e2, h2⟩ | ⟨e2, h2⟩ | ⟨e2, h2⟩ <;> rcases sg_cases x z with ⟨e3, h3⟩ | ⟨e3, h3⟩ | ⟨e3, h3⟩ <;> rw [e1, e2, e3] <;> first | (simp; done) | (exfalso; omega)
theorem sg_f1 (x y : Int) : (decide (sg x y < 0) == decide (x < y)) = true := by
  rcases sg_cases x y with ⟨e, h⟩ | ⟨e, h⟩ | ⟨e, h⟩ <;> rw [e] <;> simp <;> omega
theorem sg_f2 (x y : Int) : ((sg x y == 0) == (x == y)) = true := by
  rcases sg_cases x y with ⟨e, h⟩ | ⟨e, h⟩ | ⟨e, h⟩ <;> rw [e] <;> simp <;> omega

end Go.Proofs.Ytagcjfcmgfifnaa

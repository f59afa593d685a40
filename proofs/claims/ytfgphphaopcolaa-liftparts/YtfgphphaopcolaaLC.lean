/-
  What lattice.Base, Below, Rank return, and the document's own.
  Conditions: as each theorem states them.
-/
import Derived.Test.YtfgphphaopcolaaLB
namespace Go.Proofs.Ytfgphphaopcolaa
open Go.ChangeShapes Go.WideShapes Go.ChangeAt Go.RowKit
set_option linter.unusedVariables false
set_option linter.unusedSimpArgs false

/-- None of four numbers is above the other's. -/
def bel (a0 a1 a2 a3 b0 b1 b2 b3 : Int) : Bool := decide (a0 ≤ b0 ∧ a1 ≤ b1 ∧ a2 ≤ b2 ∧ a3 ≤ b3)
def rnk (a0 a1 a2 a3 : Int) : Int := a0 + a1 + a2 + a3
theorem mn_self (a b : Int) : (mn a b == a) = decide (a ≤ b) := by
  unfold mn
  by_cases h : b < a
  · rw [if_pos h, decide_eq_false (by omega)]; simp; omega
  · rw [if_neg h, decide_eq_true (by omega)]; simp
theorem mn_bel (a0 a1 a2 a3 b0 b1 b2 b3 : Int) : (mn a0 b0 == a0 && (mn a1 b1 == a1 && (mn a2 b2 == a2 && mn a3 b3 == a3))) = bel a0 a1 a2 a3 b0 b1 b2 b3 := by
  rw [mn_self, mn_self, mn_self, mn_self]
  unfold bel
  simp

theorem two_nodes (w : World) (a0 a1 a2 a3 b0 b1 b2 b3 : Int) (t t' : TypeId) : Hid (∀ x, Below ((w.alloc (.cells #[.int .u8 a0, .int .u8 a1, .int .u8 a2, .int .u8 a3] t)).alloc (.cells #[.int .u8 b0, .int .u8 b1, .int .u8 b2, .int .u8 b3] t')).heap.size ((w.alloc (.cells #[.int .u8 a0, .int .u8 a1, .int .u8 a2, .int .u8 a3] t)).alloc (.cells #[.int .u8 b0, .int .u8 b1, .int .u8 b2, .int .u8 b3] t')) x →
    Below ((w.alloc (.cells #[.int .u8 a0, .int .u8 a1, .int .u8 a2, .int .u8 a3] t)).alloc (.cells #[.int .u8 b0, .int .u8 b1, .int .u8 b2, .int .u8 b3] t')).heap.size ((w.alloc (.cells #[.int .u8 a0, .int .u8 a1, .int .u8 a2, .int .u8 a3] t)).alloc (.cells #[.int .u8 b0, .int .u8 b1, .int .u8 b2, .int .u8 b3] t')) x ∧
    x.cell? ⟨w.heap.size, 0, none⟩ = some (.int .u8 a0) ∧ x.cell? ⟨w.heap.size, 1, none⟩ = some (.int .u8 a1) ∧ x.cell? ⟨w.heap.size, 2, none⟩ = some (.int .u8 a2) ∧ x.cell? ⟨w.heap.size, 3, none⟩ = some (.int .u8 a3) ∧
    x.cell? ⟨w.heap.size + 1, 0, none⟩ = some (.int .u8 b0) ∧ x.cell? ⟨w.heap.size + 1, 1, none⟩ = some (.int .u8 b1) ∧ x.cell? ⟨w.heap.size + 1, 2, none⟩ = some (.int .u8 b2) ∧ x.cell? ⟨w.heap.size + 1, 3, none⟩ = some (.int .u8 b3)) := by
  refine hid fun x hB => ⟨hB, ?_, ?_, ?_, ?_, ?_, ?_, ?_, ?_⟩ <;> rw [(bcell hB).1 _ _ (by simp <;> omega)] <;> simp [go_sem]

set_option maxHeartbeats 4000000 in
theorem below_any (a0 a1 a2 a3 b0 b1 b2 b3 : Int) (w : World) :
    Calls Try.prog 30 #[.agg #[.int .u8 a0, .int .u8 a1, .int .u8 a2, .int .u8 a3], .agg #[.int .u8 b0, .int .u8 b1, .int .u8 b2, .int .u8 b3]] w
      fun e w' => e = .returned (.bool (bel a0 a1 a2 a3 b0 b1 b2 b3)) ∧ Below w.heap.size w w' := by
  have KS := two_nodes w a0 a1 a2 a3 b0 b1 b2 b3 26 26
  have eqn := eqN
  go_enter Try.func30, Try.ntmps30
  go_wp2
  go_region_held3 (fun x => Below ((w.alloc (.cells #[.int .u8 a0, .int .u8 a1, .int .u8 a2, .int .u8 a3] 26)).alloc (.cells #[.int .u8 b0, .int .u8 b1, .int .u8 b2, .int .u8 b3] 26)).heap.size ((w.alloc (.cells #[.int .u8 a0, .int .u8 a1, .int .u8 a2, .int .u8 a3] 26)).alloc (.cells #[.int .u8 b0, .int .u8 b1, .int .u8 b2, .int .u8 b3] 26)) x ∧
      x.cell? ⟨w.heap.size, 0, none⟩ = some (.int .u8 a0) ∧ x.cell? ⟨w.heap.size, 1, none⟩ = some (.int .u8 a1) ∧ x.cell? ⟨w.heap.size, 2, none⟩ = some (.int .u8 a2) ∧ x.cell? ⟨w.heap.size, 3, none⟩ = some (.int .u8 a3) ∧
      x.cell? ⟨w.heap.size + 1, 0, none⟩ = some (.int .u8 b0) ∧ x.cell? ⟨w.heap.size + 1, 1, none⟩ = some (.int .u8 b1) ∧ x.cell? ⟨w.heap.size + 1, 2, none⟩ = some (.int .u8 b2) ∧ x.cell? ⟨w.heap.size + 1, 3, none⟩ = some (.int .u8 b3))
    (first | assumption | exact keep_drew KS | exact keep_step (by assumption) (by assumption) KS)
    (first
      | (go_at_call 44; refine (meet_any _ _ _ _ _ _ _ _ _).mono ?_; rintro e w5 ⟨rfl, hb5⟩))
  go_wp2
  go_ret
  exact ⟨ret_bool (mn_bel _ _ _ _ _ _ _ _), (Below.alloc (Below.alloc (Below.refl _ _) (Nat.le_refl _) _) (by simp) _).trans ((undrew hb5).mono (by simp; omega))⟩

set_option maxHeartbeats 4000000 in
theorem rbelow_any (a0 a1 a2 a3 b0 b1 b2 b3 : Int) (w : World) :
    Calls Try.prog 32 #[.agg #[.int .u8 a0, .int .u8 a1, .int .u8 a2, .int .u8 a3], .agg #[.int .u8 b0, .int .u8 b1, .int .u8 b2, .int .u8 b3]] w
      fun e w' => e = .returned (.bool (bel a0 a1 a2 a3 b0 b1 b2 b3)) ∧ Below w.heap.size w w' := by
  by_cases c0 : b0 < a0
  · go_enter Try.func32, Try.ntmps32
    go_wp2
    refine wp_loop_rounds 5 ?_
    rw [rounds_succ]; go_wp2; go_quiet (fail); go_wp2
    go_ret
    exact ⟨ret_bool (by unfold bel; rw [decide_eq_false (by omega)]), by (repeat refine below_drewN ?_ _); go_grown⟩
  by_cases c1 : b1 < a1
  · go_enter Try.func32, Try.ntmps32
    go_wp2
    refine wp_loop_rounds 5 ?_
    iterate 2 (rw [rounds_succ]; go_wp2; go_quiet (fail); go_wp2)
    go_ret
    exact ⟨ret_bool (by unfold bel; rw [decide_eq_false (by omega)]), by (repeat refine below_drewN ?_ _); go_grown⟩
  by_cases c2 : b2 < a2
  · go_enter Try.func32, Try.ntmps32
    go_wp2
    refine wp_loop_rounds 5 ?_
    iterate 3 (rw [rounds_succ]; go_wp2; go_quiet (fail); go_wp2)
    go_ret
    exact ⟨ret_bool (by unfold bel; rw [decide_eq_false (by omega)]), by (repeat refine below_drewN ?_ _); go_grown⟩
  by_cases c3 : b3 < a3
  · go_enter Try.func32, Try.ntmps32
    go_wp2
    refine wp_loop_rounds 5 ?_
    iterate 4 (rw [rounds_succ]; go_wp2; go_quiet (fail); go_wp2)
    go_ret
    exact ⟨ret_bool (by unfold bel; rw [decide_eq_false (by omega)]), by (repeat refine below_drewN ?_ _); go_grown⟩
  go_enter Try.func32, Try.ntmps32
  go_wp2
  refine wp_loop_rounds 5 ?_
  iterate 4 (rw [rounds_succ]; go_wp2; go_quiet (fail); go_wp2)
  rw [rounds_succ]; go_wp2
  go_ret
  exact ⟨ret_bool (by unfold bel; rw [decide_eq_true (by omega)]), by (repeat refine below_drewN ?_ _); go_grown⟩

end Go.Proofs.Ytfgphphaopcolaa

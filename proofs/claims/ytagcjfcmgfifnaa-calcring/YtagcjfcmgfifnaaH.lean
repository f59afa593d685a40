/-
  What the laws' helpers told and wakes return.
  Conditions: as each theorem states them.
-/
import Derived.Test.YtagcjfcmgfifnaaC
import Derived.Test.YtagcjfcmgfifnaaG
namespace Go.Proofs.Ytagcjfcmgfifnaa
open Go.RowKit
set_option linter.unusedVariables false
set_option linter.unusedSimpArgs false

set_option maxHeartbeats 400000 in
theorem told_any (z : Int) (w : World) :
    Calls Try.prog 13 #[.int .i64 (fitV z), .bool (fitB z), .agg #[.bool (ng z), .int .u64 (hi (sz z)), .int .u64 (lo (sz z))]] w fun e w' => e = .returned (.bool true) ∧ Below w.heap.size w w' := by
  have e1 : (fitB z == fitB z) = true := by simp
  have e2 : (fitV z == fitV z) = true := by simp
  go_enter Try.func13, Try.ntmps13
  go_wp2_with (go_at_call 27; refine (back_any _ _).mono ?_; rintro e w1 ⟨rfl, hb1⟩)
  go_ret
  exact ⟨rfl, ((Below.refl _ _).alloc (Nat.le_refl _) _).trans (hb1.mono (by simp))⟩

theorem add_wake (w : World) : Calls Try.prog 9 #[.int .i64 9223372036854775807, .int .i64 1] w fun e w' => e = .returned (.tuple #[.int .i64 0, .bool false]) ∧ w' = w := by
  have h := add_any 9223372036854775807 1 w (by unfold I64; decide) (by unfold I64; decide)
  rw [show fitV (9223372036854775807 + 1) = 0 from by decide, show fitB (9223372036854775807 + 1) = false from by decide] at h
  exact h
theorem mul_wake (w : World) : Calls Try.prog 11 #[.int .i64 (-3), .int .i64 5] w fun e w' => e = .returned (.tuple #[.int .i64 (-15), .bool true]) ∧ Below w.heap.size w w' := by
  have h := mul_any (-3) 5 w (by unfold I64; decide) (by unfold I64; decide)
  rw [show fitV (-3 * 5) = -15 from by decide, show fitB (-3 * 5) = true from by decide] at h
  exact h
theorem cmp_wake (w : World) : Calls Try.prog 23 #[.int .i64 3, .int .i64 5, .int .i64 2, .int .i64 8] w fun e w' => e = .returned (.int .i64 (-1)) ∧ Below w.heap.size w w' := by
  have h := cmp_any 3 5 2 8 w (by unfold I64; decide) (by unfold I64; decide) (by unfold I64; decide) (by unfold I64; decide)
  rw [show sg (3 * 5) (2 * 8) = -1 from by decide] at h
  exact h
theorem size_wake (w : World) : Calls Try.prog 18 #[.int .i64 (-7)] w fun e w' => e = .returned (.int .u64 7) ∧ w' = w := by
  have h := size_any (-7) w (by unfold I64; decide)
  rw [show sz (-7) = 7 from by decide] at h
  exact h
theorem total_wake (b : Nat) (w : World) (hb : b < w.heap.size) (h0 : w.cell? ⟨b, 0, none⟩ = some (.int .i64 9223372036854775807)) (h1 : w.cell? ⟨b, 1, none⟩ = some (.int .i64 1)) (h2 : w.cell? ⟨b, 2, none⟩ = some (.int .i64 (-1))) :
    Calls Try.prog 21 #[.slice (some ⟨b, 0, none⟩) 3 3] w fun e w' => e = .returned (.tuple #[.int .i64 9223372036854775807, .bool true]) ∧ Below w.heap.size w w' := by
  have h := total_any b 0 3 3 [9223372036854775807, 1, -1] w (by decide) (by decide) hb (by
    intro k hk
    match k, hk with
    | 0, _ => simpa using h0
    | 1, _ => simpa using h1
    | 2, _ => simpa using h2) (by
    intro x hx
    simp at hx
    rcases hx with rfl | rfl | rfl <;> (unfold I64; decide))
  rw [show fitV (sumI (List.take 3 [9223372036854775807, 1, -1])) = 9223372036854775807 from by decide, show fitB (sumI (List.take 3 [9223372036854775807, 1, -1])) = true from by decide] at h
  exact h

set_option maxHeartbeats 1000000 in
theorem wakes_any (w : World) :
    Calls Try.prog 20 #[] w fun e w' => e = .returned (.bool true) ∧ Below w.heap.size w w' := by
  go_enter Try.func20, Try.ntmps20
  go_wp2_with (first
    | (go_at_call 9; refine (add_wake _).mono ?_; rintro e w0 ⟨rfl, rfl⟩)
    | (go_at_call 21; refine (total_wake _ _ (by simp) (by simp [go_sem]) (by simp [go_sem]) (by simp [go_sem])).mono ?_; rintro e w1 ⟨rfl, hb1⟩)
    | (go_at_call 11; refine (mul_wake _).mono ?_; rintro e w2 ⟨rfl, hb2⟩)
    | (go_at_call 23; refine (cmp_wake _).mono ?_; rintro e w3 ⟨rfl, hb3⟩)
    | (go_at_call 18; refine (size_wake _).mono ?_; rintro e w4 ⟨rfl, rfl⟩))
  go_ret
  exact ⟨rfl, bt (bt (((Below.refl _ _).alloc (Nat.le_refl _) _).trans (hb1.mono (by simp))) hb2) hb3⟩

end Go.Proofs.Ytagcjfcmgfifnaa

/-
  What slices.BinarySearchFunc at bag.Has's own function, and bag.Has, return.
  Conditions: as each theorem states them.
-/
import Derived.Test.YtjkkajhjcinalaaG1
namespace Go.Proofs.Ytjkkajhjcinalaa
open Go.ChangeShapes Go.WideShapes Go.ChangeAt Go.RowKit
set_option linter.unusedVariables false
set_option linter.unusedSimpArgs false
set_option maxRecDepth 100000

def ci (a b : Int) : Int := if a < b then -1 else if b < a then 1 else 0
theorem nan64 (a : Int) (w : World) : Calls Try.prog 105 #[.int .i64 a] w fun e w' => e = .returned (.bool false) ∧ w' = w := by
  go_enter Try.func105, Try.ntmps105
  go_wp2
  go_ret
  exact ⟨by simp, rfl⟩
set_option maxHeartbeats 1000000 in
theorem cmp64 (a b C : Int) (w : World) (hC : Hid (ci a b = C)) : Calls Try.prog 71 #[.int .i64 a, .int .i64 b] w fun e w' => e = .returned (.int .i64 C) ∧ w' = w := by
  have h := hC.out
  unfold ci at h
  by_cases h1 : a < b
  · rw [if_pos h1] at h
    subst h
    go_enter Try.func71, Try.ntmps71
    go_wp2_with (go_at_call 105; refine (nan64 _ _).mono ?_; rintro e w' ⟨rfl, rfl⟩)
    go_ret
    exact ⟨rfl, rfl⟩
  · rw [if_neg h1] at h
    have h1' : decide (a < b) = false := decide_eq_false h1
    by_cases h2 : b < a
    · rw [if_pos h2] at h
      subst h
      go_enter Try.func71, Try.ntmps71
      go_wp2_with (go_at_call 105; refine (nan64 _ _).mono ?_; rintro e w' ⟨rfl, rfl⟩)
      go_ret
      exact ⟨rfl, rfl⟩
    · rw [if_neg h2] at h
      subst h
      have h2' : decide (b < a) = false := decide_eq_false h2
      go_enter Try.func71, Try.ntmps71
      go_wp2_with (go_at_call 105; refine (nan64 _ _).mono ?_; rintro e w' ⟨rfl, rfl⟩)
      go_ret
      exact ⟨rfl, rfl⟩
theorem ci_neg {a b : Int} (h : a < b) : ci a b = -1 := by unfold ci; rw [if_pos h]
theorem ci_zero (a : Int) : ci a a = 0 := by unfold ci; rw [if_neg (by omega), if_neg (by omega)]
theorem ci_pos {a b : Int} (h : b < a) : ci a b = 1 := by unfold ci; rw [if_neg (by omega), if_pos h]
theorem ci_nn {a b : Int} (h : ¬ a < b) : 0 ≤ ci a b := by unfold ci; rw [if_neg h]; split <;> omega
/-- What a search tells of a value in a rising list. -/
def Found (l : List Rn) (v : Int) (j : Nat) (f : Bool) : Prop := j ≤ l.length ∧ (f = true → ∃ q, l[j]? = some (v, q)) ∧ (f = false → ∀ r ∈ l, ¬ r.1 = v)
end Go.Proofs.Ytjkkajhjcinalaa

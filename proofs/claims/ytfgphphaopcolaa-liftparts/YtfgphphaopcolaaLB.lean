/-
  What lattice.Meet, Join, Below, Rank, Base return, and the document's own.
  Conditions: as each theorem states them.
-/
import Derived.Test.YtfgphphaopcolaaOP
import Derived.Handy
import Derived.Laws.Cover1
namespace Go.Proofs.Ytfgphphaopcolaa
open Go.ChangeShapes Go.WideShapes Go.ChangeAt Go.RowKit
set_option linter.unusedVariables false
set_option linter.unusedSimpArgs false

/-- The lesser, the greater of two. -/
def mn (a b : Int) : Int := if b < a then b else a
def mx (a b : Int) : Int := if b > a then b else a
theorem eqN (a b c d x y z u : Int) (w : World) : (Op.equalIn 10000 26 (.agg #[.int .u8 a, .int .u8 b, .int .u8 c, .int .u8 d]) (.agg #[.int .u8 x, .int .u8 y, .int .u8 z, .int .u8 u])).run Try.prog w = .ok (a == x && (b == y && (c == z && d == u))) w := by
  have u3 := Try.underlying5
  have a3 := Try.isAgg5
  have z3 := Try.sizeOf5
  rw [show (10000 : Nat) = 9999 + 1 from rfl, Op.equalIn]
  simp only [Sem.run_bind, run_underlying Try.underlying26, Result.andThen_ok]
  simp only [Std.Legacy.Range.forIn_eq_forIn_range', Std.Legacy.Range.size, Nat.sub_zero, Nat.add_sub_cancel, Nat.div_one, List.range'_succ, List.range'_zero, List.forIn_cons, List.forIn_nil]
  go_simp
  by_cases h1 : a = x <;> by_cases h2 : b = y <;> by_cases h3 : c = z <;> by_cases h4 : d = u <;> simp [h1, h2, h3, h4]

set_option maxHeartbeats 4000000 in
theorem meet_any (a0 a1 a2 a3 b0 b1 b2 b3 : Int) (w : World) :
    Calls Try.prog 44 #[.agg #[.int .u8 a0, .int .u8 a1, .int .u8 a2, .int .u8 a3], .agg #[.int .u8 b0, .int .u8 b1, .int .u8 b2, .int .u8 b3]] w
      fun e w' => e = .returned (.agg #[.int .u8 (mn a0 b0), .int .u8 (mn a1 b1), .int .u8 (mn a2 b2), .int .u8 (mn a3 b3)]) ∧ Below w.heap.size w w' := by
  unfold mn
  obtain ⟨m0, h0⟩ : ∃ m, (if b0 < a0 then b0 else a0) = m := ⟨_, rfl⟩
  obtain ⟨m1, h1⟩ : ∃ m, (if b1 < a1 then b1 else a1) = m := ⟨_, rfl⟩
  obtain ⟨m2, h2⟩ : ∃ m, (if b2 < a2 then b2 else a2) = m := ⟨_, rfl⟩
  obtain ⟨m3, h3⟩ : ∃ m, (if b3 < a3 then b3 else a3) = m := ⟨_, rfl⟩
  rw [h0, h1, h2, h3]
  go_enter Try.func44, Try.ntmps44
  go_wp2
  refine wp_loop_rounds 5 ?_
  iterate 4 (rw [rounds_succ]; go_wp2; go_region; go_wp2)
  rw [rounds_succ]; go_wp2
  go_returns
  exact ⟨rfl, by go_grown⟩

set_option maxHeartbeats 4000000 in
theorem rmeet_any (a0 a1 a2 a3 b0 b1 b2 b3 : Int) (w : World) :
    Calls Try.prog 10 #[.agg #[.int .u8 a0, .int .u8 a1, .int .u8 a2, .int .u8 a3], .agg #[.int .u8 b0, .int .u8 b1, .int .u8 b2, .int .u8 b3]] w
      fun e w' => e = .returned (.agg #[.int .u8 (mn a0 b0), .int .u8 (mn a1 b1), .int .u8 (mn a2 b2), .int .u8 (mn a3 b3)]) ∧ Below w.heap.size w w' := by
  unfold mn
  obtain ⟨m0, h0⟩ : ∃ m, (if b0 < a0 then b0 else a0) = m := ⟨_, rfl⟩
  obtain ⟨m1, h1⟩ : ∃ m, (if b1 < a1 then b1 else a1) = m := ⟨_, rfl⟩
  obtain ⟨m2, h2⟩ : ∃ m, (if b2 < a2 then b2 else a2) = m := ⟨_, rfl⟩
  obtain ⟨m3, h3⟩ : ∃ m, (if b3 < a3 then b3 else a3) = m := ⟨_, rfl⟩
  rw [h0, h1, h2, h3]
  go_enter Try.func10, Try.ntmps10
  go_wp2
  refine wp_loop_rounds 5 ?_
  iterate 4 (rw [rounds_succ]; go_wp2; go_region; go_wp2)
  rw [rounds_succ]; go_wp2
  go_returns
  exact ⟨rfl, by go_grown⟩

end Go.Proofs.Ytfgphphaopcolaa

/-
  What lattice.Meet, Join return, and just what they leave.
  Conditions: as each theorem states them.
-/
import Derived.Test.YtmlnfpefemchhaaLB
namespace Go.Proofs.Ytmlnfpefemchhaa
open Go.ChangeShapes Go.WideShapes Go.ChangeAt Go.RowKit
set_option linter.unusedVariables false
set_option linter.unusedSimpArgs false

set_option maxHeartbeats 4000000 in
theorem meet_exact (a0 a1 a2 a3 b0 b1 b2 b3 : Int) (w : World) :
    Calls Try.prog 19 #[.agg #[.int .u8 a0, .int .u8 a1, .int .u8 a2, .int .u8 a3], .agg #[.int .u8 b0, .int .u8 b1, .int .u8 b2, .int .u8 b3]] w
      fun e w' => e = .returned (.agg #[.int .u8 (mn a0 b0), .int .u8 (mn a1 b1), .int .u8 (mn a2 b2), .int .u8 (mn a3 b3)]) ∧ w' = ((((w.alloc (.cells #[.int .u8 (mn a0 b0), .int .u8 (mn a1 b1), .int .u8 (mn a2 b2), .int .u8 (mn a3 b3)] 36)).alloc (.cells #[.int .u8 b0, .int .u8 b1, .int .u8 b2, .int .u8 b3] 36)).alloc (.cells #[.int .u8 (mn a0 b0), .int .u8 (mn a1 b1), .int .u8 (mn a2 b2), .int .u8 (mn a3 b3)] 36)).drew.drew.drew.drew) := by
  unfold mn
  obtain ⟨m0, h0⟩ : ∃ m, (if b0 < a0 then b0 else a0) = m := ⟨_, rfl⟩
  obtain ⟨m1, h1⟩ : ∃ m, (if b1 < a1 then b1 else a1) = m := ⟨_, rfl⟩
  obtain ⟨m2, h2⟩ : ∃ m, (if b2 < a2 then b2 else a2) = m := ⟨_, rfl⟩
  obtain ⟨m3, h3⟩ : ∃ m, (if b3 < a3 then b3 else a3) = m := ⟨_, rfl⟩
  rw [h0, h1, h2, h3]
  go_enter Try.func19, Try.ntmps19
  go_wp2
  refine wp_loop_rounds 5 ?_
  iterate 4 (rw [rounds_succ]; go_wp2; go_region; go_wp2)
  rw [rounds_succ]; go_wp2
  go_returns
  exact ⟨rfl, rfl⟩

set_option maxHeartbeats 4000000 in
theorem join_exact (a0 a1 a2 a3 b0 b1 b2 b3 : Int) (w : World) :
    Calls Try.prog 21 #[.agg #[.int .u8 a0, .int .u8 a1, .int .u8 a2, .int .u8 a3], .agg #[.int .u8 b0, .int .u8 b1, .int .u8 b2, .int .u8 b3]] w
      fun e w' => e = .returned (.agg #[.int .u8 (mx a0 b0), .int .u8 (mx a1 b1), .int .u8 (mx a2 b2), .int .u8 (mx a3 b3)]) ∧ w' = ((((w.alloc (.cells #[.int .u8 (mx a0 b0), .int .u8 (mx a1 b1), .int .u8 (mx a2 b2), .int .u8 (mx a3 b3)] 36)).alloc (.cells #[.int .u8 b0, .int .u8 b1, .int .u8 b2, .int .u8 b3] 36)).alloc (.cells #[.int .u8 (mx a0 b0), .int .u8 (mx a1 b1), .int .u8 (mx a2 b2), .int .u8 (mx a3 b3)] 36)).drew.drew.drew.drew) := by
  unfold mx
  obtain ⟨m0, h0⟩ : ∃ m, (if b0 > a0 then b0 else a0) = m := ⟨_, rfl⟩
  obtain ⟨m1, h1⟩ : ∃ m, (if b1 > a1 then b1 else a1) = m := ⟨_, rfl⟩
  obtain ⟨m2, h2⟩ : ∃ m, (if b2 > a2 then b2 else a2) = m := ⟨_, rfl⟩
  obtain ⟨m3, h3⟩ : ∃ m, (if b3 > a3 then b3 else a3) = m := ⟨_, rfl⟩
  rw [h0, h1, h2, h3]
  go_enter Try.func21, Try.ntmps21
  go_wp2
  refine wp_loop_rounds 5 ?_
  iterate 4 (rw [rounds_succ]; go_wp2; go_region; go_wp2)
  rw [rounds_succ]; go_wp2
  go_returns
  exact ⟨rfl, rfl⟩

end Go.Proofs.Ytmlnfpefemchhaa

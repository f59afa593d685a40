/-
  Lesser and greater numbers, node by node.
  Conditions: as each theorem states them.
-/
import Derived.Test.YtmlnfpefemchhaaLC
namespace Go.Proofs.Ytmlnfpefemchhaa
open Go.RowKit
set_option linter.unusedVariables false
set_option linter.unusedSimpArgs false

theorem mn_comm (a b : Int) : mn a b = mn b a := by unfold mn; split <;> split <;> omega
theorem mx_comm (a b : Int) : mx a b = mx b a := by unfold mx; split <;> split <;> omega
theorem mn_le (c a b : Int) : c ≤ mn a b ↔ c ≤ a ∧ c ≤ b := by unfold mn; split <;> omega
theorem mx_le (c a b : Int) : mx a b ≤ c ↔ a ≤ c ∧ b ≤ c := by unfold mx; split <;> omega
theorem mx_self (a b : Int) : (mx a b == a) = decide (b ≤ a) := by
  unfold mx
  by_cases h : b > a
  · rw [if_pos h, decide_eq_false (by omega)]; simp; omega
  · rw [if_neg h, decide_eq_true (by omega)]; simp
theorem mx_bel (a0 a1 a2 a3 b0 b1 b2 b3 : Int) : (mx a0 b0 == a0 && (mx a1 b1 == a1 && (mx a2 b2 == a2 && mx a3 b3 == a3))) = bel b0 b1 b2 b3 a0 a1 a2 a3 := by
  rw [mx_self, mx_self, mx_self, mx_self]
  unfold bel
  simp
theorem bel_meet (c0 c1 c2 c3 a0 a1 a2 a3 b0 b1 b2 b3 : Int) : bel c0 c1 c2 c3 (mn a0 b0) (mn a1 b1) (mn a2 b2) (mn a3 b3) = (bel c0 c1 c2 c3 a0 a1 a2 a3 && bel c0 c1 c2 c3 b0 b1 b2 b3) := by
  unfold bel
  rw [← Bool.decide_and]
  refine decide_eq_decide.mpr ?_
  rw [mn_le, mn_le, mn_le, mn_le]
  omega
theorem bel_join (c0 c1 c2 c3 a0 a1 a2 a3 b0 b1 b2 b3 : Int) : bel (mx a0 b0) (mx a1 b1) (mx a2 b2) (mx a3 b3) c0 c1 c2 c3 = (bel a0 a1 a2 a3 c0 c1 c2 c3 && bel b0 b1 b2 b3 c0 c1 c2 c3) := by
  unfold bel
  rw [← Bool.decide_and]
  refine decide_eq_decide.mpr ?_
  rw [mx_le, mx_le, mx_le, mx_le]
  omega
theorem mn_one {a b : Int} (ha : U8 a) (hb : U8 b) : U8 (mn a b) := by unfold mn; split <;> assumption
theorem mx_one {a b : Int} (ha : U8 a) (hb : U8 b) : U8 (mx a b) := by unfold mx; split <;> assumption
theorem mn_u8 {a0 a1 a2 a3 b0 b1 b2 b3 : Int} (hA : ∀ x ∈ [a0, a1, a2, a3], U8 x) (hB : ∀ x ∈ [b0, b1, b2, b3], U8 x) : ∀ x ∈ [mn a0 b0, mn a1 b1, mn a2 b2, mn a3 b3], U8 x := by
  intro x hx
  simp only [List.mem_cons, List.not_mem_nil, or_false] at hx
  rcases hx with rfl | rfl | rfl | rfl
  · exact mn_one (hA a0 (by simp)) (hB b0 (by simp))
  · exact mn_one (hA a1 (by simp)) (hB b1 (by simp))
  · exact mn_one (hA a2 (by simp)) (hB b2 (by simp))
  · exact mn_one (hA a3 (by simp)) (hB b3 (by simp))
theorem mx_u8 {a0 a1 a2 a3 b0 b1 b2 b3 : Int} (hA : ∀ x ∈ [a0, a1, a2, a3], U8 x) (hB : ∀ x ∈ [b0, b1, b2, b3], U8 x) : ∀ x ∈ [mx a0 b0, mx a1 b1, mx a2 b2, mx a3 b3], U8 x := by
  intro x hx
  simp only [List.mem_cons, List.not_mem_nil, or_false] at hx
  rcases hx with rfl | rfl | rfl | rfl
  · exact mx_one (hA a0 (by simp)) (hB b0 (by simp))
  · exact mx_one (hA a1 (by simp)) (hB b1 (by simp))
  · exact mx_one (hA a2 (by simp)) (hB b2 (by simp))
  · exact mx_one (hA a3 (by simp)) (hB b3 (by simp))
theorem mn_mx (a b : Int) : mn a b + mx a b = a + b := by unfold mn mx; split <;> split <;> omega
theorem rnk_two (a0 a1 a2 a3 b0 b1 b2 b3 : Int) : rnk (mn a0 b0) (mn a1 b1) (mn a2 b2) (mn a3 b3) + rnk (mx a0 b0) (mx a1 b1) (mx a2 b2) (mx a3 b3) = rnk a0 a1 a2 a3 + rnk b0 b1 b2 b3 := by
  have h0 := mn_mx a0 b0; have h1 := mn_mx a1 b1; have h2 := mn_mx a2 b2; have h3 := mn_mx a3 b3
  unfold rnk; omega
theorem rnk_bd {a0 a1 a2 a3 : Int} (hA : ∀ x ∈ [a0, a1, a2, a3], U8 x) : 0 ≤ rnk a0 a1 a2 a3 ∧ rnk a0 a1 a2 a3 ≤ 1020 := by
  have h0 := hA a0 (by simp); have h1 := hA a1 (by simp); have h2 := hA a2 (by simp); have h3 := hA a3 (by simp)
  unfold U8 at h0 h1 h2 h3
  unfold rnk; omega

end Go.Proofs.Ytmlnfpefemchhaa

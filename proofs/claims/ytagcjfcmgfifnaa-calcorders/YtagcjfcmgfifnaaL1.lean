/-
  The walk of the law CalcOrders, seven ways.
  Conditions: as each theorem states them.
-/
import Derived.Test.YtagcjfcmgfifnaaL
namespace Go.Proofs.Ytagcjfcmgfifnaa
open Go.RowKit
set_option linter.unusedVariables false
set_option linter.unusedSimpArgs false

set_option maxHeartbeats 4000000 in
theorem orders_case0 (P Q R M : Int) (a0 a1 b0 b1 c0 c1 : Int) (w : World) (ha : I64 a0) (ha' : I64 a1) (hb : I64 b0) (hb' : I64 b1) (hc : I64 c0) (hc' : I64 c1)
    (hP : sg (a0 * a1) (b0 * b1) = P) (hP1 : sg (b0 * b1) (a0 * a1) = M) (hP2 : sg (a1 * a0) (b0 * b1) = P) (hQ : sg (b0 * b1) (c0 * c1) = Q) (hR : sg (a0 * a1) (c0 * c1) = R)
    (f1 : (decide (sg a0 b0 < 0) == decide (a0 < b0)) = true) (f2 : ((sg a0 b0 == 0) == (a0 == b0)) = true)
    (hM : P = -1 ∧ M = 1 ∧ Q = -1 ∧ R = -1) :
    Calls Try.prog 8 #[.agg #[.int .i64 a0, .int .i64 a1], .agg #[.int .i64 b0, .int .i64 b1], .agg #[.int .i64 c0, .int .i64 c1]] w fun e w' => e = .returned (.bool true) ∧ Below w.heap.size w w' := by
  obtain ⟨rfl, rfl, rfl, rfl⟩ := hM
  have i1 : I64 1 := by unfold I64; decide
  go_enter Try.func8, Try.ntmps8
  go_wp2
  go_region_held3 (fun w' => w.heap.size + 1 + 1 < w'.heap.size ∧ Below w.heap.size w w' ∧ w'.cell? ⟨w.heap.size, 0, none⟩ = some (.int .i64 a0) ∧ w'.cell? ⟨w.heap.size, 1, none⟩ = some (.int .i64 a1) ∧ w'.cell? ⟨w.heap.size + 1, 0, none⟩ = some (.int .i64 b0) ∧ w'.cell? ⟨w.heap.size + 1, 1, none⟩ = some (.int .i64 b1) ∧ w'.cell? ⟨w.heap.size + 1 + 1, 0, none⟩ = some (.int .i64 c0) ∧ w'.cell? ⟨w.heap.size + 1 + 1, 1, none⟩ = some (.int .i64 c1))
    (first | exact start6 w a0 a1 b0 b1 c0 c1 | exact keep6 (by assumption) (by assumption))
    (first
      | (go_at_call 23; refine (cmp_any _ _ _ _ _ (by assumption) (by assumption) (by assumption) (by assumption)).mono ?_; rintro e w1 ⟨rfl, hb1⟩)
      | (go_at_call 20; refine (wakes_any _).mono ?_; rintro e w1 ⟨rfl, hb1⟩))
  go_wp2_with (first
      | (go_at_call 23; refine (cmp_any _ _ _ _ _ (by assumption) (by assumption) (by assumption) (by assumption)).mono ?_; rintro e w1 ⟨rfl, hb1⟩; have hh := keep6 hb1 (by assumption))
      | (go_at_call 20; refine (wakes_any _).mono ?_; rintro e w1 ⟨rfl, hb1⟩; have hh := keep6 hb1 (by assumption)))
  go_ret
  exact ⟨rfl, hh.2.1⟩

set_option maxHeartbeats 4000000 in
theorem orders_case1 (P Q R M : Int) (a0 a1 b0 b1 c0 c1 : Int) (w : World) (ha : I64 a0) (ha' : I64 a1) (hb : I64 b0) (hb' : I64 b1) (hc : I64 c0) (hc' : I64 c1)
    (hP : sg (a0 * a1) (b0 * b1) = P) (hP1 : sg (b0 * b1) (a0 * a1) = M) (hP2 : sg (a1 * a0) (b0 * b1) = P) (hQ : sg (b0 * b1) (c0 * c1) = Q) (hR : sg (a0 * a1) (c0 * c1) = R)
    (f1 : (decide (sg a0 b0 < 0) == decide (a0 < b0)) = true) (f2 : ((sg a0 b0 == 0) == (a0 == b0)) = true)
    (hM : P = -1 ∧ M = 1 ∧ Q = 0 ∧ R = -1) :
    Calls Try.prog 8 #[.agg #[.int .i64 a0, .int .i64 a1], .agg #[.int .i64 b0, .int .i64 b1], .agg #[.int .i64 c0, .int .i64 c1]] w fun e w' => e = .returned (.bool true) ∧ Below w.heap.size w w' := by
  obtain ⟨rfl, rfl, rfl, rfl⟩ := hM
  have i1 : I64 1 := by unfold I64; decide
  go_enter Try.func8, Try.ntmps8
  go_wp2
  go_region_held3 (fun w' => w.heap.size + 1 + 1 < w'.heap.size ∧ Below w.heap.size w w' ∧ w'.cell? ⟨w.heap.size, 0, none⟩ = some (.int .i64 a0) ∧ w'.cell? ⟨w.heap.size, 1, none⟩ = some (.int .i64 a1) ∧ w'.cell? ⟨w.heap.size + 1, 0, none⟩ = some (.int .i64 b0) ∧ w'.cell? ⟨w.heap.size + 1, 1, none⟩ = some (.int .i64 b1) ∧ w'.cell? ⟨w.heap.size + 1 + 1, 0, none⟩ = some (.int .i64 c0) ∧ w'.cell? ⟨w.heap.size + 1 + 1, 1, none⟩ = some (.int .i64 c1))
    (first | exact start6 w a0 a1 b0 b1 c0 c1 | exact keep6 (by assumption) (by assumption))
    (first
      | (go_at_call 23; refine (cmp_any _ _ _ _ _ (by assumption) (by assumption) (by assumption) (by assumption)).mono ?_; rintro e w1 ⟨rfl, hb1⟩)
      | (go_at_call 20; refine (wakes_any _).mono ?_; rintro e w1 ⟨rfl, hb1⟩))
  go_wp2_with (first
      | (go_at_call 23; refine (cmp_any _ _ _ _ _ (by assumption) (by assumption) (by assumption) (by assumption)).mono ?_; rintro e w1 ⟨rfl, hb1⟩; have hh := keep6 hb1 (by assumption))
      | (go_at_call 20; refine (wakes_any _).mono ?_; rintro e w1 ⟨rfl, hb1⟩; have hh := keep6 hb1 (by assumption)))
  go_ret
  exact ⟨rfl, hh.2.1⟩

set_option maxHeartbeats 4000000 in
theorem orders_case2 (P Q R M : Int) (a0 a1 b0 b1 c0 c1 : Int) (w : World) (ha : I64 a0) (ha' : I64 a1) (hb : I64 b0) (hb' : I64 b1) (hc : I64 c0) (hc' : I64 c1)
    (hP : sg (a0 * a1) (b0 * b1) = P) (hP1 : sg (b0 * b1) (a0 * a1) = M) (hP2 : sg (a1 * a0) (b0 * b1) = P) (hQ : sg (b0 * b1) (c0 * c1) = Q) (hR : sg (a0 * a1) (c0 * c1) = R)
    (f1 : (decide (sg a0 b0 < 0) == decide (a0 < b0)) = true) (f2 : ((sg a0 b0 == 0) == (a0 == b0)) = true)
    (hM : P = -1 ∧ M = 1 ∧ Q = 1 ∧ R = -1) :
    Calls Try.prog 8 #[.agg #[.int .i64 a0, .int .i64 a1], .agg #[.int .i64 b0, .int .i64 b1], .agg #[.int .i64 c0, .int .i64 c1]] w fun e w' => e = .returned (.bool true) ∧ Below w.heap.size w w' := by
  obtain ⟨rfl, rfl, rfl, rfl⟩ := hM
  have i1 : I64 1 := by unfold I64; decide
  go_enter Try.func8, Try.ntmps8
  go_wp2
  go_region_held3 (fun w' => w.heap.size + 1 + 1 < w'.heap.size ∧ Below w.heap.size w w' ∧ w'.cell? ⟨w.heap.size, 0, none⟩ = some (.int .i64 a0) ∧ w'.cell? ⟨w.heap.size, 1, none⟩ = some (.int .i64 a1) ∧ w'.cell? ⟨w.heap.size + 1, 0, none⟩ = some (.int .i64 b0) ∧ w'.cell? ⟨w.heap.size + 1, 1, none⟩ = some (.int .i64 b1) ∧ w'.cell? ⟨w.heap.size + 1 + 1, 0, none⟩ = some (.int .i64 c0) ∧ w'.cell? ⟨w.heap.size + 1 + 1, 1, none⟩ = some (.int .i64 c1))
    (first | exact start6 w a0 a1 b0 b1 c0 c1 | exact keep6 (by assumption) (by assumption))
    (first
      | (go_at_call 23; refine (cmp_any _ _ _ _ _ (by assumption) (by assumption) (by assumption) (by assumption)).mono ?_; rintro e w1 ⟨rfl, hb1⟩)
      | (go_at_call 20; refine (wakes_any _).mono ?_; rintro e w1 ⟨rfl, hb1⟩))
  go_wp2_with (first
      | (go_at_call 23; refine (cmp_any _ _ _ _ _ (by assumption) (by assumption) (by assumption) (by assumption)).mono ?_; rintro e w1 ⟨rfl, hb1⟩; have hh := keep6 hb1 (by assumption))
      | (go_at_call 20; refine (wakes_any _).mono ?_; rintro e w1 ⟨rfl, hb1⟩; have hh := keep6 hb1 (by assumption)))
  go_ret
  exact ⟨rfl, hh.2.1⟩

set_option maxHeartbeats 4000000 in
theorem orders_case3 (P Q R M : Int) (a0 a1 b0 b1 c0 c1 : Int) (w : World) (ha : I64 a0) (ha' : I64 a1) (hb : I64 b0) (hb' : I64 b1) (hc : I64 c0) (hc' : I64 c1)
    (hP : sg (a0 * a1) (b0 * b1) = P) (hP1 : sg (b0 * b1) (a0 * a1) = M) (hP2 : sg (a1 * a0) (b0 * b1) = P) (hQ : sg (b0 * b1) (c0 * c1) = Q) (hR : sg (a0 * a1) (c0 * c1) = R)
    (f1 : (decide (sg a0 b0 < 0) == decide (a0 < b0)) = true) (f2 : ((sg a0 b0 == 0) == (a0 == b0)) = true)
    (hM : P = -1 ∧ M = 1 ∧ Q = 1 ∧ R = 0) :
    Calls Try.prog 8 #[.agg #[.int .i64 a0, .int .i64 a1], .agg #[.int .i64 b0, .int .i64 b1], .agg #[.int .i64 c0, .int .i64 c1]] w fun e w' => e = .returned (.bool true) ∧ Below w.heap.size w w' := by
  obtain ⟨rfl, rfl, rfl, rfl⟩ := hM
  have i1 : I64 1 := by unfold I64; decide
  go_enter Try.func8, Try.ntmps8
  go_wp2
  go_region_held3 (fun w' => w.heap.size + 1 + 1 < w'.heap.size ∧ Below w.heap.size w w' ∧ w'.cell? ⟨w.heap.size, 0, none⟩ = some (.int .i64 a0) ∧ w'.cell? ⟨w.heap.size, 1, none⟩ = some (.int .i64 a1) ∧ w'.cell? ⟨w.heap.size + 1, 0, none⟩ = some (.int .i64 b0) ∧ w'.cell? ⟨w.heap.size + 1, 1, none⟩ = some (.int .i64 b1) ∧ w'.cell? ⟨w.heap.size + 1 + 1, 0, none⟩ = some (.int .i64 c0) ∧ w'.cell? ⟨w.heap.size + 1 + 1, 1, none⟩ = some (.int .i64 c1))
    (first | exact start6 w a0 a1 b0 b1 c0 c1 | exact keep6 (by assumption) (by assumption))
    (first
      | (go_at_call 23; refine (cmp_any _ _ _ _ _ (by assumption) (by assumption) (by assumption) (by assumption)).mono ?_; rintro e w1 ⟨rfl, hb1⟩)
      | (go_at_call 20; refine (wakes_any _).mono ?_; rintro e w1 ⟨rfl, hb1⟩))
  go_wp2_with (first
      | (go_at_call 23; refine (cmp_any _ _ _ _ _ (by assumption) (by assumption) (by assumption) (by assumption)).mono ?_; rintro e w1 ⟨rfl, hb1⟩; have hh := keep6 hb1 (by assumption))
      | (go_at_call 20; refine (wakes_any _).mono ?_; rintro e w1 ⟨rfl, hb1⟩; have hh := keep6 hb1 (by assumption)))
  go_ret
  exact ⟨rfl, hh.2.1⟩

set_option maxHeartbeats 4000000 in
theorem orders_case4 (P Q R M : Int) (a0 a1 b0 b1 c0 c1 : Int) (w : World) (ha : I64 a0) (ha' : I64 a1) (hb : I64 b0) (hb' : I64 b1) (hc : I64 c0) (hc' : I64 c1)
    (hP : sg (a0 * a1) (b0 * b1) = P) (hP1 : sg (b0 * b1) (a0 * a1) = M) (hP2 : sg (a1 * a0) (b0 * b1) = P) (hQ : sg (b0 * b1) (c0 * c1) = Q) (hR : sg (a0 * a1) (c0 * c1) = R)
    (f1 : (decide (sg a0 b0 < 0) == decide (a0 < b0)) = true) (f2 : ((sg a0 b0 == 0) == (a0 == b0)) = true)
    (hM : P = -1 ∧ M = 1 ∧ Q = 1 ∧ R = 1) :
    Calls Try.prog 8 #[.agg #[.int .i64 a0, .int .i64 a1], .agg #[.int .i64 b0, .int .i64 b1], .agg #[.int .i64 c0, .int .i64 c1]] w fun e w' => e = .returned (.bool true) ∧ Below w.heap.size w w' := by
  obtain ⟨rfl, rfl, rfl, rfl⟩ := hM
  have i1 : I64 1 := by unfold I64; decide
  go_enter Try.func8, Try.ntmps8
  go_wp2
  go_region_held3 (fun w' => w.heap.size + 1 + 1 < w'.heap.size ∧ Below w.heap.size w w' ∧ w'.cell? ⟨w.heap.size, 0, none⟩ = some (.int .i64 a0) ∧ w'.cell? ⟨w.heap.size, 1, none⟩ = some (.int .i64 a1) ∧ w'.cell? ⟨w.heap.size + 1, 0, none⟩ = some (.int .i64 b0) ∧ w'.cell? ⟨w.heap.size + 1, 1, none⟩ = some (.int .i64 b1) ∧ w'.cell? ⟨w.heap.size + 1 + 1, 0, none⟩ = some (.int .i64 c0) ∧ w'.cell? ⟨w.heap.size + 1 + 1, 1, none⟩ = some (.int .i64 c1))
    (first | exact start6 w a0 a1 b0 b1 c0 c1 | exact keep6 (by assumption) (by assumption))
    (first
      | (go_at_call 23; refine (cmp_any _ _ _ _ _ (by assumption) (by assumption) (by assumption) (by assumption)).mono ?_; rintro e w1 ⟨rfl, hb1⟩)
      | (go_at_call 20; refine (wakes_any _).mono ?_; rintro e w1 ⟨rfl, hb1⟩))
  go_wp2_with (first
      | (go_at_call 23; refine (cmp_any _ _ _ _ _ (by assumption) (by assumption) (by assumption) (by assumption)).mono ?_; rintro e w1 ⟨rfl, hb1⟩; have hh := keep6 hb1 (by assumption))
      | (go_at_call 20; refine (wakes_any _).mono ?_; rintro e w1 ⟨rfl, hb1⟩; have hh := keep6 hb1 (by assumption)))
  go_ret
  exact ⟨rfl, hh.2.1⟩

set_option maxHeartbeats 4000000 in
theorem orders_case5 (P Q R M : Int) (a0 a1 b0 b1 c0 c1 : Int) (w : World) (ha : I64 a0) (ha' : I64 a1) (hb : I64 b0) (hb' : I64 b1) (hc : I64 c0) (hc' : I64 c1)
    (hP : sg (a0 * a1) (b0 * b1) = P) (hP1 : sg (b0 * b1) (a0 * a1) = M) (hP2 : sg (a1 * a0) (b0 * b1) = P) (hQ : sg (b0 * b1) (c0 * c1) = Q) (hR : sg (a0 * a1) (c0 * c1) = R)
    (f1 : (decide (sg a0 b0 < 0) == decide (a0 < b0)) = true) (f2 : ((sg a0 b0 == 0) == (a0 == b0)) = true)
    (hM : P = 0 ∧ M = 0 ∧ Q = -1 ∧ R = -1) :
    Calls Try.prog 8 #[.agg #[.int .i64 a0, .int .i64 a1], .agg #[.int .i64 b0, .int .i64 b1], .agg #[.int .i64 c0, .int .i64 c1]] w fun e w' => e = .returned (.bool true) ∧ Below w.heap.size w w' := by
  obtain ⟨rfl, rfl, rfl, rfl⟩ := hM
  have i1 : I64 1 := by unfold I64; decide
  go_enter Try.func8, Try.ntmps8
  go_wp2
  go_region_held3 (fun w' => w.heap.size + 1 + 1 < w'.heap.size ∧ Below w.heap.size w w' ∧ w'.cell? ⟨w.heap.size, 0, none⟩ = some (.int .i64 a0) ∧ w'.cell? ⟨w.heap.size, 1, none⟩ = some (.int .i64 a1) ∧ w'.cell? ⟨w.heap.size + 1, 0, none⟩ = some (.int .i64 b0) ∧ w'.cell? ⟨w.heap.size + 1, 1, none⟩ = some (.int .i64 b1) ∧ w'.cell? ⟨w.heap.size + 1 + 1, 0, none⟩ = some (.int .i64 c0) ∧ w'.cell? ⟨w.heap.size + 1 + 1, 1, none⟩ = some (.int .i64 c1))
    (first | exact start6 w a0 a1 b0 b1 c0 c1 | exact keep6 (by assumption) (by assumption))
    (first
      | (go_at_call 23; refine (cmp_any _ _ _ _ _ (by assumption) (by assumption) (by assumption) (by assumption)).mono ?_; rintro e w1 ⟨rfl, hb1⟩)
      | (go_at_call 20; refine (wakes_any _).mono ?_; rintro e w1 ⟨rfl, hb1⟩))
  go_wp2_with (first
      | (go_at_call 23; refine (cmp_any _ _ _ _ _ (by assumption) (by assumption) (by assumption) (by assumption)).mono ?_; rintro e w1 ⟨rfl, hb1⟩; have hh := keep6 hb1 (by assumption))
      | (go_at_call 20; refine (wakes_any _).mono ?_; rintro e w1 ⟨rfl, hb1⟩; have hh := keep6 hb1 (by assumption)))
  go_ret
  exact ⟨rfl, hh.2.1⟩

set_option maxHeartbeats 4000000 in
theorem orders_case6 (P Q R M : Int) (a0 a1 b0 b1 c0 c1 : Int) (w : World) (ha : I64 a0) (ha' : I64 a1) (hb : I64 b0) (hb' : I64 b1) (hc : I64 c0) (hc' : I64 c1)
    (hP : sg (a0 * a1) (b0 * b1) = P) (hP1 : sg (b0 * b1) (a0 * a1) = M) (hP2 : sg (a1 * a0) (b0 * b1) = P) (hQ : sg (b0 * b1) (c0 * c1) = Q) (hR : sg (a0 * a1) (c0 * c1) = R)
    (f1 : (decide (sg a0 b0 < 0) == decide (a0 < b0)) = true) (f2 : ((sg a0 b0 == 0) == (a0 == b0)) = true)
    (hM : P = 0 ∧ M = 0 ∧ Q = 0 ∧ R = 0) :
    Calls Try.prog 8 #[.agg #[.int .i64 a0, .int .i64 a1], .agg #[.int .i64 b0, .int .i64 b1], .agg #[.int .i64 c0, .int .i64 c1]] w fun e w' => e = .returned (.bool true) ∧ Below w.heap.size w w' := by
  obtain ⟨rfl, rfl, rfl, rfl⟩ := hM
  have i1 : I64 1 := by unfold I64; decide
  go_enter Try.func8, Try.ntmps8
  go_wp2
  go_region_held3 (fun w' => w.heap.size + 1 + 1 < w'.heap.size ∧ Below w.heap.size w w' ∧ w'.cell? ⟨w.heap.size, 0, none⟩ = some (.int .i64 a0) ∧ w'.cell? ⟨w.heap.size, 1, none⟩ = some (.int .i64 a1) ∧ w'.cell? ⟨w.heap.size + 1, 0, none⟩ = some (.int .i64 b0) ∧ w'.cell? ⟨w.heap.size + 1, 1, none⟩ = some (.int .i64 b1) ∧ w'.cell? ⟨w.heap.size + 1 + 1, 0, none⟩ = some (.int .i64 c0) ∧ w'.cell? ⟨w.heap.size + 1 + 1, 1, none⟩ = some (.int .i64 c1))
    (first | exact start6 w a0 a1 b0 b1 c0 c1 | exact keep6 (by assumption) (by assumption))
    (first
      | (go_at_call 23; refine (cmp_any _ _ _ _ _ (by assumption) (by assumption) (by assumption) (by assumption)).mono ?_; rintro e w1 ⟨rfl, hb1⟩)
      | (go_at_call 20; refine (wakes_any _).mono ?_; rintro e w1 ⟨rfl, hb1⟩))
  go_wp2_with (first
      | (go_at_call 23; refine (cmp_any _ _ _ _ _ (by assumption) (by assumption) (by assumption) (by assumption)).mono ?_; rintro e w1 ⟨rfl, hb1⟩; have hh := keep6 hb1 (by assumption))
      | (go_at_call 20; refine (wakes_any _).mono ?_; rintro e w1 ⟨rfl, hb1⟩; have hh := keep6 hb1 (by assumption)))
  go_ret
  exact ⟨rfl, hh.2.1⟩

end Go.Proofs.Ytagcjfcmgfifnaa

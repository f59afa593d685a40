/-
  The document's own Plus of two wide numbers, word by word, one way through it at a time.
  Conditions: as each theorem states them.
-/
import Derived.Test.YtagcjfcmgfifnaaC
namespace Go.Proofs.Ytagcjfcmgfifnaa
open Go.RowKit
set_option linter.unusedVariables false
set_option linter.unusedSimpArgs false

/-! ref.Plus, word by word. -/
set_option maxHeartbeats 1000000 in
theorem plus_same0 (p : Bool) (xh xl yh yl : Int) (w : World) (a1 : 0 ≤ xh) (a2 : 0 ≤ xl) (a3 : 0 ≤ yh) (a4 : 0 ≤ yl) (c1 : xh + yh ≤ 18446744073709551615) (c2 : xl + yl ≤ 18446744073709551615) :
    Calls Try.prog 14 #[.agg #[.bool p, .int .u64 xh, .int .u64 xl], .agg #[.bool p, .int .u64 yh, .int .u64 yl]] w fun e w' => e = .returned (.agg #[.bool p, .int .u64 (xh + yh), .int .u64 (xl + yl)]) ∧ Below w.heap.size w w' := by
  go_enter Try.func14, Try.ntmps14
  go_wp2
  exact bodyPost_ret (v := .agg #[.bool p, .int .u64 (xh + yh), .int .u64 (xl + yl)]) (by simp [results, Try.results14, go_sem]) rfl ⟨rfl, (((((Below.refl _ _).alloc (Nat.le_refl _) _).alloc (by simp) _).alloc (by simp; omega) _).alloc (by simp; omega) _)⟩
set_option maxHeartbeats 1000000 in
theorem plus_same1 (p : Bool) (xh xl yh yl z : Int) (w : World) (a1 : 0 ≤ xh) (a2 : 0 ≤ xl) (a3 : 0 ≤ yh) (a4 : 0 ≤ yl) (c1 : xh + yh + 1 ≤ 18446744073709551615) (hz : IntKind.u64.wrap (xl + yl) = z) (c2 : z < xl) :
    Calls Try.prog 14 #[.agg #[.bool p, .int .u64 xh, .int .u64 xl], .agg #[.bool p, .int .u64 yh, .int .u64 yl]] w fun e w' => e = .returned (.agg #[.bool p, .int .u64 (xh + yh + 1), .int .u64 z]) ∧ Below w.heap.size w w' := by
  go_enter Try.func14, Try.ntmps14
  go_wp2
  exact bodyPost_ret (v := .agg #[.bool p, .int .u64 (xh + yh + 1), .int .u64 z]) (by simp [results, Try.results14, go_sem]) rfl ⟨rfl, (((((Below.refl _ _).alloc (Nat.le_refl _) _).alloc (by simp) _).alloc (by simp; omega) _).alloc (by simp; omega) _)⟩
set_option maxHeartbeats 1000000 in
theorem pd_nb1 (p q : Bool) (xh xl yh yl : Int) (w : World) (hpq : (p == q) = false) (a1 : 0 ≤ xh) (a2 : 0 ≤ xl) (a3 : 0 ≤ yh) (a4 : 0 ≤ yl) (b1 : xh ≤ 18446744073709551615) (b2 : xl ≤ 18446744073709551615) (b3 : yh ≤ 18446744073709551615) (b4 : yl ≤ 18446744073709551615) (hl : lsB xh xl yh yl = false) (c1 : yh ≤ xh) (c2 : yl ≤ xl) (n1 : (xh - yh == 0) = false) :
    Calls Try.prog 14 #[.agg #[.bool p, .int .u64 xh, .int .u64 xl], .agg #[.bool q, .int .u64 yh, .int .u64 yl]] w fun e w' => e = .returned (.agg #[.bool p, .int .u64 (xh - yh), .int .u64 (xl - yl)]) ∧ Below w.heap.size w w' := by
  go_enter Try.func14, Try.ntmps14
  go_wp2_with (go_at_call 28; refine (less_raw _ _ _ _ _ _ _).mono ?_; rintro e w' ⟨rfl, rfl⟩)
  exact bodyPost_ret (v := .agg #[.bool p, .int .u64 (xh - yh), .int .u64 (xl - yl)]) (by simp [results, Try.results14, go_sem]) rfl ⟨rfl, (((((((Below.refl _ _).alloc (Nat.le_refl _) _).alloc (by simp) _).alloc (by simp; omega) _).alloc (by simp; omega) _).alloc (by simp; omega) _).alloc (by simp; omega) _)⟩
set_option maxHeartbeats 1000000 in
theorem pd_nb2 (p q : Bool) (xh xl yh yl : Int) (w : World) (hpq : (p == q) = false) (a1 : 0 ≤ xh) (a2 : 0 ≤ xl) (a3 : 0 ≤ yh) (a4 : 0 ≤ yl) (b1 : xh ≤ 18446744073709551615) (b2 : xl ≤ 18446744073709551615) (b3 : yh ≤ 18446744073709551615) (b4 : yl ≤ 18446744073709551615) (hl : lsB xh xl yh yl = false) (c1 : yh ≤ xh) (c2 : yl ≤ xl) (n1 : (xh - yh == 0) = true) (n2 : (xl - yl == 0) = false) :
    Calls Try.prog 14 #[.agg #[.bool p, .int .u64 xh, .int .u64 xl], .agg #[.bool q, .int .u64 yh, .int .u64 yl]] w fun e w' => e = .returned (.agg #[.bool p, .int .u64 (xh - yh), .int .u64 (xl - yl)]) ∧ Below w.heap.size w w' := by
  go_enter Try.func14, Try.ntmps14
  go_wp2_with (go_at_call 28; refine (less_raw _ _ _ _ _ _ _).mono ?_; rintro e w' ⟨rfl, rfl⟩)
  exact bodyPost_ret (v := .agg #[.bool p, .int .u64 (xh - yh), .int .u64 (xl - yl)]) (by simp [results, Try.results14, go_sem]) rfl ⟨rfl, (((((((Below.refl _ _).alloc (Nat.le_refl _) _).alloc (by simp) _).alloc (by simp; omega) _).alloc (by simp; omega) _).alloc (by simp; omega) _).alloc (by simp; omega) _)⟩
set_option maxHeartbeats 1000000 in
theorem pd_b1 (p q : Bool) (xh xl yh yl z : Int) (w : World) (hpq : (p == q) = false) (a1 : 0 ≤ xh) (a2 : 0 ≤ xl) (a3 : 0 ≤ yh) (a4 : 0 ≤ yl) (b1 : xh ≤ 18446744073709551615) (b2 : xl ≤ 18446744073709551615) (b3 : yh ≤ 18446744073709551615) (b4 : yl ≤ 18446744073709551615) (hl : lsB xh xl yh yl = false) (c1 : yh < xh) (c2 : xl < yl) (hz : IntKind.u64.wrap (xl - yl) = z) (n1 : (xh - yh - 1 == 0) = false) :
    Calls Try.prog 14 #[.agg #[.bool p, .int .u64 xh, .int .u64 xl], .agg #[.bool q, .int .u64 yh, .int .u64 yl]] w fun e w' => e = .returned (.agg #[.bool p, .int .u64 (xh - yh - 1), .int .u64 z]) ∧ Below w.heap.size w w' := by
  go_enter Try.func14, Try.ntmps14
  go_wp2_with (go_at_call 28; refine (less_raw _ _ _ _ _ _ _).mono ?_; rintro e w' ⟨rfl, rfl⟩)
  exact bodyPost_ret (v := .agg #[.bool p, .int .u64 (xh - yh - 1), .int .u64 z]) (by simp [results, Try.results14, go_sem]) rfl ⟨rfl, (((((((Below.refl _ _).alloc (Nat.le_refl _) _).alloc (by simp) _).alloc (by simp; omega) _).alloc (by simp; omega) _).alloc (by simp; omega) _).alloc (by simp; omega) _)⟩
set_option maxHeartbeats 1000000 in
theorem pd_b2 (p q : Bool) (xh xl yh yl z : Int) (w : World) (hpq : (p == q) = false) (a1 : 0 ≤ xh) (a2 : 0 ≤ xl) (a3 : 0 ≤ yh) (a4 : 0 ≤ yl) (b1 : xh ≤ 18446744073709551615) (b2 : xl ≤ 18446744073709551615) (b3 : yh ≤ 18446744073709551615) (b4 : yl ≤ 18446744073709551615) (hl : lsB xh xl yh yl = false) (c1 : yh < xh) (c2 : xl < yl) (hz : IntKind.u64.wrap (xl - yl) = z) (n1 : (xh - yh - 1 == 0) = true) (n2 : (z == 0) = false) :
    Calls Try.prog 14 #[.agg #[.bool p, .int .u64 xh, .int .u64 xl], .agg #[.bool q, .int .u64 yh, .int .u64 yl]] w fun e w' => e = .returned (.agg #[.bool p, .int .u64 (xh - yh - 1), .int .u64 z]) ∧ Below w.heap.size w w' := by
  go_enter Try.func14, Try.ntmps14
  go_wp2_with (go_at_call 28; refine (less_raw _ _ _ _ _ _ _).mono ?_; rintro e w' ⟨rfl, rfl⟩)
  exact bodyPost_ret (v := .agg #[.bool p, .int .u64 (xh - yh - 1), .int .u64 z]) (by simp [results, Try.results14, go_sem]) rfl ⟨rfl, (((((((Below.refl _ _).alloc (Nat.le_refl _) _).alloc (by simp) _).alloc (by simp; omega) _).alloc (by simp; omega) _).alloc (by simp; omega) _).alloc (by simp; omega) _)⟩
set_option maxHeartbeats 1000000 in
theorem ps_nb1 (p q : Bool) (xh xl yh yl : Int) (w : World) (hpq : (p == q) = false) (a1 : 0 ≤ xh) (a2 : 0 ≤ xl) (a3 : 0 ≤ yh) (a4 : 0 ≤ yl) (b1 : xh ≤ 18446744073709551615) (b2 : xl ≤ 18446744073709551615) (b3 : yh ≤ 18446744073709551615) (b4 : yl ≤ 18446744073709551615) (hl : lsB xh xl yh yl = true) (c1 : xh ≤ yh) (c2 : xl ≤ yl) (n1 : (yh - xh == 0) = false) :
    Calls Try.prog 14 #[.agg #[.bool p, .int .u64 xh, .int .u64 xl], .agg #[.bool q, .int .u64 yh, .int .u64 yl]] w fun e w' => e = .returned (.agg #[.bool q, .int .u64 (yh - xh), .int .u64 (yl - xl)]) ∧ Below w.heap.size w w' := by
  go_enter Try.func14, Try.ntmps14
  go_wp2_with (go_at_call 28; refine (less_raw _ _ _ _ _ _ _).mono ?_; rintro e w' ⟨rfl, rfl⟩)
  exact bodyPost_ret (v := .agg #[.bool q, .int .u64 (yh - xh), .int .u64 (yl - xl)]) (by simp [results, Try.results14, go_sem]) rfl ⟨rfl, (((((((Below.refl _ _).alloc (Nat.le_refl _) _).alloc (by simp) _).alloc (by simp; omega) _).alloc (by simp; omega) _).alloc (by simp; omega) _).alloc (by simp; omega) _)⟩
set_option maxHeartbeats 1000000 in
theorem ps_nb2 (p q : Bool) (xh xl yh yl : Int) (w : World) (hpq : (p == q) = false) (a1 : 0 ≤ xh) (a2 : 0 ≤ xl) (a3 : 0 ≤ yh) (a4 : 0 ≤ yl) (b1 : xh ≤ 18446744073709551615) (b2 : xl ≤ 18446744073709551615) (b3 : yh ≤ 18446744073709551615) (b4 : yl ≤ 18446744073709551615) (hl : lsB xh xl yh yl = true) (c1 : xh ≤ yh) (c2 : xl ≤ yl) (n1 : (yh - xh == 0) = true) (n2 : (yl - xl == 0) = false) :
    Calls Try.prog 14 #[.agg #[.bool p, .int .u64 xh, .int .u64 xl], .agg #[.bool q, .int .u64 yh, .int .u64 yl]] w fun e w' => e = .returned (.agg #[.bool q, .int .u64 (yh - xh), .int .u64 (yl - xl)]) ∧ Below w.heap.size w w' := by
  go_enter Try.func14, Try.ntmps14
  go_wp2_with (go_at_call 28; refine (less_raw _ _ _ _ _ _ _).mono ?_; rintro e w' ⟨rfl, rfl⟩)
  exact bodyPost_ret (v := .agg #[.bool q, .int .u64 (yh - xh), .int .u64 (yl - xl)]) (by simp [results, Try.results14, go_sem]) rfl ⟨rfl, (((((((Below.refl _ _).alloc (Nat.le_refl _) _).alloc (by simp) _).alloc (by simp; omega) _).alloc (by simp; omega) _).alloc (by simp; omega) _).alloc (by simp; omega) _)⟩
set_option maxHeartbeats 1000000 in
theorem ps_b1 (p q : Bool) (xh xl yh yl z : Int) (w : World) (hpq : (p == q) = false) (a1 : 0 ≤ xh) (a2 : 0 ≤ xl) (a3 : 0 ≤ yh) (a4 : 0 ≤ yl) (b1 : xh ≤ 18446744073709551615) (b2 : xl ≤ 18446744073709551615) (b3 : yh ≤ 18446744073709551615) (b4 : yl ≤ 18446744073709551615) (hl : lsB xh xl yh yl = true) (c1 : xh < yh) (c2 : yl < xl) (hz : IntKind.u64.wrap (yl - xl) = z) (n1 : (yh - xh - 1 == 0) = false) :
    Calls Try.prog 14 #[.agg #[.bool p, .int .u64 xh, .int .u64 xl], .agg #[.bool q, .int .u64 yh, .int .u64 yl]] w fun e w' => e = .returned (.agg #[.bool q, .int .u64 (yh - xh - 1), .int .u64 z]) ∧ Below w.heap.size w w' := by
  go_enter Try.func14, Try.ntmps14
  go_wp2_with (go_at_call 28; refine (less_raw _ _ _ _ _ _ _).mono ?_; rintro e w' ⟨rfl, rfl⟩)
  exact bodyPost_ret (v := .agg #[.bool q, .int .u64 (yh - xh - 1), .int .u64 z]) (by simp [results, Try.results14, go_sem]) rfl ⟨rfl, (((((((Below.refl _ _).alloc (Nat.le_refl _) _).alloc (by simp) _).alloc (by simp; omega) _).alloc (by simp; omega) _).alloc (by simp; omega) _).alloc (by simp; omega) _)⟩
set_option maxHeartbeats 1000000 in
theorem ps_b2 (p q : Bool) (xh xl yh yl z : Int) (w : World) (hpq : (p == q) = false) (a1 : 0 ≤ xh) (a2 : 0 ≤ xl) (a3 : 0 ≤ yh) (a4 : 0 ≤ yl) (b1 : xh ≤ 18446744073709551615) (b2 : xl ≤ 18446744073709551615) (b3 : yh ≤ 18446744073709551615) (b4 : yl ≤ 18446744073709551615) (hl : lsB xh xl yh yl = true) (c1 : xh < yh) (c2 : yl < xl) (hz : IntKind.u64.wrap (yl - xl) = z) (n1 : (yh - xh - 1 == 0) = true) (n2 : (z == 0) = false) :
    Calls Try.prog 14 #[.agg #[.bool p, .int .u64 xh, .int .u64 xl], .agg #[.bool q, .int .u64 yh, .int .u64 yl]] w fun e w' => e = .returned (.agg #[.bool q, .int .u64 (yh - xh - 1), .int .u64 z]) ∧ Below w.heap.size w w' := by
  go_enter Try.func14, Try.ntmps14
  go_wp2_with (go_at_call 28; refine (less_raw _ _ _ _ _ _ _).mono ?_; rintro e w' ⟨rfl, rfl⟩)
  exact bodyPost_ret (v := .agg #[.bool q, .int .u64 (yh - xh - 1), .int .u64 z]) (by simp [results, Try.results14, go_sem]) rfl ⟨rfl, (((((((Below.refl _ _).alloc (Nat.le_refl _) _).alloc (by simp) _).alloc (by simp; omega) _).alloc (by simp; omega) _).alloc (by simp; omega) _).alloc (by simp; omega) _)⟩
set_option maxHeartbeats 1000000 in
theorem pd_z (p q : Bool) (xh xl : Int) (w : World) (hpq : (p == q) = false) (hl : lsB xh xl xh xl = false) :
    Calls Try.prog 14 #[.agg #[.bool p, .int .u64 xh, .int .u64 xl], .agg #[.bool q, .int .u64 xh, .int .u64 xl]] w fun e w' => e = .returned (.agg #[.bool false, .int .u64 0, .int .u64 0]) ∧ Below w.heap.size w w' := by
  go_enter Try.func14, Try.ntmps14
  go_wp2_with (go_at_call 28; refine (less_raw _ _ _ _ _ _ _).mono ?_; rintro e w' ⟨rfl, rfl⟩)
  exact bodyPost_ret (v := .agg #[.bool false, .int .u64 0, .int .u64 0]) (by simp [results, Try.results14, go_sem]) rfl ⟨rfl, (((((((Below.refl _ _).alloc (Nat.le_refl _) _).alloc (by simp) _).alloc (by simp; omega) _).alloc (by simp; omega) _).alloc (by simp; omega) _).alloc (by simp; omega) _)⟩

end Go.Proofs.Ytagcjfcmgfifnaa

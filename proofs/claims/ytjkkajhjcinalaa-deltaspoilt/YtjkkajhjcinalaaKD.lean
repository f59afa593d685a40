/-
  Their sums.
  Conditions: as each theorem states them.
-/
import Derived.Test.YtjkkajhjcinalaaKC
namespace Go.Proofs.Ytjkkajhjcinalaa.calc
open Go.RowKit
set_option linter.unusedVariables false
set_option linter.unusedSimpArgs false
set_option maxRecDepth 100000

set_option maxHeartbeats 1000000 in
theorem plus_same0 (p : Bool) (xh xl yh yl : Int) (w : World) (a1 : 0 ≤ xh) (a2 : 0 ≤ xl) (a3 : 0 ≤ yh) (a4 : 0 ≤ yl) (c1 : xh + yh ≤ 18446744073709551615) (c2 : xl + yl ≤ 18446744073709551615) :
    Calls Try.prog 98 #[.agg #[.bool p, .int .u64 xh, .int .u64 xl], .agg #[.bool p, .int .u64 yh, .int .u64 yl]] w fun e w' => e = .returned (.agg #[.bool p, .int .u64 (xh + yh), .int .u64 (xl + yl)]) ∧ Below w.heap.size w w' := by
  go_enter Try.func98, Try.ntmps98
  go_wp2
  exact bodyPost_ret (v := .agg #[.bool p, .int .u64 (xh + yh), .int .u64 (xl + yl)]) (by simp [results, Try.results98, go_sem]) rfl ⟨rfl, (((((Below.refl _ _).alloc (Nat.le_refl _) _).alloc (by simp) _).alloc (by simp; omega) _).alloc (by simp; omega) _)⟩
set_option maxHeartbeats 1000000 in
theorem plus_same1 (p : Bool) (xh xl yh yl z : Int) (w : World) (a1 : 0 ≤ xh) (a2 : 0 ≤ xl) (a3 : 0 ≤ yh) (a4 : 0 ≤ yl) (c1 : xh + yh + 1 ≤ 18446744073709551615) (hz : IntKind.u64.wrap (xl + yl) = z) (c2 : z < xl) :
    Calls Try.prog 98 #[.agg #[.bool p, .int .u64 xh, .int .u64 xl], .agg #[.bool p, .int .u64 yh, .int .u64 yl]] w fun e w' => e = .returned (.agg #[.bool p, .int .u64 (xh + yh + 1), .int .u64 z]) ∧ Below w.heap.size w w' := by
  go_enter Try.func98, Try.ntmps98
  go_wp2
  exact bodyPost_ret (v := .agg #[.bool p, .int .u64 (xh + yh + 1), .int .u64 z]) (by simp [results, Try.results98, go_sem]) rfl ⟨rfl, (((((Below.refl _ _).alloc (Nat.le_refl _) _).alloc (by simp) _).alloc (by simp; omega) _).alloc (by simp; omega) _)⟩
set_option maxHeartbeats 1000000 in
theorem pd_nb1 (p q : Bool) (xh xl yh yl : Int) (w : World) (hpq : (p == q) = false) (a1 : 0 ≤ xh) (a2 : 0 ≤ xl) (a3 : 0 ≤ yh) (a4 : 0 ≤ yl) (b1 : xh ≤ 18446744073709551615) (b2 : xl ≤ 18446744073709551615) (b3 : yh ≤ 18446744073709551615) (b4 : yl ≤ 18446744073709551615) (hl : lsB xh xl yh yl = false) (c1 : yh ≤ xh) (c2 : yl ≤ xl) (n1 : (xh - yh == 0) = false) :
    Calls Try.prog 98 #[.agg #[.bool p, .int .u64 xh, .int .u64 xl], .agg #[.bool q, .int .u64 yh, .int .u64 yl]] w fun e w' => e = .returned (.agg #[.bool p, .int .u64 (xh - yh), .int .u64 (xl - yl)]) ∧ Below w.heap.size w w' := by
  go_enter Try.func98, Try.ntmps98
  go_wp2_with (go_at_call 108; refine (less_raw _ _ _ _ _ _ _).mono ?_; rintro e w' ⟨rfl, rfl⟩)
  exact bodyPost_ret (v := .agg #[.bool p, .int .u64 (xh - yh), .int .u64 (xl - yl)]) (by simp [results, Try.results98, go_sem]) rfl ⟨rfl, (((((((Below.refl _ _).alloc (Nat.le_refl _) _).alloc (by simp) _).alloc (by simp; omega) _).alloc (by simp; omega) _).alloc (by simp; omega) _).alloc (by simp; omega) _)⟩
set_option maxHeartbeats 1000000 in
theorem pd_nb2 (p q : Bool) (xh xl yh yl : Int) (w : World) (hpq : (p == q) = false) (a1 : 0 ≤ xh) (a2 : 0 ≤ xl) (a3 : 0 ≤ yh) (a4 : 0 ≤ yl) (b1 : xh ≤ 18446744073709551615) (b2 : xl ≤ 18446744073709551615) (b3 : yh ≤ 18446744073709551615) (b4 : yl ≤ 18446744073709551615) (hl : lsB xh xl yh yl = false) (c1 : yh ≤ xh) (c2 : yl ≤ xl) (n1 : (xh - yh == 0) = true) (n2 : (xl - yl == 0) = false) :
    Calls Try.prog 98 #[.agg #[.bool p, .int .u64 xh, .int .u64 xl], .agg #[.bool q, .int .u64 yh, .int .u64 yl]] w fun e w' => e = .returned (.agg #[.bool p, .int .u64 (xh - yh), .int .u64 (xl - yl)]) ∧ Below w.heap.size w w' := by
  go_enter Try.func98, Try.ntmps98
  go_wp2_with (go_at_call 108; refine (less_raw _ _ _ _ _ _ _).mono ?_; rintro e w' ⟨rfl, rfl⟩)
  exact bodyPost_ret (v := .agg #[.bool p, .int .u64 (xh - yh), .int .u64 (xl - yl)]) (by simp [results, Try.results98, go_sem]) rfl ⟨rfl, (((((((Below.refl _ _).alloc (Nat.le_refl _) _).alloc (by simp) _).alloc (by simp; omega) _).alloc (by simp; omega) _).alloc (by simp; omega) _).alloc (by simp; omega) _)⟩
set_option maxHeartbeats 1000000 in
theorem pd_b1 (p q : Bool) (xh xl yh yl z : Int) (w : World) (hpq : (p == q) = false) (a1 : 0 ≤ xh) (a2 : 0 ≤ xl) (a3 : 0 ≤ yh) (a4 : 0 ≤ yl) (b1 : xh ≤ 18446744073709551615) (b2 : xl ≤ 18446744073709551615) (b3 : yh ≤ 18446744073709551615) (b4 : yl ≤ 18446744073709551615) (hl : lsB xh xl yh yl = false) (c1 : yh < xh) (c2 : xl < yl) (hz : IntKind.u64.wrap (xl - yl) = z) (n1 : (xh - yh - 1 == 0) = false) :
    Calls Try.prog 98 #[.agg #[.bool p, .int .u64 xh, .int .u64 xl], .agg #[.bool q, .int .u64 yh, .int .u64 yl]] w fun e w' => e = .returned (.agg #[.bool p, .int .u64 (xh - yh - 1), .int .u64 z]) ∧ Below w.heap.size w w' := by
  go_enter Try.func98, Try.ntmps98
  go_wp2_with (go_at_call 108; refine (less_raw _ _ _ _ _ _ _).mono ?_; rintro e w' ⟨rfl, rfl⟩)
  exact bodyPost_ret (v := .agg #[.bool p, .int .u64 (xh - yh - 1), .int .u64 z]) (by simp [results, Try.results98, go_sem]) rfl ⟨rfl, (((((((Below.refl _ _).alloc (Nat.le_refl _) _).alloc (by simp) _).alloc (by simp; omega) _).alloc (by simp; omega) _).alloc (by simp; omega) _).alloc (by simp; omega) _)⟩
set_option maxHeartbeats 1000000 in
theorem pd_b2 (p q : Bool) (xh xl yh yl z : Int) (w : World) (hpq : (p == q) = false) (a1 : 0 ≤ xh) (a2 : 0 ≤ xl) (a3 : 0 ≤ yh) (a4 : 0 ≤ yl) (b1 : xh ≤ 18446744073709551615) (b2 : xl ≤ 18446744073709551615) (b3 : yh ≤ 18446744073709551615) (b4 : yl ≤ 18446744073709551615) (hl : lsB xh xl yh yl = false) (c1 : yh < xh) (c2 : xl < yl) (hz : IntKind.u64.wrap (xl - yl) = z) (n1 : (xh - yh - 1 == 0) = true) (n2 : (z == 0) = false) :
    Calls Try.prog 98 #[.agg #[.bool p, .int .u64 xh, .int .u64 xl], .agg #[.bool q, .int .u64 yh, .int .u64 yl]] w fun e w' => e = .returned (.agg #[.bool p, .int .u64 (xh - yh - 1), .int .u64 z]) ∧ Below w.heap.size w w' := by
  go_enter Try.func98, Try.ntmps98
  go_wp2_with (go_at_call 108; refine (less_raw _ _ _ _ _ _ _).mono ?_; rintro e w' ⟨rfl, rfl⟩)
  exact bodyPost_ret (v := .agg #[.bool p, .int .u64 (xh - yh - 1), .int .u64 z]) (by simp [results, Try.results98, go_sem]) rfl ⟨rfl, (((((((Below.refl _ _).alloc (Nat.le_refl _) _).alloc (by simp) _).alloc (by simp; omega) _).alloc (by simp; omega) _).alloc (by simp; omega) _).alloc (by simp; omega) _)⟩
set_option maxHeartbeats 1000000 in
theorem ps_nb1 (p q : Bool) (xh xl yh yl : Int) (w : World) (hpq : (p == q) = false) (a1 : 0 ≤ xh) (a2 : 0 ≤ xl) (a3 : 0 ≤ yh) (a4 : 0 ≤ yl) (b1 : xh ≤ 18446744073709551615) (b2 : xl ≤ 18446744073709551615) (b3 : yh ≤ 18446744073709551615) (b4 : yl ≤ 18446744073709551615) (hl : lsB xh xl yh yl = true) (c1 : xh ≤ yh) (c2 : xl ≤ yl) (n1 : (yh - xh == 0) = false) :
    Calls Try.prog 98 #[.agg #[.bool p, .int .u64 xh, .int .u64 xl], .agg #[.bool q, .int .u64 yh, .int .u64 yl]] w fun e w' => e = .returned (.agg #[.bool q, .int .u64 (yh - xh), .int .u64 (yl - xl)]) ∧ Below w.heap.size w w' := by
  go_enter Try.func98, Try.ntmps98
  go_wp2_with (go_at_call 108; refine (less_raw _ _ _ _ _ _ _).mono ?_; rintro e w' ⟨rfl, rfl⟩)
  exact bodyPost_ret (v := .agg #[.bool q, .int .u64 (yh - xh), .int .u64 (yl - xl)]) (by simp [results, Try.results98, go_sem]) rfl ⟨rfl, (((((((Below.refl _ _).alloc (Nat.le_refl _) _).alloc (by simp) _).alloc (by simp; omega) _).alloc (by simp; omega) _).alloc (by simp; omega) _).alloc (by simp; omega) _)⟩
set_option maxHeartbeats 1000000 in
theorem ps_nb2 (p q : Bool) (xh xl yh yl : Int) (w : World) (hpq : (p == q) = false) (a1 : 0 ≤ xh) (a2 : 0 ≤ xl) (a3 : 0 ≤ yh) (a4 : 0 ≤ yl) (b1 : xh ≤ 18446744073709551615) (b2 : xl ≤ 18446744073709551615) (b3 : yh ≤ 18446744073709551615) (b4 : yl ≤ 18446744073709551615) (hl : lsB xh xl yh yl = true) (c1 : xh ≤ yh) (c2 : xl ≤ yl) (n1 : (yh - xh == 0) = true) (n2 : (yl - xl == 0) = false) :
    Calls Try.prog 98 #[.agg #[.bool p, .int .u64 xh, .int .u64 xl], .agg #[.bool q, .int .u64 yh, .int .u64 yl]] w fun e w' => e = .returned (.agg #[.bool q, .int .u64 (yh - xh), .int .u64 (yl - xl)]) ∧ Below w.heap.size w w' := by
  go_enter Try.func98, Try.ntmps98
  go_wp2_with (go_at_call 108; refine (less_raw _ _ _ _ _ _ _).mono ?_; rintro e w' ⟨rfl, rfl⟩)
  exact bodyPost_ret (v := .agg #[.bool q, .int .u64 (yh - xh), .int .u64 (yl - xl)]) (by simp [results, Try.results98, go_sem]) rfl ⟨rfl, (((((((Below.refl _ _).alloc (Nat.le_refl _) _).alloc (by simp) _).alloc (by simp; omega) _).alloc (by simp; omega) _).alloc (by simp; omega) _).alloc (by simp; omega) _)⟩
set_option maxHeartbeats 1000000 in
theorem ps_b1 (p q : Bool) (xh xl yh yl z : Int) (w : World) (hpq : (p == q) = false) (a1 : 0 ≤ xh) (a2 : 0 ≤ xl) (a3 : 0 ≤ yh) (a4 : 0 ≤ yl) (b1 : xh ≤ 18446744073709551615) (b2 : xl ≤ 18446744073709551615) (b3 : yh ≤ 18446744073709551615) (b4 : yl ≤ 18446744073709551615) (hl : lsB xh xl yh yl = true) (c1 : xh < yh) (c2 : yl < xl) (hz : IntKind.u64.wrap (yl - xl) = z) (n1 : (yh - xh - 1 == 0) = false) :
    Calls Try.prog 98 #[.agg #[.bool p, .int .u64 xh, .int .u64 xl], .agg #[.bool q, .int .u64 yh, .int .u64 yl]] w fun e w' => e = .returned (.agg #[.bool q, .int .u64 (yh - xh - 1), .int .u64 z]) ∧ Below w.heap.size w w' := by
  go_enter Try.func98, Try.ntmps98
  go_wp2_with (go_at_call 108; refine (less_raw _ _ _ _ _ _ _).mono ?_; rintro e w' ⟨rfl, rfl⟩)
  exact bodyPost_ret (v := .agg #[.bool q, .int .u64 (yh - xh - 1), .int .u64 z]) (by simp [results, Try.results98, go_sem]) rfl ⟨rfl, (((((((Below.refl _ _).alloc (Nat.le_refl _) _).alloc (by simp) _).alloc (by simp; omega) _).alloc (by simp; omega) _).alloc (by simp; omega) _).alloc (by simp; omega) _)⟩
set_option maxHeartbeats 1000000 in
theorem ps_b2 (p q : Bool) (xh xl yh yl z : Int) (w : World) (hpq : (p == q) = false) (a1 : 0 ≤ xh) (a2 : 0 ≤ xl) (a3 : 0 ≤ yh) (a4 : 0 ≤ yl) (b1 : xh ≤ 18446744073709551615) (b2 : xl ≤ 18446744073709551615) (b3 : yh ≤ 18446744073709551615) (b4 : yl ≤ 18446744073709551615) (hl : lsB xh xl yh yl = true) (c1 : xh < yh) (c2 : yl < xl) (hz : IntKind.u64.wrap (yl - xl) = z) (n1 : (yh - xh - 1 == 0) = true) (n2 : (z == 0) = false) :
    Calls Try.prog 98 #[.agg #[.bool p, .int .u64 xh, .int .u64 xl], .agg #[.bool q, .int .u64 yh, .int .u64 yl]] w fun e w' => e = .returned (.agg #[.bool q, .int .u64 (yh - xh - 1), .int .u64 z]) ∧ Below w.heap.size w w' := by
  go_enter Try.func98, Try.ntmps98
  go_wp2_with (go_at_call 108; refine (less_raw _ _ _ _ _ _ _).mono ?_; rintro e w' ⟨rfl, rfl⟩)
  exact bodyPost_ret (v := .agg #[.bool q, .int .u64 (yh - xh - 1), .int .u64 z]) (by simp [results, Try.results98, go_sem]) rfl ⟨rfl, (((((((Below.refl _ _).alloc (Nat.le_refl _) _).alloc (by simp) _).alloc (by simp; omega) _).alloc (by simp; omega) _).alloc (by simp; omega) _).alloc (by simp; omega) _)⟩
set_option maxHeartbeats 1000000 in
theorem pd_z (p q : Bool) (xh xl : Int) (w : World) (hpq : (p == q) = false) (hl : lsB xh xl xh xl = false) :
    Calls Try.prog 98 #[.agg #[.bool p, .int .u64 xh, .int .u64 xl], .agg #[.bool q, .int .u64 xh, .int .u64 xl]] w fun e w' => e = .returned (.agg #[.bool false, .int .u64 0, .int .u64 0]) ∧ Below w.heap.size w w' := by
  go_enter Try.func98, Try.ntmps98
  go_wp2_with (go_at_call 108; refine (less_raw _ _ _ _ _ _ _).mono ?_; rintro e w' ⟨rfl, rfl⟩)
  exact bodyPost_ret (v := .agg #[.bool false, .int .u64 0, .int .u64 0]) (by simp [results, Try.results98, go_sem]) rfl ⟨rfl, (((((((Below.refl _ _).alloc (Nat.le_refl _) _).alloc (by simp) _).alloc (by simp; omega) _).alloc (by simp; omega) _).alloc (by simp; omega) _).alloc (by simp; omega) _)⟩
theorem add_same {x y : Int} (h : ng x = ng y) : sz (x + y) = sz x + sz y ∧ ng (x + y) = ng x := by
  rcases sz_cases x with ⟨n, _, s⟩ | ⟨n, _, s⟩ <;> rcases sz_cases y with ⟨m, _, t⟩ | ⟨m, _, t⟩
  · exact ⟨by rw [s, t, sz_neg (by omega)]; omega, by rw [n, ng_t (by omega)]⟩
  · rw [n, m] at h; cases h
  · rw [n, m] at h; cases h
  · exact ⟨by rw [s, t, sz_pos (by omega)], by rw [n, ng_f (by omega)]⟩
theorem add_gt {x y : Int} (h : ¬ ng x = ng y) (g : sz y < sz x) : sz (x + y) = sz x - sz y ∧ ng (x + y) = ng x := by
  rcases sz_cases x with ⟨n, _, s⟩ | ⟨n, _, s⟩ <;> rcases sz_cases y with ⟨m, _, t⟩ | ⟨m, _, t⟩
  · rw [n, m] at h; exact absurd rfl h
  · exact ⟨by rw [s, t, sz_neg (by omega)]; omega, by rw [n, ng_t (by omega)]⟩
  · exact ⟨by rw [s, t, sz_pos (by omega)]; omega, by rw [n, ng_f (by omega)]⟩
  · rw [n, m] at h; exact absurd rfl h
theorem sz_nn (x : Int) : 0 ≤ sz x := by rcases sz_cases x with ⟨n, _, s⟩ | ⟨n, _, s⟩ <;> omega
theorem rplus_any (x y : Int) (w : World) (hx : sz x ≤ 85070591730234615865843651857942052864) (hy : sz y ≤ 85070591730234615865843651857942052864) :
    Calls Try.prog 98 #[.agg #[.bool (ng x), .int .u64 (hi (sz x)), .int .u64 (lo (sz x))], .agg #[.bool (ng y), .int .u64 (hi (sz y)), .int .u64 (lo (sz y))]] w fun e w' => e = .returned (.agg #[.bool (ng (x + y)), .int .u64 (hi (sz (x + y))), .int .u64 (lo (sz (x + y)))]) ∧ Below w.heap.size w w' := by
  have nx := sz_nn x
  have ny := sz_nn y
  have X := lohi (sz x); have Y := lohi (sz y)
  obtain ⟨bx1, bx2⟩ := lo_bd (sz x); obtain ⟨by1, by2⟩ := lo_bd (sz y)
  have cx1 : 0 ≤ hi (sz x) := by unfold hi; omega
  have cy1 : 0 ≤ hi (sz y) := by unfold hi; omega
  have cx2 : hi (sz x) ≤ 4611686018427387904 := by unfold hi; omega
  have cy2 : hi (sz y) ≤ 4611686018427387904 := by unfold hi; omega
  by_cases hn : ng x = ng y
  · obtain ⟨e1, e2⟩ := add_same hn
    rw [e1, e2, hn]
    by_cases hc : lo (sz x) + lo (sz y) ≤ 18446744073709551615
    · have f1 : hi (sz x + sz y) = hi (sz x) + hi (sz y) := by unfold hi lo at *; omega
      have f2 : lo (sz x + sz y) = lo (sz x) + lo (sz y) := by unfold hi lo at *; omega
      rw [f1, f2]
      exact plus_same0 _ _ _ _ _ w cx1 bx1 cy1 by1 (by omega) hc
    · have f1 : hi (sz x + sz y) = hi (sz x) + hi (sz y) + 1 := by unfold hi lo at *; omega
      have f2 : lo (sz x + sz y) = lo (sz x) + lo (sz y) - 18446744073709551616 := by unfold hi lo at *; omega
      rw [f1, f2]
      exact plus_same1 _ _ _ _ _ _ w cx1 bx1 cy1 by1 (by omega) (by rw [IntKind.wrap_u64]; omega) (by omega)
  · have hpq : (ng x == ng y) = false := by simpa using hn
    by_cases hlt : sz x < sz y
    · have hl : lsB (hi (sz x)) (lo (sz x)) (hi (sz y)) (lo (sz y)) = true := by rw [sz_lt]; exact decide_eq_true hlt
      obtain ⟨e1, e2⟩ := add_gt (x := y) (y := x) (fun h => hn h.symm) hlt
      rw [Int.add_comm x y, e1, e2]
      by_cases hc : lo (sz x) ≤ lo (sz y)
      · have f1 : hi (sz y - sz x) = hi (sz y) - hi (sz x) := by unfold hi lo at *; omega
        have f2 : lo (sz y - sz x) = lo (sz y) - lo (sz x) := by unfold hi lo at *; omega
        rw [f1, f2]
        by_cases hz : hi (sz y) - hi (sz x) = 0
        · exact ps_nb2 _ _ _ _ _ _ w hpq cx1 bx1 cy1 by1 (by omega) (by omega) (by omega) (by omega) hl (by omega) hc (by simp [hz]) (by simp; omega)
        · exact ps_nb1 _ _ _ _ _ _ w hpq cx1 bx1 cy1 by1 (by omega) (by omega) (by omega) (by omega) hl (by omega) hc (by simp [hz])
      · have f1 : hi (sz y - sz x) = hi (sz y) - hi (sz x) - 1 := by unfold hi lo at *; omega
        have f2 : lo (sz y - sz x) = lo (sz y) - lo (sz x) + 18446744073709551616 := by unfold hi lo at *; omega
        rw [f1, f2]
        by_cases hz : hi (sz y) - hi (sz x) - 1 = 0
        · exact ps_b2 _ _ _ _ _ _ _ w hpq cx1 bx1 cy1 by1 (by omega) (by omega) (by omega) (by omega) hl (by omega) (by omega) (by rw [IntKind.wrap_u64]; omega) (by simp [hz]) (by simp; omega)
        · exact ps_b1 _ _ _ _ _ _ _ w hpq cx1 bx1 cy1 by1 (by omega) (by omega) (by omega) (by omega) hl (by omega) (by omega) (by rw [IntKind.wrap_u64]; omega) (by simp [hz])
    · have hl : lsB (hi (sz x)) (lo (sz x)) (hi (sz y)) (lo (sz y)) = false := by rw [sz_lt]; exact decide_eq_false hlt
      by_cases heq : sz x = sz y
      · have e0 : x + y = 0 := by
          rcases sz_cases x with ⟨n, _, s⟩ | ⟨n, _, s⟩ <;> rcases sz_cases y with ⟨m, _, t⟩ | ⟨m, _, t⟩
          · rw [n, m] at hn; exact absurd rfl hn
          · omega
          · omega
          · rw [n, m] at hn; exact absurd rfl hn
        rw [e0, ← heq]
        rw [← heq] at hl
        exact pd_z _ _ _ _ w hpq hl
      · obtain ⟨e1, e2⟩ := add_gt hn (by omega)
        rw [e1, e2]
        by_cases hc : lo (sz y) ≤ lo (sz x)
        · have f1 : hi (sz x - sz y) = hi (sz x) - hi (sz y) := by unfold hi lo at *; omega
          have f2 : lo (sz x - sz y) = lo (sz x) - lo (sz y) := by unfold hi lo at *; omega
          rw [f1, f2]
          by_cases hz : hi (sz x) - hi (sz y) = 0
          · exact pd_nb2 _ _ _ _ _ _ w hpq cx1 bx1 cy1 by1 (by omega) (by omega) (by omega) (by omega) hl (by omega) hc (by simp [hz]) (by simp; omega)
          · exact pd_nb1 _ _ _ _ _ _ w hpq cx1 bx1 cy1 by1 (by omega) (by omega) (by omega) (by omega) hl (by omega) hc (by simp [hz])
        · have f1 : hi (sz x - sz y) = hi (sz x) - hi (sz y) - 1 := by unfold hi lo at *; omega
          have f2 : lo (sz x - sz y) = lo (sz x) - lo (sz y) + 18446744073709551616 := by unfold hi lo at *; omega
          rw [f1, f2]
          by_cases hz : hi (sz x) - hi (sz y) - 1 = 0
          · exact pd_b2 _ _ _ _ _ _ _ w hpq cx1 bx1 cy1 by1 (by omega) (by omega) (by omega) (by omega) hl (by omega) (by omega) (by rw [IntKind.wrap_u64]; omega) (by simp [hz]) (by simp; omega)
          · exact pd_b1 _ _ _ _ _ _ _ w hpq cx1 bx1 cy1 by1 (by omega) (by omega) (by omega) (by omega) hl (by omega) (by omega) (by rw [IntKind.wrap_u64]; omega) (by simp [hz])

end Go.Proofs.Ytjkkajhjcinalaa.calc

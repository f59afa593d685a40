/-
  What the document's own Total returns: sums of whole numbers.
  Conditions: as each theorem states them.
-/
import Derived.Test.YtikgbcdmeikjfaaRE
namespace Go.Proofs.Ytikgbcdmeikjfaa.calc
open Go.RowKit
set_option linter.unusedVariables false
set_option linter.unusedSimpArgs false
set_option maxRecDepth 100000

/-- Is a number an int64? -/
def fitB (x : Int) : Bool := decide (-9223372036854775808 ≤ x ∧ x ≤ 9223372036854775807)
/-- A number, or 0 where it is no int64. -/
def fitV (x : Int) : Int := if fitB x then x else 0
/-- A number without its sign. -/
def sz (a : Int) : Int := if a < 0 then -a else a
theorem fit_yes {x : Int} (h : -9223372036854775808 ≤ x ∧ x ≤ 9223372036854775807) : fitB x = true ∧ fitV x = x := by
  have e : fitB x = true := by unfold fitB; exact decide_eq_true h
  exact ⟨e, by unfold fitV; rw [e]; rfl⟩
theorem fit_no {x : Int} (h : ¬ (-9223372036854775808 ≤ x ∧ x ≤ 9223372036854775807)) : fitB x = false ∧ fitV x = 0 := by
  have e : fitB x = false := by unfold fitB; exact decide_eq_false h
  exact ⟨e, by unfold fitV; rw [e]; rfl⟩
theorem ret_fit_no {x : Int} (h : ¬ (-9223372036854775808 ≤ x ∧ x ≤ 9223372036854775807)) : Ending.returned (.tuple #[.int .i64 0, .bool false]) = .returned (.tuple #[.int .i64 (fitV x), .bool (fitB x)]) := by
  rw [(fit_no h).1, (fit_no h).2]
theorem ret_fit_yes {x y : Int} (h : -9223372036854775808 ≤ x ∧ x ≤ 9223372036854775807) (e : y = x) : Ending.returned (.tuple #[.int .i64 y, .bool true]) = .returned (.tuple #[.int .i64 (fitV x), .bool (fitB x)]) := by
  rw [(fit_yes h).1, (fit_yes h).2, e]
theorem sz_neg {a : Int} (h : a < 0) : sz a = -a := by unfold sz; rw [if_pos h]
theorem sz_pos {a : Int} (h : 0 ≤ a) : sz a = a := by unfold sz; rw [if_neg (by omega)]
/-- The high half (floor), the low half of a number, by 2^64. -/
def hi (x : Int) : Int := x / 18446744073709551616
def lo (x : Int) : Int := x % 18446744073709551616
theorem lo_bd (x : Int) : 0 ≤ lo x ∧ lo x < 18446744073709551616 := by unfold lo; omega
theorem lohi (x : Int) : x = hi x * 18446744073709551616 + lo x := by unfold lo hi; omega
theorem sz_bd {a : Int} (h : I64 a) : 0 ≤ sz a ∧ sz a ≤ 9223372036854775808 := by
  obtain ⟨h1, h2⟩ := h
  unfold sz; split <;> omega
theorem rsize_any (a : Int) (w : World) (ha : I64 a) :
    Calls Try.prog 37 #[.int .i64 a] w fun e w' => e = .returned (.int .u64 (sz a)) ∧ w' = w := crsize_m a (sz a) w (hid ha) (hid rfl)
/-- Is a number below 0? -/
def ng (x : Int) : Bool := decide (x < 0)
theorem ng_t {x : Int} (h : x < 0) : ng x = true := decide_eq_true h
theorem ng_f {x : Int} (h : 0 ≤ x) : ng x = false := decide_eq_false (by omega)
set_option maxHeartbeats 400000 in
theorem of_any (a : Int) (w : World) (ha : I64 a) :
    Calls Try.prog 39 #[.int .i64 a] w fun e w' => e = .returned (.agg #[.bool (ng a), .int .u64 (hi (sz a)), .int .u64 (lo (sz a))]) ∧ Below w.heap.size w w' := by
  obtain ⟨s1, s2⟩ := sz_bd ha
  have e1 : hi (sz a) = 0 := by unfold hi; omega
  have e2 : lo (sz a) = sz a := by unfold lo; omega
  rw [e1, e2]
  clear e1 e2
  go_enter Try.func39, Try.ntmps39
  go_wp2_with (go_at_call 37; refine (rsize_any _ _ ha).mono ?_; rintro e w' ⟨rfl, rfl⟩)
  exact bodyPost_ret (v := .agg #[.bool (ng a), .int .u64 0, .int .u64 (sz a)]) (by simp [results, Try.results39, go_sem]; rfl) rfl ⟨rfl, (Below.refl _ _).alloc (Nat.le_refl _) _⟩
/-- Is one size below another one, word by word? -/
def lsB (xh xl yh yl : Int) : Bool := decide (xh < yh) || (decide (xh = yh) && decide (xl < yl))
theorem sz_lt {x y : Int} : lsB (hi (sz x)) (lo (sz x)) (hi (sz y)) (lo (sz y)) = decide (sz x < sz y) := by
  have := lohi (sz x); have := lohi (sz y); have := lo_bd (sz x); have := lo_bd (sz y)
  unfold lsB
  rw [Bool.eq_iff_iff]
  simp only [Bool.or_eq_true, Bool.and_eq_true, decide_eq_true_eq]
  omega
theorem ret_bool {a b : Bool} (h : a = b) : Ending.returned (.bool a) = .returned (.bool b) := by rw [h]
set_option maxHeartbeats 400000 in
theorem less_raw (p q : Bool) (xh xl yh yl : Int) (w : World) :
    Calls Try.prog 59 #[.agg #[.bool p, .int .u64 xh, .int .u64 xl], .agg #[.bool q, .int .u64 yh, .int .u64 yl]] w fun e w' => e = .returned (.bool (lsB xh xl yh yl)) ∧ w' = (w.alloc (.cells #[.bool p, .int .u64 xh, .int .u64 xl] 76)).alloc (.cells #[.bool q, .int .u64 yh, .int .u64 yl] 76) := by
  unfold lsB
  by_cases h1 : xh < yh
  · go_enter Try.func59, Try.ntmps59
    go_wp2
    go_ret
    exact ⟨ret_bool (by simp [h1]), rfl⟩
  · by_cases h2 : xh = yh
    · subst h2
      go_enter Try.func59, Try.ntmps59
      go_wp2
      go_ret
      exact ⟨ret_bool (by simp), rfl⟩
    · go_enter Try.func59, Try.ntmps59
      go_wp2
      go_ret
      exact ⟨ret_bool (by simp [h2]; omega), rfl⟩
theorem sz_cases (x : Int) : (ng x = true ∧ x < 0 ∧ sz x = -x) ∨ (ng x = false ∧ 0 ≤ x ∧ sz x = x) := by
  by_cases h : x < 0
  · exact .inl ⟨ng_t h, h, sz_neg h⟩
  · exact .inr ⟨ng_f (by omega), by omega, sz_pos (by omega)⟩
theorem bk1 {x : Int} (h1 : hi (sz x) = 0) (h2 : lo (sz x) = 9223372036854775808) (h3 : (!ng x) = true) : ¬ (-9223372036854775808 ≤ x ∧ x ≤ 9223372036854775807) := by
  have h := lohi (sz x)
  rcases sz_cases x with ⟨n, _, s⟩ | ⟨n, _, s⟩
  · rw [n] at h3; cases h3
  · omega
theorem bk2 {x : Int} (h1 : hi (sz x) = 0) (h2 : lo (sz x) = 9223372036854775808) (h3 : (!ng x) = false) : (-9223372036854775808 ≤ x ∧ x ≤ 9223372036854775807) ∧ -9223372036854775808 = x := by
  have h := lohi (sz x)
  rcases sz_cases x with ⟨n, _, s⟩ | ⟨n, _, s⟩
  · omega
  · rw [n] at h3; cases h3
theorem bk3 {x : Int} (h1 : hi (sz x) = 0) (h2 : lo (sz x) ≤ 9223372036854775808) (h4 : ¬ lo (sz x) = 9223372036854775808) (h3 : ng x = true) : (-9223372036854775808 ≤ x ∧ x ≤ 9223372036854775807) ∧ -lo (sz x) = x := by
  have h := lohi (sz x)
  rcases sz_cases x with ⟨n, _, s⟩ | ⟨n, _, s⟩
  · omega
  · rw [n] at h3; cases h3
theorem bk4 {x : Int} (h1 : hi (sz x) = 0) (h2 : lo (sz x) ≤ 9223372036854775808) (h4 : ¬ lo (sz x) = 9223372036854775808) (h3 : ng x = false) : (-9223372036854775808 ≤ x ∧ x ≤ 9223372036854775807) ∧ lo (sz x) = x := by
  have h := lohi (sz x)
  rcases sz_cases x with ⟨n, _, s⟩ | ⟨n, _, s⟩
  · rw [n] at h3; cases h3
  · omega
theorem bk5 {x : Int} (h1 : hi (sz x) = 0) (h2 : 9223372036854775808 < lo (sz x)) : ¬ (-9223372036854775808 ≤ x ∧ x ≤ 9223372036854775807) := by
  have h := lohi (sz x)
  rcases sz_cases x with ⟨n, _, s⟩ | ⟨n, _, s⟩ <;> omega
theorem bk6 {x : Int} (h1 : ¬ hi (sz x) = 0) : ¬ (-9223372036854775808 ≤ x ∧ x ≤ 9223372036854775807) := by
  have h := lohi (sz x); have b := lo_bd (sz x)
  rcases sz_cases x with ⟨n, _, s⟩ | ⟨n, _, s⟩ <;> omega
set_option maxHeartbeats 400000 in
theorem wback_any (x : Int) (w : World) :
    Calls Try.prog 40 #[.agg #[.bool (ng x), .int .u64 (hi (sz x)), .int .u64 (lo (sz x))]] w fun e w' => e = .returned (.tuple #[.int .i64 (fitV x), .bool (fitB x)]) ∧ Below w.heap.size w w' := by
  have hb := lo_bd (sz x)
  go_enter Try.func40, Try.ntmps40
  go_wp2
  · go_ret2
    exact ⟨ret_fit_no (bk1 ‹_› ‹_› ‹_›), (Below.refl _ _).alloc (Nat.le_refl _) _⟩
  · go_ret2
    exact ⟨ret_fit_yes (bk2 ‹_› ‹_› ‹_›).1 (bk2 ‹_› ‹_› ‹_›).2, (Below.refl _ _).alloc (Nat.le_refl _) _⟩
  · go_ret2
    exact ⟨ret_fit_yes (bk3 ‹_› ‹_› ‹_› ‹_›).1 (bk3 ‹_› ‹_› ‹_› ‹_›).2, (Below.refl _ _).alloc (Nat.le_refl _) _⟩
  · go_ret2
    exact ⟨ret_fit_yes (bk4 ‹_› ‹_› ‹_› ‹_›).1 (bk4 ‹_› ‹_› ‹_› ‹_›).2, (Below.refl _ _).alloc (Nat.le_refl _) _⟩
  · go_ret2
    exact ⟨ret_fit_no (bk5 ‹_› ‹_›), (Below.refl _ _).alloc (Nat.le_refl _) _⟩
  · go_ret2
    exact ⟨ret_fit_no (bk6 ‹_›), (Below.refl _ _).alloc (Nat.le_refl _) _⟩
set_option maxHeartbeats 1000000 in
theorem plus_same0 (p : Bool) (xh xl yh yl : Int) (w : World) (a1 : 0 ≤ xh) (a2 : 0 ≤ xl) (a3 : 0 ≤ yh) (a4 : 0 ≤ yl) (c1 : xh + yh ≤ 18446744073709551615) (c2 : xl + yl ≤ 18446744073709551615) :
    Calls Try.prog 38 #[.agg #[.bool p, .int .u64 xh, .int .u64 xl], .agg #[.bool p, .int .u64 yh, .int .u64 yl]] w fun e w' => e = .returned (.agg #[.bool p, .int .u64 (xh + yh), .int .u64 (xl + yl)]) ∧ Below w.heap.size w w' := by
  go_enter Try.func38, Try.ntmps38
  go_wp2
  exact bodyPost_ret (v := .agg #[.bool p, .int .u64 (xh + yh), .int .u64 (xl + yl)]) (by simp [results, Try.results38, go_sem]) rfl ⟨rfl, (((((Below.refl _ _).alloc (Nat.le_refl _) _).alloc (by simp) _).alloc (by simp; omega) _).alloc (by simp; omega) _)⟩
set_option maxHeartbeats 1000000 in
theorem plus_same1 (p : Bool) (xh xl yh yl z : Int) (w : World) (a1 : 0 ≤ xh) (a2 : 0 ≤ xl) (a3 : 0 ≤ yh) (a4 : 0 ≤ yl) (c1 : xh + yh + 1 ≤ 18446744073709551615) (hz : IntKind.u64.wrap (xl + yl) = z) (c2 : z < xl) :
    Calls Try.prog 38 #[.agg #[.bool p, .int .u64 xh, .int .u64 xl], .agg #[.bool p, .int .u64 yh, .int .u64 yl]] w fun e w' => e = .returned (.agg #[.bool p, .int .u64 (xh + yh + 1), .int .u64 z]) ∧ Below w.heap.size w w' := by
  go_enter Try.func38, Try.ntmps38
  go_wp2
  exact bodyPost_ret (v := .agg #[.bool p, .int .u64 (xh + yh + 1), .int .u64 z]) (by simp [results, Try.results38, go_sem]) rfl ⟨rfl, (((((Below.refl _ _).alloc (Nat.le_refl _) _).alloc (by simp) _).alloc (by simp; omega) _).alloc (by simp; omega) _)⟩
set_option maxHeartbeats 1000000 in
theorem pd_nb1 (p q : Bool) (xh xl yh yl : Int) (w : World) (hpq : (p == q) = false) (a1 : 0 ≤ xh) (a2 : 0 ≤ xl) (a3 : 0 ≤ yh) (a4 : 0 ≤ yl) (b1 : xh ≤ 18446744073709551615) (b2 : xl ≤ 18446744073709551615) (b3 : yh ≤ 18446744073709551615) (b4 : yl ≤ 18446744073709551615) (hl : lsB xh xl yh yl = false) (c1 : yh ≤ xh) (c2 : yl ≤ xl) (n1 : (xh - yh == 0) = false) :
    Calls Try.prog 38 #[.agg #[.bool p, .int .u64 xh, .int .u64 xl], .agg #[.bool q, .int .u64 yh, .int .u64 yl]] w fun e w' => e = .returned (.agg #[.bool p, .int .u64 (xh - yh), .int .u64 (xl - yl)]) ∧ Below w.heap.size w w' := by
  go_enter Try.func38, Try.ntmps38
  go_wp2_with (go_at_call 59; refine (less_raw _ _ _ _ _ _ _).mono ?_; rintro e w' ⟨rfl, rfl⟩)
  exact bodyPost_ret (v := .agg #[.bool p, .int .u64 (xh - yh), .int .u64 (xl - yl)]) (by simp [results, Try.results38, go_sem]) rfl ⟨rfl, (((((((Below.refl _ _).alloc (Nat.le_refl _) _).alloc (by simp) _).alloc (by simp; omega) _).alloc (by simp; omega) _).alloc (by simp; omega) _).alloc (by simp; omega) _)⟩
set_option maxHeartbeats 1000000 in
theorem pd_nb2 (p q : Bool) (xh xl yh yl : Int) (w : World) (hpq : (p == q) = false) (a1 : 0 ≤ xh) (a2 : 0 ≤ xl) (a3 : 0 ≤ yh) (a4 : 0 ≤ yl) (b1 : xh ≤ 18446744073709551615) (b2 : xl ≤ 18446744073709551615) (b3 : yh ≤ 18446744073709551615) (b4 : yl ≤ 18446744073709551615) (hl : lsB xh xl yh yl = false) (c1 : yh ≤ xh) (c2 : yl ≤ xl) (n1 : (xh - yh == 0) = true) (n2 : (xl - yl == 0) = false) :
    Calls Try.prog 38 #[.agg #[.bool p, .int .u64 xh, .int .u64 xl], .agg #[.bool q, .int .u64 yh, .int .u64 yl]] w fun e w' => e = .returned (.agg #[.bool p, .int .u64 (xh - yh), .int .u64 (xl - yl)]) ∧ Below w.heap.size w w' := by
  go_enter Try.func38, Try.ntmps38
  go_wp2_with (go_at_call 59; refine (less_raw _ _ _ _ _ _ _).mono ?_; rintro e w' ⟨rfl, rfl⟩)
  exact bodyPost_ret (v := .agg #[.bool p, .int .u64 (xh - yh), .int .u64 (xl - yl)]) (by simp [results, Try.results38, go_sem]) rfl ⟨rfl, (((((((Below.refl _ _).alloc (Nat.le_refl _) _).alloc (by simp) _).alloc (by simp; omega) _).alloc (by simp; omega) _).alloc (by simp; omega) _).alloc (by simp; omega) _)⟩
set_option maxHeartbeats 1000000 in
theorem pd_b1 (p q : Bool) (xh xl yh yl z : Int) (w : World) (hpq : (p == q) = false) (a1 : 0 ≤ xh) (a2 : 0 ≤ xl) (a3 : 0 ≤ yh) (a4 : 0 ≤ yl) (b1 : xh ≤ 18446744073709551615) (b2 : xl ≤ 18446744073709551615) (b3 : yh ≤ 18446744073709551615) (b4 : yl ≤ 18446744073709551615) (hl : lsB xh xl yh yl = false) (c1 : yh < xh) (c2 : xl < yl) (hz : IntKind.u64.wrap (xl - yl) = z) (n1 : (xh - yh - 1 == 0) = false) :
    Calls Try.prog 38 #[.agg #[.bool p, .int .u64 xh, .int .u64 xl], .agg #[.bool q, .int .u64 yh, .int .u64 yl]] w fun e w' => e = .returned (.agg #[.bool p, .int .u64 (xh - yh - 1), .int .u64 z]) ∧ Below w.heap.size w w' := by
  go_enter Try.func38, Try.ntmps38
  go_wp2_with (go_at_call 59; refine (less_raw _ _ _ _ _ _ _).mono ?_; rintro e w' ⟨rfl, rfl⟩)
  exact bodyPost_ret (v := .agg #[.bool p, .int .u64 (xh - yh - 1), .int .u64 z]) (by simp [results, Try.results38, go_sem]) rfl ⟨rfl, (((((((Below.refl _ _).alloc (Nat.le_refl _) _).alloc (by simp) _).alloc (by simp; omega) _).alloc (by simp; omega) _).alloc (by simp; omega) _).alloc (by simp; omega) _)⟩
set_option maxHeartbeats 1000000 in
theorem pd_b2 (p q : Bool) (xh xl yh yl z : Int) (w : World) (hpq : (p == q) = false) (a1 : 0 ≤ xh) (a2 : 0 ≤ xl) (a3 : 0 ≤ yh) (a4 : 0 ≤ yl) (b1 : xh ≤ 18446744073709551615) (b2 : xl ≤ 18446744073709551615) (b3 : yh ≤ 18446744073709551615) (b4 : yl ≤ 18446744073709551615) (hl : lsB xh xl yh yl = false) (c1 : yh < xh) (c2 : xl < yl) (hz : IntKind.u64.wrap (xl - yl) = z) (n1 : (xh - yh - 1 == 0) = true) (n2 : (z == 0) = false) :
    Calls Try.prog 38 #[.agg #[.bool p, .int .u64 xh, .int .u64 xl], .agg #[.bool q, .int .u64 yh, .int .u64 yl]] w fun e w' => e = .returned (.agg #[.bool p, .int .u64 (xh - yh - 1), .int .u64 z]) ∧ Below w.heap.size w w' := by
  go_enter Try.func38, Try.ntmps38
  go_wp2_with (go_at_call 59; refine (less_raw _ _ _ _ _ _ _).mono ?_; rintro e w' ⟨rfl, rfl⟩)
  exact bodyPost_ret (v := .agg #[.bool p, .int .u64 (xh - yh - 1), .int .u64 z]) (by simp [results, Try.results38, go_sem]) rfl ⟨rfl, (((((((Below.refl _ _).alloc (Nat.le_refl _) _).alloc (by simp) _).alloc (by simp; omega) _).alloc (by simp; omega) _).alloc (by simp; omega) _).alloc (by simp; omega) _)⟩
set_option maxHeartbeats 1000000 in
theorem ps_nb1 (p q : Bool) (xh xl yh yl : Int) (w : World) (hpq : (p == q) = false) (a1 : 0 ≤ xh) (a2 : 0 ≤ xl) (a3 : 0 ≤ yh) (a4 : 0 ≤ yl) (b1 : xh ≤ 18446744073709551615) (b2 : xl ≤ 18446744073709551615) (b3 : yh ≤ 18446744073709551615) (b4 : yl ≤ 18446744073709551615) (hl : lsB xh xl yh yl = true) (c1 : xh ≤ yh) (c2 : xl ≤ yl) (n1 : (yh - xh == 0) = false) :
    Calls Try.prog 38 #[.agg #[.bool p, .int .u64 xh, .int .u64 xl], .agg #[.bool q, .int .u64 yh, .int .u64 yl]] w fun e w' => e = .returned (.agg #[.bool q, .int .u64 (yh - xh), .int .u64 (yl - xl)]) ∧ Below w.heap.size w w' := by
  go_enter Try.func38, Try.ntmps38
  go_wp2_with (go_at_call 59; refine (less_raw _ _ _ _ _ _ _).mono ?_; rintro e w' ⟨rfl, rfl⟩)
  exact bodyPost_ret (v := .agg #[.bool q, .int .u64 (yh - xh), .int .u64 (yl - xl)]) (by simp [results, Try.results38, go_sem]) rfl ⟨rfl, (((((((Below.refl _ _).alloc (Nat.le_refl _) _).alloc (by simp) _).alloc (by simp; omega) _).alloc (by simp; omega) _).alloc (by simp; omega) _).alloc (by simp; omega) _)⟩
set_option maxHeartbeats 1000000 in
theorem ps_nb2 (p q : Bool) (xh xl yh yl : Int) (w : World) (hpq : (p == q) = false) (a1 : 0 ≤ xh) (a2 : 0 ≤ xl) (a3 : 0 ≤ yh) (a4 : 0 ≤ yl) (b1 : xh ≤ 18446744073709551615) (b2 : xl ≤ 18446744073709551615) (b3 : yh ≤ 18446744073709551615) (b4 : yl ≤ 18446744073709551615) (hl : lsB xh xl yh yl = true) (c1 : xh ≤ yh) (c2 : xl ≤ yl) (n1 : (yh - xh == 0) = true) (n2 : (yl - xl == 0) = false) :
    Calls Try.prog 38 #[.agg #[.bool p, .int .u64 xh, .int .u64 xl], .agg #[.bool q, .int .u64 yh, .int .u64 yl]] w fun e w' => e = .returned (.agg #[.bool q, .int .u64 (yh - xh), .int .u64 (yl - xl)]) ∧ Below w.heap.size w w' := by
  go_enter Try.func38, Try.ntmps38
  go_wp2_with (go_at_call 59; refine (less_raw _ _ _ _ _ _ _).mono ?_; rintro e w' ⟨rfl, rfl⟩)
  exact bodyPost_ret (v := .agg #[.bool q, .int .u64 (yh - xh), .int .u64 (yl - xl)]) (by simp [results, Try.results38, go_sem]) rfl ⟨rfl, (((((((Below.refl _ _).alloc (Nat.le_refl _) _).alloc (by simp) _).alloc (by simp; omega) _).alloc (by simp; omega) _).alloc (by simp; omega) _).alloc (by simp; omega) _)⟩
set_option maxHeartbeats 1000000 in
theorem ps_b1 (p q : Bool) (xh xl yh yl z : Int) (w : World) (hpq : (p == q) = false) (a1 : 0 ≤ xh) (a2 : 0 ≤ xl) (a3 : 0 ≤ yh) (a4 : 0 ≤ yl) (b1 : xh ≤ 18446744073709551615) (b2 : xl ≤ 18446744073709551615) (b3 : yh ≤ 18446744073709551615) (b4 : yl ≤ 18446744073709551615) (hl : lsB xh xl yh yl = true) (c1 : xh < yh) (c2 : yl < xl) (hz : IntKind.u64.wrap (yl - xl) = z) (n1 : (yh - xh - 1 == 0) = false) :
    Calls Try.prog 38 #[.agg #[.bool p, .int .u64 xh, .int .u64 xl], .agg #[.bool q, .int .u64 yh, .int .u64 yl]] w fun e w' => e = .returned (.agg #[.bool q, .int .u64 (yh - xh - 1), .int .u64 z]) ∧ Below w.heap.size w w' := by
  go_enter Try.func38, Try.ntmps38
  go_wp2_with (go_at_call 59; refine (less_raw _ _ _ _ _ _ _).mono ?_; rintro e w' ⟨rfl, rfl⟩)
  exact bodyPost_ret (v := .agg #[.bool q, .int .u64 (yh - xh - 1), .int .u64 z]) (by simp [results, Try.results38, go_sem]) rfl ⟨rfl, (((((((Below.refl _ _).alloc (Nat.le_refl _) _).alloc (by simp) _).alloc (by simp; omega) _).alloc (by simp; omega) _).alloc (by simp; omega) _).alloc (by simp; omega) _)⟩
set_option maxHeartbeats 1000000 in
theorem ps_b2 (p q : Bool) (xh xl yh yl z : Int) (w : World) (hpq : (p == q) = false) (a1 : 0 ≤ xh) (a2 : 0 ≤ xl) (a3 : 0 ≤ yh) (a4 : 0 ≤ yl) (b1 : xh ≤ 18446744073709551615) (b2 : xl ≤ 18446744073709551615) (b3 : yh ≤ 18446744073709551615) (b4 : yl ≤ 18446744073709551615) (hl : lsB xh xl yh yl = true) (c1 : xh < yh) (c2 : yl < xl) (hz : IntKind.u64.wrap (yl - xl) = z) (n1 : (yh - xh - 1 == 0) = true) (n2 : (z == 0) = false) :
    Calls Try.prog 38 #[.agg #[.bool p, .int .u64 xh, .int .u64 xl], .agg #[.bool q, .int .u64 yh, .int .u64 yl]] w fun e w' => e = .returned (.agg #[.bool q, .int .u64 (yh - xh - 1), .int .u64 z]) ∧ Below w.heap.size w w' := by
  go_enter Try.func38, Try.ntmps38
  go_wp2_with (go_at_call 59; refine (less_raw _ _ _ _ _ _ _).mono ?_; rintro e w' ⟨rfl, rfl⟩)
  exact bodyPost_ret (v := .agg #[.bool q, .int .u64 (yh - xh - 1), .int .u64 z]) (by simp [results, Try.results38, go_sem]) rfl ⟨rfl, (((((((Below.refl _ _).alloc (Nat.le_refl _) _).alloc (by simp) _).alloc (by simp; omega) _).alloc (by simp; omega) _).alloc (by simp; omega) _).alloc (by simp; omega) _)⟩
set_option maxHeartbeats 1000000 in
theorem pd_z (p q : Bool) (xh xl : Int) (w : World) (hpq : (p == q) = false) (hl : lsB xh xl xh xl = false) :
    Calls Try.prog 38 #[.agg #[.bool p, .int .u64 xh, .int .u64 xl], .agg #[.bool q, .int .u64 xh, .int .u64 xl]] w fun e w' => e = .returned (.agg #[.bool false, .int .u64 0, .int .u64 0]) ∧ Below w.heap.size w w' := by
  go_enter Try.func38, Try.ntmps38
  go_wp2_with (go_at_call 59; refine (less_raw _ _ _ _ _ _ _).mono ?_; rintro e w' ⟨rfl, rfl⟩)
  exact bodyPost_ret (v := .agg #[.bool false, .int .u64 0, .int .u64 0]) (by simp [results, Try.results38, go_sem]) rfl ⟨rfl, (((((((Below.refl _ _).alloc (Nat.le_refl _) _).alloc (by simp) _).alloc (by simp; omega) _).alloc (by simp; omega) _).alloc (by simp; omega) _).alloc (by simp; omega) _)⟩
theorem add_same {x y : Int} (h : ng x = ng y) : sz (x + y) = sz x + sz y ∧ ng (x + y) = ng x := by
  rcases sz_cases x with ⟨n, _, s⟩ | ⟨n, _, s⟩ <;> rcases sz_cases y with ⟨m, _, t⟩ | ⟨m, _, t⟩
  · exact ⟨by rw [s, t, sz_neg (by omega)]; omega, by rw [n, ng_t (by omega)]⟩
  · rw [n, m] at h; cases h
  · rw [n, m] at h; cases h
  · exact ⟨by rw [s, t, sz_pos (by omega)], by rw [n, ng_f (by omega)]⟩
theorem add_gt {x y : Int} (h : ¬ ng x = ng y) (g : sz y < sz x) : sz (x + y) = sz x - sz y ∧ ng (x + y) = ng x := by
  rcases sz_cases x with ⟨n, _, s⟩ | ⟨n, _, s⟩ <;> rcases sz_cases y with ⟨m, _, t⟩ | ⟨m, _, t⟩
  · rw [n, m] at h; exact absurd rfl h
  · exact ⟨by rw [s, t, sz_neg (by omega)]; omega, by rw [n, ng_t (by omega)]⟩
  · exact ⟨by rw [s, t, sz_pos (by omega)]; omega, by rw [n, ng_f (by omega)]⟩
  · rw [n, m] at h; exact absurd rfl h
theorem sz_nn (x : Int) : 0 ≤ sz x := by rcases sz_cases x with ⟨n, _, s⟩ | ⟨n, _, s⟩ <;> omega
theorem rplus_any (x y : Int) (w : World) (hx : sz x ≤ 85070591730234615865843651857942052864) (hy : sz y ≤ 85070591730234615865843651857942052864) :
    Calls Try.prog 38 #[.agg #[.bool (ng x), .int .u64 (hi (sz x)), .int .u64 (lo (sz x))], .agg #[.bool (ng y), .int .u64 (hi (sz y)), .int .u64 (lo (sz y))]] w fun e w' => e = .returned (.agg #[.bool (ng (x + y)), .int .u64 (hi (sz (x + y))), .int .u64 (lo (sz (x + y)))]) ∧ Below w.heap.size w w' := by
  have nx := sz_nn x
  have ny := sz_nn y
  have X := lohi (sz x); have Y := lohi (sz y)
  obtain ⟨bx1, bx2⟩ := lo_bd (sz x); obtain ⟨by1, by2⟩ := lo_bd (sz y)
  have cx1 : 0 ≤ hi (sz x) := by unfold hi; omega
  have cy1 : 0 ≤ hi (sz y) := by unfold hi; omega
  have cx2 : hi (sz x) ≤ 4611686018427387904 := by unfold hi; omega
  have cy2 : hi (sz y) ≤ 4611686018427387904 := by unfold hi; omega
  by_cases hn : ng x = ng y
  · obtain ⟨e1, e2⟩ := add_same hn
    rw [e1, e2, hn]
    by_cases hc : lo (sz x) + lo (sz y) ≤ 18446744073709551615
    · have f1 : hi (sz x + sz y) = hi (sz x) + hi (sz y) := by unfold hi lo at *; omega
      have f2 : lo (sz x + sz y) = lo (sz x) + lo (sz y) := by unfold hi lo at *; omega
      rw [f1, f2]
      exact plus_same0 _ _ _ _ _ w cx1 bx1 cy1 by1 (by omega) hc
    · have f1 : hi (sz x + sz y) = hi (sz x) + hi (sz y) + 1 := by unfold hi lo at *; omega
      have f2 : lo (sz x + sz y) = lo (sz x) + lo (sz y) - 18446744073709551616 := by unfold hi lo at *; omega
      rw [f1, f2]
      exact plus_same1 _ _ _ _ _ _ w cx1 bx1 cy1 by1 (by omega) (by rw [IntKind.wrap_u64]; omega) (by omega)
  · have hpq : (ng x == ng y) = false := by simpa using hn
    by_cases hlt : sz x < sz y
    · have hl : lsB (hi (sz x)) (lo (sz x)) (hi (sz y)) (lo (sz y)) = true := by rw [sz_lt]; exact decide_eq_true hlt
      obtain ⟨e1, e2⟩ := add_gt (x := y) (y := x) (fun h => hn h.symm) hlt
      rw [Int.add_comm x y, e1, e2]
      by_cases hc : lo (sz x) ≤ lo (sz y)
      · have f1 : hi (sz y - sz x) = hi (sz y) - hi (sz x) := by unfold hi lo at *; omega
        have f2 : lo (sz y - sz x) = lo (sz y) - lo (sz x) := by unfold hi lo at *; omega
        rw [f1, f2]
        by_cases hz : hi (sz y) - hi (sz x) = 0
        · exact ps_nb2 _ _ _ _ _ _ w hpq cx1 bx1 cy1 by1 (by omega) (by omega) (by omega) (by omega) hl (by omega) hc (by simp [hz]) (by simp; omega)
        · exact ps_nb1 _ _ _ _ _ _ w hpq cx1 bx1 cy1 by1 (by omega) (by omega) (by omega) (by omega) hl (by omega) hc (by simp [hz])
      · have f1 : hi (sz y - sz x) = hi (sz y) - hi (sz x) - 1 := by unfold hi lo at *; omega
        have f2 : lo (sz y - sz x) = lo (sz y) - lo (sz x) + 18446744073709551616 := by unfold hi lo at *; omega
        rw [f1, f2]
        by_cases hz : hi (sz y) - hi (sz x) - 1 = 0
        · exact ps_b2 _ _ _ _ _ _ _ w hpq cx1 bx1 cy1 by1 (by omega) (by omega) (by omega) (by omega) hl (by omega) (by omega) (by rw [IntKind.wrap_u64]; omega) (by simp [hz]) (by simp; omega)
        · exact ps_b1 _ _ _ _ _ _ _ w hpq cx1 bx1 cy1 by1 (by omega) (by omega) (by omega) (by omega) hl (by omega) (by omega) (by rw [IntKind.wrap_u64]; omega) (by simp [hz])
    · have hl : lsB (hi (sz x)) (lo (sz x)) (hi (sz y)) (lo (sz y)) = false := by rw [sz_lt]; exact decide_eq_false hlt
      by_cases heq : sz x = sz y
      · have e0 : x + y = 0 := by
          rcases sz_cases x with ⟨n, _, s⟩ | ⟨n, _, s⟩ <;> rcases sz_cases y with ⟨m, _, t⟩ | ⟨m, _, t⟩
          · rw [n, m] at hn; exact absurd rfl hn
          · omega
          · omega
          · rw [n, m] at hn; exact absurd rfl hn
        rw [e0, ← heq]
        rw [← heq] at hl
        exact pd_z _ _ _ _ w hpq hl
      · obtain ⟨e1, e2⟩ := add_gt hn (by omega)
        rw [e1, e2]
        by_cases hc : lo (sz y) ≤ lo (sz x)
        · have f1 : hi (sz x - sz y) = hi (sz x) - hi (sz y) := by unfold hi lo at *; omega
          have f2 : lo (sz x - sz y) = lo (sz x) - lo (sz y) := by unfold hi lo at *; omega
          rw [f1, f2]
          by_cases hz : hi (sz x) - hi (sz y) = 0
          · exact pd_nb2 _ _ _ _ _ _ w hpq cx1 bx1 cy1 by1 (by omega) (by omega) (by omega) (by omega) hl (by omega) hc (by simp [hz]) (by simp; omega)
          · exact pd_nb1 _ _ _ _ _ _ w hpq cx1 bx1 cy1 by1 (by omega) (by omega) (by omega) (by omega) hl (by omega) hc (by simp [hz])
        · have f1 : hi (sz x - sz y) = hi (sz x) - hi (sz y) - 1 := by unfold hi lo at *; omega
          have f2 : lo (sz x - sz y) = lo (sz x) - lo (sz y) + 18446744073709551616 := by unfold hi lo at *; omega
          rw [f1, f2]
          by_cases hz : hi (sz x) - hi (sz y) - 1 = 0
          · exact pd_b2 _ _ _ _ _ _ _ w hpq cx1 bx1 cy1 by1 (by omega) (by omega) (by omega) (by omega) hl (by omega) (by omega) (by rw [IntKind.wrap_u64]; omega) (by simp [hz]) (by simp; omega)
          · exact pd_b1 _ _ _ _ _ _ _ w hpq cx1 bx1 cy1 by1 (by omega) (by omega) (by omega) (by omega) hl (by omega) (by omega) (by rw [IntKind.wrap_u64]; omega) (by simp [hz])
/-- The sum of a list. -/
def sumI : List Int → Int
  | [] => 0
  | x :: l => x + sumI l
theorem sumI_snoc (l : List Int) (x : Int) : sumI (l ++ [x]) = sumI l + x := by
  induction l with
  | nil => simp [sumI]
  | cons y l ih => simp only [List.cons_append, sumI, ih]; omega
theorem sumI_bd (l : List Int) (h : ∀ x ∈ l, I64 x) : -(9223372036854775808 * l.length) ≤ sumI l ∧ sumI l ≤ 9223372036854775808 * l.length := by
  induction l with
  | nil => simp [sumI]
  | cons y l ih =>
    have h1 := h y (by simp)
    have h2 := ih (fun x hx => h x (by simp [hx]))
    obtain ⟨a1, a2⟩ := h1
    simp only [sumI, List.length_cons]
    omega
theorem take_snoc (l : List Int) (k : Nat) (h : k < l.length) : l.take (k + 1) = l.take k ++ [l.getD k 0] := by
  rw [List.take_succ_eq_append_getElem h]
  simp [List.getD, h]
theorem getD_mem (zs : List Int) (k : Nat) (h : k < zs.length) : zs.getD k 0 ∈ zs := by
  have : zs.getD k 0 = zs[k] := by simp [List.getD, h]
  rw [this]; exact List.getElem_mem h
theorem sum_step (zs : List Int) (k : Nat) (h : k < zs.length) : sumI (zs.take (k + 1)) = sumI (zs.take k) + zs[k]?.getD 0 := by
  rw [take_snoc _ _ h, sumI_snoc]; rfl
theorem sum_bd (zs : List Int) (k : Nat) (h : k ≤ zs.length) (hz : ∀ x ∈ zs, I64 x) (hk : k ≤ 1000000000000) : -9223372036854775808000000000000 ≤ sumI (zs.take k) ∧ sumI (zs.take k) ≤ 9223372036854775808000000000000 := by
  have h1 := sumI_bd (zs.take k) (fun x hx => hz x (List.mem_of_mem_take hx))
  have h2 : (zs.take k).length = k := by simp; omega
  rw [h2] at h1
  omega
theorem three_store {w wr w1 : World} {v0 v1 v2 u0 u1 u2 : Value} (hbel : Below w.heap.size w wr) (hsz : w.heap.size < wr.heap.size)
    (hc0 : wr.cell? ⟨w.heap.size, 0, none⟩ = some u0) (hc1 : wr.cell? ⟨w.heap.size, 1, none⟩ = some u1) (hc2 : wr.cell? ⟨w.heap.size, 2, none⟩ = some u2) (hf0 : wr.frozen? ⟨w.heap.size, 0, none⟩ = false) (hf1 : wr.frozen? ⟨w.heap.size, 1, none⟩ = false) (hf2 : wr.frozen? ⟨w.heap.size, 2, none⟩ = false) (hb1 : Below wr.heap.size wr w1) :
    Below w.heap.size w (((w1.setCell ⟨w.heap.size, 0, none⟩ v0).setCell ⟨w.heap.size, 1, none⟩ v1).setCell ⟨w.heap.size, 2, none⟩ v2) ∧ w.heap.size < (((w1.setCell ⟨w.heap.size, 0, none⟩ v0).setCell ⟨w.heap.size, 1, none⟩ v1).setCell ⟨w.heap.size, 2, none⟩ v2).heap.size ∧
    (((w1.setCell ⟨w.heap.size, 0, none⟩ v0).setCell ⟨w.heap.size, 1, none⟩ v1).setCell ⟨w.heap.size, 2, none⟩ v2).cell? ⟨w.heap.size, 0, none⟩ = some v0 ∧ (((w1.setCell ⟨w.heap.size, 0, none⟩ v0).setCell ⟨w.heap.size, 1, none⟩ v1).setCell ⟨w.heap.size, 2, none⟩ v2).cell? ⟨w.heap.size, 1, none⟩ = some v1 ∧ (((w1.setCell ⟨w.heap.size, 0, none⟩ v0).setCell ⟨w.heap.size, 1, none⟩ v1).setCell ⟨w.heap.size, 2, none⟩ v2).cell? ⟨w.heap.size, 2, none⟩ = some v2 ∧
    (((w1.setCell ⟨w.heap.size, 0, none⟩ v0).setCell ⟨w.heap.size, 1, none⟩ v1).setCell ⟨w.heap.size, 2, none⟩ v2).frozen? ⟨w.heap.size, 0, none⟩ = false ∧ (((w1.setCell ⟨w.heap.size, 0, none⟩ v0).setCell ⟨w.heap.size, 1, none⟩ v1).setCell ⟨w.heap.size, 2, none⟩ v2).frozen? ⟨w.heap.size, 1, none⟩ = false ∧ (((w1.setCell ⟨w.heap.size, 0, none⟩ v0).setCell ⟨w.heap.size, 1, none⟩ v1).setCell ⟨w.heap.size, 2, none⟩ v2).frozen? ⟨w.heap.size, 2, none⟩ = false := by
  obtain ⟨hc, hf⟩ := bcell hb1
  have g0 := (hc _ 0 hsz).trans hc0
  have g1 := (hc _ 1 hsz).trans hc1
  have g2 := (hc _ 2 hsz).trans hc2
  refine ⟨(((hbel.trans (hb1.mono hbel.size)).setCell (Nat.le_refl _) _).setCell (Nat.le_refl _) _).setCell (Nat.le_refl _) _, ?_, ?_, ?_, ?_, ?_, ?_, ?_⟩
  · rw [World.size_setCell, World.size_setCell, World.size_setCell]; exact Nat.lt_of_lt_of_le hsz hb1.size
  · simp [go_sem, g0, g1, g2]
  · simp [go_sem, g0, g1, g2]
  · simp [go_sem, g0, g1, g2]
  · simp [go_sem, hf _ _ hsz, hf0]
  · simp [go_sem, hf _ _ hsz, hf1]
  · simp [go_sem, hf _ _ hsz, hf2]
theorem keep3 {B : Nat} {wr w1 : World} {v0 v1 v2 : Value} (hb1 : Below wr.heap.size wr w1) (hsz : B < wr.heap.size)
    (hc0 : wr.cell? ⟨B, 0, none⟩ = some v0) (hc1 : wr.cell? ⟨B, 1, none⟩ = some v1) (hc2 : wr.cell? ⟨B, 2, none⟩ = some v2) (hf0 : wr.frozen? ⟨B, 0, none⟩ = false) (hf1 : wr.frozen? ⟨B, 1, none⟩ = false) (hf2 : wr.frozen? ⟨B, 2, none⟩ = false) :
    B < w1.heap.size ∧ w1.cell? ⟨B, 0, none⟩ = some v0 ∧ w1.cell? ⟨B, 1, none⟩ = some v1 ∧ w1.cell? ⟨B, 2, none⟩ = some v2 ∧ w1.frozen? ⟨B, 0, none⟩ = false ∧ w1.frozen? ⟨B, 1, none⟩ = false ∧ w1.frozen? ⟨B, 2, none⟩ = false := by
  obtain ⟨hc, hf⟩ := bcell hb1
  exact ⟨Nat.lt_of_lt_of_le hsz hb1.size, (hc _ _ hsz).trans hc0, (hc _ _ hsz).trans hc1, (hc _ _ hsz).trans hc2, (hf _ _ hsz).trans hf0, (hf _ _ hsz).trans hf1, (hf _ _ hsz).trans hf2⟩
set_option maxHeartbeats 2000000 in
theorem rtotal_any (b off len cap : Nat) (zs : List Int) (w : World) (hl : len ≤ zs.length) (hm : len ≤ 1000000000000) (hb : b < w.heap.size)
    (hc : ∀ k, k < len → w.cell? ⟨b, off + k, none⟩ = some (.int .i64 (zs.getD k 0))) (hz : ∀ x ∈ zs, I64 x) :
    Calls Try.prog 21 #[.slice (some ⟨b, off, none⟩) len cap] w fun e w' => e = .returned (.tuple #[.int .i64 (fitV (sumI (zs.take len))), .bool (fitB (sumI (zs.take len)))]) ∧ Below w.heap.size w w' := by
  go_enter Try.func21, Try.ntmps21
  go_wp2
  go_loopw [5] (fun i wr => ∃ k : Nat, k ≤ len ∧ i = .int .i64 k ∧ Below w.heap.size w wr ∧ w.heap.size < wr.heap.size ∧ wr.cell? ⟨w.heap.size, 0, none⟩ = some (.bool (ng (sumI (zs.take k)))) ∧ wr.cell? ⟨w.heap.size, 1, none⟩ = some (.int .u64 (hi (sz (sumI (zs.take k))))) ∧ wr.cell? ⟨w.heap.size, 2, none⟩ = some (.int .u64 (lo (sz (sumI (zs.take k))))) ∧ wr.frozen? ⟨w.heap.size, 0, none⟩ = false ∧ wr.frozen? ⟨w.heap.size, 1, none⟩ = false ∧ wr.frozen? ⟨w.heap.size, 2, none⟩ = false)
    (fun i _ => len - (intOf i).toNat)
  case atStart =>
    refine ⟨0, Nat.zero_le _, rfl, (Below.refl _ _).alloc (Nat.le_refl _) _, by simp, ?_, ?_, ?_, ?_, ?_, ?_⟩ <;> simp [go_sem, sumI, hi, lo, sz, ng]
  case round =>
    obtain ⟨k, hk, rfl, hbel, hsz, hc0, hc1, hc2, hf0, hf1, hf2⟩ := hrel
    by_cases hlt : k < len
    · have hcx : wr.cell? ⟨b, off + k, none⟩ = some (.int .i64 (zs.getD k 0)) := (hbel.cell (by exact hb)).trans (hc k hlt)
      have hv : I64 (zs.getD k 0) := hz _ (getD_mem zs k (by omega))
      have HS : Hid (sumI (zs.take (k + 1)) = sumI (zs.take k) + zs[k]?.getD 0) := sum_step zs k (by omega)
      have s1 : sz (sumI (zs.take k)) ≤ 85070591730234615865843651857942052864 := by
        have hs := sum_bd zs k (by omega) hz (by omega)
        unfold sz; split <;> omega
      have s2 : sz (zs.getD k 0) ≤ 85070591730234615865843651857942052864 := by
        have := (sz_bd hv).2; omega
      clear hc
      go_wp2
      go_region_with (first
        | (go_at_call 39; refine (of_any _ _ hv).mono ?_; rintro e w1 ⟨rfl, hb1⟩; obtain ⟨y0, y1, y2, y3, y4, y5, y6⟩ := keep3 hb1 hsz hc0 hc1 hc2 hf0 hf1 hf2)
        | (go_at_call 38; refine (rplus_any _ _ _ s1 s2).mono ?_; rintro e w2 ⟨rfl, hb2⟩; obtain ⟨x0, x1, x2, x3, x4, x5, x6⟩ := keep3 hb2 y0 y1 y2 y3 y4 y5 y6))
      all_goals
        go_wp2
        go_roundw
        case rel =>
          refine ⟨k + 1, by omega, by go_num, ?_⟩
          rw [HS.out]
          exact three_store hbel hsz hc0 hc1 hc2 hf0 hf1 hf2 (bt (undrew hb1) hb2)
        case measure => simp [intOf]; omega
    · go_wp2_with (go_at_call 40; refine (wback_any _ _).mono ?_; rintro e w2 ⟨rfl, hb2⟩)
      go_ret2
      have : k = len := by omega
      subst this
      exact ⟨rfl, bt hbel hb2⟩
set_option maxHeartbeats 400000 in
theorem rtotal_0 (a : Option Addr) (cap : Nat) (w : World) :
    Calls Try.prog 21 #[.slice a 0 cap] w fun e w' => e = .returned (.tuple #[.int .i64 0, .bool true]) ∧ Below w.heap.size w w' := by
  go_enter Try.func21, Try.ntmps21
  go_wp2
  go_loopw [5] (fun i wr => i = .int .i64 0 ∧ wr = w.alloc (.cells #[.bool (ng 0), .int .u64 (hi (sz 0)), .int .u64 (lo (sz 0))] 76))
    (fun _ _ => 0)
  case atStart => exact ⟨rfl, rfl⟩
  case round =>
    obtain ⟨rfl, rfl⟩ := hrel
    go_wp2_with (go_at_call 40; refine (wback_any 0 _).mono ?_; rintro e w2 ⟨rfl, hb2⟩)
    go_ret2
    exact ⟨rfl, ((Below.refl _ _).alloc (Nat.le_refl _) _).trans (hb2.mono (by simp))⟩

end Go.Proofs.Ytikgbcdmeikjfaa.calc

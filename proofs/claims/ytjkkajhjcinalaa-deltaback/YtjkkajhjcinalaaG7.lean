/-
  The wide numbers of the document.
  Their sums.
  Their products.
  Conditions: as each theorem states them.
-/
import Derived.Test.YtjkkajhjcinalaaG2
import Derived.Deep.RegionHeld3
namespace Go.Proofs.Ytjkkajhjcinalaa.calc
open Go.RowKit
set_option linter.unusedVariables false
set_option linter.unusedSimpArgs false
set_option maxRecDepth 100000

/-- Is a number below 0? -/
def ng (x : Int) : Bool := decide (x < 0)
/-- A whole number as the document's own wide one: its sign, its size. -/
def wv (x : Int) : Value := .agg #[.bool (ng x), .int .u64 (hi (sz x)), .int .u64 (lo (sz x))]
theorem ng_t {x : Int} (h : x < 0) : ng x = true := decide_eq_true h
theorem ng_f {x : Int} (h : 0 ≤ x) : ng x = false := decide_eq_false (by omega)
set_option maxHeartbeats 400000 in
theorem of_any (a : Int) (w : World) (ha : I64 a) :
    Calls Try.prog 62 #[.int .i64 a] w fun e w' => e = .returned (.agg #[.bool (ng a), .int .u64 (hi (sz a)), .int .u64 (lo (sz a))]) ∧ Below w.heap.size w w' := by
  obtain ⟨s1, s2⟩ := sz_bd ha
  have e1 : hi (sz a) = 0 := by unfold hi; omega
  have e2 : lo (sz a) = sz a := by unfold lo; omega
  rw [e1, e2]
  clear e1 e2
  go_enter Try.func62, Try.ntmps62
  go_wp2_with (go_at_call 99; refine (rsize_any _ _ ha).mono ?_; rintro e w' ⟨rfl, rfl⟩)
  exact bodyPost_ret (v := .agg #[.bool (ng a), .int .u64 0, .int .u64 (sz a)]) (by simp [results, Try.results62, go_sem]; rfl) rfl ⟨rfl, (Below.refl _ _).alloc (Nat.le_refl _) _⟩
/-- Is one size below another one, word by word? -/
def lsB (xh xl yh yl : Int) : Bool := decide (xh < yh) || (decide (xh = yh) && decide (xl < yl))
theorem sz_lt {x y : Int} : lsB (hi (sz x)) (lo (sz x)) (hi (sz y)) (lo (sz y)) = decide (sz x < sz y) := by
  have := lohi (sz x); have := lohi (sz y); have := lo_bd (sz x); have := lo_bd (sz y)
  unfold lsB
  rw [Bool.eq_iff_iff]
  simp only [Bool.or_eq_true, Bool.and_eq_true, decide_eq_true_eq]
  omega
theorem ret_bool {a b : Bool} (h : a = b) : Ending.returned (.bool a) = .returned (.bool b) := by rw [h]
set_option maxHeartbeats 400000 in
theorem less_raw (p q : Bool) (xh xl yh yl : Int) (w : World) :
    Calls Try.prog 108 #[.agg #[.bool p, .int .u64 xh, .int .u64 xl], .agg #[.bool q, .int .u64 yh, .int .u64 yl]] w fun e w' => e = .returned (.bool (lsB xh xl yh yl)) ∧ w' = (w.alloc (.cells #[.bool p, .int .u64 xh, .int .u64 xl] 121)).alloc (.cells #[.bool q, .int .u64 yh, .int .u64 yl] 121) := by
  unfold lsB
  by_cases h1 : xh < yh
  · go_enter Try.func108, Try.ntmps108
    go_wp2
    go_ret
    exact ⟨ret_bool (by simp [h1]), rfl⟩
  · by_cases h2 : xh = yh
    · subst h2
      go_enter Try.func108, Try.ntmps108
      go_wp2
      go_ret
      exact ⟨ret_bool (by simp), rfl⟩
    · go_enter Try.func108, Try.ntmps108
      go_wp2
      go_ret
      exact ⟨ret_bool (by simp [h2]; omega), rfl⟩
theorem sz_cases (x : Int) : (ng x = true ∧ x < 0 ∧ sz x = -x) ∨ (ng x = false ∧ 0 ≤ x ∧ sz x = x) := by
  by_cases h : x < 0
  · exact .inl ⟨ng_t h, h, sz_neg h⟩
  · exact .inr ⟨ng_f (by omega), by omega, sz_pos (by omega)⟩
theorem sz_minus (x : Int) : sz (-x) = sz x := by unfold sz; split <;> split <;> omega
theorem sz_zero {x : Int} (h1 : hi (sz x) = 0) (h2 : lo (sz x) = 0) : x = 0 := by
  have h := lohi (sz x)
  rcases sz_cases x with ⟨_, _, s⟩ | ⟨_, _, s⟩ <;> rw [h1, h2, s] at h <;> omega
theorem ng_minus1 {x : Int} (h : ¬ x = 0) : ng (-x) = !ng x := by
  unfold ng
  rw [Bool.eq_iff_iff]
  simp only [Bool.not_eq_true', decide_eq_true_eq, decide_eq_false_iff_not]
  omega
theorem bk1 {x : Int} (h1 : hi (sz x) = 0) (h2 : lo (sz x) = 9223372036854775808) (h3 : (!ng x) = true) : ¬ (-9223372036854775808 ≤ x ∧ x ≤ 9223372036854775807) := by
  have h := lohi (sz x)
  rcases sz_cases x with ⟨n, _, s⟩ | ⟨n, _, s⟩
  · rw [n] at h3; cases h3
  · omega
theorem bk2 {x : Int} (h1 : hi (sz x) = 0) (h2 : lo (sz x) = 9223372036854775808) (h3 : (!ng x) = false) : (-9223372036854775808 ≤ x ∧ x ≤ 9223372036854775807) ∧ -9223372036854775808 = x := by
  have h := lohi (sz x)
  rcases sz_cases x with ⟨n, _, s⟩ | ⟨n, _, s⟩
  · omega
  · rw [n] at h3; cases h3
theorem bk3 {x : Int} (h1 : hi (sz x) = 0) (h2 : lo (sz x) ≤ 9223372036854775808) (h4 : ¬ lo (sz x) = 9223372036854775808) (h3 : ng x = true) : (-9223372036854775808 ≤ x ∧ x ≤ 9223372036854775807) ∧ -lo (sz x) = x := by
  have h := lohi (sz x)
  rcases sz_cases x with ⟨n, _, s⟩ | ⟨n, _, s⟩
  · omega
  · rw [n] at h3; cases h3
theorem bk4 {x : Int} (h1 : hi (sz x) = 0) (h2 : lo (sz x) ≤ 9223372036854775808) (h4 : ¬ lo (sz x) = 9223372036854775808) (h3 : ng x = false) : (-9223372036854775808 ≤ x ∧ x ≤ 9223372036854775807) ∧ lo (sz x) = x := by
  have h := lohi (sz x)
  rcases sz_cases x with ⟨n, _, s⟩ | ⟨n, _, s⟩
  · rw [n] at h3; cases h3
  · omega
theorem bk5 {x : Int} (h1 : hi (sz x) = 0) (h2 : 9223372036854775808 < lo (sz x)) : ¬ (-9223372036854775808 ≤ x ∧ x ≤ 9223372036854775807) := by
  have h := lohi (sz x)
  rcases sz_cases x with ⟨n, _, s⟩ | ⟨n, _, s⟩ <;> omega
theorem bk6 {x : Int} (h1 : ¬ hi (sz x) = 0) : ¬ (-9223372036854775808 ≤ x ∧ x ≤ 9223372036854775807) := by
  have h := lohi (sz x); have b := lo_bd (sz x)
  rcases sz_cases x with ⟨n, _, s⟩ | ⟨n, _, s⟩ <;> omega
set_option maxHeartbeats 400000 in
theorem back_any (x : Int) (w : World) :
    Calls Try.prog 92 #[.agg #[.bool (ng x), .int .u64 (hi (sz x)), .int .u64 (lo (sz x))]] w fun e w' => e = .returned (.tuple #[.int .i64 (fitV x), .bool (fitB x)]) ∧ Below w.heap.size w w' := by
  have hb := lo_bd (sz x)
  go_enter Try.func92, Try.ntmps92
  go_wp2
  · go_ret2
    exact ⟨ret_fit_no (bk1 ‹_› ‹_› ‹_›), (Below.refl _ _).alloc (Nat.le_refl _) _⟩
  · go_ret2
    exact ⟨ret_fit_yes (bk2 ‹_› ‹_› ‹_›).1 (bk2 ‹_› ‹_› ‹_›).2, (Below.refl _ _).alloc (Nat.le_refl _) _⟩
  · go_ret2
    exact ⟨ret_fit_yes (bk3 ‹_› ‹_› ‹_› ‹_›).1 (bk3 ‹_› ‹_› ‹_› ‹_›).2, (Below.refl _ _).alloc (Nat.le_refl _) _⟩
  · go_ret2
    exact ⟨ret_fit_yes (bk4 ‹_› ‹_› ‹_› ‹_›).1 (bk4 ‹_› ‹_› ‹_› ‹_›).2, (Below.refl _ _).alloc (Nat.le_refl _) _⟩
  · go_ret2
    exact ⟨ret_fit_no (bk5 ‹_› ‹_›), (Below.refl _ _).alloc (Nat.le_refl _) _⟩
  · go_ret2
    exact ⟨ret_fit_no (bk6 ‹_›), (Below.refl _ _).alloc (Nat.le_refl _) _⟩
set_option maxHeartbeats 1000000 in
theorem order_eq (p : Bool) (xh xl : Int) (w : World) :
    Calls Try.prog 73 #[.agg #[.bool p, .int .u64 xh, .int .u64 xl], .agg #[.bool p, .int .u64 xh, .int .u64 xl]] w fun e w' => e = .returned (.int .i64 0) ∧ Below w.heap.size w w' := by
  go_enter Try.func73, Try.ntmps73
  go_wp2
  go_ret
  exact ⟨rfl, ((Below.refl _ _).alloc (Nat.le_refl _) _).alloc (by simp) _⟩
set_option maxHeartbeats 1000000 in
theorem order_sign (p : Bool) (xh xl yh yl : Int) (w : World) :
    Calls Try.prog 73 #[.agg #[.bool p, .int .u64 xh, .int .u64 xl], .agg #[.bool (!p), .int .u64 yh, .int .u64 yl]] w fun e w' => e = .returned (.int .i64 (if p then -1 else 1)) ∧ Below w.heap.size w w' := by
  cases p
  all_goals
    go_enter Try.func73, Try.ntmps73
    go_wp2
    go_ret
    exact ⟨rfl, ((Below.refl _ _).alloc (Nat.le_refl _) _).alloc (by simp) _⟩
set_option maxHeartbeats 1000000 in
theorem order_hi (p b : Bool) (xh xl yh yl : Int) (w : World) (h : ¬ xh = yh) (hl : (!(lsB xh xl yh yl == p)) = b) :
    Calls Try.prog 73 #[.agg #[.bool p, .int .u64 xh, .int .u64 xl], .agg #[.bool p, .int .u64 yh, .int .u64 yl]] w fun e w' => e = .returned (.int .i64 (if b then -1 else 1)) ∧ Below w.heap.size w w' := by
  cases b
  all_goals
    go_enter Try.func73, Try.ntmps73
    go_wp2
    go_region_held3 (fun w' => w'.cell? ⟨w.heap.size, 0, none⟩ = some (.bool p) ∧ w'.cell? ⟨w.heap.size, 1, none⟩ = some (.int .u64 xh) ∧ w'.cell? ⟨w.heap.size, 2, none⟩ = some (.int .u64 xl) ∧ w'.cell? ⟨w.heap.size + 1, 0, none⟩ = some (.bool p) ∧ w'.cell? ⟨w.heap.size + 1, 1, none⟩ = some (.int .u64 yh) ∧ w'.cell? ⟨w.heap.size + 1, 2, none⟩ = some (.int .u64 yl)) (simp [go_sem, World.cell?_alloc_past])
      ((go_at_call 108; refine (less_raw _ _ _ _ _ _ _).mono ?_; rintro e w' ⟨rfl, rfl⟩))
    go_wp2
    go_ret
    exact ⟨rfl, (((((Below.refl _ _).alloc (Nat.le_refl _) _).alloc (by simp) _).alloc (by simp; omega) _).alloc (by simp; omega) _).drew⟩
set_option maxHeartbeats 1000000 in
theorem order_lo (p b : Bool) (xh xl yl : Int) (w : World) (h : ¬ xl = yl) (hl : (!(lsB xh xl xh yl == p)) = b) :
    Calls Try.prog 73 #[.agg #[.bool p, .int .u64 xh, .int .u64 xl], .agg #[.bool p, .int .u64 xh, .int .u64 yl]] w fun e w' => e = .returned (.int .i64 (if b then -1 else 1)) ∧ Below w.heap.size w w' := by
  cases b
  all_goals
    go_enter Try.func73, Try.ntmps73
    go_wp2
    go_region_held3 (fun w' => w'.cell? ⟨w.heap.size, 0, none⟩ = some (.bool p) ∧ w'.cell? ⟨w.heap.size, 1, none⟩ = some (.int .u64 xh) ∧ w'.cell? ⟨w.heap.size, 2, none⟩ = some (.int .u64 xl) ∧ w'.cell? ⟨w.heap.size + 1, 0, none⟩ = some (.bool p) ∧ w'.cell? ⟨w.heap.size + 1, 1, none⟩ = some (.int .u64 xh) ∧ w'.cell? ⟨w.heap.size + 1, 2, none⟩ = some (.int .u64 yl)) (simp [go_sem, World.cell?_alloc_past])
      ((go_at_call 108; refine (less_raw _ _ _ _ _ _ _).mono ?_; rintro e w' ⟨rfl, rfl⟩))
    go_wp2
    go_ret
    exact ⟨rfl, (((((Below.refl _ _).alloc (Nat.le_refl _) _).alloc (by simp) _).alloc (by simp; omega) _).alloc (by simp; omega) _).drew⟩
theorem sg_lt {x y : Int} (h : x < y) : sg x y = -1 := by unfold sg; rw [if_pos h]
theorem sg_gt {x y : Int} (h : y < x) : sg x y = 1 := by unfold sg; rw [if_neg (by omega), if_pos h]
theorem sg_self (x : Int) : sg x x = 0 := by unfold sg; simp
theorem sg_same {x y : Int} (hn : ng x = ng y) (h : ¬ x = y) : sg x y = if (!(decide (sz x < sz y) == ng y)) then -1 else 1 := by
  rcases sz_cases x with ⟨n, _, s⟩ | ⟨n, _, s⟩ <;> rcases sz_cases y with ⟨m, _, t⟩ | ⟨m, _, t⟩
  · rw [s, t, m]
    by_cases hl : -x < -y
    · rw [sg_gt (by omega), decide_eq_true hl]; rfl
    · rw [sg_lt (by omega), decide_eq_false hl]; rfl
  · rw [n, m] at hn; cases hn
  · rw [n, m] at hn; cases hn
  · rw [s, t, m]
    by_cases hl : x < y
    · rw [sg_lt hl, decide_eq_true hl]; rfl
    · rw [sg_gt (by omega), decide_eq_false hl]; rfl
theorem sz_inj {x y : Int} (hn : ng x = ng y) (h1 : hi (sz x) = hi (sz y)) (h2 : lo (sz x) = lo (sz y)) : x = y := by
  have hx := lohi (sz x); have hy := lohi (sz y)
  rcases sz_cases x with ⟨n, _, s⟩ | ⟨n, _, s⟩ <;> rcases sz_cases y with ⟨m, _, t⟩ | ⟨m, _, t⟩
  · omega
  · rw [n, m] at hn; cases hn
  · rw [n, m] at hn; cases hn
  · omega
theorem order_any (x y : Int) (w : World) :
    Calls Try.prog 73 #[.agg #[.bool (ng x), .int .u64 (hi (sz x)), .int .u64 (lo (sz x))], .agg #[.bool (ng y), .int .u64 (hi (sz y)), .int .u64 (lo (sz y))]] w fun e w' => e = .returned (.int .i64 (sg x y)) ∧ Below w.heap.size w w' := by
  by_cases hxy : x = y
  · subst hxy
    rw [sg_self]
    exact order_eq _ _ _ w
  by_cases hn : ng x = ng y
  · rw [sg_same hn hxy, ← sz_lt, hn]
    by_cases h1 : hi (sz x) = hi (sz y)
    · have h2 : ¬ lo (sz x) = lo (sz y) := fun h2 => hxy (sz_inj hn h1 h2)
      rw [h1]
      exact order_lo _ _ _ _ _ w h2 rfl
    · exact order_hi _ _ _ _ _ _ w h1 rfl
  · have e : ng y = !ng x := by cases h : ng x <;> cases h' : ng y <;> simp_all
    rw [e]
    have e2 : sg x y = if ng x then -1 else 1 := by
      rcases sz_cases x with ⟨n, _, s⟩ | ⟨n, _, s⟩ <;> rcases sz_cases y with ⟨m, _, t⟩ | ⟨m, _, t⟩
      · rw [n, m] at hn; exact absurd rfl hn
      · rw [n, sg_lt (by omega)]; rfl
      · rw [n, sg_gt (by omega)]; rfl
      · rw [n, m] at hn; exact absurd rfl hn
    rw [e2]
    exact order_sign _ _ _ _ _ w

end Go.Proofs.Ytjkkajhjcinalaa.calc

namespace Go.Proofs.Ytjkkajhjcinalaa.calc
open Go.RowKit
set_option linter.unusedVariables false
set_option linter.unusedSimpArgs false
set_option maxRecDepth 100000

set_option maxHeartbeats 1000000 in
theorem plus_same0 (p : Bool) (xh xl yh yl : Int) (w : World) (a1 : 0 ≤ xh) (a2 : 0 ≤ xl) (a3 : 0 ≤ yh) (a4 : 0 ≤ yl) (c1 : xh + yh ≤ 18446744073709551615) (c2 : xl + yl ≤ 18446744073709551615) :
    Calls Try.prog 98 #[.agg #[.bool p, .int .u64 xh, .int .u64 xl], .agg #[.bool p, .int .u64 yh, .int .u64 yl]] w fun e w' => e = .returned (.agg #[.bool p, .int .u64 (xh + yh), .int .u64 (xl + yl)]) ∧ Below w.heap.size w w' := by
  go_enter Try.func98, Try.ntmps98
  go_wp2
  exact bodyPost_ret (v := .agg #[.bool p, .int .u64 (xh + yh), .int .u64 (xl + yl)]) (by simp [results, Try.results98, go_sem]) rfl ⟨rfl, (((((Below.refl _ _).alloc (Nat.le_refl _) _).alloc (by simp) _).alloc (by simp; omega) _).alloc (by simp; omega) _)⟩
set_option maxHeartbeats 1000000 in
theorem plus_same1 (p : Bool) (xh xl yh yl z : Int) (w : World) (a1 : 0 ≤ xh) (a2 : 0 ≤ xl) (a3 : 0 ≤ yh) (a4 : 0 ≤ yl) (c1 : xh + yh + 1 ≤ 18446744073709551615) (hz : IntKind.u64.wrap (xl + yl) = z) (c2 : z < xl) :
    Calls Try.prog 98 #[.agg #[.bool p, .int .u64 xh, .int .u64 xl], .agg #[.bool p, .int .u64 yh, .int .u64 yl]] w fun e w' => e = .returned (.agg #[.bool p, .int .u64 (xh + yh + 1), .int .u64 z]) ∧ Below w.heap.size w w' := by
  go_enter Try.func98, Try.ntmps98
  go_wp2
  exact bodyPost_ret (v := .agg #[.bool p, .int .u64 (xh + yh + 1), .int .u64 z]) (by simp [results, Try.results98, go_sem]) rfl ⟨rfl, (((((Below.refl _ _).alloc (Nat.le_refl _) _).alloc (by simp) _).alloc (by simp; omega) _).alloc (by simp; omega) _)⟩
set_option maxHeartbeats 1000000 in
theorem pd_nb1 (p q : Bool) (xh xl yh yl : Int) (w : World) (hpq : (p == q) = false) (a1 : 0 ≤ xh) (a2 : 0 ≤ xl) (a3 : 0 ≤ yh) (a4 : 0 ≤ yl) (b1 : xh ≤ 18446744073709551615) (b2 : xl ≤ 18446744073709551615) (b3 : yh ≤ 18446744073709551615) (b4 : yl ≤ 18446744073709551615) (hl : lsB xh xl yh yl = false) (c1 : yh ≤ xh) (c2 : yl ≤ xl) (n1 : (xh - yh == 0) = false) :
    Calls Try.prog 98 #[.agg #[.bool p, .int .u64 xh, .int .u64 xl], .agg #[.bool q, .int .u64 yh, .int .u64 yl]] w fun e w' => e = .returned (.agg #[.bool p, .int .u64 (xh - yh), .int .u64 (xl - yl)]) ∧ Below w.heap.size w w' := by
  go_enter Try.func98, Try.ntmps98
  go_wp2_with (go_at_call 108; refine (less_raw _ _ _ _ _ _ _).mono ?_; rintro e w' ⟨rfl, rfl⟩)
  exact bodyPost_ret (v := .agg #[.bool p, .int .u64 (xh - yh), .int .u64 (xl - yl)]) (by simp [results, Try.results98, go_sem]) rfl ⟨rfl, (((((((Below.refl _ _).alloc (Nat.le_refl _) _).alloc (by simp) _).alloc (by simp; omega) _).alloc (by simp; omega) _).alloc (by simp; omega) _).alloc (by simp; omega) _)⟩
set_option maxHeartbeats 1000000 in
theorem pd_nb2 (p q : Bool) (xh xl yh yl : Int) (w : World) (hpq : (p == q) = false) (a1 : 0 ≤ xh) (a2 : 0 ≤ xl) (a3 : 0 ≤ yh) (a4 : 0 ≤ yl) (b1 : xh ≤ 18446744073709551615) (b2 : xl ≤ 18446744073709551615) (b3 : yh ≤ 18446744073709551615) (b4 : yl ≤ 18446744073709551615) (hl : lsB xh xl yh yl = false) (c1 : yh ≤ xh) (c2 : yl ≤ xl) (n1 : (xh - yh == 0) = true) (n2 : (xl - yl == 0) = false) :
    Calls Try.prog 98 #[.agg #[.bool p, .int .u64 xh, .int .u64 xl], .agg #[.bool q, .int .u64 yh, .int .u64 yl]] w fun e w' => e = .returned (.agg #[.bool p, .int .u64 (xh - yh), .int .u64 (xl - yl)]) ∧ Below w.heap.size w w' := by
  go_enter Try.func98, Try.ntmps98
  go_wp2_with (go_at_call 108; refine (less_raw _ _ _ _ _ _ _).mono ?_; rintro e w' ⟨rfl, rfl⟩)
  exact bodyPost_ret (v := .agg #[.bool p, .int .u64 (xh - yh), .int .u64 (xl - yl)]) (by simp [results, Try.results98, go_sem]) rfl ⟨rfl, (((((((Below.refl _ _).alloc (Nat.le_refl _) _).alloc (by simp) _).alloc (by simp; omega) _).alloc (by simp; omega) _).alloc (by simp; omega) _).alloc (by simp; omega) _)⟩
set_option maxHeartbeats 1000000 in
theorem pd_b1 (p q : Bool) (xh xl yh yl z : Int) (w : World) (hpq : (p == q) = false) (a1 : 0 ≤ xh) (a2 : 0 ≤ xl) (a3 : 0 ≤ yh) (a4 : 0 ≤ yl) (b1 : xh ≤ 18446744073709551615) (b2 : xl ≤ 18446744073709551615) (b3 : yh ≤ 18446744073709551615) (b4 : yl ≤ 18446744073709551615) (hl : lsB xh xl yh yl = false) (c1 : yh < xh) (c2 : xl < yl) (hz : IntKind.u64.wrap (xl - yl) = z) (n1 : (xh - yh - 1 == 0) = false) :
    Calls Try.prog 98 #[.agg #[.bool p, .int .u64 xh, .int .u64 xl], .agg #[.bool q, .int .u64 yh, .int .u64 yl]] w fun e w' => e = .returned (.agg #[.bool p, .int .u64 (xh - yh - 1), .int .u64 z]) ∧ Below w.heap.size w w' := by
  go_enter Try.func98, Try.ntmps98
  go_wp2_with (go_at_call 108; refine (less_raw _ _ _ _ _ _ _).mono ?_; rintro e w' ⟨rfl, rfl⟩)
  exact bodyPost_ret (v := .agg #[.bool p, .int .u64 (xh - yh - 1), .int .u64 z]) (by simp [results, Try.results98, go_sem]) rfl ⟨rfl, (((((((Below.refl _ _).alloc (Nat.le_refl _) _).alloc (by simp) _).alloc (by simp; omega) _).alloc (by simp; omega) _).alloc (by simp; omega) _).alloc (by simp; omega) _)⟩
set_option maxHeartbeats 1000000 in
theorem pd_b2 (p q : Bool) (xh xl yh yl z : Int) (w : World) (hpq : (p == q) = false) (a1 : 0 ≤ xh) (a2 : 0 ≤ xl) (a3 : 0 ≤ yh) (a4 : 0 ≤ yl) (b1 : xh ≤ 18446744073709551615) (b2 : xl ≤ 18446744073709551615) (b3 : yh ≤ 18446744073709551615) (b4 : yl ≤ 18446744073709551615) (hl : lsB xh xl yh yl = false) (c1 : yh < xh) (c2 : xl < yl) (hz : IntKind.u64.wrap (xl - yl) = z) (n1 : (xh - yh - 1 == 0) = true) (n2 : (z == 0) = false) :
    Calls Try.prog 98 #[.agg #[.bool p, .int .u64 xh, .int .u64 xl], .agg #[.bool q, .int .u64 yh, .int .u64 yl]] w fun e w' => e = .returned (.agg #[.bool p, .int .u64 (xh - yh - 1), .int .u64 z]) ∧ Below w.heap.size w w' := by
  go_enter Try.func98, Try.ntmps98
  go_wp2_with (go_at_call 108; refine (less_raw _ _ _ _ _ _ _).mono ?_; rintro e w' ⟨rfl, rfl⟩)
  exact bodyPost_ret (v := .agg #[.bool p, .int .u64 (xh - yh - 1), .int .u64 z]) (by simp [results, Try.results98, go_sem]) rfl ⟨rfl, (((((((Below.refl _ _).alloc (Nat.le_refl _) _).alloc (by simp) _).alloc (by simp; omega) _).alloc (by simp; omega) _).alloc (by simp; omega) _).alloc (by simp; omega) _)⟩
set_option maxHeartbeats 1000000 in
theorem ps_nb1 (p q : Bool) (xh xl yh yl : Int) (w : World) (hpq : (p == q) = false) (a1 : 0 ≤ xh) (a2 : 0 ≤ xl) (a3 : 0 ≤ yh) (a4 : 0 ≤ yl) (b1 : xh ≤ 18446744073709551615) (b2 : xl ≤ 18446744073709551615) (b3 : yh ≤ 18446744073709551615) (b4 : yl ≤ 18446744073709551615) (hl : lsB xh xl yh yl = true) (c1 : xh ≤ yh) (c2 : xl ≤ yl) (n1 : (yh - xh == 0) = false) :
    Calls Try.prog 98 #[.agg #[.bool p, .int .u64 xh, .int .u64 xl], .agg #[.bool q, .int .u64 yh, .int .u64 yl]] w fun e w' => e = .returned (.agg #[.bool q, .int .u64 (yh - xh), .int .u64 (yl - xl)]) ∧ Below w.heap.size w w' := by
  go_enter Try.func98, Try.ntmps98
  go_wp2_with (go_at_call 108; refine (less_raw _ _ _ _ _ _ _).mono ?_; rintro e w' ⟨rfl, rfl⟩)
  exact bodyPost_ret (v := .agg #[.bool q, .int .u64 (yh - xh), .int .u64 (yl - xl)]) (by simp [results, Try.results98, go_sem]) rfl ⟨rfl, (((((((Below.refl _ _).alloc (Nat.le_refl _) _).alloc (by simp) _).alloc (by simp; omega) _).alloc (by simp; omega) _).alloc (by simp; omega) _).alloc (by simp; omega) _)⟩
set_option maxHeartbeats 1000000 in
theorem ps_nb2 (p q : Bool) (xh xl yh yl : Int) (w : World) (hpq : (p == q) = false) (a1 : 0 ≤ xh) (a2 : 0 ≤ xl) (a3 : 0 ≤ yh) (a4 : 0 ≤ yl) (b1 : xh ≤ 18446744073709551615) (b2 : xl ≤ 18446744073709551615) (b3 : yh ≤ 18446744073709551615) (b4 : yl ≤ 18446744073709551615) (hl : lsB xh xl yh yl = true) (c1 : xh ≤ yh) (c2 : xl ≤ yl) (n1 : (yh - xh == 0) = true) (n2 : (yl - xl == 0) = false) :
    Calls Try.prog 98 #[.agg #[.bool p, .int .u64 xh, .int .u64 xl], .agg #[.bool q, .int .u64 yh, .int .u64 yl]] w fun e w' => e = .returned (.agg #[.bool q, .int .u64 (yh - xh), .int .u64 (yl - xl)]) ∧ Below w.heap.size w w' := by
  go_enter Try.func98, Try.ntmps98
  go_wp2_with (go_at_call 108; refine (less_raw _ _ _ _ _ _ _).mono ?_; rintro e w' ⟨rfl, rfl⟩)
  exact bodyPost_ret (v := .agg #[.bool q, .int .u64 (yh - xh), .int .u64 (yl - xl)]) (by simp [results, Try.results98, go_sem]) rfl ⟨rfl, (((((((Below.refl _ _).alloc (Nat.le_refl _) _).alloc (by simp) _).alloc (by simp; omega) _).alloc (by simp; omega) _).alloc (by simp; omega) _).alloc (by simp; omega) _)⟩
set_option maxHeartbeats 1000000 in
theorem ps_b1 (p q : Bool) (xh xl yh yl z : Int) (w : World) (hpq : (p == q) = false) (a1 : 0 ≤ xh) (a2 : 0 ≤ xl) (a3 : 0 ≤ yh) (a4 : 0 ≤ yl) (b1 : xh ≤ 18446744073709551615) (b2 : xl ≤ 18446744073709551615) (b3 : yh ≤ 18446744073709551615) (b4 : yl ≤ 18446744073709551615) (hl : lsB xh xl yh yl = true) (c1 : xh < yh) (c2 : yl < xl) (hz : IntKind.u64.wrap (yl - xl) = z) (n1 : (yh - xh - 1 == 0) = false) :
    Calls Try.prog 98 #[.agg #[.bool p, .int .u64 xh, .int .u64 xl], .agg #[.bool q, .int .u64 yh, .int .u64 yl]] w fun e w' => e = .returned (.agg #[.bool q, .int .u64 (yh - xh - 1), .int .u64 z]) ∧ Below w.heap.size w w' := by
  go_enter Try.func98, Try.ntmps98
  go_wp2_with (go_at_call 108; refine (less_raw _ _ _ _ _ _ _).mono ?_; rintro e w' ⟨rfl, rfl⟩)
  exact bodyPost_ret (v := .agg #[.bool q, .int .u64 (yh - xh - 1), .int .u64 z]) (by simp [results, Try.results98, go_sem]) rfl ⟨rfl, (((((((Below.refl _ _).alloc (Nat.le_refl _) _).alloc (by simp) _).alloc (by simp; omega) _).alloc (by simp; omega) _).alloc (by simp; omega) _).alloc (by simp; omega) _)⟩
set_option maxHeartbeats 1000000 in
theorem ps_b2 (p q : Bool) (xh xl yh yl z : Int) (w : World) (hpq : (p == q) = false) (a1 : 0 ≤ xh) (a2 : 0 ≤ xl) (a3 : 0 ≤ yh) (a4 : 0 ≤ yl) (b1 : xh ≤ 18446744073709551615) (b2 : xl ≤ 18446744073709551615) (b3 : yh ≤ 18446744073709551615) (b4 : yl ≤ 18446744073709551615) (hl : lsB xh xl yh yl = true) (c1 : xh < yh) (c2 : yl < xl) (hz : IntKind.u64.wrap (yl - xl) = z) (n1 : (yh - xh - 1 == 0) = true) (n2 : (z == 0) = false) :
    Calls Try.prog 98 #[.agg #[.bool p, .int .u64 xh, .int .u64 xl], .agg #[.bool q, .int .u64 yh, .int .u64 yl]] w fun e w' => e = .returned (.agg #[.bool q, .int .u64 (yh - xh - 1), .int .u64 z]) ∧ Below w.heap.size w w' := by
  go_enter Try.func98, Try.ntmps98
  go_wp2_with (go_at_call 108; refine (less_raw _ _ _ _ _ _ _).mono ?_; rintro e w' ⟨rfl, rfl⟩)
  exact bodyPost_ret (v := .agg #[.bool q, .int .u64 (yh - xh - 1), .int .u64 z]) (by simp [results, Try.results98, go_sem]) rfl ⟨rfl, (((((((Below.refl _ _).alloc (Nat.le_refl _) _).alloc (by simp) _).alloc (by simp; omega) _).alloc (by simp; omega) _).alloc (by simp; omega) _).alloc (by simp; omega) _)⟩
set_option maxHeartbeats 1000000 in
theorem pd_z (p q : Bool) (xh xl : Int) (w : World) (hpq : (p == q) = false) (hl : lsB xh xl xh xl = false) :
    Calls Try.prog 98 #[.agg #[.bool p, .int .u64 xh, .int .u64 xl], .agg #[.bool q, .int .u64 xh, .int .u64 xl]] w fun e w' => e = .returned (.agg #[.bool false, .int .u64 0, .int .u64 0]) ∧ Below w.heap.size w w' := by
  go_enter Try.func98, Try.ntmps98
  go_wp2_with (go_at_call 108; refine (less_raw _ _ _ _ _ _ _).mono ?_; rintro e w' ⟨rfl, rfl⟩)
  exact bodyPost_ret (v := .agg #[.bool false, .int .u64 0, .int .u64 0]) (by simp [results, Try.results98, go_sem]) rfl ⟨rfl, (((((((Below.refl _ _).alloc (Nat.le_refl _) _).alloc (by simp) _).alloc (by simp; omega) _).alloc (by simp; omega) _).alloc (by simp; omega) _).alloc (by simp; omega) _)⟩
theorem add_same {x y : Int} (h : ng x = ng y) : sz (x + y) = sz x + sz y ∧ ng (x + y) = ng x := by
  rcases sz_cases x with ⟨n, _, s⟩ | ⟨n, _, s⟩ <;> rcases sz_cases y with ⟨m, _, t⟩ | ⟨m, _, t⟩
  · exact ⟨by rw [s, t, sz_neg (by omega)]; omega, by rw [n, ng_t (by omega)]⟩
  · rw [n, m] at h; cases h
  · rw [n, m] at h; cases h
  · exact ⟨by rw [s, t, sz_pos (by omega)], by rw [n, ng_f (by omega)]⟩
theorem add_gt {x y : Int} (h : ¬ ng x = ng y) (g : sz y < sz x) : sz (x + y) = sz x - sz y ∧ ng (x + y) = ng x := by
  rcases sz_cases x with ⟨n, _, s⟩ | ⟨n, _, s⟩ <;> rcases sz_cases y with ⟨m, _, t⟩ | ⟨m, _, t⟩
  · rw [n, m] at h; exact absurd rfl h
  · exact ⟨by rw [s, t, sz_neg (by omega)]; omega, by rw [n, ng_t (by omega)]⟩
  · exact ⟨by rw [s, t, sz_pos (by omega)]; omega, by rw [n, ng_f (by omega)]⟩
  · rw [n, m] at h; exact absurd rfl h
theorem sz_nn (x : Int) : 0 ≤ sz x := by rcases sz_cases x with ⟨n, _, s⟩ | ⟨n, _, s⟩ <;> omega
theorem rplus_any (x y : Int) (w : World) (hx : sz x ≤ 85070591730234615865843651857942052864) (hy : sz y ≤ 85070591730234615865843651857942052864) :
    Calls Try.prog 98 #[.agg #[.bool (ng x), .int .u64 (hi (sz x)), .int .u64 (lo (sz x))], .agg #[.bool (ng y), .int .u64 (hi (sz y)), .int .u64 (lo (sz y))]] w fun e w' => e = .returned (.agg #[.bool (ng (x + y)), .int .u64 (hi (sz (x + y))), .int .u64 (lo (sz (x + y)))]) ∧ Below w.heap.size w w' := by
  have nx := sz_nn x
  have ny := sz_nn y
  have X := lohi (sz x); have Y := lohi (sz y)
  obtain ⟨bx1, bx2⟩ := lo_bd (sz x); obtain ⟨by1, by2⟩ := lo_bd (sz y)
  have cx1 : 0 ≤ hi (sz x) := by unfold hi; omega
  have cy1 : 0 ≤ hi (sz y) := by unfold hi; omega
  have cx2 : hi (sz x) ≤ 4611686018427387904 := by unfold hi; omega
  have cy2 : hi (sz y) ≤ 4611686018427387904 := by unfold hi; omega
  by_cases hn : ng x = ng y
  · obtain ⟨e1, e2⟩ := add_same hn
    rw [e1, e2, hn]
    by_cases hc : lo (sz x) + lo (sz y) ≤ 18446744073709551615
    · have f1 : hi (sz x + sz y) = hi (sz x) + hi (sz y) := by unfold hi lo at *; omega
      have f2 : lo (sz x + sz y) = lo (sz x) + lo (sz y) := by unfold hi lo at *; omega
      rw [f1, f2]
      exact plus_same0 _ _ _ _ _ w cx1 bx1 cy1 by1 (by omega) hc
    · have f1 : hi (sz x + sz y) = hi (sz x) + hi (sz y) + 1 := by unfold hi lo at *; omega
      have f2 : lo (sz x + sz y) = lo (sz x) + lo (sz y) - 18446744073709551616 := by unfold hi lo at *; omega
      rw [f1, f2]
      exact plus_same1 _ _ _ _ _ _ w cx1 bx1 cy1 by1 (by omega) (by rw [IntKind.wrap_u64]; omega) (by omega)
  · have hpq : (ng x == ng y) = false := by simpa using hn
    by_cases hlt : sz x < sz y
    · have hl : lsB (hi (sz x)) (lo (sz x)) (hi (sz y)) (lo (sz y)) = true := by rw [sz_lt]; exact decide_eq_true hlt
      obtain ⟨e1, e2⟩ := add_gt (x := y) (y := x) (fun h => hn h.symm) hlt
      rw [Int.add_comm x y, e1, e2]
      by_cases hc : lo (sz x) ≤ lo (sz y)
      · have f1 : hi (sz y - sz x) = hi (sz y) - hi (sz x) := by unfold hi lo at *; omega
        have f2 : lo (sz y - sz x) = lo (sz y) - lo (sz x) := by unfold hi lo at *; omega
        rw [f1, f2]
        by_cases hz : hi (sz y) - hi (sz x) = 0
        · exact ps_nb2 _ _ _ _ _ _ w hpq cx1 bx1 cy1 by1 (by omega) (by omega) (by omega) (by omega) hl (by omega) hc (by simp [hz]) (by simp; omega)
        · exact ps_nb1 _ _ _ _ _ _ w hpq cx1 bx1 cy1 by1 (by omega) (by omega) (by omega) (by omega) hl (by omega) hc (by simp [hz])
      · have f1 : hi (sz y - sz x) = hi (sz y) - hi (sz x) - 1 := by unfold hi lo at *; omega
        have f2 : lo (sz y - sz x) = lo (sz y) - lo (sz x) + 18446744073709551616 := by unfold hi lo at *; omega
        rw [f1, f2]
        by_cases hz : hi (sz y) - hi (sz x) - 1 = 0
        · exact ps_b2 _ _ _ _ _ _ _ w hpq cx1 bx1 cy1 by1 (by omega) (by omega) (by omega) (by omega) hl (by omega) (by omega) (by rw [IntKind.wrap_u64]; omega) (by simp [hz]) (by simp; omega)
        · exact ps_b1 _ _ _ _ _ _ _ w hpq cx1 bx1 cy1 by1 (by omega) (by omega) (by omega) (by omega) hl (by omega) (by omega) (by rw [IntKind.wrap_u64]; omega) (by simp [hz])
    · have hl : lsB (hi (sz x)) (lo (sz x)) (hi (sz y)) (lo (sz y)) = false := by rw [sz_lt]; exact decide_eq_false hlt
      by_cases heq : sz x = sz y
      · have e0 : x + y = 0 := by
          rcases sz_cases x with ⟨n, _, s⟩ | ⟨n, _, s⟩ <;> rcases sz_cases y with ⟨m, _, t⟩ | ⟨m, _, t⟩
          · rw [n, m] at hn; exact absurd rfl hn
          · omega
          · omega
          · rw [n, m] at hn; exact absurd rfl hn
        rw [e0, ← heq]
        rw [← heq] at hl
        exact pd_z _ _ _ _ w hpq hl
      · obtain ⟨e1, e2⟩ := add_gt hn (by omega)
        rw [e1, e2]
        by_cases hc : lo (sz y) ≤ lo (sz x)
        · have f1 : hi (sz x - sz y) = hi (sz x) - hi (sz y) := by unfold hi lo at *; omega
          have f2 : lo (sz x - sz y) = lo (sz x) - lo (sz y) := by unfold hi lo at *; omega
          rw [f1, f2]
          by_cases hz : hi (sz x) - hi (sz y) = 0
          · exact pd_nb2 _ _ _ _ _ _ w hpq cx1 bx1 cy1 by1 (by omega) (by omega) (by omega) (by omega) hl (by omega) hc (by simp [hz]) (by simp; omega)
          · exact pd_nb1 _ _ _ _ _ _ w hpq cx1 bx1 cy1 by1 (by omega) (by omega) (by omega) (by omega) hl (by omega) hc (by simp [hz])
        · have f1 : hi (sz x - sz y) = hi (sz x) - hi (sz y) - 1 := by unfold hi lo at *; omega
          have f2 : lo (sz x - sz y) = lo (sz x) - lo (sz y) + 18446744073709551616 := by unfold hi lo at *; omega
          rw [f1, f2]
          by_cases hz : hi (sz x) - hi (sz y) - 1 = 0
          · exact pd_b2 _ _ _ _ _ _ _ w hpq cx1 bx1 cy1 by1 (by omega) (by omega) (by omega) (by omega) hl (by omega) (by omega) (by rw [IntKind.wrap_u64]; omega) (by simp [hz]) (by simp; omega)
          · exact pd_b1 _ _ _ _ _ _ _ w hpq cx1 bx1 cy1 by1 (by omega) (by omega) (by omega) (by omega) hl (by omega) (by omega) (by rw [IntKind.wrap_u64]; omega) (by simp [hz])

end Go.Proofs.Ytjkkajhjcinalaa.calc

namespace Go.Proofs.Ytjkkajhjcinalaa.calc
open Go.RowKit
set_option linter.unusedVariables false
set_option linter.unusedSimpArgs false
set_option maxRecDepth 100000

set_option maxHeartbeats 1000000 in
theorem times_h (a b P Q R S PR PS QR QS PSl QRl QSl M H L : Int) (s : Bool) (w : World) (ha : I64 a) (hb : I64 b) (hs : (!(decide (a < 0) == decide (b < 0))) = s)
    (hP : sz a / 4294967296 = P) (hQ : bits .and .u64 (sz a) 4294967295 = Q) (hR : sz b / 4294967296 = R) (hS : bits .and .u64 (sz b) 4294967295 = S)
    (hPR : IntKind.u64.wrap (P * R) = PR) (hPS : IntKind.u64.wrap (P * S) = PS) (hQR : IntKind.u64.wrap (Q * R) = QR) (hQS : IntKind.u64.wrap (Q * S) = QS)
    (hPSl : bits .and .u64 PS 4294967295 = PSl) (hQRl : bits .and .u64 QR 4294967295 = QRl) (hQSl : bits .and .u64 QS 4294967295 = QSl)
    (b1 : 0 ≤ PR) (b2 : PR ≤ 4611686018427387904) (b3 : 0 ≤ PS) (b4 : PS ≤ 18446744065119617025) (b5 : 0 ≤ QR) (b6 : QR ≤ 18446744065119617025) (b7 : 0 ≤ QS) (b8 : QS ≤ 18446744065119617025)
    (b9 : 0 ≤ PSl) (b10 : PSl ≤ 4294967295) (b11 : 0 ≤ QRl) (b12 : QRl ≤ 4294967295) (b13 : 0 ≤ QSl) (b14 : QSl ≤ 4294967295)
    (hM : QS / 4294967296 + PSl + QRl = M) (m1 : 0 ≤ M) (m2 : M ≤ 12884901886) (hH : PR + PS / 4294967296 + QR / 4294967296 + M / 4294967296 = H) (hL : bits .or .u64 (IntKind.u64.wrap (M * 4294967296)) QSl = L) (n1 : (H == 0) = false) :
    Calls Try.prog 74 #[.int .i64 a, .int .i64 b] w fun e w' => e = .returned (.agg #[.bool s, .int .u64 H, .int .u64 L]) ∧ Below w.heap.size w w' := by
  go_enter Try.func74, Try.ntmps74
  go_wp2_with (go_at_call 99; refine (rsize_any _ _ (by assumption)).mono ?_; rintro e w' ⟨rfl, rfl⟩)
  exact bodyPost_ret (v := .agg #[.bool s, .int .u64 H, .int .u64 L]) (by simp [results, Try.results74, go_sem]) rfl ⟨rfl, ((Below.refl _ _).alloc (Nat.le_refl _) _).alloc (by simp) _⟩
set_option maxHeartbeats 1000000 in
theorem times_l (a b P Q R S PR PS QR QS PSl QRl QSl M H L : Int) (s : Bool) (w : World) (ha : I64 a) (hb : I64 b) (hs : (!(decide (a < 0) == decide (b < 0))) = s)
    (hP : sz a / 4294967296 = P) (hQ : bits .and .u64 (sz a) 4294967295 = Q) (hR : sz b / 4294967296 = R) (hS : bits .and .u64 (sz b) 4294967295 = S)
    (hPR : IntKind.u64.wrap (P * R) = PR) (hPS : IntKind.u64.wrap (P * S) = PS) (hQR : IntKind.u64.wrap (Q * R) = QR) (hQS : IntKind.u64.wrap (Q * S) = QS)
    (hPSl : bits .and .u64 PS 4294967295 = PSl) (hQRl : bits .and .u64 QR 4294967295 = QRl) (hQSl : bits .and .u64 QS 4294967295 = QSl)
    (b1 : 0 ≤ PR) (b2 : PR ≤ 4611686018427387904) (b3 : 0 ≤ PS) (b4 : PS ≤ 18446744065119617025) (b5 : 0 ≤ QR) (b6 : QR ≤ 18446744065119617025) (b7 : 0 ≤ QS) (b8 : QS ≤ 18446744065119617025)
    (b9 : 0 ≤ PSl) (b10 : PSl ≤ 4294967295) (b11 : 0 ≤ QRl) (b12 : QRl ≤ 4294967295) (b13 : 0 ≤ QSl) (b14 : QSl ≤ 4294967295)
    (hM : QS / 4294967296 + PSl + QRl = M) (m1 : 0 ≤ M) (m2 : M ≤ 12884901886) (hH : PR + PS / 4294967296 + QR / 4294967296 + M / 4294967296 = H) (hL : bits .or .u64 (IntKind.u64.wrap (M * 4294967296)) QSl = L) (n1 : (H == 0) = true) (n2 : (L == 0) = false) :
    Calls Try.prog 74 #[.int .i64 a, .int .i64 b] w fun e w' => e = .returned (.agg #[.bool s, .int .u64 H, .int .u64 L]) ∧ Below w.heap.size w w' := by
  go_enter Try.func74, Try.ntmps74
  go_wp2_with (go_at_call 99; refine (rsize_any _ _ (by assumption)).mono ?_; rintro e w' ⟨rfl, rfl⟩)
  exact bodyPost_ret (v := .agg #[.bool s, .int .u64 H, .int .u64 L]) (by simp [results, Try.results74, go_sem]) rfl ⟨rfl, ((Below.refl _ _).alloc (Nat.le_refl _) _).alloc (by simp) _⟩
set_option maxHeartbeats 1000000 in
theorem times_z (a b P Q R S PR PS QR QS PSl QRl QSl M H L : Int) (s : Bool) (w : World) (ha : I64 a) (hb : I64 b) (hs : (!(decide (a < 0) == decide (b < 0))) = s)
    (hP : sz a / 4294967296 = P) (hQ : bits .and .u64 (sz a) 4294967295 = Q) (hR : sz b / 4294967296 = R) (hS : bits .and .u64 (sz b) 4294967295 = S)
    (hPR : IntKind.u64.wrap (P * R) = PR) (hPS : IntKind.u64.wrap (P * S) = PS) (hQR : IntKind.u64.wrap (Q * R) = QR) (hQS : IntKind.u64.wrap (Q * S) = QS)
    (hPSl : bits .and .u64 PS 4294967295 = PSl) (hQRl : bits .and .u64 QR 4294967295 = QRl) (hQSl : bits .and .u64 QS 4294967295 = QSl)
    (b1 : 0 ≤ PR) (b2 : PR ≤ 4611686018427387904) (b3 : 0 ≤ PS) (b4 : PS ≤ 18446744065119617025) (b5 : 0 ≤ QR) (b6 : QR ≤ 18446744065119617025) (b7 : 0 ≤ QS) (b8 : QS ≤ 18446744065119617025)
    (b9 : 0 ≤ PSl) (b10 : PSl ≤ 4294967295) (b11 : 0 ≤ QRl) (b12 : QRl ≤ 4294967295) (b13 : 0 ≤ QSl) (b14 : QSl ≤ 4294967295)
    (hM : QS / 4294967296 + PSl + QRl = M) (m1 : 0 ≤ M) (m2 : M ≤ 12884901886) (hH : PR + PS / 4294967296 + QR / 4294967296 + M / 4294967296 = H) (hL : bits .or .u64 (IntKind.u64.wrap (M * 4294967296)) QSl = L) (n1 : (H == 0) = true) (n2 : (L == 0) = true) :
    Calls Try.prog 74 #[.int .i64 a, .int .i64 b] w fun e w' => e = .returned (.agg #[.bool false, .int .u64 H, .int .u64 L]) ∧ Below w.heap.size w w' := by
  go_enter Try.func74, Try.ntmps74
  go_wp2_with (go_at_call 99; refine (rsize_any _ _ (by assumption)).mono ?_; rintro e w' ⟨rfl, rfl⟩)
  exact bodyPost_ret (v := .agg #[.bool false, .int .u64 H, .int .u64 L]) (by simp [results, Try.results74, go_sem]) rfl ⟨rfl, ((Below.refl _ _).alloc (Nat.le_refl _) _).alloc (by simp) _⟩
theorem orI (m q : Int) (h0 : 0 ≤ m) (h1 : 0 ≤ q) (h2 : q < 4294967296) : bits .or .u64 (IntKind.u64.wrap (m * 4294967296)) q = (m * 4294967296) % 18446744073709551616 + q := by
  obtain ⟨m, rfl⟩ := Int.eq_ofNat_of_zero_le h0
  obtain ⟨q, rfl⟩ := Int.eq_ofNat_of_zero_le h1
  have e1 : IntKind.u64.wrap ((m : Int) * 4294967296) = (((m % 4294967296) * 4294967296 : Nat) : Int) := by rw [IntKind.wrap_u64]; omega
  have e2 : (m % 4294967296) * 4294967296 ||| q = (m % 4294967296) * 4294967296 + q := by
    have h := Nat.shiftLeft_add_eq_or_of_lt (b := q) (i := 32) (by omega) (m % 4294967296)
    rw [Nat.shiftLeft_eq] at h
    exact h.symm
  rw [e1, bits_or_u64_nat _ _ (by omega) (by omega), e2]
  omega
theorem sz_mul (a b : Int) : sz (a * b) = sz a * sz b := by
  rcases sz_cases a with ⟨_, h, s⟩ | ⟨_, h, s⟩ <;> rcases sz_cases b with ⟨_, g, t⟩ | ⟨_, g, t⟩ <;> rw [s, t]
  · rw [Int.neg_mul_neg, sz_pos (Int.le_of_lt (Int.mul_pos_of_neg_of_neg h g))]
  · rw [Int.neg_mul]
    have := Int.mul_nonneg (Int.le_of_lt (Int.neg_pos_of_neg h)) g
    rw [Int.neg_mul] at this
    by_cases z : a * b < 0
    · rw [sz_neg z]
    · have : a * b = 0 := by omega
      rw [this]; rfl
  · rw [Int.mul_neg]
    have := Int.mul_nonneg h (Int.le_of_lt (Int.neg_pos_of_neg g))
    rw [Int.mul_neg] at this
    by_cases z : a * b < 0
    · rw [sz_neg z]
    · have : a * b = 0 := by omega
      rw [this]; rfl
  · rw [sz_pos (Int.mul_nonneg h g)]
theorem ng_mul {a b : Int} (h : ¬ a * b = 0) : ng (a * b) = !(decide (a < 0) == decide (b < 0)) := by
  by_cases ca : a < 0 <;> by_cases cb : b < 0
  · rw [decide_eq_true ca, decide_eq_true cb, ng_f (Int.le_of_lt (Int.mul_pos_of_neg_of_neg ca cb))]; rfl
  · rw [decide_eq_true ca, decide_eq_false cb]
    have hb : 0 < b := by
      rcases Int.lt_or_le 0 b with h' | h'
      · exact h'
      · exfalso; have : b = 0 := by omega
        rw [this, Int.mul_zero] at h; exact h rfl
    rw [ng_t (Int.mul_neg_of_neg_of_pos ca hb)]; rfl
  · rw [decide_eq_false ca, decide_eq_true cb]
    have ha : 0 < a := by
      rcases Int.lt_or_le 0 a with h' | h'
      · exact h'
      · exfalso; have : a = 0 := by omega
        rw [this, Int.zero_mul] at h; exact h rfl
    rw [ng_t (Int.mul_neg_of_pos_of_neg ha cb)]; rfl
  · rw [decide_eq_false ca, decide_eq_false cb, ng_f (Int.mul_nonneg (by omega) (by omega))]; rfl
theorem times_any (a b : Int) (w : World) (ha : I64 a) (hb : I64 b) :
    Calls Try.prog 74 #[.int .i64 a, .int .i64 b] w fun e w' => e = .returned (.agg #[.bool (ng (a * b)), .int .u64 (hi (sz (a * b))), .int .u64 (lo (sz (a * b)))]) ∧ Below w.heap.size w w' := by
  obtain ⟨x1, x2⟩ := sz_bd ha
  obtain ⟨y1, y2⟩ := sz_bd hb
  have hT := mulsplit (sz a) (sz b) x1 y1
  rw [← sz_mul] at hT
  obtain ⟨u1, u2⟩ := half_bd (p := sz a / 4294967296) (q := sz b / 4294967296) (B := 2147483648) (C := 2147483648) (by omega) (by omega) (by omega) (by omega)
  obtain ⟨u3, u4⟩ := half_bd (p := sz a / 4294967296) (q := sz b % 4294967296) (B := 4294967295) (C := 4294967295) (by omega) (by omega) (by omega) (by omega)
  obtain ⟨u5, u6⟩ := half_bd (p := sz a % 4294967296) (q := sz b / 4294967296) (B := 4294967295) (C := 4294967295) (by omega) (by omega) (by omega) (by omega)
  obtain ⟨u7, u8⟩ := half_bd (p := sz a % 4294967296) (q := sz b % 4294967296) (B := 4294967295) (C := 4294967295) (by omega) (by omega) (by omega) (by omega)
  obtain ⟨PR, hPR⟩ : ∃ z, sz a / 4294967296 * (sz b / 4294967296) = z := ⟨_, rfl⟩
  obtain ⟨PS, hPS⟩ : ∃ z, sz a / 4294967296 * (sz b % 4294967296) = z := ⟨_, rfl⟩
  obtain ⟨QR, hQR⟩ : ∃ z, sz a % 4294967296 * (sz b / 4294967296) = z := ⟨_, rfl⟩
  obtain ⟨QS, hQS⟩ : ∃ z, sz a % 4294967296 * (sz b % 4294967296) = z := ⟨_, rfl⟩
  rw [hPR] at u1 u2 hT
  rw [hPS] at u3 u4 hT
  rw [hQR] at u5 u6 hT
  rw [hQS] at u7 u8 hT
  have eH : hi (sz (a * b)) = PR + PS / 4294967296 + QR / 4294967296 + (QS / 4294967296 + PS % 4294967296 + QR % 4294967296) / 4294967296 := by unfold hi; omega
  have eL : lo (sz (a * b)) = ((QS / 4294967296 + PS % 4294967296 + QR % 4294967296) * 4294967296) % 18446744073709551616 + QS % 4294967296 := by unfold lo; omega
  have W : ∀ z : Int, 0 ≤ z → z < 18446744073709551616 → IntKind.u64.wrap z = z := by intro z h1 h2; rw [IntKind.wrap_u64]; omega
  have hz : hi (sz (a * b)) = 0 → lo (sz (a * b)) = 0 → a * b = 0 := fun h1 h2 => sz_zero h1 h2
  have hnz1 : ¬ hi (sz (a * b)) = 0 → ¬ a * b = 0 := by intro h h'; rw [h'] at h; exact h rfl
  have hnz2 : ¬ lo (sz (a * b)) = 0 → ¬ a * b = 0 := by intro h h'; rw [h'] at h; exact h rfl
  by_cases n1 : hi (sz (a * b)) = 0
  · by_cases n2 : lo (sz (a * b)) = 0
    · rw [show ng (a * b) = false from by rw [hz n1 n2]; rfl]
      exact times_z a b _ _ _ _ _ _ _ _ _ _ _ _ _ _ _ w ha hb rfl rfl (maskI _ x1 (by omega)) rfl (maskI _ y1 (by omega)) (by rw [hPR]; exact W _ u1 (by omega)) (by rw [hPS]; exact W _ u3 (by omega)) (by rw [hQR]; exact W _ u5 (by omega)) (by rw [hQS]; exact W _ u7 (by omega)) (maskI _ u3 (by omega)) (maskI _ u5 (by omega)) (maskI _ u7 (by omega)) u1 (by omega) u3 (by omega) u5 (by omega) u7 (by omega) (by omega) (by omega) (by omega) (by omega) (by omega) (by omega) rfl (by omega) (by omega) eH.symm ((orI _ _ (by omega) (by omega) (by omega)).trans eL.symm) (by simp [n1]) (by simp [n2])
    · rw [ng_mul (hnz2 n2)]
      exact times_l a b _ _ _ _ _ _ _ _ _ _ _ _ _ _ _ w ha hb rfl rfl (maskI _ x1 (by omega)) rfl (maskI _ y1 (by omega)) (by rw [hPR]; exact W _ u1 (by omega)) (by rw [hPS]; exact W _ u3 (by omega)) (by rw [hQR]; exact W _ u5 (by omega)) (by rw [hQS]; exact W _ u7 (by omega)) (maskI _ u3 (by omega)) (maskI _ u5 (by omega)) (maskI _ u7 (by omega)) u1 (by omega) u3 (by omega) u5 (by omega) u7 (by omega) (by omega) (by omega) (by omega) (by omega) (by omega) (by omega) rfl (by omega) (by omega) eH.symm ((orI _ _ (by omega) (by omega) (by omega)).trans eL.symm) (by simp [n1]) (by simp [n2])
  · rw [ng_mul (hnz1 n1)]
    exact times_h a b _ _ _ _ _ _ _ _ _ _ _ _ _ _ _ w ha hb rfl rfl (maskI _ x1 (by omega)) rfl (maskI _ y1 (by omega)) (by rw [hPR]; exact W _ u1 (by omega)) (by rw [hPS]; exact W _ u3 (by omega)) (by rw [hQR]; exact W _ u5 (by omega)) (by rw [hQS]; exact W _ u7 (by omega)) (maskI _ u3 (by omega)) (maskI _ u5 (by omega)) (maskI _ u7 (by omega)) u1 (by omega) u3 (by omega) u5 (by omega) u7 (by omega) (by omega) (by omega) (by omega) (by omega) (by omega) (by omega) rfl (by omega) (by omega) eH.symm ((orI _ _ (by omega) (by omega) (by omega)).trans eL.symm) (by simp [n1])

end Go.Proofs.Ytjkkajhjcinalaa.calc

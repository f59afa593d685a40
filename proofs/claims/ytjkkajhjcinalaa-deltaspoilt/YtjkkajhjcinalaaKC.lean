/-
  The wide numbers of the document.
  Conditions: as each theorem states them.
-/
import Derived.Test.YtjkkajhjcinalaaKB
import Derived.Deep.RegionHeld3
namespace Go.Proofs.Ytjkkajhjcinalaa.calc
open Go.RowKit
set_option linter.unusedVariables false
set_option linter.unusedSimpArgs false
set_option maxRecDepth 100000

/-- Is a number below 0? -/
def ng (x : Int) : Bool := decide (x < 0)
/-- A whole number as the document's own wide one: its sign, its size. -/
def wv (x : Int) : Value := .agg #[.bool (ng x), .int .u64 (hi (sz x)), .int .u64 (lo (sz x))]
theorem ng_t {x : Int} (h : x < 0) : ng x = true := decide_eq_true h
theorem ng_f {x : Int} (h : 0 ≤ x) : ng x = false := decide_eq_false (by omega)
set_option maxHeartbeats 400000 in
theorem of_any (a : Int) (w : World) (ha : I64 a) :
    Calls Try.prog 62 #[.int .i64 a] w fun e w' => e = .returned (.agg #[.bool (ng a), .int .u64 (hi (sz a)), .int .u64 (lo (sz a))]) ∧ Below w.heap.size w w' := by
  obtain ⟨s1, s2⟩ := sz_bd ha
  have e1 : hi (sz a) = 0 := by unfold hi; omega
  have e2 : lo (sz a) = sz a := by unfold lo; omega
  rw [e1, e2]
  clear e1 e2
  go_enter Try.func62, Try.ntmps62
  go_wp2_with (go_at_call 99; refine (rsize_any _ _ ha).mono ?_; rintro e w' ⟨rfl, rfl⟩)
  exact bodyPost_ret (v := .agg #[.bool (ng a), .int .u64 0, .int .u64 (sz a)]) (by simp [results, Try.results62, go_sem]; rfl) rfl ⟨rfl, (Below.refl _ _).alloc (Nat.le_refl _) _⟩
/-- Is one size below another one, word by word? -/
def lsB (xh xl yh yl : Int) : Bool := decide (xh < yh) || (decide (xh = yh) && decide (xl < yl))
theorem sz_lt {x y : Int} : lsB (hi (sz x)) (lo (sz x)) (hi (sz y)) (lo (sz y)) = decide (sz x < sz y) := by
  have := lohi (sz x); have := lohi (sz y); have := lo_bd (sz x); have := lo_bd (sz y)
  unfold lsB
  rw [Bool.eq_iff_iff]
  simp only [Bool.or_eq_true, Bool.and_eq_true, decide_eq_true_eq]
  omega
theorem ret_bool {a b : Bool} (h : a = b) : Ending.returned (.bool a) = .returned (.bool b) := by rw [h]
set_option maxHeartbeats 400000 in
theorem less_raw (p q : Bool) (xh xl yh yl : Int) (w : World) :
    Calls Try.prog 108 #[.agg #[.bool p, .int .u64 xh, .int .u64 xl], .agg #[.bool q, .int .u64 yh, .int .u64 yl]] w fun e w' => e = .returned (.bool (lsB xh xl yh yl)) ∧ w' = (w.alloc (.cells #[.bool p, .int .u64 xh, .int .u64 xl] 121)).alloc (.cells #[.bool q, .int .u64 yh, .int .u64 yl] 121) := by
  unfold lsB
  by_cases h1 : xh < yh
  · go_enter Try.func108, Try.ntmps108
    go_wp2
    go_ret
    exact ⟨ret_bool (by simp [h1]), rfl⟩
  · by_cases h2 : xh = yh
    · subst h2
      go_enter Try.func108, Try.ntmps108
      go_wp2
      go_ret
      exact ⟨ret_bool (by simp), rfl⟩
    · go_enter Try.func108, Try.ntmps108
      go_wp2
      go_ret
      exact ⟨ret_bool (by simp [h2]; omega), rfl⟩
theorem sz_cases (x : Int) : (ng x = true ∧ x < 0 ∧ sz x = -x) ∨ (ng x = false ∧ 0 ≤ x ∧ sz x = x) := by
  by_cases h : x < 0
  · exact .inl ⟨ng_t h, h, sz_neg h⟩
  · exact .inr ⟨ng_f (by omega), by omega, sz_pos (by omega)⟩
theorem sz_minus (x : Int) : sz (-x) = sz x := by unfold sz; split <;> split <;> omega
theorem sz_zero {x : Int} (h1 : hi (sz x) = 0) (h2 : lo (sz x) = 0) : x = 0 := by
  have h := lohi (sz x)
  rcases sz_cases x with ⟨_, _, s⟩ | ⟨_, _, s⟩ <;> rw [h1, h2, s] at h <;> omega
theorem ng_minus1 {x : Int} (h : ¬ x = 0) : ng (-x) = !ng x := by
  unfold ng
  rw [Bool.eq_iff_iff]
  simp only [Bool.not_eq_true', decide_eq_true_eq, decide_eq_false_iff_not]
  omega
theorem bk1 {x : Int} (h1 : hi (sz x) = 0) (h2 : lo (sz x) = 9223372036854775808) (h3 : (!ng x) = true) : ¬ (-9223372036854775808 ≤ x ∧ x ≤ 9223372036854775807) := by
  have h := lohi (sz x)
  rcases sz_cases x with ⟨n, _, s⟩ | ⟨n, _, s⟩
  · rw [n] at h3; cases h3
  · omega
theorem bk2 {x : Int} (h1 : hi (sz x) = 0) (h2 : lo (sz x) = 9223372036854775808) (h3 : (!ng x) = false) : (-9223372036854775808 ≤ x ∧ x ≤ 9223372036854775807) ∧ -9223372036854775808 = x := by
  have h := lohi (sz x)
  rcases sz_cases x with ⟨n, _, s⟩ | ⟨n, _, s⟩
  · omega
  · rw [n] at h3; cases h3
theorem bk3 {x : Int} (h1 : hi (sz x) = 0) (h2 : lo (sz x) ≤ 9223372036854775808) (h4 : ¬ lo (sz x) = 9223372036854775808) (h3 : ng x = true) : (-9223372036854775808 ≤ x ∧ x ≤ 9223372036854775807) ∧ -lo (sz x) = x := by
  have h := lohi (sz x)
  rcases sz_cases x with ⟨n, _, s⟩ | ⟨n, _, s⟩
  · omega
  · rw [n] at h3; cases h3
theorem bk4 {x : Int} (h1 : hi (sz x) = 0) (h2 : lo (sz x) ≤ 9223372036854775808) (h4 : ¬ lo (sz x) = 9223372036854775808) (h3 : ng x = false) : (-9223372036854775808 ≤ x ∧ x ≤ 9223372036854775807) ∧ lo (sz x) = x := by
  have h := lohi (sz x)
  rcases sz_cases x with ⟨n, _, s⟩ | ⟨n, _, s⟩
  · rw [n] at h3; cases h3
  · omega
theorem bk5 {x : Int} (h1 : hi (sz x) = 0) (h2 : 9223372036854775808 < lo (sz x)) : ¬ (-9223372036854775808 ≤ x ∧ x ≤ 9223372036854775807) := by
  have h := lohi (sz x)
  rcases sz_cases x with ⟨n, _, s⟩ | ⟨n, _, s⟩ <;> omega
theorem bk6 {x : Int} (h1 : ¬ hi (sz x) = 0) : ¬ (-9223372036854775808 ≤ x ∧ x ≤ 9223372036854775807) := by
  have h := lohi (sz x); have b := lo_bd (sz x)
  rcases sz_cases x with ⟨n, _, s⟩ | ⟨n, _, s⟩ <;> omega
set_option maxHeartbeats 400000 in
theorem back_any (x : Int) (w : World) :
    Calls Try.prog 92 #[.agg #[.bool (ng x), .int .u64 (hi (sz x)), .int .u64 (lo (sz x))]] w fun e w' => e = .returned (.tuple #[.int .i64 (fitV x), .bool (fitB x)]) ∧ Below w.heap.size w w' := by
  have hb := lo_bd (sz x)
  go_enter Try.func92, Try.ntmps92
  go_wp2
  · go_ret2
    exact ⟨ret_fit_no (bk1 ‹_› ‹_› ‹_›), (Below.refl _ _).alloc (Nat.le_refl _) _⟩
  · go_ret2
    exact ⟨ret_fit_yes (bk2 ‹_› ‹_› ‹_›).1 (bk2 ‹_› ‹_› ‹_›).2, (Below.refl _ _).alloc (Nat.le_refl _) _⟩
  · go_ret2
    exact ⟨ret_fit_yes (bk3 ‹_› ‹_› ‹_› ‹_›).1 (bk3 ‹_› ‹_› ‹_› ‹_›).2, (Below.refl _ _).alloc (Nat.le_refl _) _⟩
  · go_ret2
    exact ⟨ret_fit_yes (bk4 ‹_› ‹_› ‹_› ‹_›).1 (bk4 ‹_› ‹_› ‹_› ‹_›).2, (Below.refl _ _).alloc (Nat.le_refl _) _⟩
  · go_ret2
    exact ⟨ret_fit_no (bk5 ‹_› ‹_›), (Below.refl _ _).alloc (Nat.le_refl _) _⟩
  · go_ret2
    exact ⟨ret_fit_no (bk6 ‹_›), (Below.refl _ _).alloc (Nat.le_refl _) _⟩
set_option maxHeartbeats 1000000 in
theorem order_eq (p : Bool) (xh xl : Int) (w : World) :
    Calls Try.prog 73 #[.agg #[.bool p, .int .u64 xh, .int .u64 xl], .agg #[.bool p, .int .u64 xh, .int .u64 xl]] w fun e w' => e = .returned (.int .i64 0) ∧ Below w.heap.size w w' := by
  go_enter Try.func73, Try.ntmps73
  go_wp2
  go_ret
  exact ⟨rfl, ((Below.refl _ _).alloc (Nat.le_refl _) _).alloc (by simp) _⟩
set_option maxHeartbeats 1000000 in
theorem order_sign (p : Bool) (xh xl yh yl : Int) (w : World) :
    Calls Try.prog 73 #[.agg #[.bool p, .int .u64 xh, .int .u64 xl], .agg #[.bool (!p), .int .u64 yh, .int .u64 yl]] w fun e w' => e = .returned (.int .i64 (if p then -1 else 1)) ∧ Below w.heap.size w w' := by
  cases p
  all_goals
    go_enter Try.func73, Try.ntmps73
    go_wp2
    go_ret
    exact ⟨rfl, ((Below.refl _ _).alloc (Nat.le_refl _) _).alloc (by simp) _⟩
set_option maxHeartbeats 1000000 in
theorem order_hi (p b : Bool) (xh xl yh yl : Int) (w : World) (h : ¬ xh = yh) (hl : (!(lsB xh xl yh yl == p)) = b) :
    Calls Try.prog 73 #[.agg #[.bool p, .int .u64 xh, .int .u64 xl], .agg #[.bool p, .int .u64 yh, .int .u64 yl]] w fun e w' => e = .returned (.int .i64 (if b then -1 else 1)) ∧ Below w.heap.size w w' := by
  cases b
  all_goals
    go_enter Try.func73, Try.ntmps73
    go_wp2
    go_region_held3 (fun w' => w'.cell? ⟨w.heap.size, 0, none⟩ = some (.bool p) ∧ w'.cell? ⟨w.heap.size, 1, none⟩ = some (.int .u64 xh) ∧ w'.cell? ⟨w.heap.size, 2, none⟩ = some (.int .u64 xl) ∧ w'.cell? ⟨w.heap.size + 1, 0, none⟩ = some (.bool p) ∧ w'.cell? ⟨w.heap.size + 1, 1, none⟩ = some (.int .u64 yh) ∧ w'.cell? ⟨w.heap.size + 1, 2, none⟩ = some (.int .u64 yl)) (simp [go_sem, World.cell?_alloc_past])
      ((go_at_call 108; refine (less_raw _ _ _ _ _ _ _).mono ?_; rintro e w' ⟨rfl, rfl⟩))
    go_wp2
    go_ret
    exact ⟨rfl, (((((Below.refl _ _).alloc (Nat.le_refl _) _).alloc (by simp) _).alloc (by simp; omega) _).alloc (by simp; omega) _).drew⟩
set_option maxHeartbeats 1000000 in
theorem order_lo (p b : Bool) (xh xl yl : Int) (w : World) (h : ¬ xl = yl) (hl : (!(lsB xh xl xh yl == p)) = b) :
    Calls Try.prog 73 #[.agg #[.bool p, .int .u64 xh, .int .u64 xl], .agg #[.bool p, .int .u64 xh, .int .u64 yl]] w fun e w' => e = .returned (.int .i64 (if b then -1 else 1)) ∧ Below w.heap.size w w' := by
  cases b
  all_goals
    go_enter Try.func73, Try.ntmps73
    go_wp2
    go_region_held3 (fun w' => w'.cell? ⟨w.heap.size, 0, none⟩ = some (.bool p) ∧ w'.cell? ⟨w.heap.size, 1, none⟩ = some (.int .u64 xh) ∧ w'.cell? ⟨w.heap.size, 2, none⟩ = some (.int .u64 xl) ∧ w'.cell? ⟨w.heap.size + 1, 0, none⟩ = some (.bool p) ∧ w'.cell? ⟨w.heap.size + 1, 1, none⟩ = some (.int .u64 xh) ∧ w'.cell? ⟨w.heap.size + 1, 2, none⟩ = some (.int .u64 yl)) (simp [go_sem, World.cell?_alloc_past])
      ((go_at_call 108; refine (less_raw _ _ _ _ _ _ _).mono ?_; rintro e w' ⟨rfl, rfl⟩))
    go_wp2
    go_ret
    exact ⟨rfl, (((((Below.refl _ _).alloc (Nat.le_refl _) _).alloc (by simp) _).alloc (by simp; omega) _).alloc (by simp; omega) _).drew⟩
theorem sg_lt {x y : Int} (h : x < y) : sg x y = -1 := by unfold sg; rw [if_pos h]
theorem sg_gt {x y : Int} (h : y < x) : sg x y = 1 := by unfold sg; rw [if_neg (by omega), if_pos h]
theorem sg_self (x : Int) : sg x x = 0 := by unfold sg; simp
theorem sg_same {x y : Int} (hn : ng x = ng y) (h : ¬ x = y) : sg x y = if (!(decide (sz x < sz y) == ng y)) then -1 else 1 := by
  rcases sz_cases x with ⟨n, _, s⟩ | ⟨n, _, s⟩ <;> rcases sz_cases y with ⟨m, _, t⟩ | ⟨m, _, t⟩
  · rw [s, t, m]
    by_cases hl : -x < -y
    · rw [sg_gt (by omega), decide_eq_true hl]; rfl
    · rw [sg_lt (by omega), decide_eq_false hl]; rfl
  · rw [n, m] at hn; cases hn
  · rw [n, m] at hn; cases hn
  · rw [s, t, m]
    by_cases hl : x < y
    · rw [sg_lt hl, decide_eq_true hl]; rfl
    · rw [sg_gt (by omega), decide_eq_false hl]; rfl
theorem sz_inj {x y : Int} (hn : ng x = ng y) (h1 : hi (sz x) = hi (sz y)) (h2 : lo (sz x) = lo (sz y)) : x = y := by
  have hx := lohi (sz x); have hy := lohi (sz y)
  rcases sz_cases x with ⟨n, _, s⟩ | ⟨n, _, s⟩ <;> rcases sz_cases y with ⟨m, _, t⟩ | ⟨m, _, t⟩
  · omega
  · rw [n, m] at hn; cases hn
  · rw [n, m] at hn; cases hn
  · omega
theorem order_any (x y : Int) (w : World) :
    Calls Try.prog 73 #[.agg #[.bool (ng x), .int .u64 (hi (sz x)), .int .u64 (lo (sz x))], .agg #[.bool (ng y), .int .u64 (hi (sz y)), .int .u64 (lo (sz y))]] w fun e w' => e = .returned (.int .i64 (sg x y)) ∧ Below w.heap.size w w' := by
  by_cases hxy : x = y
  · subst hxy
    rw [sg_self]
    exact order_eq _ _ _ w
  by_cases hn : ng x = ng y
  · rw [sg_same hn hxy, ← sz_lt, hn]
    by_cases h1 : hi (sz x) = hi (sz y)
    · have h2 : ¬ lo (sz x) = lo (sz y) := fun h2 => hxy (sz_inj hn h1 h2)
      rw [h1]
      exact order_lo _ _ _ _ _ w h2 rfl
    · exact order_hi _ _ _ _ _ _ w h1 rfl
  · have e : ng y = !ng x := by cases h : ng x <;> cases h' : ng y <;> simp_all
    rw [e]
    have e2 : sg x y = if ng x then -1 else 1 := by
      rcases sz_cases x with ⟨n, _, s⟩ | ⟨n, _, s⟩ <;> rcases sz_cases y with ⟨m, _, t⟩ | ⟨m, _, t⟩
      · rw [n, m] at hn; exact absurd rfl hn
      · rw [n, sg_lt (by omega)]; rfl
      · rw [n, sg_gt (by omega)]; rfl
      · rw [n, m] at hn; exact absurd rfl hn
    rw [e2]
    exact order_sign _ _ _ _ _ w

end Go.Proofs.Ytjkkajhjcinalaa.calc

/-
  The wide numbers of the document.
  Conditions: as each theorem states them.
-/
import Derived.Test.YtgmnnpecihcdhabKB
import Derived.Deep.RegionHeld3
namespace Go.Proofs.Ytgmnnpecihcdhab.calc
open Go.RowKit
set_option linter.unusedVariables false
set_option linter.unusedSimpArgs false
set_option maxRecDepth 100000

/-- Is a number below 0? -/
def ng (x : Int) : Bool := decide (x < 0)
/-- A whole number as the document's own wide one: its sign, its size. -/
def wv (x : Int) : Value := .agg #[.bool (ng x), .int .u64 (hi (sz x)), .int .u64 (lo (sz x))]
theorem ng_t {x : Int} (h : x < 0) : ng x = true := decide_eq_true h
theorem ng_f {x : Int} (h : 0 ≤ x) : ng x = false := decide_eq_false (by omega)
/-- Is one size below another one, word by word? -/
def lsB (xh xl yh yl : Int) : Bool := decide (xh < yh) || (decide (xh = yh) && decide (xl < yl))
theorem sz_lt {x y : Int} : lsB (hi (sz x)) (lo (sz x)) (hi (sz y)) (lo (sz y)) = decide (sz x < sz y) := by
  have := lohi (sz x); have := lohi (sz y); have := lo_bd (sz x); have := lo_bd (sz y)
  unfold lsB
  rw [Bool.eq_iff_iff]
  simp only [Bool.or_eq_true, Bool.and_eq_true, decide_eq_true_eq]
  omega
theorem ret_bool {a b : Bool} (h : a = b) : Ending.returned (.bool a) = .returned (.bool b) := by rw [h]
set_option maxHeartbeats 400000 in
theorem less_raw (p q : Bool) (xh xl yh yl : Int) (w : World) :
    Calls Try.prog 53 #[.agg #[.bool p, .int .u64 xh, .int .u64 xl], .agg #[.bool q, .int .u64 yh, .int .u64 yl]] w fun e w' => e = .returned (.bool (lsB xh xl yh yl)) ∧ w' = (w.alloc (.cells #[.bool p, .int .u64 xh, .int .u64 xl] 52)).alloc (.cells #[.bool q, .int .u64 yh, .int .u64 yl] 52) := by
  unfold lsB
  by_cases h1 : xh < yh
  · go_enter Try.func53, Try.ntmps53
    go_wp2
    go_ret
    exact ⟨ret_bool (by simp [h1]), rfl⟩
  · by_cases h2 : xh = yh
    · subst h2
      go_enter Try.func53, Try.ntmps53
      go_wp2
      go_ret
      exact ⟨ret_bool (by simp), rfl⟩
    · go_enter Try.func53, Try.ntmps53
      go_wp2
      go_ret
      exact ⟨ret_bool (by simp [h2]; omega), rfl⟩
theorem sz_cases (x : Int) : (ng x = true ∧ x < 0 ∧ sz x = -x) ∨ (ng x = false ∧ 0 ≤ x ∧ sz x = x) := by
  by_cases h : x < 0
  · exact .inl ⟨ng_t h, h, sz_neg h⟩
  · exact .inr ⟨ng_f (by omega), by omega, sz_pos (by omega)⟩
theorem sz_minus (x : Int) : sz (-x) = sz x := by unfold sz; split <;> split <;> omega
theorem sz_zero {x : Int} (h1 : hi (sz x) = 0) (h2 : lo (sz x) = 0) : x = 0 := by
  have h := lohi (sz x)
  rcases sz_cases x with ⟨_, _, s⟩ | ⟨_, _, s⟩ <;> rw [h1, h2, s] at h <;> omega
theorem ng_minus1 {x : Int} (h : ¬ x = 0) : ng (-x) = !ng x := by
  unfold ng
  rw [Bool.eq_iff_iff]
  simp only [Bool.not_eq_true', decide_eq_true_eq, decide_eq_false_iff_not]
  omega
theorem bk1 {x : Int} (h1 : hi (sz x) = 0) (h2 : lo (sz x) = 9223372036854775808) (h3 : (!ng x) = true) : ¬ (-9223372036854775808 ≤ x ∧ x ≤ 9223372036854775807) := by
  have h := lohi (sz x)
  rcases sz_cases x with ⟨n, _, s⟩ | ⟨n, _, s⟩
  · rw [n] at h3; cases h3
  · omega
theorem bk2 {x : Int} (h1 : hi (sz x) = 0) (h2 : lo (sz x) = 9223372036854775808) (h3 : (!ng x) = false) : (-9223372036854775808 ≤ x ∧ x ≤ 9223372036854775807) ∧ -9223372036854775808 = x := by
  have h := lohi (sz x)
  rcases sz_cases x with ⟨n, _, s⟩ | ⟨n, _, s⟩
  · omega
  · rw [n] at h3; cases h3
theorem bk3 {x : Int} (h1 : hi (sz x) = 0) (h2 : lo (sz x) ≤ 9223372036854775808) (h4 : ¬ lo (sz x) = 9223372036854775808) (h3 : ng x = true) : (-9223372036854775808 ≤ x ∧ x ≤ 9223372036854775807) ∧ -lo (sz x) = x := by
  have h := lohi (sz x)
  rcases sz_cases x with ⟨n, _, s⟩ | ⟨n, _, s⟩
  · omega
  · rw [n] at h3; cases h3
theorem bk4 {x : Int} (h1 : hi (sz x) = 0) (h2 : lo (sz x) ≤ 9223372036854775808) (h4 : ¬ lo (sz x) = 9223372036854775808) (h3 : ng x = false) : (-9223372036854775808 ≤ x ∧ x ≤ 9223372036854775807) ∧ lo (sz x) = x := by
  have h := lohi (sz x)
  rcases sz_cases x with ⟨n, _, s⟩ | ⟨n, _, s⟩
  · rw [n] at h3; cases h3
  · omega
theorem bk5 {x : Int} (h1 : hi (sz x) = 0) (h2 : 9223372036854775808 < lo (sz x)) : ¬ (-9223372036854775808 ≤ x ∧ x ≤ 9223372036854775807) := by
  have h := lohi (sz x)
  rcases sz_cases x with ⟨n, _, s⟩ | ⟨n, _, s⟩ <;> omega
theorem bk6 {x : Int} (h1 : ¬ hi (sz x) = 0) : ¬ (-9223372036854775808 ≤ x ∧ x ≤ 9223372036854775807) := by
  have h := lohi (sz x); have b := lo_bd (sz x)
  rcases sz_cases x with ⟨n, _, s⟩ | ⟨n, _, s⟩ <;> omega
set_option maxHeartbeats 400000 in
theorem back_any (x : Int) (w : World) :
    Calls Try.prog 32 #[.agg #[.bool (ng x), .int .u64 (hi (sz x)), .int .u64 (lo (sz x))]] w fun e w' => e = .returned (.tuple #[.int .i64 (fitV x), .bool (fitB x)]) ∧ Below w.heap.size w w' := by
  have hb := lo_bd (sz x)
  go_enter Try.func32, Try.ntmps32
  go_wp2
  · go_ret2
    exact ⟨ret_fit_no (bk1 ‹_› ‹_› ‹_›), (Below.refl _ _).alloc (Nat.le_refl _) _⟩
  · go_ret2
    exact ⟨ret_fit_yes (bk2 ‹_› ‹_› ‹_›).1 (bk2 ‹_› ‹_› ‹_›).2, (Below.refl _ _).alloc (Nat.le_refl _) _⟩
  · go_ret2
    exact ⟨ret_fit_yes (bk3 ‹_› ‹_› ‹_› ‹_›).1 (bk3 ‹_› ‹_› ‹_› ‹_›).2, (Below.refl _ _).alloc (Nat.le_refl _) _⟩
  · go_ret2
    exact ⟨ret_fit_yes (bk4 ‹_› ‹_› ‹_› ‹_›).1 (bk4 ‹_› ‹_› ‹_› ‹_›).2, (Below.refl _ _).alloc (Nat.le_refl _) _⟩
  · go_ret2
    exact ⟨ret_fit_no (bk5 ‹_› ‹_›), (Below.refl _ _).alloc (Nat.le_refl _) _⟩
  · go_ret2
    exact ⟨ret_fit_no (bk6 ‹_›), (Below.refl _ _).alloc (Nat.le_refl _) _⟩
theorem sg_lt {x y : Int} (h : x < y) : sg x y = -1 := by unfold sg; rw [if_pos h]
theorem sg_gt {x y : Int} (h : y < x) : sg x y = 1 := by unfold sg; rw [if_neg (by omega), if_pos h]
theorem sg_self (x : Int) : sg x x = 0 := by unfold sg; simp
theorem sg_same {x y : Int} (hn : ng x = ng y) (h : ¬ x = y) : sg x y = if (!(decide (sz x < sz y) == ng y)) then -1 else 1 := by
  rcases sz_cases x with ⟨n, _, s⟩ | ⟨n, _, s⟩ <;> rcases sz_cases y with ⟨m, _, t⟩ | ⟨m, _, t⟩
  · rw [s, t, m]
    by_cases hl : -x < -y
    · rw [sg_gt (by omega), decide_eq_true hl]; rfl
    · rw [sg_lt (by omega), decide_eq_false hl]; rfl
  · rw [n, m] at hn; cases hn
  · rw [n, m] at hn; cases hn
  · rw [s, t, m]
    by_cases hl : x < y
    · rw [sg_lt hl, decide_eq_true hl]; rfl
    · rw [sg_gt (by omega), decide_eq_false hl]; rfl
theorem sz_inj {x y : Int} (hn : ng x = ng y) (h1 : hi (sz x) = hi (sz y)) (h2 : lo (sz x) = lo (sz y)) : x = y := by
  have hx := lohi (sz x); have hy := lohi (sz y)
  rcases sz_cases x with ⟨n, _, s⟩ | ⟨n, _, s⟩ <;> rcases sz_cases y with ⟨m, _, t⟩ | ⟨m, _, t⟩
  · omega
  · rw [n, m] at hn; cases hn
  · rw [n, m] at hn; cases hn
  · omega

end Go.Proofs.Ytgmnnpecihcdhab.calc

/-
  A number by digits of 7 bits, and the number at the beginning of some bytes: what is true of them as numbers and lists.
  Conditions: as each theorem states them.
-/
import Derived.Test.YtikgbcdmeikjfaaLib
namespace Go.Proofs.Ytikgbcdmeikjfaa.code
open Go.RowKit
set_option linter.unusedVariables false
set_option linter.unusedSimpArgs false
set_option maxRecDepth 100000

/-- The digits of a number, the lowest first; at most so many and one more. -/
def digF : Nat → Int → List Int
  | 0, u => [u]
  | f + 1, u => if u < 128 then [u] else (u % 128 + 128) :: digF f (u / 128)
def digs (u : Int) : List Int := digF 9 u
/-- How many bytes stand first that say that another one comes. -/
def lead : List Int → Nat
  | [] => 0
  | d :: r => if 127 < d then lead r + 1 else 0
/-- The number of the first so many digits. -/
def low : List Int → Nat → Int
  | _, 0 => 0
  | [], _ + 1 => 0
  | d :: r, n + 1 => d % 128 + 128 * low r n
/-- Is there a number at the beginning; which; how long. -/
def getB (l : List Int) : Bool := decide (lead l < l.length ∧ lead l ≤ 9 ∧ ¬ (0 < lead l ∧ l.getD (lead l) 0 = 0) ∧ ¬ (lead l = 9 ∧ 1 < l.getD (lead l) 0))
def getV (l : List Int) : Int := if getB l then low l (lead l + 1) else 0
def getN (l : List Int) : Int := if getB l then (lead l : Int) + 1 else 0

theorem digF_step {f : Nat} {u : Int} (h : 128 ≤ u) : digF (f + 1) u = (u % 128 + 128) :: digF f (u / 128) := by
  simp only [digF]; rw [if_neg (by omega)]
theorem digF_stop {f : Nat} {u : Int} (h : u < 128) : digF f u = [u] := by
  cases f with
  | zero => rfl
  | succ f => simp only [digF]; rw [if_pos h]
theorem digF_len (f : Nat) (u : Int) : 1 ≤ (digF f u).length ∧ (digF f u).length ≤ f + 1 := by
  induction f generalizing u with
  | zero => simp [digF]
  | succ f ih =>
    by_cases h : u < 128
    · rw [digF_stop h]; simp
    · rw [digF_step (by omega)]
      have := ih (u / 128)
      simp; omega
theorem digs_len (u : Int) : 1 ≤ (digs u).length ∧ (digs u).length ≤ 10 := digF_len 9 u

/-- The bound of a number by its digits. -/
def top : Nat → Int
  | 0 => 1
  | n + 1 => 128 * top n
theorem top_pos (n : Nat) : 1 ≤ top n := by
  induction n with
  | zero => simp [top]
  | succ n ih => simp only [top]; omega

theorem digF_u8 (f : Nat) (u : Int) (h0 : 0 ≤ u) (h : u < top (f + 1)) : ∀ x ∈ digF f u, U8 x := by
  induction f generalizing u with
  | zero => intro x hx; simp [digF] at hx; simp [top] at h; subst hx; unfold U8; omega
  | succ f ih =>
    by_cases hu : u < 128
    · rw [digF_stop hu]; intro x hx; simp at hx; subst hx; unfold U8; omega
    · rw [digF_step (by omega)]
      intro x hx
      rcases List.mem_cons.mp hx with rfl | hx
      · unfold U8; omega
      · rw [top] at h
        exact ih (u / 128) (by omega) (by omega) x hx
theorem lead_dig (f : Nat) (u : Int) (r : List Int) (h0 : 0 ≤ u) (h : u < top (f + 1)) : lead (digF f u ++ r) + 1 = (digF f u).length := by
  induction f generalizing u with
  | zero => simp [digF, lead]; simp [top] at h; omega
  | succ f ih =>
    by_cases hu : u < 128
    · rw [digF_stop hu]; simp [lead]; omega
    · rw [digF_step (by omega)]
      rw [top] at h
      have := ih (u / 128) (by omega) (by omega)
      simp only [List.cons_append, lead, List.length_cons]
      rw [if_pos (by omega)]
      omega
theorem low_dig (f : Nat) (u : Int) (r : List Int) (h0 : 0 ≤ u) (h : u < top (f + 1)) : low (digF f u ++ r) (digF f u).length = u := by
  induction f generalizing u with
  | zero => simp [digF, low]; simp [top] at h; omega
  | succ f ih =>
    by_cases hu : u < 128
    · rw [digF_stop hu]; simp [low]; omega
    · rw [digF_step (by omega)]
      rw [top] at h
      have := ih (u / 128) (by omega) (by omega)
      simp only [List.cons_append, low, List.length_cons]
      rw [this]
      omega
theorem last_dig (f : Nat) (u : Int) (r : List Int) (h0 : 1 ≤ u) (h : u < top (f + 1)) : 1 ≤ (digF f u ++ r).getD ((digF f u).length - 1) 0 ∧ (digF f u ++ r).getD ((digF f u).length - 1) 0 ≤ 127 := by
  induction f generalizing u with
  | zero => simp [digF]; simp [top] at h; omega
  | succ f ih =>
    by_cases hu : u < 128
    · rw [digF_stop hu]; simp; omega
    · rw [digF_step (by omega)]
      rw [top] at h
      have h1 := ih (u / 128) (by omega) (by omega)
      have h2 := (digF_len f (u / 128)).1
      simp only [List.cons_append, List.length_cons]
      rw [show (digF f (u / 128)).length + 1 - 1 = ((digF f (u / 128)).length - 1) + 1 by omega, List.getD_cons_succ]
      exact h1
theorem dig_more (f : Nat) (u : Int) (h : 1 < (digF f u).length) : 128 ≤ u := by
  by_cases hu : u < 128
  · rw [digF_stop hu] at h; simp at h
  · omega
theorem low_step (l : List Int) (n : Nat) (h : n < l.length) : low l (n + 1) = low l n + l.getD n 0 % 128 * top n := by
  induction n generalizing l with
  | zero =>
    match l, h with
    | d :: r, _ => simp [low, top]
  | succ n ih =>
    match l, h with
    | d :: r, h =>
      have := ih r (by simpa using h)
      rw [low, this, low, List.getD_cons_succ, top, Int.mul_add, Int.mul_left_comm]
      omega
theorem low_nonneg (l : List Int) (n : Nat) : 0 ≤ low l n := by
  induction n generalizing l with
  | zero => cases l <;> simp [low]
  | succ n ih =>
    cases l with
    | nil => simp [low]
    | cons d r => have := ih r; simp only [low]; omega
theorem low_lt (l : List Int) (n : Nat) : low l n < top n := by
  induction n generalizing l with
  | zero => cases l <;> simp [low, top]
  | succ n ih =>
    cases l with
    | nil => have := top_pos (n + 1); simp only [low]; omega
    | cons d r => have := ih r; simp only [low, top]; omega
theorem top9 : top 9 = 9223372036854775808 := by decide
theorem top10 : top 10 = 1180591620717411303424 := by decide

/-- What was written is read again, whatever is behind it. -/
theorem get_digs (u : Int) (r : List Int) (h : U64 u) : getB (digs u ++ r) = true ∧ getV (digs u ++ r) = u ∧ getN (digs u ++ r) = (digs u).length := by
  obtain ⟨h1, h2⟩ := h
  have t : u < top (9 + 1) := by rw [top10]; omega
  have e1 := lead_dig 9 u r h1 t
  have e2 := low_dig 9 u r h1 t
  have e3 := digs_len u
  unfold digs at *
  have hb : getB (digF 9 u ++ r) = true := by
    unfold getB
    refine decide_eq_true ⟨?_, ?_, ?_, ?_⟩
    · simp; omega
    · omega
    · rintro ⟨g1, g2⟩
      have := dig_more 9 u (by omega)
      have h3 := last_dig 9 u r (by omega) t
      rw [show (digF 9 u).length - 1 = lead (digF 9 u ++ r) by omega] at h3
      omega
    · rintro ⟨g1, g2⟩
      have := dig_more 9 u (by omega)
      have h3 := last_dig 9 u r (by omega) t
      rw [show (digF 9 u).length - 1 = lead (digF 9 u ++ r) by omega] at h3
      have h4 := low_step (digF 9 u ++ r) 9 (by simp; omega)
      rw [g1] at h3 g2
      rw [show (9 + 1) = (digF 9 u).length by omega, e2, top9] at h4
      have := low_nonneg (digF 9 u ++ r) 9
      omega
  refine ⟨hb, ?_, ?_⟩
  · unfold getV; rw [if_pos hb, e1, e2]
  · unfold getN; rw [if_pos hb]; omega
theorem lead_le (l : List Int) : lead l ≤ l.length := by
  induction l with
  | nil => simp [lead]
  | cons d r ih => simp only [lead, List.length_cons]; split <;> omega
theorem lead_take (f : Nat) (u : Int) (k : Nat) (h0 : 0 ≤ u) (hk : k < (digF f u).length) : lead ((digF f u).take k) = k := by
  induction f generalizing u k with
  | zero => simp [digF] at hk; subst hk; simp [lead]
  | succ f ih =>
    cases k with
    | zero => simp [lead]
    | succ k =>
      by_cases hu : u < 128
      · rw [digF_stop hu] at hk; simp at hk
      · rw [digF_step (by omega)] at hk ⊢
        have := ih (u / 128) k (by omega) (by simpa using hk)
        simp only [List.take_succ_cons, lead]
        rw [if_pos (by omega), this]
/-- What is cut off is none. -/
theorem get_cut (u : Int) (k : Nat) (h0 : 0 ≤ u) (hk : k < (digs u).length) : getB ((digs u).take k) = false := by
  unfold getB
  have e : lead ((digs u).take k) = k := lead_take 9 u k h0 hk
  rw [e]
  refine decide_eq_false ?_
  rintro ⟨h, _⟩
  simp at h; omega
theorem lead_long (f : Nat) (u : Int) (h0 : 0 ≤ u) (x : Int) (hx : 127 < x) : lead ((digF f u).take ((digF f u).length - 1) ++ [x, 0]) = (digF f u).length := by
  induction f generalizing u with
  | zero => simp [digF, lead, hx]
  | succ f ih =>
    by_cases hu : u < 128
    · rw [digF_stop hu]; simp [lead, hx]
    · rw [digF_step (by omega)]
      have h1 := ih (u / 128) (by omega)
      have h2 := (digF_len f (u / 128)).1
      simp only [List.length_cons, Nat.add_sub_cancel]
      rw [show (digF f (u / 128)).length = ((digF f (u / 128)).length - 1) + 1 by omega, List.take_succ_cons, List.cons_append]
      simp only [lead]
      rw [if_pos (by omega), h1]
      omega
/-- A digit more that says nothing is none. -/
theorem get_long (u : Int) (h0 : 0 ≤ u) (x : Int) (hx : 127 < x) : getB ((digs u).take ((digs u).length - 1) ++ [x, 0]) = false := by
  have e : lead ((digs u).take ((digs u).length - 1) ++ [x, 0]) = (digs u).length := lead_long 9 u h0 x hx
  have h := digs_len u
  unfold getB
  rw [e]
  refine decide_eq_false ?_
  rintro ⟨g1, g2, g3, _⟩
  refine g3 ⟨by omega, ?_⟩
  rw [List.getD_eq_getElem?_getD, List.getElem?_append_right (by simp), List.length_take, Nat.min_eq_left (by omega), show (digs u).length - ((digs u).length - 1) = 1 by omega]
  rfl

end Go.Proofs.Ytikgbcdmeikjfaa.code

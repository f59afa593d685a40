/-
  A dimension as lists: may it be, how many members a level has, whose a member is, who is under it: what is true of them.
  Conditions: as each theorem states them.
-/
import Derived.Test.YtmlnfpefemchhaaLib
namespace Go.Proofs.Ytmlnfpefemchhaa
open Go.RowKit
set_option linter.unusedVariables false
set_option linter.unusedSimpArgs false

/-- A dimension of these sizes, these lists of whom members belong to, may be. -/
abbrev GoodP (S : List Int) (U : List (List Int)) : Prop :=
  1 ≤ S.length ∧ S.length ≤ 4 ∧ U.length + 1 = S.length ∧ (∀ x ∈ S, 1 ≤ x ∧ x ≤ 40) ∧ ∀ k, k < U.length → ((U.getD k []).length : Int) = S.getD k 0 ∧ ∀ x ∈ U.getD k [], 0 ≤ x ∧ x < S.getD (k + 1) 0
def good (S : List Int) (U : List (List Int)) : Bool := decide (GoodP S U)
/-- How many members a level has. -/
def size (S : List Int) (U : List (List Int)) (lv : Int) : Int :=
  if good S U then (if lv < 0 ∨ (S.length : Int) < lv then 0 else if lv = S.length then 1 else S.getD lv.toNat 0) else 0
/-- The member above, so many levels up. -/
def up (U : List (List Int)) : Nat → Nat → Int → Int
  | _, 0, m => m
  | k, n + 1, m => up U (k + 1) n ((U.getD k []).getD m.toNat 0)
/-- The member that one belongs to, or -1. -/
def lift (S : List Int) (U : List (List Int)) (f t m : Int) : Int :=
  if f < 0 ∨ t < f ∨ size S U t = 0 ∨ m < 0 ∨ size S U f ≤ m then -1 else if t = S.length then 0 else up U f.toNat (t - f).toNat m
/-- The members of a level that belong to one. -/
def upto (n : Nat) : List Int := (List.range n).map (fun (i : Nat) => (i : Int))
def under (S : List Int) (U : List (List Int)) (t m f : Int) : List Int :=
  if m < 0 ∨ size S U t ≤ m then [] else (upto (size S U f).toNat).filter (fun i => decide (lift S U f t i = m))

theorem good_p {S : List Int} {U : List (List Int)} (h : good S U = true) : GoodP S U := of_decide_eq_true h
theorem good_n {S : List Int} {U : List (List Int)} (h : good S U = false) : ¬ GoodP S U := of_decide_eq_false h
theorem size_bad {S : List Int} {U : List (List Int)} (h : good S U = false) (lv : Int) : size S U lv = 0 := by unfold size; rw [h]; rfl
theorem size_out {S : List Int} {U : List (List Int)} {lv : Int} (h : lv < 0 ∨ (S.length : Int) < lv) : size S U lv = 0 := by
  unfold size; rw [if_pos h]; split <;> rfl
theorem size_top {S : List Int} {U : List (List Int)} (h : good S U = true) : size S U S.length = 1 := by
  unfold size; rw [if_pos h, if_neg (by omega), if_pos rfl]
theorem size_at {S : List Int} {U : List (List Int)} (h : good S U = true) {k : Nat} (hk : k < S.length) : size S U k = S.getD k 0 := by
  unfold size; rw [if_pos h, if_neg (by omega), if_neg (by omega)]; rfl
theorem sizes_bd {S : List Int} {U : List (List Int)} (h : good S U = true) {k : Nat} (hk : k < S.length) : 1 ≤ S.getD k 0 ∧ S.getD k 0 ≤ 40 :=
  getD_of (good_p h).2.2.2.1 k hk
theorem size_bd (S : List Int) (U : List (List Int)) (lv : Int) : 0 ≤ size S U lv ∧ size S U lv ≤ 40 := by
  cases h : good S U with
  | false => rw [size_bad h]; decide
  | true =>
    by_cases ho : lv < 0 ∨ (S.length : Int) < lv
    · rw [size_out ho]; decide
    · by_cases ht : lv = S.length
      · rw [ht, size_top h]; decide
      · obtain ⟨k, rfl⟩ : ∃ k : Nat, lv = k := ⟨lv.toNat, by omega⟩
        rw [size_at h (by omega)]
        have := sizes_bd h (k := k) (by omega)
        omega
theorem size_in {S : List Int} {U : List (List Int)} {lv : Int} (h : ¬ size S U lv = 0) : good S U = true ∧ 0 ≤ lv ∧ lv ≤ S.length := by
  cases hg : good S U with
  | false => exact absurd (size_bad hg lv) h
  | true =>
    refine ⟨rfl, ?_⟩
    by_cases ho : lv < 0 ∨ (S.length : Int) < lv
    · exact absurd (size_out ho) h
    · omega
theorem size_pos {S : List Int} {U : List (List Int)} (h : good S U = true) {lv : Int} (h0 : 0 ≤ lv) (h1 : lv ≤ S.length) : 1 ≤ size S U lv := by
  by_cases ht : lv = S.length
  · rw [ht, size_top h]; decide
  · obtain ⟨k, rfl⟩ : ∃ k : Nat, lv = k := ⟨lv.toNat, by omega⟩
    rw [size_at h (by omega)]
    exact (sizes_bd h (by omega)).1

/-- One level up is a member of the next level. -/
theorem step_in {S : List Int} {U : List (List Int)} (h : good S U = true) {k : Nat} (hk : k < U.length) {m : Int} (h0 : 0 ≤ m) (h1 : m < S.getD k 0) : m.toNat < (U.getD k []).length ∧ 0 ≤ (U.getD k []).getD m.toNat 0 ∧ (U.getD k []).getD m.toNat 0 < S.getD (k + 1) 0 := by
  obtain ⟨e, hx⟩ := (good_p h).2.2.2.2 k hk
  have hl : m.toNat < (U.getD k []).length := by omega
  exact ⟨hl, getD_of hx m.toNat hl⟩
theorem up_in {S : List Int} {U : List (List Int)} (h : good S U = true) (n : Nat) {k : Nat} (hk : k + n < S.length) {m : Int} (h0 : 0 ≤ m) (h1 : m < S.getD k 0) : 0 ≤ up U k n m ∧ up U k n m < S.getD (k + n) 0 := by
  induction n generalizing k m with
  | zero => exact ⟨h0, h1⟩
  | succ n ih =>
    have hU := (good_p h).2.2.1
    obtain ⟨_, s1, s2⟩ := step_in h (k := k) (by omega) h0 h1
    have := ih (k := k + 1) (by omega) s1 s2
    rw [up, show k + (n + 1) = k + 1 + n by omega]
    exact this
theorem up_add (U : List (List Int)) (a b k : Nat) (m : Int) : up U (k + a) b (up U k a m) = up U k (a + b) m := by
  induction a generalizing k m with
  | zero => simp [up]
  | succ a ih =>
    rw [show a + 1 + b = (a + b) + 1 by omega, up, up, ← ih (k + 1)]
    rw [show k + 1 + a = k + (a + 1) by omega]
theorem up_succ (U : List (List Int)) (k n : Nat) (m : Int) : up U k (n + 1) m = (U.getD (k + n) []).getD (up U k n m).toNat 0 := by
  rw [← up_add U n 1 k m]; rfl

/-- Whose a member is, where there is one. -/
theorem lift_yes {S : List Int} {U : List (List Int)} {f t m : Int} (h0 : 0 ≤ f) (h1 : f ≤ t) (ht : ¬ size S U t = 0) (hm : 0 ≤ m) (hm2 : m < size S U f) : lift S U f t m = if t = S.length then 0 else up U f.toNat (t - f).toNat m := by
  unfold lift; rw [if_neg (by omega)]
theorem lift_no {S : List Int} {U : List (List Int)} {f t m : Int} (h : f < 0 ∨ t < f ∨ size S U t = 0 ∨ m < 0 ∨ size S U f ≤ m) : lift S U f t m = -1 := by
  unfold lift; rw [if_pos h]
theorem lift_in {S : List Int} {U : List (List Int)} {f t m : Int} (h0 : 0 ≤ f) (h1 : f ≤ t) (ht : ¬ size S U t = 0) (hm : 0 ≤ m) (hm2 : m < size S U f) : 0 ≤ lift S U f t m ∧ lift S U f t m < size S U t := by
  obtain ⟨hg, t0, t1⟩ := size_in ht
  rw [lift_yes h0 h1 ht hm hm2]
  by_cases e : t = S.length
  · rw [if_pos e, e, size_top hg]; decide
  · rw [if_neg e]
    obtain ⟨a, rfl⟩ : ∃ a : Nat, f = a := ⟨f.toNat, by omega⟩
    obtain ⟨n, rfl⟩ : ∃ n : Nat, t = ((a + n : Nat) : Int) := ⟨(t - a).toNat, by omega⟩
    rw [size_at hg (by omega)]
    rw [size_at hg (by omega)] at hm2
    have e2 : (((a + n : Nat) : Int) - (a : Int)).toNat = n := by omega
    rw [e2, Int.toNat_natCast]
    exact up_in hg n (by omega) hm hm2
theorem lift_ge (S : List Int) (U : List (List Int)) (f t m : Int) : -1 ≤ lift S U f t m ∧ lift S U f t m ≤ 39 := by
  by_cases h : f < 0 ∨ t < f ∨ size S U t = 0 ∨ m < 0 ∨ size S U f ≤ m
  · rw [lift_no h]; decide
  · have := lift_in (S := S) (U := U) (f := f) (t := t) (m := m) (by omega) (by omega) (by omega) (by omega) (by omega)
    have := size_bd S U t
    omega
/-- Lifted twice is lifted once. -/
theorem lift_twice {S : List Int} {U : List (List Int)} {f t s m : Int} (h0 : 0 ≤ f) (h1 : f ≤ t) (h2 : t ≤ s) (hs : ¬ size S U s = 0) (hm : 0 ≤ m) (hm2 : m < size S U f) : lift S U t s (lift S U f t m) = lift S U f s m := by
  obtain ⟨hg, s0, s1⟩ := size_in hs
  have ht : ¬ size S U t = 0 := by have := size_pos hg (lv := t) (by omega) (by omega); omega
  obtain ⟨b0, b1⟩ := lift_in h0 h1 ht hm hm2
  rw [lift_yes (by omega) h2 hs b0 b1, lift_yes h0 (by omega) hs hm hm2]
  by_cases e : s = S.length
  · rw [if_pos e, if_pos e]
  · rw [if_neg e, if_neg e, lift_yes h0 h1 ht hm hm2, if_neg (by omega)]
    obtain ⟨a, rfl⟩ : ∃ a : Nat, f = a := ⟨f.toNat, by omega⟩
    obtain ⟨n, rfl⟩ : ∃ n : Nat, t = ((a + n : Nat) : Int) := ⟨(t - a).toNat, by omega⟩
    obtain ⟨q, rfl⟩ : ∃ q : Nat, s = ((a + n + q : Nat) : Int) := ⟨(s - (a + n : Nat)).toNat, by omega⟩
    have e1 : (((a + n : Nat) : Int) - (a : Int)).toNat = n := by omega
    have e2 : (((a + n + q : Nat) : Int) - ((a + n : Nat) : Int)).toNat = q := by omega
    have e3 : (((a + n + q : Nat) : Int) - (a : Int)).toNat = n + q := by omega
    rw [e1, e2, e3, Int.toNat_natCast, Int.toNat_natCast]
    exact up_add U n q a m
theorem lift_self {S : List Int} {U : List (List Int)} {f m : Int} (h0 : 0 ≤ f) (hm : 0 ≤ m) (hm2 : m < size S U f) : lift S U f f m = m := by
  have hf : ¬ size S U f = 0 := by omega
  obtain ⟨hg, _, _⟩ := size_in hf
  rw [lift_yes h0 (Int.le_refl _) hf hm hm2]
  by_cases e : f = S.length
  · rw [if_pos e]; rw [e, size_top hg] at hm2; omega
  · rw [if_neg e]; simp [up]

/-! Who is under a member. -/
theorem upto_len (n : Nat) : (upto n).length = n := by simp [upto]
theorem upto_succ (n : Nat) : upto (n + 1) = upto n ++ [(n : Int)] := by simp [upto, List.range_succ]
theorem mem_upto {n : Nat} {x : Int} : x ∈ upto n ↔ 0 ≤ x ∧ x < n := by
  unfold upto
  rw [List.mem_map]
  constructor
  · rintro ⟨a, ha, rfl⟩
    rw [List.mem_range] at ha; omega
  · rintro ⟨h0, h1⟩
    exact ⟨x.toNat, by rw [List.mem_range]; omega, by omega⟩
/-- The first so many members of a level that belong to one. -/
def und (S : List Int) (U : List (List Int)) (t m f : Int) (n : Nat) : List Int := (upto n).filter (fun i => decide (lift S U f t i = m))
theorem und_0 (S : List Int) (U : List (List Int)) (t m f : Int) : und S U t m f 0 = [] := by simp [und, upto]
theorem und_yes {S : List Int} {U : List (List Int)} {t m f : Int} {n : Nat} (h : lift S U f t n = m) : und S U t m f (n + 1) = und S U t m f n ++ [(n : Int)] := by
  unfold und; rw [upto_succ, List.filter_append]; simp [h]
theorem und_no {S : List Int} {U : List (List Int)} {t m f : Int} {n : Nat} (h : ¬ lift S U f t n = m) : und S U t m f (n + 1) = und S U t m f n := by
  unfold und; rw [upto_succ, List.filter_append]; simp [h]
theorem und_len (S : List Int) (U : List (List Int)) (t m f : Int) (n : Nat) : (und S U t m f n).length ≤ n := by
  unfold und
  have := List.length_filter_le (fun i => decide (lift S U f t i = m)) (upto n)
  rw [upto_len] at this; exact this
theorem under_yes {S : List Int} {U : List (List Int)} {t m f : Int} (h : 0 ≤ m) (h2 : m < size S U t) : under S U t m f = und S U t m f (size S U f).toNat := by
  unfold under und; rw [if_neg (by omega)]
theorem under_no {S : List Int} {U : List (List Int)} {t m f : Int} (h : m < 0 ∨ size S U t ≤ m) : under S U t m f = [] := by
  unfold under; rw [if_pos h]
theorem mem_under {S : List Int} {U : List (List Int)} {t m f x : Int} : x ∈ under S U t m f ↔ 0 ≤ m ∧ m < size S U t ∧ 0 ≤ x ∧ x < size S U f ∧ lift S U f t x = m := by
  by_cases h : m < 0 ∨ size S U t ≤ m
  · rw [under_no h]; constructor
    · intro hx; simp at hx
    · rintro ⟨_, _, _⟩; omega
  · rw [under_yes (by omega) (by omega)]
    unfold und
    rw [List.mem_filter, mem_upto]
    have := size_bd S U f
    constructor
    · rintro ⟨⟨a, b⟩, c⟩; exact ⟨by omega, by omega, a, by omega, of_decide_eq_true c⟩
    · rintro ⟨_, _, c, d, e⟩; exact ⟨⟨c, by omega⟩, decide_eq_true e⟩

end Go.Proofs.Ytmlnfpefemchhaa

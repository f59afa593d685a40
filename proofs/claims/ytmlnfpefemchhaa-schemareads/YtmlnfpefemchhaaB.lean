/-
  Who is under whom, counted: the members of a level are parted by those of a coarser one; a member's kids; dimensions that may not be.
  Conditions: as each theorem states them.
-/
import Derived.Test.YtmlnfpefemchhaaA
namespace Go.Proofs.Ytmlnfpefemchhaa
open Go.RowKit
set_option linter.unusedVariables false
set_option linter.unusedSimpArgs false

theorem upto_sorted (n : Nat) : (upto n).Pairwise (fun a b : Int => a < b) := by
  unfold upto
  rw [List.pairwise_map]
  exact List.pairwise_iff_getElem.mpr (fun i j hi hj hij => by simp; omega)
theorem under_sorted (S : List Int) (U : List (List Int)) (t m f : Int) : (under S U t m f).Pairwise (fun a b : Int => a < b) := by
  unfold under
  split
  · exact List.Pairwise.nil
  · exact (upto_sorted _).filter _
theorem sorted_lt {l : List Int} (h : l.Pairwise (fun a b : Int => a < b)) {i j : Nat} (hij : i < j) (hj : j < l.length) : l.getD i 0 < l.getD j 0 := by
  have := List.pairwise_iff_getElem.mp h i j (by omega) hj hij
  simpa [List.getD_eq_getElem?_getD, List.getElem?_eq_getElem hj, List.getElem?_eq_getElem (show i < l.length by omega)] using this
theorem getD_mem {l : List Int} {k : Nat} (h : k < l.length) : l.getD k 0 ∈ l := getD_of (p := fun x => x ∈ l) (fun x hx => hx) k h
theorem sorted_notin {l : List Int} (h : l.Pairwise (fun a b : Int => a < b)) {i : Nat} (hi : i < l.length) : l.getD i 0 ∉ l.take i := by
  intro hx
  obtain ⟨j, hj, e⟩ := List.mem_take_iff_getElem.mp hx
  have hj' : j < i := by omega
  have := sorted_lt h hj' hi
  rw [List.getD_eq_getElem?_getD (l := l) (i := j), List.getElem?_eq_getElem (by omega)] at this
  simp at this
  rw [e] at this
  simp [List.getD_eq_getElem?_getD] at this
theorem take_snoc (l : List Int) (k : Nat) (h : k < l.length) : l.take (k + 1) = l.take k ++ [l.getD k 0] := by
  rw [List.take_succ_eq_append_getElem h]
  simp [List.getD_eq_getElem?_getD, h]

/-! Parts. -/
/-- How many of a list have a value below a number. -/
def below (L : Int → Int) (l : List Int) (m : Int) : Nat := l.countP (fun x => decide (L x < m))
theorem below_step (L : Int → Int) (l : List Int) (m : Int) : below L l (m + 1) = below L l m + l.countP (fun x => decide (L x = m)) := by
  unfold below
  induction l with
  | nil => rfl
  | cons x r ih =>
    rw [List.countP_cons, List.countP_cons, List.countP_cons, ih]
    by_cases h1 : L x < m
    · have h2 : L x < m + 1 := by omega
      have h3 : ¬ L x = m := by omega
      simp [h1, h2, h3]; omega
    · by_cases h2 : L x = m
      · have e1 : decide (L x < m + 1) = true := decide_eq_true (by omega)
        have e2 : decide (L x < m) = false := decide_eq_false h1
        have e3 : decide (L x = m) = true := decide_eq_true h2
        simp only [e1, e2, e3]
        simp; omega
      · have h3 : ¬ L x < m + 1 := by omega
        simp [h1, h2, h3]
theorem below_all {L : Int → Int} {l : List Int} {m : Int} (h : ∀ x ∈ l, L x < m) : below L l m = l.length := by
  unfold below
  rw [List.countP_eq_length]
  intro x hx
  exact decide_eq_true (h x hx)
theorem below_none {L : Int → Int} {l : List Int} {m : Int} (h : ∀ x ∈ l, m ≤ L x) : below L l m = 0 := by
  unfold below
  rw [List.countP_eq_zero]
  intro x hx
  simp
  exact h x hx
/-- How many members of a level are lifted below m. -/
def lifted (S : List Int) (U : List (List Int)) (f t m : Int) : Nat := below (fun x => lift S U f t x) (upto (size S U f).toNat) m
theorem under_count {S : List Int} {U : List (List Int)} {t m f : Int} (h : 0 ≤ m) (h2 : m < size S U t) : (under S U t m f).length = (upto (size S U f).toNat).countP (fun x => decide (lift S U f t x = m)) := by
  rw [under_yes h h2]; unfold und; rw [List.countP_eq_length_filter]
theorem lifted_step {S : List Int} {U : List (List Int)} {t m f : Int} (h : 0 ≤ m) (h2 : m < size S U t) : lifted S U f t (m + 1) = lifted S U f t m + (under S U t m f).length := by
  rw [under_count h h2]; exact below_step _ _ m
theorem lifted_0 {S : List Int} {U : List (List Int)} {f t : Int} (hg : good S U = true) (h0 : 0 ≤ f) (h1 : f ≤ t) (h2 : t ≤ S.length) : lifted S U f t 0 = 0 := by
  refine below_none fun x hx => ?_
  obtain ⟨a, b⟩ := mem_upto.mp hx
  have := size_pos hg (lv := t) (by omega) h2
  exact (lift_in h0 h1 (by omega) a (by have := size_bd S U f; omega)).1
theorem lifted_all {S : List Int} {U : List (List Int)} {f t : Int} (hg : good S U = true) (h0 : 0 ≤ f) (h1 : f ≤ t) (h2 : t ≤ S.length) : (lifted S U f t (size S U t) : Int) = size S U f := by
  unfold lifted
  rw [below_all, upto_len]
  · have := size_bd S U f; omega
  · intro x hx
    obtain ⟨a, b⟩ := mem_upto.mp hx
    have := size_pos hg (lv := t) (by omega) h2
    exact (lift_in h0 h1 (by omega) a (by have := size_bd S U f; omega)).2
/-- What has been seen when the members that are lifted below m, and some more, were gone through. -/
def sn (S : List Int) (U : List (List Int)) (f t m : Int) (pre : List Int) : List Int := (upto 40).map (fun x => if (x < size S U f ∧ lift S U f t x < m) ∨ x ∈ pre then 1 else 0)
theorem sn_len (S : List Int) (U : List (List Int)) (f t m : Int) (pre : List Int) : (sn S U f t m pre).length = 40 := by simp [sn, upto]
theorem sn_get (S : List Int) (U : List (List Int)) (f t m : Int) (pre : List Int) {k : Nat} (hk : k < 40) : (sn S U f t m pre).getD k 0 = if ((k : Int) < size S U f ∧ lift S U f t k < m) ∨ (k : Int) ∈ pre then 1 else 0 := by
  unfold sn upto
  simp [List.getD_eq_getElem?_getD, hk]
theorem sn_0 {S : List Int} {U : List (List Int)} {f t : Int} (hg : good S U = true) (h0 : 0 ≤ f) (h1 : f ≤ t) (h2 : t ≤ S.length) : sn S U f t 0 [] = List.replicate 40 0 := by
  unfold sn
  rw [List.eq_replicate_iff]
  refine ⟨by simp [upto], ?_⟩
  intro y hy
  obtain ⟨x, hx, rfl⟩ := List.mem_map.mp hy
  obtain ⟨a, b⟩ := mem_upto.mp hx
  rw [if_neg]
  rintro (⟨c, d⟩ | h)
  · have := size_pos hg (lv := t) (by omega) h2
    have := (lift_in (S := S) (U := U) h0 h1 (by omega) a c).1
    omega
  · simp at h
theorem sn_ext {S : List Int} {U : List (List Int)} {f t m m' : Int} {p p' : List Int} (h : ∀ k : Nat, k < 40 → ((((k : Int) < size S U f ∧ lift S U f t k < m) ∨ (k : Int) ∈ p) ↔ (((k : Int) < size S U f ∧ lift S U f t k < m') ∨ (k : Int) ∈ p'))) : sn S U f t m p = sn S U f t m' p' := by
  unfold sn
  apply List.map_congr_left
  intro x hx
  obtain ⟨a, b⟩ := mem_upto.mp hx
  obtain ⟨k, rfl⟩ : ∃ k : Nat, x = k := ⟨x.toNat, by omega⟩
  have := h k (by omega)
  by_cases c : (((k : Int) < size S U f ∧ lift S U f t k < m) ∨ (k : Int) ∈ p)
  · rw [if_pos c, if_pos (this.mp c)]
  · rw [if_neg c, if_neg (fun d => c (this.mpr d))]
/-- Behind all of a member's own the next one begins. -/
theorem sn_next {S : List Int} {U : List (List Int)} {f t m : Int} (h : 0 ≤ m) (h2 : m < size S U t) : sn S U f t m (under S U t m f) = sn S U f t (m + 1) [] := by
  apply sn_ext
  intro k hk
  rw [mem_under]
  constructor
  · rintro (⟨a, b⟩ | ⟨_, _, c, d, e⟩)
    · exact .inl ⟨a, by omega⟩
    · exact .inl ⟨d, by omega⟩
  · rintro (⟨a, b⟩ | h')
    · by_cases c : lift S U f t k < m
      · exact .inl ⟨a, c⟩
      · exact .inr ⟨h, h2, by omega, a, by omega⟩
    · simp at h'
/-- One more is seen. -/
theorem sn_set {S : List Int} {U : List (List Int)} {f t m : Int} {pre : List Int} {k : Nat} (hk : k < 40) : (sn S U f t m pre).set k 1 = sn S U f t m (pre ++ [(k : Int)]) := by
  apply List.ext_getElem
  · simp [sn_len]
  · intro i h1 h2
    rw [List.length_set, sn_len] at h1
    rw [List.getElem_set]
    have e : ∀ p, ∀ (hh : i < (sn S U f t m p).length), (sn S U f t m p)[i] = (sn S U f t m p).getD i 0 := fun p hh => by simp [List.getD_eq_getElem?_getD, List.getElem?_eq_getElem hh]
    by_cases hik : k = i
    · subst hik
      rw [if_pos rfl, e _ (by rw [sn_len]; exact hk), sn_get _ _ _ _ _ _ hk, if_pos (.inr (by simp))]
    · rw [if_neg hik, e _ (by rw [sn_len]; exact h1), e _ (by rw [sn_len]; exact h1), sn_get _ _ _ _ _ _ h1, sn_get _ _ _ _ _ _ h1]
      have : ((i : Int) ∈ pre ++ [(k : Int)]) ↔ (i : Int) ∈ pre := by simp; omega
      by_cases c : (((i : Int) < size S U f ∧ lift S U f t i < m) ∨ (i : Int) ∈ pre)
      · rw [if_pos c, if_pos (c.imp_right this.mpr)]
      · rw [if_neg c, if_neg (fun d => c (d.imp_right this.mp))]
/-- One that is met has not been seen. -/
theorem sn_new {S : List Int} {U : List (List Int)} {f t m : Int} {i : Nat} (hi : i < (under S U t m f).length) :
    ∃ k : Nat, (under S U t m f).getD i 0 = k ∧ k < 40 ∧ (k : Int) < size S U f ∧ (sn S U f t m ((under S U t m f).take i)).getD k 0 = 0 ∧ lift S U f t k = m := by
  obtain ⟨a, b, c, d, e⟩ := mem_under.mp (getD_mem hi)
  have hs := size_bd S U f
  refine ⟨((under S U t m f).getD i 0).toNat, by omega, by omega, by omega, ?_, ?_⟩
  · rw [sn_get _ _ _ _ _ _ (by omega), if_neg]
    have e1 : ((((under S U t m f).getD i 0).toNat : Nat) : Int) = (under S U t m f).getD i 0 := by omega
    rw [e1]
    rintro (⟨_, h⟩ | h)
    · omega
    · exact sorted_notin (under_sorted S U t m f) hi h
  · have e1 : ((((under S U t m f).getD i 0).toNat : Nat) : Int) = (under S U t m f).getD i 0 := by omega
    rw [e1]; exact e

/-! Kids. -/
/-- How many of a list have a value among some. -/
def among (L : Int → Int) (l ys : List Int) : Nat := l.countP (fun z => decide (L z ∈ ys))
theorem among_nil (L : Int → Int) (l : List Int) : among L l [] = 0 := by simp [among]
theorem among_step {L : Int → Int} {l ys : List Int} {y : Int} (h : y ∉ ys) : among L l (ys ++ [y]) = among L l ys + l.countP (fun z => decide (L z = y)) := by
  unfold among
  induction l with
  | nil => rfl
  | cons x r ih =>
    rw [List.countP_cons, List.countP_cons, List.countP_cons, ih]
    by_cases h1 : L x = y
    · have h2 : ¬ L x ∈ ys := by rw [h1]; exact h
      simp [h1, h]; omega
    · by_cases h2 : L x ∈ ys
      · simp [h1, h2]; omega
      · simp [h1, h2]
theorem kids_all {S : List Int} {U : List (List Int)} {k x : Int} (hg : good S U = true) (h1 : 1 ≤ k) (h2 : k ≤ S.length) (hx : 0 ≤ x) (hx2 : x < size S U k) :
    among (fun z => lift S U 0 (k - 1) z) (upto (size S U 0).toNat) (under S U k x (k - 1)) = (under S U k x 0).length := by
  rw [under_count hx hx2]
  unfold among
  apply List.countP_congr
  intro z hz
  obtain ⟨a, b⟩ := mem_upto.mp hz
  have s0 := size_bd S U 0
  have p1 := size_pos hg (lv := k) (by omega) h2
  have p2 := size_pos hg (lv := k - 1) (by omega) (by omega)
  have hz2 : z < size S U 0 := by omega
  have l1 := lift_in (S := S) (U := U) (f := 0) (t := k - 1) (m := z) (by omega) (by omega) (by omega) a hz2
  have tw := lift_twice (S := S) (U := U) (f := 0) (t := k - 1) (s := k) (m := z) (by omega) (by omega) (by omega) (by omega) a hz2
  simp only [decide_eq_true_eq]
  rw [mem_under]
  constructor
  · rintro ⟨_, _, _, _, e⟩; rw [← tw]; exact e
  · intro e; exact ⟨hx, hx2, l1.1, l1.2, by rw [tw]; exact e⟩
theorem kids_step {S : List Int} {U : List (List Int)} {k x : Int} (hg : good S U = true) (h1 : 1 ≤ k) (h2 : k ≤ S.length) {i : Nat} (hi : i < (under S U k x (k - 1)).length) :
    among (fun z => lift S U 0 (k - 1) z) (upto (size S U 0).toNat) ((under S U k x (k - 1)).take (i + 1)) = among (fun z => lift S U 0 (k - 1) z) (upto (size S U 0).toNat) ((under S U k x (k - 1)).take i) + (under S U (k - 1) ((under S U k x (k - 1)).getD i 0) 0).length := by
  obtain ⟨_, _, c, d, _⟩ := mem_under.mp (getD_mem hi)
  rw [take_snoc _ _ hi, among_step (sorted_notin (under_sorted _ _ _ _ _) hi), under_count c d]
/-- Who is under a kid is under its parent. -/
theorem kid_lift {S : List Int} {U : List (List Int)} {k x y z : Int} (hg : good S U = true) (h1 : 1 ≤ k) (h2 : k ≤ S.length) (hy : y ∈ under S U k x (k - 1)) (hz : z ∈ under S U (k - 1) y 0) : lift S U 0 k z = x := by
  obtain ⟨_, _, _, _, e1⟩ := mem_under.mp hy
  obtain ⟨_, _, a, b, e2⟩ := mem_under.mp hz
  have p1 := size_pos hg (lv := k) (by omega) h2
  rw [← lift_twice (S := S) (U := U) (f := 0) (t := k - 1) (s := k) (m := z) (by omega) (by omega) (by omega) (by omega) a b, e2, e1]

/-! Dimensions that may not be. -/
theorem bad_long {S : List Int} {U : List (List Int)} (h : good S U = true) : good (S ++ [1, 1, 1, 1]) U = false := by
  refine decide_eq_false fun g => ?_
  have h1 := (good_p h).1
  have h2 := g.2.1
  rw [List.length_append, show ([1, 1, 1, 1] : List Int).length = 4 from rfl] at h2
  omega
theorem bad_head {S : List Int} {U : List (List Int)} {y : Int} (hy : y < 1 ∨ 40 < y) : good (y :: S) U = false := by
  refine decide_eq_false fun g => ?_
  have := g.2.2.2.1 y (by simp)
  omega
theorem bad_more {S : List Int} {U : List (List Int)} (l : List Int) (h : good S U = true) : good S (U ++ [l]) = false := by
  refine decide_eq_false fun g => ?_
  have h1 := (good_p h).2.2.1
  have h2 := g.2.2.1
  simp at h2; omega
theorem bad_up {S : List Int} {R : List (List Int)} {r : List Int} : good S ((S.getD 1 0 :: r) :: R) = false := by
  refine decide_eq_false fun g => ?_
  have := (g.2.2.2.2 0 (by simp)).2 (S.getD 1 0) (by simp)
  simp at this
theorem lift_bad {S : List Int} {U : List (List Int)} (h : good S U = false) (f t m : Int) : lift S U f t m = -1 := lift_no (.inr (.inr (.inl (size_bad h t))))
theorem under_bad {S : List Int} {U : List (List Int)} (h : good S U = false) (t m f : Int) : under S U t m f = [] := by
  by_cases hm : m < 0
  · exact under_no (.inl hm)
  · exact under_no (.inr (by rw [size_bad h]; omega))

end Go.Proofs.Ytmlnfpefemchhaa

/-
  A catalog read from the front of bytes, as lists: what is read, and that it is what was written.
  Conditions: as each theorem states them.
-/
import Derived.Test.YtmlnfpefemchhaaS4
namespace Go.Proofs.Ytmlnfpefemchhaa
open Go.ChangeShapes Go.WideShapes Go.ChangeAt Go.RowKit
set_option linter.unusedVariables false
set_option linter.unusedSimpArgs false

/-- What is left to be read; none where a number was not there. -/
abbrev St := Option (List Int)
def pnum : St → Int × St
  | some (x :: r) => if x ≤ 40 then (x, some r) else (0, none)
  | _ => (0, none)
def plist : Nat → St → List Int × St
  | 0, s => ([], s)
  | n + 1, s => ((plist n s).1 ++ [(pnum (plist n s).2).1], (pnum (plist n s).2).2)
def pups (S : List Int) : Nat → St → List (List Int) × St
  | 0, s => ([], s)
  | k + 1, s => ((pups S k s).1 ++ [(plist (S.getD k 0).toNat (pups S k s).2).1], (plist (S.getD k 0).toNat (pups S k s).2).2)
def psz (s : St) : List Int × St := plist (pnum s).1.toNat (pnum s).2
def pdim (s : St) : (List Int × List (List Int)) × St :=
  (((psz s).1, (pups (psz s).1 ((psz s).1.length - 1) (psz s).2).1), (pups (psz s).1 ((psz s).1.length - 1) (psz s).2).2)
def pdims : Nat → St → Dims × St
  | 0, s => ([], s)
  | k + 1, s => ((pdims k s).1 ++ [(pdim (pdims k s).2).1], (pdim (pdims k s).2).2)
def pall (b : List Int) : Dims × St := pdims (pnum (pnum (some b)).2).1.toNat (pnum (pnum (some b)).2).2
def pread (b : List Int) : Option (Dims × Int) :=
  if (pall b).2 = some [] ∧ goodC (pall b).1 (pnum (some b)).1 = true then some ((pall b).1, (pnum (some b)).1) else none

theorem pnum_none : pnum none = (0, none) := rfl
theorem pnum_nil : pnum (some []) = (0, none) := rfl
theorem pnum_yes {x : Int} {r : List Int} (h : x ≤ 40) : pnum (some (x :: r)) = (x, some r) := by show (if x ≤ 40 then _ else _) = _; rw [if_pos h]
theorem pnum_no {x : Int} {r : List Int} (h : ¬ x ≤ 40) : pnum (some (x :: r)) = (0, none) := by show (if x ≤ 40 then _ else _) = _; rw [if_neg h]
/-- No number is below 0. -/
def NN (s : St) : Prop := ∀ l, s = some l → ∀ x ∈ l, 0 ≤ x
theorem pnum_nn {s : St} (h : NN s) : NN (pnum s).2 := by
  match s with
  | none => exact h
  | some [] => intro l hl; cases hl
  | some (x :: r) =>
    by_cases hx : x ≤ 40
    · rw [pnum_yes hx]; intro l hl y hy; cases hl; exact h _ rfl y (by simp [hy])
    · rw [pnum_no hx]; intro l hl; cases hl
theorem pnum_bd {s : St} (h : NN s) : 0 ≤ (pnum s).1 ∧ (pnum s).1 ≤ 40 := by
  match s with
  | none => exact ⟨by decide, by decide⟩
  | some [] => exact ⟨by decide, by decide⟩
  | some (x :: r) =>
    by_cases hx : x ≤ 40
    · rw [pnum_yes hx]; exact ⟨h _ rfl x (by simp), hx⟩
    · rw [pnum_no hx]; exact ⟨by decide, by decide⟩
theorem plist_nn {s : St} (h : NN s) (n : Nat) : NN (plist n s).2 := by
  induction n with
  | zero => exact h
  | succ n ih => exact pnum_nn ih
theorem plist_len (n : Nat) (s : St) : (plist n s).1.length = n := by
  induction n with
  | zero => rfl
  | succ n ih => show ((plist n s).1 ++ [_]).length = n + 1; rw [List.length_append, ih]; rfl
theorem plist_bd {s : St} (h : NN s) (n : Nat) : ∀ x ∈ (plist n s).1, 0 ≤ x ∧ x ≤ 40 := by
  induction n with
  | zero => intro x hx; simp [plist] at hx
  | succ n ih =>
    intro x hx
    replace hx : x ∈ (plist n s).1 ++ [(pnum (plist n s).2).1] := hx
    rw [List.mem_append, List.mem_singleton] at hx
    rcases hx with hx | rfl
    · exact ih x hx
    · exact pnum_bd (plist_nn h n)
theorem pups_nn {s : St} (h : NN s) (S : List Int) (k : Nat) : NN (pups S k s).2 := by
  induction k with
  | zero => exact h
  | succ k ih => exact plist_nn ih _
theorem pups_len (S : List Int) (k : Nat) (s : St) : (pups S k s).1.length = k := by
  induction k with
  | zero => rfl
  | succ k ih => show ((pups S k s).1 ++ [_]).length = k + 1; rw [List.length_append, ih]; rfl
theorem pups_bd {s : St} (h : NN s) (S : List Int) (k : Nat) : ∀ l ∈ (pups S k s).1, ∀ x ∈ l, 0 ≤ x ∧ x ≤ 40 := by
  induction k with
  | zero => intro l hl; simp [pups] at hl
  | succ k ih =>
    intro l hl
    replace hl : l ∈ (pups S k s).1 ++ [(plist (S.getD k 0).toNat (pups S k s).2).1] := hl
    rw [List.mem_append, List.mem_singleton] at hl
    rcases hl with hl | rfl
    · exact ih l hl
    · exact plist_bd (pups_nn h S k) _
theorem psz_nn {s : St} (h : NN s) : NN (psz s).2 := plist_nn (pnum_nn h) _
theorem pdim_nn {s : St} (h : NN s) : NN (pdim s).2 := pups_nn (psz_nn h) _ _
theorem pdims_nn {s : St} (h : NN s) (k : Nat) : NN (pdims k s).2 := by
  induction k with
  | zero => exact h
  | succ k ih => exact pdim_nn ih
theorem pdims_len (k : Nat) (s : St) : (pdims k s).1.length = k := by
  induction k with
  | zero => rfl
  | succ k ih => show ((pdims k s).1 ++ [_]).length = k + 1; rw [List.length_append, ih]; rfl

/-! Where one is stuck, one stays so. -/
theorem plist_none (n : Nat) : (plist n none).2 = none := by
  induction n with
  | zero => rfl
  | succ n ih => show (pnum (plist n none).2).2 = none; rw [ih]; rfl
theorem pups_none (S : List Int) (k : Nat) : (pups S k none).2 = none := by
  induction k with
  | zero => rfl
  | succ k ih => show (plist _ (pups S k none).2).2 = none; rw [ih]; exact plist_none _
theorem pdim_none : (pdim none).2 = none := by
  show (pups _ _ (psz none).2).2 = none
  have : (psz none).2 = none := plist_none _
  rw [this]; exact pups_none _ _
theorem plist_stuck {s : St} {k n : Nat} (hk : k ≤ n) (h : (plist k s).2 = none) : (plist n s).2 = none := by
  induction n with
  | zero => obtain rfl : k = 0 := by omega
            exact h
  | succ n ih =>
    by_cases e : k = n + 1
    · subst e; exact h
    · show (pnum (plist n s).2).2 = none; rw [ih (by omega)]; rfl
theorem pups_stuck {S : List Int} {s : St} {k n : Nat} (hk : k ≤ n) (h : (pups S k s).2 = none) : (pups S n s).2 = none := by
  induction n with
  | zero => obtain rfl : k = 0 := by omega
            exact h
  | succ n ih =>
    by_cases e : k = n + 1
    · subst e; exact h
    · show (plist _ (pups S n s).2).2 = none; rw [ih (by omega)]; exact plist_none _
theorem pdims_stuck {s : St} {k n : Nat} (hk : k ≤ n) (h : (pdims k s).2 = none) : (pdims n s).2 = none := by
  induction n with
  | zero => obtain rfl : k = 0 := by omega
            exact h
  | succ n ih =>
    by_cases e : k = n + 1
    · subst e; exact h
    · show (pdim (pdims n s).2).2 = none; rw [ih (by omega)]; exact pdim_none

/-! What is read stood there. -/
theorem pnum_was {s : St} {r : List Int} (h : (pnum s).2 = some r) : s = some ((pnum s).1 :: r) := by
  match s with
  | none => cases h
  | some [] => cases h
  | some (x :: r') =>
    by_cases hx : x ≤ 40
    · rw [pnum_yes hx] at h ⊢; cases h; rfl
    · rw [pnum_no hx] at h; cases h
theorem plist_was {n : Nat} {s : St} {r : List Int} (h : (plist n s).2 = some r) : s = some ((plist n s).1 ++ r) := by
  induction n generalizing r with
  | zero => simpa [plist] using h
  | succ n ih =>
    have h1 := pnum_was h
    have h2 := ih h1
    show s = some (((plist n s).1 ++ [(pnum (plist n s).2).1]) ++ r)
    rw [List.append_assoc]
    exact h2
theorem pups_was {S : List Int} {k : Nat} {s : St} {r : List Int} (h : (pups S k s).2 = some r) : s = some ((pups S k s).1.flatten ++ r) := by
  induction k generalizing r with
  | zero => simpa [pups] using h
  | succ k ih =>
    have h1 := plist_was h
    have h2 := ih h1
    show s = some (((pups S k s).1 ++ [(plist (S.getD k 0).toNat (pups S k s).2).1]).flatten ++ r)
    rw [List.flatten_append, List.flatten_singleton, List.append_assoc]
    exact h2
theorem pdim_was {s : St} {r : List Int} (hn : NN s) (h : (pdim s).2 = some r) : s = some (numsD (pdim s).1 ++ r) := by
  have h1 := pups_was h
  have h2 := plist_was h1
  have h3 := pnum_was h2
  have h4 : ((psz s).1.length : Int) = (pnum s).1 := by
    have e : (psz s).1.length = (pnum s).1.toNat := plist_len _ _
    have := (pnum_bd hn).1
    omega
  have e : numsD (pdim s).1 ++ r = (pnum s).1 :: ((psz s).1 ++ ((pups (psz s).1 ((psz s).1.length - 1) (psz s).2).1.flatten ++ r)) := by
    unfold numsD pdim
    simp only [List.cons_append, List.append_assoc]
    rw [h4]
  rw [e]
  exact h3
theorem pdims_was {k : Nat} {s : St} {r : List Int} (hn : NN s) (h : (pdims k s).2 = some r) : s = some ((pdims k s).1.flatMap numsD ++ r) := by
  induction k generalizing r with
  | zero => simpa [pdims] using h
  | succ k ih =>
    have h1 := pdim_was (pdims_nn hn k) h
    have h2 := ih h1
    show s = some (((pdims k s).1 ++ [(pdim (pdims k s).2).1]).flatMap numsD ++ r)
    rw [List.flatMap_append, List.flatMap_singleton, List.append_assoc]
    exact h2
theorem pread_was {b : List Int} {ds : Dims} {M : Int} (hn : ∀ x ∈ b, 0 ≤ x) (h : pread b = some (ds, M)) : goodC ds M = true ∧ nums ds M = b := by
  unfold pread at h
  split at h
  · rename_i hc
    obtain ⟨h1, h2⟩ := hc
    cases h
    have n0 : NN (some b) := fun l hl => by cases hl; exact hn
    have n1 := pnum_nn n0
    have n2 := pnum_nn n1
    have h3 := pdims_was n2 h1
    have h4 := pnum_was h3
    have h5 := pnum_was h4
    have h6 : ((pall b).1.length : Int) = (pnum (pnum (some b)).2).1 := by
      have e : (pall b).1.length = (pnum (pnum (some b)).2).1.toNat := pdims_len _ _
      have := (pnum_bd n1).1
      omega
    refine ⟨h2, ?_⟩
    unfold nums
    rw [h6]
    have := Option.some.inj h5
    rw [List.append_nil] at this
    exact this.symm
  · cases h

/-! What stands there is read. -/
theorem plist_is (L r : List Int) (h : ∀ x ∈ L, x ≤ 40) : plist L.length (some (L ++ r)) = (L, some r) := by
  have key : ∀ (n : Nat) (L r : List Int), L.length = n → (∀ x ∈ L, x ≤ 40) → plist n (some (L ++ r)) = (L, some r) := by
    intro n
    induction n with
    | zero => intro L r hl _; have : L = [] := List.length_eq_zero_iff.mp hl; subst this; rfl
    | succ n ih =>
      intro L r hl hx
      have hne : L ≠ [] := by intro e; subst e; simp at hl
      have e1 : L.dropLast ++ [L.getLast hne] = L := List.dropLast_concat_getLast hne
      have e2 := ih L.dropLast (L.getLast hne :: r) (by rw [List.length_dropLast, hl]; rfl) (fun x hx' => hx x (List.dropLast_subset _ hx'))
      have e3 : L ++ r = L.dropLast ++ (L.getLast hne :: r) := by
        conv => lhs; rw [← e1]
        simp
      have e4 := pnum_yes (x := L.getLast hne) (r := r) (hx _ (List.getLast_mem hne))
      show ((plist n (some (L ++ r))).1 ++ [(pnum (plist n (some (L ++ r))).2).1], (pnum (plist n (some (L ++ r))).2).2) = (L, some r)
      rw [e3, e2]
      simp only [e4, e1]
  exact key L.length L r rfl h
theorem pups_is (S : List Int) (U : List (List Int)) (r : List Int) (h : ∀ k, k < U.length → ((U.getD k []).length : Int) = S.getD k 0 ∧ ∀ x ∈ U.getD k [], x ≤ 40) (k : Nat) (hk : k ≤ U.length) :
    pups S k (some ((U.take k).flatten ++ r)) = (U.take k, some r) := by
  induction k generalizing r with
  | zero => simp [pups]
  | succ k ih =>
    have e1 : U.take (k + 1) = U.take k ++ [U.getD k []] := by
      rw [List.take_add_one, List.getD_eq_getElem?_getD, List.getElem?_eq_getElem (by omega)]; simp
    have e2 := ih (U.getD k [] ++ r) (by omega)
    obtain ⟨h1, h2⟩ := h k (by omega)
    have e3 := plist_is (U.getD k []) r h2
    have e4 : (S.getD k 0).toNat = (U.getD k []).length := by omega
    have e5 : (U.take (k + 1)).flatten ++ r = (U.take k).flatten ++ (U.getD k [] ++ r) := by rw [e1]; simp
    show ((pups S k (some ((U.take (k + 1)).flatten ++ r))).1 ++ [(plist (S.getD k 0).toNat (pups S k (some ((U.take (k + 1)).flatten ++ r))).2).1], (plist (S.getD k 0).toNat (pups S k (some ((U.take (k + 1)).flatten ++ r))).2).2) = _
    rw [e5, e2, e4]
    simp only [e3, e1]
theorem pdim_is {d : List Int × List (List Int)} (hd : good d.1 d.2 = true) (r : List Int) : pdim (some (numsD d ++ r)) = (d, some r) := by
  obtain ⟨S, U⟩ := d
  replace hd : good S U = true := hd
  have sm := numsD_small (d := (S, U)) hd
  have g := good_p hd
  have e0 : numsD (S, U) ++ r = (S.length : Int) :: (S ++ (U.flatten ++ r)) := by unfold numsD; simp
  have e1 : pnum (some (numsD (S, U) ++ r)) = ((S.length : Int), some (S ++ (U.flatten ++ r))) := by
    rw [e0]; exact pnum_yes (by have := g.2.1; omega)
  have e2 : psz (some (numsD (S, U) ++ r)) = (S, some (U.flatten ++ r)) := by
    unfold psz; rw [e1]
    show plist ((S.length : Int)).toNat _ = _
    rw [Int.toNat_natCast]
    exact plist_is S _ (fun x hx => (g.2.2.2.1 x hx).2)
  have e3 := pups_is S U r (fun k hk => ⟨(g.2.2.2.2 k hk).1, fun x hx => by
    have a := (g.2.2.2.2 k hk).2 x hx
    have b := sizes_bd hd (k := k + 1) (by have := g.2.2.1; omega)
    omega⟩) U.length (Nat.le_refl _)
  rw [List.take_length] at e3
  unfold pdim
  rw [e2]
  simp only
  rw [show S.length - 1 = U.length by have := g.2.2.1; omega, e3]
theorem pdims_is (ds : Dims) (r : List Int) (h : ∀ d ∈ ds, good d.1 d.2 = true) : pdims ds.length (some (ds.flatMap numsD ++ r)) = (ds, some r) := by
  have key : ∀ (n : Nat) (L : Dims) (r : List Int), L.length = n → (∀ d ∈ L, good d.1 d.2 = true) → pdims n (some (L.flatMap numsD ++ r)) = (L, some r) := by
    intro n
    induction n with
    | zero => intro L r hl _; have : L = [] := List.length_eq_zero_iff.mp hl; subst this; rfl
    | succ n ih =>
      intro L r hl hx
      have hne : L ≠ [] := by intro e; subst e; simp at hl
      have e1 : L.dropLast ++ [L.getLast hne] = L := List.dropLast_concat_getLast hne
      have e2 := ih L.dropLast (numsD (L.getLast hne) ++ r) (by rw [List.length_dropLast, hl]; rfl) (fun x hx' => hx x (List.dropLast_subset _ hx'))
      have e3 : L.flatMap numsD ++ r = L.dropLast.flatMap numsD ++ (numsD (L.getLast hne) ++ r) := by
        conv => lhs; rw [← e1]
        simp
      have e4 := pdim_is (hx _ (List.getLast_mem hne)) r
      show ((pdims n (some (L.flatMap numsD ++ r))).1 ++ [(pdim (pdims n (some (L.flatMap numsD ++ r))).2).1], (pdim (pdims n (some (L.flatMap numsD ++ r))).2).2) = (L, some r)
      rw [e3, e2]
      simp only [e4, e1]
  exact key ds.length ds r rfl h
theorem pread_is {ds : Dims} {M : Int} (h : goodC ds M = true) : pread (nums ds M) = some (ds, M) := by
  have g := goodC_p h
  have e1 : pnum (some (nums ds M)) = (M, some ((ds.length : Int) :: ds.flatMap numsD)) := pnum_yes (by omega)
  have e2 : pnum (some ((ds.length : Int) :: ds.flatMap numsD)) = ((ds.length : Int), some (ds.flatMap numsD)) := pnum_yes (by omega)
  have e3 := pdims_is ds [] g.2.2.2.2
  rw [List.append_nil] at e3
  have e4 : pall (nums ds M) = (ds, some []) := by
    unfold pall
    rw [e1]
    simp only [e2]
    rw [Int.toNat_natCast]
    exact e3
  unfold pread
  rw [e4, e1]
  simp only
  rw [if_pos ⟨by trivial, h⟩]
theorem pread_none {b : List Int} (hn : ∀ x ∈ b, 0 ≤ x) (h : ¬ IsCat b) : pread b = none := by
  cases e : pread b with
  | none => rfl
  | some x => obtain ⟨ds, M⟩ := x; exact absurd ⟨ds, M, pread_was hn e⟩ h

end Go.Proofs.Ytmlnfpefemchhaa

/-
  How often a row stands in a list; rows turned round.
  Conditions: as each theorem states them.
-/
import Derived.Test.YtikgbcdmeikjfaaRTc
import Derived.Test.YtikgbcdmeikjfaaRXa
namespace Go.Proofs.Ytikgbcdmeikjfaa
open Go.ChangeShapes Go.WideShapes Go.ChangeAt Go.RowKit
set_option linter.unusedVariables false
set_option linter.unusedSimpArgs false
set_option maxRecDepth 100000

def cnt (x : Rw) : List Rw → Nat
  | [] => 0
  | y :: l => (if qr y x then 1 else 0) + cnt x l
theorem cnt_app (x : Rw) (l m : List Rw) : cnt x (l ++ m) = cnt x l + cnt x m := by
  induction l with
  | nil => simp [cnt]
  | cons y l ih => simp only [List.cons_append, cnt, ih]; omega
theorem cnt_yes {x y : Rw} {l : List Rw} {j : Nat} (h : l[j]? = some y) (hq : qr y x = true) : cnt x (l.take (j + 1)) = cnt x (l.take j) + 1 := by
  rw [List.take_add_one, h, cnt_app]; simp [cnt, hq]
theorem cnt_no {x y : Rw} {l : List Rw} {j : Nat} (h : l[j]? = some y) (hq : qr y x = false) : cnt x (l.take (j + 1)) = cnt x (l.take j) := by
  rw [List.take_add_one, h, cnt_app]; simp [cnt, hq]
theorem cnt_perm (x : Rw) {l m : List Rw} (h : l.Perm m) : cnt x l = cnt x m := by
  induction h with
  | nil => rfl
  | cons a _ ih => simp only [cnt, ih]
  | swap a b l => simp only [cnt]; omega
  | trans _ _ h1 h2 => exact h1.trans h2
theorem cnt_le (x : Rw) (l : List Rw) : cnt x l ≤ l.length := by
  induction l with
  | nil => exact Nat.le_refl _
  | cons y l ih => simp only [cnt, List.length_cons]; split <;> omega
theorem turn_perm (l : List Rw) (k : Nat) : (l.drop k ++ l.take k).Perm l := by
  have := (List.perm_append_comm (l₁ := l.drop k) (l₂ := l.take k))
  rw [List.take_append_drop] at this
  exact this
theorem srt_turn {l : List Rw} (hl : ∀ r ∈ l, rok r) (k : Nat) : srt (l.drop k ++ l.take k) = srt l := srt_same hl (turn_perm l k)
theorem srt_next {l : List Rw} {k : Nat} {x y : Rw} (hx : (srt l)[k]? = some x) (hy : (srt l)[k + 1]? = some y) : rlt y x = false := by
  obtain ⟨h1, rfl⟩ := List.getElem?_eq_some_iff.1 hx
  obtain ⟨h2, rfl⟩ := List.getElem?_eq_some_iff.1 hy
  exact List.pairwise_iff_getElem.mp (srt_sorted l) k (k + 1) h1 h2 (by omega)

end Go.Proofs.Ytikgbcdmeikjfaa

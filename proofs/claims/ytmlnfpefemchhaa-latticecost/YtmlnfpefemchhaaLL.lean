/-
  Nodes dimension by dimension: the list that the document makes is the list of all.
  Conditions: as each theorem states them.
-/
import Derived.Test.YtmlnfpefemchhaaLF
namespace Go.Proofs.Ytmlnfpefemchhaa
open Go.RowKit
set_option linter.unusedVariables false
set_option linter.unusedSimpArgs false

/-- A node with another number in one dimension. -/
def setN (v : Nd) (i : Nat) (m : Int) : Nd := if i = 0 then (m, v.2.1, v.2.2.1, v.2.2.2) else if i = 1 then (v.1, m, v.2.2.1, v.2.2.2) else if i = 2 then (v.1, v.2.1, m, v.2.2.2) else (v.1, v.2.1, v.2.2.1, m)
/-- All numbers of one dimension. -/
def fanN (i t : Nat) (v : Nd) : List Nd := (List.range (t + 1)).map (fun (m : Nat) => setN v i (m : Int))
/-- All nodes of the first so many dimensions. -/
def extN (t : Nat → Nat) : Nat → List Nd
  | 0 => [(0, 0, 0, 0)]
  | i + 1 => (extN t i).flatMap (fanN i (t i))
theorem fanN_len (i t : Nat) (v : Nd) : (fanN i t v).length = t + 1 := by simp [fanN]
theorem extN_len (t : Nat → Nat) (ht : ∀ i, t i ≤ 4) (i : Nat) : (extN t i).length ≤ 5 ^ i := by
  induction i with
  | zero => simp [extN]
  | succ i ih =>
    rw [extN, flat_len _ _ _ (fanN_len i (t i)), Nat.pow_succ]
    exact Nat.mul_le_mul ih (by have := ht i; omega)
theorem extN_4 (t : Nat → Nat) : extN t 4 = allN (t 0) (t 1) (t 2) (t 3) := by
  simp only [extN]
  unfold allN nA nB nC fanN
  simp [List.flatMap_assoc, List.flatMap_map, setN]
theorem flat_single {α β : Type} (l : List α) (g : α → β) : l.flatMap (fun x => [g x]) = l.map g := by
  induction l with
  | nil => rfl
  | cons x r ih => rw [List.flatMap_cons, List.map_cons, ih]; rfl
theorem range_1 : List.range (0 + 1) = [0] := rfl
theorem extN_beyond (t : Nat → Nat) (n : Nat) (hn : n ≤ 4) (h1 : 1 ≤ n) (ht : ∀ i, n ≤ i → t i = 0) : extN t n = allN (t 0) (t 1) (t 2) (t 3) := by
  rw [← extN_4]
  have : n = 1 ∨ n = 2 ∨ n = 3 ∨ n = 4 := by omega
  rcases this with rfl | rfl | rfl | rfl
  · have t1 := ht 1 (by omega); have t2 := ht 2 (by omega); have t3 := ht 3 (by omega)
    simp [extN, fanN, t1, t2, t3, setN, List.flatMap_map, List.flatMap_assoc, range_1, flat_single]
  · have t2 := ht 2 (by omega); have t3 := ht 3 (by omega)
    simp [extN, fanN, t2, t3, setN, List.flatMap_map, List.flatMap_assoc, range_1, flat_single]
  · have t3 := ht 3 (by omega)
    simp [extN, fanN, t3, setN, List.flatMap_map, List.flatMap_assoc, range_1, flat_single]
  · rfl
/-- The list so far: of the first so many nodes all, of the next one the first so many. -/
def partN (L : List Nd) (i t k m : Nat) (v : Nd) : List Nd := (L.take k).flatMap (fanN i t) ++ (List.range m).map (fun (m : Nat) => setN v i (m : Int))
theorem partN_0 (L : List Nd) (i t k : Nat) (v : Nd) : partN L i t k 0 v = (L.take k).flatMap (fanN i t) := by simp [partN]
theorem partN_succ (L : List Nd) (i t k m : Nat) (v : Nd) : partN L i t k (m + 1) v = partN L i t k m v ++ [setN v i (m : Int)] := by
  unfold partN; rw [List.range_succ]; simp
theorem partN_all (L : List Nd) (i t k : Nat) (v : Nd) (h : L[k]? = some v) : partN L i t k (t + 1) v = (L.take (k + 1)).flatMap (fanN i t) := by
  unfold partN
  rw [List.take_add_one, h]
  simp [fanN]
theorem partN_len (L : List Nd) (i t k m : Nat) (v : Nd) (ht : t ≤ 4) (hL : L.length ≤ 625) (hm : m ≤ 5) : (partN L i t k m v).length ≤ 4000 := by
  unfold partN
  rw [List.length_append, flat_len _ _ _ (fanN_len i t), List.length_map, List.length_range]
  have : (L.take k).length ≤ 625 := Nat.le_trans (List.length_take_le' _ _) hL
  have : (L.take k).length * (t + 1) ≤ 625 * 5 := Nat.mul_le_mul this (by omega)
  omega

end Go.Proofs.Ytmlnfpefemchhaa

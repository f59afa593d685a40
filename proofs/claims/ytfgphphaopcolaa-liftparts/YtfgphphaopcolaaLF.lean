/-
  All nodes of a catalog, one behind the other, as a list: its beginnings, its length, its order.
  Conditions: as each theorem states them.
-/
import Derived.Test.YtfgphphaopcolaaLib7
namespace Go.Proofs.Ytfgphphaopcolaa
open Go.RowKit
set_option linter.unusedVariables false
set_option linter.unusedSimpArgs false

def nC (a b c t3 : Nat) : List Nd := (List.range (t3 + 1)).map (fun (d : Nat) => ((a : Int), (b : Int), (c : Int), (d : Int)))
def nB (a b t2 t3 : Nat) : List Nd := (List.range (t2 + 1)).flatMap (fun c => nC a b c t3)
def nA (a t1 t2 t3 : Nat) : List Nd := (List.range (t1 + 1)).flatMap (fun b => nB a b t2 t3)
/-- All nodes below one. -/
def allN (t0 t1 t2 t3 : Nat) : List Nd := (List.range (t0 + 1)).flatMap (fun a => nA a t1 t2 t3)
/-- Those ahead of one. -/
def pref (t1 t2 t3 a b c d : Nat) : List Nd := (List.range a).flatMap (fun a => nA a t1 t2 t3) ++ ((List.range b).flatMap (fun b => nB a b t2 t3) ++ ((List.range c).flatMap (fun c => nC a b c t3) ++ (List.range d).map (fun (d : Nat) => ((a : Int), (b : Int), (c : Int), (d : Int)))))
theorem pref_0 (t1 t2 t3 : Nat) : pref t1 t2 t3 0 0 0 0 = [] := rfl
theorem pref_d (t1 t2 t3 a b c d : Nat) : pref t1 t2 t3 a b c (d + 1) = pref t1 t2 t3 a b c d ++ [((a : Int), (b : Int), (c : Int), (d : Int))] := by
  unfold pref
  rw [List.range_succ]
  simp
theorem pref_c (t1 t2 t3 a b c : Nat) : pref t1 t2 t3 a b (c + 1) 0 = pref t1 t2 t3 a b c (t3 + 1) := by
  unfold pref
  rw [List.range_succ]
  simp [nC]
theorem pref_b (t1 t2 t3 a b : Nat) : pref t1 t2 t3 a (b + 1) 0 0 = pref t1 t2 t3 a b (t2 + 1) 0 := by
  unfold pref
  rw [List.range_succ]
  simp [nB]
theorem pref_a (t1 t2 t3 a : Nat) : pref t1 t2 t3 (a + 1) 0 0 0 = pref t1 t2 t3 a (t1 + 1) 0 0 := by
  unfold pref
  rw [List.range_succ]
  simp [nA]
theorem all_pref (t0 t1 t2 t3 : Nat) : allN t0 t1 t2 t3 = pref t1 t2 t3 (t0 + 1) 0 0 0 := by
  unfold pref allN
  simp
theorem all_last (t0 t1 t2 t3 : Nat) : allN t0 t1 t2 t3 = pref t1 t2 t3 t0 t1 t2 t3 ++ [((t0 : Int), (t1 : Int), (t2 : Int), (t3 : Int))] := by
  rw [all_pref, pref_a, pref_b, pref_c, pref_d]
theorem flat_len {α β : Type} (l : List α) (f : α → List β) (m : Nat) (h : ∀ x, (f x).length = m) : (l.flatMap f).length = l.length * m := by
  induction l with
  | nil => simp
  | cons x r ih => rw [List.flatMap_cons, List.length_append, ih, h, List.length_cons, Nat.succ_mul]; omega
theorem nC_len (a b c t3 : Nat) : (nC a b c t3).length = t3 + 1 := by simp [nC]
theorem nB_len (a b t2 t3 : Nat) : (nB a b t2 t3).length = (t2 + 1) * (t3 + 1) := by
  unfold nB; rw [flat_len _ _ _ (fun c => nC_len a b c t3)]; simp
theorem nA_len (a t1 t2 t3 : Nat) : (nA a t1 t2 t3).length = (t1 + 1) * ((t2 + 1) * (t3 + 1)) := by
  unfold nA; rw [flat_len _ _ _ (fun b => nB_len a b t2 t3)]; simp
theorem allN_len (t0 t1 t2 t3 : Nat) : (allN t0 t1 t2 t3).length = (t0 + 1) * ((t1 + 1) * ((t2 + 1) * (t3 + 1))) := by
  unfold allN; rw [flat_len _ _ _ (fun a => nA_len a t1 t2 t3)]; simp
theorem pref_len {t1 t2 t3 a b c d : Nat} (h1 : t1 ≤ 4) (h2 : t2 ≤ 4) (h3 : t3 ≤ 4) : (pref t1 t2 t3 a b c d).length ≤ a * 125 + b * 25 + c * 5 + d := by
  unfold pref
  simp only [List.length_append]
  rw [flat_len _ _ _ (fun a => nA_len a t1 t2 t3), flat_len _ _ _ (fun b => nB_len a b t2 t3), flat_len _ _ _ (fun c => nC_len a b c t3)]
  simp only [List.length_range, List.length_map]
  have k2 : (t2 + 1) * (t3 + 1) ≤ 5 * 5 := Nat.mul_le_mul (by omega) (by omega)
  have k1 : (t1 + 1) * ((t2 + 1) * (t3 + 1)) ≤ 5 * 25 := Nat.mul_le_mul (by omega) (by omega)
  have j1 : a * ((t1 + 1) * ((t2 + 1) * (t3 + 1))) ≤ a * 125 := Nat.mul_le_mul_left _ (by omega)
  have j2 : b * ((t2 + 1) * (t3 + 1)) ≤ b * 25 := Nat.mul_le_mul_left _ (by omega)
  have j3 : c * (t3 + 1) ≤ c * 5 := Nat.mul_le_mul_left _ (by omega)
  omega
/-- Which nodes are among them. -/
theorem mem_all {t0 t1 t2 t3 : Nat} {x0 x1 x2 x3 : Int} : (x0, x1, x2, x3) ∈ allN t0 t1 t2 t3 ↔ (0 ≤ x0 ∧ x0 ≤ t0) ∧ (0 ≤ x1 ∧ x1 ≤ t1) ∧ (0 ≤ x2 ∧ x2 ≤ t2) ∧ (0 ≤ x3 ∧ x3 ≤ t3) := by
  unfold allN nA nB nC
  simp only [List.mem_flatMap, List.mem_map, List.mem_range, Prod.mk.injEq]
  constructor
  · rintro ⟨a, ha, b, hb, c, hc, d, hd, rfl, rfl, rfl, rfl⟩
    omega
  · rintro ⟨⟨a1, a2⟩, ⟨b1, b2⟩, ⟨c1, c2⟩, ⟨d1, d2⟩⟩
    exact ⟨x0.toNat, by omega, x1.toNat, by omega, x2.toNat, by omega, x3.toNat, by omega, by omega, by omega, by omega, by omega⟩

end Go.Proofs.Ytfgphphaopcolaa

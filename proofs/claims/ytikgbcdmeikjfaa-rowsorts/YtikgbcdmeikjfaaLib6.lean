/-
  Blocks in a world: which are kept, and what a store leaves.
  Conditions: as each theorem states them.
-/
import Derived.Test.YtikgbcdmeikjfaaLib5
import Derived.Laws.Rows
namespace Go.Proofs.Ytikgbcdmeikjfaa
open Go.ChangeShapes Go.WideShapes Go.ChangeAt Go.RowKit
set_option linter.unusedVariables false
set_option linter.unusedSimpArgs false
set_option maxRecDepth 100000

theorem below_grow {w w' : World} (h : Below w.heap.size w w') (row : Option Nat) : w.grownBy w' row := ⟨h.os, h.tape, h.output, h.size, fun k hk _ => h.block k hk⟩
theorem grow_below {w w' : World} {row : Option Nat} {base : Nat} (h : w.grownBy w' row) (hb : base ≤ w.heap.size) (hr : ∀ j, row = some j → base ≤ j) : Below base w w' :=
  ⟨h.os, h.tape, h.output, h.size, fun k hk => h.block k (Nat.lt_of_lt_of_le hk hb) (fun e => by have := hr k e.symm; omega)⟩
theorem box_two {w : World} {D : Nat} {t : TypeId} {s u : Value} (hD : w.heap[D]? = some (.cells #[s, u] t)) : w.cell? ⟨D, 0, none⟩ = some s ∧ w.cell? ⟨D, 1, none⟩ = some u := by
  constructor <;> simp [World.cell?, hD]
theorem set_grown (w : World) (b i : Nat) (v : Value) : w.grownBy (w.setCell ⟨b, i, none⟩ v) (some b) :=
  ⟨rfl, rfl, rfl, by simp, fun k _ hk => Below.heap_setCell _ _ _ _ (fun e => hk (by simp [e]))⟩
theorem heap_lt {w : World} {b : Nat} {o : Obj} (h : w.heap[b]? = some o) : b < w.heap.size := by
  by_cases hh : b < w.heap.size
  · exact hh
  · rw [Array.getElem?_eq_none (by omega)] at h; cases h
theorem kinds_apart {w : World} {i j : Nat} {c d : Array Value} {s t : TypeId} {f g : Nat × Nat} (h : w.heap[i]? = some (.cells c s f)) (k : w.heap[j]? = some (.cells d t g)) (hne : ¬ s = t) : ¬ i = j := by
  rintro rfl
  rw [h] at k
  simp at k
  exact hne k.2.1
theorem grown_keeps {w w' : World} {row : Option Nat} {b : Nat} {o : Obj} (hg : w.grownBy w' row) (h : w.heap[b]? = some o) (hr : ∀ j, row = some j → ¬ j = b) : w'.heap[b]? = some o :=
  (hg.block b (heap_lt h) (fun e => hr b e.symm rfl)).trans h
theorem box4 {w : World} {D : Nat} {t : TypeId} {a b c d : Value} (hD : w.heap[D]? = some (.cells #[a, b, c, d] t)) : w.cell? ⟨D, 0, none⟩ = some a ∧ w.cell? ⟨D, 1, none⟩ = some b ∧ w.cell? ⟨D, 2, none⟩ = some c ∧ w.cell? ⟨D, 3, none⟩ = some d := by
  refine ⟨?_, ?_, ?_, ?_⟩ <;> simp [World.cell?, hD]
theorem keep_blk {w w' : World} {D : Nat} {o : Obj} (h : w.heap[D]? = some o) (hb : Below w.heap.size w w') : w'.heap[D]? = some o := (hb.block D (heap_lt h)).trans h
theorem heap_alloc2 (w : World) (o : Obj) (k : Nat) : (w.alloc o).heap[k]? = if k = w.heap.size then some o else w.heap[k]? := by
  by_cases h : k = w.heap.size
  · rw [if_pos h, h]; exact heap_alloc_new w o
  · rw [if_neg h]
    by_cases h2 : k < w.heap.size
    · exact Below.heap_alloc w o k h2
    · rw [Array.getElem?_eq_none (by simp; omega), Array.getElem?_eq_none (by omega)]
theorem froz4 {w : World} {D : Nat} {t : TypeId} {cs : Array Value} (hD : w.heap[D]? = some (.cells cs t)) : w.frozen? ⟨D, 0, none⟩ = false ∧ w.frozen? ⟨D, 1, none⟩ = false ∧ w.frozen? ⟨D, 2, none⟩ = false ∧ w.frozen? ⟨D, 3, none⟩ = false :=
  ⟨frozen_of_row w D 0 _ _ hD, frozen_of_row w D 1 _ _ hD, frozen_of_row w D 2 _ _ hD, frozen_of_row w D 3 _ _ hD⟩
theorem store4 {w : World} {B : Nat} {t : TypeId} {x0 x1 x2 x3 : Value} (h : w.heap[B]? = some (.cells #[x0, x1, x2, x3] t)) (a b c d : Value) :
    ((((w.setCell ⟨B, 0, none⟩ a).setCell ⟨B, 1, none⟩ b).setCell ⟨B, 2, none⟩ c).setCell ⟨B, 3, none⟩ d).heap[B]? = some (.cells #[a, b, c, d] t) := by
  have h0 := heap_setCell_same w B 0 _ t a h
  have h1 := heap_setCell_same _ B 1 _ t b h0
  have h2 := heap_setCell_same _ B 2 _ t c h1
  have h3 := heap_setCell_same _ B 3 _ t d h2
  exact h3
theorem below4 {w wr : World} {B : Nat} (h : Below w.heap.size w wr) (hB : w.heap.size ≤ B) (a b c d : Value) :
    Below w.heap.size w ((((wr.setCell ⟨B, 0, none⟩ a).setCell ⟨B, 1, none⟩ b).setCell ⟨B, 2, none⟩ c).setCell ⟨B, 3, none⟩ d) :=
  (((h.setCell hB _).setCell hB _).setCell hB _).setCell hB _
theorem cell_in4 {w : World} {D : Nat} {t : TypeId} {a b c d : Value} (hD : w.heap[D]? = some (.cells #[a, b, c, d] t)) {k : Nat} (hk : k < 4) : ∃ v, w.cell? ⟨D, k, none⟩ = some v := by
  obtain ⟨h0, h1, h2, h3⟩ := box4 hD
  have : k = 0 ∨ k = 1 ∨ k = 2 ∨ k = 3 := by omega
  rcases this with rfl | rfl | rfl | rfl
  · exact ⟨_, h0⟩
  · exact ⟨_, h1⟩
  · exact ⟨_, h2⟩
  · exact ⟨_, h3⟩

end Go.Proofs.Ytikgbcdmeikjfaa

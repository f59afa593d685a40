/-
  What lattice.All returns.
  Conditions: as each theorem states them.
-/
import Derived.Test.YtfgphphaopcolaaLG
import Derived.Deep.LoopGhost
import Derived.Deep.Onto
namespace Go.Proofs.Ytfgphphaopcolaa
open Go.ChangeShapes Go.WideShapes Go.ChangeAt Go.RowKit
set_option linter.unusedVariables false
set_option linter.unusedSimpArgs false

theorem info_node : (Try.prog.info? 26).map (fun i => (i.zero, i.size, i.bytes)) = some (some (.agg #[.int .u8 0, .int .u8 0, .int .u8 0, .int .u8 0]), 4, 4) := by kernel_rfl
/-- A node in a block of its own, a row of nodes of one's own beside it. -/
def AllSt (W wr : World) (V : Nat) (x0 x1 x2 x3 : Int) (v : Value) (l : List Nd) : Prop :=
  Below W.heap.size W wr ∧ W.heap.size ≤ V ∧ wr.heap[V]? = some (.cells #[.int .u8 x0, .int .u8 x1, .int .u8 x2, .int .u8 x3] 26) ∧ ¬ v.ownBlock = some V ∧ wr.ownsRow W.heap.size 26 4 v l.length (ncells l)
theorem keep_blk2 {w w' : World} {row : Option Nat} {D : Nat} {o : Obj} (h : w.heap[D]? = some o) (hg : w.grownBy w' row) (hr : ¬ row = some D) : w'.heap[D]? = some o := (hg.block D (heap_lt h) (fun e => hr e.symm)).trans h
theorem and4_true (a b c d : Int) : (a == a && (b == b && (c == c && d == d))) = true := by simp
theorem and4_false {a b c d x y z u : Int} (h : ¬ (a = x ∧ b = y ∧ c = z ∧ d = u)) : (a == x && (b == y && (c == z && d == u))) = false := by
  by_cases h1 : a = x <;> by_cases h2 : b = y <;> by_cases h3 : c = z <;> by_cases h4 : d = u <;> simp [h1, h2, h3, h4]
  exact h ⟨h1, h2, h3, h4⟩

/-- One more node in the row, and the next one in a block of its own. -/
theorem all_step {W wr w3 w4 : World} {V g cap : Nat} {x0 x1 x2 x3 y0 y1 y2 y3 : Int} {v : Value} {l : List Nd} (h : AllSt W wr V x0 x1 x2 x3 v l)
    (ho : w3.ownsRow W.heap.size 26 4 (.slice (some ⟨g, 0, none⟩) (l.length + 1) cap) (l.length + 1) (ncells (l ++ [(x0, x1, x2, x3)]))) (hg : wr.grownBy w3 v.ownBlock)
    (hb : Below (w3.alloc (.cells #[.int .u8 x0, .int .u8 x1, .int .u8 x2, .int .u8 x3] 26)).heap.size (w3.alloc (.cells #[.int .u8 x0, .int .u8 x1, .int .u8 x2, .int .u8 x3] 26)) w4) :
    AllSt W ((((w4.setCell ⟨w3.heap.size, 0, none⟩ (.int .u8 y0)).setCell ⟨w3.heap.size, 1, none⟩ (.int .u8 y1)).setCell ⟨w3.heap.size, 2, none⟩ (.int .u8 y2)).setCell ⟨w3.heap.size, 3, none⟩ (.int .u8 y3)) w3.heap.size y0 y1 y2 y3 (.slice (some ⟨g, 0, none⟩) (l.length + 1) cap) (l ++ [(x0, x1, x2, x3)]) := by
  obtain ⟨h1, h2, h3, h4, h5⟩ := h
  have b3 : Below W.heap.size W w3 := h1.grown hg h1.size (fun j hj => (h5.lt j hj).1)
  have b4 : Below W.heap.size W w4 := (b3.alloc b3.size _).trans (hb.mono (by simp; have := b3.size; omega))
  have k4 : w4.heap[w3.heap.size]? = some (.cells #[.int .u8 x0, .int .u8 x1, .int .u8 x2, .int .u8 x3] 26) := keep_blk (heap_alloc_new w3 _) hb
  have hlt := (ho.lt g rfl).2
  have o4 : w4.ownsRow W.heap.size 26 4 (.slice (some ⟨g, 0, none⟩) (l.length + 1) cap) (l.length + 1) (ncells (l ++ [(x0, x1, x2, x3)])) := (ho.alloc _).kept (below_grow hb none) (.inr (fun e => by cases e))
  have st : ∀ (w' : World) (i : Nat) (u : Value), w'.ownsRow W.heap.size 26 4 (.slice (some ⟨g, 0, none⟩) (l.length + 1) cap) (l.length + 1) (ncells (l ++ [(x0, x1, x2, x3)])) → (w'.setCell ⟨w3.heap.size, i, none⟩ u).ownsRow W.heap.size 26 4 (.slice (some ⟨g, 0, none⟩) (l.length + 1) cap) (l.length + 1) (ncells (l ++ [(x0, x1, x2, x3)])) :=
    fun w' i u hw => hw.kept (set_grown w' w3.heap.size i u) (.inr (fun e => by have e' : some g = some w3.heap.size := e; cases e'; omega))
  refine ⟨below4 b4 b3.size _ _ _ _, b3.size, store4 k4 _ _ _ _, fun e => ?_, ?_⟩
  · have e' : some g = some w3.heap.size := e
    cases e'; omega
  · rw [show (l ++ [(x0, x1, x2, x3)]).length = l.length + 1 by simp]
    exact st _ 3 _ (st _ 2 _ (st _ 1 _ (st _ 0 _ o4)))

end Go.Proofs.Ytfgphphaopcolaa

/-
  What lattice.top, Whole, Good return, and the document's own Whole, Good.
  Conditions: as each theorem states them.
-/
import Derived.Test.YtikgbcdmeikjfaaLC
import Derived.Test.YtikgbcdmeikjfaaLib6
namespace Go.Proofs.Ytikgbcdmeikjfaa
open Go.ChangeShapes Go.WideShapes Go.ChangeAt Go.RowKit
set_option linter.unusedVariables false
set_option linter.unusedSimpArgs false
set_option maxRecDepth 100000

/-- The whole of a dimension; 0 beyond. -/
def whl (ds : Dims) (k : Nat) : Int := if k < ds.length then ((ds.getD k ([], [])).1.length : Int) else 0
/-- That of a catalog, 0 of one that may not be. -/
def tp (ds : Dims) (M : Int) (k : Nat) : Int := if goodC ds M then whl ds k else 0
theorem tp_bad {ds : Dims} {M : Int} (h : goodC ds M = false) (k : Nat) : tp ds M k = 0 := by unfold tp; rw [h]; rfl
theorem tp_good {ds : Dims} {M : Int} (h : goodC ds M = true) (k : Nat) : tp ds M k = whl ds k := by unfold tp; rw [if_pos h]
theorem whl_out {ds : Dims} {k : Nat} (h : ds.length ≤ k) : whl ds k = 0 := by unfold whl; rw [if_neg (by omega)]
theorem whl_at {ds : Dims} {k : Nat} {S : List Int} {U : List (List Int)} (hk : k < ds.length) (h : ds.getD k ([], []) = (S, U)) : whl ds k = S.length := by unfold whl; rw [if_pos hk, h]
theorem whl_bd {ds : Dims} {M : Int} (h : goodC ds M = true) (k : Nat) : 0 ≤ whl ds k ∧ whl ds k ≤ 4 := by
  by_cases hk : k < ds.length
  · have := dims_good (S := (ds.getD k ([], [])).1) (U := (ds.getD k ([], [])).2) h hk rfl
    have g := (good_p this).2.1
    rw [whl_at (S := (ds.getD k ([], [])).1) (U := (ds.getD k ([], [])).2) hk rfl]; omega
  · rw [whl_out (by omega)]; decide
theorem tp_bd (ds : Dims) (M : Int) (k : Nat) : 0 ≤ tp ds M k ∧ tp ds M k ≤ 4 := by
  cases h : goodC ds M with
  | false => rw [tp_bad h]; decide
  | true => rw [tp_good h]; exact whl_bd h k

/-- The first so many wholes. -/
def pre (ds : Dims) (k j : Nat) : Int := if j < k then whl ds j else 0
theorem pre_all {ds : Dims} {k : Nat} (h : k = ds.length) (j : Nat) : pre ds k j = whl ds j := by
  unfold pre
  by_cases hj : j < k
  · rw [if_pos hj]
  · rw [if_neg hj, whl_out (by omega)]
theorem pre_put {ds : Dims} {k : Nat} (hk : k < 4) (sl : Nat) (hw : whl ds k = sl) : #[Value.int .u8 (pre ds k 0), Value.int .u8 (pre ds k 1), Value.int .u8 (pre ds k 2), Value.int .u8 (pre ds k 3)].setIfInBounds k (.int .u8 sl) = #[Value.int .u8 (pre ds (k + 1) 0), Value.int .u8 (pre ds (k + 1) 1), Value.int .u8 (pre ds (k + 1) 2), Value.int .u8 (pre ds (k + 1) 3)] := by
  have : k = 0 ∨ k = 1 ∨ k = 2 ∨ k = 3 := by omega
  rcases this with rfl | rfl | rfl | rfl <;> simp [pre, hw]
/-- A catalog in its box, the result's block, the whole's block. -/
def T4 (w wr : World) (s u : Value) (q cs : Array Value) : Prop :=
  Below w.heap.size w wr ∧ wr.heap[w.heap.size]? = some (.cells #[s, u] 24) ∧ wr.heap[w.heap.size + 1]? = some (.cells q 65) ∧ wr.heap[w.heap.size + 2]? = some (.cells cs 65)
theorem T4.step {w wr w' : World} {s u : Value} {q cs : Array Value} (h : T4 w wr s u q cs) (hb : Below wr.heap.size wr w') : T4 w w' s u q cs :=
  ⟨bt h.1 hb, keep_blk h.2.1 hb, keep_blk h.2.2.1 hb, keep_blk h.2.2.2 hb⟩
theorem T4.put {w wr : World} {s u : Value} {q cs cs' : Array Value} (h : T4 w wr s u q cs) (j : Nat) (v : Value) (e : cs.setIfInBounds j v = cs') : T4 w (wr.setCell ⟨w.heap.size + 2, j, none⟩ v) s u q cs' := by
  obtain ⟨h1, h2, h3, h4⟩ := h
  refine ⟨h1.setCell (by simp) _, ?_, ?_, ?_⟩
  · rw [Below.heap_setCell _ _ _ _ (by simp)]; exact h2
  · rw [Below.heap_setCell _ _ _ _ (by simp)]; exact h3
  · rw [← e]; exact heap_setCell_same wr _ j _ _ _ h4
theorem t4_new (w : World) (s u : Value) : T4 w (((w.alloc (.cells #[s, u] 24)).alloc (.cells #[.int .u8 0, .int .u8 0, .int .u8 0, .int .u8 0] 65)).alloc (.cells #[.int .u8 0, .int .u8 0, .int .u8 0, .int .u8 0] 65)) s u #[.int .u8 0, .int .u8 0, .int .u8 0, .int .u8 0] #[.int .u8 0, .int .u8 0, .int .u8 0, .int .u8 0] := by
  refine ⟨(((Below.refl _ _).alloc (Nat.le_refl _) _).alloc (by simp) _).alloc (by simp; omega) _, ?_, ?_, ?_⟩ <;> simp only [heap_alloc2, World.size_alloc]
  · rw [if_neg (by omega), if_neg (by omega)]; simp
  · rw [if_neg (by omega)]; simp
  · simp

theorem bx2 (w : World) (s u : Value) (t : TypeId) (o : Obj) : Below w.heap.size w ((w.alloc (.cells #[s, u] t)).alloc o) := ((Below.refl _ _).alloc (Nat.le_refl _) _).alloc (by simp) _

end Go.Proofs.Ytikgbcdmeikjfaa

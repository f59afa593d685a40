/-
  Blocks that are kept while one of them is written; whole rows stored; lines in a world.
  Conditions: as each theorem states them.
-/
import Derived.Test.YtjkkajhjcinalaaD9
import Derived.Deep.MidRow
namespace Go.Proofs.Ytjkkajhjcinalaa
open Go.ChangeShapes Go.WideShapes Go.ChangeAt Go.RowKit
set_option linter.unusedVariables false
set_option linter.unusedSimpArgs false
set_option maxRecDepth 100000

theorem setCells_heap (g : Nat) (t : TypeId) : ∀ (vs : List Value) (o : Nat) (w : World) (cs : Array Value), w.heap[g]? = some (.cells cs t) → ∃ cs', (w.setCells g o vs).heap[g]? = some (.cells cs' t) ∧ cs'.size = cs.size
  | [], _, w, cs, h => ⟨cs, h, rfl⟩
  | v :: r, o, w, cs, h => by
    rw [World.setCells]
    obtain ⟨cs', h1, h2⟩ := setCells_heap g t r (o + 1) _ _ (heap_setCell_same w g o cs t v h)
    exact ⟨cs', h1, by rw [h2]; simp⟩
theorem setCells_grown (g : Nat) : ∀ (vs : List Value) (o : Nat) (w : World), w.grownBy (w.setCells g o vs) (some g)
  | [], _, w => ⟨rfl, rfl, rfl, Nat.le_refl _, fun _ _ _ => rfl⟩
  | v :: r, o, w => by
    rw [World.setCells]
    have h1 := set_grown w g o v
    have h2 := setCells_grown g r (o + 1) (w.setCell ⟨g, o, none⟩ v)
    exact ⟨h2.os.trans h1.os, h2.tape.trans h1.tape, h2.output.trans h1.output, Nat.le_trans h1.size h2.size, fun k hk hne => (h2.block k (Nat.lt_of_lt_of_le hk h1.size) hne).trans (h1.block k hk hne)⟩
/-- A whole row is stored: the block holds it; no other block is turned. -/
theorem wpList_store_whole {P : Program} {ops : Array Oper} {rest : List Oper} {o : Oper} {a : Act} {w : World} {Q : Exit → Act → World → Prop} (hgd : o.guard = none) (ty : TypeId) (x y : Operand) (ho : o.op = .store ty x y)
    (g : Nat) (X : Array Value) (hx : a.eval x = .pointer (some ⟨g, 0, none⟩)) (hy : a.eval y = .agg X) (t : TypeId) (cs : Array Value) (hg : w.heap[g]? = some (.cells cs t)) (hs : cs.size = X.size)
    (hi : (P.info? ty).map (·.size) = some X.size) (h1 : ∀ v ∈ X.toList, v.oneCell' = true)
    (h : ∀ w', w'.heap[g]? = some (.cells X t) → w.grownBy w' (some g) → wpList P ops Q rest (a.put o.dst undef) w') : wpList P ops Q (o :: rest) a w := by
  have ht : w.there g 0 X.size := fun j hj => by
    constructor
    · rw [Nat.zero_add, cell_of_row w g j cs t (0, 0) hg, Array.getElem?_eq_getElem (by omega)]; rfl
    · exact frozen_of_row w g _ _ _ hg
  refine wpList_store_mid hgd ty x y ho g 0 X hx hy ht hi (by have := all_oneCell_toArray h1; simpa using this) ?_
  refine h _ ?_ (setCells_grown g _ 0 w)
  obtain ⟨cs', e1, e2⟩ := setCells_heap g t X.toList 0 w cs hg
  rw [e1]
  have hr := World.rangeAt_setCells_same w g 0 X.toList (by simpa using ht)
  have : cs' = X := by
    apply Array.ext_getElem?
    intro j
    by_cases hj : j < X.size
    · have h2 := hr j X[j] (by simp [hj])
      rw [Nat.zero_add, cell_of_row _ g j cs' t (0, 0) e1] at h2
      rw [h2]; simp [hj]
    · rw [Array.getElem?_eq_none (by omega), Array.getElem?_eq_none (by omega)]
  rw [this]
theorem box_four {w : World} {D : Nat} {t : TypeId} {a b c d : Value} (hD : w.heap[D]? = some (.cells #[a, b, c, d] t)) : w.cell? ⟨D, 0, none⟩ = some a ∧ w.cell? ⟨D, 1, none⟩ = some b ∧ w.cell? ⟨D, 2, none⟩ = some c ∧ w.cell? ⟨D, 3, none⟩ = some d := by
  refine ⟨?_, ?_, ?_, ?_⟩ <;> simp [World.cell?, hD]
theorem kp_alloc {w wr : World} {N : Nat} {o : Obj} (h : Kp w wr N o) (o' : Obj) : Kp w (wr.alloc o') N o := h.step (b1alloc _ _)
theorem kp_new2 {w wr : World} (h : Below w.heap.size w wr) (o : Obj) (N : Nat) (hN : wr.heap.size = N) : Kp w (wr.alloc o) N o := ⟨bt h (b1alloc _ _), by have := h.size; omega, hnew hN⟩
theorem kp_set {w wr : World} {N j : Nat} {cs : Array Value} {t : TypeId} {v : Value} (h : Kp w wr N (.cells cs t)) : Kp w (wr.setCell ⟨N, j, none⟩ v) N (.cells (cs.setIfInBounds j v) t) :=
  ⟨h.1.setCell h.2.1 _, h.2.1, heap_setCell_same wr N j cs t v h.2.2⟩
theorem kp_other {w wr : World} {N M j : Nat} {o : Obj} {v : Value} (h : Kp w wr N o) (hne : ¬ N = M) (hM : w.heap.size ≤ M) : Kp w (wr.setCell ⟨M, j, none⟩ v) N o :=
  ⟨h.1.setCell hM _, h.2.1, by rw [Below.heap_setCell _ _ _ _ hne]; exact h.2.2⟩
theorem kp_gr {w wr w' : World} {N M : Nat} {o : Obj} (h : Kp w wr N o) (hg : wr.grownBy w' (some M)) (hne : ¬ N = M) (hM : w.heap.size ≤ M) : Kp w w' N o :=
  ⟨h.1.grown hg h.1.size (fun k hk => by cases hk; exact hM), h.2.1, (hg.block N (heap_lt h.2.2) (fun e => hne (by cases e; rfl))).trans h.2.2⟩
theorem kp_at {w wr w' : World} {M : Nat} {o o' : Obj} (h : Kp w wr M o) (hg : wr.grownBy w' (some M)) (hp : w'.heap[M]? = some o') : Kp w w' M o' :=
  ⟨h.1.grown hg h.1.size (fun k hk => by cases hk; exact h.2.1), h.2.1, hp⟩
theorem kp_cell {w wr : World} {N : Nat} {cs : Array Value} {t : TypeId} (h : Kp w wr N (.cells cs t)) {j : Nat} {v : Value} (hj : cs[j]? = some v) : wr.cell? ⟨N, j, none⟩ = some v := by
  rw [cell_of_row _ _ _ _ t (0, 0) h.2.2]; exact hj
theorem kp_froz {w wr : World} {N : Nat} {cs : Array Value} {t : TypeId} (h : Kp w wr N (.cells cs t)) (j : Nat) : wr.frozen? ⟨N, j, none⟩ = false := frozen_of_row _ _ _ _ _ h.2.2
theorem box_elf {w : World} {D : Nat} {t : TypeId} {a b c d e f g h i j k : Value} (h0 : w.heap[D]? = some (.cells #[a, b, c, d, e, f, g, h, i, j, k] t)) : w.cell? ⟨D, 0, none⟩ = some a ∧ w.cell? ⟨D, 1, none⟩ = some b ∧ w.cell? ⟨D, 2, none⟩ = some c ∧ w.cell? ⟨D, 3, none⟩ = some d ∧ w.cell? ⟨D, 4, none⟩ = some e ∧ w.cell? ⟨D, 5, none⟩ = some f ∧ w.cell? ⟨D, 6, none⟩ = some g ∧ w.cell? ⟨D, 7, none⟩ = some h ∧ w.cell? ⟨D, 8, none⟩ = some i ∧ w.cell? ⟨D, 9, none⟩ = some j ∧ w.cell? ⟨D, 10, none⟩ = some k := by
  refine ⟨?_, ?_, ?_, ?_, ?_, ?_, ?_, ?_, ?_, ?_, ?_⟩ <;> simp [World.cell?, h0]
/-- A line's cells. -/
abbrev lnC (x0 x1 x2 x3 n s0 s1 a0 a1 b0 b1 : Int) : Array Value := #[.int .u8 x0, .int .u8 x1, .int .u8 x2, .int .u8 x3, .int .i64 n, .int .i64 s0, .int .i64 s1, .int .i64 a0, .int .i64 a1, .int .i64 b0, .int .i64 b1]
theorem lnC_one (x0 x1 x2 x3 n s0 s1 a0 a1 b0 b1 : Int) : ∀ v ∈ (lnC x0 x1 x2 x3 n s0 s1 a0 a1 b0 b1).toList, v.oneCell' = true := by
  intro v hv
  simp only [List.mem_cons, List.not_mem_nil, or_false] at hv
  rcases hv with rfl | rfl | rfl | rfl | rfl | rfl | rfl | rfl | rfl | rfl | rfl <;> rfl
theorem size_ln : (Try.prog.info? 44).map (·.size) = some 11 := by kernel_rfl
abbrev clC (n s0 s1 : Int) (a0 : Option Addr) (p0 k0 : Nat) (a1 : Option Addr) (p1 k1 : Nat) : Array Value := #[.int .i64 n, .int .i64 s0, .int .i64 s1, .slice a0 p0 k0, .slice a1 p1 k1]
theorem clC_one (n s0 s1 : Int) (a0 : Option Addr) (p0 k0 : Nat) (a1 : Option Addr) (p1 k1 : Nat) : ∀ v ∈ (clC n s0 s1 a0 p0 k0 a1 p1 k1).toList, v.oneCell' = true := by
  intro v hv
  simp only [List.mem_cons, List.not_mem_nil, or_false] at hv
  rcases hv with rfl | rfl | rfl | rfl | rfl <;> rfl
theorem size_cl : (Try.prog.info? 26).map (·.size) = some 5 := by kernel_rfl

end Go.Proofs.Ytjkkajhjcinalaa

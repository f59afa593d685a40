/-
  Worlds that grow, blocks that are kept, rows of one's own: what is told of them for any program (more of it).
  Conditions: as each theorem states them.
-/
import Derived.Test.YtjkkajhjcinalaaLib
import Derived.Laws.Rows
import Derived.Laws.OwnMore
import Derived.Deep.MidRow
import Derived.Deep.LoopGhost
import Derived.Deep.Slices
import Derived.BigQuiet
import Derived.Deep.Cut
import Derived.Deep.DeepCutAuto
namespace Go.Proofs.Ytjkkajhjcinalaa
open Go.ChangeShapes Go.WideShapes Go.ChangeAt Go.RowKit
set_option linter.unusedVariables false
set_option linter.unusedSimpArgs false
set_option maxRecDepth 100000

theorem hid {p : Prop} (h : p) : Hid p := h
theorem add_at (b off j : Nat) : (⟨b, off, none⟩ : Addr).add j = ⟨b, off + j, none⟩ := by
  by_cases h0 : j = 0
  · subst h0; simp [Addr.add]
  · simp [Addr.add, h0]
theorem keep_step {wr w' w'' : World} {Q : World → Prop} {R : Prop} (hb : Below w'.heap.size w' w'') (h : Below wr.heap.size wr w' ∧ R) (K : Hid (∀ x, Below wr.heap.size wr x → Q x)) : Q w'' := K.out _ (bt h.1 hb)
theorem keep_drew {wr : World} {Q : World → Prop} (K : Hid (∀ x, Below wr.heap.size wr x → Q x)) : Q wr.drew := K.out _ (Below.refl _ _).drew
theorem below_grow {w w' : World} (h : Below w.heap.size w w') (row : Option Nat) : w.grownBy w' row := ⟨h.os, h.tape, h.output, h.size, fun k hk _ => h.block k hk⟩
theorem grow_below {w w' : World} {row : Option Nat} {base : Nat} (h : w.grownBy w' row) (hb : base ≤ w.heap.size) (hr : ∀ j, row = some j → base ≤ j) : Below base w w' :=
  ⟨h.os, h.tape, h.output, h.size, fun k hk => h.block k (Nat.lt_of_lt_of_le hk hb) (fun e => by have := hr k e.symm; omega)⟩
theorem box_two {w : World} {D : Nat} {t : TypeId} {s u : Value} (hD : w.heap[D]? = some (.cells #[s, u] t)) : w.cell? ⟨D, 0, none⟩ = some s ∧ w.cell? ⟨D, 1, none⟩ = some u := by
  constructor <;> simp [World.cell?, hD]
theorem set_grown (w : World) (b i : Nat) (v : Value) : w.grownBy (w.setCell ⟨b, i, none⟩ v) (some b) :=
  ⟨rfl, rfl, rfl, by simp, fun k _ hk => Below.heap_setCell _ _ _ _ (fun e => hk (by simp [e]))⟩
theorem heap_lt {w : World} {b : Nat} {o : Obj} (h : w.heap[b]? = some o) : b < w.heap.size := by
  by_cases hh : b < w.heap.size
  · exact hh
  · rw [Array.getElem?_eq_none (by omega)] at h; cases h
theorem keep_blk {w w' : World} {D : Nat} {o : Obj} (h : w.heap[D]? = some o) (hb : Below w.heap.size w w') : w'.heap[D]? = some o := (hb.block D (heap_lt h)).trans h
theorem kr_alloc {W w' : World} {R : Prop} {Q : World → Prop} {o : Obj} (h : Below W.heap.size W w' ∧ R) (K : Hid (∀ x, Below W.heap.size W x → Q x)) : Q (w'.alloc o) := K.out _ (h.1.alloc h.1.size _)
theorem kr_grown {W w' w'' : World} {g : Nat} (h : Below W.heap.size W w') (hg : w'.grownBy w'' (some g)) (hW : W.heap.size ≤ g) : Below W.heap.size W w'' := h.grown hg h.size (fun k hk => by cases hk; exact hW)
theorem bdrew {B : Nat} {a w : World} (h : Below B a w) : Below B a w.drew := ⟨h.os, h.tape, h.output, h.size, h.block⟩
theorem bdrewN {B : Nat} {a w : World} {n : Nat} (h : Below B a w) : Below B a (w.drewN n) := ⟨h.os, h.tape, h.output, h.size, h.block⟩
theorem b1alloc (w : World) (o : Obj) : Below w.heap.size w (w.alloc o) := (Below.refl _ _).alloc (Nat.le_refl _) _
theorem hnew {w : World} {o : Obj} {N : Nat} (h : w.heap.size = N) : (w.alloc o).heap[N]? = some o := by subst h; exact heap_alloc_new w o
/-- Integers: a slice that came in, read. -/
theorem IRow.pick {k : IntKind} {w w' : World} {a : Option Addr} {n c : Nat} {l : List Int} (h : IRow k w a n c l) (hb : Below w.heap.size w w') {i : Nat} (hi : i < n) :
    ∃ b off x, a = some ⟨b, off, none⟩ ∧ b < w.heap.size ∧ l[i]? = some x ∧ w'.cell? ⟨b, off + i, none⟩ = some (.int k x) := by
  obtain ⟨h1, h2, h3, h4, h5⟩ := h
  obtain ⟨b, off, e, hlt, hl⟩ := h5 (by omega)
  have hil : i < l.length := by omega
  refine ⟨b, off, l[i], e, hlt, List.getElem?_eq_getElem hil, ?_⟩
  rw [(bcell hb).1 b _ hlt, hl i hil]
  simp [List.getD_eq_getElem?_getD, List.getElem?_eq_getElem hil]
theorem IRow.len {k : IntKind} {w : World} {a : Option Addr} {n c : Nat} {l : List Int} (h : IRow k w a n c l) : n = l.length ∧ n ≤ 9223372036854775807 := by
  obtain ⟨h1, h2, h3, _⟩ := h
  unfold maxLen at h3
  exact ⟨h1, by omega⟩

end Go.Proofs.Ytjkkajhjcinalaa

/-
  A slice of two structs of many cells, built: what it holds.
  Conditions: as each theorem states them.
-/
import Derived.Test.YtfgphphaopcolaaWO
import Derived.Deep.MidRow
namespace Go.Proofs.Ytfgphphaopcolaa
open Go.ChangeShapes Go.WideShapes Go.ChangeAt Go.RowKit
set_option linter.unusedVariables false
set_option linter.unusedSimpArgs false

theorem fold_at (off : Nat) : ∀ (X : List Value) (s : Nat) (Z : Array Value), off + s + X.length ≤ Z.size →
    ((X.zipIdx s).foldl (fun cs (p : Value × Nat) => cs.setIfInBounds (off + p.2) p.1) Z).toList = Z.toList.take (off + s) ++ X ++ Z.toList.drop (off + s + X.length) := by
  intro X
  induction X with
  | nil => intro s Z h; simp
  | cons x X ih =>
    intro s Z h
    simp only [List.length_cons] at h
    rw [List.zipIdx_cons, List.foldl_cons, ih (s + 1) _ (by simp; omega)]
    have hl : off + s < Z.toList.length := by simp; omega
    have e1 : (Z.setIfInBounds (off + s) x).toList.take (off + (s + 1)) = Z.toList.take (off + s) ++ [x] := by
      simp only [Array.toList_setIfInBounds]
      rw [show off + (s + 1) = (off + s) + 1 by omega, List.take_add_one, List.getElem?_set_self hl, List.take_set_of_le (Nat.le_refl _)]
      rfl
    have e2 : (Z.setIfInBounds (off + s) x).toList.drop (off + (s + 1) + X.length) = Z.toList.drop (off + s + (x :: X).length) := by
      simp only [Array.toList_setIfInBounds, List.length_cons]
      rw [List.drop_set_of_lt (by omega), show off + (s + 1) + X.length = off + s + (X.length + 1) by omega]
    rw [e1, e2]
    simp
theorem fill_two (X Y Z : Array Value) (sz : Nat) (hX : X.size = sz) (hY : Y.size = sz) (hZ : Z.size = 2 * sz) :
    Instr.fill (fun i => some (i * sz, sz)) Z [(0, .agg X), (1, .agg Y)] = some (X ++ Y) := by
  obtain ⟨X⟩ := X
  obtain ⟨Y⟩ := Y
  have hX' : X.length = sz := by simpa using hX
  have hY' : Y.length = sz := by simpa using hY
  have f1 := fold_at (0 * sz) X 0 Z (by simp; omega)
  simp only [Nat.zero_mul, Nat.zero_add, Nat.add_zero, List.take_zero, List.nil_append] at f1
  obtain ⟨Z1, hZ1⟩ : ∃ Z1, (X.zipIdx 0).foldl (fun cs (p : Value × Nat) => cs.setIfInBounds (0 * sz + p.2) p.1) Z = Z1 := ⟨_, rfl⟩
  have e1 : Z1.toList = X ++ Z.toList.drop X.length := by
    rw [← hZ1]; simpa using f1
  have s1 : Z1.size = 2 * sz := by
    have := congrArg List.length e1
    simp at this
    omega
  have f2 := fold_at (1 * sz) Y 0 Z1 (by simp; omega)
  obtain ⟨Z2, hZ2⟩ : ∃ Z2, (Y.zipIdx 0).foldl (fun cs (p : Value × Nat) => cs.setIfInBounds (1 * sz + p.2) p.1) Z1 = Z2 := ⟨_, rfl⟩
  rw [hZ2, e1] at f2
  have e2 : Z2.toList = X ++ Y := by
    rw [f2]
    have h1 : List.take (1 * sz + 0) (X ++ Z.toList.drop X.length) = X := by
      rw [show 1 * sz + 0 = X.length by omega]; simp
    have h2 : List.drop (1 * sz + 0 + Y.length) (X ++ Z.toList.drop X.length) = [] := by
      apply List.drop_eq_nil_of_le
      simp; omega
    rw [h1, h2]; simp
  have c1 : (Value.agg X.toArray).cells = X.toArray := rfl
  have c2 : (Value.agg Y.toArray).cells = Y.toArray := rfl
  simp only [Instr.fill, c1, c2]
  rw [if_neg (by simp; omega)]
  have g1 : (X.toArray.zipIdx.foldl (fun cs (p : Value × Nat) => cs.setIfInBounds (0 * sz + p.2) p.1) Z) = Z1 := by
    rw [← hZ1]; simp
  have g2 : (Y.toArray.zipIdx.foldl (fun cs (p : Value × Nat) => cs.setIfInBounds (1 * sz + p.2) p.1) Z1) = Z2 := by
    rw [← hZ2]; simp
  have g1' : (X.toArray.zipIdx.foldl (fun cs x => match x with | (c, j) => cs.setIfInBounds (0 * sz + j) c) Z) = Z1 := g1
  rw [g1', if_neg (by simp; omega)]
  have g2' : (Y.toArray.zipIdx.foldl (fun cs x => match x with | (c, j) => cs.setIfInBounds (1 * sz + j) c) Z1) = Z2 := g2
  rw [g2']
  have : Z2 = X.toArray ++ Y.toArray := by
    apply Array.toList_inj.mp
    rw [e2]; simp
  rw [this]

theorem info_ask : (Try.prog.info? 32).map (fun i => (i.zero, i.size, i.bytes)) = some (some (.agg #[.slice none 0 0, .int .i64 0, .int .u8 0, .int .u8 0, .int .u8 0, .int .u8 0, .int .u8 0, .int .u8 0, .int .u8 0, .int .u8 0, .int .u8 0, .int .u8 0, .int .u8 0, .int .u8 0, .int .i64 0, .int .i64 0, .slice none 0 0]), 17, 88) := by kernel_rfl
theorem run_two (X Y : Array Value) (hX : X.size = 17) (hY : Y.size = 17) (w : World) :
    (Instr.buildSlice 36 2 #[(0, .agg X), (1, .agg Y)]).run Try.prog w = .ok (.slice (some ⟨w.heap.size, 0, none⟩) 2 2) (w.alloc (.cells (X ++ Y) 32)) := by
  obtain ⟨i, hi, h0, h1, h2⟩ := info_parts info_ask
  have ht : (typeInfo 32).run Try.prog w = .ok i w := run_typeInfo w hi
  have hs : (sizeOf 32).run Try.prog w = .ok 17 w := by
    simp only [sizeOf, Sem.run_bind, ht, Result.andThen_ok, Sem.run_pure, h1]
  obtain ⟨z, hz⟩ : ∃ z : Value, i.zero = some z := ⟨_, h0⟩
  have hz : (zeroValue 32).run Try.prog w = .ok z w := by
    simp only [zeroValue, Sem.run_bind, ht, Result.andThen_ok, hz, Sem.run_pure]
  have hf := fill_two X Y ((Array.range (2 * 17)).map (z.cells[· % z.cells.size]!)) 17 hX hY (by simp)
  simp only [Instr.buildSlice, Sem.run_bind, run_underlying Try.underlying36, Result.andThen_ok, hs]
  simp only [show ¬ (2 * 17 > 2 ^ 24) by decide, if_false, show ¬ (2 * 17 = 0) by decide, Sem.run_bind, Sem.run_pure, Result.andThen_ok, hz, hf]
  simp [newRow, newObj, go_sem]
  rfl
/-- THE LAW, for the walk. -/
theorem wpList_two {w : World} {ops : Array Oper} {rest : List Oper} {o : Oper} {a : Act} {Q : Exit → Act → World → Prop} (hg : o.guard = none) (x y : Operand) (hop : o.op = Op.buildSlice 36 2 #[(0, x), (1, y)])
    (X Y : Array Value) (hx : a.eval x = .agg X) (hy : a.eval y = .agg Y) (sx : X.size = 17) (sy : Y.size = 17)
    (h : wpList Try.prog ops Q rest (a.put o.dst (.slice (some ⟨w.heap.size, 0, none⟩) 2 2)) (w.alloc (.cells (X ++ Y) 32))) : wpList Try.prog ops Q (o :: rest) a w := by
  refine wpList_plain hg fun K hK' => ?_
  have hrun := run_two X Y sx sy w
  unfold Oper.wp
  simp [execOp, hop, hx, hy, hrun, Result.andThen]
  exact hK' _ _ h

theorem size_ask : (Try.prog.info? 32).map (·.size) = some 17 := by kernel_rfl
theorem setCells_heap (g : Nat) (t : TypeId) : ∀ (vs : List Value) (o : Nat) (w : World) (cs : Array Value), w.heap[g]? = some (.cells cs t) → ∃ cs', (w.setCells g o vs).heap[g]? = some (.cells cs' t) ∧ cs'.size = cs.size
  | [], _, w, cs, h => ⟨cs, h, rfl⟩
  | v :: r, o, w, cs, h => by
    rw [World.setCells]
    obtain ⟨cs', h1, h2⟩ := setCells_heap g t r (o + 1) _ _ (heap_setCell_same w g o cs t v h)
    exact ⟨cs', h1, by rw [h2]; simp⟩
theorem setCells_grown (g : Nat) : ∀ (vs : List Value) (o : Nat) (w : World), w.grownBy (w.setCells g o vs) (some g)
  | [], _, w => ⟨rfl, rfl, rfl, Nat.le_refl _, fun _ _ _ => rfl⟩
  | v :: r, o, w => by
    rw [World.setCells]
    have h1 := set_grown w g o v
    have h2 := setCells_grown g r (o + 1) (w.setCell ⟨g, o, none⟩ v)
    exact ⟨h2.os.trans h1.os, h2.tape.trans h1.tape, h2.output.trans h1.output, Nat.le_trans h1.size h2.size, fun k hk hne => (h2.block k (Nat.lt_of_lt_of_le hk h1.size) hne).trans (h1.block k hk hne)⟩
/-- A whole row is stored: the block holds it; no other block is turned. -/
theorem wpList_store_whole {P : Program} {ops : Array Oper} {rest : List Oper} {o : Oper} {a : Act} {w : World} {Q : Exit → Act → World → Prop} (hgd : o.guard = none) (ty : TypeId) (x y : Operand) (ho : o.op = .store ty x y)
    (g : Nat) (X : Array Value) (hx : a.eval x = .pointer (some ⟨g, 0, none⟩)) (hy : a.eval y = .agg X) (t : TypeId) (cs : Array Value) (hg : w.heap[g]? = some (.cells cs t)) (hs : cs.size = X.size)
    (hi : (P.info? ty).map (·.size) = some X.size) (h1 : ∀ v ∈ X.toList, v.oneCell' = true)
    (h : ∀ w', w'.heap[g]? = some (.cells X t) → w.grownBy w' (some g) → wpList P ops Q rest (a.put o.dst undef) w') : wpList P ops Q (o :: rest) a w := by
  have ht : w.there g 0 X.size := fun j hj => by
    constructor
    · rw [Nat.zero_add, cell_of_row w g j cs t (0, 0) hg, Array.getElem?_eq_getElem (by omega)]; rfl
    · exact frozen_of_row w g _ _ _ hg
  refine wpList_store_mid hgd ty x y ho g 0 X hx hy ht hi (by have := all_oneCell_toArray h1; simpa using this) ?_
  refine h _ ?_ (setCells_grown g _ 0 w)
  obtain ⟨cs', e1, e2⟩ := setCells_heap g t X.toList 0 w cs hg
  rw [e1]
  have hr := World.rangeAt_setCells_same w g 0 X.toList (by simpa using ht)
  have : cs' = X := by
    apply Array.ext_getElem?
    intro j
    by_cases hj : j < X.size
    · have h2 := hr j X[j] (by simp [hj])
      rw [Nat.zero_add, cell_of_row _ g j cs' t (0, 0) e1] at h2
      rw [h2]; simp [hj]
    · rw [Array.getElem?_eq_none (by omega), Array.getElem?_eq_none (by omega)]
  rw [this]
theorem St.row {w wr w' : World} {L : List (Nat × Array Value × TypeId)} {o : Obj} {X : Array Value} {t : TypeId} (h : St w wr L) (hg : (wr.alloc o).grownBy w' (some wr.heap.size)) (hp : w'.heap[wr.heap.size]? = some (.cells X t)) : St w w' ((wr.heap.size, X, t) :: L) := by
  have hb : Below wr.heap.size wr w' := ⟨hg.os, hg.tape, hg.output, by have := hg.size; simp at this; omega, fun k hk => (hg.block k (by simp; omega) (by simp; omega)).trans (Below.heap_alloc wr o k hk)⟩
  refine ⟨bt h.1 hb, fun i p hi => ?_⟩
  cases i with
  | zero => simp at hi; subst hi; exact hp
  | succ i => exact keep_blk (h.2 i p (by simpa using hi)) hb
/-- The first or the second of two rows. -/
theorem range_two {w : World} {D : Nat} {t : TypeId} {X Y : List Value} {sz : Nat} (hX : X.length = sz) (hY : Y.length = sz) (hD : w.heap[D]? = some (.cells (X.toArray ++ Y.toArray) t)) {k : Nat} (hk : k < 2) : w.rangeAt D (k * sz) (if k = 0 then X else Y) := by
  intro j v hv
  rw [cell_of_row w D _ _ t (0, 0) hD]
  have hj := (List.getElem?_eq_some_iff.1 hv).1
  have : k = 0 ∨ k = 1 := by omega
  rcases this with rfl | rfl
  · simp at hv hj
    simp only [Nat.zero_mul, Nat.zero_add, List.append_toArray, List.getElem?_toArray]
    rw [List.getElem?_append_left hj]; exact hv
  · simp at hv hj
    simp only [Nat.one_mul, List.append_toArray, List.getElem?_toArray]
    rw [List.getElem?_append_right (by omega), show sz + j - X.length = j by omega]; exact hv

end Go.Proofs.Ytfgphphaopcolaa

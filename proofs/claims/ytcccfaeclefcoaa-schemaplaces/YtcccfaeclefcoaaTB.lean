/-
  Places of nodes: lists, boxes.
  Conditions: as each theorem states them.
-/
import Derived.Test.YtcccfaeclefcoaaSV
import Derived.Test.YtcccfaeclefcoaaSG
import Derived.Test.YtcccfaeclefcoaaSD
import Derived.Deep.Cut
import Derived.Deep.DeepCutAuto
import Derived.Deep.CutRange
import Derived.Deep.Strs
namespace Go.Proofs.Ytcccfaeclefcoaa
open Go.ChangeShapes Go.WideShapes Go.ChangeAt Go.RowKit
set_option linter.unusedVariables false
set_option linter.unusedSimpArgs false

theorem box4 {w : World} {D : Nat} {t : TypeId} {a b c d : Value} (hD : w.heap[D]? = some (.cells #[a, b, c, d] t)) : w.cell? ⟨D, 0, none⟩ = some a ∧ w.cell? ⟨D, 1, none⟩ = some b ∧ w.cell? ⟨D, 2, none⟩ = some c ∧ w.cell? ⟨D, 3, none⟩ = some d := by
  refine ⟨?_, ?_, ?_, ?_⟩ <;> simp [World.cell?, hD]
theorem box10 {w : World} {D : Nat} {t : TypeId} {a b c d e f g h i j : Value} (hD : w.heap[D]? = some (.cells #[a, b, c, d, e, f, g, h, i, j] t)) : w.cell? ⟨D, 0, none⟩ = some a ∧ w.cell? ⟨D, 1, none⟩ = some b ∧ w.cell? ⟨D, 2, none⟩ = some c ∧ w.cell? ⟨D, 3, none⟩ = some d ∧ w.cell? ⟨D, 4, none⟩ = some e ∧ w.cell? ⟨D, 5, none⟩ = some f ∧ w.cell? ⟨D, 6, none⟩ = some g ∧ w.cell? ⟨D, 7, none⟩ = some h ∧ w.cell? ⟨D, 8, none⟩ = some i ∧ w.cell? ⟨D, 9, none⟩ = some j := by
  refine ⟨?_, ?_, ?_, ?_, ?_, ?_, ?_, ?_, ?_, ?_⟩ <;> simp [World.cell?, hD]
/-- A block that is kept through a callee. -/
theorem keep_blk {w w' : World} {D : Nat} {o : Obj} (h : w.heap[D]? = some o) (hb : Below w.heap.size w w') : w'.heap[D]? = some o := (hb.block D (heap_lt h)).trans h
/-- What is asked, in its box; the two copies. -/
def P3 (w wr : World) (Ba Bv : Nat) (box xs vs : Array Value) : Prop := Below w.heap.size w wr ∧ w.heap.size < Ba ∧ w.heap.size < Bv ∧ ¬ Ba = Bv ∧ wr.heap[w.heap.size]? = some (.cells box 48) ∧ wr.heap[Ba]? = some (.cells xs 27) ∧ wr.heap[Bv]? = some (.cells vs 26)
theorem P3.step {w wr w' : World} {Ba Bv : Nat} {box xs vs : Array Value} (h : P3 w wr Ba Bv box xs vs) (hb : Below wr.heap.size wr w') : P3 w w' Ba Bv box xs vs := by
  obtain ⟨h1, h2, h3, h4, h5, h6, h7⟩ := h
  exact ⟨bt h1 hb, h2, h3, h4, keep_blk h5 hb, keep_blk h6 hb, keep_blk h7 hb⟩
theorem P3.setA {w wr : World} {Ba Bv : Nat} {box xs vs : Array Value} (h : P3 w wr Ba Bv box xs vs) (i : Nat) (v : Value) : P3 w (wr.setCell ⟨Ba, i, none⟩ v) Ba Bv box (xs.setIfInBounds i v) vs := by
  obtain ⟨h1, h2, h3, h4, h5, h6, h7⟩ := h
  exact ⟨h1.setCell (Nat.le_of_lt h2) v, h2, h3, h4, (heap_setCell_other wr _ _ v (by simp; omega)).trans h5, heap_setCell_same wr Ba i _ _ v h6, (heap_setCell_other wr _ _ v (by simp; omega)).trans h7⟩
theorem P3.setV {w wr : World} {Ba Bv : Nat} {box xs vs : Array Value} (h : P3 w wr Ba Bv box xs vs) (i : Nat) (v : Value) : P3 w (wr.setCell ⟨Bv, i, none⟩ v) Ba Bv box xs (vs.setIfInBounds i v) := by
  obtain ⟨h1, h2, h3, h4, h5, h6, h7⟩ := h
  exact ⟨h1.setCell (Nat.le_of_lt h3) v, h2, h3, h4, (heap_setCell_other wr _ _ v (by simp; omega)).trans h5, (heap_setCell_other wr _ _ v (by simp; omega)).trans h6, heap_setCell_same wr Bv i _ _ v h7⟩
theorem P3.drew {w wr : World} {Ba Bv : Nat} {box xs vs : Array Value} (h : P3 w wr Ba Bv box xs vs) : P3 w wr.drew Ba Bv box xs vs := ⟨h.1.drew, h.2⟩
theorem p3_new1 (w wr : World) (box xs vs : Array Value) (hb : Below w.heap.size w wr) (hbox : wr.heap[w.heap.size]? = some (.cells box 48)) : P3 w ((wr.alloc (.cells xs 27)).alloc (.cells vs 26)) wr.heap.size (wr.heap.size + 1) box xs vs := by
  have hlt := heap_lt hbox
  refine ⟨(hb.alloc (by omega) _).alloc (by simp; omega) _, hlt, by omega, by omega, ?_, ?_, ?_⟩
  · exact grown_keeps (World.grownBy_alloc _ _ none) (grown_keeps (World.grownBy_alloc _ _ none) hbox (fun j hj => by cases hj)) (fun j hj => by cases hj)
  · exact grown_keeps (World.grownBy_alloc _ _ none) (heap_alloc_new wr _) (fun j hj => by cases hj)
  · have := heap_alloc_new (wr.alloc (.cells xs 27)) (.cells vs 26)
    rw [World.size_alloc] at this
    exact this
theorem p3_new2 (w wr : World) (box xs vs : Array Value) (hb : Below w.heap.size w wr) (hbox : wr.heap[w.heap.size]? = some (.cells box 48)) : P3 w ((wr.alloc (.cells vs 26)).alloc (.cells xs 27)) (wr.heap.size + 1) wr.heap.size box xs vs := by
  have hlt := heap_lt hbox
  refine ⟨(hb.alloc (by omega) _).alloc (by simp; omega) _, by omega, hlt, by omega, ?_, ?_, ?_⟩
  · exact grown_keeps (World.grownBy_alloc _ _ none) (grown_keeps (World.grownBy_alloc _ _ none) hbox (fun j hj => by cases hj)) (fun j hj => by cases hj)
  · have := heap_alloc_new (wr.alloc (.cells vs 26)) (.cells xs 27)
    rw [World.size_alloc] at this
    exact this
  · exact grown_keeps (World.grownBy_alloc _ _ none) (heap_alloc_new wr _) (fun j hj => by cases hj)
/-! Which places are none. -/
theorem mem_beyond {ds : Dims} {M : Int} {V A : List Int} {k : Nat} (h : rightC ds M V A = true) (hk : k < 4) (hn : ¬ k < ds.length) (h0 : 0 ≤ A.getD k 0) : memC ds k (V.getD k 0) = 1 := by
  have h1 := (rightC_is h).2 k hk
  by_cases hv : V.getD k 0 = 0
  · exact memC_0 hn hv
  · rw [memC_1 hn hv] at h1; omega
theorem mem_above {ds : Dims} {M : Int} {k : Nat} {lv r : Int} (hg : goodC ds M = true) (hk : k < ds.length) (hl : levC ds M k = lv) (hr : 0 ≤ r) : memC ds k (lv + r) = 0 := by
  rw [levC_yes hg hk] at hl
  unfold memC
  rw [if_pos hk]
  exact size_out (.inr (by omega))
theorem lev_bd {ds : Dims} {M : Int} {k : Nat} (hg : goodC ds M = true) (hk : k < ds.length) : 2 ≤ levC ds M k ∧ levC ds M k ≤ 5 := by
  rw [levC_yes hg hk]
  have g := good_p ((goodC_p hg).2.2.2.2 _ (getD_mem3 hk))
  have := g.1; have := g.2.1
  omega
theorem u8_4 {V : List Int} {a b c d : Int} (ha : U8 a) (hb : U8 b) (hc : U8 c) (hd : U8 d) : ∀ x ∈ [a, b, c, d], U8 x := by
  intro x hx; simp at hx; rcases hx with rfl | rfl | rfl | rfl <;> assumption
theorem u8_set {l : List Int} {k : Nat} {y : Int} (h : ∀ x ∈ l, U8 x) (hy : U8 y) (hk : k < 4) : ∀ x ∈ l.set k y, U8 x := by
  intro x hx
  rcases List.mem_or_eq_of_mem_set hx with h' | rfl
  · exact h x h'
  · exact hy
theorem open_place {H : Type} {enc : TypeId × Value → H} {W : World} {base b0 : Nat} {r : Reach} {v : Value} {d : DataW H} {p : List MemPlace}
    (hv : Value.okWide Try.prog W r b0 48 v) (h : DataW.Trod enc Try.prog W base (fun _ => true) true 48 v d p) :
    ∃ a n c ds M v0 v1 v2 v3 x0 x1 x2 x3, v = .agg #[.slice a n c, .int .i64 M, .int .u8 v0, .int .u8 v1, .int .u8 v2, .int .u8 v3, .int .u8 x0, .int .u8 x1, .int .u8 x2, .int .u8 x3] ∧ Cat W a n c ds ∧ I64 M ∧ (∀ y ∈ [v0, v1, v2, v3], U8 y) ∧ ∀ y ∈ [x0, x1, x2, x3], U8 y := by
  have hC : Try.prog.cellsOf 48 = 10 := by kernel_rfl
  have hN : Try.prog.cellsOf 26 = 4 := by kernel_rfl
  have hK : Try.prog.cellsOf 27 = 4 := by kernel_rfl
  obtain ⟨cs, rfl, hsz⟩ := okWide_struct Try.underlying48 hv
  rw [hC] at hsz
  obtain ⟨fuel, hf⟩ := h
  obtain ⟨c0, c1, c2, c3, c4, c5, c6, c7, c8, c9, rfl⟩ : ∃ c0 c1 c2 c3 c4 c5 c6 c7 c8 c9, cs = #[c0, c1, c2, c3, c4, c5, c6, c7, c8, c9] := by
    obtain ⟨l⟩ := cs
    match l, hsz with
    | [c0, c1, c2, c3, c4, c5, c6, c7, c8, c9], _ => exact ⟨_, _, _, _, _, _, _, _, _, _, rfl⟩
  obtain ⟨y0, y1, y2, m, _, _, g0, g1, g2⟩ := Go.Deep.trod_struct3 Try.underlying48 hf
  simp only [cells_cat, hN, hK] at g0 g1 g2
  simp [Value.cells] at g0 g1 g2
  obtain ⟨a, n, c, ds, M, rfl, rfl, hc, hM⟩ := open_cat2 g0
  obtain ⟨v0, v1, v2, v3, rfl, rfl, rfl, rfl, hV⟩ := open_node_cells g1
  obtain ⟨x0, x1, x2, x3, rfl, rfl, rfl, rfl, hX⟩ := open_coord_cells g2
  exact ⟨a, n, c, ds, M, v0, v1, v2, v3, x0, x1, x2, x3, rfl, hc, hM, hV, hX⟩

end Go.Proofs.Ytcccfaeclefcoaa

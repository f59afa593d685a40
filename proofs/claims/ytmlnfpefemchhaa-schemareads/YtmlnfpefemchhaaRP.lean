/-
  The document's own Read: what is borne through its loops.
  Conditions: as each theorem states them.
-/
import Derived.Test.YtmlnfpefemchhaaRN
import Derived.Test.YtmlnfpefemchhaaSQ
namespace Go.Proofs.Ytmlnfpefemchhaa
open Go.ChangeShapes Go.WideShapes Go.ChangeAt Go.RowKit
set_option linter.unusedVariables false
set_option linter.unusedSimpArgs false

/-- Sizes that are being read, stored into a dimension's box each time. -/
def L2 (t : TypeId) (w W0 wr : World) (B D : Nat) (s : St) (sv : Value) (l : List Int) : Prop :=
  Rdr t w wr B s ∧ W0.grownBy wr (some B) ∧ W0.heap.size ≤ D ∧ wr.heap[D]? = some (.cells #[sv, .slice none 0 0] 59) ∧ wr.ownsRow W0.heap.size 3 1 sv l.length (vals .i64 l)
theorem l2_new {t : TypeId} {w W0 : World} {B : Nat} {s : St} (h : Rdr t w W0 B s) : L2 t w W0 (W0.alloc (.cells #[.slice none 0 0, .slice none 0 0] 59)) B W0.heap.size s (.slice none 0 0) [] :=
  ⟨h.grow (World.grownBy_alloc _ _ none) (fun j hj => by cases hj), World.grownBy_alloc _ _ _, Nat.le_refl _, heap_alloc_new _ _, World.ownsRow_nil _ _ _ _⟩
theorem L2.num {t : TypeId} {w W0 wr w3 : World} {B D : Nat} {s s' : St} {sv : Value} {l : List Int} (h : L2 t w W0 wr B D s sv l) (hB : B < W0.heap.size) (ht : ¬ t = 3) (hr3 : Rdr t w w3 B s') (hg3 : wr.grownBy w3 (some B)) : L2 t w W0 w3 B D s' sv l := by
  obtain ⟨h1, h2, h3, h4, h5⟩ := h
  obtain ⟨cB, kB⟩ := h1.kind
  exact ⟨hr3, h2.trans hg3, h3, grown_keeps hg3 h4 (fun j hj => by cases hj; omega), h5.kept hg3 (.inr (fun e => by obtain ⟨c', hc'⟩ := own_kind h5 e; exact kinds_apart hc' kB (fun e => ht e.symm) rfl))⟩
theorem L2.put {t : TypeId} {w W0 w3 w4 : World} {B D g cap : Nat} {s : St} {sv : Value} {l : List Int} {x : Int} (h : L2 t w W0 w3 B D s sv l) (hw : w.heap.size ≤ W0.heap.size) (hB : B < W0.heap.size) (ht : ¬ t = 3)
    (ho : w4.ownsRow W0.heap.size 3 1 (.slice (some ⟨g, 0, none⟩) (l.length + 1) cap) (l.length + 1) (vals .i64 (l ++ [x]))) (hg4 : (w3.alloc (.cells #[.int .i64 x] 3)).grownBy w4 sv.ownBlock) :
    L2 t w W0 (w4.setCell ⟨D, 0, none⟩ (.slice (some ⟨g, 0, none⟩) (l.length + 1) cap)) B D s (.slice (some ⟨g, 0, none⟩) (l.length + 1) cap) (l ++ [x]) := by
  obtain ⟨h1, h2, h3, h4, h5⟩ := h
  have ga : w3.grownBy (w3.alloc (.cells #[.int .i64 x] 3)) none := World.grownBy_alloc _ _ _
  have o3 := h5.alloc (.cells #[.int .i64 x] 3)
  have D3 := grown_keeps ga h4 (fun j hj => by cases hj)
  have D4 := grown_keeps hg4 D3 (fun j hj => by obtain ⟨c', hc'⟩ := own_kind o3 hj; exact kinds_apart hc' D3 (by decide))
  have B3 := h1.grow ga (fun j hj => by cases hj)
  obtain ⟨cB, kB⟩ := B3.kind
  have B4 := B3.grow hg4 (fun j hj => by
    obtain ⟨c', hc'⟩ := own_kind o3 hj
    exact ⟨by have := (o3.lt j hj).1; omega, kinds_apart hc' kB (fun e => ht e.symm)⟩)
  have gs := set_grown w4 D 0 (.slice (some ⟨g, 0, none⟩) (l.length + 1) cap)
  refine ⟨B4.grow gs (fun j hj => by cases hj; exact ⟨by omega, by omega⟩), ?_, h3, heap_setCell_same w4 D 0 _ _ _ D4, ?_⟩
  · exact ((h2.andThen ga (fun j hj => by cases hj)).andThen hg4 (fun j hj => .inl (o3.lt j hj).1)).andThen gs (fun j hj => by cases hj; exact .inl h3)
  · rw [List.length_append]
    exact ho.kept gs (.inr (fun e => by obtain ⟨c', hc'⟩ := own_kind ho e; exact kinds_apart hc' D4 (by decide) rfl))
theorem L2.drew {t : TypeId} {w W0 wr : World} {B D : Nat} {s : St} {sv : Value} {l : List Int} (h : L2 t w W0 wr B D s sv l) : L2 t w W0 wr.drew B D s sv l := by
  obtain ⟨h1, h2, h3, h4, h5⟩ := h
  exact ⟨⟨h1.1, h1.2.1, h1.2.2.1.drew, h1.2.2.2⟩, ⟨h2.os, h2.tape, h2.output, h2.size, h2.block⟩, h3, h4, h5⟩
/-- Lists that are being read. -/
def L3 (t : TypeId) (w W0 wr : World) (B D : Nat) (a : Option Addr) (n c : Nat) (S : List Int) (s : St) (U : List (List Int)) (k : Nat) (uv : Value) (us : List Value) : Prop :=
  Rdr t w wr B s ∧ W0.grownBy wr (some B) ∧ W0.heap.size ≤ D ∧ wr.heap[D]? = some (.cells #[.slice a n c, uv] 59) ∧ IRow .i64 (only wr [3]) a n c S ∧ wr.ownsRow W0.heap.size 56 1 uv k us ∧ Rows (only wr [3]) us U
theorem L2.l3 {t : TypeId} {w W0 wr : World} {B D : Nat} {s : St} {sv : Value} {l : List Int} (h : L2 t w W0 wr B D s sv l) : ∃ a c, sv = .slice a l.length c ∧ L3 t w W0 wr B D a l.length c l s [] 0 (.slice none 0 0) [] := by
  obtain ⟨h1, h2, h3, h4, h5⟩ := h
  rcases h5.2 with ⟨rfl, h0⟩ | ⟨g, cap, cur, rfl, _⟩
  · have hl : l = [] := List.length_eq_zero_iff.mp h0
    subst hl
    exact ⟨none, 0, rfl, h1, h2, h3, h4, row_nil _ _, World.ownsRow_nil _ _ _ _, rows_nil0 _⟩
  · exact ⟨_, _, rfl, h1, h2, h3, h4, own_only_row h5 (by simp), World.ownsRow_nil _ _ _ _, rows_nil0 _⟩
/-- Through what is read only. -/
theorem L3.num {t : TypeId} {w W0 wr w3 : World} {B D : Nat} {a : Option Addr} {n c k : Nat} {S : List Int} {s s' : St} {U : List (List Int)} {uv : Value} {us : List Value} (h : L3 t w W0 wr B D a n c S s U k uv us) (hB : B < W0.heap.size) (ht : ¬ t = 3 ∧ ¬ t = 56) (hr3 : Rdr t w w3 B s') (hg3 : wr.grownBy w3 (some B)) : L3 t w W0 w3 B D a n c S s' U k uv us := by
  obtain ⟨h1, h2, h3, h4, h5, h6, h7⟩ := h
  obtain ⟨cB, kB⟩ := h1.kind
  have i3 : Incl (only wr [3]) (only w3 [3]) := only_grow hg3 (fun j c' t' f hj hh => by cases hj; rw [kB] at hh; simp at hh; obtain ⟨_, rfl, _⟩ := hh; simp; exact ht.1)
  exact ⟨hr3, h2.trans hg3, h3, grown_keeps hg3 h4 (fun j hj => by cases hj; omega), h5.incl i3, h6.kept hg3 (.inr (fun e => by obtain ⟨c', hc'⟩ := own_kind h6 e; exact kinds_apart hc' kB (fun e => ht.2 e.symm) rfl)), h7.incl i3⟩
theorem L3.put {t : TypeId} {w W0 w3 w4 : World} {B D g cap : Nat} {a a' : Option Addr} {n c k m mc : Nat} {S L : List Int} {s : St} {U : List (List Int)} {uv : Value} {us : List Value} (h : L3 t w W0 w3 B D a n c S s U k uv us) (hw : w.heap.size ≤ W0.heap.size) (hB : B < W0.heap.size) (ht : ¬ t = 3 ∧ ¬ t = 56) (hi : IRow .i64 (only w3 [3]) a' m mc L)
    (ho : w4.ownsRow W0.heap.size 56 1 (.slice (some ⟨g, 0, none⟩) (k + 1) cap) (k + 1) (us ++ [.slice a' m mc])) (hg4 : (w3.alloc (.cells #[.slice a' m mc] 56)).grownBy w4 uv.ownBlock) :
    L3 t w W0 (w4.setCell ⟨D, 1, none⟩ (.slice (some ⟨g, 0, none⟩) (k + 1) cap)) B D a n c S s (U ++ [L]) (k + 1) (.slice (some ⟨g, 0, none⟩) (k + 1) cap) (us ++ [.slice a' m mc]) := by
  obtain ⟨h1, h2, h3, h4, h5, h6, h7⟩ := h
  have ga : w3.grownBy (w3.alloc (.cells #[.slice a' m mc] 56)) none := World.grownBy_alloc _ _ _
  have o3 := h6.alloc (.cells #[.slice a' m mc] 56)
  have D3 := grown_keeps ga h4 (fun j hj => by cases hj)
  have D4 := grown_keeps hg4 D3 (fun j hj => by obtain ⟨c', hc'⟩ := own_kind o3 hj; exact kinds_apart hc' D3 (by decide))
  have B3 := h1.grow ga (fun j hj => by cases hj)
  obtain ⟨cB, kB⟩ := B3.kind
  have B4 := B3.grow hg4 (fun j hj => by
    obtain ⟨c', hc'⟩ := own_kind o3 hj
    exact ⟨by have := (o3.lt j hj).1; omega, kinds_apart hc' kB (fun e => ht.2 e.symm)⟩)
  have gs := set_grown w4 D 1 (.slice (some ⟨g, 0, none⟩) (k + 1) cap)
  have i4 : Incl (only w3 [3]) (only (w4.setCell ⟨D, 1, none⟩ (.slice (some ⟨g, 0, none⟩) (k + 1) cap)) [3]) :=
    ((only_grow ga (fun j c' t' f hj hh => by cases hj)).trans (only_grow hg4 (fun j c' t' f hj hh => by
      obtain ⟨c'', hc''⟩ := own_kind o3 hj; rw [hc''] at hh; simp at hh; obtain ⟨_, rfl, _⟩ := hh; decide))).trans (only_grow gs (fun j c' t' f hj hh => by cases hj; rw [D4] at hh; simp at hh; obtain ⟨_, rfl, _⟩ := hh; decide))
  refine ⟨B4.grow gs (fun j hj => by cases hj; exact ⟨by omega, by omega⟩), ?_, h3, heap_setCell_same w4 D 1 _ _ _ D4, h5.incl i4, ?_, (h7.incl i4).app (rows_one (hi.incl i4))⟩
  · exact ((h2.andThen ga (fun j hj => by cases hj)).andThen hg4 (fun j hj => .inl (o3.lt j hj).1)).andThen gs (fun j hj => by cases hj; exact .inl h3)
  · exact ho.kept gs (.inr (fun e => by obtain ⟨c', hc'⟩ := own_kind ho e; exact kinds_apart hc' D4 (by decide) rfl))
theorem L3.dim {t : TypeId} {w W0 wr : World} {B D : Nat} {a : Option Addr} {n c k : Nat} {S : List Int} {s : St} {U : List (List Int)} {uv : Value} {us : List Value} (h : L3 t w W0 wr B D a n c S s U k uv us) (hS : ∀ x ∈ S, I64 x) (hU : ∀ l ∈ U, ∀ x ∈ l, I64 x) :
    ∃ ua uc, uv = .slice ua k uc ∧ Dim (only wr [3, 56]) a n c ua k uc S U := by
  obtain ⟨h1, h2, h3, h4, h5, h6, h7⟩ := h
  obtain ⟨ua, uc, rfl, hu⟩ := irows_only (T' := [3, 56]) h6 (by simp) (by intro t ht; simp at ht; subst ht; simp) h7
  exact ⟨ua, uc, rfl, h5.incl (only_more wr (by intro t ht; simp at ht; subst ht; simp)), hu, hS, hU⟩
/-- One list that is being read. -/
def L4 (t : TypeId) (w W4 wr : World) (B : Nat) (s : St) (up : Value) (l : List Int) : Prop := Rdr t w wr B s ∧ W4.grownBy wr (some B) ∧ wr.ownsRow W4.heap.size 3 1 up l.length (vals .i64 l)
theorem l4_new {t : TypeId} {w W4 : World} {B : Nat} {s : St} (h : Rdr t w W4 B s) : L4 t w W4 W4 B s (.slice none 0 0) [] := ⟨h, World.grownBy.refl _ _, World.ownsRow_nil _ _ _ _⟩
theorem L4.num {t : TypeId} {w W4 wr w3 : World} {B : Nat} {s s' : St} {up : Value} {l : List Int} (h : L4 t w W4 wr B s up l) (ht : ¬ t = 3) (hr3 : Rdr t w w3 B s') (hg3 : wr.grownBy w3 (some B)) : L4 t w W4 w3 B s' up l := by
  obtain ⟨h1, h2, h5⟩ := h
  obtain ⟨cB, kB⟩ := h1.kind
  exact ⟨hr3, h2.trans hg3, h5.kept hg3 (.inr (fun e => by obtain ⟨c', hc'⟩ := own_kind h5 e; exact kinds_apart hc' kB (fun e => ht e.symm) rfl))⟩
theorem L4.put {t : TypeId} {w W4 w3 w4 : World} {B : Nat} {s : St} {up up' : Value} {l : List Int} {x : Int} (h : L4 t w W4 w3 B s up l) (hw : w.heap.size ≤ W4.heap.size) (ht : ¬ t = 3)
    (ho : w4.ownsRow W4.heap.size 3 1 up' (l.length + 1) (vals .i64 (l ++ [x]))) (hg4 : (w3.alloc (.cells #[.int .i64 x] 3)).grownBy w4 up.ownBlock) : L4 t w W4 w4 B s up' (l ++ [x]) := by
  obtain ⟨h1, h2, h5⟩ := h
  have ga : w3.grownBy (w3.alloc (.cells #[.int .i64 x] 3)) none := World.grownBy_alloc _ _ _
  have o3 := h5.alloc (.cells #[.int .i64 x] 3)
  have B3 := h1.grow ga (fun j hj => by cases hj)
  obtain ⟨cB, kB⟩ := B3.kind
  refine ⟨B3.grow hg4 (fun j hj => ?_), (h2.andThen ga (fun j hj => by cases hj)).andThen hg4 (fun j hj => .inl (o3.lt j hj).1), by rw [List.length_append]; exact ho⟩
  obtain ⟨c', hc'⟩ := own_kind o3 hj
  exact ⟨by have := (o3.lt j hj).1; omega, kinds_apart hc' kB (fun e => ht e.symm)⟩
theorem L4.row {t : TypeId} {w W4 wr : World} {B : Nat} {s : St} {up : Value} {l : List Int} (h : L4 t w W4 wr B s up l) : ∃ a c, up = .slice a l.length c ∧ IRow .i64 (only wr [3]) a l.length c l := by
  obtain ⟨h1, h2, h5⟩ := h
  rcases h5.2 with ⟨rfl, h0⟩ | ⟨g, cap, cur, rfl, _⟩
  · have hl : l = [] := List.length_eq_zero_iff.mp h0
    subst hl
    exact ⟨none, 0, rfl, row_nil _ _⟩
  · exact ⟨_, _, rfl, own_only_row h5 (by simp)⟩

end Go.Proofs.Ytmlnfpefemchhaa

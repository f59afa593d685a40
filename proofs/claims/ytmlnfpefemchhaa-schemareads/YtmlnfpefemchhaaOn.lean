/-
  A world of which only the blocks of some kinds are looked at: what lies there is not turned by what is written elsewhere.
  Conditions: as each theorem states them.
-/
import Derived.Test.YtmlnfpefemchhaaLib5
namespace Go.Proofs.Ytmlnfpefemchhaa
open Go.ChangeShapes Go.WideShapes Go.ChangeAt Go.RowKit
set_option linter.unusedVariables false
set_option linter.unusedSimpArgs false

def keepT (T : List TypeId) : Obj → Obj
  | .cells c t f => if t ∈ T then .cells c t f else .cells #[] t f
  | _ => .cells #[] 0
/-- The world, blocks of other kinds emptied. -/
def only (w : World) (T : List TypeId) : World := { w with heap := w.heap.map (keepT T) }
theorem only_size (w : World) (T : List TypeId) : (only w T).heap.size = w.heap.size := by simp [only]
theorem only_cell {w : World} {T : List TypeId} {b o : Nat} {v : Value} (h : (only w T).cell? ⟨b, o, none⟩ = some v) : w.cell? ⟨b, o, none⟩ = some v ∧ ∃ c t f, w.heap[b]? = some (.cells c t f) ∧ t ∈ T := by
  unfold World.cell? only at *
  simp only [Array.getElem?_map] at h
  cases hb : w.heap[b]? with
  | none => rw [hb] at h; simp at h
  | some ob =>
    rw [hb] at h
    cases ob with
    | cells c t f =>
      simp only [Option.map_some, keepT] at h
      by_cases ht : t ∈ T
      · rw [if_pos ht] at h
        exact ⟨h, c, t, f, rfl, ht⟩
      · rw [if_neg ht] at h
        simp at h
    | _ => simp [keepT] at h
theorem only_of {w : World} {T : List TypeId} {b o : Nat} {v : Value} {c : Array Value} {t : TypeId} {f : Nat × Nat} (hb : w.heap[b]? = some (.cells c t f)) (ht : t ∈ T) (h : w.cell? ⟨b, o, none⟩ = some v) : (only w T).cell? ⟨b, o, none⟩ = some v := by
  unfold World.cell? only at *
  simp only [Array.getElem?_map]
  rw [hb] at h ⊢
  simp only [Option.map_some, keepT, if_pos ht]
  exact h
/-- All that lies in the one lies in the other. -/
def Incl (w1 w2 : World) : Prop := w1.heap.size ≤ w2.heap.size ∧ ∀ b o v, w1.cell? ⟨b, o, none⟩ = some v → w2.cell? ⟨b, o, none⟩ = some v
theorem Incl.trans {a b c : World} (h : Incl a b) (k : Incl b c) : Incl a c := ⟨Nat.le_trans h.1 k.1, fun b o v hv => k.2 b o v (h.2 b o v hv)⟩
theorem only_incl (w : World) (T : List TypeId) : Incl (only w T) w := ⟨by rw [only_size]; exact Nat.le_refl _, fun b o v h => (only_cell h).1⟩
theorem only_more (w : World) {T T' : List TypeId} (hT : ∀ t ∈ T, t ∈ T') : Incl (only w T) (only w T') :=
  ⟨by rw [only_size, only_size]; exact Nat.le_refl _, fun b o v h => by obtain ⟨h1, c, t, f, h2, h3⟩ := only_cell h; exact only_of h2 (hT t h3) h1⟩
theorem only_grow {w w' : World} {T : List TypeId} {row : Option Nat} (hg : w.grownBy w' row) (hr : ∀ j c t f, row = some j → w.heap[j]? = some (.cells c t f) → ¬ t ∈ T) : Incl (only w T) (only w' T) := by
  refine ⟨by rw [only_size, only_size]; exact hg.size, fun b o v h => ?_⟩
  obtain ⟨h1, c, t, f, h2, h3⟩ := only_cell h
  have hlt : b < w.heap.size := by
    by_cases hh : b < w.heap.size
    · exact hh
    · rw [Array.getElem?_eq_none (by omega)] at h2; cases h2
  have e : w'.heap[b]? = w.heap[b]? := hg.block b hlt (fun e => hr b c t f e.symm h2 h3)
  refine only_of (by rw [e]; exact h2) h3 ?_
  rw [World.cell?_of_block (w := w) (a := ⟨b, o, none⟩) e]; exact h1
theorem only_drew (w : World) (T : List TypeId) : Incl (only w T) (only w.drew T) := ⟨Nat.le_refl _, fun b o v h => h⟩
theorem incl_of_grow {w w' : World} {row : Option Nat} (hg : w.grownBy w' row) (hr : ∀ j, row = some j → w.heap.size ≤ j) : Incl w w' := by
  refine ⟨hg.size, fun b o v h => ?_⟩
  have hlt := World.block_lt_of_cell? _ _ h
  rw [World.cell?_of_block (w := w) (a := ⟨b, o, none⟩) (hg.block b hlt (fun e => by have := hr b e.symm; simp at hlt; omega))]; exact h

/-! What is told of rows is told of them in a world in which more lies. -/
theorem Lies.incl {k : IntKind} {w w' : World} {b off : Nat} {l : List Int} (h : Lies k w b off l) (hi : Incl w w') : Lies k w' b off l := fun j hj => hi.2 _ _ _ (h j hj)
theorem IRow.incl {k : IntKind} {w w' : World} {a : Option Addr} {n c : Nat} {l : List Int} (h : IRow k w a n c l) (hi : Incl w w') : IRow k w' a n c l := by
  obtain ⟨h1, h2, h3, h4, h5⟩ := h
  refine ⟨h1, h2, h3, h4, fun h0 => ?_⟩
  obtain ⟨b, off, e, hlt, hl⟩ := h5 h0
  exact ⟨b, off, e, Nat.lt_of_lt_of_le hlt hi.1, hl.incl hi⟩
theorem IRows.incl {k : IntKind} {w w' : World} {a : Option Addr} {n c : Nat} {U : List (List Int)} (h : IRows k w a n c U) (hi : Incl w w') : IRows k w' a n c U := by
  obtain ⟨h1, h2, h3, h4, h5⟩ := h
  refine ⟨h1, h2, h3, h4, fun h0 => ?_⟩
  obtain ⟨b, off, e, hlt, hl⟩ := h5 h0
  refine ⟨b, off, e, Nat.lt_of_lt_of_le hlt hi.1, fun j hj => ?_⟩
  obtain ⟨ra, rl, rc, hc, hr⟩ := hl j hj
  exact ⟨ra, rl, rc, hi.2 _ _ _ hc, hr.incl hi⟩
theorem Dim.incl {w w' : World} {sa : Option Addr} {sl sc : Nat} {ua : Option Addr} {ul uc : Nat} {S : List Int} {U : List (List Int)} (h : Dim w sa sl sc ua ul uc S U) (hi : Incl w w') : Dim w' sa sl sc ua ul uc S U :=
  ⟨h.1.incl hi, h.2.1.incl hi, h.2.2⟩
theorem Rows.incl {w w' : World} {vs : List Value} {U : List (List Int)} (h : Rows w vs U) (hi : Incl w w') : Rows w' vs U :=
  ⟨h.1, fun j hj => by obtain ⟨ra, rl, rc, h1, h2⟩ := h.2 j hj; exact ⟨ra, rl, rc, h1, h2.incl hi⟩⟩
theorem Pairs.incl {w w' : World} {ps : List (Value × Value)} {ds : List (List Int × List (List Int))} (h : Pairs w ps ds) (hi : Incl w w') : Pairs w' ps ds :=
  ⟨h.1, fun j hj => by obtain ⟨sa, sl, sc, ua, ul, uc, h1, h2⟩ := h.2 j hj; exact ⟨sa, sl, sc, ua, ul, uc, h1, h2.incl hi⟩⟩
theorem rows_nil0 (w : World) : Rows w [] [] := ⟨rfl, fun j hj => by simp at hj⟩
/-- A row of one's own, of one kind, looked at among that kind. -/
theorem own_only_row {k : IntKind} {e : TypeId} {w : World} {base g n cap : Nat} {l : List Int} {T : List TypeId} (h : w.ownsRow base e 1 (.slice (some ⟨g, 0, none⟩) n cap) n (vals k l)) (he : e ∈ T) : IRow k (only w T) (some ⟨g, 0, none⟩) n cap l := by
  obtain ⟨h1, h2, h3, h4, h5⟩ := own_row h
  obtain ⟨e1, hg, hl⟩ := owns_lies h
  refine ⟨h1, h2, h3, h4, fun _ => ⟨g, 0, rfl, by rw [only_size]; exact hg, fun j hj => ?_⟩⟩
  rcases h.2 with ⟨h', _⟩ | ⟨g', cap', cur, h', _, hgg, _⟩
  · simp at h'
  · simp only [Value.slice.injEq, Option.some.injEq, Addr.mk.injEq, and_true, true_and] at h'
    obtain ⟨rfl, rfl⟩ := h'
    exact only_of hgg he (hl j hj)
theorem own_kind {e : TypeId} {size : Nat} {w : World} {base n : Nat} {v : Value} {xs : List Value} {j : Nat} (h : w.ownsRow base e size v n xs) (hj : v.ownBlock = some j) : ∃ c, w.heap[j]? = some (.cells c e (0, 0)) := by
  rcases h.2 with ⟨rfl, _⟩ | ⟨g, cap, cur, rfl, _, hg, _⟩
  · cases hj
  · have : some g = some j := hj
    cases this
    exact ⟨cur, hg⟩
theorem irows_only {w : World} {base n : Nat} {e : TypeId} {v : Value} {vs : List Value} {U : List (List Int)} {T T' : List TypeId} (h : w.ownsRow base e 1 v n vs) (he : e ∈ T') (hT : ∀ t ∈ T, t ∈ T') (hr : Rows (only w T) vs U) : ∃ a c, v = .slice a n c ∧ IRows .i64 (only w T') a n c U := by
  have hn : n = U.length := by have := h.1; rw [hr.1] at this; omega
  rcases h.2 with ⟨rfl, h0⟩ | ⟨g, cap, cur, rfl, _, hg, hnc, hm, _, _⟩
  · subst h0
    have hU : U = [] := List.length_eq_zero_iff.mp hn.symm
    subst hU
    exact ⟨none, 0, rfl, rows_nil _ _⟩
  · refine ⟨some ⟨g, 0, none⟩, cap, rfl, hn, hnc, hm, (fun h => by cases h), fun _ => ⟨g, 0, rfl, by rw [only_size]; exact (h.lt g rfl).2, fun j hj => ?_⟩⟩
    obtain ⟨ra, rl, rc, h1, h2⟩ := hr.2 j (by omega)
    refine ⟨ra, rl, rc, only_of hg he ?_, h2.incl (only_more w hT)⟩
    rw [Nat.zero_add, h.cellAt j (by omega)]
    exact h1
/-- One more behind a row of one's own, at a step of a region that draws, or in a list of operations. -/
theorem news_one (w : World) (y : Value) (e : TypeId) : ∀ j u, ([y] : List Value)[j]? = some u → (w.alloc (.cells #[y] e)).cell? ((⟨w.heap.size, 0, none⟩ : Addr).add j) = some u := cell_one_new w y e

end Go.Proofs.Ytmlnfpefemchhaa

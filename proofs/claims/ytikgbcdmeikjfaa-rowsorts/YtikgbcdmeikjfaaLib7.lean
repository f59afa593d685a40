/-
  Rows of nodes (four bytes each): slices of them in a world, rows of one's own, one more.
  Conditions: as each theorem states them.
-/
import Derived.Test.YtikgbcdmeikjfaaLib6
namespace Go.Proofs.Ytikgbcdmeikjfaa
open Go.ChangeShapes Go.WideShapes Go.ChangeAt Go.RowKit
set_option linter.unusedVariables false
set_option linter.unusedSimpArgs false
set_option maxRecDepth 100000

/-- A node: four numbers. -/
abbrev Nd := Int × Int × Int × Int
/-- The cells of nodes, one behind the other. -/
def ncells : List Nd → List Value
  | [] => []
  | (a, b, c, d) :: r => .int .u8 a :: .int .u8 b :: .int .u8 c :: .int .u8 d :: ncells r
theorem ncells_len (l : List Nd) : (ncells l).length = l.length * 4 := by
  induction l with
  | nil => rfl
  | cons p r ih => obtain ⟨a, b, c, d⟩ := p; simp [ncells, ih]; omega
theorem ncells_app (l m : List Nd) : ncells (l ++ m) = ncells l ++ ncells m := by
  induction l with
  | nil => rfl
  | cons p r ih => obtain ⟨a, b, c, d⟩ := p; simp [ncells, ih]
theorem ncells_get (l : List Nd) (j : Nat) (a b c d : Int) (h : l[j]? = some (a, b, c, d)) : (ncells l)[j * 4]? = some (.int .u8 a) ∧ (ncells l)[j * 4 + 1]? = some (.int .u8 b) ∧ (ncells l)[j * 4 + 2]? = some (.int .u8 c) ∧ (ncells l)[j * 4 + 3]? = some (.int .u8 d) := by
  induction l generalizing j with
  | nil => simp at h
  | cons q r ih =>
    obtain ⟨x, y, z, t⟩ := q
    cases j with
    | zero => simp at h; obtain ⟨rfl, rfl, rfl, rfl⟩ := h; exact ⟨rfl, rfl, rfl, rfl⟩
    | succ j =>
      have := ih j (by simpa using h)
      rw [show (j + 1) * 4 = j * 4 + 1 + 1 + 1 + 1 by omega, show j * 4 + 1 + 1 + 1 + 1 + 1 = (j * 4 + 1) + 1 + 1 + 1 + 1 by omega, show j * 4 + 1 + 1 + 1 + 1 + 2 = (j * 4 + 2) + 1 + 1 + 1 + 1 by omega, show j * 4 + 1 + 1 + 1 + 1 + 3 = (j * 4 + 3) + 1 + 1 + 1 + 1 by omega]
      simpa [ncells] using this
theorem ncells_one (l : List Nd) : ∀ u ∈ ncells l, u.oneCell' = true := by
  induction l with
  | nil => intro u hu; simp [ncells] at hu
  | cons p r ih =>
    obtain ⟨a, b, c, d⟩ := p
    intro u hu
    simp only [ncells, List.mem_cons] at hu
    rcases hu with rfl | rfl | rfl | rfl | hu
    · rfl
    · rfl
    · rfl
    · rfl
    · exact ih u hu
theorem four_cells (w : World) (s u p q : Value) (e : TypeId) : ∀ j v, ([s, u, p, q] : List Value)[j]? = some v → (w.alloc (.cells #[s, u, p, q] e)).cell? ((⟨w.heap.size, 0, none⟩ : Addr).add j) = some v := by
  intro j v hv
  match j, hv with
  | 0, hv => simp at hv; subst hv; simp [Addr.add, go_sem]
  | 1, hv => simp at hv; subst hv; simp [Addr.add, go_sem]
  | 2, hv => simp at hv; subst hv; simp [Addr.add, go_sem]
  | 3, hv => simp at hv; subst hv; simp [Addr.add, go_sem]
/-- One node more behind a row of one's own. -/
theorem append_four {P : Program} {t e : TypeId} {z : Value} {by1 : Nat} (ht : P.underlying t = some (.slice e)) (hinfo : (P.info? e).map (fun i => (i.zero, i.size, i.bytes)) = some (some z, 4, by1)) (hz : z.cells.size = 4) (hby1 : by1 ≤ 48)
    {w : World} {ops : Array Oper} {rest : List Oper} {o : Oper} {a : Act} {Q : Exit → Act → World → Prop} (hgd : o.guard = none) (s x : Operand)
    (ho : o.op = .call { callee := .builtin .append, args := #[s, x], argTypes := #[t, t] }) (base n : Nat) (v : Value) (y0 y1 y2 y3 : Int) (xs : List Nd) (N : Nat) (hN : N = w.heap.size)
    (hs : a.eval s = v) (hown : w.ownsRow base e 4 v n (ncells xs)) (hx : a.eval x = .slice (some ⟨N, 0, none⟩) 1 1) (hn : n + 1 ≤ 1000000) (hbase : base ≤ w.heap.size)
    (h : ∀ v' w', w'.ownsRow base e 4 v' (n + 1) (ncells (xs ++ [(y0, y1, y2, y3)])) → (∃ g cap, v' = .slice (some ⟨g, 0, none⟩) (n + 1) cap ∧ (v.ownBlock = some g ∨ w.heap.size ≤ g)) → w.grownBy w' v.ownBlock → wpList P ops Q rest (a.put o.dst v') w') : wpList P ops Q (o :: rest) a (w.alloc (.cells #[.int .u8 y0, .int .u8 y1, .int .u8 y2, .int .u8 y3] e)) := by
  obtain ⟨i0, hi, hz0, hz1, hz2⟩ := info_parts hinfo
  have hb : (n + 1) * by1 ≤ 140737488355328 := Nat.le_trans (Nat.mul_le_mul hn hby1) (by decide)
  subst hN
  refine wpList_append_lies _ hgd s x t ho base e i0 z 4 by1 ht hi hz0 hz1 hz2 hz (by decide) v n (ncells xs) hs (hown.alloc _) ⟨w.heap.size, 0, none⟩ 1 1 [.int .u8 y0, .int .u8 y1, .int .u8 y2, .int .u8 y3] hx rfl (four_cells _ _ _ _ _ _) (by intro u hu; simp at hu; rcases hu with rfl | rfl | rfl | rfl <;> rfl) (by decide) (by unfold maxLen; omega) hb (by simp; omega) (w.heap.size + 1) (by simp) ?_
  intro g cap w' hown' hgrow' hg hlt
  refine h _ w' (by rw [ncells_app]; exact hown') ⟨g, cap, rfl, ?_⟩ ?_
  · rcases hg with hg | hg
    · exact .inl hg
    · exact .inr (by omega)
  · exact ⟨hgrow'.os, hgrow'.tape, hgrow'.output, Nat.le_trans (by simp) hgrow'.size, fun k hk hne => (hgrow'.block k (by simp; omega) hne).trans (Below.heap_alloc _ _ _ hk)⟩
/-- A slice of nodes, in a world. -/
def NRow (w : World) (a : Option Addr) (n c : Nat) (l : List Nd) : Prop :=
  n = l.length ∧ n ≤ c ∧ c ≤ maxLen ∧ (a = none → c = 0) ∧ (0 < n → ∃ b off, a = some ⟨b, off, none⟩ ∧ b < w.heap.size ∧ ∀ j x0 x1 x2 x3, l[j]? = some (x0, x1, x2, x3) →
    w.cell? ⟨b, off + j * 4, none⟩ = some (.int .u8 x0) ∧ w.cell? ⟨b, off + j * 4 + 1, none⟩ = some (.int .u8 x1) ∧ w.cell? ⟨b, off + j * 4 + 2, none⟩ = some (.int .u8 x2) ∧ w.cell? ⟨b, off + j * 4 + 3, none⟩ = some (.int .u8 x3))
theorem NRow.below {w w' : World} {a : Option Addr} {n c : Nat} {l : List Nd} (h : NRow w a n c l) (hb : Below w.heap.size w w') : NRow w' a n c l := by
  obtain ⟨h1, h2, h3, h4, h5⟩ := h
  refine ⟨h1, h2, h3, h4, fun h0 => ?_⟩
  obtain ⟨b, off, e, hlt, hl⟩ := h5 h0
  refine ⟨b, off, e, Nat.lt_of_lt_of_le hlt hb.size, fun j x0 x1 x2 x3 hj => ?_⟩
  obtain ⟨c0, c1, c2, c3⟩ := hl j x0 x1 x2 x3 hj
  exact ⟨((bcell hb).1 b _ hlt).trans c0, ((bcell hb).1 b _ hlt).trans c1, ((bcell hb).1 b _ hlt).trans c2, ((bcell hb).1 b _ hlt).trans c3⟩
theorem nrow_nil (w : World) : NRow w none 0 0 [] := ⟨rfl, Nat.le_refl _, by decide, fun _ => rfl, fun h => by cases h⟩
theorem NRow.lens {w : World} {a : Option Addr} {n c : Nat} {l : List Nd} (h : NRow w a n c l) : n = l.length ∧ n ≤ 9223372036854775807 := by
  obtain ⟨h1, h2, h3, _⟩ := h
  unfold maxLen at h3
  exact ⟨h1, by omega⟩
theorem nrow_own {w : World} {base n : Nat} {e : TypeId} {v : Value} {l : List Nd} (h : w.ownsRow base e 4 v n (ncells l)) : ∃ a c, v = .slice a n c ∧ NRow w a n c l := by
  have hn : n = l.length := by have := h.1; rw [ncells_len] at this; omega
  rcases h.2 with ⟨h', h0⟩ | ⟨g, cap, cur, h', _, hg, hnc, hm, hcs, htake⟩
  · subst h'
    have hd : l = [] := List.length_eq_zero_iff.mp (by omega)
    subst hd
    refine ⟨none, 0, by rw [h0], ?_⟩
    rw [h0]
    exact nrow_nil w
  · subst h'
    refine ⟨some ⟨g, 0, none⟩, cap, rfl, hn, hnc, hm, (fun h => by cases h), fun _ => ⟨g, 0, rfl, (h.lt g rfl).2, fun j x0 x1 x2 x3 hj => ?_⟩⟩
    obtain ⟨f0, f1, f2, f3⟩ := ncells_get l j _ _ _ _ hj
    have c0 := h.cells (g := g) rfl (j * 4) _ f0
    have c1 := h.cells (g := g) rfl (j * 4 + 1) _ f1
    have c2 := h.cells (g := g) rfl (j * 4 + 2) _ f2
    have c3 := h.cells (g := g) rfl (j * 4 + 3) _ f3
    rw [add_at] at c0 c1 c2 c3
    exact ⟨c0, by rw [Nat.add_assoc]; exact c1, by rw [Nat.add_assoc]; exact c2, by rw [Nat.add_assoc]; exact c3⟩
/-- One node of it, read. -/
theorem NRow.at {w : World} {a : Option Addr} {n c : Nat} {l : List Nd} (h : NRow w a n c l) {k : Nat} {x0 x1 x2 x3 : Int} (hk : l[k]? = some (x0, x1, x2, x3)) :
    ∃ b off, a = some ⟨b, off, none⟩ ∧ b < w.heap.size ∧ w.cell? ⟨b, off + k * 4, none⟩ = some (.int .u8 x0) ∧ w.cell? ⟨b, off + k * 4 + 1, none⟩ = some (.int .u8 x1) ∧ w.cell? ⟨b, off + k * 4 + 2, none⟩ = some (.int .u8 x2) ∧ w.cell? ⟨b, off + k * 4 + 3, none⟩ = some (.int .u8 x3) := by
  obtain ⟨h1, h2, h3, h4, h5⟩ := h
  have hlt : k < l.length := by
    by_cases g : k < l.length
    · exact g
    · rw [List.getElem?_eq_none (by omega)] at hk; cases hk
  obtain ⟨b, off, e, hb, hl⟩ := h5 (by omega)
  exact ⟨b, off, e, hb, hl k _ _ _ _ hk⟩

end Go.Proofs.Ytikgbcdmeikjfaa

/-
  A catalog's dimensions in a world: a slice of pairs of slices, as it comes in.
  Conditions: as each theorem states them.
-/
import Derived.Test.YtikgbcdmeikjfaaC
import Derived.Deep.SlicePairs
namespace Go.Proofs.Ytikgbcdmeikjfaa
open Go.ChangeShapes Go.WideShapes Go.ChangeAt Go.RowKit
set_option linter.unusedVariables false
set_option linter.unusedSimpArgs false
set_option maxRecDepth 100000

/-- A slice of dimensions, in a world. -/
def Cat (w : World) (a : Option Addr) (n c : Nat) (ds : List (List Int × List (List Int))) : Prop :=
  n = ds.length ∧ n ≤ c ∧ c ≤ maxLen ∧ (a = none → c = 0) ∧ (0 < n → ∃ b off, a = some ⟨b, off, none⟩ ∧ b < w.heap.size ∧ ∀ j, j < n → ∃ sa sl sc ua ul uc,
    w.cell? ⟨b, off + j * 2, none⟩ = some (.slice sa sl sc) ∧ w.cell? ⟨b, off + (j * 2 + 1), none⟩ = some (.slice ua ul uc) ∧ Dim w sa sl sc ua ul uc (ds.getD j ([], [])).1 (ds.getD j ([], [])).2)
theorem Cat.below {w w' : World} {a : Option Addr} {n c : Nat} {ds : List (List Int × List (List Int))} (h : Cat w a n c ds) (hb : Below w.heap.size w w') : Cat w' a n c ds := by
  obtain ⟨h1, h2, h3, h4, h5⟩ := h
  refine ⟨h1, h2, h3, h4, fun h0 => ?_⟩
  obtain ⟨b, off, e, hlt, hl⟩ := h5 h0
  refine ⟨b, off, e, Nat.lt_of_lt_of_le hlt hb.size, fun j hj => ?_⟩
  obtain ⟨sa, sl, sc, ua, ul, uc, c1, c2, hd⟩ := hl j hj
  exact ⟨sa, sl, sc, ua, ul, uc, ((bcell hb).1 b _ hlt).trans c1, ((bcell hb).1 b _ hlt).trans c2, hd.below hb⟩
theorem cat_nil (w : World) : Cat w none 0 0 [] := ⟨rfl, Nat.le_refl _, by decide, fun _ => rfl, fun h => by cases h⟩
theorem Cat.lens {w : World} {a : Option Addr} {n c : Nat} {ds : List (List Int × List (List Int))} (h : Cat w a n c ds) : n = ds.length ∧ n ≤ 9223372036854775807 := by
  obtain ⟨h1, h2, h3, _⟩ := h
  unfold maxLen at h3
  exact ⟨h1, by omega⟩
/-- One dimension of it, read. -/
theorem Cat.at {w : World} {a : Option Addr} {n c : Nat} {ds : List (List Int × List (List Int))} (h : Cat w a n c ds) {k : Nat} (hk : k < n) :
    ∃ b off, a = some ⟨b, off, none⟩ ∧ b < w.heap.size ∧ ∃ sa sl sc ua ul uc, w.cell? ⟨b, off + k * 2, none⟩ = some (.slice sa sl sc) ∧ w.cell? ⟨b, off + (k * 2 + 1), none⟩ = some (.slice ua ul uc) ∧ Dim w sa sl sc ua ul uc (ds.getD k ([], [])).1 (ds.getD k ([], [])).2 := by
  obtain ⟨h1, h2, h3, h4, h5⟩ := h
  obtain ⟨b, off, e, hlt, hl⟩ := h5 (by omega)
  exact ⟨b, off, e, hlt, hl k hk⟩
theorem add_at (b off j : Nat) : (⟨b, off, none⟩ : Addr).add j = ⟨b, off + j, none⟩ := by
  by_cases h0 : j = 0
  · subst h0; simp [Addr.add]
  · simp [Addr.add, h0]
theorem open_cat_cells {P : Program} {t e r q z : TypeId} {f0 f1 : Field} {H : Type} {enc : TypeId × Value → H} {W : World} {base fuel : Nat} {cs : List Value} {x : DataW H × List MemPlace}
    (ht : P.underlying t = some (.slice e)) (he : P.underlying e = some (.struct #[f0, f1])) (ce : P.cellsOf e = 2) (o0 : f0.offset = 0) (o1 : f1.offset = 1) (t0 : f0.type = q) (t1 : f1.type = r)
    (hr : P.underlying r = some (.slice q)) (hq : P.underlying q = some (.slice z)) (hz : P.underlying z = some (.int .i64)) (cr : P.cellsOf r = 1) (cq : P.cellsOf q = 1) (cz : P.cellsOf z = 1)
    (hf : DataW.trod enc P W base (fun _ => true) true fuel t cs = some x) : ∃ a n c ds, cs = [.slice a n c] ∧ Cat W a n c ds := by
  rcases Go.Deep.open_slice_pairs ht he ce o0 o1 (by rw [t0]; exact cq) (by rw [t1]; exact cr) hf with ⟨hcs, _⟩ | ⟨a, len, cap, m, n, V0, V1, D0, D1, P0, P1, hcs, _, hl, hm, hmm, _, hx⟩
  · exact ⟨none, 0, 0, [], hcs, cat_nil W⟩
  · simp only [if_true] at hmm
    have each : ∀ i, i < len → ∃ y : (Option Addr × Nat × Nat × List Int) × (Option Addr × Nat × Nat × List (List Int)), V0 i = .slice y.1.1 y.1.2.1 y.1.2.2.1 ∧ V1 i = .slice y.2.1 y.2.2.1 y.2.2.2.1 ∧ Dim W y.1.1 y.1.2.1 y.1.2.2.1 y.2.1 y.2.2.1 y.2.2.2.1 y.1.2.2.2 y.2.2.2.2 := by
      intro i hi
      obtain ⟨_, _, g0, g1⟩ := hx i (by omega)
      rw [t0] at g0
      rw [t1] at g1
      obtain ⟨sa, sl, sc, S, e0, r0, w0⟩ := open_irow_cells hq hz cz g0
      obtain ⟨ua, ul, uc, U, e1, r1, w1⟩ := open_irows_cells hr hq hz cq cz g1
      simp at e0 e1
      exact ⟨((sa, sl, sc, S), (ua, ul, uc, U)), e0, e1, r0, r1, fun y hy => bounds_i64 (w0 y hy), fun l hl y hy => bounds_i64 (w1 l hl y hy)⟩
    obtain ⟨y, hy⟩ := Go.Deep.choose_lt each
    refine ⟨some a, len, cap, (List.range len).map (fun i => ((y i).1.2.2.2, (y i).2.2.2.2)), hcs, ⟨by simp, hl, hm, (fun h => by cases h), fun h0 => ?_⟩⟩
    obtain ⟨b, off, spot⟩ := a
    have hc := (hx 0 (by omega)).1
    have hspot : spot = none := by simpa [Addr.add] using World.cell?_spot hc
    subst hspot
    have hb := World.block_lt_of_cell? _ _ hc
    refine ⟨b, off, rfl, by simpa [Addr.add] using hb, fun j hj => ?_⟩
    obtain ⟨c1, c2, _, _⟩ := hx j (by omega)
    obtain ⟨e0, e1, hd⟩ := hy j hj
    rw [add_at] at c1 c2
    rw [e0] at c1
    rw [e1] at c2
    refine ⟨_, _, _, _, _, _, c1, c2, ?_⟩
    have eg : ((List.range len).map (fun i => ((y i).1.2.2.2, (y i).2.2.2.2))).getD j ([], []) = ((y j).1.2.2.2, (y j).2.2.2.2) := by
      simp [List.getD_eq_getElem?_getD, List.getElem?_map, List.getElem?_range hj]
    rw [eg]
    exact hd

/-! Rows of one's own, one element more: a value of one cell, a pair of cells. -/
theorem append_val1 {P : Program} {t e : TypeId} {z : Value} {by1 : Nat} (ht : P.underlying t = some (.slice e)) (hinfo : (P.info? e).map (fun i => (i.zero, i.size, i.bytes)) = some (some z, 1, by1)) (hz : z.cells.size = 1) (hby1 : by1 ≤ 24)
    {w : World} {ops : Array Oper} {rest : List Oper} {o : Oper} {a : Act} {Q : Exit → Act → World → Prop} (hgd : o.guard = none) (s x : Operand)
    (ho : o.op = .call { callee := .builtin .append, args := #[s, x], argTypes := #[t, t] }) (base n : Nat) (v y : Value) (xs : List Value) (N : Nat) (hN : N = w.heap.size)
    (hs : a.eval s = v) (hown : w.ownsRow base e 1 v n xs) (hx : a.eval x = .slice (some ⟨N, 0, none⟩) 1 1) (hy : y.oneCell' = true) (hn : n + 1 ≤ 1000000) (hbase : base ≤ w.heap.size)
    (h : ∀ v' w', w'.ownsRow base e 1 v' (n + 1) (xs ++ [y]) → (∃ g cap, v' = .slice (some ⟨g, 0, none⟩) (n + 1) cap) → Below base w w' → (∀ k, v.ownBlock ≠ some k → k < w.heap.size → w'.heap[k]? = w.heap[k]?) → wpList P ops Q rest (a.put o.dst v') w') : wpList P ops Q (o :: rest) a (w.alloc (.cells #[y] e)) := by
  obtain ⟨i0, hi, hz0, hz1, hz2⟩ := info_parts hinfo
  have hb : (n + 1) * by1 ≤ 140737488355328 := Nat.le_trans (Nat.mul_le_mul hn hby1) (by decide)
  subst hN
  refine wpList_append_own _ hgd s x t ho base e i0 z 1 by1 ht hi hz0 hz1 hz2 hz (by decide) v n xs hs (hown.alloc _) ⟨w.heap.size, 0, none⟩ 1 1 [y] hx rfl (cell_one_new _ _ _) (by intro u hu; simp at hu; subst hu; exact hy) (by unfold maxLen; omega) hb (by simp; omega) ?_
  intro v' w' hown' hgrow' hiff
  refine h v' w' hown' (own_some hown' (by omega)) (((Below.refl _ _).alloc hbase _).grown hgrow' (by simp; omega) (fun j hj => own_ge hown hj)) (fun k hk hlt => ?_)
  rw [hgrow'.block k (by simp; omega) (fun e' => hk e'.symm)]
  exact Below.heap_alloc _ _ _ hlt
theorem two_cells (w : World) (s u : Value) (e : TypeId) : ∀ j v, ([s, u] : List Value)[j]? = some v → (w.alloc (.cells #[s, u] e)).cell? ((⟨w.heap.size, 0, none⟩ : Addr).add j) = some v := by
  intro j v hv
  match j, hv with
  | 0, hv => simp at hv; subst hv; simp [Addr.add, go_sem]
  | 1, hv => simp at hv; subst hv; simp [Addr.add, go_sem]
theorem append_pair {P : Program} {t e : TypeId} {z : Value} {by1 : Nat} (ht : P.underlying t = some (.slice e)) (hinfo : (P.info? e).map (fun i => (i.zero, i.size, i.bytes)) = some (some z, 2, by1)) (hz : z.cells.size = 2) (hby1 : by1 ≤ 48)
    {w : World} {ops : Array Oper} {rest : List Oper} {o : Oper} {a : Act} {Q : Exit → Act → World → Prop} (hgd : o.guard = none) (s x : Operand)
    (ho : o.op = .call { callee := .builtin .append, args := #[s, x], argTypes := #[t, t] }) (base n : Nat) (v y0 y1 : Value) (xs : List Value) (N : Nat) (hN : N = w.heap.size)
    (hs : a.eval s = v) (hown : w.ownsRow base e 2 v n xs) (hx : a.eval x = .slice (some ⟨N, 0, none⟩) 1 1) (hy0 : y0.oneCell' = true) (hy1 : y1.oneCell' = true) (hn : n + 1 ≤ 1000000) (hbase : base ≤ w.heap.size)
    (h : ∀ v' w', w'.ownsRow base e 2 v' (n + 1) (xs ++ [y0, y1]) → (∃ g cap, v' = .slice (some ⟨g, 0, none⟩) (n + 1) cap) → Below base w w' → wpList P ops Q rest (a.put o.dst v') w') : wpList P ops Q (o :: rest) a (w.alloc (.cells #[y0, y1] e)) := by
  obtain ⟨i0, hi, hz0, hz1, hz2⟩ := info_parts hinfo
  have hb : (n + 1) * by1 ≤ 140737488355328 := Nat.le_trans (Nat.mul_le_mul hn hby1) (by decide)
  subst hN
  refine wpList_append_own _ hgd s x t ho base e i0 z 2 by1 ht hi hz0 hz1 hz2 hz (by decide) v n xs hs (hown.alloc _) ⟨w.heap.size, 0, none⟩ 1 1 [y0, y1] hx rfl (two_cells _ _ _ _) (by intro u hu; simp at hu; rcases hu with rfl | rfl <;> assumption) (by unfold maxLen; omega) hb (by simp; omega) ?_
  intro v' w' hown' hgrow' hiff
  refine h v' w' hown' ?_ (((Below.refl _ _).alloc hbase _).grown hgrow' (by simp; omega) (fun j hj => ?_))
  · rcases hown'.2 with ⟨h', _⟩ | ⟨g, cap, cur, h', _⟩
    · exact absurd (hiff.mp h').2 (by omega)
    · exact ⟨g, cap, h'⟩
  · exact (hown.lt j hj).1
/-- A row of pairs of one's own is a slice of dimensions. -/
def flat2 : List (Value × Value) → List Value
  | [] => []
  | (a, b) :: r => a :: b :: flat2 r
theorem flat2_len (ps : List (Value × Value)) : (flat2 ps).length = ps.length * 2 := by
  induction ps with
  | nil => rfl
  | cons p r ih => obtain ⟨a, b⟩ := p; simp [flat2, ih]; omega
theorem flat2_app (ps : List (Value × Value)) (a b : Value) : flat2 (ps ++ [(a, b)]) = flat2 ps ++ [a, b] := by
  induction ps with
  | nil => rfl
  | cons p r ih => obtain ⟨x, y⟩ := p; simp [flat2, ih]
theorem flat2_get (ps : List (Value × Value)) (j : Nat) (p : Value × Value) (h : ps[j]? = some p) : (flat2 ps)[j * 2]? = some p.1 ∧ (flat2 ps)[j * 2 + 1]? = some p.2 := by
  induction ps generalizing j with
  | nil => simp at h
  | cons q r ih =>
    obtain ⟨x, y⟩ := q
    cases j with
    | zero => simp at h; subst h; exact ⟨rfl, rfl⟩
    | succ j =>
      have := ih j (by simpa using h)
      rw [show (j + 1) * 2 = j * 2 + 1 + 1 by omega, show j * 2 + 1 + 1 + 1 = j * 2 + 1 + 2 by omega]
      simpa [flat2] using this
/-- The pairs are slices that make dimensions. -/
def Pairs (w : World) (ps : List (Value × Value)) (ds : List (List Int × List (List Int))) : Prop :=
  ps.length = ds.length ∧ ∀ j, j < ds.length → ∃ sa sl sc ua ul uc, ps[j]? = some (.slice sa sl sc, .slice ua ul uc) ∧ Dim w sa sl sc ua ul uc (ds.getD j ([], [])).1 (ds.getD j ([], [])).2
theorem Pairs.below {w w' : World} {ps : List (Value × Value)} {ds : List (List Int × List (List Int))} (h : Pairs w ps ds) (hb : Below w.heap.size w w') : Pairs w' ps ds :=
  ⟨h.1, fun j hj => by obtain ⟨sa, sl, sc, ua, ul, uc, h1, h2⟩ := h.2 j hj; exact ⟨sa, sl, sc, ua, ul, uc, h1, h2.below hb⟩⟩
theorem pairs_nil (w : World) : Pairs w [] [] := ⟨rfl, fun j hj => by simp at hj⟩
theorem Pairs.snoc {w : World} {ps : List (Value × Value)} {ds : List (List Int × List (List Int))} {sa : Option Addr} {sl sc : Nat} {ua : Option Addr} {ul uc : Nat} {S : List Int} {U : List (List Int)} (h : Pairs w ps ds) (hd : Dim w sa sl sc ua ul uc S U) : Pairs w (ps ++ [(.slice sa sl sc, .slice ua ul uc)]) (ds ++ [(S, U)]) := by
  refine ⟨by simp [h.1], fun j hj => ?_⟩
  rw [List.length_append, List.length_singleton] at hj
  by_cases hl : j < ds.length
  · obtain ⟨sa', sl', sc', ua', ul', uc', h1, h2⟩ := h.2 j hl
    refine ⟨sa', sl', sc', ua', ul', uc', by rw [List.getElem?_append_left (by rw [h.1]; exact hl)]; exact h1, ?_⟩
    rw [List.getD_eq_getElem?_getD, List.getElem?_append_left hl, ← List.getD_eq_getElem?_getD]
    exact h2
  · obtain rfl : j = ds.length := by omega
    refine ⟨sa, sl, sc, ua, ul, uc, by rw [List.getElem?_append_right (by rw [h.1]; exact Nat.le_refl _), h.1]; simp, ?_⟩
    rw [List.getD_eq_getElem?_getD, List.getElem?_append_right (Nat.le_refl _)]
    simpa using hd
theorem cat_own {w : World} {base n : Nat} {e : TypeId} {v : Value} {ps : List (Value × Value)} {ds : List (List Int × List (List Int))} (h : w.ownsRow base e 2 v n (flat2 ps)) (hp : Pairs w ps ds) : ∃ a c, v = .slice a n c ∧ Cat w a n c ds := by
  have hn : n = ds.length := by have := h.1; rw [flat2_len, hp.1] at this; omega
  rcases h.2 with ⟨h', h0⟩ | ⟨g, cap, cur, h', _, hg, hnc, hm, hcs, htake⟩
  · subst h'
    have hd : ds = [] := List.length_eq_zero_iff.mp (by omega)
    subst hd
    refine ⟨none, 0, by rw [h0], ?_⟩
    rw [h0]
    exact cat_nil w
  · subst h'
    refine ⟨some ⟨g, 0, none⟩, cap, rfl, hn, hnc, hm, (fun h => by cases h), fun _ => ⟨g, 0, rfl, (h.lt g rfl).2, fun j hj => ?_⟩⟩
    obtain ⟨sa, sl, sc, ua, ul, uc, h1, h2⟩ := hp.2 j (by omega)
    obtain ⟨f1, f2⟩ := flat2_get ps j _ h1
    have c1 := h.cells (g := g) rfl (j * 2) _ f1
    have c2 := h.cells (g := g) rfl (j * 2 + 1) _ f2
    rw [add_at] at c1 c2
    exact ⟨sa, sl, sc, ua, ul, uc, c1, c2, h2⟩

end Go.Proofs.Ytikgbcdmeikjfaa

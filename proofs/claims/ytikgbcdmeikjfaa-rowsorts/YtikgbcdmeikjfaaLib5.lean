/-
  Rows of slices: appended to, cut at the head, stored into: for any program.
  Conditions: as each theorem states them.
-/
import Derived.Test.YtikgbcdmeikjfaaLib4
import Derived.Laws.OwnMore
namespace Go.Proofs.Ytikgbcdmeikjfaa
open Go.ChangeShapes Go.WideShapes Go.ChangeAt Go.RowKit
set_option linter.unusedVariables false
set_option linter.unusedSimpArgs false
set_option maxRecDepth 100000

/-- What an append reads. -/
def Src (w : World) (sa : Option Addr) (m c : Nat) (ys : List Value) : Prop :=
  ys.length = m ∧ (sa = none → m = 0 ∧ c = 0) ∧ (∀ u ∈ ys, u.oneCell' = true) ∧ ∀ ad, sa = some ad → ∀ j u, ys[j]? = some u → w.cell? (ad.add j) = some u
theorem append_vals {P : Program} {t e : TypeId} {z : Value} {by1 : Nat} (ht : P.underlying t = some (.slice e)) (hinfo : (P.info? e).map (fun i => (i.zero, i.size, i.bytes)) = some (some z, 1, by1)) (hz : z.cells.size = 1) (hby1 : by1 ≤ 24)
    {w : World} {ops : Array Oper} {rest : List Oper} {o : Oper} {a : Act} {Q : Exit → Act → World → Prop} (hgd : o.guard = none) (s x : Operand)
    (ho : o.op = .call { callee := .builtin .append, args := #[s, x], argTypes := #[t, t] }) (base g n cap : Nat) (xs : List Value)
    (hs : a.eval s = .slice (some ⟨g, 0, none⟩) n cap) (hown : w.ownsRow base e 1 (.slice (some ⟨g, 0, none⟩) n cap) n xs)
    (sa : Option Addr) (m c : Nat) (ys : List Value) (hx : a.eval x = .slice sa m c) (hr : Src w sa m c ys) (hn : n + m ≤ 1000) (hbase : base ≤ w.heap.size)
    (h : ∀ g' cap' w', w'.ownsRow base e 1 (.slice (some ⟨g', 0, none⟩) (n + m) cap') (n + m) (xs ++ ys) → w.grownBy w' (some g) → wpList P ops Q rest (a.put o.dst (.slice (some ⟨g', 0, none⟩) (n + m) cap')) w') : wpList P ops Q (o :: rest) a w := by
  obtain ⟨i0, hi, hz0, hz1, hz2⟩ := info_parts hinfo
  obtain ⟨r1, r2, r3, r4⟩ := hr
  cases sa with
  | none =>
    obtain ⟨rfl, rfl⟩ := r2 rfl
    have hy : ys = [] := List.length_eq_zero_iff.mp r1
    subst hy
    refine wpList_append_own_none hgd s x t ho base e i0 1 ht hi _ n xs hs hown hx ?_
    have := h g cap w (by simpa using hown) ⟨rfl, rfl, rfl, Nat.le_refl _, fun _ _ _ => rfl⟩
    simpa using this
  | some ad =>
    have hb : (n + m) * by1 ≤ 140737488355328 := Nat.le_trans (Nat.mul_le_mul hn hby1) (by decide)
    refine wpList_append_own w hgd s x t ho base e i0 z 1 by1 ht hi hz0 hz1 hz2 hz (by decide) _ n xs hs hown ad m c ys hx (by rw [r1, Nat.mul_one]) (r4 ad rfl) r3 (by unfold maxLen; omega) hb hbase ?_
    intro v' w' hown' hgrow' hiff
    obtain ⟨g', cap', rfl⟩ := own_form hown' (fun e => by have := (hiff.mp e).1; cases this)
    exact h g' cap' w' hown' hgrow'
theorem src_tail {w : World} {b off m c : Nat} {ys : List Value} (h : Src w (some ⟨b, off, none⟩) m c ys) (c' : Nat) : Src w (some ⟨b, off + 1, none⟩) (m - 1) c' (ys.drop 1) := by
  obtain ⟨r1, r2, r3, r4⟩ := h
  refine ⟨by rw [List.length_drop, r1], (fun e => by cases e), fun u hu => r3 u (List.mem_of_mem_drop hu), fun ad e' => ?_⟩
  cases e'
  intro j u hu
  rw [List.getElem?_drop] at hu
  have := r4 _ rfl (1 + j) u hu
  rw [add_at] at this ⊢
  rw [show off + 1 + j = off + (1 + j) by omega]
  exact this
theorem src_none {w : World} {ad : Addr} {m c : Nat} {ys : List Value} (h : Src w (some ad) m c ys) (hm : m ≤ 1) (c' : Nat) : Src w (some ad) (m - 1) c' (ys.drop 1) := by
  obtain ⟨r1, r2, r3, r4⟩ := h
  refine ⟨by rw [List.length_drop, r1], (fun e => by cases e), fun u hu => r3 u (List.mem_of_mem_drop hu), fun ad e' j u hu => ?_⟩
  rw [List.getElem?_drop, List.getElem?_eq_none (by omega)] at hu
  cases hu
theorem Src.below {w w' : World} {sa : Option Addr} {m c : Nat} {ys : List Value} (h : Src w sa m c ys) (hb : Below w.heap.size w w') : Src w' sa m c ys := by
  obtain ⟨r1, r2, r3, r4⟩ := h
  refine ⟨r1, r2, r3, fun ad e j u hu => ?_⟩
  have := r4 ad e j u hu
  exact (hb.cell (World.block_lt_of_cell? _ _ this)).trans this
theorem src_one {w : World} {b : Nat} {v : Value} (h : w.cell? ⟨b, 0, none⟩ = some v) (ho : v.oneCell' = true) : Src w (some ⟨b, 0, none⟩) 1 1 [v] := by
  refine ⟨rfl, (fun e => by cases e), (fun u hu => by simp at hu; subst hu; exact ho), fun ad e j u hu => ?_⟩
  cases e
  match j, hu with
  | 0, hu => simp at hu; subst hu; rw [add_at]; exact h
/-- A row's tail. -/
theorem irow_tail {w : World} {b off n c : Nat} {l : List Int} (h : IRow .i64 w (some ⟨b, off, none⟩) n c l) (hn : 1 ≤ n) : IRow .i64 w (some ⟨b, off + 1, none⟩) (n - 1) (c - 1) (l.drop 1) := by
  obtain ⟨h1, h2, h3, h4, h5⟩ := h
  refine ⟨by rw [List.length_drop, h1], by omega, by omega, (fun e => by cases e), fun h0 => ?_⟩
  obtain ⟨b', off', e, hb, hl⟩ := h5 (by omega)
  cases e
  refine ⟨b, off + 1, rfl, hb, fun j hj => ?_⟩
  rw [List.length_drop] at hj
  have := hl (1 + j) (by omega)
  rw [show off + 1 + j = off + (1 + j) by omega, this]
  rw [List.getD_eq_getElem?_getD, List.getD_eq_getElem?_getD, List.getElem?_drop]
theorem irow_none {w : World} {ad : Addr} : IRow .i64 w (some ad) 0 0 [] := ⟨rfl, Nat.le_refl _, by decide, (fun e => by cases e), fun h => by cases h⟩
theorem IRow.grown2 {w w' : World} {a : Option Addr} {n c G : Nat} {l : List Int} (h : IRow .i64 w a n c l) (hg : w.grownBy w' (some G)) (hne : ∀ b off, a = some ⟨b, off, none⟩ → ¬ b = G) : IRow .i64 w' a n c l := by
  obtain ⟨h1, h2, h3, h5, h6⟩ := h
  refine ⟨h1, h2, h3, h5, fun h0 => ?_⟩
  obtain ⟨b, off, e, hlt, hl⟩ := h6 h0
  exact ⟨b, off, e, Nat.lt_of_lt_of_le hlt hg.size, grown_lies hg hlt (fun e' => hne b off e (by cases e'; rfl)) hl⟩
theorem IRow.set {w : World} {a : Option Addr} {n c G o : Nat} {l : List Int} (h : IRow .i64 w a n c l) (v : Value) (hne : ∀ b off, a = some ⟨b, off, none⟩ → ¬ b = G) : IRow .i64 (w.setCell ⟨G, o, none⟩ v) a n c l := by
  obtain ⟨h1, h2, h3, h5, h6⟩ := h
  refine ⟨h1, h2, h3, h5, fun h0 => ?_⟩
  obtain ⟨b, off, e, hlt, hl⟩ := h6 h0
  exact ⟨b, off, e, by simpa using hlt, fun j hj => (World.cell?_setCell_other _ _ _ _ (by have := hne b off e; simp <;> omega)).trans (hl j hj)⟩

/-! Rows of slices. -/
def Rows (w : World) (vs : List Value) (U : List (List Int)) : Prop :=
  vs.length = U.length ∧ ∀ j, j < U.length → ∃ ra rl rc, vs[j]? = some (.slice ra rl rc) ∧ IRow .i64 w ra rl rc (U.getD j [])
theorem Rows.below {w w' : World} {vs : List Value} {U : List (List Int)} (h : Rows w vs U) (hb : Below w.heap.size w w') : Rows w' vs U :=
  ⟨h.1, fun j hj => by obtain ⟨ra, rl, rc, h1, h2⟩ := h.2 j hj; exact ⟨ra, rl, rc, h1, h2.below hb⟩⟩
theorem Rows.app {w : World} {vs vs' : List Value} {U U' : List (List Int)} (h : Rows w vs U) (h' : Rows w vs' U') : Rows w (vs ++ vs') (U ++ U') := by
  refine ⟨by rw [List.length_append, List.length_append, h.1, h'.1], fun j hj => ?_⟩
  rw [List.length_append] at hj
  by_cases hl : j < U.length
  · obtain ⟨ra, rl, rc, h1, h2⟩ := h.2 j hl
    refine ⟨ra, rl, rc, by rw [List.getElem?_append_left (by rw [h.1]; exact hl)]; exact h1, ?_⟩
    rw [List.getD_eq_getElem?_getD, List.getElem?_append_left hl, ← List.getD_eq_getElem?_getD]
    exact h2
  · obtain ⟨ra, rl, rc, h1, h2⟩ := h'.2 (j - U.length) (by omega)
    refine ⟨ra, rl, rc, by rw [List.getElem?_append_right (by rw [h.1]; omega), h.1]; exact h1, ?_⟩
    rw [List.getD_eq_getElem?_getD, List.getElem?_append_right (by omega), ← List.getD_eq_getElem?_getD]
    exact h2
theorem Rows.drop {w : World} {vs : List Value} {U : List (List Int)} (h : Rows w vs U) : Rows w (vs.drop 1) (U.drop 1) := by
  refine ⟨by rw [List.length_drop, List.length_drop, h.1], fun j hj => ?_⟩
  rw [List.length_drop] at hj
  obtain ⟨ra, rl, rc, h1, h2⟩ := h.2 (1 + j) (by omega)
  refine ⟨ra, rl, rc, by rw [List.getElem?_drop]; exact h1, ?_⟩
  rw [List.getD_eq_getElem?_getD, List.getElem?_drop, ← List.getD_eq_getElem?_getD]
  exact h2
theorem rows_one {w : World} {ra : Option Addr} {rl rc : Nat} {l : List Int} (h : IRow .i64 w ra rl rc l) : Rows w [.slice ra rl rc] [l] :=
  ⟨rfl, fun j hj => by
    obtain rfl : j = 0 := by simp at hj; omega
    exact ⟨ra, rl, rc, rfl, h⟩⟩
theorem rows_of {w : World} {a : Option Addr} {n c : Nat} {U : List (List Int)} (h : IRows .i64 w a n c U) : ∃ vs, Rows w vs U ∧ Src w a n c vs := by
  obtain ⟨h1, h2, h3, h4, h5⟩ := h
  by_cases hn : 0 < n
  · obtain ⟨b, off, rfl, hb, hc⟩ := h5 hn
    refine ⟨(List.range n).map (fun j => (w.cell? ⟨b, off + j, none⟩).getD undef), ⟨by simp [h1], fun j hj => ?_⟩, ⟨by simp, (fun e => by cases e), fun u hu => ?_, fun ad e j u hu => ?_⟩⟩
    · obtain ⟨ra, rl, rc, c1, c2⟩ := hc j (by omega)
      refine ⟨ra, rl, rc, ?_, c2⟩
      rw [List.getElem?_map, List.getElem?_range (by omega)]
      simp [c1]
    · obtain ⟨j, hj, rfl⟩ := List.mem_map.mp hu
      rw [List.mem_range] at hj
      obtain ⟨ra, rl, rc, c1, c2⟩ := hc j hj
      rw [c1]; rfl
    · cases e
      rw [add_at]
      rw [List.getElem?_map] at hu
      by_cases hj : j < n
      · rw [List.getElem?_range hj] at hu
        obtain ⟨ra, rl, rc, c1, c2⟩ := hc j hj
        simp [c1] at hu
        rw [c1, hu]
      · rw [List.getElem?_eq_none (by simp; omega)] at hu
        simp at hu
  · obtain rfl : n = 0 := by omega
    have hU : U = [] := List.length_eq_zero_iff.mp h1.symm
    subst hU
    exact ⟨[], ⟨rfl, fun j hj => by simp at hj⟩, ⟨rfl, fun e => ⟨rfl, h4 e⟩, by simp, fun ad e j u hu => by simp at hu⟩⟩
theorem irows_own {w : World} {base g n cap : Nat} {e : TypeId} {vs : List Value} {U : List (List Int)} (h : w.ownsRow base e 1 (.slice (some ⟨g, 0, none⟩) n cap) n vs) (hr : Rows w vs U) : IRows .i64 w (some ⟨g, 0, none⟩) n cap U := by
  have hn : n = U.length := by have := h.1; rw [hr.1] at this; omega
  have hlt := (h.lt g rfl).2
  rcases h.2 with ⟨h', _⟩ | ⟨g', cap', cur, h', _, _, hnc, hm, _, _⟩
  · simp at h'
  · simp only [Value.slice.injEq, Option.some.injEq, Addr.mk.injEq, and_true, true_and] at h'
    obtain ⟨rfl, rfl⟩ := h'
    refine ⟨hn, hnc, hm, (fun h => by cases h), fun _ => ⟨g, 0, rfl, hlt, fun j hj => ?_⟩⟩
    obtain ⟨ra, rl, rc, h1, h2⟩ := hr.2 j (by omega)
    refine ⟨ra, rl, rc, ?_, h2⟩
    rw [Nat.zero_add, h.cellAt j (by omega)]
    exact h1
/-- A literal's row is one's own. -/
theorem own_lit (w : World) (base n : Nat) (cur : Array Value) (e : TypeId) (hb : base ≤ w.heap.size) (hn : cur.size = n) (hm : n ≤ maxLen) : (w.alloc (.cells cur e)).ownsRow base e 1 (.slice (some ⟨w.heap.size, 0, none⟩) n n) n cur.toList := by
  refine ⟨by simp [hn], .inr ⟨w.heap.size, n, cur, rfl, hb, heap_alloc_new w _, Nat.le_refl _, hm, by rw [hn, Nat.mul_one], ?_⟩⟩
  rw [Nat.mul_one, ← hn]
  exact List.take_length

/-! A row from a place on. -/
theorem irow_drop {k : IntKind} {w : World} {b off n c m : Nat} {l : List Int} (h : IRow k w (some ⟨b, off, none⟩) n c l) (hm : m ≤ n) : IRow k w (some ⟨b, off + m, none⟩) (n - m) (c - m) (l.drop m) := by
  obtain ⟨h1, h2, h3, h4, h5⟩ := h
  refine ⟨by rw [List.length_drop, h1], by omega, by omega, (fun e => by cases e), fun h0 => ?_⟩
  obtain ⟨b', off', e, hb, hl⟩ := h5 (by omega)
  cases e
  refine ⟨b, off + m, rfl, hb, fun j hj => ?_⟩
  rw [List.length_drop] at hj
  have := hl (m + j) (by omega)
  rw [show off + m + j = off + (m + j) by omega, this]
  rw [List.getD_eq_getElem?_getD, List.getD_eq_getElem?_getD, List.getElem?_drop]
theorem irow_end {k : IntKind} {w : World} {ad : Addr} {c : Nat} (hc : c ≤ maxLen) : IRow k w (some ad) 0 c [] := ⟨rfl, Nat.zero_le _, hc, (fun e => by cases e), fun h => by cases h⟩
/-- A catalog's own two cells. -/
theorem open_catalog_cells {P : Program} {tc t e r q z i : TypeId} {g0 g1 f0 f1 : Field} {H : Type} {enc : TypeId × Value → H} {W : World} {base fuel : Nat} {c0 c1 : Value} {x : DataW H × List MemPlace}
    (hC : P.underlying tc = some (.struct #[g0, g1])) (p0 : g0.offset = 0) (p1 : g1.offset = 1) (s0 : g0.type = t) (s1 : g1.type = i) (ct : P.cellsOf t = 1) (ci : P.cellsOf i = 1) (hi : P.underlying i = some (.int .i64))
    (ht : P.underlying t = some (.slice e)) (he : P.underlying e = some (.struct #[f0, f1])) (ce : P.cellsOf e = 2) (o0 : f0.offset = 0) (o1 : f1.offset = 1) (t0 : f0.type = q) (t1 : f1.type = r)
    (hr : P.underlying r = some (.slice q)) (hq : P.underlying q = some (.slice z)) (hz : P.underlying z = some (.int .i64)) (cr : P.cellsOf r = 1) (cq : P.cellsOf q = 1) (cz : P.cellsOf z = 1)
    (hf : DataW.trod enc P W base (fun _ => true) true fuel tc [c0, c1] = some x) : ∃ a n c ds M, c0 = .slice a n c ∧ c1 = .int .i64 M ∧ Cat W a n c ds ∧ I64 M := by
  obtain ⟨y0, y1, m, _, _, k0, k1⟩ := trod_struct2 hC hf
  rw [s0, ct, p0] at k0
  rw [s1, ci, p1] at k1
  simp at k0 k1
  obtain ⟨a, n, c, ds, e0, hcat⟩ := open_cat_cells ht he ce o0 o1 t0 t1 hr hq hz cr cq cz k0
  obtain ⟨M, e1, _, wM⟩ := DataW.trod_int hi k1
  simp at e0 e1
  exact ⟨a, n, c, ds, M, e0, e1, hcat, bounds_i64 wM⟩

end Go.Proofs.Ytikgbcdmeikjfaa

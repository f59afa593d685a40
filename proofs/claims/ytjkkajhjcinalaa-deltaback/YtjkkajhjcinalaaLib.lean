/-
  Worlds that grow, rows of integers in them, rows of one's own: what is told of them for any program.
  Conditions: as each theorem states them.
-/
import Derived.WalkKit
import Derived.WalkSpells
import Derived.Laws.Externs
import Derived.Below
import Derived.OwnWalk
import Derived.ProofKit
import Derived.OpenShut
import Derived.Deep.DeepAppendRoom
import Derived.Deep.AppendLies
import Derived.Laws.AppendOwnNone
import Derived.Deep.RegionHeld3
import Derived.Deep.Matrix
namespace Go.Proofs.Ytjkkajhjcinalaa
open Go.ChangeShapes Go.WideShapes Go.ChangeAt Go.RowKit
set_option linter.unusedVariables false
set_option linter.unusedSimpArgs false
set_option maxRecDepth 100000

/-! Numbers. -/
def I64 (x : Int) : Prop := -9223372036854775808 ≤ x ∧ x ≤ 9223372036854775807
def U64 (x : Int) : Prop := 0 ≤ x ∧ x ≤ 18446744073709551615
def U32 (x : Int) : Prop := 0 ≤ x ∧ x ≤ 4294967295
def U8 (x : Int) : Prop := 0 ≤ x ∧ x ≤ 255
theorem bounds_i64 {n : Int} (h : (Lit.int .i64 n).wf = true) : I64 n := by
  unfold I64; simp [Lit.wf, IntKind.min, IntKind.max, IntKind.signed, IntKind.bits] at h; omega
theorem bounds_u64 {n : Int} (h : (Lit.int .u64 n).wf = true) : U64 n := by
  unfold U64; simp [Lit.wf, IntKind.min, IntKind.max, IntKind.signed, IntKind.bits] at h; omega
theorem bounds_u32 {n : Int} (h : (Lit.int .u32 n).wf = true) : U32 n := by
  unfold U32; simp [Lit.wf, IntKind.min, IntKind.max, IntKind.signed, IntKind.bits] at h; omega
theorem bounds_u8 {n : Int} (h : (Lit.int .u8 n).wf = true) : U8 n := by
  unfold U8; simp [Lit.wf, IntKind.min, IntKind.max, IntKind.signed, IntKind.bits] at h; omega
theorem ret_int {k : IntKind} {a b : Int} (h : a = b) : Ending.returned (.int k a) = .returned (.int k b) := by rw [h]
theorem ret_bool {a b : Bool} (h : a = b) : Ending.returned (.bool a) = .returned (.bool b) := by rw [h]

/-! Worlds that grow. -/
theorem bt {a b c : World} (h : Below a.heap.size a b) (k : Below b.heap.size b c) : Below a.heap.size a c := h.trans (k.mono h.size)
theorem bt1 {B : Nat} {a b c : World} {o : Obj} (h : Below B a b) (hB : B ≤ b.heap.size) (k : Below (b.alloc o).heap.size (b.alloc o) c) : Below B a c :=
  (h.alloc hB o).trans (k.mono (by simp; omega))
theorem bcell {W w1 : World} (hb : Below W.heap.size W w1) : (∀ b o, b < W.heap.size → w1.cell? ⟨b, o, none⟩ = W.cell? ⟨b, o, none⟩) ∧ (∀ b o, b < W.heap.size → w1.frozen? ⟨b, o, none⟩ = W.frozen? ⟨b, o, none⟩) :=
  ⟨fun b o h => hb.cell (p := ⟨b, o, none⟩) h, fun b o h => hb.frozen (p := ⟨b, o, none⟩) h⟩
theorem undrew {B : Nat} {a w : World} (h : Below B a.drew w) : Below B a w := ⟨h.os, h.tape, h.output, h.size, h.block⟩
theorem grown_cell {w w' : World} {row : Option Nat} (h : w.grownBy w' row) {b o : Nat} (hb : b < w.heap.size) (hr : row ≠ some b) : w'.cell? ⟨b, o, none⟩ = w.cell? ⟨b, o, none⟩ :=
  World.cell?_of_block (w := w) (a := ⟨b, o, none⟩) (h.block b hb (fun e => hr e.symm))

/-! Integers in a row. -/
def vals (k : IntKind) (l : List Int) : List Value := l.map (Value.int k)
theorem vals_one (k : IntKind) (l : List Int) : ∀ u ∈ vals k l, u.oneCell' = true := by
  intro u hu
  obtain ⟨x, _, rfl⟩ := List.mem_map.mp hu
  rfl
theorem vals_len (k : IntKind) (l : List Int) : (vals k l).length = l.length * 1 := by simp [vals]
theorem vals_app (k : IntKind) (xs ys : List Int) : vals k xs ++ vals k ys = vals k (xs ++ ys) := by simp [vals]
theorem vals_get (k : IntKind) (l : List Int) (j : Nat) (u : Value) (h : (vals k l)[j]? = some u) : j < l.length ∧ u = .int k (l.getD j 0) := by
  unfold vals at h
  rw [List.getElem?_map] at h
  cases e : l[j]? with
  | none => rw [e] at h; simp at h
  | some x =>
    rw [e] at h
    simp at h
    have : j < l.length := by
      by_cases g : j < l.length
      · exact g
      · rw [List.getElem?_eq_none (by omega)] at e; cases e
    refine ⟨this, ?_⟩
    rw [← h, List.getD_eq_getElem?_getD, e]; rfl
theorem getD_of {l : List Int} {p : Int → Prop} (hu : ∀ x ∈ l, p x) (k : Nat) (h : k < l.length) : p (l.getD k 0) := by
  have : l.getD k 0 = l[k] := by simp [List.getD_eq_getElem?_getD, List.getElem?_eq_getElem h]
  rw [this]
  exact hu _ (List.getElem_mem h)

/-- Cells of a block, from a place on, that hold integers. -/
def Lies (k : IntKind) (w : World) (b off : Nat) (l : List Int) : Prop := ∀ j, j < l.length → w.cell? ⟨b, off + j, none⟩ = some (.int k (l.getD j 0))
theorem lies_cells {k : IntKind} {w : World} {b off : Nat} {l : List Int} (h : Lies k w b off l) : ∀ j u, (vals k l)[j]? = some u → w.cell? ((⟨b, off, none⟩ : Addr).add j) = some u := by
  intro j u hu
  obtain ⟨h1, rfl⟩ := vals_get k l j u hu
  have := h j h1
  by_cases h0 : j = 0
  · subst h0; simpa [Addr.add] using this
  · simpa [Addr.add, h0] using this
theorem grown_lies {k : IntKind} {w w' : World} {row : Option Nat} (h : w.grownBy w' row) {b off : Nat} {l : List Int} (hb : b < w.heap.size) (hr : row ≠ some b) (hl : Lies k w b off l) : Lies k w' b off l :=
  fun j hj => (grown_cell h hb hr).trans (hl j hj)
theorem lies_alloc {k : IntKind} {w : World} {o : Obj} {g off : Nat} {l : List Int} (hg : g < w.heap.size) (hl : Lies k w g off l) : Lies k (w.alloc o) g off l :=
  grown_lies (World.grownBy_alloc w o none) hg (by simp) hl
theorem lies_to {k : IntKind} {w w' : World} {g off : Nat} {l : List Int} (hb : Below w.heap.size w w') (hg : g < w.heap.size) (hl : Lies k w g off l) : g < w'.heap.size ∧ Lies k w' g off l :=
  ⟨Nat.lt_of_lt_of_le hg hb.size, fun j hj => ((bcell hb).1 g _ hg).trans (hl j hj)⟩

/-- A slice of integers, in a world. -/
def IRow (k : IntKind) (w : World) (a : Option Addr) (len cap : Nat) (l : List Int) : Prop :=
  len = l.length ∧ len ≤ cap ∧ cap ≤ maxLen ∧ (a = none → cap = 0) ∧ (0 < len → ∃ b off, a = some ⟨b, off, none⟩ ∧ b < w.heap.size ∧ Lies k w b off l)
theorem IRow.below {k : IntKind} {w w' : World} {a : Option Addr} {len cap : Nat} {l : List Int} (h : IRow k w a len cap l) (hb : Below w.heap.size w w') : IRow k w' a len cap l := by
  obtain ⟨h1, h2, h3, h5, h6⟩ := h
  refine ⟨h1, h2, h3, h5, fun h0 => ?_⟩
  obtain ⟨b, off, e, hlt, hl⟩ := h6 h0
  exact ⟨b, off, e, (lies_to hb hlt hl).1, (lies_to hb hlt hl).2⟩
theorem row_nil (k : IntKind) (w : World) : IRow k w none 0 0 [] := ⟨rfl, Nat.le_refl _, by decide, fun _ => rfl, fun h => by cases h⟩
theorem row_at {k : IntKind} {w : World} {g off cap : Nat} {l : List Int} (hg : g < w.heap.size) (hl : Lies k w g off l) (hn : l.length ≤ cap) (hc : cap ≤ maxLen) : IRow k w (some ⟨g, off, none⟩) l.length cap l :=
  ⟨rfl, hn, hc, (fun h => by cases h), fun _ => ⟨g, off, rfl, hg, hl⟩⟩
theorem row_src {k : IntKind} {w : World} {ad : Addr} {m c : Nat} {ys : List Int} (h : IRow k w (some ad) m c ys) : ∀ j u, (vals k ys)[j]? = some u → w.cell? (ad.add j) = some u := by
  intro j u hu
  obtain ⟨h1, h2⟩ := vals_get k ys j u hu
  obtain ⟨r1, r2, r3, r5, r6⟩ := h
  obtain ⟨b, off, e, hlt, hl⟩ := r6 (by omega)
  cases e
  exact lies_cells hl j u hu

/-! Rows of one's own. -/
theorem owns_lies {k : IntKind} {e : TypeId} {w : World} {base g n cap : Nat} {l : List Int} (h : w.ownsRow base e 1 (.slice (some ⟨g, 0, none⟩) n cap) n (vals k l)) : n = l.length ∧ g < w.heap.size ∧ Lies k w g 0 l := by
  have e : n = l.length := by have := h.1; rw [vals_len] at this; omega
  refine ⟨e, (h.lt g rfl).2, fun j hj => ?_⟩
  rw [Nat.zero_add, h.cellAt j (by omega)]
  unfold vals
  rw [List.getElem?_map, List.getElem?_eq_getElem hj]
  simp [List.getD_eq_getElem?_getD, List.getElem?_eq_getElem hj]
theorem own_row {k : IntKind} {e : TypeId} {w : World} {base g n cap : Nat} {l : List Int} (h : w.ownsRow base e 1 (.slice (some ⟨g, 0, none⟩) n cap) n (vals k l)) : IRow k w (some ⟨g, 0, none⟩) n cap l := by
  obtain ⟨e1, h1, h2⟩ := owns_lies h
  rcases h.2 with ⟨h', _⟩ | ⟨g', cap', cur, h', _, _, hn, hm, _, _⟩
  · simp at h'
  · simp only [Value.slice.injEq, Option.some.injEq, Addr.mk.injEq, and_true, true_and] at h'
    obtain ⟨rfl, rfl⟩ := h'
    exact ⟨e1, hn, hm, (fun h => by cases h), fun _ => ⟨g, 0, rfl, h1, h2⟩⟩
theorem own_form {e : TypeId} {w : World} {base n : Nat} {v : Value} {xs : List Value} (h : w.ownsRow base e 1 v n xs) (hne : ¬ v = .slice none 0 0) : ∃ g cap, v = .slice (some ⟨g, 0, none⟩) n cap := by
  rcases h.2 with ⟨h', _⟩ | ⟨g, cap, cur, h', _⟩
  · exact absurd h' hne
  · exact ⟨g, cap, h'⟩
theorem own_some {e : TypeId} {w : World} {base n : Nat} {v : Value} {xs : List Value} (h : w.ownsRow base e 1 v n xs) (hn : 0 < n) : ∃ g cap, v = .slice (some ⟨g, 0, none⟩) n cap := by
  rcases h.2 with ⟨_, h'⟩ | ⟨g, cap, cur, h', _⟩
  · omega
  · exact ⟨g, cap, h'⟩
theorem own_ge {e : TypeId} {w : World} {base n k : Nat} {v : Value} {xs : List Value} (h : w.ownsRow base e 1 v n xs) (hk : v.ownBlock = some k) : base ≤ k := (h.lt k hk).1
theorem own_le {N n cap g H : Nat} (h : (Value.slice (some ⟨N, 0, none⟩) n cap).ownBlock = some g ∨ g = H) (hH : N ≤ H) : N ≤ g := by
  rcases h with h | h
  · have h' : some N = some g := h
    cases h'; exact Nat.le_refl _
  · omega
theorem own_only {N n cap k : Nat} (h : (Value.slice (some ⟨N, 0, none⟩) n cap).ownBlock = some k) : k = N := by
  have h' : some N = some k := h
  cases h'; rfl
theorem own_made (e : TypeId) (w : World) (base : Nat) (hb : base ≤ w.heap.size) : (w.alloc (.cells #[] e)).ownsRow base e 1 (.slice (some ⟨w.heap.size, 0, none⟩) 0 0) 0 [] :=
  World.ownsRow_made w #[] 0 hb (by decide) rfl
/-- A row of one's own, as the slice that it is: nil, or at the head of a block. -/
theorem own_irow {k : IntKind} {e : TypeId} {w : World} {base n : Nat} {v : Value} {l : List Int} (h : w.ownsRow base e 1 v n (vals k l)) : ∃ a cap, v = .slice a n cap ∧ IRow k w a n cap l := by
  rcases h.2 with ⟨h', hn⟩ | ⟨g, cap, cur, h', _⟩
  · subst h' hn
    have hl : l = [] := List.length_eq_zero_iff.mp (by have := h.1; rw [vals_len] at this; omega)
    subst hl
    exact ⟨none, 0, rfl, row_nil k w⟩
  · subst h'
    exact ⟨some ⟨g, 0, none⟩, cap, rfl, own_row h⟩

/-- An append of any slice of integers to a row of one's own that is not nil. -/
theorem append_row {P : Program} {t e : TypeId} {k : IntKind} {by1 : Nat} (ht : P.underlying t = some (.slice e)) (hinfo : (P.info? e).map (fun i => (i.zero, i.size, i.bytes)) = some (some (.int k 0), 1, by1)) (hby1 : by1 ≤ 8)
    {w : World} {ops : Array Oper} {rest : List Oper} {o : Oper} {a : Act} {Q : Exit → Act → World → Prop} (hgd : o.guard = none) (s x : Operand)
    (ho : o.op = .call { callee := .builtin .append, args := #[s, x], argTypes := #[t, t] }) (base g n cap : Nat) (xs : List Int)
    (hs : a.eval s = .slice (some ⟨g, 0, none⟩) n cap) (hown : w.ownsRow base e 1 (.slice (some ⟨g, 0, none⟩) n cap) n (vals k xs))
    (sa : Option Addr) (m c : Nat) (ys : List Int) (hx : a.eval x = .slice sa m c) (hr : IRow k w sa m c ys) (hn : n + m ≤ 10000000000) (hbase : base ≤ w.heap.size)
    (h : ∀ g' cap' w', w'.ownsRow base e 1 (.slice (some ⟨g', 0, none⟩) (n + m) cap') (n + m) (vals k (xs ++ ys)) → w.grownBy w' (some g) → wpList P ops Q rest (a.put o.dst (.slice (some ⟨g', 0, none⟩) (n + m) cap')) w') : wpList P ops Q (o :: rest) a w := by
  obtain ⟨i0, hi, hz0, hz1, hz2⟩ := info_parts hinfo
  cases sa with
  | none =>
    obtain ⟨r1, r2, r3, r5, r6⟩ := hr
    obtain rfl : c = 0 := r5 rfl
    obtain rfl : m = 0 := by omega
    have hy : ys = [] := List.length_eq_zero_iff.mp r1.symm
    subst hy
    refine wpList_append_own_none hgd s x t ho base e i0 1 ht hi _ n (vals k xs) hs hown hx ?_
    have := h g cap w (by simpa using hown) ⟨rfl, rfl, rfl, Nat.le_refl _, fun _ _ _ => rfl⟩
    simpa using this
  | some ad =>
    have hb : (n + m) * by1 ≤ 140737488355328 := Nat.le_trans (Nat.mul_le_mul hn hby1) (by decide)
    refine wpList_append_own w hgd s x t ho base e i0 (.int k 0) 1 by1 ht hi hz0 hz1 hz2 rfl (by decide) _ n (vals k xs) hs hown ad m c (vals k ys) hx (by rw [vals_len, hr.1]) (row_src hr) (vals_one _ _) (by unfold maxLen; omega) hb hbase ?_
    intro v' w' hown' hgrow' hiff
    obtain ⟨g', cap', rfl⟩ := own_form hown' (fun e => by have := (hiff.mp e).1; cases this)
    rw [vals_app] at hown'
    exact h g' cap' w' hown' hgrow'

/-- One integer more behind a row of one's own (nil or not): the value that is added lies in a new block. -/
theorem append_one {P : Program} {t e : TypeId} {k : IntKind} {by1 : Nat} (ht : P.underlying t = some (.slice e)) (hinfo : (P.info? e).map (fun i => (i.zero, i.size, i.bytes)) = some (some (.int k 0), 1, by1)) (hby1 : by1 ≤ 8)
    {w : World} {ops : Array Oper} {rest : List Oper} {o : Oper} {a : Act} {Q : Exit → Act → World → Prop} (hgd : o.guard = none) (s x : Operand)
    (ho : o.op = .call { callee := .builtin .append, args := #[s, x], argTypes := #[t, t] }) (base n : Nat) (v : Value) (y : Int) (xs : List Int) (N : Nat) (hN : N = w.heap.size)
    (hs : a.eval s = v) (hown : w.ownsRow base e 1 v n (vals k xs)) (hx : a.eval x = .slice (some ⟨N, 0, none⟩) 1 1) (hn : n + 1 ≤ 10000000000) (hbase : base ≤ w.heap.size)
    (h : ∀ v' w', w'.ownsRow base e 1 v' (n + 1) (vals k (xs ++ [y])) → (∃ g cap, v' = .slice (some ⟨g, 0, none⟩) (n + 1) cap) → Below base w w' → wpList P ops Q rest (a.put o.dst v') w') : wpList P ops Q (o :: rest) a (w.alloc (.cells #[.int k y] e)) := by
  obtain ⟨i0, hi, hz0, hz1, hz2⟩ := info_parts hinfo
  have hb : (n + 1) * by1 ≤ 140737488355328 := Nat.le_trans (Nat.mul_le_mul hn hby1) (by decide)
  subst hN
  refine wpList_append_own _ hgd s x t ho base e i0 (.int k 0) 1 by1 ht hi hz0 hz1 hz2 rfl (by decide) v n (vals k xs) hs (hown.alloc _) ⟨w.heap.size, 0, none⟩ 1 1 [.int k y] hx rfl (cell_one_new _ _ _) (by intro u hu; simp at hu; subst hu; rfl) (by unfold maxLen; omega) hb (by simp; omega) ?_
  intro v' w' hown' hgrow' hiff
  have e1 : vals k xs ++ [.int k y] = vals k (xs ++ [y]) := by simp [vals]
  rw [e1] at hown'
  exact h v' w' hown' (own_some hown' (by omega)) (((Below.refl _ _).alloc hbase _).grown hgrow' (by simp; omega) (fun j hj => own_ge hown hj))

/-! Parameters, opened. -/
theorem okWide_array {P : Program} {w : World} {r : Reach} {b0 : Nat} {t e : TypeId} {n : Nat} {v : Value} (ht : P.underlying t = some (.array n e)) (h : Value.okWide P w r b0 t v) : ∃ cs, v = .agg cs ∧ cs.size = P.cellsOf t := by
  simp only [Value.okWide, ht] at h
  obtain ⟨cs, h1, h2, _⟩ := h
  exact ⟨cs, h1, h2⟩
/-- The cells of a slice of integers that came in. -/
theorem open_irow_cells {P : Program} {t e : TypeId} {k : IntKind} {H : Type} {enc : TypeId × Value → H} {W : World} {base fuel : Nat} {cs : List Value} {x : DataW H × List MemPlace}
    (ht : P.underlying t = some (.slice e)) (he : P.underlying e = some (.int k)) (hc : P.cellsOf e = 1)
    (hf : DataW.trod enc P W base (fun _ => true) true fuel t cs = some x) : ∃ a len cap l, cs = [.slice a len cap] ∧ IRow k W a len cap l ∧ ∀ y ∈ l, (Lit.int k y).wf = true := by
  rcases open_ints ht he hc hf with ⟨hcs, _⟩ | ⟨x, len, cap, zs, hcs, _, hl, hm, hz, _, hcell, hwz⟩
  · exact ⟨none, 0, 0, [], hcs, row_nil k W, by simp⟩
  · simp at hz
    refine ⟨some x, len, cap, zs.take len, hcs, ⟨by rw [List.length_take]; omega, hl, hm, (fun h => by cases h), fun h0 => ?_⟩, fun y hy => hwz y (List.mem_of_mem_take hy)⟩
    obtain ⟨b, off, spot⟩ := x
    have hc := hcell 0 (by omega)
    have hspot : spot = none := by simpa [Addr.add] using World.cell?_spot hc
    subst hspot
    have hb := World.block_lt_of_cell? _ _ hc
    refine ⟨b, off, rfl, by simpa [Addr.add] using hb, fun j hj => ?_⟩
    rw [List.length_take] at hj
    have := hcell j (by omega)
    rw [List.getD_eq_getElem?_getD, List.getElem?_take, if_pos (by omega), ← List.getD_eq_getElem?_getD]
    by_cases hj0 : j = 0
    · subst hj0; simpa [Addr.add] using this
    · simpa [Addr.add, hj0] using this
theorem open_irow {P : Program} {t e : TypeId} {k : IntKind} {H : Type} {enc : TypeId × Value → H} {W : World} {base b0 : Nat} {r : Reach} {v : Value} {d : DataW H} {p : List MemPlace}
    (ht : P.underlying t = some (.slice e)) (he : P.underlying e = some (.int k)) (hc : P.cellsOf e = 1)
    (hv : Value.okWide P W r b0 t v) (h : DataW.Trod enc P W base (fun _ => true) true t v d p) : ∃ a len cap l, v = .slice a len cap ∧ IRow k W a len cap l ∧ ∀ y ∈ l, (Lit.int k y).wf = true := by
  obtain ⟨a, len, cap, rfl⟩ := okWide_slice ht hv
  obtain ⟨fuel, hf⟩ := h
  obtain ⟨a', len', cap', l, e, h1, h2⟩ := open_irow_cells ht he hc hf
  simp [Value.cells] at e
  obtain ⟨rfl, rfl, rfl⟩ := e
  exact ⟨a, len, cap, l, rfl, h1, h2⟩

/-! Slices of slices of integers. -/
/-- A slice of slices of integers, in a world. -/
def IRows (k : IntKind) (w : World) (a : Option Addr) (len cap : Nat) (U : List (List Int)) : Prop :=
  len = U.length ∧ len ≤ cap ∧ cap ≤ maxLen ∧ (a = none → cap = 0) ∧ (0 < len → ∃ b off, a = some ⟨b, off, none⟩ ∧ b < w.heap.size ∧ ∀ j, j < len → ∃ ra rl rc, w.cell? ⟨b, off + j, none⟩ = some (.slice ra rl rc) ∧ IRow k w ra rl rc (U.getD j []))
theorem IRows.below {k : IntKind} {w w' : World} {a : Option Addr} {len cap : Nat} {U : List (List Int)} (h : IRows k w a len cap U) (hb : Below w.heap.size w w') : IRows k w' a len cap U := by
  obtain ⟨h1, h2, h3, h5, h6⟩ := h
  refine ⟨h1, h2, h3, h5, fun h0 => ?_⟩
  obtain ⟨b, off, e, hlt, hl⟩ := h6 h0
  refine ⟨b, off, e, Nat.lt_of_lt_of_le hlt hb.size, fun j hj => ?_⟩
  obtain ⟨ra, rl, rc, hc, hr⟩ := hl j hj
  exact ⟨ra, rl, rc, ((bcell hb).1 b _ hlt).trans hc, hr.below hb⟩
theorem rows_nil (k : IntKind) (w : World) : IRows k w none 0 0 [] := ⟨rfl, Nat.le_refl _, by decide, fun _ => rfl, fun h => by cases h⟩
theorem open_irows_cells {P : Program} {t e q : TypeId} {k : IntKind} {H : Type} {enc : TypeId × Value → H} {W : World} {base fuel : Nat} {cs : List Value} {x : DataW H × List MemPlace}
    (ht : P.underlying t = some (.slice e)) (he : P.underlying e = some (.slice q)) (hq : P.underlying q = some (.int k)) (ce : P.cellsOf e = 1) (cq : P.cellsOf q = 1)
    (hf : DataW.trod enc P W base (fun _ => true) true fuel t cs = some x) : ∃ a len cap U, cs = [.slice a len cap] ∧ IRows k W a len cap U ∧ ∀ l ∈ U, ∀ y ∈ l, (Lit.int k y).wf = true := by
  rcases Go.Deep.open_int_rows ht he hq ce cq hf with ⟨hcs, _⟩ | ⟨a, len, cap, A, L, C, Z, hcs, _, hl, hm, _, hr⟩
  · exact ⟨none, 0, 0, [], hcs, rows_nil k W, by simp⟩
  · refine ⟨some a, len, cap, (List.range len).map (fun r => (Z r).take (L r)), hcs, ⟨by simp, hl, hm, (fun h => by cases h), fun h0 => ?_⟩, ?_⟩
    · obtain ⟨b, off, spot⟩ := a
      have hc := (hr 0 (by omega)).1
      have hspot : spot = none := by simpa [Addr.add] using World.cell?_spot hc
      subst hspot
      have hb := World.block_lt_of_cell? _ _ hc
      refine ⟨b, off, rfl, by simpa [Addr.add] using hb, fun j hj => ?_⟩
      obtain ⟨c1, c2, c3, c4, c5, c6, c7⟩ := hr j (by omega)
      refine ⟨A j, L j, C j, ?_, ?_⟩
      · by_cases hj0 : j = 0
        · subst hj0; simpa [Addr.add] using c1
        · simpa [Addr.add, hj0] using c1
      · have eU : ((List.range len).map (fun r => (Z r).take (L r))).getD j [] = (Z j).take (L j) := by
          simp [List.getD_eq_getElem?_getD, List.getElem?_map, List.getElem?_range hj]
        rw [eU]
        refine ⟨by rw [List.length_take]; omega, c2, c3, c6, fun h0 => ?_⟩
        cases hA : A j with
        | none => have := c6 hA; omega
        | some a' =>
          obtain ⟨_, hcell⟩ := c7 a' hA
          obtain ⟨b', off', spot'⟩ := a'
          have hc := hcell 0 (by omega)
          have hspot : spot' = none := by simpa [Addr.add] using World.cell?_spot hc
          subst hspot
          have hb' := World.block_lt_of_cell? _ _ hc
          refine ⟨b', off', rfl, by simpa [Addr.add] using hb', fun i hi => ?_⟩
          rw [List.length_take] at hi
          have := hcell i (by omega)
          rw [List.getD_eq_getElem?_getD, List.getElem?_take, if_pos (by omega), ← List.getD_eq_getElem?_getD]
          by_cases hi0 : i = 0
          · subst hi0; simpa [Addr.add] using this
          · simpa [Addr.add, hi0] using this
    · intro l hl' y hy
      obtain ⟨r, hr', rfl⟩ := List.mem_map.mp hl'
      rw [List.mem_range] at hr'
      exact (hr r (by omega)).2.2.2.2.1 y (List.mem_of_mem_take hy)

end Go.Proofs.Ytjkkajhjcinalaa

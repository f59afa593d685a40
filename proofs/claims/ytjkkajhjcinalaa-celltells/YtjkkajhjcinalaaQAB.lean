/-
  -
  -
  -
  -
  -
  -
  -
  -
  Conditions: as each theorem states them.
-/
import Derived.Deep.RegionHeld
import Derived.OrdersHeld
import Derived.WalkKit
import Derived.WalkSpells
import Derived.Laws.Externs
import Derived.Below
import Derived.OwnWalk
import Derived.ProofKit
import Derived.OpenShut
import Derived.Deep.DeepAppendRoom
import Derived.Deep.AppendLies
import Derived.Laws.AppendOwnNone
import Derived.Deep.RegionHeld3
import Derived.Deep.Matrix
import Derived.Laws.Rows
import Derived.Laws.OwnMore
import Derived.Deep.MidRow
import Derived.Deep.LoopGhost
import Derived.Deep.Slices
import Derived.BigQuiet
import Derived.Deep.Cut
import Derived.Deep.DeepCutAuto
import Derived.Shelf.Spec.BitsCarry
import Derived.Lib.Mul64
import Derived.Laws.Bits64b
import Derived.WalkSmall
import Derived.Deep.QuietTactic
import Derived.Laws.Bits128
import Derived.Test.YtjkkajhjcinalaaRows
namespace Go.Proofs.Ytjkkajhjcinalaa
open Go.ChangeShapes Go.WideShapes Go.ChangeAt Go.RowKit
set_option linter.unusedVariables false
set_option linter.unusedSimpArgs false
set_option maxRecDepth 100000

theorem tk {P : Program} {ops : Array Oper} {Q : Exit → Act → World → Prop} {md : Region.Mode} {S : World → Prop} (i : Nat) {oi : Oper} {v : Value} {fuel : Nat} {listed : Array Bool} {a : Act} {w : World}
    (hv : ∀ w, S w → (execOp a.eval oi).run P w = .ok (.value v) w) (h : wpAnyH P md ops Q S fuel (listed.setIfInBounds i true) (a.put oi.dst v) w)
    (hi : ops[i]? = some oi := by simp only [List.getElem?_toArray, List.getElem?_cons_succ, List.getElem?_cons_zero]; exact rfl) (hs : Region.noSelect ops = true := by kernel_rfl) (hf : Region.free md ops listed i = true := by kernel_rfl) (hr : (Region.ready md ops listed).contains i = true := by kernel_rfl)
    (hQ : ∀ c a w, Q (.panic c) (a.put oi.dst v) w → Q (.panic c) a w := by exact fun _ _ _ h => h) (hy : Region.wanted oi (yielded ops a.tmps) = true := by rfl) (hS : S w := by assumption) : wpAnyH P md ops Q S (fuel + 1) listed a w :=
  wpAnyH_take hi hs hf hr hQ (Or.inl ⟨hy, hv⟩) hS h
theorem tks {P : Program} {ops : Array Oper} {Q : Exit → Act → World → Prop} {md : Region.Mode} {S : World → Prop} (i : Nat) {oi : Oper} {fuel : Nat} {listed : Array Bool} {a : Act} {w : World}
    (h : wpAnyH P md ops Q S fuel (listed.setIfInBounds i true) (a.put oi.dst undef) w)
    (hi : ops[i]? = some oi := by simp only [List.getElem?_toArray, List.getElem?_cons_succ, List.getElem?_cons_zero]; exact rfl) (hs : Region.noSelect ops = true := by kernel_rfl) (hf : Region.free md ops listed i = true := by kernel_rfl) (hr : (Region.ready md ops listed).contains i = true := by kernel_rfl)
    (hQ : ∀ c a w, Q (.panic c) (a.put oi.dst undef) w → Q (.panic c) a w := by exact fun _ _ _ h => h) (hy : Region.wanted oi (yielded ops a.tmps) = false := by rfl) (hS : S w := by assumption) : wpAnyH P md ops Q S (fuel + 1) listed a w :=
  wpAnyH_take hi hs hf hr hQ (Or.inr ⟨hy, rfl⟩) hS h
theorem rdc {P : Program} {ops : Array Oper} {Q : Exit → Act → World → Prop} {md : Region.Mode} {S : World → Prop} {fuel : Nat} {listed : Array Bool} {a : Act} {w : World} {i : Nat} {o : Oper} {rs : List Nat}
    (h : ∀ K' : Act → World → Prop, Shut (∀ a w, S w → (S w → wpAnyH P md ops Q S fuel (listed.setIfInBounds i true) a w) → K' a w) → if Region.wanted o (yielded ops a.tmps) = true then Oper.wp P o a w K' Q else K' (a.put o.dst undef) w)
    (hs : AllReadyH P md ops Q S fuel listed a w rs) (ho : ops[i]? = some o := by simp only [List.getElem?_toArray, List.getElem?_cons_succ, List.getElem?_cons_zero]; exact rfl) : AllReadyH P md ops Q S fuel listed a w (i :: rs) := AllReadyH.cons ho h hs
theorem rd1 {P : Program} {ops : Array Oper} {Q : Exit → Act → World → Prop} {md : Region.Mode} {S : World → Prop} {fuel : Nat} {listed : Array Bool} {a : Act} {w : World} (i : Nat) {o : Oper}
    (h : ∀ K' : Act → World → Prop, Shut (∀ a w, S w → (S w → wpAnyH P md ops Q S fuel (listed.setIfInBounds i true) a w) → K' a w) → if Region.wanted o (yielded ops a.tmps) = true then Oper.wp P o a w K' Q else K' (a.put o.dst undef) w)
    (ho : ops[i]? = some o := by simp only [List.getElem?_toArray, List.getElem?_cons_succ, List.getElem?_cons_zero]; exact rfl) (hr : Region.ready md ops listed = [i] := by kernel_rfl) : wpAnyH P md ops Q S (fuel + 1) listed a w := wpAnyH_ready hr (by simp) (AllReadyH.cons ho h AllReadyH.nil)


/-! Numbers. -/
def I64 (x : Int) : Prop := -9223372036854775808 ≤ x ∧ x ≤ 9223372036854775807
def U8 (x : Int) : Prop := 0 ≤ x ∧ x ≤ 255
theorem bounds_i64 {n : Int} (h : (Lit.int .i64 n).wf = true) : I64 n := by
  unfold I64; simp [Lit.wf, IntKind.min, IntKind.max, IntKind.signed, IntKind.bits] at h; omega
theorem bounds_u8 {n : Int} (h : (Lit.int .u8 n).wf = true) : U8 n := by
  unfold U8; simp [Lit.wf, IntKind.min, IntKind.max, IntKind.signed, IntKind.bits] at h; omega
theorem ret_int {k : IntKind} {a b : Int} (h : a = b) : Ending.returned (.int k a) = .returned (.int k b) := by rw [h]
theorem ret_bool {a b : Bool} (h : a = b) : Ending.returned (.bool a) = .returned (.bool b) := by rw [h]

/-! Worlds that grow. -/
theorem bt {a b c : World} (h : Below a.heap.size a b) (k : Below b.heap.size b c) : Below a.heap.size a c := h.trans (k.mono h.size)
theorem bcell {W w1 : World} (hb : Below W.heap.size W w1) : (∀ b o, b < W.heap.size → w1.cell? ⟨b, o, none⟩ = W.cell? ⟨b, o, none⟩) ∧ (∀ b o, b < W.heap.size → w1.frozen? ⟨b, o, none⟩ = W.frozen? ⟨b, o, none⟩) :=
  ⟨fun b o h => hb.cell (p := ⟨b, o, none⟩) h, fun b o h => hb.frozen (p := ⟨b, o, none⟩) h⟩
theorem undrew {B : Nat} {a w : World} (h : Below B a.drew w) : Below B a w := ⟨h.os, h.tape, h.output, h.size, h.block⟩
theorem grown_cell {w w' : World} {row : Option Nat} (h : w.grownBy w' row) {b o : Nat} (hb : b < w.heap.size) (hr : row ≠ some b) : w'.cell? ⟨b, o, none⟩ = w.cell? ⟨b, o, none⟩ :=
  World.cell?_of_block (w := w) (a := ⟨b, o, none⟩) (h.block b hb (fun e => hr e.symm))

/-! Integers in a row. -/
def vals (k : IntKind) (l : List Int) : List Value := l.map (Value.int k)
theorem vals_one (k : IntKind) (l : List Int) : ∀ u ∈ vals k l, u.oneCell' = true := by
  intro u hu
  obtain ⟨x, _, rfl⟩ := List.mem_map.mp hu
  rfl
theorem vals_len (k : IntKind) (l : List Int) : (vals k l).length = l.length * 1 := by simp [vals]
theorem vals_app (k : IntKind) (xs ys : List Int) : vals k xs ++ vals k ys = vals k (xs ++ ys) := by simp [vals]
theorem vals_get (k : IntKind) (l : List Int) (j : Nat) (u : Value) (h : (vals k l)[j]? = some u) : j < l.length ∧ u = .int k (l.getD j 0) := by
  unfold vals at h
  rw [List.getElem?_map] at h
  cases e : l[j]? with
  | none => rw [e] at h; simp at h
  | some x =>
    rw [e] at h
    simp at h
    have : j < l.length := by
      by_cases g : j < l.length
      · exact g
      · rw [List.getElem?_eq_none (by omega)] at e; cases e
    refine ⟨this, ?_⟩
    rw [← h, List.getD_eq_getElem?_getD, e]; rfl
/-- Cells of a block, from a place on, that hold integers. -/
def Lies (k : IntKind) (w : World) (b off : Nat) (l : List Int) : Prop := ∀ j, j < l.length → w.cell? ⟨b, off + j, none⟩ = some (.int k (l.getD j 0))
theorem lies_cells {k : IntKind} {w : World} {b off : Nat} {l : List Int} (h : Lies k w b off l) : ∀ j u, (vals k l)[j]? = some u → w.cell? ((⟨b, off, none⟩ : Addr).add j) = some u := by
  intro j u hu
  obtain ⟨h1, rfl⟩ := vals_get k l j u hu
  have := h j h1
  by_cases h0 : j = 0
  · subst h0; simpa [Addr.add] using this
  · simpa [Addr.add, h0] using this
theorem lies_to {k : IntKind} {w w' : World} {g off : Nat} {l : List Int} (hb : Below w.heap.size w w') (hg : g < w.heap.size) (hl : Lies k w g off l) : g < w'.heap.size ∧ Lies k w' g off l :=
  ⟨Nat.lt_of_lt_of_le hg hb.size, fun j hj => ((bcell hb).1 g _ hg).trans (hl j hj)⟩

/-- A slice of integers, in a world. -/
def IRow (k : IntKind) (w : World) (a : Option Addr) (len cap : Nat) (l : List Int) : Prop :=
  len = l.length ∧ len ≤ cap ∧ cap ≤ maxLen ∧ (a = none → cap = 0) ∧ (0 < len → ∃ b off, a = some ⟨b, off, none⟩ ∧ b < w.heap.size ∧ Lies k w b off l)
theorem IRow.below {k : IntKind} {w w' : World} {a : Option Addr} {len cap : Nat} {l : List Int} (h : IRow k w a len cap l) (hb : Below w.heap.size w w') : IRow k w' a len cap l := by
  obtain ⟨h1, h2, h3, h5, h6⟩ := h
  refine ⟨h1, h2, h3, h5, fun h0 => ?_⟩
  obtain ⟨b, off, e, hlt, hl⟩ := h6 h0
  exact ⟨b, off, e, (lies_to hb hlt hl).1, (lies_to hb hlt hl).2⟩
theorem row_src {k : IntKind} {w : World} {ad : Addr} {m c : Nat} {ys : List Int} (h : IRow k w (some ad) m c ys) : ∀ j u, (vals k ys)[j]? = some u → w.cell? (ad.add j) = some u := by
  intro j u hu
  obtain ⟨h1, h2⟩ := vals_get k ys j u hu
  obtain ⟨r1, r2, r3, r5, r6⟩ := h
  obtain ⟨b, off, e, hlt, hl⟩ := r6 (by omega)
  cases e
  exact lies_cells hl j u hu

/-! Rows of one's own. -/
theorem owns_lies {k : IntKind} {e : TypeId} {w : World} {base g n cap : Nat} {l : List Int} (h : w.ownsRow base e 1 (.slice (some ⟨g, 0, none⟩) n cap) n (vals k l)) : n = l.length ∧ g < w.heap.size ∧ Lies k w g 0 l := by
  have e : n = l.length := by have := h.1; rw [vals_len] at this; omega
  refine ⟨e, (h.lt g rfl).2, fun j hj => ?_⟩
  rw [Nat.zero_add, h.cellAt j (by omega)]
  unfold vals
  rw [List.getElem?_map, List.getElem?_eq_getElem hj]
  simp [List.getD_eq_getElem?_getD, List.getElem?_eq_getElem hj]
theorem own_row {k : IntKind} {e : TypeId} {w : World} {base g n cap : Nat} {l : List Int} (h : w.ownsRow base e 1 (.slice (some ⟨g, 0, none⟩) n cap) n (vals k l)) : IRow k w (some ⟨g, 0, none⟩) n cap l := by
  obtain ⟨e1, h1, h2⟩ := owns_lies h
  rcases h.2 with ⟨h', _⟩ | ⟨g', cap', cur, h', _, _, hn, hm, _, _⟩
  · simp at h'
  · simp only [Value.slice.injEq, Option.some.injEq, Addr.mk.injEq, and_true, true_and] at h'
    obtain ⟨rfl, rfl⟩ := h'
    exact ⟨e1, hn, hm, (fun h => by cases h), fun _ => ⟨g, 0, rfl, h1, h2⟩⟩
theorem own_form {e : TypeId} {w : World} {base n : Nat} {v : Value} {xs : List Value} (h : w.ownsRow base e 1 v n xs) (hne : ¬ v = .slice none 0 0) : ∃ g cap, v = .slice (some ⟨g, 0, none⟩) n cap := by
  rcases h.2 with ⟨h', _⟩ | ⟨g, cap, cur, h', _⟩
  · exact absurd h' hne
  · exact ⟨g, cap, h'⟩
theorem own_some {e : TypeId} {w : World} {base n : Nat} {v : Value} {xs : List Value} (h : w.ownsRow base e 1 v n xs) (hn : 0 < n) : ∃ g cap, v = .slice (some ⟨g, 0, none⟩) n cap := by
  rcases h.2 with ⟨_, h'⟩ | ⟨g, cap, cur, h', _⟩
  · omega
  · exact ⟨g, cap, h'⟩
theorem own_ge {e : TypeId} {w : World} {base n k : Nat} {v : Value} {xs : List Value} (h : w.ownsRow base e 1 v n xs) (hk : v.ownBlock = some k) : base ≤ k := (h.lt k hk).1
theorem own_made (e : TypeId) (w : World) (base : Nat) (hb : base ≤ w.heap.size) : (w.alloc (.cells #[] e)).ownsRow base e 1 (.slice (some ⟨w.heap.size, 0, none⟩) 0 0) 0 [] :=
  World.ownsRow_made w #[] 0 hb (by decide) rfl
/-- An append of any slice of integers to a row of one's own that is not nil. -/
theorem append_row {P : Program} {t e : TypeId} {k : IntKind} {by1 : Nat} (ht : P.underlying t = some (.slice e)) (hinfo : (P.info? e).map (fun i => (i.zero, i.size, i.bytes)) = some (some (.int k 0), 1, by1)) (hby1 : by1 ≤ 8)
    {w : World} {ops : Array Oper} {rest : List Oper} {o : Oper} {a : Act} {Q : Exit → Act → World → Prop} (hgd : o.guard = none) (s x : Operand)
    (ho : o.op = .call { callee := .builtin .append, args := #[s, x], argTypes := #[t, t] }) (base g n cap : Nat) (xs : List Int)
    (hs : a.eval s = .slice (some ⟨g, 0, none⟩) n cap) (hown : w.ownsRow base e 1 (.slice (some ⟨g, 0, none⟩) n cap) n (vals k xs))
    (sa : Option Addr) (m c : Nat) (ys : List Int) (hx : a.eval x = .slice sa m c) (hr : IRow k w sa m c ys) (hn : n + m ≤ 10000000000) (hbase : base ≤ w.heap.size)
    (h : ∀ g' cap' w', w'.ownsRow base e 1 (.slice (some ⟨g', 0, none⟩) (n + m) cap') (n + m) (vals k (xs ++ ys)) → w.grownBy w' (some g) → wpList P ops Q rest (a.put o.dst (.slice (some ⟨g', 0, none⟩) (n + m) cap')) w') : wpList P ops Q (o :: rest) a w := by
  obtain ⟨i0, hi, hz0, hz1, hz2⟩ := info_parts hinfo
  cases sa with
  | none =>
    obtain ⟨r1, r2, r3, r5, r6⟩ := hr
    obtain rfl : c = 0 := r5 rfl
    obtain rfl : m = 0 := by omega
    have hy : ys = [] := List.length_eq_zero_iff.mp r1.symm
    subst hy
    refine wpList_append_own_none hgd s x t ho base e i0 1 ht hi _ n (vals k xs) hs hown hx ?_
    have := h g cap w (by simpa using hown) ⟨rfl, rfl, rfl, Nat.le_refl _, fun _ _ _ => rfl⟩
    simpa using this
  | some ad =>
    have hb : (n + m) * by1 ≤ 140737488355328 := Nat.le_trans (Nat.mul_le_mul hn hby1) (by decide)
    refine wpList_append_own w hgd s x t ho base e i0 (.int k 0) 1 by1 ht hi hz0 hz1 hz2 rfl (by decide) _ n (vals k xs) hs hown ad m c (vals k ys) hx (by rw [vals_len, hr.1]) (row_src hr) (vals_one _ _) (by unfold maxLen; omega) hb hbase ?_
    intro v' w' hown' hgrow' hiff
    obtain ⟨g', cap', rfl⟩ := own_form hown' (fun e => by have := (hiff.mp e).1; cases this)
    rw [vals_app] at hown'
    exact h g' cap' w' hown' hgrow'

/-- One integer more behind a row of one's own (nil or not): the value that is added lies in a new block. -/
theorem append_one {P : Program} {t e : TypeId} {k : IntKind} {by1 : Nat} (ht : P.underlying t = some (.slice e)) (hinfo : (P.info? e).map (fun i => (i.zero, i.size, i.bytes)) = some (some (.int k 0), 1, by1)) (hby1 : by1 ≤ 8)
    {w : World} {ops : Array Oper} {rest : List Oper} {o : Oper} {a : Act} {Q : Exit → Act → World → Prop} (hgd : o.guard = none) (s x : Operand)
    (ho : o.op = .call { callee := .builtin .append, args := #[s, x], argTypes := #[t, t] }) (base n : Nat) (v : Value) (y : Int) (xs : List Int) (N : Nat) (hN : N = w.heap.size)
    (hs : a.eval s = v) (hown : w.ownsRow base e 1 v n (vals k xs)) (hx : a.eval x = .slice (some ⟨N, 0, none⟩) 1 1) (hn : n + 1 ≤ 10000000000) (hbase : base ≤ w.heap.size)
    (h : ∀ v' w', w'.ownsRow base e 1 v' (n + 1) (vals k (xs ++ [y])) → (∃ g cap, v' = .slice (some ⟨g, 0, none⟩) (n + 1) cap) → Below base w w' → wpList P ops Q rest (a.put o.dst v') w') : wpList P ops Q (o :: rest) a (w.alloc (.cells #[.int k y] e)) := by
  obtain ⟨i0, hi, hz0, hz1, hz2⟩ := info_parts hinfo
  have hb : (n + 1) * by1 ≤ 140737488355328 := Nat.le_trans (Nat.mul_le_mul hn hby1) (by decide)
  subst hN
  refine wpList_append_own _ hgd s x t ho base e i0 (.int k 0) 1 by1 ht hi hz0 hz1 hz2 rfl (by decide) v n (vals k xs) hs (hown.alloc _) ⟨w.heap.size, 0, none⟩ 1 1 [.int k y] hx rfl (cell_one_new _ _ _) (by intro u hu; simp at hu; subst hu; rfl) (by unfold maxLen; omega) hb (by simp; omega) ?_
  intro v' w' hown' hgrow' hiff
  have e1 : vals k xs ++ [.int k y] = vals k (xs ++ [y]) := by simp [vals]
  rw [e1] at hown'
  exact h v' w' hown' (own_some hown' (by omega)) (((Below.refl _ _).alloc hbase _).grown hgrow' (by simp; omega) (fun j hj => own_ge hown hj))

/-! Parameters, opened. -/
/-! Slices of slices of integers. -/
/-- A slice of slices of integers, in a world. -/
def IRows (k : IntKind) (w : World) (a : Option Addr) (len cap : Nat) (U : List (List Int)) : Prop :=
  len = U.length ∧ len ≤ cap ∧ cap ≤ maxLen ∧ (a = none → cap = 0) ∧ (0 < len → ∃ b off, a = some ⟨b, off, none⟩ ∧ b < w.heap.size ∧ ∀ j, j < len → ∃ ra rl rc, w.cell? ⟨b, off + j, none⟩ = some (.slice ra rl rc) ∧ IRow k w ra rl rc (U.getD j []))
theorem IRows.below {k : IntKind} {w w' : World} {a : Option Addr} {len cap : Nat} {U : List (List Int)} (h : IRows k w a len cap U) (hb : Below w.heap.size w w') : IRows k w' a len cap U := by
  obtain ⟨h1, h2, h3, h5, h6⟩ := h
  refine ⟨h1, h2, h3, h5, fun h0 => ?_⟩
  obtain ⟨b, off, e, hlt, hl⟩ := h6 h0
  refine ⟨b, off, e, Nat.lt_of_lt_of_le hlt hb.size, fun j hj => ?_⟩
  obtain ⟨ra, rl, rc, hc, hr⟩ := hl j hj
  exact ⟨ra, rl, rc, ((bcell hb).1 b _ hlt).trans hc, hr.below hb⟩
end Go.Proofs.Ytjkkajhjcinalaa

namespace Go.Proofs.Ytjkkajhjcinalaa
open Go.ChangeShapes Go.WideShapes Go.ChangeAt Go.RowKit
set_option linter.unusedVariables false
set_option linter.unusedSimpArgs false
set_option maxRecDepth 100000

theorem hid {p : Prop} (h : p) : Hid p := h
theorem add_at (b off j : Nat) : (⟨b, off, none⟩ : Addr).add j = ⟨b, off + j, none⟩ := by
  by_cases h0 : j = 0
  · subst h0; simp [Addr.add]
  · simp [Addr.add, h0]
theorem keep_step {wr w' w'' : World} {Q : World → Prop} {R : Prop} (hb : Below w'.heap.size w' w'') (h : Below wr.heap.size wr w' ∧ R) (K : Hid (∀ x, Below wr.heap.size wr x → Q x)) : Q w'' := K.out _ (bt h.1 hb)
theorem keep_drew {wr : World} {Q : World → Prop} (K : Hid (∀ x, Below wr.heap.size wr x → Q x)) : Q wr.drew := K.out _ (Below.refl _ _).drew
theorem grow_below {w w' : World} {row : Option Nat} {base : Nat} (h : w.grownBy w' row) (hb : base ≤ w.heap.size) (hr : ∀ j, row = some j → base ≤ j) : Below base w w' :=
  ⟨h.os, h.tape, h.output, h.size, fun k hk => h.block k (Nat.lt_of_lt_of_le hk hb) (fun e => by have := hr k e.symm; omega)⟩
theorem box_two {w : World} {D : Nat} {t : TypeId} {s u : Value} (hD : w.heap[D]? = some (.cells #[s, u] t)) : w.cell? ⟨D, 0, none⟩ = some s ∧ w.cell? ⟨D, 1, none⟩ = some u := by
  constructor <;> simp [World.cell?, hD]
theorem set_grown (w : World) (b i : Nat) (v : Value) : w.grownBy (w.setCell ⟨b, i, none⟩ v) (some b) :=
  ⟨rfl, rfl, rfl, by simp, fun k _ hk => Below.heap_setCell _ _ _ _ (fun e => hk (by simp [e]))⟩
theorem heap_lt {w : World} {b : Nat} {o : Obj} (h : w.heap[b]? = some o) : b < w.heap.size := by
  by_cases hh : b < w.heap.size
  · exact hh
  · rw [Array.getElem?_eq_none (by omega)] at h; cases h
theorem keep_blk {w w' : World} {D : Nat} {o : Obj} (h : w.heap[D]? = some o) (hb : Below w.heap.size w w') : w'.heap[D]? = some o := (hb.block D (heap_lt h)).trans h
theorem bdrew {B : Nat} {a w : World} (h : Below B a w) : Below B a w.drew := ⟨h.os, h.tape, h.output, h.size, h.block⟩
theorem bdrewN {B : Nat} {a w : World} {n : Nat} (h : Below B a w) : Below B a (w.drewN n) := ⟨h.os, h.tape, h.output, h.size, h.block⟩
theorem b1alloc (w : World) (o : Obj) : Below w.heap.size w (w.alloc o) := (Below.refl _ _).alloc (Nat.le_refl _) _
theorem hnew {w : World} {o : Obj} {N : Nat} (h : w.heap.size = N) : (w.alloc o).heap[N]? = some o := by subst h; exact heap_alloc_new w o
/-- Integers: a slice that came in, read. -/
theorem IRow.pick {k : IntKind} {w w' : World} {a : Option Addr} {n c : Nat} {l : List Int} (h : IRow k w a n c l) (hb : Below w.heap.size w w') {i : Nat} (hi : i < n) :
    ∃ b off x, a = some ⟨b, off, none⟩ ∧ b < w.heap.size ∧ l[i]? = some x ∧ w'.cell? ⟨b, off + i, none⟩ = some (.int k x) := by
  obtain ⟨h1, h2, h3, h4, h5⟩ := h
  obtain ⟨b, off, e, hlt, hl⟩ := h5 (by omega)
  have hil : i < l.length := by omega
  refine ⟨b, off, l[i], e, hlt, List.getElem?_eq_getElem hil, ?_⟩
  rw [(bcell hb).1 b _ hlt, hl i hil]
  simp [List.getD_eq_getElem?_getD, List.getElem?_eq_getElem hil]
theorem IRow.len {k : IntKind} {w : World} {a : Option Addr} {n c : Nat} {l : List Int} (h : IRow k w a n c l) : n = l.length ∧ n ≤ 9223372036854775807 := by
  obtain ⟨h1, h2, h3, _⟩ := h
  unfold maxLen at h3
  exact ⟨h1, by omega⟩

end Go.Proofs.Ytjkkajhjcinalaa

namespace Go.Proofs.Ytjkkajhjcinalaa
open Go.RowKit
set_option linter.unusedVariables false
set_option linter.unusedSimpArgs false
set_option maxRecDepth 100000

/-- A run: a value, how often. -/
abbrev Rn := Int × Int
def tot : List Rn → Int | [] => 0 | r :: l => r.2 + tot l
def ltR (a b : Rn) : Prop := a.1 < b.1
def Srt (l : List Rn) : Prop := l.Pairwise ltR
def Pos (l : List Rn) : Prop := ∀ r ∈ l, 1 ≤ r.2
/-- May it be a bag? -/
def Bag (l : List Rn) : Prop := Srt l ∧ Pos l ∧ tot l ≤ 1099511627776
/-- .. as a truth. -/
def gd (l : List Rn) : Bool := decide (l.Pairwise (fun a b => a.1 < b.1) ∧ (∀ r ∈ l, 1 ≤ r.2) ∧ tot l ≤ 1099511627776)
theorem gd_yes {l : List Rn} (h : Bag l) : gd l = true := by unfold gd; rw [decide_eq_true_iff]; exact h
theorem gd_no {l : List Rn} (h : ¬ Bag l) : gd l = false := by unfold gd; rw [decide_eq_false_iff_not]; exact h
theorem gd_iff {l : List Rn} : gd l = true ↔ Bag l := ⟨fun h => by unfold gd at h; rw [decide_eq_true_iff] at h; exact h, gd_yes⟩
theorem tot_app (l m : List Rn) : tot (l ++ m) = tot l + tot m := by
  induction l with
  | nil => simp [tot]
  | cons r l ih => simp only [List.cons_append, tot, ih]; omega
theorem tot_nn {l : List Rn} (h : Pos l) : 0 ≤ tot l := by
  induction l with
  | nil => exact Int.le_refl _
  | cons r l ih =>
    have := h r (by simp)
    have := ih (fun q hq => h q (by simp [hq]))
    simp only [tot]; omega
theorem tot_take {l : List Rn} (h : Pos l) (k : Nat) : tot (l.take k) ≤ tot l := by
  have := tot_app (l.take k) (l.drop k); rw [List.take_append_drop] at this
  have := tot_nn (l := l.drop k) (fun q hq => h q (List.mem_of_mem_drop hq)); omega
theorem take_one {α : Type} {l : List α} {k : Nat} {r : α} (h : l[k]? = some r) : l.take (k + 1) = l.take k ++ [r] := by
  rw [List.take_add_one, h]; rfl
theorem tot_step {l : List Rn} {k : Nat} {r : Rn} (h : l[k]? = some r) : tot (l.take (k + 1)) = tot (l.take k) + r.2 := by
  rw [take_one h, tot_app]; simp [tot]
theorem bag_nil : Bag [] := ⟨List.Pairwise.nil, fun r hr => by simp at hr, by decide⟩
theorem bag_take {l : List Rn} (h : Bag l) (k : Nat) : Bag (l.take k) :=
  ⟨List.Pairwise.sublist (List.take_sublist k l) h.1, fun r hr => h.2.1 r (List.mem_of_mem_take hr), Int.le_trans (tot_take h.2.1 k) h.2.2⟩
theorem srt_get {l : List Rn} (h : Srt l) {i j : Nat} {a b : Rn} (hi : l[i]? = some a) (hj : l[j]? = some b) (hij : i < j) : a.1 < b.1 := by
  obtain ⟨h1, rfl⟩ := List.getElem?_eq_some_iff.1 hi
  obtain ⟨h2, rfl⟩ := List.getElem?_eq_some_iff.1 hj
  exact List.pairwise_iff_getElem.mp h i j h1 h2 hij
theorem srt_snoc {l : List Rn} {r : Rn} (h : Srt l) (hr : ∀ x ∈ l, x.1 < r.1) : Srt (l ++ [r]) := by
  refine List.pairwise_append.2 ⟨h, List.pairwise_singleton _ _, fun x hx y hy => ?_⟩
  simp at hy; subst hy
  exact hr x hx
/-- One run more. -/
theorem bag_step {l : List Rn} {k : Nat} {r : Rn} (h : Bag (l.take k)) (hr : l[k]? = some r) (h1 : ∀ q, l[k - 1]? = some q → 0 < k → q.1 < r.1) (h2 : 1 ≤ r.2) (h3 : r.2 ≤ 1099511627776 - tot (l.take k)) : Bag (l.take (k + 1)) := by
  refine ⟨?_, ?_, ?_⟩
  · rw [take_one hr]
    refine srt_snoc h.1 (fun x hx => ?_)
    obtain ⟨i, hi⟩ := List.mem_iff_getElem?.1 hx
    rw [List.getElem?_take] at hi
    by_cases hik : i < k
    · rw [if_pos hik] at hi
      have hlt : k - 1 < l.length := by have := (List.getElem?_eq_some_iff.1 hr).1; omega
      have hq := List.getElem?_eq_getElem hlt
      have hqr := h1 _ hq (by omega)
      by_cases he : i = k - 1
      · subst he; rw [hi] at hq; cases hq; exact hqr
      · have : x.1 < (l[k - 1]).1 := srt_get h.1 (i := i) (j := k - 1) (by rw [List.getElem?_take, if_pos hik]; exact hi) (by rw [List.getElem?_take, if_pos (by omega)]; exact hq) (by omega)
        exact Int.lt_trans this hqr
    · rw [if_neg hik] at hi; cases hi
  · rw [take_one hr]
    intro x hx
    rcases List.mem_append.1 hx with hx | hx
    · exact h.2.1 x hx
    · simp at hx; subst hx; exact h2
  · rw [tot_step hr]; omega
/-- What a bag asks of each run. -/
theorem bag_at {l : List Rn} {k : Nat} {r : Rn} (h : Bag l) (hr : l[k]? = some r) : (∀ q, l[k - 1]? = some q → 0 < k → q.1 < r.1) ∧ 1 ≤ r.2 ∧ r.2 ≤ 1099511627776 - tot (l.take k) ∧ 0 ≤ tot (l.take k) ∧ tot (l.take k) ≤ 1099511627776 := by
  have hb := bag_take h (k + 1)
  have h0 := bag_take h k
  refine ⟨fun q hq hk => srt_get h.1 hq hr (by omega), h.2.1 r (List.mem_of_getElem? hr), ?_, tot_nn h0.2.1, h0.2.2⟩
  have := hb.2.2
  rw [tot_step hr] at this; omega

/-- How often. -/
def cn (v : Int) : List Rn → Int | [] => 0 | r :: l => (if r.1 = v then r.2 else 0) + cn v l
theorem cn_none {v : Int} {l : List Rn} (h : ∀ r ∈ l, ¬ r.1 = v) : cn v l = 0 := by
  induction l with
  | nil => rfl
  | cons r l ih =>
    simp only [cn, if_neg (h r (by simp)), ih (fun q hq => h q (by simp [hq]))]; omega
theorem cn_le {v : Int} {l : List Rn} (h : Pos l) : cn v l ≤ tot l := by
  induction l with
  | nil => exact Int.le_refl _
  | cons r l ih =>
    have := h r (by simp)
    have := ih (fun q hq => h q (by simp [hq]))
    simp only [cn, tot]; split <;> omega
theorem cn_at {l : List Rn} (h : Srt l) {k : Nat} {r : Rn} (hr : l[k]? = some r) : cn r.1 l = r.2 := by
  induction l generalizing k with
  | nil => simp at hr
  | cons q l ih =>
    rw [Srt, List.pairwise_cons] at h
    cases k with
    | zero =>
      simp at hr; subst hr
      simp only [cn, if_pos]
      rw [cn_none (fun x hx e => by have := h.1 x hx; unfold ltR at this; omega)]; omega
    | succ k =>
      simp at hr
      have := h.1 r (List.mem_of_getElem? hr)
      unfold ltR at this
      simp only [cn]
      rw [if_neg (by omega), ih h.2 hr]; omega
theorem cn_gt {l : List Rn} {v : Int} (h : ∀ r ∈ l, v < r.1) : cn v l = 0 := cn_none (fun r hr e => by have := h r hr; omega)
/-- Two rising lists of runs, none of none, are alike if each value is there as often. -/
def Nz (l : List Rn) : Prop := ∀ r ∈ l, ¬ r.2 = 0
theorem pos_nz {l : List Rn} (h : Pos l) : Nz l := fun r hr e => by have := h r hr; omega
theorem runs_ext {l m : List Rn} (hl : Srt l) (zl : Nz l) (hm : Srt m) (zm : Nz m) (h : ∀ v, cn v l = cn v m) : l = m := by
  induction l generalizing m with
  | nil =>
    cases m with
    | nil => rfl
    | cons y m =>
      exfalso
      have := cn_at hm (k := 0) (r := y) rfl
      rw [← h] at this
      exact zm y (by simp) this.symm
  | cons x l ih =>
    cases m with
    | nil =>
      exfalso
      have := cn_at hl (k := 0) (r := x) rfl
      rw [h] at this
      exact zl x (by simp) this.symm
    | cons y m =>
      have hl' := hl
      have hm' := hm
      rw [Srt, List.pairwise_cons] at hl' hm'
      have ex := cn_at hl (k := 0) (r := x) rfl
      have ey := cn_at hm (k := 0) (r := y) rfl
      have nx := zl x (by simp)
      have ny := zm y (by simp)
      have e1 : x.1 = y.1 := by
        by_cases h1 : x.1 < y.1
        · exfalso
          have h2 := h x.1
          have h3 : cn x.1 (y :: m) = 0 := cn_gt (fun r hr => by
            rcases List.mem_cons.1 hr with rfl | hr
            · exact h1
            · have := hm'.1 r hr; unfold ltR at this; omega)
          rw [ex, h3] at h2
          exact nx h2
        · by_cases h2 : y.1 < x.1
          · exfalso
            have h4 := h y.1
            have h3 : cn y.1 (x :: l) = 0 := cn_gt (fun r hr => by
              rcases List.mem_cons.1 hr with rfl | hr
              · exact h2
              · have := hl'.1 r hr; unfold ltR at this; omega)
            rw [ey, h3] at h4
            exact ny h4.symm
          · omega
      have e2 : x.2 = y.2 := by
        have := h x.1
        rw [ex, e1, ey] at this
        exact this
      have exy : x = y := Prod.ext e1 e2
      subst exy
      congr 1
      refine ih hl'.2 (fun r hr => zl r (by simp [hr])) hm'.2 (fun r hr => zm r (by simp [hr])) (fun v => ?_)
      have := h v
      simp only [cn] at this
      omega

/-- A value, so often more (or less), in its order. -/
def lay (v n : Int) : List Rn → List Rn
  | [] => [(v, n)]
  | x :: l => if x.1 < v then x :: lay v n l else if v < x.1 then (v, n) :: x :: l else if x.2 + n = 0 then l else (x.1, x.2 + n) :: l
theorem lay_cn (v n : Int) (l : List Rn) (u : Int) : cn u (lay v n l) = cn u l + (if u = v then n else 0) := by
  induction l with
  | nil => simp only [lay, cn]; split <;> split <;> omega
  | cons x l ih =>
    simp only [lay]
    split
    · simp only [cn, ih]; omega
    · split
      · simp only [cn]; split <;> split <;> split <;> omega
      · split
        · simp only [cn]; split <;> split <;> omega
        · simp only [cn]; split <;> split <;> omega
theorem lay_mem {v n : Int} {l : List Rn} {r : Rn} (h : r ∈ lay v n l) : r.1 = v ∨ r ∈ l := by
  induction l with
  | nil => simp [lay] at h; left; rw [h]
  | cons x l ih =>
    simp only [lay] at h
    split at h
    · rcases List.mem_cons.1 h with rfl | h
      · right; simp
      · rcases ih h with h | h
        · left; exact h
        · right; simp [h]
    · split at h
      · rcases List.mem_cons.1 h with rfl | h
        · left; rfl
        · right; exact h
      · split at h
        · right; simp [h]
        · rcases List.mem_cons.1 h with rfl | h
          · left; show x.1 = v; omega
          · right; simp [h]
theorem lay_srt {v n : Int} {l : List Rn} (h : Srt l) : Srt (lay v n l) := by
  induction l with
  | nil => exact List.pairwise_singleton _ _
  | cons x l ih =>
    have h' := h
    rw [Srt, List.pairwise_cons] at h'
    simp only [lay]
    split
    · rename_i hx
      rw [Srt, List.pairwise_cons]
      refine ⟨fun r hr => ?_, ih h'.2⟩
      rcases lay_mem hr with e | hr
      · unfold ltR; omega
      · exact h'.1 r hr
    · split
      · rename_i hx
        rw [Srt, List.pairwise_cons]
        refine ⟨fun r hr => ?_, h⟩
        rcases List.mem_cons.1 hr with rfl | hr
        · exact hx
        · have := h'.1 r hr; unfold ltR at *; exact Int.lt_trans hx this
      · split
        · exact h'.2
        · rw [Srt, List.pairwise_cons]
          exact ⟨fun r hr => h'.1 r hr, h'.2⟩
/-- .. and as the document's loop goes on. -/
theorem lay_low {v n : Int} {l : List Rn} (h : ∀ r ∈ l, r.1 < v) : lay v n l = l ++ [(v, n)] := by
  induction l with
  | nil => rfl
  | cons x l ih =>
    simp only [lay, if_pos (h x (by simp)), ih (fun r hr => h r (by simp [hr])), List.cons_append]
theorem lay_snoc {v n : Int} {l : List Rn} {x : Rn} (h : ∃ r ∈ l, v ≤ r.1) : lay v n (l ++ [x]) = lay v n l ++ [x] := by
  induction l with
  | nil => obtain ⟨r, hr, _⟩ := h; cases hr
  | cons y l ih =>
    simp only [List.cons_append, lay]
    split
    · rename_i hy
      rw [ih (by
        obtain ⟨r, hr, hv⟩ := h
        rcases List.mem_cons.1 hr with rfl | hr
        · omega
        · exact ⟨r, hr, hv⟩)]
      rfl
    · split
      · rfl
      · split <;> rfl
theorem lay_above {v n : Int} {l : List Rn} {x : Rn} (h : ∀ r ∈ l, r.1 < v) (hx : v < x.1) : lay v n (l ++ [x]) = l ++ [(v, n)] ++ [x] := by
  induction l with
  | nil => simp only [List.nil_append, lay]; rw [if_neg (by omega), if_pos hx]; rfl
  | cons y l ih =>
    simp only [List.cons_append, lay, if_pos (h y (by simp)), ih (fun r hr => h r (by simp [hr]))]
theorem lay_here {v n : Int} {l : List Rn} {x : Rn} (h : ∀ r ∈ l, r.1 < v) (hx : x.1 = v) : lay v n (l ++ [x]) = if x.2 + n = 0 then l else l ++ [(x.1, x.2 + n)] := by
  induction l with
  | nil => simp only [List.nil_append, lay]; rw [if_neg (by omega), if_neg (by omega)]
  | cons y l ih =>
    simp only [List.cons_append, lay, if_pos (h y (by simp)), ih (fun r hr => h r (by simp [hr]))]
    split <;> rfl
theorem lay_len {v n : Int} {l : List Rn} : (lay v n l).length ≤ l.length + 1 := by
  induction l with
  | nil => exact Nat.le_refl _
  | cons x l ih =>
    simp only [lay]
    split
    · simp; omega
    · split
      · simp
      · split
        · simp; omega
        · simp

/-- What all come to. -/
def wsum : List Rn → Int | [] => 0 | r :: l => r.1 * r.2 + wsum l
theorem wsum_app (l m : List Rn) : wsum (l ++ m) = wsum l + wsum m := by
  induction l with
  | nil => simp [wsum]
  | cons r l ih => simp only [List.cons_append, wsum, ih]; omega
theorem wsum_step {l : List Rn} {k : Nat} {r : Rn} (h : l[k]? = some r) : wsum (l.take (k + 1)) = wsum (l.take k) + r.1 * r.2 := by
  rw [take_one h, wsum_app]; simp [wsum]
theorem mul_bdd {a b : Int} (ha : -9223372036854775808 ≤ a ∧ a ≤ 9223372036854775807) (hb : 0 ≤ b) : -9223372036854775808 * b ≤ a * b ∧ a * b ≤ 9223372036854775808 * b :=
  ⟨Int.mul_le_mul_of_nonneg_right ha.1 hb, Int.mul_le_mul_of_nonneg_right (by omega) hb⟩
theorem wsum_bd {l : List Rn} (h : ∀ r ∈ l, I64 r.1) (hp : Pos l) : -9223372036854775808 * tot l ≤ wsum l ∧ wsum l ≤ 9223372036854775808 * tot l := by
  induction l with
  | nil => simp [wsum, tot]
  | cons r l ih =>
    have h1 := ih (fun q hq => h q (by simp [hq])) (fun q hq => hp q (by simp [hq]))
    have h2 := mul_bdd (h r (by simp)) (b := r.2) (by have := hp r (by simp); omega)
    simp only [wsum, tot]
    omega
theorem wsum_lay (v n : Int) (l : List Rn) : wsum (lay v n l) = wsum l + v * n := by
  induction l with
  | nil => simp [lay, wsum]
  | cons x l ih =>
    simp only [lay]
    split
    · simp only [wsum, ih]; omega
    · split
      · simp only [wsum]; omega
      · have e : x.1 = v := by omega
        split
        · rename_i hz
          have : x.1 * x.2 + v * n = 0 := by rw [e, ← Int.mul_add, hz, Int.mul_zero]
          simp only [wsum]; omega
        · have : x.1 * (x.2 + n) = x.1 * x.2 + v * n := by rw [Int.mul_add, e]
          simp only [wsum]; omega

/-- The bag of values, as the document has it: one laid behind the other. -/
def ofl : List Rn → List Int → List Rn | b, [] => b | b, x :: l => ofl (lay x 1 b) l
def bagOf (l : List Int) : List Rn := ofl [] l
theorem ofl_app (b : List Rn) (l m : List Int) : ofl b (l ++ m) = ofl (ofl b l) m := by
  induction l generalizing b with
  | nil => rfl
  | cons x l ih => exact ih _
theorem bagOf_step {l : List Int} {k : Nat} {x : Int} (h : l[k]? = some x) : bagOf (l.take (k + 1)) = lay x 1 (bagOf (l.take k)) := by
  unfold bagOf; rw [take_one h, ofl_app]; rfl
/-- How often a value stands in a list. -/
def oc (v : Int) : List Int → Int | [] => 0 | x :: l => (if x = v then 1 else 0) + oc v l
theorem oc_perm (v : Int) {l m : List Int} (h : l.Perm m) : oc v l = oc v m := by
  induction h with
  | nil => rfl
  | cons a _ ih => simp only [oc, ih]
  | swap a b l => simp only [oc]; omega
  | trans _ _ h1 h2 => exact h1.trans h2
theorem ofl_cn (b : List Rn) (l : List Int) (v : Int) : cn v (ofl b l) = cn v b + oc v l := by
  induction l generalizing b with
  | nil => simp [ofl, oc]
  | cons x l ih => simp only [ofl, ih, lay_cn, oc]; split <;> split <;> omega
theorem lay_pos {v n : Int} {l : List Rn} (h : Pos l) (hn : 1 ≤ n) : Pos (lay v n l) := by
  induction l with
  | nil => intro r hr; simp [lay] at hr; subst hr; exact hn
  | cons x l ih =>
    have h0 := h x (by simp)
    have h1 : Pos l := fun r hr => h r (by simp [hr])
    simp only [lay]
    split
    · intro r hr
      rcases List.mem_cons.1 hr with rfl | hr
      · exact h0
      · exact ih h1 r hr
    · split
      · intro r hr
        rcases List.mem_cons.1 hr with rfl | hr
        · exact hn
        · exact h r hr
      · split
        · exact h1
        · intro r hr
          rcases List.mem_cons.1 hr with rfl | hr
          · show 1 ≤ x.2 + n; omega
          · exact h1 r hr
theorem lay_tot {v n : Int} {l : List Rn} : tot (lay v n l) = tot l + n := by
  induction l with
  | nil => simp [lay, tot]
  | cons x l ih =>
    simp only [lay]
    split
    · simp only [tot, ih]; omega
    · split
      · simp only [tot]; omega
      · split
        · simp only [tot]; omega
        · simp only [tot]; omega
theorem ofl_srt {b : List Rn} (h : Srt b) (l : List Int) : Srt (ofl b l) := by
  induction l generalizing b with
  | nil => exact h
  | cons x l ih => exact ih (lay_srt h)
theorem ofl_pos {b : List Rn} (h : Pos b) (l : List Int) : Pos (ofl b l) := by
  induction l generalizing b with
  | nil => exact h
  | cons x l ih => exact ih (lay_pos h (by omega))
theorem ofl_tot (b : List Rn) (l : List Int) : tot (ofl b l) = tot b + l.length := by
  induction l generalizing b with
  | nil => simp [ofl]
  | cons x l ih => simp only [ofl, ih, lay_tot, List.length_cons]; omega
theorem ofl_len (b : List Rn) (l : List Int) : (ofl b l).length ≤ b.length + l.length := by
  induction l generalizing b with
  | nil => simp [ofl]
  | cons x l ih => have := ih (lay x 1 b); have := lay_len (v := x) (n := 1) (l := b); simp only [ofl, List.length_cons]; omega
theorem pos_nil : Pos [] := fun r hr => by simp at hr
theorem srt_nil : Srt [] := List.Pairwise.nil
theorem bagOf_srt (l : List Int) : Srt (bagOf l) := ofl_srt srt_nil l
theorem bagOf_pos (l : List Int) : Pos (bagOf l) := ofl_pos pos_nil l
theorem bagOf_cn (l : List Int) (v : Int) : cn v (bagOf l) = oc v l := by unfold bagOf; rw [ofl_cn]; simp [cn]
theorem bagOf_tot (l : List Int) : tot (bagOf l) = l.length := by unfold bagOf; rw [ofl_tot]; simp [tot]
theorem bagOf_len (l : List Int) : (bagOf l).length ≤ l.length := by have := ofl_len [] l; simpa [bagOf] using this
theorem bagOf_bag {l : List Int} (h : l.length ≤ 1000000) : Bag (bagOf l) := ⟨bagOf_srt l, bagOf_pos l, by rw [bagOf_tot]; omega⟩
theorem ofl_wsum (b : List Rn) (l : List Int) : wsum (ofl b l) = wsum b + l.foldr (· + ·) 0 := by
  induction l generalizing b with
  | nil => simp [ofl]
  | cons x l ih => simp only [ofl, ih, wsum_lay, List.foldr_cons]; omega
theorem ofl_mem {b : List Rn} {l : List Int} {r : Rn} (h : r ∈ ofl b l) : (∃ q ∈ b, q.1 = r.1) ∨ r.1 ∈ l := by
  induction l generalizing b with
  | nil => left; exact ⟨r, h, rfl⟩
  | cons x l ih =>
    rcases ih h with ⟨q, hq, e⟩ | h
    · rcases lay_mem hq with e' | hq
      · right; rw [← e, e']; simp
      · left; exact ⟨q, hq, e⟩
    · right; simp [h]
theorem bagOf_mem {l : List Int} {r : Rn} (h : r ∈ bagOf l) : r.1 ∈ l := by
  rcases ofl_mem h with ⟨q, hq, _⟩ | h
  · cases hq
  · exact h
/-- Whatever list of runs rises, has none of none, and each value as often: it is the bag of the values. -/
theorem bagOf_is {l : List Int} {m : List Rn} (hs : Srt m) (hz : Nz m) (h : ∀ v, cn v m = oc v l) : m = bagOf l :=
  runs_ext hs hz (bagOf_srt l) (pos_nz (bagOf_pos l)) (fun v => by rw [h, bagOf_cn])
theorem bagOf_perm {l m : List Int} (h : l.Perm m) : bagOf l = bagOf m :=
  bagOf_is (bagOf_srt l) (pos_nz (bagOf_pos l)) (fun v => by rw [bagOf_cn, oc_perm v h])

/-- Both together, as the document has it. -/
def jnl : List Rn → List Rn → List Rn | a, [] => a | a, r :: b => jnl (lay r.1 r.2 a) b
theorem jnl_app (a b c : List Rn) : jnl a (b ++ c) = jnl (jnl a b) c := by
  induction b generalizing a with
  | nil => rfl
  | cons x l ih => exact ih _
theorem jnl_step {a b : List Rn} {k : Nat} {r : Rn} (h : b[k]? = some r) : jnl a (b.take (k + 1)) = lay r.1 r.2 (jnl a (b.take k)) := by
  rw [take_one h, jnl_app]; rfl
theorem jnl_cn (a b : List Rn) (v : Int) : cn v (jnl a b) = cn v a + cn v b := by
  induction b generalizing a with
  | nil => simp [jnl, cn]
  | cons x l ih => simp only [jnl, ih, lay_cn, cn]; split <;> split <;> omega
theorem jnl_srt {a : List Rn} (h : Srt a) (b : List Rn) : Srt (jnl a b) := by
  induction b generalizing a with
  | nil => exact h
  | cons x l ih => exact ih (lay_srt h)
theorem jnl_pos {a b : List Rn} (h : Pos a) (hb : Pos b) : Pos (jnl a b) := by
  induction b generalizing a with
  | nil => exact h
  | cons x l ih => exact ih (lay_pos h (hb x (by simp))) (fun r hr => hb r (by simp [hr]))
theorem jnl_tot (a b : List Rn) : tot (jnl a b) = tot a + tot b := by
  induction b generalizing a with
  | nil => simp [jnl, tot]
  | cons x l ih => simp only [jnl, ih, lay_tot, tot]; omega
theorem jnl_len (a b : List Rn) : (jnl a b).length ≤ a.length + b.length := by
  induction b generalizing a with
  | nil => simp [jnl]
  | cons x l ih => have := ih (lay x.1 x.2 a); have := lay_len (v := x.1) (n := x.2) (l := a); simp only [jnl, List.length_cons]; omega
theorem jnl_mem {a b : List Rn} {r : Rn} (h : r ∈ jnl a b) : (∃ q ∈ a, q.1 = r.1) ∨ ∃ q ∈ b, q.1 = r.1 := by
  induction b generalizing a with
  | nil => left; exact ⟨r, h, rfl⟩
  | cons x l ih =>
    rcases ih h with ⟨q, hq, e⟩ | ⟨q, hq, e⟩
    · rcases lay_mem hq with e' | hq
      · right; exact ⟨x, by simp, by omega⟩
      · left; exact ⟨q, hq, e⟩
    · right; exact ⟨q, by simp [hq], e⟩
theorem jnl_is {a b m : List Rn} (ha : Srt a) (pa : Pos a) (pb : Pos b) (hs : Srt m) (hz : Nz m) (h : ∀ v, cn v m = cn v a + cn v b) : m = jnl a b :=
  runs_ext hs hz (jnl_srt ha b) (pos_nz (jnl_pos pa pb)) (fun v => by rw [h, jnl_cn])
theorem cn_srt_eq {m : List Rn} (hs : Srt m) {r : Rn} (hr : r ∈ m) : cn r.1 m = r.2 := by
  obtain ⟨k, hk⟩ := List.mem_iff_getElem?.1 hr
  exact cn_at hs hk
/-- What the numbers are on the way. -/
theorem jnl_bd {a b : List Rn} (ha : Srt a) (pa : Pos a) (pb : Pos b) (ht : tot a + tot b ≤ 1099511627776) : ∀ r ∈ jnl a b, 0 ≤ r.2 ∧ r.2 ≤ 1099511627776 := by
  intro r hr
  have h1 := jnl_pos pa pb r hr
  have h2 := cn_srt_eq (jnl_srt ha b) hr
  have h3 := cn_le (v := r.1) (jnl_pos pa pb)
  rw [jnl_tot] at h3
  omega
theorem pos_take {l : List Rn} (h : Pos l) (k : Nat) : Pos (l.take k) := fun r hr => h r (List.mem_of_mem_take hr)
end Go.Proofs.Ytjkkajhjcinalaa

namespace Go.Proofs.Ytjkkajhjcinalaa.calc
open Go.RowKit
set_option linter.unusedVariables false
set_option linter.unusedSimpArgs false
set_option maxRecDepth 100000

/-- Is a number an int64? -/
def fitB (x : Int) : Bool := decide (-9223372036854775808 ≤ x ∧ x ≤ 9223372036854775807)
/-- A number, or 0 where it is no int64. -/
def fitV (x : Int) : Int := if fitB x then x else 0
/-- A number without its sign. -/
def sz (a : Int) : Int := if a < 0 then -a else a
theorem fit_yes {x : Int} (h : -9223372036854775808 ≤ x ∧ x ≤ 9223372036854775807) : fitB x = true ∧ fitV x = x := by
  have e : fitB x = true := by unfold fitB; exact decide_eq_true h
  exact ⟨e, by unfold fitV; rw [e]; rfl⟩
theorem fit_no {x : Int} (h : ¬ (-9223372036854775808 ≤ x ∧ x ≤ 9223372036854775807)) : fitB x = false ∧ fitV x = 0 := by
  have e : fitB x = false := by unfold fitB; exact decide_eq_false h
  exact ⟨e, by unfold fitV; rw [e]; rfl⟩
theorem ret_fit_no {x : Int} (h : ¬ (-9223372036854775808 ≤ x ∧ x ≤ 9223372036854775807)) : Ending.returned (.tuple #[.int .i64 0, .bool false]) = .returned (.tuple #[.int .i64 (fitV x), .bool (fitB x)]) := by
  rw [(fit_no h).1, (fit_no h).2]
theorem ret_fit_yes {x y : Int} (h : -9223372036854775808 ≤ x ∧ x ≤ 9223372036854775807) (e : y = x) : Ending.returned (.tuple #[.int .i64 y, .bool true]) = .returned (.tuple #[.int .i64 (fitV x), .bool (fitB x)]) := by
  rw [(fit_yes h).1, (fit_yes h).2, e]
theorem add_no {a b : Int} (ha : I64 a) (hb : I64 b) (h : (!decide (wrap64 (a + b) < a) == decide (b < 0)) = true) : ¬ (-9223372036854775808 ≤ a + b ∧ a + b ≤ 9223372036854775807) := by
  obtain ⟨a1, a2⟩ := ha; obtain ⟨b1, b2⟩ := hb
  unfold wrap64 at h
  intro hf
  simp only [Bool.not_eq_true', beq_eq_false_iff_ne, ne_eq, decide_eq_decide] at h
  omega
theorem add_yes {a b : Int} (ha : I64 a) (hb : I64 b) (h : (!decide (wrap64 (a + b) < a) == decide (b < 0)) = false) : (-9223372036854775808 ≤ a + b ∧ a + b ≤ 9223372036854775807) ∧ wrap64 (a + b) = a + b := by
  obtain ⟨a1, a2⟩ := ha; obtain ⟨b1, b2⟩ := hb
  unfold wrap64 at *
  simp only [Bool.not_eq_false', beq_iff_eq, decide_eq_decide] at h
  omega
set_option maxHeartbeats 400000 in
theorem add_any (a b : Int) (w : World) (ha : I64 a) (hb : I64 b) :
    Calls Try.prog 65 #[.int .i64 a, .int .i64 b] w fun e w' => e = .returned (.tuple #[.int .i64 (fitV (a + b)), .bool (fitB (a + b))]) ∧ w' = w := by
  go_enter Try.func65, Try.ntmps65
  go_wp2
  · go_ret2
    exact ⟨ret_fit_no (add_no ha hb ‹_›), rfl⟩
  · go_ret2
    exact ⟨ret_fit_yes (add_yes ha hb ‹_›).1 (add_yes ha hb ‹_›).2, rfl⟩
theorem i64_0 : I64 0 := by unfold I64; decide
theorem sz_neg {a : Int} (h : a < 0) : sz a = -a := by unfold sz; rw [if_pos h]
theorem sz_pos {a : Int} (h : 0 ≤ a) : sz a = a := by unfold sz; rw [if_neg (by omega)]
theorem u64_neg {a : Int} (h1 : -9223372036854775808 ≤ a) (h : a < 0) : IntKind.u64.wrap (-IntKind.u64.wrap a) = -a := by
  rw [IntKind.wrap_u64, IntKind.wrap_u64]; omega
set_option maxHeartbeats 400000 in
theorem size_any (a : Int) (w : World) (ha : I64 a) :
    Calls Try.prog 120 #[.int .i64 a] w fun e w' => e = .returned (.int .u64 (sz a)) ∧ w' = w := by
  obtain ⟨a1, a2⟩ := ha
  by_cases h : a < 0
  · go_enter Try.func120, Try.ntmps120
    go_wp2
    go_ret
    exact ⟨ret_int ((u64_neg a1 h).trans (sz_neg h).symm), rfl⟩
  · go_enter Try.func120, Try.ntmps120
    go_wp2
    go_ret
    exact ⟨ret_int (sz_pos h).symm, rfl⟩
set_option maxHeartbeats 400000 in
theorem rsize_any (a : Int) (w : World) (ha : I64 a) :
    Calls Try.prog 99 #[.int .i64 a] w fun e w' => e = .returned (.int .u64 (sz a)) ∧ w' = w := by
  obtain ⟨a1, a2⟩ := ha
  by_cases h : a < 0
  · go_enter Try.func99, Try.ntmps99
    go_wp2
    go_ret
    exact ⟨ret_int (by rw [sz_neg h]; omega), rfl⟩
  · go_enter Try.func99, Try.ntmps99
    go_wp2
    go_ret
    exact ⟨ret_int (sz_pos h).symm, rfl⟩
/-- The high half (floor), the low half of a number, by 2^64. -/
def hi (x : Int) : Int := x / 18446744073709551616
def lo (x : Int) : Int := x % 18446744073709551616
set_option maxHeartbeats 400000 in
theorem signhalf_any (a : Int) (w : World) (ha : I64 a) :
    Calls Try.prog 104 #[.int .i64 a] w fun e w' => e = .returned (.int .i64 (hi a)) ∧ w' = w := by
  obtain ⟨a1, a2⟩ := ha
  go_enter Try.func104, Try.ntmps104
  go_wp2
  go_ret
  exact ⟨ret_int (by unfold hi; omega), rfl⟩
/-- -1, 0, 1. -/
def sg (a b : Int) : Int := if a < b then -1 else if b < a then 1 else 0
set_option maxHeartbeats 400000 in
theorem cmpi_any (a b : Int) (w : World) :
    Calls Try.prog 71 #[.int .i64 a, .int .i64 b] w fun e w' => e = .returned (.int .i64 (sg a b)) ∧ w' = w := by
  unfold sg
  go_enter Try.func71, Try.ntmps71
  go_wp2
  all_goals (go_ret; exact ⟨rfl, rfl⟩)
set_option maxHeartbeats 400000 in
theorem cmpu_any (a b : Int) (w : World) :
    Calls Try.prog 122 #[.int .u64 a, .int .u64 b] w fun e w' => e = .returned (.int .i64 (sg a b)) ∧ w' = w := by
  unfold sg
  go_enter Try.func122, Try.ntmps122
  go_wp2
  all_goals (go_ret; exact ⟨rfl, rfl⟩)
theorem maskI (x : Int) (h0 : 0 ≤ x) (h1 : x < 18446744073709551616) : bits .and .u64 x 4294967295 = x % 4294967296 := by
  obtain ⟨n, rfl⟩ := Int.eq_ofNat_of_zero_le h0
  have h := bits_and_u64_nat n 4294967295 (by omega) (by omega)
  rw [show n &&& 4294967295 = n % 4294967296 from Nat.and_two_pow_sub_one_eq_mod n 32] at h
  exact h.trans (by omega)
theorem mulsplit (X Y : Int) (hX : 0 ≤ X) (hY : 0 ≤ Y) : X * Y = X / 4294967296 * (Y / 4294967296) * 18446744073709551616 + (X / 4294967296 * (Y % 4294967296) + X % 4294967296 * (Y / 4294967296)) * 4294967296 + X % 4294967296 * (Y % 4294967296) := by
  obtain ⟨x, rfl⟩ := Int.eq_ofNat_of_zero_le hX
  obtain ⟨y, rfl⟩ := Int.eq_ofNat_of_zero_le hY
  have e := Lib.split_mul (x / 4294967296) (x % 4294967296) (y / 4294967296) (y % 4294967296) 4294967296
  rw [Nat.div_add_mod' x 4294967296, Nat.div_add_mod' y 4294967296] at e
  have e' : ((x * y : Nat) : Int) = (((x / 4294967296) * (y / 4294967296) * (4294967296 * 4294967296) + ((x / 4294967296) * (y % 4294967296) + (x % 4294967296) * (y / 4294967296)) * 4294967296 + (x % 4294967296) * (y % 4294967296) : Nat) : Int) := by rw [e]
  simpa using e'
theorem half_bd {p q B C : Int} (h1 : 0 ≤ p) (h2 : p ≤ B) (h3 : 0 ≤ q) (h4 : q ≤ C) : 0 ≤ p * q ∧ p * q ≤ B * C :=
  ⟨Int.mul_nonneg h1 h3, Int.mul_le_mul h2 h4 h3 (by omega)⟩
theorem wrap_small (z : Int) (h1 : 0 ≤ z) (h2 : z < 18446744073709551616) : IntKind.u64.wrap z = z := by rw [IntKind.wrap_u64]; omega
set_option maxHeartbeats 1000000 in
theorem mul64_raw (x y P Q R S PR PS QR QS T U H L : Int) (w : World)
    (hP : x / 4294967296 = P) (hQ : bits .and .u64 x 4294967295 = Q) (hR : y / 4294967296 = R) (hS : bits .and .u64 y 4294967295 = S)
    (hQS : IntKind.u64.wrap (Q * S) = QS) (hPS : IntKind.u64.wrap (P * S) = PS) (hQR : IntKind.u64.wrap (Q * R) = QR) (hPR : IntKind.u64.wrap (P * R) = PR)
    (hT : IntKind.u64.wrap (PS + QS / 4294967296) = T) (hU : bits .and .u64 T 4294967295 = U) (hV : IntKind.u64.wrap (U + QR) = U + QR)
    (hH1 : IntKind.u64.wrap (PR + T / 4294967296) = PR + T / 4294967296) (hH : IntKind.u64.wrap (PR + T / 4294967296 + (U + QR) / 4294967296) = H) (hL : IntKind.u64.wrap (x * y) = L) :
    Calls Try.prog 119 #[.int .u64 x, .int .u64 y] w fun e w' => e = .returned (.tuple #[.int .u64 H, .int .u64 L]) ∧ w' = w := by
  go_enter Try.func119, Try.ntmps119
  go_wp2
  go_ret2
  exact ⟨rfl, rfl⟩
theorem mul64_any (x y : Int) (hx : 0 ≤ x) (hy : 0 ≤ y) (hx' : x < 18446744073709551616) (hy' : y < 18446744073709551616) (w : World) :
    Calls Try.prog 119 #[.int .u64 x, .int .u64 y] w fun e w' => e = .returned (.tuple #[.int .u64 (hi (x * y)), .int .u64 (lo (x * y))]) ∧ w' = w := by
  have hT := mulsplit x y hx hy
  obtain ⟨u1, u2⟩ := half_bd (p := x / 4294967296) (q := y / 4294967296) (B := 4294967295) (C := 4294967295) (by omega) (by omega) (by omega) (by omega)
  obtain ⟨u3, u4⟩ := half_bd (p := x / 4294967296) (q := y % 4294967296) (B := 4294967295) (C := 4294967295) (by omega) (by omega) (by omega) (by omega)
  obtain ⟨u5, u6⟩ := half_bd (p := x % 4294967296) (q := y / 4294967296) (B := 4294967295) (C := 4294967295) (by omega) (by omega) (by omega) (by omega)
  obtain ⟨u7, u8⟩ := half_bd (p := x % 4294967296) (q := y % 4294967296) (B := 4294967295) (C := 4294967295) (by omega) (by omega) (by omega) (by omega)
  obtain ⟨PR, hPR⟩ : ∃ z, x / 4294967296 * (y / 4294967296) = z := ⟨_, rfl⟩
  obtain ⟨PS, hPS⟩ : ∃ z, x / 4294967296 * (y % 4294967296) = z := ⟨_, rfl⟩
  obtain ⟨QR, hQR⟩ : ∃ z, x % 4294967296 * (y / 4294967296) = z := ⟨_, rfl⟩
  obtain ⟨QS, hQS⟩ : ∃ z, x % 4294967296 * (y % 4294967296) = z := ⟨_, rfl⟩
  rw [hPR] at u1 u2 hT
  rw [hPS] at u3 u4 hT
  rw [hQR] at u5 u6 hT
  rw [hQS] at u7 u8 hT
  refine mul64_raw x y _ _ _ _ PR PS QR QS (PS + QS / 4294967296) ((PS + QS / 4294967296) % 4294967296) _ _ w rfl (maskI _ hx hx') rfl (maskI _ hy hy') (by rw [hQS]; exact wrap_small _ u7 (by omega)) (by rw [hPS]; exact wrap_small _ u3 (by omega)) (by rw [hQR]; exact wrap_small _ u5 (by omega)) (by rw [hPR]; exact wrap_small _ u1 (by omega)) (wrap_small _ (by omega) (by omega)) (maskI _ (by omega) (by omega)) (wrap_small _ (by omega) (by omega)) (wrap_small _ (by omega) (by omega)) ?_ ?_
  · rw [wrap_small _ (by omega) (by omega)]; unfold hi; omega
  · rw [IntKind.wrap_u64]; rfl
theorem add64 (x y c : Int) (hx : 0 ≤ x) (hy : 0 ≤ y) (hc0 : 0 ≤ c) (hc : c ≤ 1) (w : World) : (callFunc 103 #[.int .u64 x, .int .u64 y, .int .u64 c]).run Try.prog w =
    .ok (.value (.tuple #[.int .u64 (lo (x + y + c)), .int .u64 (hi (x + y + c))])) w := by
  rw [run_callFunc_extern Try.func103 (by kernel_rfl) (by kernel_rfl) (by kernel_rfl) (e := add64Entry) (by kernel_rfl), run_add64 x y c hx hy hc0 hc]
  rfl
/-- The borrow. -/
def bor (x y : Int) : Int := if x < y then 1 else 0
theorem sub64 (x y c : Int) (hx : 0 ≤ x) (hy : 0 ≤ y) (hy' : y < 18446744073709551616) (hc0 : 0 ≤ c) (hc : c ≤ 1) (w : World) : (callFunc 140 #[.int .u64 x, .int .u64 y, .int .u64 c]).run Try.prog w =
    .ok (.value (.tuple #[.int .u64 (lo (x - y - c)), .int .u64 (bor x (y + c))])) w := by
  obtain ⟨x, rfl⟩ := Int.eq_ofNat_of_zero_le hx
  obtain ⟨y, rfl⟩ := Int.eq_ofNat_of_zero_le hy
  obtain ⟨c, rfl⟩ := Int.eq_ofNat_of_zero_le hc0
  rw [run_callFunc_extern Try.func140 (by kernel_rfl) (by kernel_rfl) (by kernel_rfl) (e := sub64Entry) (by kernel_rfl), run_sub64 x y c (by omega)]
  simp only [Result.andThen]
  have e1 : (((x + 18446744073709551616 - y - c) % 18446744073709551616 : Nat) : Int) = lo ((x : Int) - y - c) := by unfold lo; omega
  have e2 : ((if x < y + c then 1 else 0 : Nat) : Int) = bor (x : Int) (y + c) := by unfold bor; split <;> split <;> omega
  rw [e1, e2]

end Go.Proofs.Ytjkkajhjcinalaa.calc

namespace Go.Proofs.Ytjkkajhjcinalaa.calc
open Go.RowKit
set_option linter.unusedVariables false
set_option linter.unusedSimpArgs false
set_option maxRecDepth 100000

theorem lo_bd (x : Int) : 0 ≤ lo x ∧ lo x < 18446744073709551616 := by unfold lo; omega
theorem lohi (x : Int) : x = hi x * 18446744073709551616 + lo x := by unfold lo hi; omega
theorem turned_hi {x : Int} (h0 : 0 ≤ x) (h1 : x ≤ 85070591730234615865843651857942052864) : wrap64 (lo (-hi x - bor 0 (lo x))) = hi (-x) := by
  unfold wrap64 bor lo hi; split <;> omega
theorem turned_lo {x : Int} : lo (-lo x) = lo (-x) := by
  unfold lo; omega
set_option maxHeartbeats 400000 in
theorem turned_any (x : Int) (w : World) (h0 : 0 ≤ x) (h1 : x ≤ 85070591730234615865843651857942052864) :
    Calls Try.prog 121 #[.agg #[.int .i64 (hi x), .int .u64 (lo x)]] w fun e w' => e = .returned (.agg #[.int .i64 (hi (-x)), .int .u64 (lo (-x))]) ∧ Below w.heap.size w w' := by
  obtain ⟨l1, l2⟩ := lo_bd x
  have H1 : 0 ≤ hi x := by unfold hi; omega
  have H2 : hi x ≤ 4611686018427387904 := by unfold hi; omega
  have k0 : 0 ≤ bor 0 (lo x) := by unfold bor; split <;> omega
  have k1 : bor 0 (lo x) ≤ 1 := by unfold bor; split <;> omega
  go_enter Try.func121, Try.ntmps121
  go_wp2_with (first | simp only [sub64 _ _ _ (Int.le_refl 0) l1 l2 (Int.le_refl 0) (by decide : (0 : Int) ≤ 1)] | simp only [sub64 _ _ _ (Int.le_refl 0) H1 (by omega) k0 k1])
  rw [turned_hi h0 h1, turned_lo]
  exact bodyPost_ret (v := .agg #[.int .i64 (hi (-x)), .int .u64 (lo (-x))]) (by simp [results, Try.results121, go_sem]) rfl ⟨rfl, ((Below.refl _ _).alloc (Nat.le_refl _) _).alloc (by simp) _⟩
theorem narrow_yes {x : Int} (h : (hi x != hi (wrap64 (lo x))) = false) : (-9223372036854775808 ≤ x ∧ x ≤ 9223372036854775807) ∧ wrap64 (lo x) = x := by
  unfold wrap64 lo hi at *
  simp only [bne_eq_false_iff_eq] at h
  omega
theorem narrow_no {x : Int} (h : (hi x != hi (wrap64 (lo x))) = true) : ¬ (-9223372036854775808 ≤ x ∧ x ≤ 9223372036854775807) := by
  unfold wrap64 lo hi at *
  simp only [bne_iff_ne, ne_eq] at h
  omega
theorem wrap_i64 (x : Int) : I64 (wrap64 x) := by unfold I64 wrap64; omega
set_option maxHeartbeats 400000 in
theorem narrow_any (x : Int) (w : World) :
    Calls Try.prog 70 #[.agg #[.int .i64 (hi x), .int .u64 (lo x)]] w fun e w' => e = .returned (.tuple #[.int .i64 (fitV x), .bool (fitB x)]) ∧ Below w.heap.size w w' := by
  obtain ⟨l1, l2⟩ := lo_bd x
  go_enter Try.func70, Try.ntmps70
  go_wp2
  go_quiet ((go_at_call 104; exact Calls.quiet_of_same (signhalf_any _ _ (wrap_i64 _))))
  go_wp2
  · go_ret2
    exact ⟨ret_fit_no (narrow_no ‹_›), below_drewN ((Below.refl _ _).alloc (Nat.le_refl _) _) _⟩
  · go_ret2
    exact ⟨ret_fit_yes (narrow_yes ‹_›).1 (narrow_yes ‹_›).2, below_drewN ((Below.refl _ _).alloc (Nat.le_refl _) _) _⟩
theorem plus_hi {x v : Int} (h0 : -170141183460469231731687303715884105728 ≤ x + v) (h1 : x + v < 170141183460469231731687303715884105728) : wrap64 (lo (lo (hi x) + lo (hi v) + hi (lo x + lo v))) = hi (x + v) := by
  unfold wrap64 lo hi; omega
theorem plus_lo {x v : Int} : lo (lo x + lo v) = lo (x + v) := by unfold lo; omega
theorem wrapu (x : Int) : IntKind.u64.wrap x = lo x := by rw [IntKind.wrap_u64]; rfl
set_option maxHeartbeats 400000 in
theorem plus_any (x v : Int) (w : World) (hv : I64 v) (h0 : -170141183460469231731687303715884105728 ≤ x + v) (h1 : x + v < 170141183460469231731687303715884105728) :
    Calls Try.prog 69 #[.agg #[.int .i64 (hi x), .int .u64 (lo x)], .int .i64 v] w fun e w' => e = .returned (.agg #[.int .i64 (hi (x + v)), .int .u64 (lo (x + v))]) ∧ Below w.heap.size w w' := by
  obtain ⟨l1, l2⟩ := lo_bd x
  obtain ⟨v1, v2⟩ := lo_bd v
  obtain ⟨m1, m2⟩ := lo_bd (hi x)
  obtain ⟨n1, n2⟩ := lo_bd (hi v)
  have k0 : 0 ≤ hi (lo x + lo v) := by unfold lo hi; omega
  have k1 : hi (lo x + lo v) ≤ 1 := by unfold lo hi; omega
  have hadd : ∀ w', (callFunc 103 #[.int .u64 (IntKind.u64.wrap (hi x)), .int .u64 (IntKind.u64.wrap (hi v)), .int .u64 (hi (lo x + lo v))]).run Try.prog w' = .ok (.value (.tuple #[.int .u64 (lo (lo (hi x) + lo (hi v) + hi (lo x + lo v))), .int .u64 (hi (lo (hi x) + lo (hi v) + hi (lo x + lo v)))])) w' := by
    intro w'
    rw [wrapu, wrapu]
    exact add64 _ _ _ m1 n1 k0 k1 w'
  go_enter Try.func69, Try.ntmps69
  go_wp2_with (first | (simp only [wrapu, add64 _ _ _ l1 v1 (Int.le_refl 0) (by decide : (0 : Int) ≤ 1)]))
  go_quiet ((go_at_call 104; exact Calls.quiet_of_same (signhalf_any _ _ hv)))
  go_wp2
  rw [plus_hi h0 h1, plus_lo]
  exact bodyPost_ret (v := .agg #[.int .i64 (hi (x + v)), .int .u64 (lo (x + v))]) (by simp [results, Try.results69, go_sem]) rfl ⟨rfl, ((below_drewN (((Below.refl _ _).alloc (Nat.le_refl _) _).alloc (by simp) _) _).setCell (by simp) _).setCell (by simp) _⟩
theorem sg_hi {x y : Int} (h : (hi x != hi y) = true) : sg (hi x) (hi y) = sg x y := by
  simp only [bne_iff_ne, ne_eq] at h
  have := lohi x; have := lohi y; have := lo_bd x; have := lo_bd y
  unfold sg
  split <;> split <;> (try split) <;> (try split) <;> omega
theorem sg_lo {x y : Int} (h : (hi x != hi y) = false) : sg (lo x) (lo y) = sg x y := by
  simp only [bne_eq_false_iff_eq] at h
  have := lohi x; have := lohi y
  unfold sg
  split <;> split <;> (try split) <;> (try split) <;> omega
set_option maxHeartbeats 400000 in
theorem compare_any (x y : Int) (w : World) :
    Calls Try.prog 107 #[.agg #[.int .i64 (hi x), .int .u64 (lo x)], .agg #[.int .i64 (hi y), .int .u64 (lo y)]] w fun e w' => e = .returned (.int .i64 (sg x y)) ∧ Below w.heap.size w w' := by
  go_enter Try.func107, Try.ntmps107
  go_wp2_with (first | (go_at_call 71; refine (cmpi_any _ _ _).mono ?_; rintro e w' ⟨rfl, rfl⟩) | (go_at_call 122; refine (cmpu_any _ _ _).mono ?_; rintro e w' ⟨rfl, rfl⟩))
  · go_ret
    exact ⟨ret_int (sg_hi ‹_›), ((Below.refl _ _).alloc (Nat.le_refl _) _).alloc (by simp) _⟩
  · go_ret
    exact ⟨ret_int (sg_lo ‹_›), ((Below.refl _ _).alloc (Nat.le_refl _) _).alloc (by simp) _⟩
theorem sz_bd {a : Int} (h : I64 a) : 0 ≤ sz a ∧ sz a ≤ 9223372036854775808 := by
  obtain ⟨h1, h2⟩ := h
  unfold sz; split <;> omega
theorem mul_bd {x y : Int} (hx : 0 ≤ x ∧ x ≤ 9223372036854775808) (hy : 0 ≤ y ∧ y ≤ 9223372036854775808) : 0 ≤ x * y ∧ x * y ≤ 85070591730234615865843651857942052864 := by
  refine ⟨Int.mul_nonneg hx.1 hy.1, ?_⟩
  have h := Int.mul_le_mul hx.2 hy.2 hy.1 (by decide : (0 : Int) ≤ 9223372036854775808)
  exact h
theorem mul64_p (x y p : Int) (hx : 0 ≤ x) (hy : 0 ≤ y) (hx' : x < 18446744073709551616) (hy' : y < 18446744073709551616) (hp : x * y = p) (w : World) :
    Calls Try.prog 119 #[.int .u64 x, .int .u64 y] w fun e w' => e = .returned (.tuple #[.int .u64 (hi p), .int .u64 (lo p)]) ∧ w' = w := by
  subst hp; exact mul64_any x y hx hy hx' hy' w
set_option maxHeartbeats 400000 in
theorem product_any (a b : Int) (w : World) (ha : I64 a) (hb : I64 b) :
    Calls Try.prog 106 #[.int .i64 a, .int .i64 b] w fun e w' => e = .returned (.agg #[.int .i64 (hi (a * b)), .int .u64 (lo (a * b))]) ∧ Below w.heap.size w w' := by
  obtain ⟨s1, s2⟩ := sz_bd ha
  obtain ⟨t1, t2⟩ := sz_bd hb
  obtain ⟨p1, p2⟩ := mul_bd (sz_bd ha) (sz_bd hb)
  obtain ⟨p, hp⟩ : ∃ p, sz a * sz b = p := ⟨_, rfl⟩
  rw [hp] at p1 p2
  have q0 : 0 ≤ hi p := by unfold hi; omega
  have q1 : hi p ≤ 4611686018427387904 := by unfold hi; omega
  have HP : Hid (sz a * sz b = p) := hp
  clear hp
  by_cases ca : a < 0
  · by_cases cb : b < 0
    · have e1 : p = a * b := by rw [← HP.out, sz_neg ca, sz_neg cb, Int.neg_mul_neg]
      have e2 : Hid (p = a * b) := e1
      clear e1
      go_enter Try.func106, Try.ntmps106
      go_wp2_with (first | (go_at_call 120; refine (size_any _ _ (by assumption)).mono ?_; rintro e w' ⟨rfl, rfl⟩) | (go_at_call 119; refine (mul64_p _ _ p s1 t1 (by omega) (by omega) HP.out _).mono ?_; rintro e w' ⟨rfl, rfl⟩))
      rw [← e2.out]
      exact bodyPost_ret (v := .agg #[.int .i64 (hi p), .int .u64 (lo p)]) (by simp [results, Try.results106, go_sem]) rfl ⟨rfl, ((Below.refl _ _).alloc (Nat.le_refl _) _).alloc (by simp) _⟩
    · have e1 : -p = a * b := by rw [← HP.out, sz_neg ca, sz_pos (by omega), Int.neg_mul, Int.neg_neg]
      have e2 : Hid (-p = a * b) := e1
      clear e1
      have cb' : decide (b < 0) = false := decide_eq_false cb
      go_enter Try.func106, Try.ntmps106
      go_wp2_with (first | (go_at_call 120; refine (size_any _ _ (by assumption)).mono ?_; rintro e w' ⟨rfl, rfl⟩) | (go_at_call 119; refine (mul64_p _ _ p s1 t1 (by omega) (by omega) HP.out _).mono ?_; rintro e w' ⟨rfl, rfl⟩) | (go_at_call 121; refine (turned_any p _ p1 p2).mono ?_; rintro e w' ⟨rfl, hbel⟩; obtain ⟨hc, hf⟩ := bcell hbel; have hz := hbel.size; simp at hz))
      rw [← e2.out]
      have hc0 : w'.cell? ⟨w.heap.size, 0, none⟩ = some (.int .i64 0) := by rw [hc _ _ (by simp; omega)]; simp [go_sem]
      have hc1 : w'.cell? ⟨w.heap.size, 1, none⟩ = some (.int .u64 0) := by rw [hc _ _ (by simp; omega)]; simp [go_sem]
      exact bodyPost_ret (v := .agg #[.int .i64 (hi (-p)), .int .u64 (lo (-p))]) (by simp [results, Try.results106, go_sem, hc0, hc1]) rfl ⟨rfl, (((((Below.refl _ _).alloc (Nat.le_refl _) _).alloc (by simp) _).trans (hbel.mono (by simp; omega))).setCell (by simp) _).setCell (by simp) _⟩
  · have ca' : decide (a < 0) = false := decide_eq_false ca
    by_cases cb : b < 0
    · have e1 : -p = a * b := by rw [← HP.out, sz_pos (by omega), sz_neg cb, Int.mul_neg, Int.neg_neg]
      have e2 : Hid (-p = a * b) := e1
      clear e1
      go_enter Try.func106, Try.ntmps106
      go_wp2_with (first | (go_at_call 120; refine (size_any _ _ (by assumption)).mono ?_; rintro e w' ⟨rfl, rfl⟩) | (go_at_call 119; refine (mul64_p _ _ p s1 t1 (by omega) (by omega) HP.out _).mono ?_; rintro e w' ⟨rfl, rfl⟩) | (go_at_call 121; refine (turned_any p _ p1 p2).mono ?_; rintro e w' ⟨rfl, hbel⟩; obtain ⟨hc, hf⟩ := bcell hbel; have hz := hbel.size; simp at hz))
      rw [← e2.out]
      have hc0 : w'.cell? ⟨w.heap.size, 0, none⟩ = some (.int .i64 0) := by rw [hc _ _ (by simp; omega)]; simp [go_sem]
      have hc1 : w'.cell? ⟨w.heap.size, 1, none⟩ = some (.int .u64 0) := by rw [hc _ _ (by simp; omega)]; simp [go_sem]
      exact bodyPost_ret (v := .agg #[.int .i64 (hi (-p)), .int .u64 (lo (-p))]) (by simp [results, Try.results106, go_sem, hc0, hc1]) rfl ⟨rfl, (((((Below.refl _ _).alloc (Nat.le_refl _) _).alloc (by simp) _).trans (hbel.mono (by simp; omega))).setCell (by simp) _).setCell (by simp) _⟩
    · have e1 : p = a * b := by rw [← HP.out, sz_pos (by omega), sz_pos (by omega)]
      have e2 : Hid (p = a * b) := e1
      clear e1
      have cb' : decide (b < 0) = false := decide_eq_false cb
      go_enter Try.func106, Try.ntmps106
      go_wp2_with (first | (go_at_call 120; refine (size_any _ _ (by assumption)).mono ?_; rintro e w' ⟨rfl, rfl⟩) | (go_at_call 119; refine (mul64_p _ _ p s1 t1 (by omega) (by omega) HP.out _).mono ?_; rintro e w' ⟨rfl, rfl⟩))
      rw [← e2.out]
      exact bodyPost_ret (v := .agg #[.int .i64 (hi p), .int .u64 (lo p)]) (by simp [results, Try.results106, go_sem]) rfl ⟨rfl, ((Below.refl _ _).alloc (Nat.le_refl _) _).alloc (by simp) _⟩

end Go.Proofs.Ytjkkajhjcinalaa.calc

namespace Go.Proofs.Ytjkkajhjcinalaa.calc
open Go.RowKit
set_option linter.unusedVariables false
set_option linter.unusedSimpArgs false
set_option maxRecDepth 100000

set_option maxHeartbeats 400000 in
theorem mul_any (a b : Int) (w : World) (ha : I64 a) (hb : I64 b) :
    Calls Try.prog 142 #[.int .i64 a, .int .i64 b] w fun e w' => e = .returned (.tuple #[.int .i64 (fitV (a * b)), .bool (fitB (a * b))]) ∧ Below w.heap.size w w' := by
  go_enter Try.func142, Try.ntmps142
  go_wp2_with (first | (go_at_call 106; refine (product_any _ _ _ ha hb).mono ?_; rintro e w1 ⟨rfl, hb1⟩) | (go_at_call 70; refine (narrow_any _ _).mono ?_; rintro e w2 ⟨rfl, hb2⟩))
  go_ret2
  exact ⟨rfl, hb1.trans (hb2.mono hb1.size)⟩
set_option maxHeartbeats 400000 in
theorem cmp_any (a b c d : Int) (w : World) (ha : I64 a) (hb : I64 b) (hc : I64 c) (hd : I64 d) :
    Calls Try.prog 72 #[.int .i64 a, .int .i64 b, .int .i64 c, .int .i64 d] w fun e w' => e = .returned (.int .i64 (sg (a * b) (c * d))) ∧ Below w.heap.size w w' := by
  go_enter Try.func72, Try.ntmps72
  go_wp2_with (first | (go_at_call 106; refine (product_any _ _ _ (by assumption) (by assumption)).mono ?_; rintro e w1 ⟨rfl, hb1⟩) | (go_at_call 107; refine (compare_any _ _ _).mono ?_; rintro e w3 ⟨rfl, hb3⟩))
  go_ret
  exact ⟨rfl, bt (bt (by assumption) hb1) hb3⟩
/-- The sum of a list. -/
def sumI : List Int → Int
  | [] => 0
  | x :: l => x + sumI l
theorem sumI_snoc (l : List Int) (x : Int) : sumI (l ++ [x]) = sumI l + x := by
  induction l with
  | nil => simp [sumI]
  | cons y l ih => simp only [List.cons_append, sumI, ih]; omega
theorem sumI_bd (l : List Int) (h : ∀ x ∈ l, I64 x) : -(9223372036854775808 * l.length) ≤ sumI l ∧ sumI l ≤ 9223372036854775808 * l.length := by
  induction l with
  | nil => simp [sumI]
  | cons y l ih =>
    have h1 := h y (by simp)
    have h2 := ih (fun x hx => h x (by simp [hx]))
    obtain ⟨a1, a2⟩ := h1
    simp only [sumI, List.length_cons]
    omega
theorem take_snoc (l : List Int) (k : Nat) (h : k < l.length) : l.take (k + 1) = l.take k ++ [l.getD k 0] := by
  rw [List.take_succ_eq_append_getElem h]
  simp [List.getD, h]
theorem two_store {w wr w1 : World} {v0 v1 u0 u1 : Value} (hbel : Below w.heap.size w wr) (hsz : w.heap.size < wr.heap.size)
    (hc0 : wr.cell? ⟨w.heap.size, 0, none⟩ = some u0) (hc1 : wr.cell? ⟨w.heap.size, 1, none⟩ = some u1) (hf0 : wr.frozen? ⟨w.heap.size, 0, none⟩ = false) (hf1 : wr.frozen? ⟨w.heap.size, 1, none⟩ = false) (hb1 : Below wr.heap.size wr w1) :
    Below w.heap.size w ((w1.setCell ⟨w.heap.size, 0, none⟩ v0).setCell ⟨w.heap.size, 1, none⟩ v1) ∧ w.heap.size < ((w1.setCell ⟨w.heap.size, 0, none⟩ v0).setCell ⟨w.heap.size, 1, none⟩ v1).heap.size ∧
    ((w1.setCell ⟨w.heap.size, 0, none⟩ v0).setCell ⟨w.heap.size, 1, none⟩ v1).cell? ⟨w.heap.size, 0, none⟩ = some v0 ∧ ((w1.setCell ⟨w.heap.size, 0, none⟩ v0).setCell ⟨w.heap.size, 1, none⟩ v1).cell? ⟨w.heap.size, 1, none⟩ = some v1 ∧
    ((w1.setCell ⟨w.heap.size, 0, none⟩ v0).setCell ⟨w.heap.size, 1, none⟩ v1).frozen? ⟨w.heap.size, 0, none⟩ = false ∧ ((w1.setCell ⟨w.heap.size, 0, none⟩ v0).setCell ⟨w.heap.size, 1, none⟩ v1).frozen? ⟨w.heap.size, 1, none⟩ = false := by
  obtain ⟨hc, hf⟩ := bcell hb1
  have g0 := (hc _ 0 hsz).trans hc0
  have g1 := (hc _ 1 hsz).trans hc1
  refine ⟨((hbel.trans (hb1.mono hbel.size)).setCell (Nat.le_refl _) _).setCell (Nat.le_refl _) _, ?_, ?_, ?_, ?_, ?_⟩
  · rw [World.size_setCell, World.size_setCell]; exact Nat.lt_of_lt_of_le hsz hb1.size
  · simp [go_sem, g0, g1]
  · simp [go_sem, g0, g1]
  · simp [go_sem, hf _ _ hsz, hf0]
  · simp [go_sem, hf _ _ hsz, hf1]
theorem getD_mem (zs : List Int) (k : Nat) (h : k < zs.length) : zs.getD k 0 ∈ zs := by
  have : zs.getD k 0 = zs[k] := by simp [List.getD, h]
  rw [this]; exact List.getElem_mem h
theorem sum_step (zs : List Int) (k : Nat) (h : k < zs.length) : sumI (zs.take (k + 1)) = sumI (zs.take k) + zs[k]?.getD 0 := by
  rw [take_snoc _ _ h, sumI_snoc]; rfl
theorem sum_bd (zs : List Int) (k : Nat) (h : k ≤ zs.length) (hz : ∀ x ∈ zs, I64 x) (hk : k ≤ 1000000000000) : -9223372036854775808000000000000 ≤ sumI (zs.take k) ∧ sumI (zs.take k) ≤ 9223372036854775808000000000000 := by
  have h1 := sumI_bd (zs.take k) (fun x hx => hz x (List.mem_of_mem_take hx))
  have h2 : (zs.take k).length = k := by simp; omega
  rw [h2] at h1
  omega
set_option maxHeartbeats 1000000 in
theorem total_any (b off len cap : Nat) (zs : List Int) (w : World) (hl : len ≤ zs.length) (hm : len ≤ 1000000000000) (hb : b < w.heap.size)
    (hc : ∀ k, k < len → w.cell? ⟨b, off + k, none⟩ = some (.int .i64 (zs.getD k 0))) (hz : ∀ x ∈ zs, I64 x) :
    Calls Try.prog 27 #[.slice (some ⟨b, off, none⟩) len cap] w fun e w' => e = .returned (.tuple #[.int .i64 (fitV (sumI (zs.take len))), .bool (fitB (sumI (zs.take len)))]) ∧ Below w.heap.size w w' := by
  go_enter Try.func27, Try.ntmps27
  go_wp2
  go_loopw [9] (fun i wr => ∃ k : Nat, k ≤ len ∧ i = .int .i64 k ∧ Below w.heap.size w wr ∧ w.heap.size < wr.heap.size ∧ wr.cell? ⟨w.heap.size, 0, none⟩ = some (.int .i64 (hi (sumI (zs.take k)))) ∧ wr.cell? ⟨w.heap.size, 1, none⟩ = some (.int .u64 (lo (sumI (zs.take k)))) ∧ wr.frozen? ⟨w.heap.size, 0, none⟩ = false ∧ wr.frozen? ⟨w.heap.size, 1, none⟩ = false)
    (fun i _ => len - (intOf i).toNat)
  case atStart =>
    refine ⟨0, Nat.zero_le _, rfl, (Below.refl _ _).alloc (Nat.le_refl _) _, by simp, ?_, ?_, ?_, ?_⟩ <;> simp [go_sem, sumI, hi, lo]
  case round =>
    obtain ⟨k, hk, rfl, hbel, hsz, hc0, hc1, hf0, hf1⟩ := hrel
    by_cases hlt : k < len
    · have hcx : wr.cell? ⟨b, off + k, none⟩ = some (.int .i64 (zs.getD k 0)) := (hbel.cell (by exact hb)).trans (hc k hlt)
      have hv : I64 (zs.getD k 0) := hz _ (getD_mem zs k (by omega))
      have hs := sum_bd zs k (by omega) hz (by omega)
      have hv2 : -9223372036854775808 ≤ zs.getD k 0 ∧ zs.getD k 0 ≤ 9223372036854775807 := hv
      have HS : Hid (sumI (zs.take (k + 1)) = sumI (zs.take k) + zs[k]?.getD 0) := sum_step zs k (by omega)
      go_wp2_with (go_at_call 69; refine (plus_any _ _ _ hv (by omega) (by omega)).mono ?_; rintro e w1 ⟨rfl, hb1⟩; obtain ⟨hc', hf'⟩ := bcell hb1)
      go_roundw
      case rel =>
        refine ⟨k + 1, by omega, by go_num, ?_⟩
        rw [HS.out]
        exact two_store hbel hsz hc0 hc1 hf0 hf1 hb1
      case measure => simp [intOf]; omega
    · go_wp2_with (go_at_call 70; refine (narrow_any _ _).mono ?_; rintro e w2 ⟨rfl, hb2⟩)
      go_ret2
      have : k = len := by omega
      subst this
      exact ⟨rfl, bt hbel hb2⟩

end Go.Proofs.Ytjkkajhjcinalaa.calc

namespace Go.Proofs.Ytjkkajhjcinalaa
open Go.ChangeShapes Go.WideShapes Go.ChangeAt Go.RowKit
set_option linter.unusedVariables false
set_option linter.unusedSimpArgs false
set_option maxRecDepth 100000

theorem box_three {w : World} {D : Nat} {t : TypeId} {a b c : Value} (hD : w.heap[D]? = some (.cells #[a, b, c] t)) : w.cell? ⟨D, 0, none⟩ = some a ∧ w.cell? ⟨D, 1, none⟩ = some b ∧ w.cell? ⟨D, 2, none⟩ = some c := by
  refine ⟨?_, ?_, ?_⟩ <;> simp [World.cell?, hD]
theorem mask22 (n : Int) : bits .and .i64 n 4194303 = n % 4194304 := by
  have h127 : (BitVec.ofInt 64 4194303).toNat = 2 ^ 22 - 1 := by decide
  have key : (BitVec.ofInt 64 n &&& BitVec.ofInt 64 4194303).toNat = (n % ((2 ^ 64 : Nat) : Int)).toNat % 2 ^ 22 := by
    rw [BitVec.toNat_and, BitVec.toNat_ofInt, h127, Nat.and_two_pow_sub_one_eq_mod]
  show IntKind.i64.wrap ((BitVec.ofInt 64 n &&& BitVec.ofInt 64 4194303).toNat : Nat) = n % 4194304
  rw [key, IntKind.wrap_i64]
  omega
set_option maxHeartbeats 1000000 in
theorem pplus_raw (h m lo v n A B C P Q R : Int) (w : World) (hA : v / 17592186044416 = A) (hB : v / 4194304 % 4194304 = B) (hC : v % 4194304 = C) (hP : A * n = P) (hQ : B * n = Q) (hR : C * n = R)
    (h1 : -9223372036854775808 ≤ P) (h2 : P ≤ 9223372036854775807) (h3 : -9223372036854775808 ≤ Q) (h4 : Q ≤ 9223372036854775807) (h5 : -9223372036854775808 ≤ R) (h6 : R ≤ 9223372036854775807) (h7 : -9223372036854775808 ≤ h + P) (h8 : h + P ≤ 9223372036854775807) (h9 : -9223372036854775808 ≤ m + Q) (g0 : m + Q ≤ 9223372036854775807) (g1 : -9223372036854775808 ≤ lo + R) (g2 : lo + R ≤ 9223372036854775807) :
    Calls Try.prog 123 #[.agg #[.int .i64 h, .int .i64 m, .int .i64 lo], .int .i64 v, .int .i64 n] w fun e w' => e = .returned (.agg #[.int .i64 (h + P), .int .i64 (m + Q), .int .i64 (lo + R)]) ∧ Below w.heap.size w w' := by
  have mk := mask22
  go_enter Try.func123, Try.ntmps123
  go_wp2
  exact bodyPost_ret (v := .agg #[.int .i64 (h + P), .int .i64 (m + Q), .int .i64 (lo + R)]) (by simp [results, Try.results123, go_sem]) rfl ⟨rfl, ((Below.refl _ _).alloc (Nat.le_refl _) _).alloc (by simp) _⟩
/-- The sums of the three parts. -/
def hS : List Rn → Int | [] => 0 | r :: l => r.1 / 17592186044416 * r.2 + hS l
def mS : List Rn → Int | [] => 0 | r :: l => r.1 / 4194304 % 4194304 * r.2 + mS l
def lS : List Rn → Int | [] => 0 | r :: l => r.1 % 4194304 * r.2 + lS l
theorem hS_app (l m : List Rn) : hS (l ++ m) = hS l + hS m := by
  induction l with
  | nil => simp [hS]
  | cons r l ih => simp only [List.cons_append, hS, ih]; omega
theorem mS_app (l m : List Rn) : mS (l ++ m) = mS l + mS m := by
  induction l with
  | nil => simp [mS]
  | cons r l ih => simp only [List.cons_append, mS, ih]; omega
theorem lS_app (l m : List Rn) : lS (l ++ m) = lS l + lS m := by
  induction l with
  | nil => simp [lS]
  | cons r l ih => simp only [List.cons_append, lS, ih]; omega
theorem mul_le {a b c d n : Int} (ha : a ≤ b) (hb : b ≤ c) (hn : 0 ≤ n) : a * n ≤ b * n ∧ b * n ≤ c * n := ⟨Int.mul_le_mul_of_nonneg_right ha hn, Int.mul_le_mul_of_nonneg_right hb hn⟩
theorem part_bd {v n : Int} (hv : I64 v) (hn : 0 ≤ n) : -524288 * n ≤ v / 17592186044416 * n ∧ v / 17592186044416 * n ≤ 524288 * n ∧ 0 ≤ v / 4194304 % 4194304 * n ∧ v / 4194304 % 4194304 * n ≤ 4194304 * n ∧ 0 ≤ v % 4194304 * n ∧ v % 4194304 * n ≤ 4194304 * n ∧ v * n = v / 17592186044416 * n * 17592186044416 + v / 4194304 % 4194304 * n * 4194304 + v % 4194304 * n := by
  obtain ⟨h1, h2⟩ := hv
  have a1 : -524288 ≤ v / 17592186044416 := by omega
  have a2 : v / 17592186044416 ≤ 524288 := by omega
  have b1 : 0 ≤ v / 4194304 % 4194304 := by omega
  have b2 : v / 4194304 % 4194304 ≤ 4194304 := by omega
  have c1 : 0 ≤ v % 4194304 := by omega
  have c2 : v % 4194304 ≤ 4194304 := by omega
  have e : v = v / 17592186044416 * 17592186044416 + v / 4194304 % 4194304 * 4194304 + v % 4194304 := by omega
  obtain ⟨p1, p2⟩ := mul_le (d := 0) a1 a2 hn
  obtain ⟨q1, q2⟩ := mul_le (d := 0) b1 b2 hn
  obtain ⟨r1, r2⟩ := mul_le (d := 0) c1 c2 hn
  refine ⟨p1, p2, by omega, q2, by omega, r2, ?_⟩
  generalize v / 17592186044416 = A at e ⊢
  generalize v / 4194304 % 4194304 = B at e ⊢
  generalize v % 4194304 = C at e ⊢
  subst e
  rw [Int.add_mul, Int.add_mul, Int.mul_right_comm A, Int.mul_right_comm B]
theorem sum_bds {l : List Rn} (hv : ∀ r ∈ l, I64 r.1) (hp : Pos l) : -524288 * tot l ≤ hS l ∧ hS l ≤ 524288 * tot l ∧ 0 ≤ mS l ∧ mS l ≤ 4194304 * tot l ∧ 0 ≤ lS l ∧ lS l ≤ 4194304 * tot l ∧ wsum l = hS l * 17592186044416 + mS l * 4194304 + lS l := by
  induction l with
  | nil => simp [hS, mS, lS, tot, wsum]
  | cons r l ih =>
    have h1 := ih (fun q hq => hv q (by simp [hq])) (fun q hq => hp q (by simp [hq]))
    have h2 := part_bd (hv r (by simp)) (n := r.2) (by have := hp r (by simp); omega)
    simp only [hS, mS, lS, tot, wsum]
    omega
theorem narrow_fit {h m lo : Int} (h1 : -1152921504606846976 ≤ h) (h2 : h ≤ 1152921504606846976) (m1 : -4611686018427387904 ≤ m) (m2 : m ≤ 4611686018427387904) (l1 : -4611686018427387904 ≤ lo) (l2 : lo ≤ 4611686018427387904) {M H r1 r2 : Int} (hM : m + lo / 4194304 = M) (hH : h + M / 4194304 = H) (hr1 : M % 4194304 = r1) (hr2 : lo % 4194304 = r2) :
    h * 17592186044416 + m * 4194304 + lo = H * 17592186044416 + (r1 * 4194304 + r2) ∧ 0 ≤ r1 * 4194304 + r2 ∧ r1 * 4194304 + r2 < 17592186044416 := by omega
set_option maxHeartbeats 1000000 in
theorem narrow_m (h m lo : Int) (w : World) (h1 : -1152921504606846976 ≤ h) (h2 : h ≤ 1152921504606846976) (m1 : -4611686018427387904 ≤ m) (m2 : m ≤ 4611686018427387904) (l1 : -4611686018427387904 ≤ lo) (l2 : lo ≤ 4611686018427387904) :
    Calls Try.prog 124 #[.agg #[.int .i64 h, .int .i64 m, .int .i64 lo]] w fun e w' => e = .returned (.tuple #[.int .i64 (calc.fitV (h * 17592186044416 + m * 4194304 + lo)), .bool (calc.fitB (h * 17592186044416 + m * 4194304 + lo))]) ∧ Below w.heap.size w w' := by
  have mk := mask22
  obtain ⟨L, hL⟩ : ∃ x, lo / 4194304 = x := ⟨_, rfl⟩
  obtain ⟨M, hM⟩ : ∃ x, m + L = x := ⟨_, rfl⟩
  obtain ⟨K, hK⟩ : ∃ x, M / 4194304 = x := ⟨_, rfl⟩
  obtain ⟨H, hH⟩ : ∃ x, h + K = x := ⟨_, rfl⟩
  obtain ⟨r1, hr1⟩ : ∃ x, M % 4194304 = x := ⟨_, rfl⟩
  obtain ⟨r2, hr2⟩ : ∃ x, lo % 4194304 = x := ⟨_, rfl⟩
  obtain ⟨s1, hs1⟩ : ∃ x, r1 * 4194304 = x := ⟨_, rfl⟩
  obtain ⟨r, hr⟩ : ∃ x, s1 + r2 = x := ⟨_, rfl⟩
  obtain ⟨P, hP⟩ : ∃ x, H * 17592186044416 = x := ⟨_, rfl⟩
  have hf := narrow_fit h1 h2 m1 m2 l1 l2 (M := M) (H := H) (r1 := r1) (r2 := r2) (by rw [hL, hM]) (by rw [hK, hH]) hr1 hr2
  rw [hs1, hr, hP] at hf
  have b1 : -1099511627776 ≤ L ∧ L ≤ 1099511627776 := by omega
  have b2 : -4611687117939015680 ≤ M ∧ M ≤ 4611687117939015680 := by omega
  have b3 : -1099511889921 ≤ K ∧ K ≤ 1099511889920 := by omega
  have b4 : -1152922604118736897 ≤ H ∧ H ≤ 1152922604118736896 := by omega
  have b5 : 0 ≤ s1 ∧ s1 ≤ 17592181850112 := by omega
  have b6 : 0 ≤ r ∧ r ≤ 17592186044415 := by omega
  obtain ⟨b1a, b1b⟩ := b1
  obtain ⟨b2a, b2b⟩ := b2
  obtain ⟨b3a, b3b⟩ := b3
  obtain ⟨b4a, b4b⟩ := b4
  obtain ⟨b5a, b5b⟩ := b5
  obtain ⟨b6a, b6b⟩ := b6
  have b7 : 0 ≤ r1 := by omega
  have b8 : r1 ≤ 4194303 := by omega
  have b9 : 0 ≤ r2 := by omega
  have b10 : r2 ≤ 4194303 := by omega
  have HF := hid hf
  have HH : Hid (I64 H) := hid (by unfold I64; omega)
  have HR : Hid (I64 r) := hid (by unfold I64; omega)
  have HP := hid hP
  have H44 : Hid (I64 17592186044416) := hid (by unfold I64; decide)
  obtain ⟨X, hX⟩ : ∃ x, h * 17592186044416 + m * 4194304 + lo = x := ⟨_, rfl⟩
  rw [hX] at hf HF ⊢
  clear hX
  by_cases hfit : -9223372036854775808 ≤ P ∧ P ≤ 9223372036854775807
  · have HFP := hid (calc.fit_yes hfit)
    have HPI : Hid (I64 P) := hid hfit
    have C2 : Hid ((w.alloc (.cells #[.int .i64 h, .int .i64 m, .int .i64 lo] 192)).cell? ⟨w.heap.size, 2, none⟩ = some (.int .i64 lo)) := hid (box_three (heap_alloc_new w _)).2.2
    clear hfit hf hP
    go_enter Try.func124, Try.ntmps124
    go_wp2_with (first
      | (go_at_call 142; refine (calc.mul_any H 17592186044416 _ HH.out H44.out).mono ?_; rintro e w1 ⟨rfl, hb1⟩; rw [HP.out, HFP.out.1, HFP.out.2]; have B1 := hid (bt (b1alloc _ _) hb1); have c2 := ((bcell hb1).1 w.heap.size 2 (by simp)).trans C2.out; clear hb1)
      | (go_at_call 65; refine (calc.add_any P r _ HPI.out HR.out).mono ?_; rintro e w2 ⟨rfl, rfl⟩))
    go_ret2
    exact ⟨by rw [HF.out.1]; rfl, B1.out⟩
  · have HFP := hid (calc.fit_no hfit)
    have HNX : Hid (¬ (-9223372036854775808 ≤ X ∧ X ≤ 9223372036854775807)) := hid (by rw [← hP] at hfit hf; omega)
    clear hfit hf hP
    go_enter Try.func124, Try.ntmps124
    go_wp2_with (first
      | (go_at_call 142; refine (calc.mul_any H 17592186044416 _ HH.out H44.out).mono ?_; rintro e w1 ⟨rfl, hb1⟩; rw [HP.out, HFP.out.1, HFP.out.2]; have B1 := hid (bt (b1alloc _ _) hb1); clear hb1))
    go_ret2
    exact ⟨calc.ret_fit_no HNX.out, B1.out⟩

end Go.Proofs.Ytjkkajhjcinalaa

namespace Go.Proofs.Ytjkkajhjcinalaa
open Go.ChangeShapes Go.WideShapes Go.ChangeAt Go.RowKit
set_option linter.unusedVariables false
set_option linter.unusedSimpArgs false
set_option maxRecDepth 100000

def ncs (r : Rn) : List Value := [.int .i64 r.1, .int .i64 r.2]
def nok (r : Rn) : Prop := I64 r.1 ∧ I64 r.2
/-- A slice of runs, in a world. -/
def NRun (w : World) (a : Option Addr) (n c : Nat) (l : List Rn) : Prop :=
  n = l.length ∧ n ≤ c ∧ c ≤ maxLen ∧ (a = none → c = 0) ∧ (0 < n → ∃ b off, a = some ⟨b, off, none⟩ ∧ b < w.heap.size ∧ ∀ j r, l[j]? = some r → ∀ i v, (ncs r)[i]? = some v → w.cell? ⟨b, off + j * 2 + i, none⟩ = some v)
theorem NRun.below {w w' : World} {a : Option Addr} {n c : Nat} {l : List Rn} (h : NRun w a n c l) (hb : Below w.heap.size w w') : NRun w' a n c l := by
  obtain ⟨h1, h2, h3, h4, h5⟩ := h
  refine ⟨h1, h2, h3, h4, fun h0 => ?_⟩
  obtain ⟨b, off, e, hlt, hl⟩ := h5 h0
  exact ⟨b, off, e, Nat.lt_of_lt_of_le hlt hb.size, fun j r hj i v hi => ((bcell hb).1 b _ hlt).trans (hl j r hj i v hi)⟩
theorem nrun_nil (w : World) : NRun w none 0 0 [] := ⟨rfl, Nat.le_refl _, by decide, fun _ => rfl, fun h => by cases h⟩
theorem NRun.lens {w : World} {a : Option Addr} {n c : Nat} {l : List Rn} (h : NRun w a n c l) : n = l.length ∧ n ≤ 9223372036854775807 := by
  obtain ⟨h1, h2, h3, _⟩ := h
  unfold maxLen at h3
  exact ⟨h1, by omega⟩
/-- One run of it, read. -/
theorem NRun.pick {w w' : World} {a : Option Addr} {n c : Nat} {l : List Rn} (h : NRun w a n c l) (hb : Below w.heap.size w w') {k : Nat} (hk : k < n) :
    ∃ b off x0 x1, a = some ⟨b, off, none⟩ ∧ b < w.heap.size ∧ l[k]? = some (x0, x1) ∧ w'.cell? ⟨b, off + k * 2, none⟩ = some (.int .i64 x0) ∧ w'.cell? ⟨b, off + k * 2 + 1, none⟩ = some (.int .i64 x1) := by
  obtain ⟨h1, h2, h3, h4, h5⟩ := h.below hb
  obtain ⟨h1', _, _, _, h5'⟩ := h
  obtain ⟨b, off, e, hlt, hl⟩ := h5 (by omega)
  obtain ⟨b', off', e', hlt', _⟩ := h5' (by omega)
  rw [e] at e'
  cases e'
  obtain ⟨r, hr⟩ : ∃ r, l[k]? = some r := ⟨l[k]'(by omega), List.getElem?_eq_getElem (by omega)⟩
  obtain ⟨x0, x1⟩ := r
  have := hl k _ hr
  exact ⟨b, off, x0, x1, e, hlt', hr, this 0 _ rfl, this 1 _ rfl⟩
def ncells : List Rn → List Value
  | [] => []
  | r :: l => ncs r ++ ncells l
theorem ncs_len (r : Rn) : (ncs r).length = 2 := rfl
theorem ncells_len (l : List Rn) : (ncells l).length = l.length * 2 := by
  induction l with
  | nil => rfl
  | cons r l ih => simp only [ncells, List.length_append, ncs_len, List.length_cons, ih]; omega
theorem ncells_app (l m : List Rn) : ncells (l ++ m) = ncells l ++ ncells m := by
  induction l with
  | nil => rfl
  | cons r l ih => simp [ncells, ih]
theorem ncells_get {l : List Rn} {j : Nat} {r : Rn} (h : l[j]? = some r) {i : Nat} {v : Value} (hi : (ncs r)[i]? = some v) : (ncells l)[j * 2 + i]? = some v := by
  have hi6 : i < 2 := by have := (List.getElem?_eq_some_iff.1 hi).1; rw [ncs_len] at this; exact this
  induction l generalizing j with
  | nil => simp at h
  | cons q l ih =>
    cases j with
    | zero =>
      simp at h; subst h
      rw [ncells, List.getElem?_append_left (by rw [ncs_len]; omega), Nat.zero_mul, Nat.zero_add]; exact hi
    | succ j =>
      rw [ncells, List.getElem?_append_right (by rw [ncs_len]; omega), ncs_len, show (j + 1) * 2 + i - 2 = j * 2 + i by omega]
      exact ih (by simpa using h)
theorem info_nr : (Try.prog.info? 65).map (fun i => (i.zero, i.size, i.bytes)) = some (some (.agg #[.int .i64 0, .int .i64 0]), 2, 16) := by kernel_rfl
/-- A row of runs of one's own, nil or not. -/
abbrev OwnN (w : World) (base : Nat) (v : Value) (l : List Rn) : Prop := w.ownsRow base 65 2 v l.length (ncells l)
theorem own_nrun {w : World} {base g n cap : Nat} {l : List Rn} (h : w.ownsRow base 65 2 (.slice (some ⟨g, 0, none⟩) n cap) n (ncells l)) : NRun w (some ⟨g, 0, none⟩) n cap l := by
  have hn : n = l.length := by have := h.1; rw [ncells_len] at this; omega
  have hlt := (h.lt g rfl).2
  rcases h.2 with ⟨h', _⟩ | ⟨g', cap', cur, h', _, hg, hnc, hm, hcs, htake⟩
  · cases h'
  · cases h'
    refine ⟨hn, hnc, hm, (fun e => by cases e), fun _ => ⟨g, 0, rfl, hlt, fun j r hj i v hi => ?_⟩⟩
    have := h.cells (g := g) rfl (j * 2 + i) _ (ncells_get hj hi)
    rw [add_at] at this
    rw [Nat.add_assoc]; exact this
theorem nown_form {w : World} {base n : Nat} {v : Value} {xs : List Value} (h : w.ownsRow base 65 2 v n xs) (hne : ¬ v = .slice none 0 0) : ∃ g cap, v = .slice (some ⟨g, 0, none⟩) n cap := by
  rcases h.2 with ⟨h', _⟩ | ⟨g, cap, cur, h', _⟩
  · exact absurd h' hne
  · exact ⟨g, cap, h'⟩
/-- .. as the slice that it is. -/
theorem own_any {w : World} {base : Nat} {v : Value} {l : List Rn} (h : OwnN w base v l) : ∃ a cap, v = .slice a l.length cap ∧ NRun w a l.length cap l := by
  rcases h.2 with ⟨h', hn⟩ | ⟨g, cap, cur, h', _⟩
  · have hl : l = [] := List.length_eq_zero_iff.mp hn
    subst hl
    exact ⟨none, 0, h', nrun_nil w⟩
  · subst h'
    exact ⟨_, cap, rfl, own_nrun h⟩
theorem own_nil (w : World) (base : Nat) : OwnN w base (.slice none 0 0) [] := ⟨rfl, .inl ⟨rfl, rfl⟩⟩
/-- One run more behind a row of one's own, nil or not: the run lies in a new block. -/
theorem append_run {w : World} {ops : Array Oper} {rest : List Oper} {o : Oper} {a : Act} {Q : Exit → Act → World → Prop} (hgd : o.guard = none) (s x : Operand)
    (ho : o.op = .call { callee := .builtin .append, args := #[s, x], argTypes := #[23, 23] }) (base : Nat) (v : Value) (xs : List Rn) (N : Nat) (p q : Int)
    (hs : a.eval s = v) (hown : OwnN w base v xs) (hx : a.eval x = .slice (some ⟨N, 0, none⟩) 1 1) (hN : w.heap[N]? = some (.cells #[.int .i64 p, .int .i64 q] 65)) (hn : xs.length ≤ 10000000000) (hbase : base ≤ w.heap.size)
    (h : ∀ v' w', OwnN w' base v' (xs ++ [(p, q)]) → w.grownBy w' v.ownBlock → wpList Try.prog ops Q rest (a.put o.dst v') w') : wpList Try.prog ops Q (o :: rest) a w := by
  obtain ⟨i0, hi, hz0, hz1, hz2⟩ := info_parts info_nr
  refine wpList_append_own w hgd s x 23 ho base 65 i0 _ 2 16 Try.underlying23 hi hz0 hz1 hz2 rfl (by decide) v xs.length (ncells xs) hs hown ⟨N, 0, none⟩ 1 1 [.int .i64 p, .int .i64 q] hx rfl ?_ ?_ (by unfold maxLen; omega) (by omega) hbase ?_
  · intro j u hu
    obtain ⟨c0, c1⟩ := box_two hN
    match j, hu with
    | 0, hu => simp at hu; subst hu; exact c0
    | 1, hu => simp at hu; subst hu; exact c1
  · intro u hu
    simp at hu
    rcases hu with rfl | rfl <;> rfl
  intro v' w' hown' hgrow' hiff
  refine h v' w' ?_ hgrow'
  have e1 : ncells xs ++ [.int .i64 p, .int .i64 q] = ncells (xs ++ [(p, q)]) := by rw [ncells_app]; rfl
  rw [e1] at hown'
  unfold OwnN
  rw [List.length_append]
  exact hown'
/-- The first so many of a slice of runs; the rest. -/
theorem restN {w : World} {a : Option Addr} {n c : Nat} {l : List Rn} (h : NRun w a n c l) (k : Nat) (hk : k ≤ n) :
    ∃ A, (∀ w', (Instr.slice 23 (.slice a n c) (some (.int .i64 k)) none none).run Try.prog w' = .ok (.slice A (n - k) (c - k)) w') ∧ NRun w A (n - k) (c - k) (l.drop k) := by
  obtain ⟨h1, h2, h3, h4, h5⟩ := h
  refine ⟨if c = k then a else a.map (·.add (k * 2)), fun w' => ?_, ?_⟩
  · rw [run_slice_l w' 23 a n c Try.underlying23 .i64 k (by omega) (by omega)]
    have hs : (sizeOf (Try.prog.elem 23)).run Try.prog w' = .ok 2 w' := Try.sizeOf65 w'
    rw [hs]
    simp [Result.andThen, sliced]
  · refine ⟨by rw [List.length_drop]; omega, by omega, by omega, ?_, fun h0 => ?_⟩
    · intro e
      by_cases hck : c = k
      · omega
      · rw [if_neg hck] at e
        cases a with
        | none => have := h4 rfl; omega
        | some ad => cases e
    · obtain ⟨b, off, rfl, hb, hl⟩ := h5 (by omega)
      have hck : ¬ c = k := by omega
      rw [if_neg hck]
      refine ⟨b, off + k * 2, ?_, hb, fun j r hj i v hi => ?_⟩
      · simp only [Option.map_some, add_at]
      · rw [List.getElem?_drop] at hj
        have := hl (k + j) r hj i v hi
        rw [show off + (k + j) * 2 + i = off + k * 2 + j * 2 + i by omega] at this
        exact this
/-- The same runs, from a block of one's own that nothing else writes into. -/
theorem NRun.grown {w w' : World} {a : Option Addr} {n c G : Nat} {l : List Rn} (h : NRun w a n c l) (hg : w.grownBy w' (some G)) (hne : ∀ b off, a = some ⟨b, off, none⟩ → ¬ b = G) : NRun w' a n c l := by
  obtain ⟨h1, h2, h3, h4, h5⟩ := h
  refine ⟨h1, h2, h3, h4, fun h0 => ?_⟩
  obtain ⟨b, off, e, hlt, hl⟩ := h5 h0
  exact ⟨b, off, e, Nat.lt_of_lt_of_le hlt hg.size, fun j r hj i v hi => (grown_cell hg hlt (fun e' => hne b off e (by cases e'; rfl))).trans (hl j r hj i v hi)⟩
theorem eqN (a b x y : Int) (w : World) (n : Nat) : (Op.equalIn (n + 2) 65 (.agg #[.int .i64 a, .int .i64 b]) (.agg #[.int .i64 x, .int .i64 y])).run Try.prog w = .ok (a == x && b == y) w := by
  have u3 := Try.underlying2
  have a3 := Try.isAgg2
  have z3 := Try.sizeOf2
  rw [show n + 2 = (n + 1) + 1 from rfl, Op.equalIn]
  simp only [Sem.run_bind, run_underlying Try.underlying65, Result.andThen_ok]
  have hs : Try.prog.stoodInHeld 65 = false := by kernel_rfl
  have hp : Sem.run Try.prog program w = .ok Try.prog w := rfl
  simp only [hp, Result.andThen_ok, hs, Bool.false_eq_true, if_false, Sem.run_bind]
  simp only [← Array.forIn_toList, List.forIn_cons, List.forIn_nil]
  go_simp
  by_cases h1 : a = x <;> by_cases h2 : b = y <;> simp [h1, h2]
def qn (a b x y : Int) : Bool := a == x && b == y
theorem qn_iff {a b x y : Int} : qn a b x y = true ↔ a = x ∧ b = y := by unfold qn; simp
theorem eqN2 (a b x y : Int) (w : World) : (Op.equalIn 10000 65 (.agg #[.int .i64 a, .int .i64 b]) (.agg #[.int .i64 x, .int .i64 y])).run Try.prog w = .ok (qn a b x y) w := eqN a b x y w 9998

end Go.Proofs.Ytjkkajhjcinalaa

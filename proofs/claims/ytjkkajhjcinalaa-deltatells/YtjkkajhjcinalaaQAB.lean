/-
  -
  -
  -
  -
  -
  -
  -
  Conditions: as each theorem states them.
-/
import Derived.Deep.RegionHeld
import Derived.OrdersHeld
import Derived.WalkKit
import Derived.WalkSpells
import Derived.Laws.Externs
import Derived.Below
import Derived.OwnWalk
import Derived.ProofKit
import Derived.OpenShut
import Derived.Deep.DeepAppendRoom
import Derived.Deep.AppendLies
import Derived.Laws.AppendOwnNone
import Derived.Deep.RegionHeld3
import Derived.Deep.Matrix
import Derived.Shelf.Spec.BitsCarry
import Derived.Lib.Mul64
import Derived.Laws.Bits64b
import Derived.WalkSmall
import Derived.Deep.QuietTactic
import Derived.BigQuiet
import Derived.Laws.Rows
import Derived.Laws.OwnMore
import Derived.Deep.MidRow
import Derived.Deep.LoopGhost
import Derived.Deep.Slices
import Derived.Deep.Cut
import Derived.Deep.DeepCutAuto
import Derived.Test.YtjkkajhjcinalaaRows
namespace Go.Proofs.Ytjkkajhjcinalaa
open Go.ChangeShapes Go.WideShapes Go.ChangeAt Go.RowKit
set_option linter.unusedVariables false
set_option linter.unusedSimpArgs false
set_option maxRecDepth 100000

theorem tk {P : Program} {ops : Array Oper} {Q : Exit → Act → World → Prop} {md : Region.Mode} {S : World → Prop} (i : Nat) {oi : Oper} {v : Value} {fuel : Nat} {listed : Array Bool} {a : Act} {w : World}
    (hv : ∀ w, S w → (execOp a.eval oi).run P w = .ok (.value v) w) (h : wpAnyH P md ops Q S fuel (listed.setIfInBounds i true) (a.put oi.dst v) w)
    (hi : ops[i]? = some oi := by simp only [List.getElem?_toArray, List.getElem?_cons_succ, List.getElem?_cons_zero]; exact rfl) (hs : Region.noSelect ops = true := by kernel_rfl) (hf : Region.free md ops listed i = true := by kernel_rfl) (hr : (Region.ready md ops listed).contains i = true := by kernel_rfl)
    (hQ : ∀ c a w, Q (.panic c) (a.put oi.dst v) w → Q (.panic c) a w := by exact fun _ _ _ h => h) (hy : Region.wanted oi (yielded ops a.tmps) = true := by rfl) (hS : S w := by assumption) : wpAnyH P md ops Q S (fuel + 1) listed a w :=
  wpAnyH_take hi hs hf hr hQ (Or.inl ⟨hy, hv⟩) hS h
theorem tks {P : Program} {ops : Array Oper} {Q : Exit → Act → World → Prop} {md : Region.Mode} {S : World → Prop} (i : Nat) {oi : Oper} {fuel : Nat} {listed : Array Bool} {a : Act} {w : World}
    (h : wpAnyH P md ops Q S fuel (listed.setIfInBounds i true) (a.put oi.dst undef) w)
    (hi : ops[i]? = some oi := by simp only [List.getElem?_toArray, List.getElem?_cons_succ, List.getElem?_cons_zero]; exact rfl) (hs : Region.noSelect ops = true := by kernel_rfl) (hf : Region.free md ops listed i = true := by kernel_rfl) (hr : (Region.ready md ops listed).contains i = true := by kernel_rfl)
    (hQ : ∀ c a w, Q (.panic c) (a.put oi.dst undef) w → Q (.panic c) a w := by exact fun _ _ _ h => h) (hy : Region.wanted oi (yielded ops a.tmps) = false := by rfl) (hS : S w := by assumption) : wpAnyH P md ops Q S (fuel + 1) listed a w :=
  wpAnyH_take hi hs hf hr hQ (Or.inr ⟨hy, rfl⟩) hS h
theorem rdc {P : Program} {ops : Array Oper} {Q : Exit → Act → World → Prop} {md : Region.Mode} {S : World → Prop} {fuel : Nat} {listed : Array Bool} {a : Act} {w : World} {i : Nat} {o : Oper} {rs : List Nat}
    (h : ∀ K' : Act → World → Prop, Shut (∀ a w, S w → (S w → wpAnyH P md ops Q S fuel (listed.setIfInBounds i true) a w) → K' a w) → if Region.wanted o (yielded ops a.tmps) = true then Oper.wp P o a w K' Q else K' (a.put o.dst undef) w)
    (hs : AllReadyH P md ops Q S fuel listed a w rs) (ho : ops[i]? = some o := by simp only [List.getElem?_toArray, List.getElem?_cons_succ, List.getElem?_cons_zero]; exact rfl) : AllReadyH P md ops Q S fuel listed a w (i :: rs) := AllReadyH.cons ho h hs
theorem rd1 {P : Program} {ops : Array Oper} {Q : Exit → Act → World → Prop} {md : Region.Mode} {S : World → Prop} {fuel : Nat} {listed : Array Bool} {a : Act} {w : World} (i : Nat) {o : Oper}
    (h : ∀ K' : Act → World → Prop, Shut (∀ a w, S w → (S w → wpAnyH P md ops Q S fuel (listed.setIfInBounds i true) a w) → K' a w) → if Region.wanted o (yielded ops a.tmps) = true then Oper.wp P o a w K' Q else K' (a.put o.dst undef) w)
    (ho : ops[i]? = some o := by simp only [List.getElem?_toArray, List.getElem?_cons_succ, List.getElem?_cons_zero]; exact rfl) (hr : Region.ready md ops listed = [i] := by kernel_rfl) : wpAnyH P md ops Q S (fuel + 1) listed a w := wpAnyH_ready hr (by simp) (AllReadyH.cons ho h AllReadyH.nil)


/-! Numbers. -/
def I64 (x : Int) : Prop := -9223372036854775808 ≤ x ∧ x ≤ 9223372036854775807
def U8 (x : Int) : Prop := 0 ≤ x ∧ x ≤ 255
theorem bounds_i64 {n : Int} (h : (Lit.int .i64 n).wf = true) : I64 n := by
  unfold I64; simp [Lit.wf, IntKind.min, IntKind.max, IntKind.signed, IntKind.bits] at h; omega
theorem bounds_u8 {n : Int} (h : (Lit.int .u8 n).wf = true) : U8 n := by
  unfold U8; simp [Lit.wf, IntKind.min, IntKind.max, IntKind.signed, IntKind.bits] at h; omega
theorem ret_int {k : IntKind} {a b : Int} (h : a = b) : Ending.returned (.int k a) = .returned (.int k b) := by rw [h]
theorem ret_bool {a b : Bool} (h : a = b) : Ending.returned (.bool a) = .returned (.bool b) := by rw [h]

/-! Worlds that grow. -/
theorem bt {a b c : World} (h : Below a.heap.size a b) (k : Below b.heap.size b c) : Below a.heap.size a c := h.trans (k.mono h.size)
theorem bcell {W w1 : World} (hb : Below W.heap.size W w1) : (∀ b o, b < W.heap.size → w1.cell? ⟨b, o, none⟩ = W.cell? ⟨b, o, none⟩) ∧ (∀ b o, b < W.heap.size → w1.frozen? ⟨b, o, none⟩ = W.frozen? ⟨b, o, none⟩) :=
  ⟨fun b o h => hb.cell (p := ⟨b, o, none⟩) h, fun b o h => hb.frozen (p := ⟨b, o, none⟩) h⟩
theorem undrew {B : Nat} {a w : World} (h : Below B a.drew w) : Below B a w := ⟨h.os, h.tape, h.output, h.size, h.block⟩
theorem grown_cell {w w' : World} {row : Option Nat} (h : w.grownBy w' row) {b o : Nat} (hb : b < w.heap.size) (hr : row ≠ some b) : w'.cell? ⟨b, o, none⟩ = w.cell? ⟨b, o, none⟩ :=
  World.cell?_of_block (w := w) (a := ⟨b, o, none⟩) (h.block b hb (fun e => hr e.symm))

/-! Integers in a row. -/
def vals (k : IntKind) (l : List Int) : List Value := l.map (Value.int k)
theorem vals_one (k : IntKind) (l : List Int) : ∀ u ∈ vals k l, u.oneCell' = true := by
  intro u hu
  obtain ⟨x, _, rfl⟩ := List.mem_map.mp hu
  rfl
theorem vals_len (k : IntKind) (l : List Int) : (vals k l).length = l.length * 1 := by simp [vals]
theorem vals_app (k : IntKind) (xs ys : List Int) : vals k xs ++ vals k ys = vals k (xs ++ ys) := by simp [vals]
theorem vals_get (k : IntKind) (l : List Int) (j : Nat) (u : Value) (h : (vals k l)[j]? = some u) : j < l.length ∧ u = .int k (l.getD j 0) := by
  unfold vals at h
  rw [List.getElem?_map] at h
  cases e : l[j]? with
  | none => rw [e] at h; simp at h
  | some x =>
    rw [e] at h
    simp at h
    have : j < l.length := by
      by_cases g : j < l.length
      · exact g
      · rw [List.getElem?_eq_none (by omega)] at e; cases e
    refine ⟨this, ?_⟩
    rw [← h, List.getD_eq_getElem?_getD, e]; rfl
/-- Cells of a block, from a place on, that hold integers. -/
def Lies (k : IntKind) (w : World) (b off : Nat) (l : List Int) : Prop := ∀ j, j < l.length → w.cell? ⟨b, off + j, none⟩ = some (.int k (l.getD j 0))
theorem lies_cells {k : IntKind} {w : World} {b off : Nat} {l : List Int} (h : Lies k w b off l) : ∀ j u, (vals k l)[j]? = some u → w.cell? ((⟨b, off, none⟩ : Addr).add j) = some u := by
  intro j u hu
  obtain ⟨h1, rfl⟩ := vals_get k l j u hu
  have := h j h1
  by_cases h0 : j = 0
  · subst h0; simpa [Addr.add] using this
  · simpa [Addr.add, h0] using this
theorem lies_to {k : IntKind} {w w' : World} {g off : Nat} {l : List Int} (hb : Below w.heap.size w w') (hg : g < w.heap.size) (hl : Lies k w g off l) : g < w'.heap.size ∧ Lies k w' g off l :=
  ⟨Nat.lt_of_lt_of_le hg hb.size, fun j hj => ((bcell hb).1 g _ hg).trans (hl j hj)⟩

/-- A slice of integers, in a world. -/
def IRow (k : IntKind) (w : World) (a : Option Addr) (len cap : Nat) (l : List Int) : Prop :=
  len = l.length ∧ len ≤ cap ∧ cap ≤ maxLen ∧ (a = none → cap = 0) ∧ (0 < len → ∃ b off, a = some ⟨b, off, none⟩ ∧ b < w.heap.size ∧ Lies k w b off l)
theorem IRow.below {k : IntKind} {w w' : World} {a : Option Addr} {len cap : Nat} {l : List Int} (h : IRow k w a len cap l) (hb : Below w.heap.size w w') : IRow k w' a len cap l := by
  obtain ⟨h1, h2, h3, h5, h6⟩ := h
  refine ⟨h1, h2, h3, h5, fun h0 => ?_⟩
  obtain ⟨b, off, e, hlt, hl⟩ := h6 h0
  exact ⟨b, off, e, (lies_to hb hlt hl).1, (lies_to hb hlt hl).2⟩
theorem row_src {k : IntKind} {w : World} {ad : Addr} {m c : Nat} {ys : List Int} (h : IRow k w (some ad) m c ys) : ∀ j u, (vals k ys)[j]? = some u → w.cell? (ad.add j) = some u := by
  intro j u hu
  obtain ⟨h1, h2⟩ := vals_get k ys j u hu
  obtain ⟨r1, r2, r3, r5, r6⟩ := h
  obtain ⟨b, off, e, hlt, hl⟩ := r6 (by omega)
  cases e
  exact lies_cells hl j u hu

/-! Rows of one's own. -/
theorem owns_lies {k : IntKind} {e : TypeId} {w : World} {base g n cap : Nat} {l : List Int} (h : w.ownsRow base e 1 (.slice (some ⟨g, 0, none⟩) n cap) n (vals k l)) : n = l.length ∧ g < w.heap.size ∧ Lies k w g 0 l := by
  have e : n = l.length := by have := h.1; rw [vals_len] at this; omega
  refine ⟨e, (h.lt g rfl).2, fun j hj => ?_⟩
  rw [Nat.zero_add, h.cellAt j (by omega)]
  unfold vals
  rw [List.getElem?_map, List.getElem?_eq_getElem hj]
  simp [List.getD_eq_getElem?_getD, List.getElem?_eq_getElem hj]
theorem own_row {k : IntKind} {e : TypeId} {w : World} {base g n cap : Nat} {l : List Int} (h : w.ownsRow base e 1 (.slice (some ⟨g, 0, none⟩) n cap) n (vals k l)) : IRow k w (some ⟨g, 0, none⟩) n cap l := by
  obtain ⟨e1, h1, h2⟩ := owns_lies h
  rcases h.2 with ⟨h', _⟩ | ⟨g', cap', cur, h', _, _, hn, hm, _, _⟩
  · simp at h'
  · simp only [Value.slice.injEq, Option.some.injEq, Addr.mk.injEq, and_true, true_and] at h'
    obtain ⟨rfl, rfl⟩ := h'
    exact ⟨e1, hn, hm, (fun h => by cases h), fun _ => ⟨g, 0, rfl, h1, h2⟩⟩
theorem own_form {e : TypeId} {w : World} {base n : Nat} {v : Value} {xs : List Value} (h : w.ownsRow base e 1 v n xs) (hne : ¬ v = .slice none 0 0) : ∃ g cap, v = .slice (some ⟨g, 0, none⟩) n cap := by
  rcases h.2 with ⟨h', _⟩ | ⟨g, cap, cur, h', _⟩
  · exact absurd h' hne
  · exact ⟨g, cap, h'⟩
theorem own_some {e : TypeId} {w : World} {base n : Nat} {v : Value} {xs : List Value} (h : w.ownsRow base e 1 v n xs) (hn : 0 < n) : ∃ g cap, v = .slice (some ⟨g, 0, none⟩) n cap := by
  rcases h.2 with ⟨_, h'⟩ | ⟨g, cap, cur, h', _⟩
  · omega
  · exact ⟨g, cap, h'⟩
theorem own_ge {e : TypeId} {w : World} {base n k : Nat} {v : Value} {xs : List Value} (h : w.ownsRow base e 1 v n xs) (hk : v.ownBlock = some k) : base ≤ k := (h.lt k hk).1
theorem own_made (e : TypeId) (w : World) (base : Nat) (hb : base ≤ w.heap.size) : (w.alloc (.cells #[] e)).ownsRow base e 1 (.slice (some ⟨w.heap.size, 0, none⟩) 0 0) 0 [] :=
  World.ownsRow_made w #[] 0 hb (by decide) rfl
/-- An append of any slice of integers to a row of one's own that is not nil. -/
theorem append_row {P : Program} {t e : TypeId} {k : IntKind} {by1 : Nat} (ht : P.underlying t = some (.slice e)) (hinfo : (P.info? e).map (fun i => (i.zero, i.size, i.bytes)) = some (some (.int k 0), 1, by1)) (hby1 : by1 ≤ 8)
    {w : World} {ops : Array Oper} {rest : List Oper} {o : Oper} {a : Act} {Q : Exit → Act → World → Prop} (hgd : o.guard = none) (s x : Operand)
    (ho : o.op = .call { callee := .builtin .append, args := #[s, x], argTypes := #[t, t] }) (base g n cap : Nat) (xs : List Int)
    (hs : a.eval s = .slice (some ⟨g, 0, none⟩) n cap) (hown : w.ownsRow base e 1 (.slice (some ⟨g, 0, none⟩) n cap) n (vals k xs))
    (sa : Option Addr) (m c : Nat) (ys : List Int) (hx : a.eval x = .slice sa m c) (hr : IRow k w sa m c ys) (hn : n + m ≤ 10000000000) (hbase : base ≤ w.heap.size)
    (h : ∀ g' cap' w', w'.ownsRow base e 1 (.slice (some ⟨g', 0, none⟩) (n + m) cap') (n + m) (vals k (xs ++ ys)) → w.grownBy w' (some g) → wpList P ops Q rest (a.put o.dst (.slice (some ⟨g', 0, none⟩) (n + m) cap')) w') : wpList P ops Q (o :: rest) a w := by
  obtain ⟨i0, hi, hz0, hz1, hz2⟩ := info_parts hinfo
  cases sa with
  | none =>
    obtain ⟨r1, r2, r3, r5, r6⟩ := hr
    obtain rfl : c = 0 := r5 rfl
    obtain rfl : m = 0 := by omega
    have hy : ys = [] := List.length_eq_zero_iff.mp r1.symm
    subst hy
    refine wpList_append_own_none hgd s x t ho base e i0 1 ht hi _ n (vals k xs) hs hown hx ?_
    have := h g cap w (by simpa using hown) ⟨rfl, rfl, rfl, Nat.le_refl _, fun _ _ _ => rfl⟩
    simpa using this
  | some ad =>
    have hb : (n + m) * by1 ≤ 140737488355328 := Nat.le_trans (Nat.mul_le_mul hn hby1) (by decide)
    refine wpList_append_own w hgd s x t ho base e i0 (.int k 0) 1 by1 ht hi hz0 hz1 hz2 rfl (by decide) _ n (vals k xs) hs hown ad m c (vals k ys) hx (by rw [vals_len, hr.1]) (row_src hr) (vals_one _ _) (by unfold maxLen; omega) hb hbase ?_
    intro v' w' hown' hgrow' hiff
    obtain ⟨g', cap', rfl⟩ := own_form hown' (fun e => by have := (hiff.mp e).1; cases this)
    rw [vals_app] at hown'
    exact h g' cap' w' hown' hgrow'

/-- One integer more behind a row of one's own (nil or not): the value that is added lies in a new block. -/
theorem append_one {P : Program} {t e : TypeId} {k : IntKind} {by1 : Nat} (ht : P.underlying t = some (.slice e)) (hinfo : (P.info? e).map (fun i => (i.zero, i.size, i.bytes)) = some (some (.int k 0), 1, by1)) (hby1 : by1 ≤ 8)
    {w : World} {ops : Array Oper} {rest : List Oper} {o : Oper} {a : Act} {Q : Exit → Act → World → Prop} (hgd : o.guard = none) (s x : Operand)
    (ho : o.op = .call { callee := .builtin .append, args := #[s, x], argTypes := #[t, t] }) (base n : Nat) (v : Value) (y : Int) (xs : List Int) (N : Nat) (hN : N = w.heap.size)
    (hs : a.eval s = v) (hown : w.ownsRow base e 1 v n (vals k xs)) (hx : a.eval x = .slice (some ⟨N, 0, none⟩) 1 1) (hn : n + 1 ≤ 10000000000) (hbase : base ≤ w.heap.size)
    (h : ∀ v' w', w'.ownsRow base e 1 v' (n + 1) (vals k (xs ++ [y])) → (∃ g cap, v' = .slice (some ⟨g, 0, none⟩) (n + 1) cap) → Below base w w' → wpList P ops Q rest (a.put o.dst v') w') : wpList P ops Q (o :: rest) a (w.alloc (.cells #[.int k y] e)) := by
  obtain ⟨i0, hi, hz0, hz1, hz2⟩ := info_parts hinfo
  have hb : (n + 1) * by1 ≤ 140737488355328 := Nat.le_trans (Nat.mul_le_mul hn hby1) (by decide)
  subst hN
  refine wpList_append_own _ hgd s x t ho base e i0 (.int k 0) 1 by1 ht hi hz0 hz1 hz2 rfl (by decide) v n (vals k xs) hs (hown.alloc _) ⟨w.heap.size, 0, none⟩ 1 1 [.int k y] hx rfl (cell_one_new _ _ _) (by intro u hu; simp at hu; subst hu; rfl) (by unfold maxLen; omega) hb (by simp; omega) ?_
  intro v' w' hown' hgrow' hiff
  have e1 : vals k xs ++ [.int k y] = vals k (xs ++ [y]) := by simp [vals]
  rw [e1] at hown'
  exact h v' w' hown' (own_some hown' (by omega)) (((Below.refl _ _).alloc hbase _).grown hgrow' (by simp; omega) (fun j hj => own_ge hown hj))

/-! Parameters, opened. -/
/-! Slices of slices of integers. -/
/-- A slice of slices of integers, in a world. -/
def IRows (k : IntKind) (w : World) (a : Option Addr) (len cap : Nat) (U : List (List Int)) : Prop :=
  len = U.length ∧ len ≤ cap ∧ cap ≤ maxLen ∧ (a = none → cap = 0) ∧ (0 < len → ∃ b off, a = some ⟨b, off, none⟩ ∧ b < w.heap.size ∧ ∀ j, j < len → ∃ ra rl rc, w.cell? ⟨b, off + j, none⟩ = some (.slice ra rl rc) ∧ IRow k w ra rl rc (U.getD j []))
theorem IRows.below {k : IntKind} {w w' : World} {a : Option Addr} {len cap : Nat} {U : List (List Int)} (h : IRows k w a len cap U) (hb : Below w.heap.size w w') : IRows k w' a len cap U := by
  obtain ⟨h1, h2, h3, h5, h6⟩ := h
  refine ⟨h1, h2, h3, h5, fun h0 => ?_⟩
  obtain ⟨b, off, e, hlt, hl⟩ := h6 h0
  refine ⟨b, off, e, Nat.lt_of_lt_of_le hlt hb.size, fun j hj => ?_⟩
  obtain ⟨ra, rl, rc, hc, hr⟩ := hl j hj
  exact ⟨ra, rl, rc, ((bcell hb).1 b _ hlt).trans hc, hr.below hb⟩
end Go.Proofs.Ytjkkajhjcinalaa

namespace Go.Proofs.Ytjkkajhjcinalaa.calc
open Go.RowKit
set_option linter.unusedVariables false
set_option linter.unusedSimpArgs false
set_option maxRecDepth 100000

/-- Is a number an int64? -/
def fitB (x : Int) : Bool := decide (-9223372036854775808 ≤ x ∧ x ≤ 9223372036854775807)
/-- A number, or 0 where it is no int64. -/
def fitV (x : Int) : Int := if fitB x then x else 0
/-- A number without its sign. -/
def sz (a : Int) : Int := if a < 0 then -a else a
theorem fit_yes {x : Int} (h : -9223372036854775808 ≤ x ∧ x ≤ 9223372036854775807) : fitB x = true ∧ fitV x = x := by
  have e : fitB x = true := by unfold fitB; exact decide_eq_true h
  exact ⟨e, by unfold fitV; rw [e]; rfl⟩
theorem fit_no {x : Int} (h : ¬ (-9223372036854775808 ≤ x ∧ x ≤ 9223372036854775807)) : fitB x = false ∧ fitV x = 0 := by
  have e : fitB x = false := by unfold fitB; exact decide_eq_false h
  exact ⟨e, by unfold fitV; rw [e]; rfl⟩
theorem ret_fit_no {x : Int} (h : ¬ (-9223372036854775808 ≤ x ∧ x ≤ 9223372036854775807)) : Ending.returned (.tuple #[.int .i64 0, .bool false]) = .returned (.tuple #[.int .i64 (fitV x), .bool (fitB x)]) := by
  rw [(fit_no h).1, (fit_no h).2]
theorem ret_fit_yes {x y : Int} (h : -9223372036854775808 ≤ x ∧ x ≤ 9223372036854775807) (e : y = x) : Ending.returned (.tuple #[.int .i64 y, .bool true]) = .returned (.tuple #[.int .i64 (fitV x), .bool (fitB x)]) := by
  rw [(fit_yes h).1, (fit_yes h).2, e]
theorem add_no {a b : Int} (ha : I64 a) (hb : I64 b) (h : (!decide (wrap64 (a + b) < a) == decide (b < 0)) = true) : ¬ (-9223372036854775808 ≤ a + b ∧ a + b ≤ 9223372036854775807) := by
  obtain ⟨a1, a2⟩ := ha; obtain ⟨b1, b2⟩ := hb
  unfold wrap64 at h
  intro hf
  simp only [Bool.not_eq_true', beq_eq_false_iff_ne, ne_eq, decide_eq_decide] at h
  omega
theorem add_yes {a b : Int} (ha : I64 a) (hb : I64 b) (h : (!decide (wrap64 (a + b) < a) == decide (b < 0)) = false) : (-9223372036854775808 ≤ a + b ∧ a + b ≤ 9223372036854775807) ∧ wrap64 (a + b) = a + b := by
  obtain ⟨a1, a2⟩ := ha; obtain ⟨b1, b2⟩ := hb
  unfold wrap64 at *
  simp only [Bool.not_eq_false', beq_iff_eq, decide_eq_decide] at h
  omega
set_option maxHeartbeats 400000 in
theorem add_any (a b : Int) (w : World) (ha : I64 a) (hb : I64 b) :
    Calls Try.prog 65 #[.int .i64 a, .int .i64 b] w fun e w' => e = .returned (.tuple #[.int .i64 (fitV (a + b)), .bool (fitB (a + b))]) ∧ w' = w := by
  go_enter Try.func65, Try.ntmps65
  go_wp2
  · go_ret2
    exact ⟨ret_fit_no (add_no ha hb ‹_›), rfl⟩
  · go_ret2
    exact ⟨ret_fit_yes (add_yes ha hb ‹_›).1 (add_yes ha hb ‹_›).2, rfl⟩
theorem i64_0 : I64 0 := by unfold I64; decide
theorem sz_neg {a : Int} (h : a < 0) : sz a = -a := by unfold sz; rw [if_pos h]
theorem sz_pos {a : Int} (h : 0 ≤ a) : sz a = a := by unfold sz; rw [if_neg (by omega)]
theorem u64_neg {a : Int} (h1 : -9223372036854775808 ≤ a) (h : a < 0) : IntKind.u64.wrap (-IntKind.u64.wrap a) = -a := by
  rw [IntKind.wrap_u64, IntKind.wrap_u64]; omega
set_option maxHeartbeats 400000 in
theorem size_any (a : Int) (w : World) (ha : I64 a) :
    Calls Try.prog 120 #[.int .i64 a] w fun e w' => e = .returned (.int .u64 (sz a)) ∧ w' = w := by
  obtain ⟨a1, a2⟩ := ha
  by_cases h : a < 0
  · go_enter Try.func120, Try.ntmps120
    go_wp2
    go_ret
    exact ⟨ret_int ((u64_neg a1 h).trans (sz_neg h).symm), rfl⟩
  · go_enter Try.func120, Try.ntmps120
    go_wp2
    go_ret
    exact ⟨ret_int (sz_pos h).symm, rfl⟩
set_option maxHeartbeats 400000 in
theorem rsize_any (a : Int) (w : World) (ha : I64 a) :
    Calls Try.prog 99 #[.int .i64 a] w fun e w' => e = .returned (.int .u64 (sz a)) ∧ w' = w := by
  obtain ⟨a1, a2⟩ := ha
  by_cases h : a < 0
  · go_enter Try.func99, Try.ntmps99
    go_wp2
    go_ret
    exact ⟨ret_int (by rw [sz_neg h]; omega), rfl⟩
  · go_enter Try.func99, Try.ntmps99
    go_wp2
    go_ret
    exact ⟨ret_int (sz_pos h).symm, rfl⟩
/-- The high half (floor), the low half of a number, by 2^64. -/
def hi (x : Int) : Int := x / 18446744073709551616
def lo (x : Int) : Int := x % 18446744073709551616
set_option maxHeartbeats 400000 in
theorem signhalf_any (a : Int) (w : World) (ha : I64 a) :
    Calls Try.prog 104 #[.int .i64 a] w fun e w' => e = .returned (.int .i64 (hi a)) ∧ w' = w := by
  obtain ⟨a1, a2⟩ := ha
  go_enter Try.func104, Try.ntmps104
  go_wp2
  go_ret
  exact ⟨ret_int (by unfold hi; omega), rfl⟩
/-- -1, 0, 1. -/
def sg (a b : Int) : Int := if a < b then -1 else if b < a then 1 else 0
theorem maskI (x : Int) (h0 : 0 ≤ x) (h1 : x < 18446744073709551616) : bits .and .u64 x 4294967295 = x % 4294967296 := by
  obtain ⟨n, rfl⟩ := Int.eq_ofNat_of_zero_le h0
  have h := bits_and_u64_nat n 4294967295 (by omega) (by omega)
  rw [show n &&& 4294967295 = n % 4294967296 from Nat.and_two_pow_sub_one_eq_mod n 32] at h
  exact h.trans (by omega)
theorem mulsplit (X Y : Int) (hX : 0 ≤ X) (hY : 0 ≤ Y) : X * Y = X / 4294967296 * (Y / 4294967296) * 18446744073709551616 + (X / 4294967296 * (Y % 4294967296) + X % 4294967296 * (Y / 4294967296)) * 4294967296 + X % 4294967296 * (Y % 4294967296) := by
  obtain ⟨x, rfl⟩ := Int.eq_ofNat_of_zero_le hX
  obtain ⟨y, rfl⟩ := Int.eq_ofNat_of_zero_le hY
  have e := Lib.split_mul (x / 4294967296) (x % 4294967296) (y / 4294967296) (y % 4294967296) 4294967296
  rw [Nat.div_add_mod' x 4294967296, Nat.div_add_mod' y 4294967296] at e
  have e' : ((x * y : Nat) : Int) = (((x / 4294967296) * (y / 4294967296) * (4294967296 * 4294967296) + ((x / 4294967296) * (y % 4294967296) + (x % 4294967296) * (y / 4294967296)) * 4294967296 + (x % 4294967296) * (y % 4294967296) : Nat) : Int) := by rw [e]
  simpa using e'
theorem half_bd {p q B C : Int} (h1 : 0 ≤ p) (h2 : p ≤ B) (h3 : 0 ≤ q) (h4 : q ≤ C) : 0 ≤ p * q ∧ p * q ≤ B * C :=
  ⟨Int.mul_nonneg h1 h3, Int.mul_le_mul h2 h4 h3 (by omega)⟩
theorem wrap_small (z : Int) (h1 : 0 ≤ z) (h2 : z < 18446744073709551616) : IntKind.u64.wrap z = z := by rw [IntKind.wrap_u64]; omega
set_option maxHeartbeats 1000000 in
theorem mul64_raw (x y P Q R S PR PS QR QS T U H L : Int) (w : World)
    (hP : x / 4294967296 = P) (hQ : bits .and .u64 x 4294967295 = Q) (hR : y / 4294967296 = R) (hS : bits .and .u64 y 4294967295 = S)
    (hQS : IntKind.u64.wrap (Q * S) = QS) (hPS : IntKind.u64.wrap (P * S) = PS) (hQR : IntKind.u64.wrap (Q * R) = QR) (hPR : IntKind.u64.wrap (P * R) = PR)
    (hT : IntKind.u64.wrap (PS + QS / 4294967296) = T) (hU : bits .and .u64 T 4294967295 = U) (hV : IntKind.u64.wrap (U + QR) = U + QR)
    (hH1 : IntKind.u64.wrap (PR + T / 4294967296) = PR + T / 4294967296) (hH : IntKind.u64.wrap (PR + T / 4294967296 + (U + QR) / 4294967296) = H) (hL : IntKind.u64.wrap (x * y) = L) :
    Calls Try.prog 119 #[.int .u64 x, .int .u64 y] w fun e w' => e = .returned (.tuple #[.int .u64 H, .int .u64 L]) ∧ w' = w := by
  go_enter Try.func119, Try.ntmps119
  go_wp2
  go_ret2
  exact ⟨rfl, rfl⟩
theorem mul64_any (x y : Int) (hx : 0 ≤ x) (hy : 0 ≤ y) (hx' : x < 18446744073709551616) (hy' : y < 18446744073709551616) (w : World) :
    Calls Try.prog 119 #[.int .u64 x, .int .u64 y] w fun e w' => e = .returned (.tuple #[.int .u64 (hi (x * y)), .int .u64 (lo (x * y))]) ∧ w' = w := by
  have hT := mulsplit x y hx hy
  obtain ⟨u1, u2⟩ := half_bd (p := x / 4294967296) (q := y / 4294967296) (B := 4294967295) (C := 4294967295) (by omega) (by omega) (by omega) (by omega)
  obtain ⟨u3, u4⟩ := half_bd (p := x / 4294967296) (q := y % 4294967296) (B := 4294967295) (C := 4294967295) (by omega) (by omega) (by omega) (by omega)
  obtain ⟨u5, u6⟩ := half_bd (p := x % 4294967296) (q := y / 4294967296) (B := 4294967295) (C := 4294967295) (by omega) (by omega) (by omega) (by omega)
  obtain ⟨u7, u8⟩ := half_bd (p := x % 4294967296) (q := y % 4294967296) (B := 4294967295) (C := 4294967295) (by omega) (by omega) (by omega) (by omega)
  obtain ⟨PR, hPR⟩ : ∃ z, x / 4294967296 * (y / 4294967296) = z := ⟨_, rfl⟩
  obtain ⟨PS, hPS⟩ : ∃ z, x / 4294967296 * (y % 4294967296) = z := ⟨_, rfl⟩
  obtain ⟨QR, hQR⟩ : ∃ z, x % 4294967296 * (y / 4294967296) = z := ⟨_, rfl⟩
  obtain ⟨QS, hQS⟩ : ∃ z, x % 4294967296 * (y % 4294967296) = z := ⟨_, rfl⟩
  rw [hPR] at u1 u2 hT
  rw [hPS] at u3 u4 hT
  rw [hQR] at u5 u6 hT
  rw [hQS] at u7 u8 hT
  refine mul64_raw x y _ _ _ _ PR PS QR QS (PS + QS / 4294967296) ((PS + QS / 4294967296) % 4294967296) _ _ w rfl (maskI _ hx hx') rfl (maskI _ hy hy') (by rw [hQS]; exact wrap_small _ u7 (by omega)) (by rw [hPS]; exact wrap_small _ u3 (by omega)) (by rw [hQR]; exact wrap_small _ u5 (by omega)) (by rw [hPR]; exact wrap_small _ u1 (by omega)) (wrap_small _ (by omega) (by omega)) (maskI _ (by omega) (by omega)) (wrap_small _ (by omega) (by omega)) (wrap_small _ (by omega) (by omega)) ?_ ?_
  · rw [wrap_small _ (by omega) (by omega)]; unfold hi; omega
  · rw [IntKind.wrap_u64]; rfl
theorem add64 (x y c : Int) (hx : 0 ≤ x) (hy : 0 ≤ y) (hc0 : 0 ≤ c) (hc : c ≤ 1) (w : World) : (callFunc 103 #[.int .u64 x, .int .u64 y, .int .u64 c]).run Try.prog w =
    .ok (.value (.tuple #[.int .u64 (lo (x + y + c)), .int .u64 (hi (x + y + c))])) w := by
  rw [run_callFunc_extern Try.func103 (by kernel_rfl) (by kernel_rfl) (by kernel_rfl) (e := add64Entry) (by kernel_rfl), run_add64 x y c hx hy hc0 hc]
  rfl
/-- The borrow. -/
def bor (x y : Int) : Int := if x < y then 1 else 0
theorem sub64 (x y c : Int) (hx : 0 ≤ x) (hy : 0 ≤ y) (hy' : y < 18446744073709551616) (hc0 : 0 ≤ c) (hc : c ≤ 1) (w : World) : (callFunc 140 #[.int .u64 x, .int .u64 y, .int .u64 c]).run Try.prog w =
    .ok (.value (.tuple #[.int .u64 (lo (x - y - c)), .int .u64 (bor x (y + c))])) w := by
  obtain ⟨x, rfl⟩ := Int.eq_ofNat_of_zero_le hx
  obtain ⟨y, rfl⟩ := Int.eq_ofNat_of_zero_le hy
  obtain ⟨c, rfl⟩ := Int.eq_ofNat_of_zero_le hc0
  rw [run_callFunc_extern Try.func140 (by kernel_rfl) (by kernel_rfl) (by kernel_rfl) (e := sub64Entry) (by kernel_rfl), run_sub64 x y c (by omega)]
  simp only [Result.andThen]
  have e1 : (((x + 18446744073709551616 - y - c) % 18446744073709551616 : Nat) : Int) = lo ((x : Int) - y - c) := by unfold lo; omega
  have e2 : ((if x < y + c then 1 else 0 : Nat) : Int) = bor (x : Int) (y + c) := by unfold bor; split <;> split <;> omega
  rw [e1, e2]

end Go.Proofs.Ytjkkajhjcinalaa.calc

namespace Go.Proofs.Ytjkkajhjcinalaa.calc
open Go.RowKit
set_option linter.unusedVariables false
set_option linter.unusedSimpArgs false
set_option maxRecDepth 100000

theorem lo_bd (x : Int) : 0 ≤ lo x ∧ lo x < 18446744073709551616 := by unfold lo; omega
theorem lohi (x : Int) : x = hi x * 18446744073709551616 + lo x := by unfold lo hi; omega
theorem turned_hi {x : Int} (h0 : 0 ≤ x) (h1 : x ≤ 85070591730234615865843651857942052864) : wrap64 (lo (-hi x - bor 0 (lo x))) = hi (-x) := by
  unfold wrap64 bor lo hi; split <;> omega
theorem turned_lo {x : Int} : lo (-lo x) = lo (-x) := by
  unfold lo; omega
set_option maxHeartbeats 400000 in
theorem turned_any (x : Int) (w : World) (h0 : 0 ≤ x) (h1 : x ≤ 85070591730234615865843651857942052864) :
    Calls Try.prog 121 #[.agg #[.int .i64 (hi x), .int .u64 (lo x)]] w fun e w' => e = .returned (.agg #[.int .i64 (hi (-x)), .int .u64 (lo (-x))]) ∧ Below w.heap.size w w' := by
  obtain ⟨l1, l2⟩ := lo_bd x
  have H1 : 0 ≤ hi x := by unfold hi; omega
  have H2 : hi x ≤ 4611686018427387904 := by unfold hi; omega
  have k0 : 0 ≤ bor 0 (lo x) := by unfold bor; split <;> omega
  have k1 : bor 0 (lo x) ≤ 1 := by unfold bor; split <;> omega
  go_enter Try.func121, Try.ntmps121
  go_wp2_with (first | simp only [sub64 _ _ _ (Int.le_refl 0) l1 l2 (Int.le_refl 0) (by decide : (0 : Int) ≤ 1)] | simp only [sub64 _ _ _ (Int.le_refl 0) H1 (by omega) k0 k1])
  rw [turned_hi h0 h1, turned_lo]
  exact bodyPost_ret (v := .agg #[.int .i64 (hi (-x)), .int .u64 (lo (-x))]) (by simp [results, Try.results121, go_sem]) rfl ⟨rfl, ((Below.refl _ _).alloc (Nat.le_refl _) _).alloc (by simp) _⟩
theorem narrow_yes {x : Int} (h : (hi x != hi (wrap64 (lo x))) = false) : (-9223372036854775808 ≤ x ∧ x ≤ 9223372036854775807) ∧ wrap64 (lo x) = x := by
  unfold wrap64 lo hi at *
  simp only [bne_eq_false_iff_eq] at h
  omega
theorem narrow_no {x : Int} (h : (hi x != hi (wrap64 (lo x))) = true) : ¬ (-9223372036854775808 ≤ x ∧ x ≤ 9223372036854775807) := by
  unfold wrap64 lo hi at *
  simp only [bne_iff_ne, ne_eq] at h
  omega
theorem wrap_i64 (x : Int) : I64 (wrap64 x) := by unfold I64 wrap64; omega
set_option maxHeartbeats 400000 in
theorem narrow_any (x : Int) (w : World) :
    Calls Try.prog 70 #[.agg #[.int .i64 (hi x), .int .u64 (lo x)]] w fun e w' => e = .returned (.tuple #[.int .i64 (fitV x), .bool (fitB x)]) ∧ Below w.heap.size w w' := by
  obtain ⟨l1, l2⟩ := lo_bd x
  go_enter Try.func70, Try.ntmps70
  go_wp2
  go_quiet ((go_at_call 104; exact Calls.quiet_of_same (signhalf_any _ _ (wrap_i64 _))))
  go_wp2
  · go_ret2
    exact ⟨ret_fit_no (narrow_no ‹_›), below_drewN ((Below.refl _ _).alloc (Nat.le_refl _) _) _⟩
  · go_ret2
    exact ⟨ret_fit_yes (narrow_yes ‹_›).1 (narrow_yes ‹_›).2, below_drewN ((Below.refl _ _).alloc (Nat.le_refl _) _) _⟩
theorem plus_hi {x v : Int} (h0 : -170141183460469231731687303715884105728 ≤ x + v) (h1 : x + v < 170141183460469231731687303715884105728) : wrap64 (lo (lo (hi x) + lo (hi v) + hi (lo x + lo v))) = hi (x + v) := by
  unfold wrap64 lo hi; omega
theorem plus_lo {x v : Int} : lo (lo x + lo v) = lo (x + v) := by unfold lo; omega
theorem wrapu (x : Int) : IntKind.u64.wrap x = lo x := by rw [IntKind.wrap_u64]; rfl
set_option maxHeartbeats 400000 in
theorem plus_any (x v : Int) (w : World) (hv : I64 v) (h0 : -170141183460469231731687303715884105728 ≤ x + v) (h1 : x + v < 170141183460469231731687303715884105728) :
    Calls Try.prog 69 #[.agg #[.int .i64 (hi x), .int .u64 (lo x)], .int .i64 v] w fun e w' => e = .returned (.agg #[.int .i64 (hi (x + v)), .int .u64 (lo (x + v))]) ∧ Below w.heap.size w w' := by
  obtain ⟨l1, l2⟩ := lo_bd x
  obtain ⟨v1, v2⟩ := lo_bd v
  obtain ⟨m1, m2⟩ := lo_bd (hi x)
  obtain ⟨n1, n2⟩ := lo_bd (hi v)
  have k0 : 0 ≤ hi (lo x + lo v) := by unfold lo hi; omega
  have k1 : hi (lo x + lo v) ≤ 1 := by unfold lo hi; omega
  have hadd : ∀ w', (callFunc 103 #[.int .u64 (IntKind.u64.wrap (hi x)), .int .u64 (IntKind.u64.wrap (hi v)), .int .u64 (hi (lo x + lo v))]).run Try.prog w' = .ok (.value (.tuple #[.int .u64 (lo (lo (hi x) + lo (hi v) + hi (lo x + lo v))), .int .u64 (hi (lo (hi x) + lo (hi v) + hi (lo x + lo v)))])) w' := by
    intro w'
    rw [wrapu, wrapu]
    exact add64 _ _ _ m1 n1 k0 k1 w'
  go_enter Try.func69, Try.ntmps69
  go_wp2_with (first | (simp only [wrapu, add64 _ _ _ l1 v1 (Int.le_refl 0) (by decide : (0 : Int) ≤ 1)]))
  go_quiet ((go_at_call 104; exact Calls.quiet_of_same (signhalf_any _ _ hv)))
  go_wp2
  rw [plus_hi h0 h1, plus_lo]
  exact bodyPost_ret (v := .agg #[.int .i64 (hi (x + v)), .int .u64 (lo (x + v))]) (by simp [results, Try.results69, go_sem]) rfl ⟨rfl, ((below_drewN (((Below.refl _ _).alloc (Nat.le_refl _) _).alloc (by simp) _) _).setCell (by simp) _).setCell (by simp) _⟩
theorem sz_bd {a : Int} (h : I64 a) : 0 ≤ sz a ∧ sz a ≤ 9223372036854775808 := by
  obtain ⟨h1, h2⟩ := h
  unfold sz; split <;> omega
theorem mul_bd {x y : Int} (hx : 0 ≤ x ∧ x ≤ 9223372036854775808) (hy : 0 ≤ y ∧ y ≤ 9223372036854775808) : 0 ≤ x * y ∧ x * y ≤ 85070591730234615865843651857942052864 := by
  refine ⟨Int.mul_nonneg hx.1 hy.1, ?_⟩
  have h := Int.mul_le_mul hx.2 hy.2 hy.1 (by decide : (0 : Int) ≤ 9223372036854775808)
  exact h
theorem mul64_p (x y p : Int) (hx : 0 ≤ x) (hy : 0 ≤ y) (hx' : x < 18446744073709551616) (hy' : y < 18446744073709551616) (hp : x * y = p) (w : World) :
    Calls Try.prog 119 #[.int .u64 x, .int .u64 y] w fun e w' => e = .returned (.tuple #[.int .u64 (hi p), .int .u64 (lo p)]) ∧ w' = w := by
  subst hp; exact mul64_any x y hx hy hx' hy' w
set_option maxHeartbeats 400000 in
theorem product_any (a b : Int) (w : World) (ha : I64 a) (hb : I64 b) :
    Calls Try.prog 106 #[.int .i64 a, .int .i64 b] w fun e w' => e = .returned (.agg #[.int .i64 (hi (a * b)), .int .u64 (lo (a * b))]) ∧ Below w.heap.size w w' := by
  obtain ⟨s1, s2⟩ := sz_bd ha
  obtain ⟨t1, t2⟩ := sz_bd hb
  obtain ⟨p1, p2⟩ := mul_bd (sz_bd ha) (sz_bd hb)
  obtain ⟨p, hp⟩ : ∃ p, sz a * sz b = p := ⟨_, rfl⟩
  rw [hp] at p1 p2
  have q0 : 0 ≤ hi p := by unfold hi; omega
  have q1 : hi p ≤ 4611686018427387904 := by unfold hi; omega
  have HP : Hid (sz a * sz b = p) := hp
  clear hp
  by_cases ca : a < 0
  · by_cases cb : b < 0
    · have e1 : p = a * b := by rw [← HP.out, sz_neg ca, sz_neg cb, Int.neg_mul_neg]
      have e2 : Hid (p = a * b) := e1
      clear e1
      go_enter Try.func106, Try.ntmps106
      go_wp2_with (first | (go_at_call 120; refine (size_any _ _ (by assumption)).mono ?_; rintro e w' ⟨rfl, rfl⟩) | (go_at_call 119; refine (mul64_p _ _ p s1 t1 (by omega) (by omega) HP.out _).mono ?_; rintro e w' ⟨rfl, rfl⟩))
      rw [← e2.out]
      exact bodyPost_ret (v := .agg #[.int .i64 (hi p), .int .u64 (lo p)]) (by simp [results, Try.results106, go_sem]) rfl ⟨rfl, ((Below.refl _ _).alloc (Nat.le_refl _) _).alloc (by simp) _⟩
    · have e1 : -p = a * b := by rw [← HP.out, sz_neg ca, sz_pos (by omega), Int.neg_mul, Int.neg_neg]
      have e2 : Hid (-p = a * b) := e1
      clear e1
      have cb' : decide (b < 0) = false := decide_eq_false cb
      go_enter Try.func106, Try.ntmps106
      go_wp2_with (first | (go_at_call 120; refine (size_any _ _ (by assumption)).mono ?_; rintro e w' ⟨rfl, rfl⟩) | (go_at_call 119; refine (mul64_p _ _ p s1 t1 (by omega) (by omega) HP.out _).mono ?_; rintro e w' ⟨rfl, rfl⟩) | (go_at_call 121; refine (turned_any p _ p1 p2).mono ?_; rintro e w' ⟨rfl, hbel⟩; obtain ⟨hc, hf⟩ := bcell hbel; have hz := hbel.size; simp at hz))
      rw [← e2.out]
      have hc0 : w'.cell? ⟨w.heap.size, 0, none⟩ = some (.int .i64 0) := by rw [hc _ _ (by simp; omega)]; simp [go_sem]
      have hc1 : w'.cell? ⟨w.heap.size, 1, none⟩ = some (.int .u64 0) := by rw [hc _ _ (by simp; omega)]; simp [go_sem]
      exact bodyPost_ret (v := .agg #[.int .i64 (hi (-p)), .int .u64 (lo (-p))]) (by simp [results, Try.results106, go_sem, hc0, hc1]) rfl ⟨rfl, (((((Below.refl _ _).alloc (Nat.le_refl _) _).alloc (by simp) _).trans (hbel.mono (by simp; omega))).setCell (by simp) _).setCell (by simp) _⟩
  · have ca' : decide (a < 0) = false := decide_eq_false ca
    by_cases cb : b < 0
    · have e1 : -p = a * b := by rw [← HP.out, sz_pos (by omega), sz_neg cb, Int.mul_neg, Int.neg_neg]
      have e2 : Hid (-p = a * b) := e1
      clear e1
      go_enter Try.func106, Try.ntmps106
      go_wp2_with (first | (go_at_call 120; refine (size_any _ _ (by assumption)).mono ?_; rintro e w' ⟨rfl, rfl⟩) | (go_at_call 119; refine (mul64_p _ _ p s1 t1 (by omega) (by omega) HP.out _).mono ?_; rintro e w' ⟨rfl, rfl⟩) | (go_at_call 121; refine (turned_any p _ p1 p2).mono ?_; rintro e w' ⟨rfl, hbel⟩; obtain ⟨hc, hf⟩ := bcell hbel; have hz := hbel.size; simp at hz))
      rw [← e2.out]
      have hc0 : w'.cell? ⟨w.heap.size, 0, none⟩ = some (.int .i64 0) := by rw [hc _ _ (by simp; omega)]; simp [go_sem]
      have hc1 : w'.cell? ⟨w.heap.size, 1, none⟩ = some (.int .u64 0) := by rw [hc _ _ (by simp; omega)]; simp [go_sem]
      exact bodyPost_ret (v := .agg #[.int .i64 (hi (-p)), .int .u64 (lo (-p))]) (by simp [results, Try.results106, go_sem, hc0, hc1]) rfl ⟨rfl, (((((Below.refl _ _).alloc (Nat.le_refl _) _).alloc (by simp) _).trans (hbel.mono (by simp; omega))).setCell (by simp) _).setCell (by simp) _⟩
    · have e1 : p = a * b := by rw [← HP.out, sz_pos (by omega), sz_pos (by omega)]
      have e2 : Hid (p = a * b) := e1
      clear e1
      have cb' : decide (b < 0) = false := decide_eq_false cb
      go_enter Try.func106, Try.ntmps106
      go_wp2_with (first | (go_at_call 120; refine (size_any _ _ (by assumption)).mono ?_; rintro e w' ⟨rfl, rfl⟩) | (go_at_call 119; refine (mul64_p _ _ p s1 t1 (by omega) (by omega) HP.out _).mono ?_; rintro e w' ⟨rfl, rfl⟩))
      rw [← e2.out]
      exact bodyPost_ret (v := .agg #[.int .i64 (hi p), .int .u64 (lo p)]) (by simp [results, Try.results106, go_sem]) rfl ⟨rfl, ((Below.refl _ _).alloc (Nat.le_refl _) _).alloc (by simp) _⟩

end Go.Proofs.Ytjkkajhjcinalaa.calc

namespace Go.Proofs.Ytjkkajhjcinalaa.calc
open Go.RowKit
set_option linter.unusedVariables false
set_option linter.unusedSimpArgs false
set_option maxRecDepth 100000

/-- Is a number below 0? -/
def ng (x : Int) : Bool := decide (x < 0)
theorem ng_t {x : Int} (h : x < 0) : ng x = true := decide_eq_true h
theorem ng_f {x : Int} (h : 0 ≤ x) : ng x = false := decide_eq_false (by omega)
set_option maxHeartbeats 400000 in
theorem of_any (a : Int) (w : World) (ha : I64 a) :
    Calls Try.prog 62 #[.int .i64 a] w fun e w' => e = .returned (.agg #[.bool (ng a), .int .u64 (hi (sz a)), .int .u64 (lo (sz a))]) ∧ Below w.heap.size w w' := by
  obtain ⟨s1, s2⟩ := sz_bd ha
  have e1 : hi (sz a) = 0 := by unfold hi; omega
  have e2 : lo (sz a) = sz a := by unfold lo; omega
  rw [e1, e2]
  clear e1 e2
  go_enter Try.func62, Try.ntmps62
  go_wp2_with (go_at_call 99; refine (rsize_any _ _ ha).mono ?_; rintro e w' ⟨rfl, rfl⟩)
  exact bodyPost_ret (v := .agg #[.bool (ng a), .int .u64 0, .int .u64 (sz a)]) (by simp [results, Try.results62, go_sem]; rfl) rfl ⟨rfl, (Below.refl _ _).alloc (Nat.le_refl _) _⟩
/-- Is one size below another one, word by word? -/
def lsB (xh xl yh yl : Int) : Bool := decide (xh < yh) || (decide (xh = yh) && decide (xl < yl))
theorem sz_lt {x y : Int} : lsB (hi (sz x)) (lo (sz x)) (hi (sz y)) (lo (sz y)) = decide (sz x < sz y) := by
  have := lohi (sz x); have := lohi (sz y); have := lo_bd (sz x); have := lo_bd (sz y)
  unfold lsB
  rw [Bool.eq_iff_iff]
  simp only [Bool.or_eq_true, Bool.and_eq_true, decide_eq_true_eq]
  omega
theorem ret_bool {a b : Bool} (h : a = b) : Ending.returned (.bool a) = .returned (.bool b) := by rw [h]
set_option maxHeartbeats 400000 in
theorem less_raw (p q : Bool) (xh xl yh yl : Int) (w : World) :
    Calls Try.prog 108 #[.agg #[.bool p, .int .u64 xh, .int .u64 xl], .agg #[.bool q, .int .u64 yh, .int .u64 yl]] w fun e w' => e = .returned (.bool (lsB xh xl yh yl)) ∧ w' = (w.alloc (.cells #[.bool p, .int .u64 xh, .int .u64 xl] 121)).alloc (.cells #[.bool q, .int .u64 yh, .int .u64 yl] 121) := by
  unfold lsB
  by_cases h1 : xh < yh
  · go_enter Try.func108, Try.ntmps108
    go_wp2
    go_ret
    exact ⟨ret_bool (by simp [h1]), rfl⟩
  · by_cases h2 : xh = yh
    · subst h2
      go_enter Try.func108, Try.ntmps108
      go_wp2
      go_ret
      exact ⟨ret_bool (by simp), rfl⟩
    · go_enter Try.func108, Try.ntmps108
      go_wp2
      go_ret
      exact ⟨ret_bool (by simp [h2]; omega), rfl⟩
theorem sz_cases (x : Int) : (ng x = true ∧ x < 0 ∧ sz x = -x) ∨ (ng x = false ∧ 0 ≤ x ∧ sz x = x) := by
  by_cases h : x < 0
  · exact .inl ⟨ng_t h, h, sz_neg h⟩
  · exact .inr ⟨ng_f (by omega), by omega, sz_pos (by omega)⟩
theorem sz_minus (x : Int) : sz (-x) = sz x := by unfold sz; split <;> split <;> omega
theorem sz_zero {x : Int} (h1 : hi (sz x) = 0) (h2 : lo (sz x) = 0) : x = 0 := by
  have h := lohi (sz x)
  rcases sz_cases x with ⟨_, _, s⟩ | ⟨_, _, s⟩ <;> rw [h1, h2, s] at h <;> omega
theorem ng_minus1 {x : Int} (h : ¬ x = 0) : ng (-x) = !ng x := by
  unfold ng
  rw [Bool.eq_iff_iff]
  simp only [Bool.not_eq_true', decide_eq_true_eq, decide_eq_false_iff_not]
  omega
theorem bk1 {x : Int} (h1 : hi (sz x) = 0) (h2 : lo (sz x) = 9223372036854775808) (h3 : (!ng x) = true) : ¬ (-9223372036854775808 ≤ x ∧ x ≤ 9223372036854775807) := by
  have h := lohi (sz x)
  rcases sz_cases x with ⟨n, _, s⟩ | ⟨n, _, s⟩
  · rw [n] at h3; cases h3
  · omega
theorem bk2 {x : Int} (h1 : hi (sz x) = 0) (h2 : lo (sz x) = 9223372036854775808) (h3 : (!ng x) = false) : (-9223372036854775808 ≤ x ∧ x ≤ 9223372036854775807) ∧ -9223372036854775808 = x := by
  have h := lohi (sz x)
  rcases sz_cases x with ⟨n, _, s⟩ | ⟨n, _, s⟩
  · omega
  · rw [n] at h3; cases h3
theorem bk3 {x : Int} (h1 : hi (sz x) = 0) (h2 : lo (sz x) ≤ 9223372036854775808) (h4 : ¬ lo (sz x) = 9223372036854775808) (h3 : ng x = true) : (-9223372036854775808 ≤ x ∧ x ≤ 9223372036854775807) ∧ -lo (sz x) = x := by
  have h := lohi (sz x)
  rcases sz_cases x with ⟨n, _, s⟩ | ⟨n, _, s⟩
  · omega
  · rw [n] at h3; cases h3
theorem bk4 {x : Int} (h1 : hi (sz x) = 0) (h2 : lo (sz x) ≤ 9223372036854775808) (h4 : ¬ lo (sz x) = 9223372036854775808) (h3 : ng x = false) : (-9223372036854775808 ≤ x ∧ x ≤ 9223372036854775807) ∧ lo (sz x) = x := by
  have h := lohi (sz x)
  rcases sz_cases x with ⟨n, _, s⟩ | ⟨n, _, s⟩
  · rw [n] at h3; cases h3
  · omega
theorem bk5 {x : Int} (h1 : hi (sz x) = 0) (h2 : 9223372036854775808 < lo (sz x)) : ¬ (-9223372036854775808 ≤ x ∧ x ≤ 9223372036854775807) := by
  have h := lohi (sz x)
  rcases sz_cases x with ⟨n, _, s⟩ | ⟨n, _, s⟩ <;> omega
theorem bk6 {x : Int} (h1 : ¬ hi (sz x) = 0) : ¬ (-9223372036854775808 ≤ x ∧ x ≤ 9223372036854775807) := by
  have h := lohi (sz x); have b := lo_bd (sz x)
  rcases sz_cases x with ⟨n, _, s⟩ | ⟨n, _, s⟩ <;> omega
set_option maxHeartbeats 400000 in
theorem back_any (x : Int) (w : World) :
    Calls Try.prog 92 #[.agg #[.bool (ng x), .int .u64 (hi (sz x)), .int .u64 (lo (sz x))]] w fun e w' => e = .returned (.tuple #[.int .i64 (fitV x), .bool (fitB x)]) ∧ Below w.heap.size w w' := by
  have hb := lo_bd (sz x)
  go_enter Try.func92, Try.ntmps92
  go_wp2
  · go_ret2
    exact ⟨ret_fit_no (bk1 ‹_› ‹_› ‹_›), (Below.refl _ _).alloc (Nat.le_refl _) _⟩
  · go_ret2
    exact ⟨ret_fit_yes (bk2 ‹_› ‹_› ‹_›).1 (bk2 ‹_› ‹_› ‹_›).2, (Below.refl _ _).alloc (Nat.le_refl _) _⟩
  · go_ret2
    exact ⟨ret_fit_yes (bk3 ‹_› ‹_› ‹_› ‹_›).1 (bk3 ‹_› ‹_› ‹_› ‹_›).2, (Below.refl _ _).alloc (Nat.le_refl _) _⟩
  · go_ret2
    exact ⟨ret_fit_yes (bk4 ‹_› ‹_› ‹_› ‹_›).1 (bk4 ‹_› ‹_› ‹_› ‹_›).2, (Below.refl _ _).alloc (Nat.le_refl _) _⟩
  · go_ret2
    exact ⟨ret_fit_no (bk5 ‹_› ‹_›), (Below.refl _ _).alloc (Nat.le_refl _) _⟩
  · go_ret2
    exact ⟨ret_fit_no (bk6 ‹_›), (Below.refl _ _).alloc (Nat.le_refl _) _⟩
theorem sz_inj {x y : Int} (hn : ng x = ng y) (h1 : hi (sz x) = hi (sz y)) (h2 : lo (sz x) = lo (sz y)) : x = y := by
  have hx := lohi (sz x); have hy := lohi (sz y)
  rcases sz_cases x with ⟨n, _, s⟩ | ⟨n, _, s⟩ <;> rcases sz_cases y with ⟨m, _, t⟩ | ⟨m, _, t⟩
  · omega
  · rw [n, m] at hn; cases hn
  · rw [n, m] at hn; cases hn
  · omega
end Go.Proofs.Ytjkkajhjcinalaa.calc

namespace Go.Proofs.Ytjkkajhjcinalaa.calc
open Go.RowKit
set_option linter.unusedVariables false
set_option linter.unusedSimpArgs false
set_option maxRecDepth 100000

set_option maxHeartbeats 1000000 in
theorem plus_same0 (p : Bool) (xh xl yh yl : Int) (w : World) (a1 : 0 ≤ xh) (a2 : 0 ≤ xl) (a3 : 0 ≤ yh) (a4 : 0 ≤ yl) (c1 : xh + yh ≤ 18446744073709551615) (c2 : xl + yl ≤ 18446744073709551615) :
    Calls Try.prog 98 #[.agg #[.bool p, .int .u64 xh, .int .u64 xl], .agg #[.bool p, .int .u64 yh, .int .u64 yl]] w fun e w' => e = .returned (.agg #[.bool p, .int .u64 (xh + yh), .int .u64 (xl + yl)]) ∧ Below w.heap.size w w' := by
  go_enter Try.func98, Try.ntmps98
  go_wp2
  exact bodyPost_ret (v := .agg #[.bool p, .int .u64 (xh + yh), .int .u64 (xl + yl)]) (by simp [results, Try.results98, go_sem]) rfl ⟨rfl, (((((Below.refl _ _).alloc (Nat.le_refl _) _).alloc (by simp) _).alloc (by simp; omega) _).alloc (by simp; omega) _)⟩
set_option maxHeartbeats 1000000 in
theorem plus_same1 (p : Bool) (xh xl yh yl z : Int) (w : World) (a1 : 0 ≤ xh) (a2 : 0 ≤ xl) (a3 : 0 ≤ yh) (a4 : 0 ≤ yl) (c1 : xh + yh + 1 ≤ 18446744073709551615) (hz : IntKind.u64.wrap (xl + yl) = z) (c2 : z < xl) :
    Calls Try.prog 98 #[.agg #[.bool p, .int .u64 xh, .int .u64 xl], .agg #[.bool p, .int .u64 yh, .int .u64 yl]] w fun e w' => e = .returned (.agg #[.bool p, .int .u64 (xh + yh + 1), .int .u64 z]) ∧ Below w.heap.size w w' := by
  go_enter Try.func98, Try.ntmps98
  go_wp2
  exact bodyPost_ret (v := .agg #[.bool p, .int .u64 (xh + yh + 1), .int .u64 z]) (by simp [results, Try.results98, go_sem]) rfl ⟨rfl, (((((Below.refl _ _).alloc (Nat.le_refl _) _).alloc (by simp) _).alloc (by simp; omega) _).alloc (by simp; omega) _)⟩
set_option maxHeartbeats 1000000 in
theorem pd_nb1 (p q : Bool) (xh xl yh yl : Int) (w : World) (hpq : (p == q) = false) (a1 : 0 ≤ xh) (a2 : 0 ≤ xl) (a3 : 0 ≤ yh) (a4 : 0 ≤ yl) (b1 : xh ≤ 18446744073709551615) (b2 : xl ≤ 18446744073709551615) (b3 : yh ≤ 18446744073709551615) (b4 : yl ≤ 18446744073709551615) (hl : lsB xh xl yh yl = false) (c1 : yh ≤ xh) (c2 : yl ≤ xl) (n1 : (xh - yh == 0) = false) :
    Calls Try.prog 98 #[.agg #[.bool p, .int .u64 xh, .int .u64 xl], .agg #[.bool q, .int .u64 yh, .int .u64 yl]] w fun e w' => e = .returned (.agg #[.bool p, .int .u64 (xh - yh), .int .u64 (xl - yl)]) ∧ Below w.heap.size w w' := by
  go_enter Try.func98, Try.ntmps98
  go_wp2_with (go_at_call 108; refine (less_raw _ _ _ _ _ _ _).mono ?_; rintro e w' ⟨rfl, rfl⟩)
  exact bodyPost_ret (v := .agg #[.bool p, .int .u64 (xh - yh), .int .u64 (xl - yl)]) (by simp [results, Try.results98, go_sem]) rfl ⟨rfl, (((((((Below.refl _ _).alloc (Nat.le_refl _) _).alloc (by simp) _).alloc (by simp; omega) _).alloc (by simp; omega) _).alloc (by simp; omega) _).alloc (by simp; omega) _)⟩
set_option maxHeartbeats 1000000 in
theorem pd_nb2 (p q : Bool) (xh xl yh yl : Int) (w : World) (hpq : (p == q) = false) (a1 : 0 ≤ xh) (a2 : 0 ≤ xl) (a3 : 0 ≤ yh) (a4 : 0 ≤ yl) (b1 : xh ≤ 18446744073709551615) (b2 : xl ≤ 18446744073709551615) (b3 : yh ≤ 18446744073709551615) (b4 : yl ≤ 18446744073709551615) (hl : lsB xh xl yh yl = false) (c1 : yh ≤ xh) (c2 : yl ≤ xl) (n1 : (xh - yh == 0) = true) (n2 : (xl - yl == 0) = false) :
    Calls Try.prog 98 #[.agg #[.bool p, .int .u64 xh, .int .u64 xl], .agg #[.bool q, .int .u64 yh, .int .u64 yl]] w fun e w' => e = .returned (.agg #[.bool p, .int .u64 (xh - yh), .int .u64 (xl - yl)]) ∧ Below w.heap.size w w' := by
  go_enter Try.func98, Try.ntmps98
  go_wp2_with (go_at_call 108; refine (less_raw _ _ _ _ _ _ _).mono ?_; rintro e w' ⟨rfl, rfl⟩)
  exact bodyPost_ret (v := .agg #[.bool p, .int .u64 (xh - yh), .int .u64 (xl - yl)]) (by simp [results, Try.results98, go_sem]) rfl ⟨rfl, (((((((Below.refl _ _).alloc (Nat.le_refl _) _).alloc (by simp) _).alloc (by simp; omega) _).alloc (by simp; omega) _).alloc (by simp; omega) _).alloc (by simp; omega) _)⟩
set_option maxHeartbeats 1000000 in
theorem pd_b1 (p q : Bool) (xh xl yh yl z : Int) (w : World) (hpq : (p == q) = false) (a1 : 0 ≤ xh) (a2 : 0 ≤ xl) (a3 : 0 ≤ yh) (a4 : 0 ≤ yl) (b1 : xh ≤ 18446744073709551615) (b2 : xl ≤ 18446744073709551615) (b3 : yh ≤ 18446744073709551615) (b4 : yl ≤ 18446744073709551615) (hl : lsB xh xl yh yl = false) (c1 : yh < xh) (c2 : xl < yl) (hz : IntKind.u64.wrap (xl - yl) = z) (n1 : (xh - yh - 1 == 0) = false) :
    Calls Try.prog 98 #[.agg #[.bool p, .int .u64 xh, .int .u64 xl], .agg #[.bool q, .int .u64 yh, .int .u64 yl]] w fun e w' => e = .returned (.agg #[.bool p, .int .u64 (xh - yh - 1), .int .u64 z]) ∧ Below w.heap.size w w' := by
  go_enter Try.func98, Try.ntmps98
  go_wp2_with (go_at_call 108; refine (less_raw _ _ _ _ _ _ _).mono ?_; rintro e w' ⟨rfl, rfl⟩)
  exact bodyPost_ret (v := .agg #[.bool p, .int .u64 (xh - yh - 1), .int .u64 z]) (by simp [results, Try.results98, go_sem]) rfl ⟨rfl, (((((((Below.refl _ _).alloc (Nat.le_refl _) _).alloc (by simp) _).alloc (by simp; omega) _).alloc (by simp; omega) _).alloc (by simp; omega) _).alloc (by simp; omega) _)⟩
set_option maxHeartbeats 1000000 in
theorem pd_b2 (p q : Bool) (xh xl yh yl z : Int) (w : World) (hpq : (p == q) = false) (a1 : 0 ≤ xh) (a2 : 0 ≤ xl) (a3 : 0 ≤ yh) (a4 : 0 ≤ yl) (b1 : xh ≤ 18446744073709551615) (b2 : xl ≤ 18446744073709551615) (b3 : yh ≤ 18446744073709551615) (b4 : yl ≤ 18446744073709551615) (hl : lsB xh xl yh yl = false) (c1 : yh < xh) (c2 : xl < yl) (hz : IntKind.u64.wrap (xl - yl) = z) (n1 : (xh - yh - 1 == 0) = true) (n2 : (z == 0) = false) :
    Calls Try.prog 98 #[.agg #[.bool p, .int .u64 xh, .int .u64 xl], .agg #[.bool q, .int .u64 yh, .int .u64 yl]] w fun e w' => e = .returned (.agg #[.bool p, .int .u64 (xh - yh - 1), .int .u64 z]) ∧ Below w.heap.size w w' := by
  go_enter Try.func98, Try.ntmps98
  go_wp2_with (go_at_call 108; refine (less_raw _ _ _ _ _ _ _).mono ?_; rintro e w' ⟨rfl, rfl⟩)
  exact bodyPost_ret (v := .agg #[.bool p, .int .u64 (xh - yh - 1), .int .u64 z]) (by simp [results, Try.results98, go_sem]) rfl ⟨rfl, (((((((Below.refl _ _).alloc (Nat.le_refl _) _).alloc (by simp) _).alloc (by simp; omega) _).alloc (by simp; omega) _).alloc (by simp; omega) _).alloc (by simp; omega) _)⟩
set_option maxHeartbeats 1000000 in
theorem ps_nb1 (p q : Bool) (xh xl yh yl : Int) (w : World) (hpq : (p == q) = false) (a1 : 0 ≤ xh) (a2 : 0 ≤ xl) (a3 : 0 ≤ yh) (a4 : 0 ≤ yl) (b1 : xh ≤ 18446744073709551615) (b2 : xl ≤ 18446744073709551615) (b3 : yh ≤ 18446744073709551615) (b4 : yl ≤ 18446744073709551615) (hl : lsB xh xl yh yl = true) (c1 : xh ≤ yh) (c2 : xl ≤ yl) (n1 : (yh - xh == 0) = false) :
    Calls Try.prog 98 #[.agg #[.bool p, .int .u64 xh, .int .u64 xl], .agg #[.bool q, .int .u64 yh, .int .u64 yl]] w fun e w' => e = .returned (.agg #[.bool q, .int .u64 (yh - xh), .int .u64 (yl - xl)]) ∧ Below w.heap.size w w' := by
  go_enter Try.func98, Try.ntmps98
  go_wp2_with (go_at_call 108; refine (less_raw _ _ _ _ _ _ _).mono ?_; rintro e w' ⟨rfl, rfl⟩)
  exact bodyPost_ret (v := .agg #[.bool q, .int .u64 (yh - xh), .int .u64 (yl - xl)]) (by simp [results, Try.results98, go_sem]) rfl ⟨rfl, (((((((Below.refl _ _).alloc (Nat.le_refl _) _).alloc (by simp) _).alloc (by simp; omega) _).alloc (by simp; omega) _).alloc (by simp; omega) _).alloc (by simp; omega) _)⟩
set_option maxHeartbeats 1000000 in
theorem ps_nb2 (p q : Bool) (xh xl yh yl : Int) (w : World) (hpq : (p == q) = false) (a1 : 0 ≤ xh) (a2 : 0 ≤ xl) (a3 : 0 ≤ yh) (a4 : 0 ≤ yl) (b1 : xh ≤ 18446744073709551615) (b2 : xl ≤ 18446744073709551615) (b3 : yh ≤ 18446744073709551615) (b4 : yl ≤ 18446744073709551615) (hl : lsB xh xl yh yl = true) (c1 : xh ≤ yh) (c2 : xl ≤ yl) (n1 : (yh - xh == 0) = true) (n2 : (yl - xl == 0) = false) :
    Calls Try.prog 98 #[.agg #[.bool p, .int .u64 xh, .int .u64 xl], .agg #[.bool q, .int .u64 yh, .int .u64 yl]] w fun e w' => e = .returned (.agg #[.bool q, .int .u64 (yh - xh), .int .u64 (yl - xl)]) ∧ Below w.heap.size w w' := by
  go_enter Try.func98, Try.ntmps98
  go_wp2_with (go_at_call 108; refine (less_raw _ _ _ _ _ _ _).mono ?_; rintro e w' ⟨rfl, rfl⟩)
  exact bodyPost_ret (v := .agg #[.bool q, .int .u64 (yh - xh), .int .u64 (yl - xl)]) (by simp [results, Try.results98, go_sem]) rfl ⟨rfl, (((((((Below.refl _ _).alloc (Nat.le_refl _) _).alloc (by simp) _).alloc (by simp; omega) _).alloc (by simp; omega) _).alloc (by simp; omega) _).alloc (by simp; omega) _)⟩
set_option maxHeartbeats 1000000 in
theorem ps_b1 (p q : Bool) (xh xl yh yl z : Int) (w : World) (hpq : (p == q) = false) (a1 : 0 ≤ xh) (a2 : 0 ≤ xl) (a3 : 0 ≤ yh) (a4 : 0 ≤ yl) (b1 : xh ≤ 18446744073709551615) (b2 : xl ≤ 18446744073709551615) (b3 : yh ≤ 18446744073709551615) (b4 : yl ≤ 18446744073709551615) (hl : lsB xh xl yh yl = true) (c1 : xh < yh) (c2 : yl < xl) (hz : IntKind.u64.wrap (yl - xl) = z) (n1 : (yh - xh - 1 == 0) = false) :
    Calls Try.prog 98 #[.agg #[.bool p, .int .u64 xh, .int .u64 xl], .agg #[.bool q, .int .u64 yh, .int .u64 yl]] w fun e w' => e = .returned (.agg #[.bool q, .int .u64 (yh - xh - 1), .int .u64 z]) ∧ Below w.heap.size w w' := by
  go_enter Try.func98, Try.ntmps98
  go_wp2_with (go_at_call 108; refine (less_raw _ _ _ _ _ _ _).mono ?_; rintro e w' ⟨rfl, rfl⟩)
  exact bodyPost_ret (v := .agg #[.bool q, .int .u64 (yh - xh - 1), .int .u64 z]) (by simp [results, Try.results98, go_sem]) rfl ⟨rfl, (((((((Below.refl _ _).alloc (Nat.le_refl _) _).alloc (by simp) _).alloc (by simp; omega) _).alloc (by simp; omega) _).alloc (by simp; omega) _).alloc (by simp; omega) _)⟩
set_option maxHeartbeats 1000000 in
theorem ps_b2 (p q : Bool) (xh xl yh yl z : Int) (w : World) (hpq : (p == q) = false) (a1 : 0 ≤ xh) (a2 : 0 ≤ xl) (a3 : 0 ≤ yh) (a4 : 0 ≤ yl) (b1 : xh ≤ 18446744073709551615) (b2 : xl ≤ 18446744073709551615) (b3 : yh ≤ 18446744073709551615) (b4 : yl ≤ 18446744073709551615) (hl : lsB xh xl yh yl = true) (c1 : xh < yh) (c2 : yl < xl) (hz : IntKind.u64.wrap (yl - xl) = z) (n1 : (yh - xh - 1 == 0) = true) (n2 : (z == 0) = false) :
    Calls Try.prog 98 #[.agg #[.bool p, .int .u64 xh, .int .u64 xl], .agg #[.bool q, .int .u64 yh, .int .u64 yl]] w fun e w' => e = .returned (.agg #[.bool q, .int .u64 (yh - xh - 1), .int .u64 z]) ∧ Below w.heap.size w w' := by
  go_enter Try.func98, Try.ntmps98
  go_wp2_with (go_at_call 108; refine (less_raw _ _ _ _ _ _ _).mono ?_; rintro e w' ⟨rfl, rfl⟩)
  exact bodyPost_ret (v := .agg #[.bool q, .int .u64 (yh - xh - 1), .int .u64 z]) (by simp [results, Try.results98, go_sem]) rfl ⟨rfl, (((((((Below.refl _ _).alloc (Nat.le_refl _) _).alloc (by simp) _).alloc (by simp; omega) _).alloc (by simp; omega) _).alloc (by simp; omega) _).alloc (by simp; omega) _)⟩
set_option maxHeartbeats 1000000 in
theorem pd_z (p q : Bool) (xh xl : Int) (w : World) (hpq : (p == q) = false) (hl : lsB xh xl xh xl = false) :
    Calls Try.prog 98 #[.agg #[.bool p, .int .u64 xh, .int .u64 xl], .agg #[.bool q, .int .u64 xh, .int .u64 xl]] w fun e w' => e = .returned (.agg #[.bool false, .int .u64 0, .int .u64 0]) ∧ Below w.heap.size w w' := by
  go_enter Try.func98, Try.ntmps98
  go_wp2_with (go_at_call 108; refine (less_raw _ _ _ _ _ _ _).mono ?_; rintro e w' ⟨rfl, rfl⟩)
  exact bodyPost_ret (v := .agg #[.bool false, .int .u64 0, .int .u64 0]) (by simp [results, Try.results98, go_sem]) rfl ⟨rfl, (((((((Below.refl _ _).alloc (Nat.le_refl _) _).alloc (by simp) _).alloc (by simp; omega) _).alloc (by simp; omega) _).alloc (by simp; omega) _).alloc (by simp; omega) _)⟩
theorem add_same {x y : Int} (h : ng x = ng y) : sz (x + y) = sz x + sz y ∧ ng (x + y) = ng x := by
  rcases sz_cases x with ⟨n, _, s⟩ | ⟨n, _, s⟩ <;> rcases sz_cases y with ⟨m, _, t⟩ | ⟨m, _, t⟩
  · exact ⟨by rw [s, t, sz_neg (by omega)]; omega, by rw [n, ng_t (by omega)]⟩
  · rw [n, m] at h; cases h
  · rw [n, m] at h; cases h
  · exact ⟨by rw [s, t, sz_pos (by omega)], by rw [n, ng_f (by omega)]⟩
theorem add_gt {x y : Int} (h : ¬ ng x = ng y) (g : sz y < sz x) : sz (x + y) = sz x - sz y ∧ ng (x + y) = ng x := by
  rcases sz_cases x with ⟨n, _, s⟩ | ⟨n, _, s⟩ <;> rcases sz_cases y with ⟨m, _, t⟩ | ⟨m, _, t⟩
  · rw [n, m] at h; exact absurd rfl h
  · exact ⟨by rw [s, t, sz_neg (by omega)]; omega, by rw [n, ng_t (by omega)]⟩
  · exact ⟨by rw [s, t, sz_pos (by omega)]; omega, by rw [n, ng_f (by omega)]⟩
  · rw [n, m] at h; exact absurd rfl h
theorem sz_nn (x : Int) : 0 ≤ sz x := by rcases sz_cases x with ⟨n, _, s⟩ | ⟨n, _, s⟩ <;> omega
theorem rplus_any (x y : Int) (w : World) (hx : sz x ≤ 85070591730234615865843651857942052864) (hy : sz y ≤ 85070591730234615865843651857942052864) :
    Calls Try.prog 98 #[.agg #[.bool (ng x), .int .u64 (hi (sz x)), .int .u64 (lo (sz x))], .agg #[.bool (ng y), .int .u64 (hi (sz y)), .int .u64 (lo (sz y))]] w fun e w' => e = .returned (.agg #[.bool (ng (x + y)), .int .u64 (hi (sz (x + y))), .int .u64 (lo (sz (x + y)))]) ∧ Below w.heap.size w w' := by
  have nx := sz_nn x
  have ny := sz_nn y
  have X := lohi (sz x); have Y := lohi (sz y)
  obtain ⟨bx1, bx2⟩ := lo_bd (sz x); obtain ⟨by1, by2⟩ := lo_bd (sz y)
  have cx1 : 0 ≤ hi (sz x) := by unfold hi; omega
  have cy1 : 0 ≤ hi (sz y) := by unfold hi; omega
  have cx2 : hi (sz x) ≤ 4611686018427387904 := by unfold hi; omega
  have cy2 : hi (sz y) ≤ 4611686018427387904 := by unfold hi; omega
  by_cases hn : ng x = ng y
  · obtain ⟨e1, e2⟩ := add_same hn
    rw [e1, e2, hn]
    by_cases hc : lo (sz x) + lo (sz y) ≤ 18446744073709551615
    · have f1 : hi (sz x + sz y) = hi (sz x) + hi (sz y) := by unfold hi lo at *; omega
      have f2 : lo (sz x + sz y) = lo (sz x) + lo (sz y) := by unfold hi lo at *; omega
      rw [f1, f2]
      exact plus_same0 _ _ _ _ _ w cx1 bx1 cy1 by1 (by omega) hc
    · have f1 : hi (sz x + sz y) = hi (sz x) + hi (sz y) + 1 := by unfold hi lo at *; omega
      have f2 : lo (sz x + sz y) = lo (sz x) + lo (sz y) - 18446744073709551616 := by unfold hi lo at *; omega
      rw [f1, f2]
      exact plus_same1 _ _ _ _ _ _ w cx1 bx1 cy1 by1 (by omega) (by rw [IntKind.wrap_u64]; omega) (by omega)
  · have hpq : (ng x == ng y) = false := by simpa using hn
    by_cases hlt : sz x < sz y
    · have hl : lsB (hi (sz x)) (lo (sz x)) (hi (sz y)) (lo (sz y)) = true := by rw [sz_lt]; exact decide_eq_true hlt
      obtain ⟨e1, e2⟩ := add_gt (x := y) (y := x) (fun h => hn h.symm) hlt
      rw [Int.add_comm x y, e1, e2]
      by_cases hc : lo (sz x) ≤ lo (sz y)
      · have f1 : hi (sz y - sz x) = hi (sz y) - hi (sz x) := by unfold hi lo at *; omega
        have f2 : lo (sz y - sz x) = lo (sz y) - lo (sz x) := by unfold hi lo at *; omega
        rw [f1, f2]
        by_cases hz : hi (sz y) - hi (sz x) = 0
        · exact ps_nb2 _ _ _ _ _ _ w hpq cx1 bx1 cy1 by1 (by omega) (by omega) (by omega) (by omega) hl (by omega) hc (by simp [hz]) (by simp; omega)
        · exact ps_nb1 _ _ _ _ _ _ w hpq cx1 bx1 cy1 by1 (by omega) (by omega) (by omega) (by omega) hl (by omega) hc (by simp [hz])
      · have f1 : hi (sz y - sz x) = hi (sz y) - hi (sz x) - 1 := by unfold hi lo at *; omega
        have f2 : lo (sz y - sz x) = lo (sz y) - lo (sz x) + 18446744073709551616 := by unfold hi lo at *; omega
        rw [f1, f2]
        by_cases hz : hi (sz y) - hi (sz x) - 1 = 0
        · exact ps_b2 _ _ _ _ _ _ _ w hpq cx1 bx1 cy1 by1 (by omega) (by omega) (by omega) (by omega) hl (by omega) (by omega) (by rw [IntKind.wrap_u64]; omega) (by simp [hz]) (by simp; omega)
        · exact ps_b1 _ _ _ _ _ _ _ w hpq cx1 bx1 cy1 by1 (by omega) (by omega) (by omega) (by omega) hl (by omega) (by omega) (by rw [IntKind.wrap_u64]; omega) (by simp [hz])
    · have hl : lsB (hi (sz x)) (lo (sz x)) (hi (sz y)) (lo (sz y)) = false := by rw [sz_lt]; exact decide_eq_false hlt
      by_cases heq : sz x = sz y
      · have e0 : x + y = 0 := by
          rcases sz_cases x with ⟨n, _, s⟩ | ⟨n, _, s⟩ <;> rcases sz_cases y with ⟨m, _, t⟩ | ⟨m, _, t⟩
          · rw [n, m] at hn; exact absurd rfl hn
          · omega
          · omega
          · rw [n, m] at hn; exact absurd rfl hn
        rw [e0, ← heq]
        rw [← heq] at hl
        exact pd_z _ _ _ _ w hpq hl
      · obtain ⟨e1, e2⟩ := add_gt hn (by omega)
        rw [e1, e2]
        by_cases hc : lo (sz y) ≤ lo (sz x)
        · have f1 : hi (sz x - sz y) = hi (sz x) - hi (sz y) := by unfold hi lo at *; omega
          have f2 : lo (sz x - sz y) = lo (sz x) - lo (sz y) := by unfold hi lo at *; omega
          rw [f1, f2]
          by_cases hz : hi (sz x) - hi (sz y) = 0
          · exact pd_nb2 _ _ _ _ _ _ w hpq cx1 bx1 cy1 by1 (by omega) (by omega) (by omega) (by omega) hl (by omega) hc (by simp [hz]) (by simp; omega)
          · exact pd_nb1 _ _ _ _ _ _ w hpq cx1 bx1 cy1 by1 (by omega) (by omega) (by omega) (by omega) hl (by omega) hc (by simp [hz])
        · have f1 : hi (sz x - sz y) = hi (sz x) - hi (sz y) - 1 := by unfold hi lo at *; omega
          have f2 : lo (sz x - sz y) = lo (sz x) - lo (sz y) + 18446744073709551616 := by unfold hi lo at *; omega
          rw [f1, f2]
          by_cases hz : hi (sz x) - hi (sz y) - 1 = 0
          · exact pd_b2 _ _ _ _ _ _ _ w hpq cx1 bx1 cy1 by1 (by omega) (by omega) (by omega) (by omega) hl (by omega) (by omega) (by rw [IntKind.wrap_u64]; omega) (by simp [hz]) (by simp; omega)
          · exact pd_b1 _ _ _ _ _ _ _ w hpq cx1 bx1 cy1 by1 (by omega) (by omega) (by omega) (by omega) hl (by omega) (by omega) (by rw [IntKind.wrap_u64]; omega) (by simp [hz])

end Go.Proofs.Ytjkkajhjcinalaa.calc

namespace Go.Proofs.Ytjkkajhjcinalaa.calc
open Go.RowKit
set_option linter.unusedVariables false
set_option linter.unusedSimpArgs false
set_option maxRecDepth 100000

set_option maxHeartbeats 1000000 in
theorem times_h (a b P Q R S PR PS QR QS PSl QRl QSl M H L : Int) (s : Bool) (w : World) (ha : I64 a) (hb : I64 b) (hs : (!(decide (a < 0) == decide (b < 0))) = s)
    (hP : sz a / 4294967296 = P) (hQ : bits .and .u64 (sz a) 4294967295 = Q) (hR : sz b / 4294967296 = R) (hS : bits .and .u64 (sz b) 4294967295 = S)
    (hPR : IntKind.u64.wrap (P * R) = PR) (hPS : IntKind.u64.wrap (P * S) = PS) (hQR : IntKind.u64.wrap (Q * R) = QR) (hQS : IntKind.u64.wrap (Q * S) = QS)
    (hPSl : bits .and .u64 PS 4294967295 = PSl) (hQRl : bits .and .u64 QR 4294967295 = QRl) (hQSl : bits .and .u64 QS 4294967295 = QSl)
    (b1 : 0 ≤ PR) (b2 : PR ≤ 4611686018427387904) (b3 : 0 ≤ PS) (b4 : PS ≤ 18446744065119617025) (b5 : 0 ≤ QR) (b6 : QR ≤ 18446744065119617025) (b7 : 0 ≤ QS) (b8 : QS ≤ 18446744065119617025)
    (b9 : 0 ≤ PSl) (b10 : PSl ≤ 4294967295) (b11 : 0 ≤ QRl) (b12 : QRl ≤ 4294967295) (b13 : 0 ≤ QSl) (b14 : QSl ≤ 4294967295)
    (hM : QS / 4294967296 + PSl + QRl = M) (m1 : 0 ≤ M) (m2 : M ≤ 12884901886) (hH : PR + PS / 4294967296 + QR / 4294967296 + M / 4294967296 = H) (hL : bits .or .u64 (IntKind.u64.wrap (M * 4294967296)) QSl = L) (n1 : (H == 0) = false) :
    Calls Try.prog 74 #[.int .i64 a, .int .i64 b] w fun e w' => e = .returned (.agg #[.bool s, .int .u64 H, .int .u64 L]) ∧ Below w.heap.size w w' := by
  go_enter Try.func74, Try.ntmps74
  go_wp2_with (go_at_call 99; refine (rsize_any _ _ (by assumption)).mono ?_; rintro e w' ⟨rfl, rfl⟩)
  exact bodyPost_ret (v := .agg #[.bool s, .int .u64 H, .int .u64 L]) (by simp [results, Try.results74, go_sem]) rfl ⟨rfl, ((Below.refl _ _).alloc (Nat.le_refl _) _).alloc (by simp) _⟩
set_option maxHeartbeats 1000000 in
theorem times_l (a b P Q R S PR PS QR QS PSl QRl QSl M H L : Int) (s : Bool) (w : World) (ha : I64 a) (hb : I64 b) (hs : (!(decide (a < 0) == decide (b < 0))) = s)
    (hP : sz a / 4294967296 = P) (hQ : bits .and .u64 (sz a) 4294967295 = Q) (hR : sz b / 4294967296 = R) (hS : bits .and .u64 (sz b) 4294967295 = S)
    (hPR : IntKind.u64.wrap (P * R) = PR) (hPS : IntKind.u64.wrap (P * S) = PS) (hQR : IntKind.u64.wrap (Q * R) = QR) (hQS : IntKind.u64.wrap (Q * S) = QS)
    (hPSl : bits .and .u64 PS 4294967295 = PSl) (hQRl : bits .and .u64 QR 4294967295 = QRl) (hQSl : bits .and .u64 QS 4294967295 = QSl)
    (b1 : 0 ≤ PR) (b2 : PR ≤ 4611686018427387904) (b3 : 0 ≤ PS) (b4 : PS ≤ 18446744065119617025) (b5 : 0 ≤ QR) (b6 : QR ≤ 18446744065119617025) (b7 : 0 ≤ QS) (b8 : QS ≤ 18446744065119617025)
    (b9 : 0 ≤ PSl) (b10 : PSl ≤ 4294967295) (b11 : 0 ≤ QRl) (b12 : QRl ≤ 4294967295) (b13 : 0 ≤ QSl) (b14 : QSl ≤ 4294967295)
    (hM : QS / 4294967296 + PSl + QRl = M) (m1 : 0 ≤ M) (m2 : M ≤ 12884901886) (hH : PR + PS / 4294967296 + QR / 4294967296 + M / 4294967296 = H) (hL : bits .or .u64 (IntKind.u64.wrap (M * 4294967296)) QSl = L) (n1 : (H == 0) = true) (n2 : (L == 0) = false) :
    Calls Try.prog 74 #[.int .i64 a, .int .i64 b] w fun e w' => e = .returned (.agg #[.bool s, .int .u64 H, .int .u64 L]) ∧ Below w.heap.size w w' := by
  go_enter Try.func74, Try.ntmps74
  go_wp2_with (go_at_call 99; refine (rsize_any _ _ (by assumption)).mono ?_; rintro e w' ⟨rfl, rfl⟩)
  exact bodyPost_ret (v := .agg #[.bool s, .int .u64 H, .int .u64 L]) (by simp [results, Try.results74, go_sem]) rfl ⟨rfl, ((Below.refl _ _).alloc (Nat.le_refl _) _).alloc (by simp) _⟩
set_option maxHeartbeats 1000000 in
theorem times_z (a b P Q R S PR PS QR QS PSl QRl QSl M H L : Int) (s : Bool) (w : World) (ha : I64 a) (hb : I64 b) (hs : (!(decide (a < 0) == decide (b < 0))) = s)
    (hP : sz a / 4294967296 = P) (hQ : bits .and .u64 (sz a) 4294967295 = Q) (hR : sz b / 4294967296 = R) (hS : bits .and .u64 (sz b) 4294967295 = S)
    (hPR : IntKind.u64.wrap (P * R) = PR) (hPS : IntKind.u64.wrap (P * S) = PS) (hQR : IntKind.u64.wrap (Q * R) = QR) (hQS : IntKind.u64.wrap (Q * S) = QS)
    (hPSl : bits .and .u64 PS 4294967295 = PSl) (hQRl : bits .and .u64 QR 4294967295 = QRl) (hQSl : bits .and .u64 QS 4294967295 = QSl)
    (b1 : 0 ≤ PR) (b2 : PR ≤ 4611686018427387904) (b3 : 0 ≤ PS) (b4 : PS ≤ 18446744065119617025) (b5 : 0 ≤ QR) (b6 : QR ≤ 18446744065119617025) (b7 : 0 ≤ QS) (b8 : QS ≤ 18446744065119617025)
    (b9 : 0 ≤ PSl) (b10 : PSl ≤ 4294967295) (b11 : 0 ≤ QRl) (b12 : QRl ≤ 4294967295) (b13 : 0 ≤ QSl) (b14 : QSl ≤ 4294967295)
    (hM : QS / 4294967296 + PSl + QRl = M) (m1 : 0 ≤ M) (m2 : M ≤ 12884901886) (hH : PR + PS / 4294967296 + QR / 4294967296 + M / 4294967296 = H) (hL : bits .or .u64 (IntKind.u64.wrap (M * 4294967296)) QSl = L) (n1 : (H == 0) = true) (n2 : (L == 0) = true) :
    Calls Try.prog 74 #[.int .i64 a, .int .i64 b] w fun e w' => e = .returned (.agg #[.bool false, .int .u64 H, .int .u64 L]) ∧ Below w.heap.size w w' := by
  go_enter Try.func74, Try.ntmps74
  go_wp2_with (go_at_call 99; refine (rsize_any _ _ (by assumption)).mono ?_; rintro e w' ⟨rfl, rfl⟩)
  exact bodyPost_ret (v := .agg #[.bool false, .int .u64 H, .int .u64 L]) (by simp [results, Try.results74, go_sem]) rfl ⟨rfl, ((Below.refl _ _).alloc (Nat.le_refl _) _).alloc (by simp) _⟩
theorem orI (m q : Int) (h0 : 0 ≤ m) (h1 : 0 ≤ q) (h2 : q < 4294967296) : bits .or .u64 (IntKind.u64.wrap (m * 4294967296)) q = (m * 4294967296) % 18446744073709551616 + q := by
  obtain ⟨m, rfl⟩ := Int.eq_ofNat_of_zero_le h0
  obtain ⟨q, rfl⟩ := Int.eq_ofNat_of_zero_le h1
  have e1 : IntKind.u64.wrap ((m : Int) * 4294967296) = (((m % 4294967296) * 4294967296 : Nat) : Int) := by rw [IntKind.wrap_u64]; omega
  have e2 : (m % 4294967296) * 4294967296 ||| q = (m % 4294967296) * 4294967296 + q := by
    have h := Nat.shiftLeft_add_eq_or_of_lt (b := q) (i := 32) (by omega) (m % 4294967296)
    rw [Nat.shiftLeft_eq] at h
    exact h.symm
  rw [e1, bits_or_u64_nat _ _ (by omega) (by omega), e2]
  omega
theorem sz_mul (a b : Int) : sz (a * b) = sz a * sz b := by
  rcases sz_cases a with ⟨_, h, s⟩ | ⟨_, h, s⟩ <;> rcases sz_cases b with ⟨_, g, t⟩ | ⟨_, g, t⟩ <;> rw [s, t]
  · rw [Int.neg_mul_neg, sz_pos (Int.le_of_lt (Int.mul_pos_of_neg_of_neg h g))]
  · rw [Int.neg_mul]
    have := Int.mul_nonneg (Int.le_of_lt (Int.neg_pos_of_neg h)) g
    rw [Int.neg_mul] at this
    by_cases z : a * b < 0
    · rw [sz_neg z]
    · have : a * b = 0 := by omega
      rw [this]; rfl
  · rw [Int.mul_neg]
    have := Int.mul_nonneg h (Int.le_of_lt (Int.neg_pos_of_neg g))
    rw [Int.mul_neg] at this
    by_cases z : a * b < 0
    · rw [sz_neg z]
    · have : a * b = 0 := by omega
      rw [this]; rfl
  · rw [sz_pos (Int.mul_nonneg h g)]
theorem ng_mul {a b : Int} (h : ¬ a * b = 0) : ng (a * b) = !(decide (a < 0) == decide (b < 0)) := by
  by_cases ca : a < 0 <;> by_cases cb : b < 0
  · rw [decide_eq_true ca, decide_eq_true cb, ng_f (Int.le_of_lt (Int.mul_pos_of_neg_of_neg ca cb))]; rfl
  · rw [decide_eq_true ca, decide_eq_false cb]
    have hb : 0 < b := by
      rcases Int.lt_or_le 0 b with h' | h'
      · exact h'
      · exfalso; have : b = 0 := by omega
        rw [this, Int.mul_zero] at h; exact h rfl
    rw [ng_t (Int.mul_neg_of_neg_of_pos ca hb)]; rfl
  · rw [decide_eq_false ca, decide_eq_true cb]
    have ha : 0 < a := by
      rcases Int.lt_or_le 0 a with h' | h'
      · exact h'
      · exfalso; have : a = 0 := by omega
        rw [this, Int.zero_mul] at h; exact h rfl
    rw [ng_t (Int.mul_neg_of_pos_of_neg ha cb)]; rfl
  · rw [decide_eq_false ca, decide_eq_false cb, ng_f (Int.mul_nonneg (by omega) (by omega))]; rfl
theorem times_any (a b : Int) (w : World) (ha : I64 a) (hb : I64 b) :
    Calls Try.prog 74 #[.int .i64 a, .int .i64 b] w fun e w' => e = .returned (.agg #[.bool (ng (a * b)), .int .u64 (hi (sz (a * b))), .int .u64 (lo (sz (a * b)))]) ∧ Below w.heap.size w w' := by
  obtain ⟨x1, x2⟩ := sz_bd ha
  obtain ⟨y1, y2⟩ := sz_bd hb
  have hT := mulsplit (sz a) (sz b) x1 y1
  rw [← sz_mul] at hT
  obtain ⟨u1, u2⟩ := half_bd (p := sz a / 4294967296) (q := sz b / 4294967296) (B := 2147483648) (C := 2147483648) (by omega) (by omega) (by omega) (by omega)
  obtain ⟨u3, u4⟩ := half_bd (p := sz a / 4294967296) (q := sz b % 4294967296) (B := 4294967295) (C := 4294967295) (by omega) (by omega) (by omega) (by omega)
  obtain ⟨u5, u6⟩ := half_bd (p := sz a % 4294967296) (q := sz b / 4294967296) (B := 4294967295) (C := 4294967295) (by omega) (by omega) (by omega) (by omega)
  obtain ⟨u7, u8⟩ := half_bd (p := sz a % 4294967296) (q := sz b % 4294967296) (B := 4294967295) (C := 4294967295) (by omega) (by omega) (by omega) (by omega)
  obtain ⟨PR, hPR⟩ : ∃ z, sz a / 4294967296 * (sz b / 4294967296) = z := ⟨_, rfl⟩
  obtain ⟨PS, hPS⟩ : ∃ z, sz a / 4294967296 * (sz b % 4294967296) = z := ⟨_, rfl⟩
  obtain ⟨QR, hQR⟩ : ∃ z, sz a % 4294967296 * (sz b / 4294967296) = z := ⟨_, rfl⟩
  obtain ⟨QS, hQS⟩ : ∃ z, sz a % 4294967296 * (sz b % 4294967296) = z := ⟨_, rfl⟩
  rw [hPR] at u1 u2 hT
  rw [hPS] at u3 u4 hT
  rw [hQR] at u5 u6 hT
  rw [hQS] at u7 u8 hT
  have eH : hi (sz (a * b)) = PR + PS / 4294967296 + QR / 4294967296 + (QS / 4294967296 + PS % 4294967296 + QR % 4294967296) / 4294967296 := by unfold hi; omega
  have eL : lo (sz (a * b)) = ((QS / 4294967296 + PS % 4294967296 + QR % 4294967296) * 4294967296) % 18446744073709551616 + QS % 4294967296 := by unfold lo; omega
  have W : ∀ z : Int, 0 ≤ z → z < 18446744073709551616 → IntKind.u64.wrap z = z := by intro z h1 h2; rw [IntKind.wrap_u64]; omega
  have hz : hi (sz (a * b)) = 0 → lo (sz (a * b)) = 0 → a * b = 0 := fun h1 h2 => sz_zero h1 h2
  have hnz1 : ¬ hi (sz (a * b)) = 0 → ¬ a * b = 0 := by intro h h'; rw [h'] at h; exact h rfl
  have hnz2 : ¬ lo (sz (a * b)) = 0 → ¬ a * b = 0 := by intro h h'; rw [h'] at h; exact h rfl
  by_cases n1 : hi (sz (a * b)) = 0
  · by_cases n2 : lo (sz (a * b)) = 0
    · rw [show ng (a * b) = false from by rw [hz n1 n2]; rfl]
      exact times_z a b _ _ _ _ _ _ _ _ _ _ _ _ _ _ _ w ha hb rfl rfl (maskI _ x1 (by omega)) rfl (maskI _ y1 (by omega)) (by rw [hPR]; exact W _ u1 (by omega)) (by rw [hPS]; exact W _ u3 (by omega)) (by rw [hQR]; exact W _ u5 (by omega)) (by rw [hQS]; exact W _ u7 (by omega)) (maskI _ u3 (by omega)) (maskI _ u5 (by omega)) (maskI _ u7 (by omega)) u1 (by omega) u3 (by omega) u5 (by omega) u7 (by omega) (by omega) (by omega) (by omega) (by omega) (by omega) (by omega) rfl (by omega) (by omega) eH.symm ((orI _ _ (by omega) (by omega) (by omega)).trans eL.symm) (by simp [n1]) (by simp [n2])
    · rw [ng_mul (hnz2 n2)]
      exact times_l a b _ _ _ _ _ _ _ _ _ _ _ _ _ _ _ w ha hb rfl rfl (maskI _ x1 (by omega)) rfl (maskI _ y1 (by omega)) (by rw [hPR]; exact W _ u1 (by omega)) (by rw [hPS]; exact W _ u3 (by omega)) (by rw [hQR]; exact W _ u5 (by omega)) (by rw [hQS]; exact W _ u7 (by omega)) (maskI _ u3 (by omega)) (maskI _ u5 (by omega)) (maskI _ u7 (by omega)) u1 (by omega) u3 (by omega) u5 (by omega) u7 (by omega) (by omega) (by omega) (by omega) (by omega) (by omega) (by omega) rfl (by omega) (by omega) eH.symm ((orI _ _ (by omega) (by omega) (by omega)).trans eL.symm) (by simp [n1]) (by simp [n2])
  · rw [ng_mul (hnz1 n1)]
    exact times_h a b _ _ _ _ _ _ _ _ _ _ _ _ _ _ _ w ha hb rfl rfl (maskI _ x1 (by omega)) rfl (maskI _ y1 (by omega)) (by rw [hPR]; exact W _ u1 (by omega)) (by rw [hPS]; exact W _ u3 (by omega)) (by rw [hQR]; exact W _ u5 (by omega)) (by rw [hQS]; exact W _ u7 (by omega)) (maskI _ u3 (by omega)) (maskI _ u5 (by omega)) (maskI _ u7 (by omega)) u1 (by omega) u3 (by omega) u5 (by omega) u7 (by omega) (by omega) (by omega) (by omega) (by omega) (by omega) (by omega) rfl (by omega) (by omega) eH.symm ((orI _ _ (by omega) (by omega) (by omega)).trans eL.symm) (by simp [n1])

end Go.Proofs.Ytjkkajhjcinalaa.calc

namespace Go.Proofs.Ytjkkajhjcinalaa
open Go.ChangeShapes Go.WideShapes Go.ChangeAt Go.RowKit
set_option linter.unusedVariables false
set_option linter.unusedSimpArgs false
set_option maxRecDepth 100000

theorem hid {p : Prop} (h : p) : Hid p := h
theorem add_at (b off j : Nat) : (⟨b, off, none⟩ : Addr).add j = ⟨b, off + j, none⟩ := by
  by_cases h0 : j = 0
  · subst h0; simp [Addr.add]
  · simp [Addr.add, h0]
theorem keep_step {wr w' w'' : World} {Q : World → Prop} {R : Prop} (hb : Below w'.heap.size w' w'') (h : Below wr.heap.size wr w' ∧ R) (K : Hid (∀ x, Below wr.heap.size wr x → Q x)) : Q w'' := K.out _ (bt h.1 hb)
theorem keep_drew {wr : World} {Q : World → Prop} (K : Hid (∀ x, Below wr.heap.size wr x → Q x)) : Q wr.drew := K.out _ (Below.refl _ _).drew
theorem below_grow {w w' : World} (h : Below w.heap.size w w') (row : Option Nat) : w.grownBy w' row := ⟨h.os, h.tape, h.output, h.size, fun k hk _ => h.block k hk⟩
theorem grow_below {w w' : World} {row : Option Nat} {base : Nat} (h : w.grownBy w' row) (hb : base ≤ w.heap.size) (hr : ∀ j, row = some j → base ≤ j) : Below base w w' :=
  ⟨h.os, h.tape, h.output, h.size, fun k hk => h.block k (Nat.lt_of_lt_of_le hk hb) (fun e => by have := hr k e.symm; omega)⟩
theorem box_two {w : World} {D : Nat} {t : TypeId} {s u : Value} (hD : w.heap[D]? = some (.cells #[s, u] t)) : w.cell? ⟨D, 0, none⟩ = some s ∧ w.cell? ⟨D, 1, none⟩ = some u := by
  constructor <;> simp [World.cell?, hD]
theorem set_grown (w : World) (b i : Nat) (v : Value) : w.grownBy (w.setCell ⟨b, i, none⟩ v) (some b) :=
  ⟨rfl, rfl, rfl, by simp, fun k _ hk => Below.heap_setCell _ _ _ _ (fun e => hk (by simp [e]))⟩
theorem heap_lt {w : World} {b : Nat} {o : Obj} (h : w.heap[b]? = some o) : b < w.heap.size := by
  by_cases hh : b < w.heap.size
  · exact hh
  · rw [Array.getElem?_eq_none (by omega)] at h; cases h
theorem keep_blk {w w' : World} {D : Nat} {o : Obj} (h : w.heap[D]? = some o) (hb : Below w.heap.size w w') : w'.heap[D]? = some o := (hb.block D (heap_lt h)).trans h
theorem bdrew {B : Nat} {a w : World} (h : Below B a w) : Below B a w.drew := ⟨h.os, h.tape, h.output, h.size, h.block⟩
theorem bdrewN {B : Nat} {a w : World} {n : Nat} (h : Below B a w) : Below B a (w.drewN n) := ⟨h.os, h.tape, h.output, h.size, h.block⟩
theorem b1alloc (w : World) (o : Obj) : Below w.heap.size w (w.alloc o) := (Below.refl _ _).alloc (Nat.le_refl _) _
theorem hnew {w : World} {o : Obj} {N : Nat} (h : w.heap.size = N) : (w.alloc o).heap[N]? = some o := by subst h; exact heap_alloc_new w o
/-- Integers: a slice that came in, read. -/
theorem IRow.pick {k : IntKind} {w w' : World} {a : Option Addr} {n c : Nat} {l : List Int} (h : IRow k w a n c l) (hb : Below w.heap.size w w') {i : Nat} (hi : i < n) :
    ∃ b off x, a = some ⟨b, off, none⟩ ∧ b < w.heap.size ∧ l[i]? = some x ∧ w'.cell? ⟨b, off + i, none⟩ = some (.int k x) := by
  obtain ⟨h1, h2, h3, h4, h5⟩ := h
  obtain ⟨b, off, e, hlt, hl⟩ := h5 (by omega)
  have hil : i < l.length := by omega
  refine ⟨b, off, l[i], e, hlt, List.getElem?_eq_getElem hil, ?_⟩
  rw [(bcell hb).1 b _ hlt, hl i hil]
  simp [List.getD_eq_getElem?_getD, List.getElem?_eq_getElem hil]
theorem IRow.len {k : IntKind} {w : World} {a : Option Addr} {n c : Nat} {l : List Int} (h : IRow k w a n c l) : n = l.length ∧ n ≤ 9223372036854775807 := by
  obtain ⟨h1, h2, h3, _⟩ := h
  unfold maxLen at h3
  exact ⟨h1, by omega⟩

end Go.Proofs.Ytjkkajhjcinalaa

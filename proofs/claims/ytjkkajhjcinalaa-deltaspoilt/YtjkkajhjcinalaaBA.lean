/-
  Runs in a world: a slice of runs, a row of one's own, parts of it, one run more behind it.
  Conditions: as each theorem states them.
-/
import Derived.Test.YtjkkajhjcinalaaBM
import Derived.Test.YtjkkajhjcinalaaRows
namespace Go.Proofs.Ytjkkajhjcinalaa
open Go.ChangeShapes Go.WideShapes Go.ChangeAt Go.RowKit
set_option linter.unusedVariables false
set_option linter.unusedSimpArgs false
set_option maxRecDepth 100000

def ncs (r : Rn) : List Value := [.int .i64 r.1, .int .i64 r.2]
def nok (r : Rn) : Prop := I64 r.1 ∧ I64 r.2
/-- A slice of runs, in a world. -/
def NRun (w : World) (a : Option Addr) (n c : Nat) (l : List Rn) : Prop :=
  n = l.length ∧ n ≤ c ∧ c ≤ maxLen ∧ (a = none → c = 0) ∧ (0 < n → ∃ b off, a = some ⟨b, off, none⟩ ∧ b < w.heap.size ∧ ∀ j r, l[j]? = some r → ∀ i v, (ncs r)[i]? = some v → w.cell? ⟨b, off + j * 2 + i, none⟩ = some v)
theorem NRun.below {w w' : World} {a : Option Addr} {n c : Nat} {l : List Rn} (h : NRun w a n c l) (hb : Below w.heap.size w w') : NRun w' a n c l := by
  obtain ⟨h1, h2, h3, h4, h5⟩ := h
  refine ⟨h1, h2, h3, h4, fun h0 => ?_⟩
  obtain ⟨b, off, e, hlt, hl⟩ := h5 h0
  exact ⟨b, off, e, Nat.lt_of_lt_of_le hlt hb.size, fun j r hj i v hi => ((bcell hb).1 b _ hlt).trans (hl j r hj i v hi)⟩
theorem nrun_nil (w : World) : NRun w none 0 0 [] := ⟨rfl, Nat.le_refl _, by decide, fun _ => rfl, fun h => by cases h⟩
theorem NRun.lens {w : World} {a : Option Addr} {n c : Nat} {l : List Rn} (h : NRun w a n c l) : n = l.length ∧ n ≤ 9223372036854775807 := by
  obtain ⟨h1, h2, h3, _⟩ := h
  unfold maxLen at h3
  exact ⟨h1, by omega⟩
/-- One run of it, read. -/
theorem NRun.pick {w w' : World} {a : Option Addr} {n c : Nat} {l : List Rn} (h : NRun w a n c l) (hb : Below w.heap.size w w') {k : Nat} (hk : k < n) :
    ∃ b off x0 x1, a = some ⟨b, off, none⟩ ∧ b < w.heap.size ∧ l[k]? = some (x0, x1) ∧ w'.cell? ⟨b, off + k * 2, none⟩ = some (.int .i64 x0) ∧ w'.cell? ⟨b, off + k * 2 + 1, none⟩ = some (.int .i64 x1) := by
  obtain ⟨h1, h2, h3, h4, h5⟩ := h.below hb
  obtain ⟨h1', _, _, _, h5'⟩ := h
  obtain ⟨b, off, e, hlt, hl⟩ := h5 (by omega)
  obtain ⟨b', off', e', hlt', _⟩ := h5' (by omega)
  rw [e] at e'
  cases e'
  obtain ⟨r, hr⟩ : ∃ r, l[k]? = some r := ⟨l[k]'(by omega), List.getElem?_eq_getElem (by omega)⟩
  obtain ⟨x0, x1⟩ := r
  have := hl k _ hr
  exact ⟨b, off, x0, x1, e, hlt', hr, this 0 _ rfl, this 1 _ rfl⟩
def ncells : List Rn → List Value
  | [] => []
  | r :: l => ncs r ++ ncells l
theorem ncs_len (r : Rn) : (ncs r).length = 2 := rfl
theorem ncells_len (l : List Rn) : (ncells l).length = l.length * 2 := by
  induction l with
  | nil => rfl
  | cons r l ih => simp only [ncells, List.length_append, ncs_len, List.length_cons, ih]; omega
theorem ncells_app (l m : List Rn) : ncells (l ++ m) = ncells l ++ ncells m := by
  induction l with
  | nil => rfl
  | cons r l ih => simp [ncells, ih]
theorem ncs_one (r : Rn) : ∀ u ∈ ncs r, u.oneCell' = true := by
  obtain ⟨a, b⟩ := r
  intro u hu
  simp only [ncs, List.mem_cons, List.not_mem_nil, or_false] at hu
  rcases hu with rfl | rfl <;> rfl
theorem ncells_one (l : List Rn) : ∀ u ∈ ncells l, u.oneCell' = true := by
  induction l with
  | nil => intro u hu; cases hu
  | cons r l ih =>
    intro u hu
    rcases List.mem_append.mp hu with hu | hu
    · exact ncs_one r u hu
    · exact ih u hu
theorem ncells_get {l : List Rn} {j : Nat} {r : Rn} (h : l[j]? = some r) {i : Nat} {v : Value} (hi : (ncs r)[i]? = some v) : (ncells l)[j * 2 + i]? = some v := by
  have hi6 : i < 2 := by have := (List.getElem?_eq_some_iff.1 hi).1; rw [ncs_len] at this; exact this
  induction l generalizing j with
  | nil => simp at h
  | cons q l ih =>
    cases j with
    | zero =>
      simp at h; subst h
      rw [ncells, List.getElem?_append_left (by rw [ncs_len]; omega), Nat.zero_mul, Nat.zero_add]; exact hi
    | succ j =>
      rw [ncells, List.getElem?_append_right (by rw [ncs_len]; omega), ncs_len, show (j + 1) * 2 + i - 2 = j * 2 + i by omega]
      exact ih (by simpa using h)
theorem ncells_inv {l : List Rn} {t : Nat} {v : Value} (h : (ncells l)[t]? = some v) : ∃ r, l[t / 2]? = some r ∧ (ncs r)[t % 2]? = some v := by
  induction l generalizing t with
  | nil => simp [ncells] at h
  | cons q l ih =>
    by_cases ht : t < 2
    · rw [ncells, List.getElem?_append_left (by rw [ncs_len]; omega)] at h
      exact ⟨q, by rw [Nat.div_eq_of_lt ht]; rfl, by rw [Nat.mod_eq_of_lt ht]; exact h⟩
    · rw [ncells, List.getElem?_append_right (by rw [ncs_len]; omega), ncs_len] at h
      obtain ⟨r, h1, h2⟩ := ih h
      refine ⟨r, ?_, ?_⟩
      · rw [show t / 2 = (t - 2) / 2 + 1 by omega]; simpa using h1
      · rw [show t % 2 = (t - 2) % 2 by omega]; exact h2
theorem info_nr : (Try.prog.info? 65).map (fun i => (i.zero, i.size, i.bytes)) = some (some (.agg #[.int .i64 0, .int .i64 0]), 2, 16) := by kernel_rfl
/-- A row of runs of one's own, nil or not. -/
abbrev OwnN (w : World) (base : Nat) (v : Value) (l : List Rn) : Prop := w.ownsRow base 65 2 v l.length (ncells l)
theorem own_nrun {w : World} {base g n cap : Nat} {l : List Rn} (h : w.ownsRow base 65 2 (.slice (some ⟨g, 0, none⟩) n cap) n (ncells l)) : NRun w (some ⟨g, 0, none⟩) n cap l := by
  have hn : n = l.length := by have := h.1; rw [ncells_len] at this; omega
  have hlt := (h.lt g rfl).2
  rcases h.2 with ⟨h', _⟩ | ⟨g', cap', cur, h', _, hg, hnc, hm, hcs, htake⟩
  · cases h'
  · cases h'
    refine ⟨hn, hnc, hm, (fun e => by cases e), fun _ => ⟨g, 0, rfl, hlt, fun j r hj i v hi => ?_⟩⟩
    have := h.cells (g := g) rfl (j * 2 + i) _ (ncells_get hj hi)
    rw [add_at] at this
    rw [Nat.add_assoc]; exact this
theorem nown_form {w : World} {base n : Nat} {v : Value} {xs : List Value} (h : w.ownsRow base 65 2 v n xs) (hne : ¬ v = .slice none 0 0) : ∃ g cap, v = .slice (some ⟨g, 0, none⟩) n cap := by
  rcases h.2 with ⟨h', _⟩ | ⟨g, cap, cur, h', _⟩
  · exact absurd h' hne
  · exact ⟨g, cap, h'⟩
/-- .. as the slice that it is. -/
theorem own_any {w : World} {base : Nat} {v : Value} {l : List Rn} (h : OwnN w base v l) : ∃ a cap, v = .slice a l.length cap ∧ NRun w a l.length cap l := by
  rcases h.2 with ⟨h', hn⟩ | ⟨g, cap, cur, h', _⟩
  · have hl : l = [] := List.length_eq_zero_iff.mp hn
    subst hl
    exact ⟨none, 0, h', nrun_nil w⟩
  · subst h'
    exact ⟨_, cap, rfl, own_nrun h⟩
theorem own_nil (w : World) (base : Nat) : OwnN w base (.slice none 0 0) [] := ⟨rfl, .inl ⟨rfl, rfl⟩⟩
theorem nrun_src {w : World} {ad : Addr} {m c : Nat} {l : List Rn} (h : NRun w (some ad) m c l) : ∀ j u, (ncells l)[j]? = some u → w.cell? (ad.add j) = some u := by
  intro j u hu
  obtain ⟨h1, h2, h3, h4, h5⟩ := h
  obtain ⟨r, hr, hi⟩ := ncells_inv hu
  have hlt : j / 2 < l.length := (List.getElem?_eq_some_iff.1 hr).1
  obtain ⟨b', off', e, hb, hl⟩ := h5 (by omega)
  cases e
  have := hl _ r hr _ u hi
  rw [add_at]
  rw [Nat.add_assoc, show j / 2 * 2 + j % 2 = j by omega] at this
  exact this
theorem nown_made (w : World) (base : Nat) (hb : base ≤ w.heap.size) : (w.alloc (.cells #[] 65)).ownsRow base 65 2 (.slice (some ⟨w.heap.size, 0, none⟩) 0 0) 0 (ncells []) :=
  World.ownsRow_made w #[] 0 hb (by decide) rfl
/-- One run more behind a row of one's own, nil or not: the run lies in a new block. -/
theorem append_run {w : World} {ops : Array Oper} {rest : List Oper} {o : Oper} {a : Act} {Q : Exit → Act → World → Prop} (hgd : o.guard = none) (s x : Operand)
    (ho : o.op = .call { callee := .builtin .append, args := #[s, x], argTypes := #[23, 23] }) (base : Nat) (v : Value) (xs : List Rn) (N : Nat) (p q : Int)
    (hs : a.eval s = v) (hown : OwnN w base v xs) (hx : a.eval x = .slice (some ⟨N, 0, none⟩) 1 1) (hN : w.heap[N]? = some (.cells #[.int .i64 p, .int .i64 q] 65)) (hn : xs.length ≤ 10000000000) (hbase : base ≤ w.heap.size)
    (h : ∀ v' w', OwnN w' base v' (xs ++ [(p, q)]) → w.grownBy w' v.ownBlock → wpList Try.prog ops Q rest (a.put o.dst v') w') : wpList Try.prog ops Q (o :: rest) a w := by
  obtain ⟨i0, hi, hz0, hz1, hz2⟩ := info_parts info_nr
  refine wpList_append_own w hgd s x 23 ho base 65 i0 _ 2 16 Try.underlying23 hi hz0 hz1 hz2 rfl (by decide) v xs.length (ncells xs) hs hown ⟨N, 0, none⟩ 1 1 [.int .i64 p, .int .i64 q] hx rfl ?_ ?_ (by unfold maxLen; omega) (by omega) hbase ?_
  · intro j u hu
    obtain ⟨c0, c1⟩ := box_two hN
    match j, hu with
    | 0, hu => simp at hu; subst hu; exact c0
    | 1, hu => simp at hu; subst hu; exact c1
  · intro u hu
    simp at hu
    rcases hu with rfl | rfl <;> rfl
  intro v' w' hown' hgrow' hiff
  refine h v' w' ?_ hgrow'
  have e1 : ncells xs ++ [.int .i64 p, .int .i64 q] = ncells (xs ++ [(p, q)]) := by rw [ncells_app]; rfl
  rw [e1] at hown'
  unfold OwnN
  rw [List.length_append]
  exact hown'
/-- The first so many of a slice of runs; the rest. -/
theorem restN {w : World} {a : Option Addr} {n c : Nat} {l : List Rn} (h : NRun w a n c l) (k : Nat) (hk : k ≤ n) :
    ∃ A, (∀ w', (Instr.slice 23 (.slice a n c) (some (.int .i64 k)) none none).run Try.prog w' = .ok (.slice A (n - k) (c - k)) w') ∧ NRun w A (n - k) (c - k) (l.drop k) := by
  obtain ⟨h1, h2, h3, h4, h5⟩ := h
  refine ⟨if c = k then a else a.map (·.add (k * 2)), fun w' => ?_, ?_⟩
  · rw [run_slice_l w' 23 a n c Try.underlying23 .i64 k (by omega) (by omega)]
    have hs : (sizeOf (Try.prog.elem 23)).run Try.prog w' = .ok 2 w' := Try.sizeOf65 w'
    rw [hs]
    simp [Result.andThen, sliced]
  · refine ⟨by rw [List.length_drop]; omega, by omega, by omega, ?_, fun h0 => ?_⟩
    · intro e
      by_cases hck : c = k
      · omega
      · rw [if_neg hck] at e
        cases a with
        | none => have := h4 rfl; omega
        | some ad => cases e
    · obtain ⟨b, off, rfl, hb, hl⟩ := h5 (by omega)
      have hck : ¬ c = k := by omega
      rw [if_neg hck]
      refine ⟨b, off + k * 2, ?_, hb, fun j r hj i v hi => ?_⟩
      · simp only [Option.map_some, add_at]
      · rw [List.getElem?_drop] at hj
        have := hl (k + j) r hj i v hi
        rw [show off + (k + j) * 2 + i = off + k * 2 + j * 2 + i by omega] at this
        exact this
/-- The same runs, from a block of one's own that nothing else writes into. -/
theorem NRun.grown {w w' : World} {a : Option Addr} {n c G : Nat} {l : List Rn} (h : NRun w a n c l) (hg : w.grownBy w' (some G)) (hne : ∀ b off, a = some ⟨b, off, none⟩ → ¬ b = G) : NRun w' a n c l := by
  obtain ⟨h1, h2, h3, h4, h5⟩ := h
  refine ⟨h1, h2, h3, h4, fun h0 => ?_⟩
  obtain ⟨b, off, e, hlt, hl⟩ := h5 h0
  exact ⟨b, off, e, Nat.lt_of_lt_of_le hlt hg.size, fun j r hj i v hi => (grown_cell hg hlt (fun e' => hne b off e (by cases e'; rfl))).trans (hl j r hj i v hi)⟩
/-- Runs written out, in a new block. -/
theorem nrun_heap {w : World} {N : Nat} {l : List Rn} {t : TypeId} (h : w.heap[N]? = some (.cells (ncells l).toArray t)) (hl : l.length ≤ 1000000) : NRun w (some ⟨N, 0, none⟩) l.length l.length l := by
  refine ⟨rfl, Nat.le_refl _, by unfold maxLen; omega, (fun e => by cases e), fun _ => ⟨N, 0, rfl, heap_lt h, fun j q hj i v hi => ?_⟩⟩
  rw [cell_of_row _ _ _ _ t (0, 0) h]
  have := ncells_get hj hi
  simpa using this
theorem eqN (a b x y : Int) (w : World) (n : Nat) : (Op.equalIn (n + 2) 65 (.agg #[.int .i64 a, .int .i64 b]) (.agg #[.int .i64 x, .int .i64 y])).run Try.prog w = .ok (a == x && b == y) w := by
  have u3 := Try.underlying2
  have a3 := Try.isAgg2
  have z3 := Try.sizeOf2
  rw [show n + 2 = (n + 1) + 1 from rfl, Op.equalIn]
  simp only [Sem.run_bind, run_underlying Try.underlying65, Result.andThen_ok]
  have hs : Try.prog.stoodInHeld 65 = false := by kernel_rfl
  have hp : Sem.run Try.prog program w = .ok Try.prog w := rfl
  simp only [hp, Result.andThen_ok, hs, Bool.false_eq_true, if_false, Sem.run_bind]
  simp only [← Array.forIn_toList, List.forIn_cons, List.forIn_nil]
  go_simp
  by_cases h1 : a = x <;> by_cases h2 : b = y <;> simp [h1, h2]
def qn (a b x y : Int) : Bool := a == x && b == y
theorem qn_iff {a b x y : Int} : qn a b x y = true ↔ a = x ∧ b = y := by unfold qn; simp
theorem eqN2 (a b x y : Int) (w : World) : (Op.equalIn 10000 65 (.agg #[.int .i64 a, .int .i64 b]) (.agg #[.int .i64 x, .int .i64 y])).run Try.prog w = .ok (qn a b x y) w := eqN a b x y w 9998

end Go.Proofs.Ytjkkajhjcinalaa

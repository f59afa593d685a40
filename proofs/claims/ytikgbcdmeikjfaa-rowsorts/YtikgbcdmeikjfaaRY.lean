/-
  Rows sorted: as lists; what slices.Clone, slices.SortFunc and row.Sort return.
  Conditions: as each theorem states them.
-/
import Derived.Test.YtikgbcdmeikjfaaRYa
import Derived.Test.YtikgbcdmeikjfaaRO
import Derived.Test.YtikgbcdmeikjfaaRM
namespace Go.Proofs.Ytikgbcdmeikjfaa
open Go.ChangeShapes Go.WideShapes Go.ChangeAt Go.RowKit
set_option linter.unusedVariables false
set_option linter.unusedSimpArgs false
set_option maxRecDepth 100000

/-- The cells of rows, one behind the other. -/
def rcells : List Rw → List Value
  | [] => []
  | r :: l => rcs r ++ rcells l
theorem rcs_len (r : Rw) : (rcs r).length = 6 := rfl
theorem rcells_len (l : List Rw) : (rcells l).length = l.length * 6 := by
  induction l with
  | nil => rfl
  | cons r l ih => simp only [rcells, List.length_append, rcs_len, List.length_cons, ih]; omega
theorem rcells_app (l m : List Rw) : rcells (l ++ m) = rcells l ++ rcells m := by
  induction l with
  | nil => rfl
  | cons r l ih => simp [rcells, ih]
theorem rcs_one (r : Rw) : ∀ u ∈ rcs r, u.oneCell' = true := by
  obtain ⟨a, b, c, d, e, f⟩ := r
  intro u hu
  simp only [rcs, List.mem_cons, List.not_mem_nil, or_false] at hu
  rcases hu with rfl | rfl | rfl | rfl | rfl | rfl <;> rfl
theorem rcells_one (l : List Rw) : ∀ u ∈ rcells l, u.oneCell' = true := by
  induction l with
  | nil => intro u hu; cases hu
  | cons r l ih =>
    intro u hu
    rcases List.mem_append.mp hu with hu | hu
    · exact rcs_one r u hu
    · exact ih u hu
theorem rcells_get {l : List Rw} {j : Nat} {r : Rw} (h : l[j]? = some r) {i : Nat} {v : Value} (hi : (rcs r)[i]? = some v) : (rcells l)[j * 6 + i]? = some v := by
  have hi6 : i < 6 := by have := (List.getElem?_eq_some_iff.1 hi).1; rw [rcs_len] at this; exact this
  induction l generalizing j with
  | nil => simp at h
  | cons q l ih =>
    cases j with
    | zero =>
      simp at h; subst h
      rw [rcells, List.getElem?_append_left (by rw [rcs_len]; omega), Nat.zero_mul, Nat.zero_add]; exact hi
    | succ j =>
      rw [rcells, List.getElem?_append_right (by rw [rcs_len]; omega), rcs_len, show (j + 1) * 6 + i - 6 = j * 6 + i by omega]
      exact ih (by simpa using h)
theorem rcells_inv {l : List Rw} {t : Nat} {v : Value} (h : (rcells l)[t]? = some v) : ∃ r, l[t / 6]? = some r ∧ (rcs r)[t % 6]? = some v := by
  induction l generalizing t with
  | nil => simp [rcells] at h
  | cons q l ih =>
    by_cases ht : t < 6
    · rw [rcells, List.getElem?_append_left (by rw [rcs_len]; omega)] at h
      exact ⟨q, by rw [Nat.div_eq_of_lt ht]; rfl, by rw [Nat.mod_eq_of_lt ht]; exact h⟩
    · rw [rcells, List.getElem?_append_right (by rw [rcs_len]; omega), rcs_len] at h
      obtain ⟨r, h1, h2⟩ := ih h
      refine ⟨r, ?_, ?_⟩
      · rw [show t / 6 = (t - 6) / 6 + 1 by omega]; simpa using h1
      · rw [show t % 6 = (t - 6) % 6 by omega]; exact h2
theorem info_rw : (Try.prog.info? 33).map (fun i => (i.zero, i.size, i.bytes)) = some (some (.agg #[.int .u8 0, .int .u8 0, .int .u8 0, .int .u8 0, .int .i64 0, .int .i64 0]), 6, 24) := by kernel_rfl
theorem own_rrow {w : World} {base g n cap : Nat} {l : List Rw} (h : w.ownsRow base 33 6 (.slice (some ⟨g, 0, none⟩) n cap) n (rcells l)) : RRow w (some ⟨g, 0, none⟩) n cap l := by
  have hn : n = l.length := by have := h.1; rw [rcells_len] at this; omega
  have hlt := (h.lt g rfl).2
  rcases h.2 with ⟨h', _⟩ | ⟨g', cap', cur, h', _, hg, hnc, hm, hcs, htake⟩
  · cases h'
  · cases h'
    refine ⟨hn, hnc, hm, (fun e => by cases e), fun _ => ⟨g, 0, rfl, hlt, fun j r hj i v hi => ?_⟩⟩
    have := h.cells (g := g) rfl (j * 6 + i) _ (rcells_get hj hi)
    rw [add_at] at this
    rw [Nat.add_assoc]; exact this
theorem rrow_src {w : World} {b off m c : Nat} {l : List Rw} (h : RRow w (some ⟨b, off, none⟩) m c l) : ∀ j u, (rcells l)[j]? = some u → w.cell? ((⟨b, off, none⟩ : Addr).add j) = some u := by
  intro j u hu
  obtain ⟨h1, h2, h3, h4, h5⟩ := h
  obtain ⟨r, hr, hi⟩ := rcells_inv hu
  have hlt : j / 6 < l.length := (List.getElem?_eq_some_iff.1 hr).1
  obtain ⟨b', off', e, hb, hl⟩ := h5 (by omega)
  cases e
  have := hl _ r hr _ u hi
  rw [add_at]
  rw [Nat.add_assoc, show j / 6 * 6 + j % 6 = j by omega] at this
  exact this
theorem rrow_src0 {w : World} {ad : Addr} {m c : Nat} {l : List Rw} (h : RRow w (some ad) m c l) : ∀ j u, (rcells l)[j]? = some u → w.cell? (ad.add j) = some u := by
  intro j u hu
  have h' := h
  obtain ⟨h1, h2, h3, h4, h5⟩ := h'
  obtain ⟨r, hr, hi⟩ := rcells_inv hu
  have hlt : j / 6 < l.length := (List.getElem?_eq_some_iff.1 hr).1
  obtain ⟨b', off', e, hb, hl⟩ := h5 (by omega)
  cases e
  exact rrow_src h j u hu
theorem rown_form {w : World} {base n : Nat} {v : Value} {xs : List Value} (h : w.ownsRow base 33 6 v n xs) (hne : ¬ v = .slice none 0 0) : ∃ g cap, v = .slice (some ⟨g, 0, none⟩) n cap := by
  rcases h.2 with ⟨h', _⟩ | ⟨g, cap, cur, h', _⟩
  · exact absurd h' hne
  · exact ⟨g, cap, h'⟩
theorem rown_made (w : World) (base : Nat) (hb : base ≤ w.heap.size) : (w.alloc (.cells #[] 33)).ownsRow base 33 6 (.slice (some ⟨w.heap.size, 0, none⟩) 0 0) 0 (rcells []) :=
  World.ownsRow_made w #[] 0 hb (by decide) rfl
/-- An append of any slice of rows to a row of one's own. -/
theorem append_rrow {w : World} {ops : Array Oper} {rest : List Oper} {o : Oper} {a : Act} {Q : Exit → Act → World → Prop} (hgd : o.guard = none) (s x : Operand)
    (ho : o.op = .call { callee := .builtin .append, args := #[s, x], argTypes := #[25, 25] }) (base g n cap : Nat) (xs : List Rw)
    (hs : a.eval s = .slice (some ⟨g, 0, none⟩) n cap) (hown : w.ownsRow base 33 6 (.slice (some ⟨g, 0, none⟩) n cap) n (rcells xs))
    (sa : Option Addr) (m c : Nat) (ys : List Rw) (hx : a.eval x = .slice sa m c) (hr : RRow w sa m c ys) (hn : n + m ≤ 1000000) (hbase : base ≤ w.heap.size)
    (h : ∀ g' cap' w', w'.ownsRow base 33 6 (.slice (some ⟨g', 0, none⟩) (n + m) cap') (n + m) (rcells (xs ++ ys)) → w.grownBy w' (some g) → wpList Try.prog ops Q rest (a.put o.dst (.slice (some ⟨g', 0, none⟩) (n + m) cap')) w') : wpList Try.prog ops Q (o :: rest) a w := by
  obtain ⟨i0, hi, hz0, hz1, hz2⟩ := info_parts info_rw
  cases sa with
  | none =>
    obtain ⟨r1, r2, r3, r4, r5⟩ := hr
    obtain rfl : c = 0 := r4 rfl
    obtain rfl : m = 0 := by omega
    have hy : ys = [] := List.length_eq_zero_iff.mp r1.symm
    subst hy
    refine wpList_append_own_none hgd s x 25 ho base 33 i0 6 Try.underlying25 hi _ n (rcells xs) hs hown hx ?_
    have := h g cap w (by simpa using hown) ⟨rfl, rfl, rfl, Nat.le_refl _, fun _ _ _ => rfl⟩
    simpa using this
  | some ad =>
    refine wpList_append_own w hgd s x 25 ho base 33 i0 _ 6 24 Try.underlying25 hi hz0 hz1 hz2 rfl (by decide) _ n (rcells xs) hs hown ad m c (rcells ys) hx (by rw [rcells_len, hr.1]) (rrow_src0 hr) (rcells_one _) (by unfold maxLen; omega) (by omega) hbase ?_
    intro v' w' hown' hgrow' hiff
    obtain ⟨g', cap', rfl⟩ := rown_form hown' (fun e => by have := (hiff.mp e).1; cases this)
    rw [← rcells_app] at hown'
    exact h g' cap' w' hown' hgrow'

/-- Rows in their order. -/
def srt (l : List Rw) : List Rw := l.mergeSort (fun x y => !rlt y x)
/-- Rows that are numbers of their kinds. -/
abbrev Rk := { r : Rw // rok r }
def rk0 : Rk := ⟨(0, 0, 0, 0, 0, 0), rok0⟩
theorem rlt_of (x y : Rk) : ltOf (fun x y : Rk => rcmp x.1 y.1) x y = rlt x.1 y.1 := rfl
theorem rlt_ntrans {r s t : Rw} (h : rlt r s = false) (h' : rlt s t = false) : rlt r t = false := by
  rw [rlt_dec, decide_eq_false_iff_not] at h h' ⊢
  omega
theorem rlt_self' (r : Rw) : rlt r r = false := by rw [rlt_dec, decide_eq_false_iff_not]; omega
theorem rlt_trans' {r s t : Rw} (h : rlt r s = true) (h' : rlt s t = true) : rlt r t = true := by
  rw [rlt_dec, decide_eq_true_iff] at h h' ⊢
  omega
theorem swo_rw : Go.Sort.SWO (ltOf fun x y : Rk => rcmp x.1 y.1) :=
  ⟨fun x => rlt_self' x.1, fun x y z h1 h2 => rlt_trans' (s := y.1) h1 h2, fun x y z h1 h2 => rlt_ntrans (s := y.1) h1 h2⟩

end Go.Proofs.Ytikgbcdmeikjfaa

/-
  Rows put behind rows; lines held against each other; the small functions of the laws of cell.
  Conditions: as each theorem states them.
-/
import Derived.Test.YtgmnnpecihcdhaaL9
import Derived.Test.YtgmnnpecihcdhaaO9
import Derived.Test.YtgmnnpecihcdhaaF9
import Derived.Laws.Cover1
namespace Go.Proofs.Ytgmnnpecihcdhaa
open Go.ChangeShapes Go.WideShapes Go.ChangeAt Go.RowKit
set_option linter.unusedVariables false
set_option linter.unusedSimpArgs false
set_option maxRecDepth 100000

def rcells : List Rw → List Value
  | [] => []
  | r :: l => rcs r ++ rcells l
theorem rcs_len (r : Rw) : (rcs r).length = 6 := rfl
theorem rcells_len (l : List Rw) : (rcells l).length = l.length * 6 := by
  induction l with
  | nil => rfl
  | cons r l ih => simp only [rcells, List.length_append, rcs_len, List.length_cons, ih]; omega
theorem rcells_app (l m : List Rw) : rcells (l ++ m) = rcells l ++ rcells m := by
  induction l with
  | nil => rfl
  | cons r l ih => simp [rcells, ih]
theorem rcs_one (r : Rw) : ∀ u ∈ rcs r, u.oneCell' = true := by
  obtain ⟨a, b, c, d, e, f⟩ := r
  intro u hu
  simp only [rcs, List.mem_cons, List.not_mem_nil, or_false] at hu
  rcases hu with rfl | rfl | rfl | rfl | rfl | rfl <;> rfl
theorem rcells_one (l : List Rw) : ∀ u ∈ rcells l, u.oneCell' = true := by
  induction l with
  | nil => intro u hu; cases hu
  | cons r l ih =>
    intro u hu
    rcases List.mem_append.mp hu with hu | hu
    · exact rcs_one r u hu
    · exact ih u hu
theorem rcells_get {l : List Rw} {j : Nat} {r : Rw} (h : l[j]? = some r) {i : Nat} {v : Value} (hi : (rcs r)[i]? = some v) : (rcells l)[j * 6 + i]? = some v := by
  have hi6 : i < 6 := by have := (List.getElem?_eq_some_iff.1 hi).1; rw [rcs_len] at this; exact this
  induction l generalizing j with
  | nil => simp at h
  | cons q l ih =>
    cases j with
    | zero =>
      simp at h; subst h
      rw [rcells, List.getElem?_append_left (by rw [rcs_len]; omega), Nat.zero_mul, Nat.zero_add]; exact hi
    | succ j =>
      rw [rcells, List.getElem?_append_right (by rw [rcs_len]; omega), rcs_len, show (j + 1) * 6 + i - 6 = j * 6 + i by omega]
      exact ih (by simpa using h)
theorem rcells_inv {l : List Rw} {t : Nat} {v : Value} (h : (rcells l)[t]? = some v) : ∃ r, l[t / 6]? = some r ∧ (rcs r)[t % 6]? = some v := by
  induction l generalizing t with
  | nil => simp [rcells] at h
  | cons q l ih =>
    by_cases ht : t < 6
    · rw [rcells, List.getElem?_append_left (by rw [rcs_len]; omega)] at h
      exact ⟨q, by rw [Nat.div_eq_of_lt ht]; rfl, by rw [Nat.mod_eq_of_lt ht]; exact h⟩
    · rw [rcells, List.getElem?_append_right (by rw [rcs_len]; omega), rcs_len] at h
      obtain ⟨r, h1, h2⟩ := ih h
      refine ⟨r, ?_, ?_⟩
      · rw [show t / 6 = (t - 6) / 6 + 1 by omega]; simpa using h1
      · rw [show t % 6 = (t - 6) % 6 by omega]; exact h2
theorem info_rw : (Try.prog.info? 53).map (fun i => (i.zero, i.size, i.bytes)) = some (some (.agg #[.int .u8 0, .int .u8 0, .int .u8 0, .int .u8 0, .int .i64 0, .int .i64 0]), 6, 24) := by kernel_rfl
theorem own_rrow {w : World} {base g n cap : Nat} {l : List Rw} (h : w.ownsRow base 53 6 (.slice (some ⟨g, 0, none⟩) n cap) n (rcells l)) : RRow w (some ⟨g, 0, none⟩) n cap l := by
  have hn : n = l.length := by have := h.1; rw [rcells_len] at this; omega
  have hlt := (h.lt g rfl).2
  rcases h.2 with ⟨h', _⟩ | ⟨g', cap', cur, h', _, hg, hnc, hm, hcs, htake⟩
  · cases h'
  · cases h'
    refine ⟨hn, hnc, hm, (fun e => by cases e), fun _ => ⟨g, 0, rfl, hlt, fun j r hj i v hi => ?_⟩⟩
    have := h.cells (g := g) rfl (j * 6 + i) _ (rcells_get hj hi)
    rw [add_at] at this
    rw [Nat.add_assoc]; exact this
theorem rrow_src {w : World} {b off m c : Nat} {l : List Rw} (h : RRow w (some ⟨b, off, none⟩) m c l) : ∀ j u, (rcells l)[j]? = some u → w.cell? ((⟨b, off, none⟩ : Addr).add j) = some u := by
  intro j u hu
  obtain ⟨h1, h2, h3, h4, h5⟩ := h
  obtain ⟨r, hr, hi⟩ := rcells_inv hu
  have hlt : j / 6 < l.length := (List.getElem?_eq_some_iff.1 hr).1
  obtain ⟨b', off', e, hb, hl⟩ := h5 (by omega)
  cases e
  have := hl _ r hr _ u hi
  rw [add_at]
  rw [Nat.add_assoc, show j / 6 * 6 + j % 6 = j by omega] at this
  exact this
theorem rrow_src0 {w : World} {ad : Addr} {m c : Nat} {l : List Rw} (h : RRow w (some ad) m c l) : ∀ j u, (rcells l)[j]? = some u → w.cell? (ad.add j) = some u := by
  intro j u hu
  have h' := h
  obtain ⟨h1, h2, h3, h4, h5⟩ := h'
  obtain ⟨r, hr, hi⟩ := rcells_inv hu
  have hlt : j / 6 < l.length := (List.getElem?_eq_some_iff.1 hr).1
  obtain ⟨b', off', e, hb, hl⟩ := h5 (by omega)
  cases e
  exact rrow_src h j u hu
theorem rown_form {w : World} {base n : Nat} {v : Value} {xs : List Value} (h : w.ownsRow base 53 6 v n xs) (hne : ¬ v = .slice none 0 0) : ∃ g cap, v = .slice (some ⟨g, 0, none⟩) n cap := by
  rcases h.2 with ⟨h', _⟩ | ⟨g, cap, cur, h', _⟩
  · exact absurd h' hne
  · exact ⟨g, cap, h'⟩
theorem rown_made (w : World) (base : Nat) (hb : base ≤ w.heap.size) : (w.alloc (.cells #[] 53)).ownsRow base 53 6 (.slice (some ⟨w.heap.size, 0, none⟩) 0 0) 0 (rcells []) :=
  World.ownsRow_made w #[] 0 hb (by decide) rfl
/-- An append of any slice of rows to a row of one's own. -/
theorem append_rrow {w : World} {ops : Array Oper} {rest : List Oper} {o : Oper} {a : Act} {Q : Exit → Act → World → Prop} (hgd : o.guard = none) (s x : Operand)
    (ho : o.op = .call { callee := .builtin .append, args := #[s, x], argTypes := #[31, 31] }) (base g n cap : Nat) (xs : List Rw)
    (hs : a.eval s = .slice (some ⟨g, 0, none⟩) n cap) (hown : w.ownsRow base 53 6 (.slice (some ⟨g, 0, none⟩) n cap) n (rcells xs))
    (sa : Option Addr) (m c : Nat) (ys : List Rw) (hx : a.eval x = .slice sa m c) (hr : RRow w sa m c ys) (hn : n + m ≤ 1000000) (hbase : base ≤ w.heap.size)
    (h : ∀ g' cap' w', w'.ownsRow base 53 6 (.slice (some ⟨g', 0, none⟩) (n + m) cap') (n + m) (rcells (xs ++ ys)) → w.grownBy w' (some g) → wpList Try.prog ops Q rest (a.put o.dst (.slice (some ⟨g', 0, none⟩) (n + m) cap')) w') : wpList Try.prog ops Q (o :: rest) a w := by
  obtain ⟨i0, hi, hz0, hz1, hz2⟩ := info_parts info_rw
  cases sa with
  | none =>
    obtain ⟨r1, r2, r3, r4, r5⟩ := hr
    obtain rfl : c = 0 := r4 rfl
    obtain rfl : m = 0 := by omega
    have hy : ys = [] := List.length_eq_zero_iff.mp r1.symm
    subst hy
    refine wpList_append_own_none hgd s x 31 ho base 53 i0 6 Try.underlying31 hi _ n (rcells xs) hs hown hx ?_
    have := h g cap w (by simpa using hown) ⟨rfl, rfl, rfl, Nat.le_refl _, fun _ _ _ => rfl⟩
    simpa using this
  | some ad =>
    refine wpList_append_own w hgd s x 31 ho base 53 i0 _ 6 24 Try.underlying31 hi hz0 hz1 hz2 rfl (by decide) _ n (rcells xs) hs hown ad m c (rcells ys) hx (by rw [rcells_len, hr.1]) (rrow_src0 hr) (rcells_one _) (by unfold maxLen; omega) (by omega) hbase ?_
    intro v' w' hown' hgrow' hiff
    obtain ⟨g', cap', rfl⟩ := rown_form hown' (fun e => by have := (hiff.mp e).1; cases this)
    rw [← rcells_app] at hown'
    exact h g' cap' w' hown' hgrow'

theorem firstR {w : World} {a : Option Addr} {n c : Nat} {l : List Rw} (h : RRow w a n c l) (k : Nat) (hk : k ≤ n) :
    (∀ w', (Instr.slice 31 (.slice a n c) none (some (.int .i64 k)) none).run Try.prog w' = .ok (.slice a k c) w') ∧ RRow w a k c (l.take k) := by
  obtain ⟨h1, h2, h3, h4, h5⟩ := h
  refine ⟨fun w' => ?_, ?_⟩
  · rw [run_slice_h w' 31 a n c Try.underlying31 .i64 k (by omega) (by omega)]
    have hs : (sizeOf (Try.prog.elem 31)).run Try.prog w' = .ok 6 w' := Try.sizeOf53 w'
    rw [hs]
    cases a with
    | none => simp [Result.andThen, sliced]
    | some ad => simp [Result.andThen, sliced, Addr.add]
  · refine ⟨by rw [List.length_take]; omega, by omega, h3, h4, fun h0 => ?_⟩
    obtain ⟨b, off, e, hb, hl⟩ := h5 (by omega)
    refine ⟨b, off, e, hb, fun j r hj i v hi => hl j r ?_ i v hi⟩
    rw [List.getElem?_take] at hj
    by_cases hjk : j < k
    · rw [if_pos hjk] at hj; exact hj
    · rw [if_neg hjk] at hj; cases hj
theorem rrow_two (w : World) (r s : Rw) (N : Nat) (hN : w.heap.size = N) (t : TypeId) : RRow (w.alloc (.cells (rcs r ++ rcs s).toArray t)) (some ⟨N, 0, none⟩) 2 2 [r, s] := by
  subst hN
  refine ⟨rfl, Nat.le_refl _, by decide, (fun e => by cases e), fun _ => ⟨w.heap.size, 0, rfl, by simp, fun j q hj i v hi => ?_⟩⟩
  have hg := heap_alloc_new w (.cells (rcs r ++ rcs s).toArray t)
  rw [cell_of_row _ _ _ _ t (0, 0) hg]
  obtain ⟨a, b, c, d, e, f⟩ := r
  obtain ⟨a', b', c', d', e', f'⟩ := s
  match j, hj with
  | 0, hj =>
    simp at hj; subst hj
    match i, hi with
    | 0, hi => exact hi
    | 1, hi => exact hi
    | 2, hi => exact hi
    | 3, hi => exact hi
    | 4, hi => exact hi
    | 5, hi => exact hi
    | i + 6, hi => simp [rcs] at hi
  | 1, hj =>
    simp at hj; subst hj
    match i, hi with
    | 0, hi => exact hi
    | 1, hi => exact hi
    | 2, hi => exact hi
    | 3, hi => exact hi
    | 4, hi => exact hi
    | 5, hi => exact hi
    | i + 6, hi => simp [rcs] at hi
theorem eqP (a b c d x y z u : Int) (w : World) (n : Nat) : (Op.equalIn (n + 2) 28 (.agg #[.int .u8 a, .int .u8 b, .int .u8 c, .int .u8 d]) (.agg #[.int .u8 x, .int .u8 y, .int .u8 z, .int .u8 u])).run Try.prog w = .ok (a == x && (b == y && (c == z && d == u))) w := by
  have u3 := Try.underlying5
  have a3 := Try.isAgg5
  have z3 := Try.sizeOf5
  rw [show n + 2 = (n + 1) + 1 from rfl, Op.equalIn]
  simp only [Sem.run_bind, run_underlying Try.underlying28, Result.andThen_ok]
  simp only [Std.Legacy.Range.forIn_eq_forIn_range', Std.Legacy.Range.size, Nat.sub_zero, Nat.add_sub_cancel, Nat.div_one, List.range'_succ, List.range'_zero, List.forIn_cons, List.forIn_nil]
  go_simp
  by_cases h1 : a = x <;> by_cases h2 : b = y <;> by_cases h3 : c = z <;> by_cases h4 : d = u <;> simp [h1, h2, h3, h4]
theorem rown_at (w : World) (base N : Nat) (hN : N = w.heap.size) (hb : base ≤ w.heap.size) : (w.alloc (.cells #[] 53)).ownsRow base 53 6 (.slice (some ⟨N, 0, none⟩) 0 0) 0 (rcells []) := by subst hN; exact rown_made w base hb
def qp (a b c d x y z u : Int) : Bool := a == x && (b == y && (c == z && d == u))
theorem eqP4 (a b c d x y z u : Int) (w : World) : (Op.equalIn 10000 28 (.agg #[.int .u8 a, .int .u8 b, .int .u8 c, .int .u8 d]) (.agg #[.int .u8 x, .int .u8 y, .int .u8 z, .int .u8 u])).run Try.prog w = .ok (qp a b c d x y z u) w := eqP a b c d x y z u w 9998
theorem eqL (x0 x1 x2 x3 n s0 s1 a0 a1 b0 b1 : Int) (w : World) (k : Nat) : (Op.equalIn (k + 3) 44 (.agg (lnC x0 x1 x2 x3 n s0 s1 a0 a1 b0 b1)) (.agg (lnC x0 x1 x2 x3 n s0 s1 a0 a1 b0 b1))).run Try.prog w = .ok true w := by
  have a3 := Try.isAgg28
  have z3 := Try.sizeOf28
  have a4 := Try.isAgg22
  have z4 := Try.sizeOf22
  have a5 := Try.isAgg2
  have z5 := Try.sizeOf2
  have u5 := Try.underlying2
  have e1 := eqP x0 x1 x2 x3 x0 x1 x2 x3 w k
  have e2 := eqM s0 s1 s0 s1 w k
  have e3 := eqM a0 a1 a0 a1 w k
  have e4 := eqM b0 b1 b0 b1 w k
  rw [show k + 3 = (k + 2) + 1 from rfl, Op.equalIn]
  simp only [Sem.run_bind, run_underlying Try.underlying44, Result.andThen_ok]
  have hs : Try.prog.stoodInHeld 44 = false := by kernel_rfl
  have hp : Sem.run Try.prog program w = .ok Try.prog w := rfl
  simp only [hp, Result.andThen_ok, hs, Bool.false_eq_true, if_false, Sem.run_bind]
  simp only [← Array.forIn_toList, List.forIn_cons, List.forIn_nil]
  go_simp
theorem eqL2 (x0 x1 x2 x3 n s0 s1 a0 a1 b0 b1 : Int) (w : World) : (Op.equalIn 10000 44 (.agg (lnC x0 x1 x2 x3 n s0 s1 a0 a1 b0 b1)) (.agg (lnC x0 x1 x2 x3 n s0 s1 a0 a1 b0 b1))).run Try.prog w = .ok true w := eqL x0 x1 x2 x3 n s0 s1 a0 a1 b0 b1 w 9997

theorem many_m (t : Bool) (m : Int) (w : World) (hm : Hid ((if t then 2 else 1) = m)) : Calls Try.prog 26 #[.bool t] w fun e w' => e = .returned (.int .i64 m) ∧ w' = w := by
  have h := hm.out
  subst h
  clear hm
  cases t with
  | false =>
    go_enter Try.func26, Try.ntmps26
    go_wp2
    go_ret
    exact ⟨rfl, rfl⟩
  | true =>
    go_enter Try.func26, Try.ntmps26
    go_wp2
    go_ret
    exact ⟨rfl, rfl⟩
set_option maxHeartbeats 4000000 in
theorem light_m (c : Cl) (a0 : Option Addr) (p0 k0 : Nat) (a1 : Option Addr) (p1 k1 : Nat) (v : Bool) (w : World) (h0 : p0 ≤ 9223372036854775807) (h1 : p1 ≤ 9223372036854775807) (hv : Hid (decide (p0 ≤ 60 ∧ p1 ≤ 60) = v)) :
    Calls Try.prog 14 #[.agg #[.int .i64 c.n, .int .i64 c.s0, .int .i64 c.s1, .slice a0 p0 k0, .slice a1 p1 k1]] w fun e w' => e = .returned (.bool v) ∧ Below w.heap.size w w' := by
  have K0 := hid (kp_new w (.cells #[.int .i64 c.n, .int .i64 c.s0, .int .i64 c.s1, .slice a0 p0 k0, .slice a1 p1 k1] 26))
  obtain ⟨X, hX⟩ : ∃ y, max (0 : Int) (p0 : Int) = y := ⟨_, rfl⟩
  obtain ⟨Y, hY⟩ : ∃ y, max X (p1 : Int) = y := ⟨_, rfl⟩
  have hd : decide (Y ≤ 60) = v := by rw [← hv.out]; exact decide_eq_decide.2 (by omega)
  have hX2 : (p0 : Int) = X := by omega
  have e1 : max (0 : Int) (p0 : Int) = (p0 : Int) := by omega
  have FX := hid hX2
  clear hX hX2 e1 hv
  rw [← FX.out] at hY
  clear FX
  go_enter Try.func14, Try.ntmps14
  go_upto_region 1 with fail
  generalize w.alloc (.cells #[.int .i64 c.n, .int .i64 c.s0, .int .i64 c.s1, .slice a0 p0 k0, .slice a1 p1 k1] 26) = W at K0 ⊢
  obtain ⟨d0, d1, d2, d3, d4⟩ := box_five K0.out.2.2
  go_upto_region 3 with fail
  refine wp_loop_rounds 3 ?_
  rw [rounds_succ]
  go_wp2
  rw [rounds_succ]
  go_wp2
  rw [rounds_succ]
  go_wp2
  go_ret
  exact ⟨by first | rfl | exact ret_bool hd, K0.out.1⟩

end Go.Proofs.Ytgmnnpecihcdhaa

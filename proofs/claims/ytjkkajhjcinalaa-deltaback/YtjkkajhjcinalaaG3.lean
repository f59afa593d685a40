/-
  Cells as numbers and bags: may they be, the cell of rows, both together, what is told of them.
  Deltas as numbers and bags: may they be, what is common, both together, the other way round, what a cell becomes, what parts two.
  The ways of Join and of Minus, as lists; what bag.laid returns of a run that is none below the last one.
  Conditions: as each theorem states them.
-/
import Derived.Test.YtjkkajhjcinalaaBR
import Derived.Test.YtjkkajhjcinalaaBK
import Derived.Test.YtjkkajhjcinalaaG1
namespace Go.Proofs.Ytjkkajhjcinalaa
open Go.RowKit
set_option linter.unusedVariables false
set_option linter.unusedSimpArgs false
set_option maxRecDepth 100000

/-- A cell: how many rows; of two measures the sum and the values. -/
structure Cl where
  n : Int
  s0 : Int
  s1 : Int
  b0 : List Rn
  b1 : List Rn
def cl0 : Cl := ⟨0, 0, 0, [], []⟩
/-- One measure of it, reckoned. -/
def Rk1 (n s : Int) (b : List Rn) : Prop := Bag b ∧ tot b = n ∧ wsum b = s
def rk (n s : Int) (b : List Rn) : Bool := gd b && (decide (tot b = n) && decide (wsum b = s))
theorem rk_iff {n s : Int} {b : List Rn} : rk n s b = true ↔ Rk1 n s b := by
  unfold rk Rk1; simp only [Bool.and_eq_true, decide_eq_true_iff, gd_iff]
theorem rk_yes {n s : Int} {b : List Rn} (h : Rk1 n s b) : rk n s b = true := rk_iff.2 h
theorem rk_no {n s : Int} {b : List Rn} (h : ¬ Rk1 n s b) : rk n s b = false := by
  cases e : rk n s b with
  | false => rfl
  | true => exact absurd (rk_iff.1 e) h
/-- May it be, of so many measures? -/
def CG (m : Int) (c : Cl) : Prop := (1 ≤ c.n ∧ c.n ≤ 1099511627776) ∧ Rk1 c.n c.s0 c.b0 ∧ ((m = 1 ∧ c.s1 = 0 ∧ c.b1 = []) ∨ (m = 2 ∧ Rk1 c.n c.s1 c.b1))
def cg (m : Int) (c : Cl) : Bool := decide (1 ≤ c.n ∧ c.n ≤ 1099511627776) && (rk c.n c.s0 c.b0 && ((decide (m = 1) && (decide (c.s1 = 0) && c.b1.isEmpty)) || (decide (m = 2) && rk c.n c.s1 c.b1)))
theorem cg_iff {m : Int} {c : Cl} : cg m c = true ↔ CG m c := by
  unfold cg CG
  simp only [Bool.and_eq_true, Bool.or_eq_true, decide_eq_true_iff, rk_iff, List.isEmpty_iff]
theorem cg_yes {m : Int} {c : Cl} (h : CG m c) : cg m c = true := cg_iff.2 h
theorem cg_no {m : Int} {c : Cl} (h : ¬ CG m c) : cg m c = false := by
  cases e : cg m c with
  | false => rfl
  | true => exact absurd (cg_iff.1 e) h
theorem cg_m {m : Int} {c : Cl} (h : cg m c = true) : m = 1 ∨ m = 2 := by
  rcases (cg_iff.1 h).2.2 with h | h
  · exact .inl h.1
  · exact .inr h.1
theorem cg_not {m : Int} (c : Cl) (h : ¬ (m = 1 ∨ m = 2)) : cg m c = false := cg_no (fun g => h (cg_m (cg_yes g)))
theorem cg_cl0 (m : Int) : cg m cl0 = false := cg_no (fun g => by have := g.1.1; simp [cl0] at this)
/-- Alike in all? -/
def csm (a b : Cl) : Bool := decide (a.n = b.n) && ((decide (a.s0 = b.s0) && decide (a.s1 = b.s1)) && (sm a.b0 b.b0 && sm a.b1 b.b1))
theorem sm_iff {a b : List Rn} : sm a b = true ↔ a = b := by
  constructor
  · intro h; unfold sm at h; exact of_decide_eq_true h
  · exact sm_yes
theorem csm_iff {a b : Cl} : csm a b = true ↔ a = b := by
  obtain ⟨n, s, t, x, y⟩ := a
  obtain ⟨n', s', t', x', y'⟩ := b
  unfold csm
  simp only [Bool.and_eq_true, decide_eq_true_iff, sm_iff, Cl.mk.injEq, and_assoc]
theorem csm_self (a : Cl) : csm a a = true := csm_iff.2 rfl
theorem csm_no {a b : Cl} (h : ¬ a = b) : csm a b = false := by
  cases e : csm a b with
  | false => rfl
  | true => exact absurd (csm_iff.1 e) h
theorem csm_comm (a b : Cl) : csm a b = csm b a := by
  by_cases h : a = b
  · subst h; rfl
  · rw [csm_no h, csm_no (fun e => h e.symm)]

/-! The cell of rows. -/
/-- A row: a place, two measures. -/
abbrev Rw := Int × Int × Int × Int × Int × Int
def rm0 : Rw → Int | (_, _, _, _, m, _) => m
def rm1 : Rw → Int | (_, _, _, _, _, m) => m
def rok : Rw → Prop | (a, b, c, d, m, n) => (U8 a ∧ U8 b ∧ U8 c ∧ U8 d) ∧ I64 m ∧ I64 n
def rcs : Rw → List Value | (a, b, c, d, m, n) => [.int .u8 a, .int .u8 b, .int .u8 c, .int .u8 d, .int .i64 m, .int .i64 n]
def V0 (l : List Rw) : List Int := l.map rm0
def V1 (l : List Rw) : List Int := l.map rm1
theorem V0_i64 {l : List Rw} (h : ∀ r ∈ l, rok r) : ∀ x ∈ V0 l, I64 x := by
  intro x hx
  obtain ⟨r, hr, rfl⟩ := List.mem_map.1 hx
  obtain ⟨a, b, c, d, m, n⟩ := r
  exact (h _ hr).2.1
theorem V1_i64 {l : List Rw} (h : ∀ r ∈ l, rok r) : ∀ x ∈ V1 l, I64 x := by
  intro x hx
  obtain ⟨r, hr, rfl⟩ := List.mem_map.1 hx
  obtain ⟨a, b, c, d, m, n⟩ := r
  exact (h _ hr).2.2
theorem V0_len (l : List Rw) : (V0 l).length = l.length := by unfold V0; simp
theorem V1_len (l : List Rw) : (V1 l).length = l.length := by unfold V1; simp
theorem sum_fold (l : List Int) : l.foldr (· + ·) 0 = calc.sumI l := by
  induction l with
  | nil => rfl
  | cons x l ih => simp only [List.foldr_cons, calc.sumI, ih]
theorem bagOf_wsum (l : List Int) : wsum (bagOf l) = calc.sumI l := by
  unfold bagOf; rw [ofl_wsum, sum_fold]; simp [wsum]
theorem sumI_app (l m : List Int) : calc.sumI (l ++ m) = calc.sumI l + calc.sumI m := by
  induction l with
  | nil => simp [calc.sumI]
  | cons x l ih => simp only [List.cons_append, calc.sumI, ih]; omega
/-- Is there one? -/
def ofB (m : Int) (l : List Rw) : Bool := ((decide (m = 1) || decide (m = 2)) && !l.isEmpty) && (calc.fitB (calc.sumI (V0 l)) && (decide (m = 1) || calc.fitB (calc.sumI (V1 l))))
/-- The one that it would be. -/
def ofR (m : Int) (l : List Rw) : Cl := ⟨l.length, calc.sumI (V0 l), if m = 2 then calc.sumI (V1 l) else 0, bagOf (V0 l), if m = 2 then bagOf (V1 l) else []⟩
def ofC (m : Int) (l : List Rw) : Cl := if ofB m l then ofR m l else cl0
theorem ofC_yes {m : Int} {l : List Rw} (h : ofB m l = true) : ofC m l = ofR m l := by unfold ofC; rw [h]; rfl
theorem ofC_no {m : Int} {l : List Rw} (h : ofB m l = false) : ofC m l = cl0 := by unfold ofC; rw [h]; rfl
theorem ofB_iff {m : Int} {l : List Rw} : ofB m l = true ↔ (m = 1 ∨ m = 2) ∧ ¬ l = [] ∧ calc.fitB (calc.sumI (V0 l)) = true ∧ (m = 1 ∨ calc.fitB (calc.sumI (V1 l)) = true) := by
  unfold ofB
  simp only [Bool.and_eq_true, Bool.or_eq_true, decide_eq_true_iff, Bool.not_eq_true', List.isEmpty_eq_false_iff, ne_eq, and_assoc]
theorem ofB_no {m : Int} {l : List Rw} (h : ¬ ((m = 1 ∨ m = 2) ∧ ¬ l = [] ∧ calc.fitB (calc.sumI (V0 l)) = true ∧ (m = 1 ∨ calc.fitB (calc.sumI (V1 l)) = true))) : ofB m l = false := by
  cases e : ofB m l with
  | false => rfl
  | true => exact absurd (ofB_iff.1 e) h
theorem rk_of {l : List Int} (h : l.length ≤ 1000000) : Rk1 l.length (calc.sumI l) (bagOf l) := ⟨bagOf_bag h, bagOf_tot l, bagOf_wsum l⟩
theorem ofR_good {m : Int} {l : List Rw} (hm : m = 1 ∨ m = 2) (h0 : ¬ l = []) (hl : l.length ≤ 1000) : CG m (ofR m l) := by
  have h1 : 0 < l.length := List.length_pos_iff.2 h0
  have e0 := rk_of (l := V0 l) (by rw [V0_len]; omega)
  have e1 := rk_of (l := V1 l) (by rw [V1_len]; omega)
  rw [V0_len] at e0
  rw [V1_len] at e1
  refine ⟨⟨by show (1 : Int) ≤ (l.length : Int); omega, by show (l.length : Int) ≤ 1099511627776; omega⟩, e0, ?_⟩
  rcases hm with rfl | rfl
  · exact .inl ⟨rfl, rfl, rfl⟩
  · exact .inr ⟨rfl, e1⟩
theorem ofC_good {m : Int} {l : List Rw} (h : ofB m l = true) (hl : l.length ≤ 1000) : cg m (ofC m l) = true := by
  rw [ofC_yes h]
  have := ofB_iff.1 h
  exact cg_yes (ofR_good this.1 this.2.1 hl)
theorem fitB_iff {x : Int} : calc.fitB x = true ↔ I64 x := by unfold calc.fitB I64; rw [decide_eq_true_iff]
theorem fitB_i64 {x : Int} (h : I64 x) : calc.fitB x = true := fitB_iff.2 h
theorem fitV_yes {x : Int} (h : calc.fitB x = true) : calc.fitV x = x := by unfold calc.fitV; rw [h]; rfl

/-! Both together. -/
def cjB (m : Int) (a b : Cl) : Bool := (cg m a && cg m b) && (decide (a.n + b.n ≤ 1099511627776) && (calc.fitB (a.s0 + b.s0) && (decide (m = 1) || calc.fitB (a.s1 + b.s1))))
def cjR (a b : Cl) : Cl := ⟨a.n + b.n, a.s0 + b.s0, a.s1 + b.s1, jnl a.b0 b.b0, jnl a.b1 b.b1⟩
def cjC (m : Int) (a b : Cl) : Cl := if cjB m a b then cjR a b else cl0
theorem cjC_yes {m : Int} {a b : Cl} (h : cjB m a b = true) : cjC m a b = cjR a b := by unfold cjC; rw [h]; rfl
theorem cjC_no {m : Int} {a b : Cl} (h : cjB m a b = false) : cjC m a b = cl0 := by unfold cjC; rw [h]; rfl
theorem cjB_iff {m : Int} {a b : Cl} : cjB m a b = true ↔ CG m a ∧ CG m b ∧ a.n + b.n ≤ 1099511627776 ∧ calc.fitB (a.s0 + b.s0) = true ∧ (m = 1 ∨ calc.fitB (a.s1 + b.s1) = true) := by
  unfold cjB
  simp only [Bool.and_eq_true, Bool.or_eq_true, decide_eq_true_iff, cg_iff, and_assoc]
theorem cjB_no {m : Int} {a b : Cl} (h : ¬ (CG m a ∧ CG m b ∧ a.n + b.n ≤ 1099511627776 ∧ calc.fitB (a.s0 + b.s0) = true ∧ (m = 1 ∨ calc.fitB (a.s1 + b.s1) = true))) : cjB m a b = false := by
  cases e : cjB m a b with
  | false => rfl
  | true => exact absurd (cjB_iff.1 e) h
theorem wsum_jnl (a b : List Rn) : wsum (jnl a b) = wsum a + wsum b := by
  induction b generalizing a with
  | nil => simp [jnl, wsum]
  | cons x l ih => simp only [jnl, ih, wsum_lay, wsum]; omega
theorem rk_jnl {n n' s s' : Int} {a b : List Rn} (h : Rk1 n s a) (k : Rk1 n' s' b) (ht : n + n' ≤ 1099511627776) : Rk1 (n + n') (s + s') (jnl a b) := by
  obtain ⟨h1, h2, h3⟩ := h
  obtain ⟨k1, k2, k3⟩ := k
  exact ⟨⟨jnl_srt h1.1 b, jnl_pos h1.2.1 k1.2.1, by rw [jnl_tot, h2, k2]; exact ht⟩, by rw [jnl_tot, h2, k2], by rw [wsum_jnl, h3, k3]⟩
theorem cjR_good {m : Int} {a b : Cl} (ha : CG m a) (hb : CG m b) (ht : a.n + b.n ≤ 1099511627776) : CG m (cjR a b) := by
  obtain ⟨a1, a2, a3⟩ := ha
  obtain ⟨b1, b2, b3⟩ := hb
  refine ⟨⟨by show 1 ≤ a.n + b.n; omega, ht⟩, rk_jnl a2 b2 ht, ?_⟩
  rcases a3 with ⟨rfl, e1, e2⟩ | ⟨rfl, e1⟩
  · rcases b3 with ⟨_, f1, f2⟩ | ⟨h, _⟩
    · refine .inl ⟨rfl, ?_, ?_⟩
      · show a.s1 + b.s1 = 0; omega
      · show jnl a.b1 b.b1 = []; rw [e2, f2]; rfl
    · cases h
  · rcases b3 with ⟨h, _⟩ | ⟨_, f1⟩
    · cases h
    · exact .inr ⟨rfl, rk_jnl e1 f1 ht⟩
theorem cjC_good {m : Int} {a b : Cl} (h : cjB m a b = true) : cg m (cjC m a b) = true := by
  rw [cjC_yes h]
  obtain ⟨h1, h2, h3, _⟩ := cjB_iff.1 h
  exact cg_yes (cjR_good h1 h2 h3)
/-- Either may stand first. -/
theorem cjR_comm {m : Int} {a b : Cl} (ha : CG m a) (hb : CG m b) : cjR a b = cjR b a := by
  obtain ⟨a1, ⟨x1, _, _⟩, a3⟩ := ha
  obtain ⟨b1, ⟨y1, _, _⟩, b3⟩ := hb
  have e0 : jnl a.b0 b.b0 = jnl b.b0 a.b0 := jnl_comm x1.1 x1.2.1 y1.1 y1.2.1
  have e1 : jnl a.b1 b.b1 = jnl b.b1 a.b1 := by
    rcases a3 with ⟨_, _, e⟩ | ⟨_, h, _, _⟩ <;> rcases b3 with ⟨_, _, f⟩ | ⟨_, k, _, _⟩
    · rw [e, f]
    · rw [e]; exact jnl_comm srt_nil pos_nil k.1 k.2.1
    · rw [f]; exact jnl_comm h.1 h.2.1 srt_nil pos_nil
    · exact jnl_comm h.1 h.2.1 k.1 k.2.1
  unfold cjR
  rw [e0, e1, Int.add_comm a.n, Int.add_comm a.s0, Int.add_comm a.s1]
theorem cjB_comm (m : Int) (a b : Cl) : cjB m a b = cjB m b a := by
  unfold cjB
  rw [Bool.and_comm (cg m a), Int.add_comm a.n, Int.add_comm a.s0, Int.add_comm a.s1]
theorem cjC_comm (m : Int) (a b : Cl) : cjC m a b = cjC m b a := by
  cases h : cjB m a b with
  | false => rw [cjC_no h, cjC_no (by rw [cjB_comm]; exact h)]
  | true =>
    rw [cjC_yes h, cjC_yes (by rw [cjB_comm]; exact h)]
    obtain ⟨h1, h2, _⟩ := cjB_iff.1 h
    exact cjR_comm h1 h2
theorem bagOf_app (l k : List Int) : jnl (bagOf l) (bagOf k) = bagOf (l ++ k) := by
  symm
  refine jnl_is (bagOf_srt l) (bagOf_pos l) (bagOf_pos k) (bagOf_srt _) (pos_nz (bagOf_pos _)) (fun v => ?_)
  rw [bagOf_cn, bagOf_cn, bagOf_cn, oc_app]
/-- P9.4, of cells as numbers. -/
theorem ofR_app {m : Int} (hm : m = 1 ∨ m = 2) (l k : List Rw) : cjR (ofR m l) (ofR m k) = ofR m (l ++ k) := by
  have e0 : V0 (l ++ k) = V0 l ++ V0 k := by unfold V0; simp
  have e1 : V1 (l ++ k) = V1 l ++ V1 k := by unfold V1; simp
  unfold cjR ofR
  rw [e0, e1, sumI_app, sumI_app, List.length_append, ← bagOf_app, ← bagOf_app]
  rcases hm with rfl | rfl
  · simp [jnl]
  · simp
theorem join_of {m : Int} {l k : List Rw} (hl : ofB m l = true) (hk : ofB m k = true) (nl : l.length ≤ 1000) (nk : k.length ≤ 1000) : cjB m (ofC m l) (ofC m k) = ofB m (l ++ k) ∧ cjC m (ofC m l) (ofC m k) = ofC m (l ++ k) := by
  have gl := cg_iff.1 (ofC_good hl nl)
  have gk := cg_iff.1 (ofC_good hk nk)
  rw [ofC_yes hl] at *
  rw [ofC_yes hk] at *
  obtain ⟨hm, l0, _, _⟩ := ofB_iff.1 hl
  have hap := ofR_app hm l k
  have hn : (ofR m l).n + (ofR m k).n ≤ 1099511627776 := by show (l.length : Int) + (k.length : Int) ≤ 1099511627776; omega
  have hs0 : (ofR m l).s0 + (ofR m k).s0 = calc.sumI (V0 (l ++ k)) := congrArg Cl.s0 hap
  have hs1 : m = 2 → (ofR m l).s1 + (ofR m k).s1 = calc.sumI (V1 (l ++ k)) := by
    intro e
    have := congrArg Cl.s1 hap
    subst e
    exact this
  have e : cjB m (ofR m l) (ofR m k) = ofB m (l ++ k) := by
    by_cases h : ofB m (l ++ k) = true
    · rw [h]
      obtain ⟨_, _, h1, h2⟩ := ofB_iff.1 h
      refine cjB_iff.2 ⟨gl, gk, hn, by rw [hs0]; exact h1, ?_⟩
      rcases hm with rfl | rfl
      · exact .inl rfl
      · rcases h2 with h2 | h2
        · cases h2
        · exact .inr (by rw [hs1 rfl]; exact h2)
    · have h' : ofB m (l ++ k) = false := by simpa using h
      rw [h']
      refine cjB_no (fun ⟨_, _, _, h1, h2⟩ => h (ofB_iff.2 ⟨hm, by simp [l0], by rw [← hs0]; exact h1, ?_⟩))
      rcases hm with rfl | rfl
      · exact .inl rfl
      · rcases h2 with h2 | h2
        · cases h2
        · exact .inr (by rw [← hs1 rfl]; exact h2)
  refine ⟨e, ?_⟩
  cases h : ofB m (l ++ k) with
  | true => rw [cjC_yes (e.trans h), ofC_yes h, hap]
  | false => rw [cjC_no (e.trans h), ofC_no h]

/-! What is told of it. -/
def mn (l : List Rn) : Int := (l.headD (0, 0)).1
def mx (l : List Rn) : Int := (l.getLastD (0, 0)).1
/-- A line: a place, how many, sums, least and greatest values. -/
def lnv (x0 x1 x2 x3 n s0 s1 a0 a1 b0 b1 : Int) : Value := .agg #[.int .u8 x0, .int .u8 x1, .int .u8 x2, .int .u8 x3, .int .i64 n, .int .i64 s0, .int .i64 s1, .int .i64 a0, .int .i64 a1, .int .i64 b0, .int .i64 b1]
def ln0 : Value := lnv 0 0 0 0 0 0 0 0 0 0 0
def lineV (m x0 x1 x2 x3 : Int) (c : Cl) : Value := if cg m c then lnv x0 x1 x2 x3 c.n c.s0 c.s1 (mn c.b0) (if m = 2 then mn c.b1 else 0) (mx c.b0) (if m = 2 then mx c.b1 else 0) else ln0
theorem lineV_no {m x0 x1 x2 x3 : Int} {c : Cl} (h : cg m c = false) : lineV m x0 x1 x2 x3 c = ln0 := by unfold lineV; rw [h]; rfl
theorem lineV_1 {x0 x1 x2 x3 : Int} {c : Cl} (h : cg 1 c = true) : lineV 1 x0 x1 x2 x3 c = lnv x0 x1 x2 x3 c.n c.s0 c.s1 (mn c.b0) 0 (mx c.b0) 0 := by unfold lineV; rw [h]; rfl
theorem lineV_2 {x0 x1 x2 x3 : Int} {c : Cl} (h : cg 2 c = true) : lineV 2 x0 x1 x2 x3 c = lnv x0 x1 x2 x3 c.n c.s0 c.s1 (mn c.b0) (mn c.b1) (mx c.b0) (mx c.b1) := by unfold lineV; rw [h]; rfl
theorem rk_ne {n s : Int} {b : List Rn} (h : Rk1 n s b) (hn : 1 ≤ n) : ¬ b = [] := by
  intro e; subst e
  have := h.2.1
  simp [tot] at this
  omega
theorem rk_hase {n s : Int} {b : List Rn} (h : Rk1 n s b) (hn : 1 ≤ n) : lst b = mn b ∧ gst b = mx b ∧ hasE b = true := by
  have h0 := rk_ne h hn
  have hg := gd_yes h.1
  refine ⟨?_, ?_, ?_⟩
  · unfold lst mn; rw [hg]; rfl
  · unfold gst mx; rw [hg]; rfl
  · unfold hasE; rw [hg]; simp [h0]

end Go.Proofs.Ytjkkajhjcinalaa

namespace Go.Proofs.Ytjkkajhjcinalaa
open Go.RowKit
set_option linter.unusedVariables false
set_option linter.unusedSimpArgs false
set_option maxRecDepth 100000

theorem imin (a b : Int) : (a ≤ b ∧ min a b = a) ∨ (b ≤ a ∧ min a b = b) := by omega
/-- What both have, each as often as both have it. -/
def com (a b : List Rn) : List Rn := (a.map (fun r => (r.1, min r.2 (cn r.1 b)))).filter (fun r => decide (0 < r.2))
theorem com_cons (x : Rn) (a b : List Rn) : com (x :: a) b = (if 0 < min x.2 (cn x.1 b) then [(x.1, min x.2 (cn x.1 b))] else []) ++ com a b := by
  unfold com
  simp only [List.map_cons, List.filter_cons]
  by_cases h : 0 < min x.2 (cn x.1 b)
  · rw [if_pos (by simpa using h), if_pos h]; rfl
  · rw [if_neg (by simpa using h), if_neg h]; rfl
theorem com_nil (b : List Rn) : com [] b = [] := rfl
theorem com_mem {a b : List Rn} {r : Rn} (h : r ∈ com a b) : 0 < r.2 ∧ ∃ q ∈ a, q.1 = r.1 ∧ r.2 = min q.2 (cn r.1 b) := by
  unfold com at h
  obtain ⟨h1, h2⟩ := List.mem_filter.1 h
  obtain ⟨q, hq, rfl⟩ := List.mem_map.1 h1
  exact ⟨by simpa using h2, q, hq, rfl, rfl⟩
theorem com_srt {a : List Rn} (h : Srt a) (b : List Rn) : Srt (com a b) := by
  unfold com Srt
  refine List.Pairwise.filter _ (List.Pairwise.map _ ?_ h)
  intro x y hxy
  exact hxy
theorem com_pos (a b : List Rn) : Pos (com a b) := fun r hr => by have := (com_mem hr).1; omega
theorem com_cn {a b : List Rn} (ha : Srt a) (pa : Pos a) (pb : Pos b) (v : Int) : cn v (com a b) = min (cn v a) (cn v b) := by
  induction a with
  | nil =>
    have := cn_nn (v := v) pb
    have := imin (cn v []) (cn v b)
    simp only [com_nil, cn] at *
    omega
  | cons x a ih =>
    have ha' := ha
    rw [Srt, List.pairwise_cons] at ha'
    have ih' := ih ha'.2 (fun r hr => pa r (by simp [hr]))
    have px := pa x (by simp)
    have pv := cn_nn (v := v) pb
    rw [com_cons, cn_app, ih']
    by_cases h : x.1 = v
    · subst h
      have z : cn x.1 a = 0 := cn_none (fun r hr e => by have := ha'.1 r hr; unfold ltR at this; omega)
      have k1 := imin x.2 (cn x.1 b)
      have k2 := imin (cn x.1 a) (cn x.1 b)
      have k3 := imin (cn x.1 (x :: a)) (cn x.1 b)
      split
      · simp only [cn, if_pos] at *
        omega
      · simp only [cn, if_pos] at *
        omega
    · have e : cn v (x :: a) = cn v a := by simp only [cn, if_neg h]; omega
      rw [e]
      split
      · simp only [cn, if_neg h]; omega
      · simp only [cn]; omega
theorem bag_nz {a : List Rn} (h : Bag a) : Nz a := pos_nz h.2.1
theorem com_comm {a b : List Rn} (ha : Srt a) (pa : Pos a) (hb : Srt b) (pb : Pos b) : com a b = com b a := by
  refine runs_ext (com_srt ha b) (pos_nz (com_pos a b)) (com_srt hb a) (pos_nz (com_pos b a)) (fun v => ?_)
  rw [com_cn ha pa pb, com_cn hb pb pa]
  have := imin (cn v a) (cn v b)
  have := imin (cn v b) (cn v a)
  omega
theorem com_len (a b : List Rn) : (com a b).length ≤ a.length := by
  unfold com
  have := List.length_filter_le (fun r : Rn => decide (0 < r.2)) (a.map (fun r => (r.1, min r.2 (cn r.1 b))))
  rw [List.length_map] at this
  exact this
theorem com_fits {a b : List Rn} (ha : Srt a) (pa : Pos a) : Fits a (com a b) := by
  intro r hr
  obtain ⟨h0, q, hq, e, h1⟩ := com_mem hr
  have h2 := cn_srt_eq ha hq
  rw [e] at h2
  have := imin q.2 (cn r.1 b)
  omega
theorem com_fits2 {a b : List Rn} : Fits b (com a b) := by
  intro r hr
  obtain ⟨h0, q, hq, e, h1⟩ := com_mem hr
  have := imin q.2 (cn r.1 b)
  omega
theorem com_nok {a b : List Rn} (ka : ∀ r ∈ a, I64 r.1 ∧ I64 r.2) : ∀ r ∈ com a b, I64 r.1 ∧ I64 r.2 := by
  intro r hr
  obtain ⟨h0, q, hq, e, h1⟩ := com_mem hr
  have := ka q hq
  have := imin q.2 (cn r.1 b)
  unfold I64 at *
  omega
theorem tot_filter_le {l : List Rn} (h : ∀ r ∈ l, 0 ≤ r.2) : True := trivial
theorem com_tot {a : List Rn} (pa : Pos a) (b : List Rn) : tot (com a b) ≤ tot a := by
  induction a with
  | nil => exact Int.le_refl _
  | cons x a ih =>
    have ih' := ih (fun r hr => pa r (by simp [hr]))
    have px := pa x (by simp)
    have := imin x.2 (cn x.1 b)
    rw [com_cons, tot_app]
    split
    · simp only [tot]; omega
    · simp only [tot]; omega
theorem com_bag {a : List Rn} (h : Bag a) (b : List Rn) : Bag (com a b) := ⟨com_srt h.1 b, com_pos a b, Int.le_trans (com_tot h.2.1 b) h.2.2⟩
/-- Nothing is common. -/
theorem com_empty {a b : List Rn} : com a b = [] ↔ ∀ r ∈ a, min r.2 (cn r.1 b) ≤ 0 := by
  induction a with
  | nil => simp [com_nil]
  | cons x a ih =>
    rw [com_cons]
    constructor
    · intro h
      obtain ⟨h1, h2⟩ := List.append_eq_nil_iff.1 h
      intro r hr
      rcases List.mem_cons.1 hr with rfl | hr
      · by_cases k : 0 < min r.2 (cn r.1 b)
        · rw [if_pos k] at h1; cases h1
        · omega
      · exact ih.1 h2 r hr
    · intro h
      rw [if_neg (by have := h x (by simp); omega), ih.2 (fun r hr => h r (by simp [hr]))]
      rfl
/-- .. as a truth, as the document asks it: nothing of the one stands in the other. -/
def apt (a b : List Rn) : Bool := (com a b).isEmpty
theorem apt_iff {a b : List Rn} (pa : Pos a) : apt a b = true ↔ ∀ r ∈ a, cn r.1 b ≤ 0 := by
  unfold apt
  rw [List.isEmpty_iff, com_empty]
  constructor
  · intro h r hr
    have := h r hr
    have := pa r hr
    have := imin r.2 (cn r.1 b)
    omega
  · intro h r hr
    have := h r hr
    have := imin r.2 (cn r.1 b)
    omega
theorem apt_no {a b : List Rn} {r : Rn} (pa : Pos a) (hr : r ∈ a) (h : 0 < cn r.1 b) : apt a b = false := by
  cases e : apt a b with
  | false => rfl
  | true => have := (apt_iff pa).1 e r hr; omega

/-- What is left of the one. -/
def lef (a b : List Rn) : List Rn := mnl a (com a b)
theorem wsum_mnl (a b : List Rn) : wsum (mnl a b) = wsum a - wsum b := by
  induction b generalizing a with
  | nil => simp [mnl, wsum]
  | cons x l ih => simp only [mnl, ih, wsum_lay, wsum, Int.mul_neg]; omega
theorem lef_cn {a b : List Rn} (ha : Srt a) (pa : Pos a) (pb : Pos b) (v : Int) : cn v (lef a b) = cn v a - min (cn v a) (cn v b) := by
  unfold lef; rw [mnl_cn, com_cn ha pa pb]
theorem lef_srt {a : List Rn} (ha : Srt a) (b : List Rn) : Srt (lef a b) := mnl_srt ha _
theorem lef_pos {a : List Rn} (ha : Srt a) (pa : Pos a) (b : List Rn) : Pos (lef a b) := mnl_pos ha pa (com_srt ha b) (com_pos a b) (com_fits ha pa)
theorem lef_tot (a b : List Rn) : tot (lef a b) = tot a - tot (com a b) := mnl_tot _ _
theorem lef_wsum (a b : List Rn) : wsum (lef a b) = wsum a - wsum (com a b) := wsum_mnl _ _
theorem lef_bag {a : List Rn} (h : Bag a) (b : List Rn) : Bag (lef a b) := by
  refine ⟨lef_srt h.1 b, lef_pos h.1 h.2.1 b, ?_⟩
  rw [lef_tot]
  have := tot_nn (com_pos a b)
  have := h.2.2
  omega
/-- The document's way: run by run. -/
def lefd (a b : List Rn) : List Rn := (a.map (fun r => (r.1, r.2 - min r.2 (cn r.1 b)))).filter (fun r => decide (0 < r.2))
theorem lefd_step {a : List Rn} {k : Nat} {r : Rn} (h : a[k]? = some r) (b : List Rn) : lefd (a.take (k + 1)) b = lefd (a.take k) b ++ (if 0 < r.2 - min r.2 (cn r.1 b) then [(r.1, r.2 - min r.2 (cn r.1 b))] else []) := by
  rw [take_one h]
  unfold lefd
  rw [List.map_append, List.filter_append]
  congr 1
  simp only [List.map_cons, List.map_nil, List.filter_cons, List.filter_nil]
  by_cases k : 0 < r.2 - min r.2 (cn r.1 b)
  · rw [if_pos (by simpa using k), if_pos k]
  · rw [if_neg (by simpa using k), if_neg k]
theorem lefd_cons (x : Rn) (a b : List Rn) : lefd (x :: a) b = (if 0 < x.2 - min x.2 (cn x.1 b) then [(x.1, x.2 - min x.2 (cn x.1 b))] else []) ++ lefd a b := by
  unfold lefd
  simp only [List.map_cons, List.filter_cons]
  by_cases h : 0 < x.2 - min x.2 (cn x.1 b)
  · rw [if_pos (by simpa using h), if_pos h]; rfl
  · rw [if_neg (by simpa using h), if_neg h]; rfl
theorem lefd_mem {a b : List Rn} {r : Rn} (h : r ∈ lefd a b) : 0 < r.2 ∧ ∃ q ∈ a, q.1 = r.1 := by
  unfold lefd at h
  obtain ⟨h1, h2⟩ := List.mem_filter.1 h
  obtain ⟨q, hq, rfl⟩ := List.mem_map.1 h1
  exact ⟨by simpa using h2, q, hq, rfl⟩
theorem lefd_srt {a : List Rn} (h : Srt a) (b : List Rn) : Srt (lefd a b) := by
  unfold lefd Srt
  refine List.Pairwise.filter _ (List.Pairwise.map _ ?_ h)
  intro x y hxy
  exact hxy
theorem lefd_cn {a b : List Rn} (ha : Srt a) (pa : Pos a) (pb : Pos b) (v : Int) : cn v (lefd a b) = cn v a - min (cn v a) (cn v b) := by
  induction a with
  | nil =>
    have := cn_nn (v := v) pb
    have := imin (cn v []) (cn v b)
    simp only [lefd, List.map_nil, List.filter_nil, cn] at *
    omega
  | cons x a ih =>
    have ha' := ha
    rw [Srt, List.pairwise_cons] at ha'
    have ih' := ih ha'.2 (fun r hr => pa r (by simp [hr]))
    have px := pa x (by simp)
    have pv := cn_nn (v := v) pb
    rw [lefd_cons, cn_app, ih']
    by_cases h : x.1 = v
    · subst h
      have z : cn x.1 a = 0 := cn_none (fun r hr e => by have := ha'.1 r hr; unfold ltR at this; omega)
      have k1 := imin x.2 (cn x.1 b)
      have k2 := imin (cn x.1 a) (cn x.1 b)
      have k3 := imin (cn x.1 (x :: a)) (cn x.1 b)
      split
      · simp only [cn, if_pos] at *
        omega
      · simp only [cn, if_pos] at *
        omega
    · have e : cn v (x :: a) = cn v a := by simp only [cn, if_neg h]; omega
      rw [e]
      split
      · simp only [cn, if_neg h]; omega
      · simp only [cn]; omega
theorem lefd_is {a b : List Rn} (ha : Srt a) (pa : Pos a) (pb : Pos b) : lefd a b = lef a b :=
  runs_ext (lefd_srt ha b) (fun r hr e => by have := (lefd_mem hr).1; omega) (lef_srt ha b) (pos_nz (lef_pos ha pa b)) (fun v => by rw [lefd_cn ha pa pb, lef_cn ha pa pb])
theorem lefd_len (a b : List Rn) : (lefd a b).length ≤ a.length := by
  unfold lefd
  have := List.length_filter_le (fun r : Rn => decide (0 < r.2)) (a.map (fun r => (r.1, r.2 - min r.2 (cn r.1 b))))
  rw [List.length_map] at this
  exact this
theorem lefd_nok {a b : List Rn} (ka : ∀ r ∈ a, I64 r.1 ∧ I64 r.2) (pa : Pos a) (pb : Pos b) : ∀ r ∈ lefd a b, I64 r.1 ∧ I64 r.2 := by
  intro r hr
  unfold lefd at hr
  obtain ⟨h1, h2⟩ := List.mem_filter.1 hr
  obtain ⟨q, hq, rfl⟩ := List.mem_map.1 h1
  have := ka q hq
  have := pa q hq
  have := cn_nn (v := q.1) pb
  have := imin q.2 (cn q.1 b)
  unfold I64 at *
  simp only
  omega
theorem lef_len {a b : List Rn} (ha : Srt a) (pa : Pos a) (pb : Pos b) : (lef a b).length ≤ a.length := by rw [← lefd_is ha pa pb]; exact lefd_len a b
theorem lef_nok {a b : List Rn} (ka : ∀ r ∈ a, I64 r.1 ∧ I64 r.2) (ha : Srt a) (pa : Pos a) (pb : Pos b) : ∀ r ∈ lef a b, I64 r.1 ∧ I64 r.2 := by rw [← lefd_is ha pa pb]; exact lefd_nok ka pa pb
/-- What is left of both has nothing in common. -/
theorem lef_apt {a b : List Rn} (ha : Srt a) (pa : Pos a) (hb : Srt b) (pb : Pos b) : apt (lef a b) (lef b a) = true := by
  refine (apt_iff (lef_pos ha pa b)).2 (fun r hr => ?_)
  have h1 := cn_srt_eq (lef_srt ha b) hr
  have h2 := lef_pos ha pa b r hr
  rw [lef_cn ha pa pb] at h1
  rw [lef_cn hb pb pa]
  have := imin (cn r.1 a) (cn r.1 b)
  have := imin (cn r.1 b) (cn r.1 a)
  omega
theorem lef_diff {a b : List Rn} (ha : Srt a) (pa : Pos a) (hb : Srt b) (pb : Pos b) : wsum (lef a b) - wsum (lef b a) = wsum a - wsum b ∧ tot (lef a b) - tot (lef b a) = tot a - tot b := by
  rw [lef_wsum, lef_wsum, lef_tot, lef_tot, com_comm hb pb ha pa]
  omega
theorem lef_nil (a : List Rn) : lef a [] = a := by
  have : com a [] = [] := com_empty.2 (fun r hr => by have := imin r.2 (cn r.1 []); simp only [cn] at *; omega)
  unfold lef; rw [this]; rfl
theorem lef_nil2 (b : List Rn) : lef [] b = [] := rfl
/-- Two that have nothing in common are left as they are. -/
theorem lef_apart {a b : List Rn} (h : apt a b = true) : lef a b = a := by
  unfold apt at h
  rw [List.isEmpty_iff] at h
  unfold lef; rw [h]; rfl
theorem apt_comm {a b : List Rn} (ha : Srt a) (pa : Pos a) (hb : Srt b) (pb : Pos b) : apt a b = apt b a := by
  unfold apt; rw [com_comm ha pa hb pb]

/-- A delta: how many rows more; of two measures the sum, the values that come, those that go. -/
structure Dl where
  n : Int
  s0 : Int
  s1 : Int
  i0 : List Rn
  i1 : List Rn
  o0 : List Rn
  o1 : List Rn
def dl0 : Dl := ⟨0, 0, 0, [], [], [], []⟩
/-- One measure of it, reckoned. -/
def Nt (n s : Int) (i o : List Rn) : Prop := Bag i ∧ Bag o ∧ tot i - tot o = n ∧ wsum i - wsum o = s ∧ apt i o = true
def nt (n s : Int) (i o : List Rn) : Bool := (gd i && gd o) && (decide (tot i - tot o = n) && (decide (wsum i - wsum o = s) && apt i o))
theorem nt_iff {n s : Int} {i o : List Rn} : nt n s i o = true ↔ Nt n s i o := by
  unfold nt Nt; simp only [Bool.and_eq_true, decide_eq_true_iff, gd_iff, and_assoc]
theorem nt_yes {n s : Int} {i o : List Rn} (h : Nt n s i o) : nt n s i o = true := nt_iff.2 h
theorem nt_no {n s : Int} {i o : List Rn} (h : ¬ Nt n s i o) : nt n s i o = false := by
  cases e : nt n s i o with
  | false => rfl
  | true => exact absurd (nt_iff.1 e) h
/-- May it be, of so many measures? -/
def DG (m : Int) (d : Dl) : Prop := Nt d.n d.s0 d.i0 d.o0 ∧ ((m = 1 ∧ d.s1 = 0 ∧ d.i1 = [] ∧ d.o1 = []) ∨ (m = 2 ∧ Nt d.n d.s1 d.i1 d.o1))
def dg (m : Int) (d : Dl) : Bool := nt d.n d.s0 d.i0 d.o0 && ((decide (m = 1) && (decide (d.s1 = 0) && (d.i1.isEmpty && d.o1.isEmpty))) || (decide (m = 2) && nt d.n d.s1 d.i1 d.o1))
theorem dg_iff {m : Int} {d : Dl} : dg m d = true ↔ DG m d := by
  unfold dg DG
  simp only [Bool.and_eq_true, Bool.or_eq_true, decide_eq_true_iff, nt_iff, List.isEmpty_iff]
theorem dg_yes {m : Int} {d : Dl} (h : DG m d) : dg m d = true := dg_iff.2 h
theorem dg_no {m : Int} {d : Dl} (h : ¬ DG m d) : dg m d = false := by
  cases e : dg m d with
  | false => rfl
  | true => exact absurd (dg_iff.1 e) h
theorem dg_m {m : Int} {d : Dl} (h : dg m d = true) : m = 1 ∨ m = 2 := by
  rcases (dg_iff.1 h).2 with h | h
  · exact .inl h.1
  · exact .inr h.1
theorem dg_not {m : Int} (d : Dl) (h : ¬ (m = 1 ∨ m = 2)) : dg m d = false := dg_no (fun g => h (dg_m (dg_yes g)))
theorem dg_n {m : Int} {d : Dl} (h : DG m d) : -1099511627776 ≤ d.n ∧ d.n ≤ 1099511627776 := by
  obtain ⟨⟨h1, h2, h3, _⟩, _⟩ := h
  have := h1.2.2
  have := h2.2.2
  have := tot_nn h1.2.1
  have := tot_nn h2.2.1
  omega
/-- Both measures' bags are bags. -/
theorem dg_bags {m : Int} {d : Dl} (h : DG m d) : (Bag d.i0 ∧ Bag d.o0) ∧ Bag d.i1 ∧ Bag d.o1 := by
  obtain ⟨⟨h1, h2, _⟩, h3⟩ := h
  refine ⟨⟨h1, h2⟩, ?_⟩
  rcases h3 with ⟨_, _, e1, e2⟩ | ⟨_, k1, k2, _⟩
  · rw [e1, e2]; exact ⟨bag_nil, bag_nil⟩
  · exact ⟨k1, k2⟩
/-- .. and what they tell. -/
theorem dg_two {m : Int} {d : Dl} (h : DG m d) : Nt d.n d.s1 d.i1 d.o1 ∨ (m = 1 ∧ d.s1 = 0 ∧ d.i1 = [] ∧ d.o1 = []) := by
  rcases h.2 with h | h
  · exact .inr h
  · exact .inl h.2
theorem dg_s1 {m : Int} {d : Dl} (h : DG m d) : wsum d.i1 - wsum d.o1 = d.s1 := by
  rcases h.2 with ⟨_, e1, e2, e3⟩ | ⟨_, _, _, _, k, _⟩
  · rw [e1, e2, e3]; simp [wsum]
  · exact k
/-- Alike in all? -/
def dsm (a b : Dl) : Bool := decide (a.n = b.n) && ((decide (a.s0 = b.s0) && decide (a.s1 = b.s1)) && ((sm a.i0 b.i0 && sm a.o0 b.o0) && (sm a.i1 b.i1 && sm a.o1 b.o1)))
theorem dsm_iff {a b : Dl} : dsm a b = true ↔ a = b := by
  obtain ⟨n, s, t, x, y, p, q⟩ := a
  obtain ⟨n', s', t', x', y', p', q'⟩ := b
  unfold dsm
  simp only [Bool.and_eq_true, decide_eq_true_iff, sm_iff, Dl.mk.injEq]
  constructor
  · rintro ⟨h1, ⟨h2, h3⟩, ⟨h4, h5⟩, h6, h7⟩; exact ⟨h1, h2, h3, h4, h6, h5, h7⟩
  · rintro ⟨h1, h2, h3, h4, h6, h5, h7⟩; exact ⟨h1, ⟨h2, h3⟩, ⟨h4, h5⟩, h6, h7⟩
theorem dsm_self (a : Dl) : dsm a a = true := dsm_iff.2 rfl
theorem dsm_no {a b : Dl} (h : ¬ a = b) : dsm a b = false := by
  cases e : dsm a b with
  | false => rfl
  | true => exact absurd (dsm_iff.1 e) h
/-- Idle. -/
def did (m : Int) (d : Dl) : Bool := dg m d && dsm d dl0
/-- .. as the document asks it. -/
def idd (m : Int) (d : Dl) : Bool := decide (d.n = 0) && ((d.i0.isEmpty && d.o0.isEmpty) && (decide (m = 1) || (d.i1.isEmpty && d.o1.isEmpty)))
theorem did_is {m : Int} {d : Dl} (h : dg m d = true) : dsm d dl0 = idd m d := by
  have g := dg_iff.1 h
  obtain ⟨n, s0, s1, i0, i1, o0, o1⟩ := d
  by_cases k : idd m ⟨n, s0, s1, i0, i1, o0, o1⟩ = true
  · rw [k, dsm_iff]
    unfold idd at k
    simp only [Bool.and_eq_true, Bool.or_eq_true, decide_eq_true_iff, List.isEmpty_iff] at k
    obtain ⟨h1, ⟨h2, h3⟩, h4⟩ := k
    obtain ⟨⟨_, _, _, g4, _⟩, g2⟩ := g
    subst h1 h2 h3
    simp [wsum] at g4
    subst g4
    rcases g2 with ⟨rfl, e1, e2, e3⟩ | ⟨rfl, _, _, _, e1, _⟩
    · simp only at e1 e2 e3
      subst e1 e2 e3
      rfl
    · rcases h4 with h4 | ⟨h4, h5⟩
      · cases h4
      · subst h4 h5
        simp [wsum] at e1
        subst e1
        rfl
  · have k' : idd m ⟨n, s0, s1, i0, i1, o0, o1⟩ = false := by simpa using k
    rw [k']
    refine dsm_no (fun e => k ?_)
    unfold dl0 at e
    rw [Dl.mk.injEq] at e
    obtain ⟨rfl, rfl, rfl, rfl, rfl, rfl, rfl⟩ := e
    unfold idd
    simp

/-! Made of bags of what comes, and goes: as the document has it. -/
def xdR (m n : Int) (i0 i1 o0 o1 : List Rn) : Dl := ⟨n, wsum i0 - wsum o0, if m = 2 then wsum i1 - wsum o1 else 0, lef i0 o0, if m = 2 then lef i1 o1 else [], lef o0 i0, if m = 2 then lef o1 i1 else []⟩
def xdB (m n : Int) (i0 i1 o0 o1 : List Rn) : Bool := (calc.fitB (wsum i0 - wsum o0) && (decide (m = 1) || calc.fitB (wsum i1 - wsum o1))) && dg m (xdR m n i0 i1 o0 o1)
def xdC (m n : Int) (i0 i1 o0 o1 : List Rn) : Dl := if xdB m n i0 i1 o0 o1 then xdR m n i0 i1 o0 o1 else dl0
theorem xdC_yes {m n : Int} {i0 i1 o0 o1 : List Rn} (h : xdB m n i0 i1 o0 o1 = true) : xdC m n i0 i1 o0 o1 = xdR m n i0 i1 o0 o1 := by unfold xdC; rw [h]; rfl
theorem xdC_no {m n : Int} {i0 i1 o0 o1 : List Rn} (h : xdB m n i0 i1 o0 o1 = false) : xdC m n i0 i1 o0 o1 = dl0 := by unfold xdC; rw [h]; rfl
theorem nt_lef {a b : List Rn} (ha : Bag a) (hb : Bag b) : Nt (tot a - tot b) (wsum a - wsum b) (lef a b) (lef b a) :=
  ⟨lef_bag ha b, lef_bag hb a, (lef_diff ha.1 ha.2.1 hb.1 hb.2.1).2, (lef_diff ha.1 ha.2.1 hb.1 hb.2.1).1, lef_apt ha.1 ha.2.1 hb.1 hb.2.1⟩
/-- Of bags whose difference is right in number, it may be. -/
theorem xdR_good {m n : Int} {i0 i1 o0 o1 : List Rn} (hm : m = 1 ∨ m = 2) (a0 : Bag i0) (b0 : Bag o0) (e0 : tot i0 - tot o0 = n) (h2 : m = 2 → Bag i1 ∧ Bag o1 ∧ tot i1 - tot o1 = n) : DG m (xdR m n i0 i1 o0 o1) := by
  refine ⟨?_, ?_⟩
  · have := nt_lef a0 b0
    rw [e0] at this
    exact this
  · rcases hm with rfl | rfl
    · exact .inl ⟨rfl, rfl, rfl, rfl⟩
    · obtain ⟨a1, b1, e1⟩ := h2 rfl
      have := nt_lef a1 b1
      rw [e1] at this
      exact .inr ⟨rfl, this⟩
theorem xdB_is {m n : Int} {i0 i1 o0 o1 : List Rn} (hm : m = 1 ∨ m = 2) (a0 : Bag i0) (b0 : Bag o0) (e0 : tot i0 - tot o0 = n) (h2 : m = 2 → Bag i1 ∧ Bag o1 ∧ tot i1 - tot o1 = n) :
    xdB m n i0 i1 o0 o1 = (calc.fitB (wsum i0 - wsum o0) && (decide (m = 1) || calc.fitB (wsum i1 - wsum o1))) := by
  unfold xdB
  rw [dg_yes (xdR_good hm a0 b0 e0 h2), Bool.and_true]

/-! Of a change. -/
def ofdB (m m0 m1 : Int) (del : Bool) : Bool := (decide (m = 1) || decide (m = 2)) && (!del || (calc.fitB (-m0) && (decide (m = 1) || calc.fitB (-m1))))
def ofdR (m m0 m1 : Int) (del : Bool) : Dl := if del then ⟨-1, -m0, if m = 2 then -m1 else 0, [], [], [(m0, 1)], if m = 2 then [(m1, 1)] else []⟩ else ⟨1, m0, if m = 2 then m1 else 0, [(m0, 1)], if m = 2 then [(m1, 1)] else [], [], []⟩
def ofdC (m m0 m1 : Int) (del : Bool) : Dl := if ofdB m m0 m1 del then ofdR m m0 m1 del else dl0
/-! The other way round. -/
def dnB (m : Int) (d : Dl) : Bool := dg m d && (calc.fitB (-d.s0) && (decide (m = 1) || calc.fitB (-d.s1)))
def dnR (d : Dl) : Dl := ⟨-d.n, -d.s0, -d.s1, d.o0, d.o1, d.i0, d.i1⟩
def dnC (m : Int) (d : Dl) : Dl := if dnB m d then dnR d else dl0
theorem dnC_yes {m : Int} {d : Dl} (h : dnB m d = true) : dnC m d = dnR d := by unfold dnC; rw [h]; rfl
theorem dnC_no {m : Int} {d : Dl} (h : dnB m d = false) : dnC m d = dl0 := by unfold dnC; rw [h]; rfl
theorem nt_neg {n s : Int} {i o : List Rn} (h : Nt n s i o) : Nt (-n) (-s) o i := by
  obtain ⟨h1, h2, h3, h4, h5⟩ := h
  exact ⟨h2, h1, by omega, by omega, by rw [apt_comm h2.1 h2.2.1 h1.1 h1.2.1]; exact h5⟩
theorem dnR_good {m : Int} {d : Dl} (h : DG m d) : DG m (dnR d) := by
  refine ⟨nt_neg h.1, ?_⟩
  rcases h.2 with ⟨e, e1, e2, e3⟩ | ⟨e, k⟩
  · exact .inl ⟨e, by show -d.s1 = 0; omega, e3, e2⟩
  · exact .inr ⟨e, nt_neg k⟩
theorem dnR_two (d : Dl) : dnR (dnR d) = d := by
  obtain ⟨n, s, t, x, y, p, q⟩ := d
  simp [dnR]
/-! Both together. -/
def djB (m : Int) (a b : Dl) : Bool := (dg m a && dg m b) && ((decide (tot a.i0 + tot b.i0 ≤ 1099511627776) && decide (tot a.o0 + tot b.o0 ≤ 1099511627776)) && ((decide (tot a.i1 + tot b.i1 ≤ 1099511627776) && decide (tot a.o1 + tot b.o1 ≤ 1099511627776)) && (calc.fitB (a.s0 + b.s0) && calc.fitB (a.s1 + b.s1))))
def djR (a b : Dl) : Dl := ⟨a.n + b.n, a.s0 + b.s0, a.s1 + b.s1, lef (jnl a.i0 b.i0) (jnl a.o0 b.o0), lef (jnl a.i1 b.i1) (jnl a.o1 b.o1), lef (jnl a.o0 b.o0) (jnl a.i0 b.i0), lef (jnl a.o1 b.o1) (jnl a.i1 b.i1)⟩
def djC (m : Int) (a b : Dl) : Dl := if djB m a b then djR a b else dl0
theorem djC_yes {m : Int} {a b : Dl} (h : djB m a b = true) : djC m a b = djR a b := by unfold djC; rw [h]; rfl
theorem djC_no {m : Int} {a b : Dl} (h : djB m a b = false) : djC m a b = dl0 := by unfold djC; rw [h]; rfl
theorem djB_iff {m : Int} {a b : Dl} : djB m a b = true ↔ DG m a ∧ DG m b ∧ (tot a.i0 + tot b.i0 ≤ 1099511627776 ∧ tot a.o0 + tot b.o0 ≤ 1099511627776) ∧ (tot a.i1 + tot b.i1 ≤ 1099511627776 ∧ tot a.o1 + tot b.o1 ≤ 1099511627776) ∧ calc.fitB (a.s0 + b.s0) = true ∧ calc.fitB (a.s1 + b.s1) = true := by
  unfold djB
  simp only [Bool.and_eq_true, decide_eq_true_iff, dg_iff, and_assoc]
theorem djB_no {m : Int} {a b : Dl} (h : ¬ (DG m a ∧ DG m b ∧ (tot a.i0 + tot b.i0 ≤ 1099511627776 ∧ tot a.o0 + tot b.o0 ≤ 1099511627776) ∧ (tot a.i1 + tot b.i1 ≤ 1099511627776 ∧ tot a.o1 + tot b.o1 ≤ 1099511627776) ∧ calc.fitB (a.s0 + b.s0) = true ∧ calc.fitB (a.s1 + b.s1) = true)) : djB m a b = false := by
  cases e : djB m a b with
  | false => rfl
  | true => exact absurd (djB_iff.1 e) h
theorem jnl_bg {a b : List Rn} (ha : Bag a) (hb : Bag b) (h : tot a + tot b ≤ 1099511627776) : Bag (jnl a b) := ⟨jnl_srt ha.1 b, jnl_pos ha.2.1 hb.2.1, by rw [jnl_tot]; exact h⟩
theorem djR_good {m : Int} {a b : Dl} (h : djB m a b = true) : DG m (djR a b) := by
  obtain ⟨ga, gb, ⟨t1, t2⟩, ⟨t3, t4⟩, _, _⟩ := djB_iff.1 h
  obtain ⟨⟨a1, a2⟩, a3, a4⟩ := dg_bags ga
  obtain ⟨⟨b1, b2⟩, b3, b4⟩ := dg_bags gb
  have n0 := nt_lef (jnl_bg a1 b1 t1) (jnl_bg a2 b2 t2)
  rw [jnl_tot, jnl_tot, wsum_jnl, wsum_jnl] at n0
  obtain ⟨⟨_, _, x1, x2, _⟩, a5⟩ := ga
  obtain ⟨⟨_, _, y1, y2, _⟩, b5⟩ := gb
  refine ⟨?_, ?_⟩
  · have e1 : tot a.i0 + tot b.i0 - (tot a.o0 + tot b.o0) = a.n + b.n := by omega
    have e2 : wsum a.i0 + wsum b.i0 - (wsum a.o0 + wsum b.o0) = a.s0 + b.s0 := by omega
    rw [e1, e2] at n0
    exact n0
  · rcases a5 with ⟨rfl, e1, e2, e3⟩ | ⟨rfl, _, _, e1, e2, _⟩
    · rcases b5 with ⟨_, f1, f2, f3⟩ | ⟨k, _⟩
      · refine .inl ⟨rfl, ?_, ?_, ?_⟩
        · show a.s1 + b.s1 = 0; omega
        · show lef (jnl a.i1 b.i1) _ = []; rw [e2, f2]; rfl
        · show lef (jnl a.o1 b.o1) _ = []; rw [e3, f3]; rfl
      · cases k
    · rcases b5 with ⟨k, _⟩ | ⟨_, _, _, f1, f2, _⟩
      · cases k
      · have n1 := nt_lef (jnl_bg a3 b3 t3) (jnl_bg a4 b4 t4)
        rw [jnl_tot, jnl_tot, wsum_jnl, wsum_jnl] at n1
        have e3 : tot a.i1 + tot b.i1 - (tot a.o1 + tot b.o1) = a.n + b.n := by omega
        have e4 : wsum a.i1 + wsum b.i1 - (wsum a.o1 + wsum b.o1) = a.s1 + b.s1 := by omega
        rw [e3, e4] at n1
        exact .inr ⟨rfl, n1⟩
/-! What a cell becomes. -/
/-- Is there such a cell, or none? -/
def stB (m : Int) (c : Cl) (is : Bool) : Bool := if is then cg m c else (decide (m = 1) || decide (m = 2)) && csm c cl0
def daB (m : Int) (c : Cl) (is : Bool) (d : Dl) : Bool := (dg m d && stB m c is) && ((fits c.b0 d.o0 && fits c.b1 d.o1) && ((decide (tot c.b0 - tot d.o0 + tot d.i0 ≤ 1099511627776) && decide (tot c.b1 - tot d.o1 + tot d.i1 ≤ 1099511627776)) && (calc.fitB (c.s0 + d.s0) && calc.fitB (c.s1 + d.s1))))
def daR (c : Cl) (d : Dl) : Cl := ⟨c.n + d.n, c.s0 + d.s0, c.s1 + d.s1, jnl (mnl c.b0 d.o0) d.i0, jnl (mnl c.b1 d.o1) d.i1⟩
def daI (m : Int) (c : Cl) (is : Bool) (d : Dl) : Bool := daB m c is d && !decide (c.n + d.n = 0)
def daC (m : Int) (c : Cl) (is : Bool) (d : Dl) : Cl := if daI m c is d then daR c d else cl0
/-! What parts two. -/
def bwB (m : Int) (a : Cl) (was : Bool) (b : Cl) (is : Bool) : Bool := (stB m a was && stB m b is) && (calc.fitB (b.s0 - a.s0) && calc.fitB (b.s1 - a.s1))
def bwR (a b : Cl) : Dl := ⟨b.n - a.n, b.s0 - a.s0, b.s1 - a.s1, lef b.b0 a.b0, lef b.b1 a.b1, lef a.b0 b.b0, lef a.b1 b.b1⟩
def bwC (m : Int) (a : Cl) (was : Bool) (b : Cl) (is : Bool) : Dl := if bwB m a was b is then bwR a b else dl0

end Go.Proofs.Ytjkkajhjcinalaa

namespace Go.Proofs.Ytjkkajhjcinalaa
open Go.ChangeShapes Go.WideShapes Go.ChangeAt Go.RowKit
set_option linter.unusedVariables false
set_option linter.unusedSimpArgs false
set_option maxRecDepth 100000

theorem lay_more {l : List Rn} {x y q : Int} (hs : Srt (l ++ [(x, y)])) (hy : ¬ y + q = 0) : lay x q (l ++ [(x, y)]) = l ++ [(x, y + q)] := by
  have h : ∀ r ∈ l, r.1 < x := fun r hr => (List.pairwise_append.1 hs).2.2 r hr (x, y) (by simp)
  rw [lay_here h rfl, if_neg hy]
/-- bag.laid, as the document lays. -/
theorem laid_lay (base : Nat) (v : Value) (l M : List Rn) (x q : Int) (w : World) (ho : OwnN w base v l) (hb : base ≤ w.heap.size) (hn : l.length ≤ 1000000) (hs : Srt l) (hp : Pos l) (hx : ∀ r ∈ l, r.1 ≤ x) (ht : tot l ≤ 4611686018427387903) (hq : 1 ≤ q ∧ q ≤ 4611686018427387903) (hM : Hid (lay x q l = M)) :
    Calls Try.prog 95 #[v, .agg #[.int .i64 x, .int .i64 q]] w fun e w' => (∃ v', e = .returned v' ∧ OwnN w' base v' M) ∧ w.grownBy w' v.ownBlock := by
  by_cases hh : ∃ y, l[l.length - 1]? = some (x, y)
  · obtain ⟨y, hy⟩ := hh
    obtain ⟨l0, el⟩ := split_last hy
    have hyp := hp (x, y) (by rw [el]; simp)
    have hyb : y ≤ tot l := by
      have h1 := cn_srt_eq hs (r := (x, y)) (by rw [el]; simp)
      have h2 := cn_le (v := x) hp
      simp only at h1; omega
    simp only at hyp
    rw [el] at ho hs
    have hl0 : l0.length ≤ 1000000 := by rw [el, List.length_append] at hn; omega
    refine (laid_more base v l0 x y q w ho hb hl0 (by omega) (by omega)).mono ?_
    rintro e w' ⟨⟨rfl, ho'⟩, hg⟩
    refine ⟨⟨v, rfl, ?_⟩, hg⟩
    rw [← hM.out, el, lay_more hs (by omega)]
    exact ho'
  · have hne : ∀ p z, l[l.length - 1]? = some (p, z) → ¬ p = x := fun p z h e => hh ⟨z, by rw [← e]; exact h⟩
    refine (laid_new base v l x q w ho hb hn hne).mono ?_
    rintro e w' ⟨⟨v', rfl, ho'⟩, hg⟩
    refine ⟨⟨v', rfl, ?_⟩, hg⟩
    rw [← hM.out, lay_low (below_x hs hx hne)]
    exact ho'

/-- The way of Join. -/
def JI (A B la lb out : List Rn) : Prop :=
  (Srt la ∧ Pos la) ∧ (Srt lb ∧ Pos lb) ∧ (Srt out ∧ Pos out) ∧ (∀ r ∈ out, (∀ s ∈ la, r.1 ≤ s.1) ∧ ∀ s ∈ lb, r.1 ≤ s.1) ∧ (∀ v, cn v out + cn v la + cn v lb = cn v A + cn v B) ∧ tot out + tot la + tot lb = tot A + tot B ∧ out.length + la.length + lb.length ≤ A.length + B.length
theorem ji_0 {A B : List Rn} (ha : Bag A) (hb : Bag B) : JI A B A B [] :=
  ⟨⟨ha.1, ha.2.1⟩, ⟨hb.1, hb.2.1⟩, ⟨srt_nil, pos_nil⟩, (fun r hr => by simp at hr), (fun v => by simp [cn]), by simp [tot], by simp⟩
theorem ji_swap {A B la lb out : List Rn} (h : JI A B la lb out) : JI A B lb la out := by
  obtain ⟨h1, h2, h3, h4, h5, h6, h7⟩ := h
  exact ⟨h2, h1, h3, fun r hr => ⟨(h4 r hr).2, (h4 r hr).1⟩, fun v => by have := h5 v; omega, by omega, by omega⟩
theorem ji_step {A B la lb out : List Rn} {x0 x1 : Int} (h : JI A B ((x0, x1) :: la) lb out) (hx : ∀ y, lb[0]? = some y → x0 ≤ y.1) : JI A B la lb (lay x0 x1 out) := by
  obtain ⟨⟨a1, a2⟩, ⟨b1, b2⟩, ⟨o1, o2⟩, h4, h5, h6, h7⟩ := h
  have hl := a1
  rw [Srt, List.pairwise_cons] at hl
  have hx1 : 1 ≤ x1 := a2 (x0, x1) (by simp)
  have hlb : ∀ s ∈ lb, x0 ≤ s.1 := by
    intro s hs
    obtain ⟨i, hi⟩ := List.mem_iff_getElem?.1 hs
    have h0 : lb[0]? = some (lb[0]'(by have := (List.getElem?_eq_some_iff.1 hi).1; omega)) := List.getElem?_eq_getElem _
    have hy := hx _ h0
    by_cases hz : i = 0
    · subst hz; rw [h0] at hi; have e := Option.some.inj hi; rw [← e]; exact hy
    · have := srt_get b1 h0 hi (by omega); omega
  refine ⟨⟨hl.2, fun r hr => a2 r (by simp [hr])⟩, ⟨b1, b2⟩, ⟨lay_srt o1, lay_pos o2 hx1⟩, fun r hr => ?_, fun v => ?_, ?_, ?_⟩
  · rcases lay_mem hr with e | hr
    · refine ⟨fun s hs => ?_, fun s hs => by rw [e]; exact hlb s hs⟩
      have := hl.1 s hs
      unfold ltR at this
      simp only at this
      omega
    · exact ⟨fun s hs => (h4 r hr).1 s (by simp [hs]), (h4 r hr).2⟩
  · have := h5 v
    rw [lay_cn]
    simp only [cn] at this
    by_cases hv : x0 = v
    · subst hv; simp only [if_pos] at this ⊢; omega
    · rw [if_neg hv] at this; rw [if_neg (fun e => hv e.symm)]; omega
  · rw [lay_tot]; simp only [tot] at h6; omega
  · have := lay_len (v := x0) (n := x1) (l := out)
    simp only [List.length_cons] at h7
    omega
/-- What laid wants of the next run. -/
theorem ji_next {A B la lb out : List Rn} {x0 x1 : Int} (h : JI A B ((x0, x1) :: la) lb out) (ht : tot A + tot B ≤ 1099511627776) (hl : A.length + B.length ≤ 2000) : Srt out ∧ Pos out ∧ (∀ r ∈ out, r.1 ≤ x0) ∧ tot out ≤ 1099511627776 ∧ 1 ≤ x1 ∧ x1 ≤ 1099511627776 ∧ out.length ≤ 2000 := by
  obtain ⟨⟨a1, a2⟩, ⟨b1, b2⟩, ⟨o1, o2⟩, h4, h5, h6, h7⟩ := h
  have hx1 : 1 ≤ x1 := a2 (x0, x1) (by simp)
  have t1 := tot_nn o2
  have t2 := tot_nn b2
  have t3 := tot_nn (l := la) (fun r hr => a2 r (by simp [hr]))
  simp only [tot] at h6
  exact ⟨o1, o2, fun r hr => (h4 r hr).1 (x0, x1) (by simp), by omega, hx1, by omega, by omega⟩
theorem ji_end {A B out : List Rn} (h : JI A B [] [] out) (ha : Srt A) (pa : Pos A) (pb : Pos B) : out = jnl A B := by
  obtain ⟨_, _, ⟨o1, o2⟩, _, h5, _, _⟩ := h
  exact jnl_is ha pa pb o1 (pos_nz o2) (fun v => by have := h5 v; simp [cn] at this; omega)
theorem head_cons {l : List Rn} {x : Rn} (h : l[0]? = some x) : l = x :: l.drop 1 := by
  cases l with
  | nil => simp at h
  | cons y l => simp at h; subst h; rfl

/-- The way of Minus. -/
def MI (a b out : List Rn) (k j : Nat) : Prop :=
  Srt out ∧ Pos out ∧ (∀ r ∈ out, ∃ s ∈ a.take k, s.1 = r.1) ∧ (∀ v, cn v out = cn v (a.take k) - cn v (b.take j)) ∧ (∀ r ∈ b.take j, r.2 ≤ cn r.1 a) ∧ ∀ r ∈ a.take k, ∀ y, b[j]? = some y → ¬ r.1 = y.1
theorem mi_0 (a b : List Rn) : MI a b [] 0 0 :=
  ⟨srt_nil, pos_nil, (fun r hr => by simp at hr), (fun v => by simp [cn]), (fun r hr => by simp at hr), fun r hr => by simp at hr⟩
theorem take_lt {a : List Rn} (ha : Srt a) {k : Nat} {x : Rn} (hr : a[k]? = some x) : ∀ r ∈ a.take k, r.1 < x.1 := by
  intro r hr'
  obtain ⟨i, hi⟩ := List.mem_iff_getElem?.1 hr'
  rw [List.getElem?_take] at hi
  by_cases hik : i < k
  · rw [if_pos hik] at hi; exact srt_get ha hi hr hik
  · rw [if_neg hik] at hi; cases hi
theorem mi_snoc {a out : List Rn} (ha : Srt a) {k : Nat} {x0 x1 z : Int} (hr : a[k]? = some (x0, x1)) (ho : Srt out) (hp : Pos out) (hm : ∀ r ∈ out, ∃ s ∈ a.take k, s.1 = r.1) (hz : 1 ≤ z) : Srt (out ++ [(x0, z)]) ∧ Pos (out ++ [(x0, z)]) ∧ ∀ r ∈ out ++ [(x0, z)], ∃ s ∈ a.take (k + 1), s.1 = r.1 := by
  refine ⟨srt_snoc ho (fun r hr' => ?_), fun r hr' => ?_, fun r hr' => ?_⟩
  · obtain ⟨s, hs, e⟩ := hm r hr'
    have := take_lt ha hr s hs
    simp only at this ⊢; omega
  · rcases List.mem_append.1 hr' with hr' | hr'
    · exact hp r hr'
    · simp at hr'; subst hr'; exact hz
  · rw [take_one hr]
    rcases List.mem_append.1 hr' with hr' | hr'
    · obtain ⟨s, hs, e⟩ := hm r hr'
      exact ⟨s, List.mem_append_left _ hs, e⟩
    · simp at hr'; subst hr'; exact ⟨(x0, x1), by simp, rfl⟩
theorem mi_keep {a b out : List Rn} {k j : Nat} {x0 x1 : Int} (h : MI a b out k j) (ha : Srt a) (pa : Pos a) (hr : a[k]? = some (x0, x1)) (hne : ∀ y, b[j]? = some y → ¬ x0 = y.1) : MI a b (out ++ [(x0, x1)]) (k + 1) j := by
  obtain ⟨h1, h2, h3, h4, h5, h6⟩ := h
  obtain ⟨g1, g2, g3⟩ := mi_snoc (z := x1) ha hr h1 h2 h3 (pa (x0, x1) (List.mem_of_getElem? hr))
  refine ⟨g1, g2, g3, fun v => ?_, h5, fun r hr' y hy => ?_⟩
  · rw [take_one hr, cn_app, cn_app, h4]; simp only [cn]; omega
  · rw [take_one hr] at hr'
    rcases List.mem_append.1 hr' with hr' | hr'
    · exact h6 r hr' y hy
    · simp at hr'; subst hr'; exact hne y hy
theorem mi_next {a b : List Rn} {k j : Nat} {x0 x1 y1 : Int} (ha : Srt a) (hb : Srt b) (hr : a[k]? = some (x0, x1)) (hq : b[j]? = some (x0, y1)) (h5 : ∀ r ∈ b.take j, r.2 ≤ cn r.1 a) (hy : y1 ≤ x1) : (∀ r ∈ b.take (j + 1), r.2 ≤ cn r.1 a) ∧ ∀ r ∈ a.take (k + 1), ∀ y, b[j + 1]? = some y → ¬ r.1 = y.1 := by
  refine ⟨fun r hr' => ?_, fun r hr' y hy' => ?_⟩
  · rw [take_one hq] at hr'
    rcases List.mem_append.1 hr' with hr' | hr'
    · exact h5 r hr'
    · simp at hr'; subst hr'
      have := cn_at ha hr
      simp only at this ⊢; omega
  · have h1 : x0 < y.1 := srt_get hb hq hy' (by omega)
    rw [take_one hr] at hr'
    rcases List.mem_append.1 hr' with hr' | hr'
    · have := take_lt ha hr r hr'; simp only at this; omega
    · simp at hr'; subst hr'; simp only; omega
theorem mi_sub {a b out : List Rn} {k j : Nat} {x0 x1 y1 : Int} (h : MI a b out k j) (ha : Srt a) (hb : Srt b) (hr : a[k]? = some (x0, x1)) (hq : b[j]? = some (x0, y1)) (hy : y1 < x1) : MI a b (out ++ [(x0, x1 - y1)]) (k + 1) (j + 1) := by
  obtain ⟨h1, h2, h3, h4, h5, h6⟩ := h
  obtain ⟨g1, g2, g3⟩ := mi_snoc (z := x1 - y1) ha hr h1 h2 h3 (by omega)
  obtain ⟨e1, e2⟩ := mi_next ha hb hr hq h5 (by omega)
  refine ⟨g1, g2, g3, fun v => ?_, e1, e2⟩
  rw [take_one hr, take_one hq, cn_app, cn_app, cn_app, h4]
  simp only [cn]; split <;> omega
theorem mi_gone {a b out : List Rn} {k j : Nat} {x0 x1 y1 : Int} (h : MI a b out k j) (ha : Srt a) (hb : Srt b) (hr : a[k]? = some (x0, x1)) (hq : b[j]? = some (x0, y1)) (hy : y1 = x1) : MI a b out (k + 1) (j + 1) := by
  obtain ⟨h1, h2, h3, h4, h5, h6⟩ := h
  obtain ⟨e1, e2⟩ := mi_next ha hb hr hq h5 (by omega)
  refine ⟨h1, h2, fun r hr' => ?_, fun v => ?_, e1, e2⟩
  · obtain ⟨s, hs, e⟩ := h3 r hr'
    exact ⟨s, by rw [take_one hr]; exact List.mem_append_left _ hs, e⟩
  · rw [take_one hr, take_one hq, cn_app, cn_app, h4]
    simp only [cn]; split <;> omega
theorem mi_bad {a b : List Rn} {k j : Nat} {x0 x1 y1 : Int} (ha : Srt a) (hr : a[k]? = some (x0, x1)) (hq : b[j]? = some (x0, y1)) (hy : x1 < y1) : ¬ Fits a b := by
  intro hf
  have h1 := hf _ (List.mem_of_getElem? hq)
  have h2 := cn_at ha hr
  simp only at h1 h2; omega
theorem mi_end {a b out : List Rn} {k j : Nat} {y : Rn} (h : MI a b out k j) (pb : Pos b) (hk : a.length ≤ k) (hq : b[j]? = some y) : ¬ Fits a b := by
  intro hf
  obtain ⟨_, _, _, _, _, h6⟩ := h
  rw [List.take_of_length_le hk] at h6
  have h1 := hf y (List.mem_of_getElem? hq)
  have h2 := pb y (List.mem_of_getElem? hq)
  have h3 : cn y.1 a = 0 := cn_none (fun r hr => h6 r hr y hq)
  omega
theorem mi_done {a b out : List Rn} {k j : Nat} (h : MI a b out k j) (ha : Srt a) (pa : Pos a) (pb : Pos b) (hk : a.length ≤ k) (hj : b.length ≤ j) : Fits a b ∧ out = mnl a b := by
  obtain ⟨h1, h2, h3, h4, h5, h6⟩ := h
  rw [List.take_of_length_le hk] at h4
  rw [List.take_of_length_le hj] at h4 h5
  exact ⟨h5, mnl_is ha (pos_nz pa) pb h1 (pos_nz h2) h4⟩
/-- A row of one's own, while another block is written into. -/
theorem own_other {w w' : World} {base N : Nat} {v : Value} {l : List Rn} (h : OwnN w base v l) (hg : w.grownBy w' (some N)) (hN : ∀ g, v.ownBlock = some g → ¬ g = N) : OwnN w' base v l := by
  unfold OwnN at *
  refine ⟨h.1, ?_⟩
  rcases h.2 with h' | ⟨g, cap, cur, h', hb, hh, h1, h2, h3, h4⟩
  · exact .inl h'
  · refine .inr ⟨g, cap, cur, h', hb, ?_, h1, h2, h3, h4⟩
    rw [hg.block g (heap_lt hh) (fun e => hN g (by rw [h']; rfl) (by cases e; rfl))]
    exact hh

end Go.Proofs.Ytjkkajhjcinalaa

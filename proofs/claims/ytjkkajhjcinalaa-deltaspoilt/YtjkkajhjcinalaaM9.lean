/-
  Cells as numbers and bags: may they be, the cell of rows, both together, what is told of them.
  Conditions: as each theorem states them.
-/
import Derived.Test.YtjkkajhjcinalaaBR
namespace Go.Proofs.Ytjkkajhjcinalaa
open Go.RowKit
set_option linter.unusedVariables false
set_option linter.unusedSimpArgs false
set_option maxRecDepth 100000

/-- A cell: how many rows; of two measures the sum and the values. -/
structure Cl where
  n : Int
  s0 : Int
  s1 : Int
  b0 : List Rn
  b1 : List Rn
def cl0 : Cl := ⟨0, 0, 0, [], []⟩
/-- One measure of it, reckoned. -/
def Rk1 (n s : Int) (b : List Rn) : Prop := Bag b ∧ tot b = n ∧ wsum b = s
def rk (n s : Int) (b : List Rn) : Bool := gd b && (decide (tot b = n) && decide (wsum b = s))
theorem rk_iff {n s : Int} {b : List Rn} : rk n s b = true ↔ Rk1 n s b := by
  unfold rk Rk1; simp only [Bool.and_eq_true, decide_eq_true_iff, gd_iff]
theorem rk_yes {n s : Int} {b : List Rn} (h : Rk1 n s b) : rk n s b = true := rk_iff.2 h
theorem rk_no {n s : Int} {b : List Rn} (h : ¬ Rk1 n s b) : rk n s b = false := by
  cases e : rk n s b with
  | false => rfl
  | true => exact absurd (rk_iff.1 e) h
/-- May it be, of so many measures? -/
def CG (m : Int) (c : Cl) : Prop := (1 ≤ c.n ∧ c.n ≤ 1099511627776) ∧ Rk1 c.n c.s0 c.b0 ∧ ((m = 1 ∧ c.s1 = 0 ∧ c.b1 = []) ∨ (m = 2 ∧ Rk1 c.n c.s1 c.b1))
def cg (m : Int) (c : Cl) : Bool := decide (1 ≤ c.n ∧ c.n ≤ 1099511627776) && (rk c.n c.s0 c.b0 && ((decide (m = 1) && (decide (c.s1 = 0) && c.b1.isEmpty)) || (decide (m = 2) && rk c.n c.s1 c.b1)))
theorem cg_iff {m : Int} {c : Cl} : cg m c = true ↔ CG m c := by
  unfold cg CG
  simp only [Bool.and_eq_true, Bool.or_eq_true, decide_eq_true_iff, rk_iff, List.isEmpty_iff]
theorem cg_yes {m : Int} {c : Cl} (h : CG m c) : cg m c = true := cg_iff.2 h
theorem cg_no {m : Int} {c : Cl} (h : ¬ CG m c) : cg m c = false := by
  cases e : cg m c with
  | false => rfl
  | true => exact absurd (cg_iff.1 e) h
theorem cg_m {m : Int} {c : Cl} (h : cg m c = true) : m = 1 ∨ m = 2 := by
  rcases (cg_iff.1 h).2.2 with h | h
  · exact .inl h.1
  · exact .inr h.1
theorem cg_not {m : Int} (c : Cl) (h : ¬ (m = 1 ∨ m = 2)) : cg m c = false := cg_no (fun g => h (cg_m (cg_yes g)))
theorem cg_cl0 (m : Int) : cg m cl0 = false := cg_no (fun g => by have := g.1.1; simp [cl0] at this)
/-- Alike in all? -/
def csm (a b : Cl) : Bool := decide (a.n = b.n) && ((decide (a.s0 = b.s0) && decide (a.s1 = b.s1)) && (sm a.b0 b.b0 && sm a.b1 b.b1))
theorem sm_iff {a b : List Rn} : sm a b = true ↔ a = b := by
  constructor
  · intro h; unfold sm at h; exact of_decide_eq_true h
  · exact sm_yes
theorem csm_iff {a b : Cl} : csm a b = true ↔ a = b := by
  obtain ⟨n, s, t, x, y⟩ := a
  obtain ⟨n', s', t', x', y'⟩ := b
  unfold csm
  simp only [Bool.and_eq_true, decide_eq_true_iff, sm_iff, Cl.mk.injEq, and_assoc]
theorem csm_self (a : Cl) : csm a a = true := csm_iff.2 rfl
theorem csm_no {a b : Cl} (h : ¬ a = b) : csm a b = false := by
  cases e : csm a b with
  | false => rfl
  | true => exact absurd (csm_iff.1 e) h
theorem csm_comm (a b : Cl) : csm a b = csm b a := by
  by_cases h : a = b
  · subst h; rfl
  · rw [csm_no h, csm_no (fun e => h e.symm)]

/-! The cell of rows. -/
/-- A row: a place, two measures. -/
abbrev Rw := Int × Int × Int × Int × Int × Int
def rm0 : Rw → Int | (_, _, _, _, m, _) => m
def rm1 : Rw → Int | (_, _, _, _, _, m) => m
def rok : Rw → Prop | (a, b, c, d, m, n) => (U8 a ∧ U8 b ∧ U8 c ∧ U8 d) ∧ I64 m ∧ I64 n
def rcs : Rw → List Value | (a, b, c, d, m, n) => [.int .u8 a, .int .u8 b, .int .u8 c, .int .u8 d, .int .i64 m, .int .i64 n]
def V0 (l : List Rw) : List Int := l.map rm0
def V1 (l : List Rw) : List Int := l.map rm1
theorem V0_i64 {l : List Rw} (h : ∀ r ∈ l, rok r) : ∀ x ∈ V0 l, I64 x := by
  intro x hx
  obtain ⟨r, hr, rfl⟩ := List.mem_map.1 hx
  obtain ⟨a, b, c, d, m, n⟩ := r
  exact (h _ hr).2.1
theorem V1_i64 {l : List Rw} (h : ∀ r ∈ l, rok r) : ∀ x ∈ V1 l, I64 x := by
  intro x hx
  obtain ⟨r, hr, rfl⟩ := List.mem_map.1 hx
  obtain ⟨a, b, c, d, m, n⟩ := r
  exact (h _ hr).2.2
theorem V0_len (l : List Rw) : (V0 l).length = l.length := by unfold V0; simp
theorem V1_len (l : List Rw) : (V1 l).length = l.length := by unfold V1; simp
theorem sum_fold (l : List Int) : l.foldr (· + ·) 0 = calc.sumI l := by
  induction l with
  | nil => rfl
  | cons x l ih => simp only [List.foldr_cons, calc.sumI, ih]
theorem bagOf_wsum (l : List Int) : wsum (bagOf l) = calc.sumI l := by
  unfold bagOf; rw [ofl_wsum, sum_fold]; simp [wsum]
theorem sumI_app (l m : List Int) : calc.sumI (l ++ m) = calc.sumI l + calc.sumI m := by
  induction l with
  | nil => simp [calc.sumI]
  | cons x l ih => simp only [List.cons_append, calc.sumI, ih]; omega
/-- Is there one? -/
def ofB (m : Int) (l : List Rw) : Bool := ((decide (m = 1) || decide (m = 2)) && !l.isEmpty) && (calc.fitB (calc.sumI (V0 l)) && (decide (m = 1) || calc.fitB (calc.sumI (V1 l))))
/-- The one that it would be. -/
def ofR (m : Int) (l : List Rw) : Cl := ⟨l.length, calc.sumI (V0 l), if m = 2 then calc.sumI (V1 l) else 0, bagOf (V0 l), if m = 2 then bagOf (V1 l) else []⟩
def ofC (m : Int) (l : List Rw) : Cl := if ofB m l then ofR m l else cl0
theorem ofC_yes {m : Int} {l : List Rw} (h : ofB m l = true) : ofC m l = ofR m l := by unfold ofC; rw [h]; rfl
theorem ofC_no {m : Int} {l : List Rw} (h : ofB m l = false) : ofC m l = cl0 := by unfold ofC; rw [h]; rfl
theorem ofB_iff {m : Int} {l : List Rw} : ofB m l = true ↔ (m = 1 ∨ m = 2) ∧ ¬ l = [] ∧ calc.fitB (calc.sumI (V0 l)) = true ∧ (m = 1 ∨ calc.fitB (calc.sumI (V1 l)) = true) := by
  unfold ofB
  simp only [Bool.and_eq_true, Bool.or_eq_true, decide_eq_true_iff, Bool.not_eq_true', List.isEmpty_eq_false_iff, ne_eq, and_assoc]
theorem ofB_no {m : Int} {l : List Rw} (h : ¬ ((m = 1 ∨ m = 2) ∧ ¬ l = [] ∧ calc.fitB (calc.sumI (V0 l)) = true ∧ (m = 1 ∨ calc.fitB (calc.sumI (V1 l)) = true))) : ofB m l = false := by
  cases e : ofB m l with
  | false => rfl
  | true => exact absurd (ofB_iff.1 e) h
theorem rk_of {l : List Int} (h : l.length ≤ 1000000) : Rk1 l.length (calc.sumI l) (bagOf l) := ⟨bagOf_bag h, bagOf_tot l, bagOf_wsum l⟩
theorem ofR_good {m : Int} {l : List Rw} (hm : m = 1 ∨ m = 2) (h0 : ¬ l = []) (hl : l.length ≤ 1000) : CG m (ofR m l) := by
  have h1 : 0 < l.length := List.length_pos_iff.2 h0
  have e0 := rk_of (l := V0 l) (by rw [V0_len]; omega)
  have e1 := rk_of (l := V1 l) (by rw [V1_len]; omega)
  rw [V0_len] at e0
  rw [V1_len] at e1
  refine ⟨⟨by show (1 : Int) ≤ (l.length : Int); omega, by show (l.length : Int) ≤ 1099511627776; omega⟩, e0, ?_⟩
  rcases hm with rfl | rfl
  · exact .inl ⟨rfl, rfl, rfl⟩
  · exact .inr ⟨rfl, e1⟩
theorem ofC_good {m : Int} {l : List Rw} (h : ofB m l = true) (hl : l.length ≤ 1000) : cg m (ofC m l) = true := by
  rw [ofC_yes h]
  have := ofB_iff.1 h
  exact cg_yes (ofR_good this.1 this.2.1 hl)
theorem fitB_iff {x : Int} : calc.fitB x = true ↔ I64 x := by unfold calc.fitB I64; rw [decide_eq_true_iff]
theorem fitB_i64 {x : Int} (h : I64 x) : calc.fitB x = true := fitB_iff.2 h
theorem fitV_yes {x : Int} (h : calc.fitB x = true) : calc.fitV x = x := by unfold calc.fitV; rw [h]; rfl

/-! Both together. -/
def cjB (m : Int) (a b : Cl) : Bool := (cg m a && cg m b) && (decide (a.n + b.n ≤ 1099511627776) && (calc.fitB (a.s0 + b.s0) && (decide (m = 1) || calc.fitB (a.s1 + b.s1))))
def cjR (a b : Cl) : Cl := ⟨a.n + b.n, a.s0 + b.s0, a.s1 + b.s1, jnl a.b0 b.b0, jnl a.b1 b.b1⟩
def cjC (m : Int) (a b : Cl) : Cl := if cjB m a b then cjR a b else cl0
theorem cjC_yes {m : Int} {a b : Cl} (h : cjB m a b = true) : cjC m a b = cjR a b := by unfold cjC; rw [h]; rfl
theorem cjC_no {m : Int} {a b : Cl} (h : cjB m a b = false) : cjC m a b = cl0 := by unfold cjC; rw [h]; rfl
theorem cjB_iff {m : Int} {a b : Cl} : cjB m a b = true ↔ CG m a ∧ CG m b ∧ a.n + b.n ≤ 1099511627776 ∧ calc.fitB (a.s0 + b.s0) = true ∧ (m = 1 ∨ calc.fitB (a.s1 + b.s1) = true) := by
  unfold cjB
  simp only [Bool.and_eq_true, Bool.or_eq_true, decide_eq_true_iff, cg_iff, and_assoc]
theorem cjB_no {m : Int} {a b : Cl} (h : ¬ (CG m a ∧ CG m b ∧ a.n + b.n ≤ 1099511627776 ∧ calc.fitB (a.s0 + b.s0) = true ∧ (m = 1 ∨ calc.fitB (a.s1 + b.s1) = true))) : cjB m a b = false := by
  cases e : cjB m a b with
  | false => rfl
  | true => exact absurd (cjB_iff.1 e) h
theorem wsum_jnl (a b : List Rn) : wsum (jnl a b) = wsum a + wsum b := by
  induction b generalizing a with
  | nil => simp [jnl, wsum]
  | cons x l ih => simp only [jnl, ih, wsum_lay, wsum]; omega
theorem rk_jnl {n n' s s' : Int} {a b : List Rn} (h : Rk1 n s a) (k : Rk1 n' s' b) (ht : n + n' ≤ 1099511627776) : Rk1 (n + n') (s + s') (jnl a b) := by
  obtain ⟨h1, h2, h3⟩ := h
  obtain ⟨k1, k2, k3⟩ := k
  exact ⟨⟨jnl_srt h1.1 b, jnl_pos h1.2.1 k1.2.1, by rw [jnl_tot, h2, k2]; exact ht⟩, by rw [jnl_tot, h2, k2], by rw [wsum_jnl, h3, k3]⟩
theorem cjR_good {m : Int} {a b : Cl} (ha : CG m a) (hb : CG m b) (ht : a.n + b.n ≤ 1099511627776) : CG m (cjR a b) := by
  obtain ⟨a1, a2, a3⟩ := ha
  obtain ⟨b1, b2, b3⟩ := hb
  refine ⟨⟨by show 1 ≤ a.n + b.n; omega, ht⟩, rk_jnl a2 b2 ht, ?_⟩
  rcases a3 with ⟨rfl, e1, e2⟩ | ⟨rfl, e1⟩
  · rcases b3 with ⟨_, f1, f2⟩ | ⟨h, _⟩
    · refine .inl ⟨rfl, ?_, ?_⟩
      · show a.s1 + b.s1 = 0; omega
      · show jnl a.b1 b.b1 = []; rw [e2, f2]; rfl
    · cases h
  · rcases b3 with ⟨h, _⟩ | ⟨_, f1⟩
    · cases h
    · exact .inr ⟨rfl, rk_jnl e1 f1 ht⟩
theorem cjC_good {m : Int} {a b : Cl} (h : cjB m a b = true) : cg m (cjC m a b) = true := by
  rw [cjC_yes h]
  obtain ⟨h1, h2, h3, _⟩ := cjB_iff.1 h
  exact cg_yes (cjR_good h1 h2 h3)
/-- Either may stand first. -/
theorem cjR_comm {m : Int} {a b : Cl} (ha : CG m a) (hb : CG m b) : cjR a b = cjR b a := by
  obtain ⟨a1, ⟨x1, _, _⟩, a3⟩ := ha
  obtain ⟨b1, ⟨y1, _, _⟩, b3⟩ := hb
  have e0 : jnl a.b0 b.b0 = jnl b.b0 a.b0 := jnl_comm x1.1 x1.2.1 y1.1 y1.2.1
  have e1 : jnl a.b1 b.b1 = jnl b.b1 a.b1 := by
    rcases a3 with ⟨_, _, e⟩ | ⟨_, h, _, _⟩ <;> rcases b3 with ⟨_, _, f⟩ | ⟨_, k, _, _⟩
    · rw [e, f]
    · rw [e]; exact jnl_comm srt_nil pos_nil k.1 k.2.1
    · rw [f]; exact jnl_comm h.1 h.2.1 srt_nil pos_nil
    · exact jnl_comm h.1 h.2.1 k.1 k.2.1
  unfold cjR
  rw [e0, e1, Int.add_comm a.n, Int.add_comm a.s0, Int.add_comm a.s1]
theorem cjB_comm (m : Int) (a b : Cl) : cjB m a b = cjB m b a := by
  unfold cjB
  rw [Bool.and_comm (cg m a), Int.add_comm a.n, Int.add_comm a.s0, Int.add_comm a.s1]
theorem cjC_comm (m : Int) (a b : Cl) : cjC m a b = cjC m b a := by
  cases h : cjB m a b with
  | false => rw [cjC_no h, cjC_no (by rw [cjB_comm]; exact h)]
  | true =>
    rw [cjC_yes h, cjC_yes (by rw [cjB_comm]; exact h)]
    obtain ⟨h1, h2, _⟩ := cjB_iff.1 h
    exact cjR_comm h1 h2
theorem bagOf_app (l k : List Int) : jnl (bagOf l) (bagOf k) = bagOf (l ++ k) := by
  symm
  refine jnl_is (bagOf_srt l) (bagOf_pos l) (bagOf_pos k) (bagOf_srt _) (pos_nz (bagOf_pos _)) (fun v => ?_)
  rw [bagOf_cn, bagOf_cn, bagOf_cn, oc_app]
/-- P9.4, of cells as numbers. -/
theorem ofR_app {m : Int} (hm : m = 1 ∨ m = 2) (l k : List Rw) : cjR (ofR m l) (ofR m k) = ofR m (l ++ k) := by
  have e0 : V0 (l ++ k) = V0 l ++ V0 k := by unfold V0; simp
  have e1 : V1 (l ++ k) = V1 l ++ V1 k := by unfold V1; simp
  unfold cjR ofR
  rw [e0, e1, sumI_app, sumI_app, List.length_append, ← bagOf_app, ← bagOf_app]
  rcases hm with rfl | rfl
  · simp [jnl]
  · simp
theorem join_of {m : Int} {l k : List Rw} (hl : ofB m l = true) (hk : ofB m k = true) (nl : l.length ≤ 1000) (nk : k.length ≤ 1000) : cjB m (ofC m l) (ofC m k) = ofB m (l ++ k) ∧ cjC m (ofC m l) (ofC m k) = ofC m (l ++ k) := by
  have gl := cg_iff.1 (ofC_good hl nl)
  have gk := cg_iff.1 (ofC_good hk nk)
  rw [ofC_yes hl] at *
  rw [ofC_yes hk] at *
  obtain ⟨hm, l0, _, _⟩ := ofB_iff.1 hl
  have hap := ofR_app hm l k
  have hn : (ofR m l).n + (ofR m k).n ≤ 1099511627776 := by show (l.length : Int) + (k.length : Int) ≤ 1099511627776; omega
  have hs0 : (ofR m l).s0 + (ofR m k).s0 = calc.sumI (V0 (l ++ k)) := congrArg Cl.s0 hap
  have hs1 : m = 2 → (ofR m l).s1 + (ofR m k).s1 = calc.sumI (V1 (l ++ k)) := by
    intro e
    have := congrArg Cl.s1 hap
    subst e
    exact this
  have e : cjB m (ofR m l) (ofR m k) = ofB m (l ++ k) := by
    by_cases h : ofB m (l ++ k) = true
    · rw [h]
      obtain ⟨_, _, h1, h2⟩ := ofB_iff.1 h
      refine cjB_iff.2 ⟨gl, gk, hn, by rw [hs0]; exact h1, ?_⟩
      rcases hm with rfl | rfl
      · exact .inl rfl
      · rcases h2 with h2 | h2
        · cases h2
        · exact .inr (by rw [hs1 rfl]; exact h2)
    · have h' : ofB m (l ++ k) = false := by simpa using h
      rw [h']
      refine cjB_no (fun ⟨_, _, _, h1, h2⟩ => h (ofB_iff.2 ⟨hm, by simp [l0], by rw [← hs0]; exact h1, ?_⟩))
      rcases hm with rfl | rfl
      · exact .inl rfl
      · rcases h2 with h2 | h2
        · cases h2
        · exact .inr (by rw [← hs1 rfl]; exact h2)
  refine ⟨e, ?_⟩
  cases h : ofB m (l ++ k) with
  | true => rw [cjC_yes (e.trans h), ofC_yes h, hap]
  | false => rw [cjC_no (e.trans h), ofC_no h]

/-! What is told of it. -/
def mn (l : List Rn) : Int := (l.headD (0, 0)).1
def mx (l : List Rn) : Int := (l.getLastD (0, 0)).1
/-- A line: a place, how many, sums, least and greatest values. -/
def lnv (x0 x1 x2 x3 n s0 s1 a0 a1 b0 b1 : Int) : Value := .agg #[.int .u8 x0, .int .u8 x1, .int .u8 x2, .int .u8 x3, .int .i64 n, .int .i64 s0, .int .i64 s1, .int .i64 a0, .int .i64 a1, .int .i64 b0, .int .i64 b1]
def ln0 : Value := lnv 0 0 0 0 0 0 0 0 0 0 0
def lineV (m x0 x1 x2 x3 : Int) (c : Cl) : Value := if cg m c then lnv x0 x1 x2 x3 c.n c.s0 c.s1 (mn c.b0) (if m = 2 then mn c.b1 else 0) (mx c.b0) (if m = 2 then mx c.b1 else 0) else ln0
theorem lineV_no {m x0 x1 x2 x3 : Int} {c : Cl} (h : cg m c = false) : lineV m x0 x1 x2 x3 c = ln0 := by unfold lineV; rw [h]; rfl
theorem lineV_1 {x0 x1 x2 x3 : Int} {c : Cl} (h : cg 1 c = true) : lineV 1 x0 x1 x2 x3 c = lnv x0 x1 x2 x3 c.n c.s0 c.s1 (mn c.b0) 0 (mx c.b0) 0 := by unfold lineV; rw [h]; rfl
theorem lineV_2 {x0 x1 x2 x3 : Int} {c : Cl} (h : cg 2 c = true) : lineV 2 x0 x1 x2 x3 c = lnv x0 x1 x2 x3 c.n c.s0 c.s1 (mn c.b0) (mn c.b1) (mx c.b0) (mx c.b1) := by unfold lineV; rw [h]; rfl
theorem rk_ne {n s : Int} {b : List Rn} (h : Rk1 n s b) (hn : 1 ≤ n) : ¬ b = [] := by
  intro e; subst e
  have := h.2.1
  simp [tot] at this
  omega
theorem rk_hase {n s : Int} {b : List Rn} (h : Rk1 n s b) (hn : 1 ≤ n) : lst b = mn b ∧ gst b = mx b ∧ hasE b = true := by
  have h0 := rk_ne h hn
  have hg := gd_yes h.1
  refine ⟨?_, ?_, ?_⟩
  · unfold lst mn; rw [hg]; rfl
  · unfold gst mx; rw [hg]; rfl
  · unfold hasE; rw [hg]; simp [h0]

end Go.Proofs.Ytjkkajhjcinalaa

/-
  A delta and its other way round, one behind the other, leave a cell as it was: as numbers and bags.
  Conditions: as each theorem states them.
-/
import Derived.Test.YtjkkajhjcinalaaG6
namespace Go.Proofs.Ytjkkajhjcinalaa
open Go.RowKit
set_option linter.unusedVariables false
set_option linter.unusedSimpArgs false
set_option maxRecDepth 100000

theorem da_open {m : Int} {c : Cl} {is : Bool} {d : Dl} (h : daB m c is d = true) : (DG m d ∧ stB m c is = true) ∧ (Fits c.b0 d.o0 ∧ Fits c.b1 d.o1) ∧ (tot c.b0 - tot d.o0 + tot d.i0 ≤ 1099511627776 ∧ tot c.b1 - tot d.o1 + tot d.i1 ≤ 1099511627776) ∧ calc.fitB (c.s0 + d.s0) = true ∧ calc.fitB (c.s1 + d.s1) = true := by
  unfold daB at h
  simp only [Bool.and_eq_true, decide_eq_true_iff] at h
  obtain ⟨⟨g, s⟩, ⟨f1, f2⟩, ⟨t1, t2⟩, e1, e2⟩ := h
  exact ⟨⟨dg_iff.1 g, s⟩, ⟨fits_iff.1 f1, fits_iff.1 f2⟩, ⟨t1, t2⟩, e1, e2⟩
/-- What stands is reckoned; it is there just if it has rows. -/
def RkC (m : Int) (c : Cl) : Prop := Rk1 c.n c.s0 c.b0 ∧ ((m = 1 ∧ c.s1 = 0 ∧ c.b1 = []) ∨ (m = 2 ∧ Rk1 c.n c.s1 c.b1))
theorem st_open {m : Int} {c : Cl} {is : Bool} (h : stB m c is = true) : RkC m c ∧ (0 ≤ c.n ∧ c.n ≤ 1099511627776) ∧ is = !decide (c.n = 0) := by
  cases is with
  | true =>
    have g := cg_iff.1 (show cg m c = true from h)
    refine ⟨g.2, ⟨by have := g.1; omega, g.1.2⟩, ?_⟩
    rw [decide_eq_false (by have := g.1.1; omega)]
    rfl
  | false =>
    have h' : ((decide (m = 1) || decide (m = 2)) && csm c cl0) = true := h
    simp only [Bool.and_eq_true, Bool.or_eq_true, decide_eq_true_iff] at h'
    have e := csm_iff.1 h'.2
    subst e
    refine ⟨⟨⟨bag_nil, rfl, rfl⟩, ?_⟩, ⟨by show (0 : Int) ≤ 0; decide, by show (0 : Int) ≤ 1099511627776; decide⟩, rfl⟩
    rcases h'.1 with rfl | rfl
    · exact .inl ⟨rfl, rfl, rfl⟩
    · exact .inr ⟨rfl, bag_nil, rfl, rfl⟩
theorem tot_zero {l : List Rn} (h : Pos l) (e : tot l = 0) : l = [] := by
  cases l with
  | nil => rfl
  | cons x l =>
    have h1 := h x (by simp)
    have h2 := tot_nn (l := l) (fun r hr => h r (by simp [hr]))
    simp only [tot] at e
    omega
theorem rk_zero {s : Int} {b : List Rn} (h : Rk1 0 s b) : b = [] ∧ s = 0 := by
  have e := tot_zero h.1.2.1 h.2.1
  subst e
  exact ⟨rfl, h.2.2.symm⟩
theorem rkc_zero {m : Int} {c : Cl} (h : RkC m c) (e : c.n = 0) : c = cl0 := by
  obtain ⟨n, s0, s1, b0, b1⟩ := c
  simp only at e
  subst e
  obtain ⟨h0, h1⟩ := h
  obtain ⟨e1, e2⟩ := rk_zero h0
  simp only at e1 e2
  subst e1 e2
  rcases h1 with ⟨_, e3, e4⟩ | ⟨_, k⟩
  · simp only at e3 e4
    subst e3 e4
    rfl
  · obtain ⟨e3, e4⟩ := rk_zero k
    simp only at e3 e4
    subst e3 e4
    rfl
theorem st_made {m : Int} {c : Cl} (h : RkC m c) (h0 : 0 ≤ c.n) (h1 : c.n ≤ 1099511627776) : stB m c (!decide (c.n = 0)) = true := by
  by_cases e : c.n = 0
  · have e2 := rkc_zero h e
    rw [decide_eq_true e]
    show ((decide (m = 1) || decide (m = 2)) && csm c cl0) = true
    rw [e2, csm_self]
    rcases h.2 with ⟨rfl, _⟩ | ⟨rfl, _⟩ <;> rfl
  · rw [decide_eq_false e]
    show cg m c = true
    exact cg_yes ⟨⟨by omega, h1⟩, h⟩
theorem rk_da {n s k t : Int} {b o i : List Rn} (h : Rk1 n s b) (g : Nt k t i o) (f : Fits b o) (ht : tot b - tot o + tot i ≤ 1099511627776) : Rk1 (n + k) (s + t) (jnl (mnl b o) i) := by
  obtain ⟨h1, h2, h3⟩ := h
  obtain ⟨g1, g2, g3, g4, _⟩ := g
  have mb := mnl_bg h1 g2 f
  refine ⟨jnl_bg mb g1 (by rw [mnl_tot]; exact ht), ?_, ?_⟩
  · rw [jnl_tot, mnl_tot]; omega
  · rw [wsum_jnl, wsum_mnl]; omega
theorem da_rkc {m : Int} {c : Cl} {is : Bool} {d : Dl} (h : daB m c is d = true) : RkC m (daR c d) ∧ 0 ≤ c.n + d.n ∧ c.n + d.n ≤ 1099511627776 := by
  obtain ⟨⟨g, s⟩, ⟨f0, f1⟩, ⟨t0, t1⟩, _⟩ := da_open h
  obtain ⟨⟨r0, r1⟩, _, _⟩ := st_open s
  have k0 := rk_da r0 g.1 f0 t0
  have b0 := k0.2.1
  have nn := tot_nn k0.1.2.1
  refine ⟨⟨k0, ?_⟩, by omega, by have := k0.1.2.2; omega⟩
  rcases g.2 with ⟨e, e1, e2, e3⟩ | ⟨e, n1⟩
  · rcases r1 with ⟨_, q1, q2⟩ | ⟨q, _⟩
    · refine .inl ⟨e, ?_, ?_⟩
      · show c.s1 + d.s1 = 0; omega
      · show jnl (mnl c.b1 d.o1) d.i1 = []; rw [q2, e2, e3]; rfl
    · omega
  · rcases r1 with ⟨q, _⟩ | ⟨_, q1⟩
    · omega
    · exact .inr ⟨e, rk_da q1 n1 f1 t1⟩
theorem da_is {m : Int} {c : Cl} {is : Bool} {d : Dl} (h : daB m c is d = true) : daI m c is d = !decide (c.n + d.n = 0) := by
  unfold daI; rw [h]; rfl
/-- What a cell becomes, where it becomes something: as reckoned, and it stands. -/
theorem da_c {m : Int} {c : Cl} {is : Bool} {d : Dl} (h : daB m c is d = true) : daC m c is d = daR c d ∧ stB m (daR c d) (daI m c is d) = true := by
  obtain ⟨k, n0, n1⟩ := da_rkc h
  have e := da_is h
  refine ⟨?_, by rw [e]; exact st_made k n0 n1⟩
  unfold daC
  rw [e]
  by_cases z : c.n + d.n = 0
  · rw [decide_eq_true z]
    exact (rkc_zero k z).symm
  · rw [decide_eq_false z]; rfl
theorem bag_back {b o i : List Rn} (hb : Bag b) (ho : Bag o) (hi : Bag i) (f : Fits b o) (ht : tot b - tot o + tot i ≤ 1099511627776) :
    Fits (jnl (mnl b o) i) i ∧ tot (jnl (mnl b o) i) - tot i + tot o = tot b ∧ jnl (mnl (jnl (mnl b o) i) i) o = b := by
  have mb := mnl_bg hb ho f
  have jb := jnl_bg mb hi (by rw [mnl_tot]; exact ht)
  have ff : Fits (jnl (mnl b o) i) i := fun r hr => by
    have h1 := cn_srt_eq hi.1 hr
    have h2 := cn_nn (v := r.1) mb.2.1
    rw [jnl_cn]
    omega
  refine ⟨ff, by rw [jnl_tot, mnl_tot]; omega, ?_⟩
  have m2 := mnl_bg jb hi ff
  refine runs_ext (jnl_srt m2.1 o) (pos_nz (jnl_pos m2.2.1 ho.2.1)) hb.1 (pos_nz hb.2.1) (fun v => ?_)
  rw [jnl_cn, mnl_cn, jnl_cn, mnl_cn]
  omega
/-- P10.5, as numbers and bags. -/
theorem da_back {m : Int} {c : Cl} {is : Bool} {d : Dl} (h : daB m c is d = true) (hn : dnB m d = true) (kc : okc c) :
    daB m (daC m c is d) (daI m c is d) (dnC m d) = true ∧ daI m (daC m c is d) (daI m c is d) (dnC m d) = is ∧ daC m (daC m c is d) (daI m c is d) (dnC m d) = c := by
  obtain ⟨⟨g, s⟩, ⟨f0, f1⟩, ⟨t0, t1⟩, _⟩ := da_open h
  obtain ⟨⟨g1, g2⟩, g3, g4⟩ := dg_bags g
  obtain ⟨⟨c0, c1⟩, n0, n1, _⟩ := st_bags s
  obtain ⟨rk, _, ei⟩ := st_open s
  obtain ⟨x1, x2, x3⟩ := bag_back c0 g2 g1 f0 t0
  obtain ⟨y1, y2, y3⟩ := bag_back c1 g4 g3 f1 t1
  obtain ⟨e1, e2⟩ := da_c h
  rw [e1, dnC_yes hn]
  have B : daB m (daR c d) (daI m c is d) (dnR d) = true := by
    unfold daB
    rw [dg_yes (dnR_good g), e2]
    have q1 : fits (daR c d).b0 (dnR d).o0 = true := fits_yes x1
    have q2 : fits (daR c d).b1 (dnR d).o1 = true := fits_yes y1
    have q3 : decide (tot (daR c d).b0 - tot (dnR d).o0 + tot (dnR d).i0 ≤ 1099511627776) = true := decide_eq_true (by
      show tot (jnl (mnl c.b0 d.o0) d.i0) - tot d.i0 + tot d.o0 ≤ 1099511627776
      rw [x2]; exact c0.2.2)
    have q4 : decide (tot (daR c d).b1 - tot (dnR d).o1 + tot (dnR d).i1 ≤ 1099511627776) = true := decide_eq_true (by
      show tot (jnl (mnl c.b1 d.o1) d.i1) - tot d.i1 + tot d.o1 ≤ 1099511627776
      rw [y2]; exact c1.2.2)
    have q5 : calc.fitB ((daR c d).s0 + (dnR d).s0) = true := by
      have e : (daR c d).s0 + (dnR d).s0 = c.s0 := by show c.s0 + d.s0 + -d.s0 = c.s0; omega
      rw [e]; exact fitB_i64 kc.2.1
    have q6 : calc.fitB ((daR c d).s1 + (dnR d).s1) = true := by
      have e : (daR c d).s1 + (dnR d).s1 = c.s1 := by show c.s1 + d.s1 + -d.s1 = c.s1; omega
      rw [e]; exact fitB_i64 kc.2.2.1
    rw [q1, q2, q3, q4, q5, q6]
    rfl
  have R : daR (daR c d) (dnR d) = c := by
    obtain ⟨n, s0, s1, b0, b1⟩ := c
    have e0 : n + d.n + -d.n = n := by omega
    have e3 : s0 + d.s0 + -d.s0 = s0 := by omega
    have e4 : s1 + d.s1 + -d.s1 = s1 := by omega
    show Cl.mk (n + d.n + -d.n) (s0 + d.s0 + -d.s0) (s1 + d.s1 + -d.s1) (jnl (mnl (jnl (mnl b0 d.o0) d.i0) d.i0) d.o0) (jnl (mnl (jnl (mnl b1 d.o1) d.i1) d.i1) d.o1) = ⟨n, s0, s1, b0, b1⟩
    rw [e0, e3, e4]
    simp only at x3 y3
    rw [x3, y3]
  refine ⟨B, ?_, by rw [(da_c B).1, R]⟩
  rw [da_is B, ei]
  have e0 : (daR c d).n + (dnR d).n = c.n := by show c.n + d.n + -d.n = c.n; omega
  rw [e0]

end Go.Proofs.Ytjkkajhjcinalaa

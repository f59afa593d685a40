/-
  Deltas of changes, joined, turned round: what made of ref comes to, as numbers and bags.
  Conditions: as each theorem states them.
-/
import Derived.Test.YtjkkajhjcinalaaAB10
import Derived.Test.YtjkkajhjcinalaaJ10
namespace Go.Proofs.Ytjkkajhjcinalaa
open Go.ChangeShapes Go.WideShapes Go.ChangeAt Go.RowKit
set_option linter.unusedVariables false
set_option linter.unusedSimpArgs false
set_option maxRecDepth 100000

theorem dw_apart {w w1 w9 : World} {a0 : Option Addr} {a1 a2 : Nat} {a3 : Option Addr} {a4 a5 : Nat} {a6 : Option Addr} {a7 a8 : Nat} {a9 : Option Addr} {a10 a11 N : Nat} {d : Dl} (h : DW w1 a0 a1 a2 a3 a4 a5 a6 a7 a8 a9 a10 a11 d) (f : FD w a0 a1 a3 a4 a6 a7 a9 a10) (hg : w1.grownBy w9 (some N)) (hN : N < w.heap.size) : DW w9 a0 a1 a2 a3 a4 a5 a6 a7 a8 a9 a10 a11 d :=
  ⟨⟨h.1.1.apart hg (fun q b o e => by have := f.1.1 q b o e; omega), h.1.2.apart hg (fun q b o e => by have := f.1.2 q b o e; omega)⟩, h.2.1.apart hg (fun q b o e => by have := f.2.1 q b o e; omega), h.2.2.apart hg (fun q b o e => by have := f.2.2 q b o e; omega)⟩
theorem FD.mono {w w' : World} {a0 : Option Addr} {a1 : Nat} {a3 : Option Addr} {a4 : Nat} {a6 : Option Addr} {a7 : Nat} {a9 : Option Addr} {a10 : Nat} (h : FD w' a0 a1 a3 a4 a6 a7 a9 a10) (hs : w.heap.size ≤ w'.heap.size) : FD w a0 a1 a3 a4 a6 a7 a9 a10 :=
  ⟨⟨h.1.1.mono hs, h.1.2.mono hs⟩, h.2.1.mono hs, h.2.2.mono hs⟩
theorem tot_one (x : Int) : tot [(x, 1)] = 1 := rfl
theorem wsum_one (x : Int) : wsum [(x, 1)] = x := by simp [wsum]
theorem lef_one (x : Int) : lef [(x, 1)] [] = [(x, 1)] := lef_nil _
/-- A change that comes. -/
theorem xd_come {m m0 m1 : Int} (hm : m = 1 ∨ m = 2) (k0 : I64 m0) (k1 : I64 m1) :
    xdB m 1 [(m0, 1)] (if m = 2 then [(m1, 1)] else []) [] [] = ofdB m m0 m1 false ∧ xdC m 1 [(m0, 1)] (if m = 2 then [(m1, 1)] else []) [] [] = ofdC m m0 m1 false := by
  have g0 : calc.fitB (wsum [(m0, 1)] - wsum []) = true := by
    have e : wsum [(m0, 1)] - wsum [] = m0 := by simp [wsum]
    rw [e]; exact fitB_i64 k0
  have B : xdB m 1 [(m0, 1)] (if m = 2 then [(m1, 1)] else []) [] [] = true := by
    rw [xdB_is hm (one_bag m0) bag_nil (by simp [tot]) (fun h => by rw [if_pos h]; exact ⟨one_bag m1, bag_nil, by simp [tot]⟩), g0]
    rcases hm with rfl | rfl
    · rfl
    · have e : wsum (if (2 : Int) = 2 then [(m1, (1 : Int))] else []) - wsum [] = m1 := by simp [wsum]
      rw [e, fitB_i64 k1]; rfl
  obtain ⟨e1, e2⟩ := ofd_come (m0 := m0) (m1 := m1) hm
  refine ⟨by rw [B, e1], ?_⟩
  rw [xdC_yes B, e2]
  unfold xdR of1
  rcases hm with rfl | rfl
  · simp [wsum, lef_one, lef_nil2]
  · simp [wsum, lef_one, lef_nil2]
/-- A change that goes. -/
theorem xd_go {m m0 m1 : Int} (hm : m = 1 ∨ m = 2) (k0 : I64 m0) (k1 : I64 m1) :
    xdB m (-1) [] [] [(m0, 1)] (if m = 2 then [(m1, 1)] else []) = ofdB m m0 m1 true ∧ xdC m (-1) [] [] [(m0, 1)] (if m = 2 then [(m1, 1)] else []) = ofdC m m0 m1 true := by
  have B : xdB m (-1) [] [] [(m0, 1)] (if m = 2 then [(m1, 1)] else []) = ofdB m m0 m1 true := by
    rw [xdB_is hm bag_nil (one_bag m0) (by simp [tot]) (fun h => by rw [if_pos h]; exact ⟨bag_nil, one_bag m1, by simp [tot]⟩)]
    have e : wsum [] - wsum [(m0, 1)] = -m0 := by simp [wsum]
    rw [e]
    unfold ofdB
    rcases hm with rfl | rfl
    · simp
    · have e : wsum [] - wsum (if (2 : Int) = 2 then [(m1, (1 : Int))] else []) = -m1 := by simp [wsum]
      rw [e]
      simp
  refine ⟨B, ?_⟩
  unfold xdC ofdC
  rw [B]
  cases h : ofdB m m0 m1 true with
  | false => rfl
  | true =>
    simp only [if_true]
    unfold xdR ofdR
    rcases hm with rfl | rfl
    · simp [wsum, lef_one, lef_nil2]
    · simp [wsum, lef_one, lef_nil2]
/-- The other way round. -/
theorem xd_neg {m : Int} {d : Dl} (g : DG m d) : xdB m (-d.n) d.o0 d.o1 d.i0 d.i1 = dnB m d ∧ xdC m (-d.n) d.o0 d.o1 d.i0 d.i1 = dnC m d := by
  have hm := dg_m (dg_yes g)
  obtain ⟨⟨b1, b2⟩, b3, b4⟩ := dg_bags g
  obtain ⟨⟨_, _, t0, s0, p0⟩, g2⟩ := g
  have gg : DG m d := ⟨⟨b1, b2, t0, s0, p0⟩, g2⟩
  have q0 : apt d.o0 d.i0 = true := by rw [apt_comm b2.1 b2.2.1 b1.1 b1.2.1]; exact p0
  have e0 : wsum d.o0 - wsum d.i0 = -d.s0 := by omega
  have e1 : wsum d.o1 - wsum d.i1 = -d.s1 := by have := dg_s1 gg; omega
  have B : xdB m (-d.n) d.o0 d.o1 d.i0 d.i1 = dnB m d := by
    rw [xdB_is hm b2 b1 (by omega) (fun h => ⟨b4, b3, by
      rcases g2 with ⟨e, _⟩ | ⟨_, k⟩
      · omega
      · have := k.2.2.1; omega⟩), e0, e1]
    unfold dnB
    rw [dg_yes gg]
    rfl
  refine ⟨B, ?_⟩
  unfold xdC dnC
  rw [B]
  cases h : dnB m d with
  | false => rfl
  | true =>
    simp only [if_true]
    unfold xdR dnR
    rw [e0, lef_apart q0, lef_apart p0]
    rcases g2 with ⟨rfl, f1, f2, f3⟩ | ⟨rfl, k⟩
    · rw [f1, f2, f3]; simp
    · have q1 : apt d.o1 d.i1 = true := by rw [apt_comm b4.1 b4.2.1 b3.1 b3.2.1]; exact k.2.2.2.2
      rw [e1, lef_apart q1, lef_apart k.2.2.2.2]; simp
/-- Both together. -/
theorem xd_join1 {a b : Dl} (ga : DG 1 a) (gb : DG 1 b) (ti : tot a.i0 + tot b.i0 ≤ 1099511627776) (tu : tot a.o0 + tot b.o0 ≤ 1099511627776) :
    xdB 1 (a.n + b.n) (jnl a.i0 b.i0) [] (jnl a.o0 b.o0) [] = djB 1 a b ∧ xdC 1 (a.n + b.n) (jnl a.i0 b.i0) [] (jnl a.o0 b.o0) [] = djC 1 a b := by
  obtain ⟨⟨a1, a2⟩, a3, a4⟩ := dg_bags ga
  obtain ⟨⟨b1, b2⟩, b3, b4⟩ := dg_bags gb
  have B : xdB 1 (a.n + b.n) (jnl a.i0 b.i0) [] (jnl a.o0 b.o0) [] = djB 1 a b := by
    rw [xdB_is (.inl rfl) (jnl_bg a1 b1 ti) (jnl_bg a2 b2 tu) (by rw [jnl_tot, jnl_tot]; have := ga.1.2.2.1; have := gb.1.2.2.1; omega) (fun h => by cases h)]
    have e0 : wsum (jnl a.i0 b.i0) - wsum (jnl a.o0 b.o0) = a.s0 + b.s0 := by rw [wsum_jnl, wsum_jnl]; have := ga.1.2.2.2.1; have := gb.1.2.2.2.1; omega
    rw [e0]
    rcases ga.2 with ⟨_, x1, x2, x3⟩ | ⟨k, _⟩
    · rcases gb.2 with ⟨_, y1, y2, y3⟩ | ⟨k, _⟩
      · unfold djB
        rw [dg_yes ga, dg_yes gb, decide_eq_true ti, decide_eq_true tu, x1, x2, x3, y1, y2, y3]
        simp [tot, calc.fitB]
      · cases k
    · cases k
  refine ⟨B, ?_⟩
  unfold xdC djC
  rw [B]
  cases h : djB 1 a b with
  | false => rfl
  | true =>
    simp only [if_true]
    have e0 : wsum (jnl a.i0 b.i0) - wsum (jnl a.o0 b.o0) = a.s0 + b.s0 := by rw [wsum_jnl, wsum_jnl]; have := ga.1.2.2.2.1; have := gb.1.2.2.2.1; omega
    unfold xdR djR
    rw [e0]
    rcases ga.2 with ⟨_, x1, x2, x3⟩ | ⟨k, _⟩
    · rcases gb.2 with ⟨_, y1, y2, y3⟩ | ⟨k, _⟩
      · rw [x1, x2, x3, y1, y2, y3]; rfl
      · cases k
    · cases k
theorem xd_join2 {a b : Dl} (ga : DG 2 a) (gb : DG 2 b) (ti : tot a.i0 + tot b.i0 ≤ 1099511627776) (tu : tot a.o0 + tot b.o0 ≤ 1099511627776) (ti1 : tot a.i1 + tot b.i1 ≤ 1099511627776) (tu1 : tot a.o1 + tot b.o1 ≤ 1099511627776) :
    xdB 2 (a.n + b.n) (jnl a.i0 b.i0) (jnl a.i1 b.i1) (jnl a.o0 b.o0) (jnl a.o1 b.o1) = djB 2 a b ∧ xdC 2 (a.n + b.n) (jnl a.i0 b.i0) (jnl a.i1 b.i1) (jnl a.o0 b.o0) (jnl a.o1 b.o1) = djC 2 a b := by
  obtain ⟨⟨a1, a2⟩, a3, a4⟩ := dg_bags ga
  obtain ⟨⟨b1, b2⟩, b3, b4⟩ := dg_bags gb
  have e0 : wsum (jnl a.i0 b.i0) - wsum (jnl a.o0 b.o0) = a.s0 + b.s0 := by rw [wsum_jnl, wsum_jnl]; have := ga.1.2.2.2.1; have := gb.1.2.2.2.1; omega
  have e1 : wsum (jnl a.i1 b.i1) - wsum (jnl a.o1 b.o1) = a.s1 + b.s1 := by rw [wsum_jnl, wsum_jnl]; have := dg_s1 ga; have := dg_s1 gb; omega
  have na : tot a.i1 - tot a.o1 = a.n := by
    rcases ga.2 with ⟨k, _⟩ | ⟨_, k⟩
    · cases k
    · exact k.2.2.1
  have nb : tot b.i1 - tot b.o1 = b.n := by
    rcases gb.2 with ⟨k, _⟩ | ⟨_, k⟩
    · cases k
    · exact k.2.2.1
  have B : xdB 2 (a.n + b.n) (jnl a.i0 b.i0) (jnl a.i1 b.i1) (jnl a.o0 b.o0) (jnl a.o1 b.o1) = djB 2 a b := by
    rw [xdB_is (.inr rfl) (jnl_bg a1 b1 ti) (jnl_bg a2 b2 tu) (by rw [jnl_tot, jnl_tot]; have := ga.1.2.2.1; have := gb.1.2.2.1; omega) (fun h => ⟨jnl_bg a3 b3 ti1, jnl_bg a4 b4 tu1, by rw [jnl_tot, jnl_tot]; omega⟩), e0, e1]
    unfold djB
    rw [dg_yes ga, dg_yes gb, decide_eq_true ti, decide_eq_true tu, decide_eq_true ti1, decide_eq_true tu1]
    simp
  refine ⟨B, ?_⟩
  unfold xdC djC
  rw [B]
  cases h : djB 2 a b with
  | false => rfl
  | true =>
    simp only [if_true]
    unfold xdR djR
    rw [e0, e1]
    simp
theorem dj_few {m : Int} {a b : Dl} (h : ¬ tot a.i0 + tot b.i0 ≤ 1099511627776 ∨ ¬ tot a.o0 + tot b.o0 ≤ 1099511627776 ∨ ¬ tot a.i1 + tot b.i1 ≤ 1099511627776 ∨ ¬ tot a.o1 + tot b.o1 ≤ 1099511627776) : djB m a b = false := djB_no (fun ⟨_, _, ⟨h1, h2⟩, ⟨h3, h4⟩, _⟩ => by
  rcases h with h | h | h | h
  · exact h h1
  · exact h h2
  · exact h h3
  · exact h h4)
theorem jn_tot {a b : List Rn} {v : Bool} (ha : Bag a) (hb : Bag b) (h : Jn a b = v) : v = decide (tot a + tot b ≤ 1099511627776) := by rw [← h, jn_bags ha hb]

end Go.Proofs.Ytjkkajhjcinalaa

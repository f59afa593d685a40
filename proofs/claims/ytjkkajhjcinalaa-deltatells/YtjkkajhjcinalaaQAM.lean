/-
  -
  -
  Conditions: as each theorem states them.
-/
import Derived.Test.YtjkkajhjcinalaaQAL
namespace Go.Proofs.Ytjkkajhjcinalaa
open Go.ChangeShapes Go.WideShapes Go.ChangeAt Go.RowKit
set_option linter.unusedVariables false
set_option linter.unusedSimpArgs false
set_option maxRecDepth 100000

abbrev dlC (n s0 s1 : Int) (x0 : Option Addr) (x1 x2 : Nat) (x3 : Option Addr) (x4 x5 : Nat) (x6 : Option Addr) (x7 x8 : Nat) (x9 : Option Addr) (x10 x11 : Nat) : Array Value := #[.int .i64 n, .int .i64 s0, .int .i64 s1, .slice x0 x1 x2, .slice x3 x4 x5, .slice x6 x7 x8, .slice x9 x10 x11]
theorem dlC_one (n s0 s1 : Int) (x0 : Option Addr) (x1 x2 : Nat) (x3 : Option Addr) (x4 x5 : Nat) (x6 : Option Addr) (x7 x8 : Nat) (x9 : Option Addr) (x10 x11 : Nat) : ∀ v ∈ (dlC n s0 s1 x0 x1 x2 x3 x4 x5 x6 x7 x8 x9 x10 x11).toList, v.oneCell' = true := by
  intro v hv
  simp at hv
  rcases hv with rfl | rfl | rfl | rfl | rfl | rfl | rfl <;> rfl
theorem size_dl : (Try.prog.info? 68).map (·.size) = some 7 := by kernel_rfl
/-- Its bags lie in memory that was not there before. -/
def DF (w : World) (x0 : Option Addr) (x1 x2 : Nat) (x3 : Option Addr) (x4 x5 : Nat) (x6 : Option Addr) (x7 x8 : Nat) (x9 : Option Addr) (x10 x11 : Nat) : Prop := (Far w x0 ∧ Far w x3) ∧ Far w x6 ∧ Far w x9
theorem df_0 (w : World) : DF w none 0 0 none 0 0 none 0 0 none 0 0 := ⟨⟨far_nil w, far_nil w⟩, far_nil w, far_nil w⟩
theorem kp_new_gr {w wr w' : World} {N : Nat} {o Z : Obj} (h : Kp w wr N o) (hg : (wr.alloc Z).grownBy w' (some wr.heap.size)) : Kp w w' N o := kp_gr (kp_alloc h Z) hg (by have := heap_lt h.2.2; omega) h.1.size
theorem run_new_gr {wr w' : World} {a : Option Addr} {n c : Nat} {l : List Rn} {Z : Obj} (h : NRun wr a n c l) (hg : (wr.alloc Z).grownBy w' (some wr.heap.size)) : NRun w' a n c l := by
  refine NRun.apart (h.below (b1alloc wr Z)) hg (fun h0 b off e => ?_)
  obtain ⟨h1, h2, h3, h4, h5⟩ := h
  obtain ⟨b', off', e', hlt, _⟩ := h5 h0
  rw [e'] at e
  cases e
  omega
/-- Its bags are at most so long. -/
def sh5 (d : Dl) : Prop := (d.i0.length ≤ 500 ∧ d.i1.length ≤ 500) ∧ d.o0.length ≤ 500 ∧ d.o1.length ≤ 500
theorem sh5_shd {d : Dl} (h : sh5 d) : shd d := by
  obtain ⟨⟨h1, h2⟩, h3, h4⟩ := h
  exact ⟨⟨by omega, by omega⟩, by omega, by omega⟩

set_option maxHeartbeats 8000000 in
theorem stands_m (m : Int) (c : Cl) (a0 : Option Addr) (a1 a2 : Nat) (a3 : Option Addr) (a4 a5 : Nat) (is v : Bool) (w : World) (hw : CW w a0 a1 a2 a3 a4 a5 c) (hk : okc c) (hv : Hid (stB m c is = v)) :
    Calls Try.prog 90 #[.int .i64 m, (.agg #[.int .i64 c.n, .int .i64 c.s0, .int .i64 c.s1, .slice a0 a1 a2, .slice a3 a4 a5]), .bool is] w fun e w' => e = .returned (.bool v) ∧ Below w.heap.size w w' := by
  have h := hv.out
  subst h
  clear hv
  have HW := hid hw
  have HK := hid hk
  clear hw hk
  have KA := hid (kp_new w (.cells #[.int .i64 c.n, .int .i64 c.s0, .int .i64 c.s1, .slice a0 a1 a2, .slice a3 a4 a5] 26))
  cases is with
  | true =>
    obtain ⟨V, e0⟩ : ∃ x, cg m c = x := ⟨_, rfl⟩
    have EV := hid e0
    have HS : Hid (stB m c true = V) := hid e0
    rw [HS.out]
    clear e0 HS
    go_enter Try.func90, Try.ntmps90
    go_upto_region 1 with fail
    generalize w.alloc (.cells #[.int .i64 c.n, .int .i64 c.s0, .int .i64 c.s1, .slice a0 a1 a2, .slice a3 a4 a5] 26) = W at KA ⊢
    obtain ⟨z0, z1, z2, z3, z4⟩ := box_five KA.out.2.2
    go_wp2_with (go_at_call 19; refine (cgood_m _ c _ _ _ _ _ _ V _ (HW.out.below KA.out.1) HK.out EV).mono ?_; rintro e w1 ⟨rfl, hb1⟩; replace KA := hid (KA.out.step hb1); clear hb1)
    go_ret
    exact ⟨rfl, KA.out.1⟩
  | false =>
    obtain ⟨V, e0⟩ : ∃ x, (decide (m = 1) || decide (m = 2)) = x := ⟨_, rfl⟩
    obtain ⟨U, e1⟩ : ∃ x, csm c cl0 = x := ⟨_, rfl⟩
    have EV := hid e0
    have EU := hid e1
    have HS : Hid (stB m c false = (V && U)) := hid (by rw [← e0, ← e1]; rfl)
    rw [HS.out]
    clear e0 e1 HS
    cases V with
    | false =>
      go_enter Try.func90, Try.ntmps90
      go_upto_region 1 with fail
      generalize w.alloc (.cells #[.int .i64 c.n, .int .i64 c.s0, .int .i64 c.s1, .slice a0 a1 a2, .slice a3 a4 a5] 26) = W at KA ⊢
      obtain ⟨z0, z1, z2, z3, z4⟩ := box_five KA.out.2.2
      go_wp2_with (go_at_call 75; refine (dmeas_m _ false _ EV).mono ?_; rintro e w1 ⟨rfl, hb1⟩; replace KA := hid (KA.out.step hb1); clear hb1)
      go_ret
      exact ⟨rfl, KA.out.1⟩
    | true =>
      go_enter Try.func90, Try.ntmps90
      go_upto_region 1 with fail
      generalize w.alloc (.cells #[.int .i64 c.n, .int .i64 c.s0, .int .i64 c.s1, .slice a0 a1 a2, .slice a3 a4 a5] 26) = W at KA ⊢
      obtain ⟨z0, z1, z2, z3, z4⟩ := box_five KA.out.2.2
      go_wp2_with (first
        | (go_at_call 75; refine (dmeas_m _ true _ EV).mono ?_; rintro e w1 ⟨rfl, hb1⟩; replace KA := hid (KA.out.step hb1); clear hb1 z0 z1 z2 z3 z4; obtain ⟨z0, z1, z2, z3, z4⟩ := box_five KA.out.2.2)
        | (go_at_call 25; refine (csame_m c cl0 _ _ _ _ _ _ _ _ _ _ _ _ U _ (HW.out.below KA.out.1) (cw_nil _) EU).mono ?_; rintro e w2 ⟨rfl, hb2⟩; replace KA := hid (KA.out.step hb2); clear hb2))
      go_ret
      exact ⟨ret_bool (by simp), KA.out.1⟩

theorem jn_bags {a b : List Rn} (ha : Bag a) (hb : Bag b) : Jn a b = decide (tot a + tot b ≤ 1099511627776) := by unfold Jn; rw [gd_yes ha, gd_yes hb]; rfl
theorem dj_eq {m : Int} {a b : Dl} (ga : DG m a) (gb : DG m b) : djB m a b = ((calc.fitB (a.s0 + b.s0) && calc.fitB (a.s1 + b.s1)) && ((Jn a.i0 b.i0 && Jn a.i1 b.i1) && (Jn a.o0 b.o0 && Jn a.o1 b.o1))) := by
  obtain ⟨⟨a1, a2⟩, a3, a4⟩ := dg_bags ga
  obtain ⟨⟨b1, b2⟩, b3, b4⟩ := dg_bags gb
  unfold djB
  rw [dg_yes ga, dg_yes gb, jn_bags a1 b1, jn_bags a2 b2, jn_bags a3 b3, jn_bags a4 b4]
  generalize decide (tot a.i0 + tot b.i0 ≤ 1099511627776) = p
  generalize decide (tot a.i1 + tot b.i1 ≤ 1099511627776) = q
  generalize decide (tot a.o0 + tot b.o0 ≤ 1099511627776) = r
  generalize decide (tot a.o1 + tot b.o1 ≤ 1099511627776) = s
  generalize calc.fitB (a.s0 + b.s0) = t
  generalize calc.fitB (a.s1 + b.s1) = u
  revert p q r s t u
  decide
theorem dj_a {m : Int} {a b : Dl} (h : dg m a = false ∨ dg m b = false) : djB m a b = false := by
  unfold djB
  rcases h with h | h <;> rw [h] <;> simp
/-- The parts of both, when they fit. -/
theorem dj_parts {m : Int} {a b : Dl} (h : djB m a b = true) : ((Jl a.i0 b.i0 = jnl a.i0 b.i0 ∧ Jl a.i1 b.i1 = jnl a.i1 b.i1) ∧ Jl a.o0 b.o0 = jnl a.o0 b.o0 ∧ Jl a.o1 b.o1 = jnl a.o1 b.o1) ∧ ((Bag (jnl a.i0 b.i0) ∧ Bag (jnl a.i1 b.i1)) ∧ Bag (jnl a.o0 b.o0) ∧ Bag (jnl a.o1 b.o1)) := by
  obtain ⟨ga, gb, ⟨t1, t2⟩, ⟨t3, t4⟩, _, _⟩ := djB_iff.1 h
  obtain ⟨⟨a1, a2⟩, a3, a4⟩ := dg_bags ga
  obtain ⟨⟨b1, b2⟩, b3, b4⟩ := dg_bags gb
  exact ⟨⟨⟨jl_yes (jn_yes a1 b1 t1), jl_yes (jn_yes a3 b3 t3)⟩, jl_yes (jn_yes a2 b2 t2), jl_yes (jn_yes a4 b4 t4)⟩, ⟨jnl_bg a1 b1 t1, jnl_bg a3 b3 t3⟩, jnl_bg a2 b2 t2, jnl_bg a4 b4 t4⟩
theorem dj_nok {m : Int} {a b : Dl} (h : djB m a b = true) (ka : okd a) (kb : okd b) : ((∀ r ∈ jnl a.i0 b.i0, nok r) ∧ ∀ r ∈ jnl a.i1 b.i1, nok r) ∧ (∀ r ∈ jnl a.o0 b.o0, nok r) ∧ ∀ r ∈ jnl a.o1 b.o1, nok r := by
  obtain ⟨ga, gb, ⟨t1, t2⟩, ⟨t3, t4⟩, _, _⟩ := djB_iff.1 h
  obtain ⟨⟨a1, a2⟩, a3, a4⟩ := dg_bags ga
  obtain ⟨⟨b1, b2⟩, b3, b4⟩ := dg_bags gb
  obtain ⟨_, ⟨k1, k2⟩, k3, k4⟩ := ka
  obtain ⟨_, ⟨l1, l2⟩, l3, l4⟩ := kb
  exact ⟨⟨jnl_okd a1 b1 t1 k1 l1, jnl_okd a3 b3 t3 k2 l2⟩, jnl_okd a2 b2 t2 k3 l3, jnl_okd a4 b4 t4 k4 l4⟩

theorem three_new (w : World) (o0 o1 o2 : Obj) : Kp w (((w.alloc o0).alloc o1).alloc o2) w.heap.size o0 ∧ Kp w (((w.alloc o0).alloc o1).alloc o2) (w.heap.size + 1) o1 ∧ Kp w (((w.alloc o0).alloc o1).alloc o2) (w.heap.size + 1 + 1) o2 :=
  ⟨kp_alloc (kp_alloc (kp_new w o0) o1) o2, kp_alloc (kp_new2 (b1alloc _ _) o1 _ (by simp)) o2, kp_new2 (bt (b1alloc _ _) (b1alloc _ _)) o2 _ (by simp)⟩
set_option maxHeartbeats 32000000 in
theorem djoin_m (m : Int) (c d : Dl) (a0 : Option Addr) (a1 a2 : Nat) (a3 : Option Addr) (a4 a5 : Nat) (a6 : Option Addr) (a7 a8 : Nat) (a9 : Option Addr) (a10 a11 : Nat) (b0 : Option Addr) (b1 b2 : Nat) (b3 : Option Addr) (b4 b5 : Nat) (b6 : Option Addr) (b7 b8 : Nat) (b9 : Option Addr) (b10 b11 : Nat) (D : Dl) (v : Bool) (w : World) (hw : DW w a0 a1 a2 a3 a4 a5 a6 a7 a8 a9 a10 a11 c) (hz : DW w b0 b1 b2 b3 b4 b5 b6 b7 b8 b9 b10 b11 d) (hk : okd c) (hk' : okd d) (hp : sh5 c) (hp' : sh5 d) (hC : Hid (djC m c d = D)) (hv : Hid (djB m c d = v)) :
    Calls Try.prog 42 #[.int .i64 m, (.agg #[.int .i64 c.n, .int .i64 c.s0, .int .i64 c.s1, .slice a0 a1 a2, .slice a3 a4 a5, .slice a6 a7 a8, .slice a9 a10 a11]), (.agg #[.int .i64 d.n, .int .i64 d.s0, .int .i64 d.s1, .slice b0 b1 b2, .slice b3 b4 b5, .slice b6 b7 b8, .slice b9 b10 b11])] w fun e w' => (∃ r0 r1 r2 r3 r4 r5 r6 r7 r8 r9 r10 r11, e = .returned (.tuple #[(.agg #[.int .i64 D.n, .int .i64 D.s0, .int .i64 D.s1, .slice r0 r1 r2, .slice r3 r4 r5, .slice r6 r7 r8, .slice r9 r10 r11]), .bool v]) ∧ DW w' r0 r1 r2 r3 r4 r5 r6 r7 r8 r9 r10 r11 D ∧ DF w r0 r1 r2 r3 r4 r5 r6 r7 r8 r9 r10 r11) ∧ Below w.heap.size w w' := by
  have HW := hid hw
  have HV := hid hz
  have HK := hid hk
  have HK2 := hid hk'
  have HP := hid hp
  have HP2 := hid hp'
  clear hw hz hk hk' hp hp'
  have KK := hid (three_new w (.cells #[.int .i64 c.n, .int .i64 c.s0, .int .i64 c.s1, .slice a0 a1 a2, .slice a3 a4 a5, .slice a6 a7 a8, .slice a9 a10 a11] 68) (.cells #[.int .i64 d.n, .int .i64 d.s0, .int .i64 d.s1, .slice b0 b1 b2, .slice b3 b4 b5, .slice b6 b7 b8, .slice b9 b10 b11] 68) (.cells #[.int .i64 0, .int .i64 0, .int .i64 0, .slice none 0 0, .slice none 0 0, .slice none 0 0, .slice none 0 0] 68))
  have tkA : True := trivial
  cases ga : dg m c with
  | false =>
    have GA := hid ga
    have HZ := hid (And.intro (hC.out.symm.trans (djC_no (dj_a (.inl ga)))) (hv.out.symm.trans (dj_a (.inl ga))))
    clear ga
    go_enter Try.func42, Try.ntmps42
    go_upto_region 1 with fail
    generalize ((w.alloc (.cells #[.int .i64 c.n, .int .i64 c.s0, .int .i64 c.s1, .slice a0 a1 a2, .slice a3 a4 a5, .slice a6 a7 a8, .slice a9 a10 a11] 68)).alloc (.cells #[.int .i64 d.n, .int .i64 d.s0, .int .i64 d.s1, .slice b0 b1 b2, .slice b3 b4 b5, .slice b6 b7 b8, .slice b9 b10 b11] 68)).alloc (.cells #[.int .i64 0, .int .i64 0, .int .i64 0, .slice none 0 0, .slice none 0 0, .slice none 0 0, .slice none 0 0] 68) = W at KK ⊢
    obtain ⟨N0, hN0⟩ : ∃ y, w.heap.size = y := ⟨_, rfl⟩
    obtain ⟨N1, hN1⟩ : ∃ y, N0 + 1 = y := ⟨_, rfl⟩
    obtain ⟨N2, hN2⟩ : ∃ y, N1 + 1 = y := ⟨_, rfl⟩
    rw [hN0, hN1, hN2] at KK
    (try rw [hN0]); (try rw [hN1]); (try rw [hN2])
    have HO : Hid (w.heap.size = N0 ∧ N0 < N1 ∧ N1 < N2) := hid (by omega)
    clear hN0 hN1 hN2
    have KA := hid KK.out.1
    have KB := hid KK.out.2.1
    have KR := hid KK.out.2.2
    clear KK
    obtain ⟨p0, p1, p2, p3, p4, p5, p6⟩ := box_seven KA.out.2.2
    obtain ⟨q0, q1, q2, q3, q4, q5, q6⟩ := box_seven KB.out.2.2
    go_upto_region 2 with (go_at_call 38; refine (dgood_m _ c a0 a1 a2 a3 a4 a5 a6 a7 a8 a9 a10 a11 false _ (HW.out.below KA.out.1) HK.out (sh5_shd HP.out) GA).mono ?_; rintro e w1 ⟨rfl, hb⟩; replace KA := hid (KA.out.step hb); replace KB := hid (KB.out.step hb); replace KR := hid (KR.out.step hb); clear hb p0 p1 p2 p3 p4 p5 p6 q0 q1 q2 q3 q4 q5 q6; obtain ⟨p0, p1, p2, p3, p4, p5, p6⟩ := box_seven KA.out.2.2; obtain ⟨q0, q1, q2, q3, q4, q5, q6⟩ := box_seven KB.out.2.2)
    go_wp2_with (refine wpList_store_whole rfl 68 (.tmp 6) (.tmp 25) rfl N2 (dlC 0 0 0 none 0 0 none 0 0 none 0 0 none 0 0) rfl rfl 68 _ KR.out.2.2 rfl (by show _ = some 7; exact size_dl) (dlC_one _ _ _ _ _ _ _ _ _ _ _ _ _ _ _) ?_; intro w9 hp9 hg9; have KR9 := hid (kp_at KR.out hg9 hp9); clear hp9 hg9)
    (try simp only [Exit.inBlock, Exit.then])
    show bodyPost Try.prog Try.f42 _ _ _ _
    refine bodyPost_ret (results_cell_slot (p := 6) (u := 7) rfl _ _ N2 _ (dlC 0 0 0 none 0 0 none 0 0 none 0 0 none 0 0) (0, 0) _ (.bool false) rfl rfl KR9.out.2.2 Try.underlying68 rfl (by kernel_rfl)) rfl ?_
    obtain ⟨q1, q2⟩ := HZ.out
    subst q1
    subst q2
    exact ⟨⟨none, 0, 0, none, 0, 0, none, 0, 0, none, 0, 0, rfl, dw_0 _, df_0 _⟩, KR9.out.1⟩
  | true =>
    have GA := hid ga
    cases gb : dg m d with
    | false =>
      have GB := hid gb
      have HZ := hid (And.intro (hC.out.symm.trans (djC_no (dj_a (.inr gb)))) (hv.out.symm.trans (dj_a (.inr gb))))
      clear ga gb
      go_enter Try.func42, Try.ntmps42
      go_upto_region 1 with fail
      generalize ((w.alloc (.cells #[.int .i64 c.n, .int .i64 c.s0, .int .i64 c.s1, .slice a0 a1 a2, .slice a3 a4 a5, .slice a6 a7 a8, .slice a9 a10 a11] 68)).alloc (.cells #[.int .i64 d.n, .int .i64 d.s0, .int .i64 d.s1, .slice b0 b1 b2, .slice b3 b4 b5, .slice b6 b7 b8, .slice b9 b10 b11] 68)).alloc (.cells #[.int .i64 0, .int .i64 0, .int .i64 0, .slice none 0 0, .slice none 0 0, .slice none 0 0, .slice none 0 0] 68) = W at KK ⊢
      obtain ⟨N0, hN0⟩ : ∃ y, w.heap.size = y := ⟨_, rfl⟩
      obtain ⟨N1, hN1⟩ : ∃ y, N0 + 1 = y := ⟨_, rfl⟩
      obtain ⟨N2, hN2⟩ : ∃ y, N1 + 1 = y := ⟨_, rfl⟩
      rw [hN0, hN1, hN2] at KK
      (try rw [hN0]); (try rw [hN1]); (try rw [hN2])
      have HO : Hid (w.heap.size = N0 ∧ N0 < N1 ∧ N1 < N2) := hid (by omega)
      clear hN0 hN1 hN2
      have KA := hid KK.out.1
      have KB := hid KK.out.2.1
      have KR := hid KK.out.2.2
      clear KK
      obtain ⟨p0, p1, p2, p3, p4, p5, p6⟩ := box_seven KA.out.2.2
      obtain ⟨q0, q1, q2, q3, q4, q5, q6⟩ := box_seven KB.out.2.2
      go_upto_region 2 with (first
        | (go_at_call 38; clear tkA; refine (dgood_m _ c a0 a1 a2 a3 a4 a5 a6 a7 a8 a9 a10 a11 true _ (HW.out.below KA.out.1) HK.out (sh5_shd HP.out) GA).mono ?_; rintro e w1 ⟨rfl, hb⟩; replace KA := hid (KA.out.step hb); replace KB := hid (KB.out.step hb); replace KR := hid (KR.out.step hb); clear hb p0 p1 p2 p3 p4 p5 p6 q0 q1 q2 q3 q4 q5 q6; obtain ⟨p0, p1, p2, p3, p4, p5, p6⟩ := box_seven KA.out.2.2; obtain ⟨q0, q1, q2, q3, q4, q5, q6⟩ := box_seven KB.out.2.2)
        | (go_at_call 38; refine (dgood_m _ d b0 b1 b2 b3 b4 b5 b6 b7 b8 b9 b10 b11 false _ (HV.out.below KA.out.1) HK2.out (sh5_shd HP2.out) GB).mono ?_; rintro e w2 ⟨rfl, hb⟩; replace KA := hid (KA.out.step hb); replace KB := hid (KB.out.step hb); replace KR := hid (KR.out.step hb); clear hb p0 p1 p2 p3 p4 p5 p6 q0 q1 q2 q3 q4 q5 q6; obtain ⟨p0, p1, p2, p3, p4, p5, p6⟩ := box_seven KA.out.2.2; obtain ⟨q0, q1, q2, q3, q4, q5, q6⟩ := box_seven KB.out.2.2))
      go_wp2_with (refine wpList_store_whole rfl 68 (.tmp 6) (.tmp 25) rfl N2 (dlC 0 0 0 none 0 0 none 0 0 none 0 0 none 0 0) rfl rfl 68 _ KR.out.2.2 rfl (by show _ = some 7; exact size_dl) (dlC_one _ _ _ _ _ _ _ _ _ _ _ _ _ _ _) ?_; intro w9 hp9 hg9; have KR9 := hid (kp_at KR.out hg9 hp9); clear hp9 hg9)
      (try simp only [Exit.inBlock, Exit.then])
      show bodyPost Try.prog Try.f42 _ _ _ _
      refine bodyPost_ret (results_cell_slot (p := 6) (u := 7) rfl _ _ N2 _ (dlC 0 0 0 none 0 0 none 0 0 none 0 0 none 0 0) (0, 0) _ (.bool false) rfl rfl KR9.out.2.2 Try.underlying68 rfl (by kernel_rfl)) rfl ?_
      obtain ⟨q1, q2⟩ := HZ.out
      subst q1
      subst q2
      exact ⟨⟨none, 0, 0, none, 0, 0, none, 0, 0, none, 0, 0, rfl, dw_0 _, df_0 _⟩, KR9.out.1⟩
    | true =>
      have GB := hid gb
      have CA := hid (dg_iff.1 ga)
      have CB := hid (dg_iff.1 gb)
      have HE := hid (dj_eq CA.out CB.out)
      have na := dg_n CA.out
      have nb := dg_n CB.out
      obtain ⟨na1, na2⟩ := na
      obtain ⟨nb1, nb2⟩ := nb
      have hwn : IntKind.i64.wrap (c.n + d.n) = c.n + d.n := IntWalk.i64_in _ (by omega)
      clear ga gb
      obtain ⟨Fv, hF⟩ : ∃ y, (calc.fitB (c.s0 + d.s0) && calc.fitB (c.s1 + d.s1)) = y := ⟨_, rfl⟩
      obtain ⟨Iv, hI⟩ : ∃ y, (Jn c.i0 d.i0 && Jn c.i1 d.i1) = y := ⟨_, rfl⟩
      obtain ⟨Ov, hO⟩ : ∃ y, (Jn c.o0 d.o0 && Jn c.o1 d.o1) = y := ⟨_, rfl⟩
      rw [hF, hI, hO] at HE
      have FF := hid hF
      have FI := hid hI
      have FO := hid hO
      clear hF hI hO
      obtain ⟨S0, hS0⟩ : ∃ y, (if Fv then c.s0 + d.s0 else 0) = y := ⟨_, rfl⟩
      have FS0 := hid hS0
      clear hS0
      obtain ⟨S1, hS1⟩ : ∃ y, (if Fv then c.s1 + d.s1 else 0) = y := ⟨_, rfl⟩
      have FS1 := hid hS1
      clear hS1
      obtain ⟨I0, hI0⟩ : ∃ y, (if Iv then Jl c.i0 d.i0 else []) = y := ⟨_, rfl⟩
      have FI0 := hid hI0
      clear hI0
      obtain ⟨ki0, hki0⟩ : ∃ y, I0.length = y := ⟨_, rfl⟩
      have Fki0 := hid hki0
      clear hki0
      obtain ⟨I1, hI1⟩ : ∃ y, (if Iv then Jl c.i1 d.i1 else []) = y := ⟨_, rfl⟩
      have FI1 := hid hI1
      clear hI1
      obtain ⟨ki1, hki1⟩ : ∃ y, I1.length = y := ⟨_, rfl⟩
      have Fki1 := hid hki1
      clear hki1
      obtain ⟨O0, hO0⟩ : ∃ y, (if Ov then Jl c.o0 d.o0 else []) = y := ⟨_, rfl⟩
      have FO0 := hid hO0
      clear hO0
      obtain ⟨ko0, hko0⟩ : ∃ y, O0.length = y := ⟨_, rfl⟩
      have Fko0 := hid hko0
      clear hko0
      obtain ⟨O1, hO1⟩ : ∃ y, (if Ov then Jl c.o1 d.o1 else []) = y := ⟨_, rfl⟩
      have FO1 := hid hO1
      clear hO1
      obtain ⟨ko1, hko1⟩ : ∃ y, O1.length = y := ⟨_, rfl⟩
      have Fko1 := hid hko1
      clear hko1
      go_enter Try.func42, Try.ntmps42
      go_upto_region 1 with fail
      generalize ((w.alloc (.cells #[.int .i64 c.n, .int .i64 c.s0, .int .i64 c.s1, .slice a0 a1 a2, .slice a3 a4 a5, .slice a6 a7 a8, .slice a9 a10 a11] 68)).alloc (.cells #[.int .i64 d.n, .int .i64 d.s0, .int .i64 d.s1, .slice b0 b1 b2, .slice b3 b4 b5, .slice b6 b7 b8, .slice b9 b10 b11] 68)).alloc (.cells #[.int .i64 0, .int .i64 0, .int .i64 0, .slice none 0 0, .slice none 0 0, .slice none 0 0, .slice none 0 0] 68) = W at KK ⊢
      obtain ⟨N0, hN0⟩ : ∃ y, w.heap.size = y := ⟨_, rfl⟩
      obtain ⟨N1, hN1⟩ : ∃ y, N0 + 1 = y := ⟨_, rfl⟩
      obtain ⟨N2, hN2⟩ : ∃ y, N1 + 1 = y := ⟨_, rfl⟩
      rw [hN0, hN1, hN2] at KK
      (try rw [hN0]); (try rw [hN1]); (try rw [hN2])
      have HO : Hid (w.heap.size = N0 ∧ N0 < N1 ∧ N1 < N2) := hid (by omega)
      clear hN0 hN1 hN2
      have KA := hid KK.out.1
      have KB := hid KK.out.2.1
      have KR := hid KK.out.2.2
      clear KK
      obtain ⟨p0, p1, p2, p3, p4, p5, p6⟩ := box_seven KA.out.2.2
      obtain ⟨q0, q1, q2, q3, q4, q5, q6⟩ := box_seven KB.out.2.2
      go_upto_region 3 with (first
        | (go_at_call 38; clear tkA; refine (dgood_m _ c a0 a1 a2 a3 a4 a5 a6 a7 a8 a9 a10 a11 true _ (HW.out.below KA.out.1) HK.out (sh5_shd HP.out) GA).mono ?_; rintro e w1 ⟨rfl, hb⟩; replace KA := hid (KA.out.step hb); replace KB := hid (KB.out.step hb); replace KR := hid (KR.out.step hb); clear hb p0 p1 p2 p3 p4 p5 p6 q0 q1 q2 q3 q4 q5 q6; obtain ⟨p0, p1, p2, p3, p4, p5, p6⟩ := box_seven KA.out.2.2; obtain ⟨q0, q1, q2, q3, q4, q5, q6⟩ := box_seven KB.out.2.2)
        | (go_at_call 38; refine (dgood_m _ d b0 b1 b2 b3 b4 b5 b6 b7 b8 b9 b10 b11 true _ (HV.out.below KA.out.1) HK2.out (sh5_shd HP2.out) GB).mono ?_; rintro e w2 ⟨rfl, hb⟩; replace KA := hid (KA.out.step hb); replace KB := hid (KB.out.step hb); replace KR := hid (KR.out.step hb); clear hb p0 p1 p2 p3 p4 p5 p6 q0 q1 q2 q3 q4 q5 q6; obtain ⟨p0, p1, p2, p3, p4, p5, p6⟩ := box_seven KA.out.2.2; obtain ⟨q0, q1, q2, q3, q4, q5, q6⟩ := box_seven KB.out.2.2))
      go_upto_region 4 with (first
        | (go_at_call 77; refine (eachAdd_m c.s0 c.s1 d.s0 d.s1 S0 S1 Fv _ ⟨HK.out.1.2.1, HK.out.1.2.2⟩ ⟨HK2.out.1.2.1, HK2.out.1.2.2⟩ FF FS0 FS1).mono ?_; rintro e w3 ⟨rfl, hb⟩; replace KA := hid (KA.out.step hb); replace KB := hid (KB.out.step hb); replace KR := hid (KR.out.step hb); clear hb p0 p1 p2 p3 p4 p5 p6 q0 q1 q2 q3 q4 q5 q6; obtain ⟨p0, p1, p2, p3, p4, p5, p6⟩ := box_seven KA.out.2.2; obtain ⟨q0, q1, q2, q3, q4, q5, q6⟩ := box_seven KB.out.2.2)
        | (have KZ : Hid (Kp w (w3.alloc (.cells #[.int .i64 0, .int .i64 0] 22)) w3.heap.size (.cells #[.int .i64 0, .int .i64 0] 22)) := hid (kp_new2 KR.out.1 _ _ rfl); refine wpList_store_whole rfl 22 (.tmp 8) (.tmp 32) rfl w3.heap.size (aiC S0 S1) rfl rfl 22 _ KZ.out.2.2 rfl (by show _ = some 2; exact size_ai) (aiC_one _ _) ?_; intro w9 hp9 hg9; have K8 := hid (kp_at KZ.out hg9 hp9); have HK8 := hid (heap_lt KR.out.2.2); replace KA := hid (kp_new_gr KA.out hg9); replace KB := hid (kp_new_gr KB.out hg9); replace KR := hid (kp_new_gr KR.out hg9); clear hp9 hg9 KZ p0 p1 p2 p3 p4 p5 p6 q0 q1 q2 q3 q4 q5 q6; obtain ⟨p0, p1, p2, p3, p4, p5, p6⟩ := box_seven KA.out.2.2; obtain ⟨q0, q1, q2, q3, q4, q5, q6⟩ := box_seven KB.out.2.2))
      generalize w3.heap.size = N8 at K8 HK8 ⊢
      go_upto_region 5 with (first
        | (go_at_call 83; refine (eachJoin_m _ _ _ _ _ _ _ _ _ _ _ _ c.i0 c.i1 d.i0 d.i1 I0 I1 ki0 ki1 Iv _ ⟨(HW.out.1.1.below KA.out.1), (HW.out.1.2.below KA.out.1)⟩ ⟨(HV.out.1.1.below KA.out.1), (HV.out.1.2.below KA.out.1)⟩ HK.out.2.1 HK2.out.2.1 (by have h1 := HW.out.1.1.lens.1; have h2 := HW.out.1.2.lens.1; have h3 := HV.out.1.1.lens.1; have h4 := HV.out.1.2.lens.1; have h5 := HP.out.1.1; have h6 := HP.out.1.2; have h7 := HP2.out.1.1; have h8 := HP2.out.1.2; omega) FI FI0 FI1 Fki0 Fki1).mono ?_; rintro e w4 ⟨⟨e0, ec0, e1, ec1, rfl, ⟨hr0, hr1⟩, _, _⟩, hb⟩; have Re0 := hid hr0; have Re1 := hid hr1; replace KA := hid (KA.out.step hb); replace KB := hid (KB.out.step hb); replace KR := hid (KR.out.step hb); replace K8 := hid (K8.out.step hb); clear hb hr0 hr1 p0 p1 p2 p3 p4 p5 p6 q0 q1 q2 q3 q4 q5 q6; obtain ⟨p0, p1, p2, p3, p4, p5, p6⟩ := box_seven KA.out.2.2; obtain ⟨q0, q1, q2, q3, q4, q5, q6⟩ := box_seven KB.out.2.2)
        | (have KZ : Hid (Kp w (w4.alloc (.cells #[.slice none 0 0, .slice none 0 0] 24)) w4.heap.size (.cells #[.slice none 0 0, .slice none 0 0] 24)) := hid (kp_new2 KR.out.1 _ _ rfl); refine wpList_store_whole rfl 24 (.tmp 10) (.tmp 40) rfl w4.heap.size (asC e0 ki0 ec0 e1 ki1 ec1) rfl rfl 24 _ KZ.out.2.2 rfl (by show _ = some 2; exact size_as) (asC_one _ _ _ _ _ _) ?_; intro w9 hp9 hg9; have K10 := hid (kp_at KZ.out hg9 hp9); have HK10 := hid (heap_lt KR.out.2.2); replace KA := hid (kp_new_gr KA.out hg9); replace KB := hid (kp_new_gr KB.out hg9); replace KR := hid (kp_new_gr KR.out hg9); replace K8 := hid (kp_new_gr K8.out hg9); replace Re0 := hid (run_new_gr Re0.out hg9); replace Re1 := hid (run_new_gr Re1.out hg9); clear hp9 hg9 KZ p0 p1 p2 p3 p4 p5 p6 q0 q1 q2 q3 q4 q5 q6; obtain ⟨p0, p1, p2, p3, p4, p5, p6⟩ := box_seven KA.out.2.2; obtain ⟨q0, q1, q2, q3, q4, q5, q6⟩ := box_seven KB.out.2.2))
      generalize w4.heap.size = N10 at K10 HK10 ⊢
      go_upto_region 6 with (first
        | (go_at_call 83; refine (eachJoin_m _ _ _ _ _ _ _ _ _ _ _ _ c.o0 c.o1 d.o0 d.o1 O0 O1 ko0 ko1 Ov _ ⟨(HW.out.2.1.below KA.out.1), (HW.out.2.2.below KA.out.1)⟩ ⟨(HV.out.2.1.below KA.out.1), (HV.out.2.2.below KA.out.1)⟩ HK.out.2.2 HK2.out.2.2 (by have h1 := HW.out.2.1.lens.1; have h2 := HW.out.2.2.lens.1; have h3 := HV.out.2.1.lens.1; have h4 := HV.out.2.2.lens.1; have h5 := HP.out.2.1; have h6 := HP.out.2.2; have h7 := HP2.out.2.1; have h8 := HP2.out.2.2; omega) FO FO0 FO1 Fko0 Fko1).mono ?_; rintro e w5 ⟨⟨f0, fc0, f1, fc1, rfl, ⟨hr0, hr1⟩, _, _⟩, hb⟩; have Rf0 := hid hr0; have Rf1 := hid hr1; replace KA := hid (KA.out.step hb); replace KB := hid (KB.out.step hb); replace KR := hid (KR.out.step hb); replace K8 := hid (K8.out.step hb); replace K10 := hid (K10.out.step hb); replace Re0 := hid (Re0.out.below hb); replace Re1 := hid (Re1.out.below hb); clear hb hr0 hr1 p0 p1 p2 p3 p4 p5 p6 q0 q1 q2 q3 q4 q5 q6; obtain ⟨p0, p1, p2, p3, p4, p5, p6⟩ := box_seven KA.out.2.2; obtain ⟨q0, q1, q2, q3, q4, q5, q6⟩ := box_seven KB.out.2.2)
        | (have KZ : Hid (Kp w (w5.alloc (.cells #[.slice none 0 0, .slice none 0 0] 24)) w5.heap.size (.cells #[.slice none 0 0, .slice none 0 0] 24)) := hid (kp_new2 KR.out.1 _ _ rfl); refine wpList_store_whole rfl 24 (.tmp 12) (.tmp 48) rfl w5.heap.size (asC f0 ko0 fc0 f1 ko1 fc1) rfl rfl 24 _ KZ.out.2.2 rfl (by show _ = some 2; exact size_as) (asC_one _ _ _ _ _ _) ?_; intro w9 hp9 hg9; have K12 := hid (kp_at KZ.out hg9 hp9); have HK12 := hid (heap_lt KR.out.2.2); replace KA := hid (kp_new_gr KA.out hg9); replace KB := hid (kp_new_gr KB.out hg9); replace KR := hid (kp_new_gr KR.out hg9); replace K8 := hid (kp_new_gr K8.out hg9); replace K10 := hid (kp_new_gr K10.out hg9); replace Re0 := hid (run_new_gr Re0.out hg9); replace Re1 := hid (run_new_gr Re1.out hg9); replace Rf0 := hid (run_new_gr Rf0.out hg9); replace Rf1 := hid (run_new_gr Rf1.out hg9); clear hp9 hg9 KZ p0 p1 p2 p3 p4 p5 p6 q0 q1 q2 q3 q4 q5 q6; obtain ⟨p0, p1, p2, p3, p4, p5, p6⟩ := box_seven KA.out.2.2; obtain ⟨q0, q1, q2, q3, q4, q5, q6⟩ := box_seven KB.out.2.2))
      generalize w5.heap.size = N12 at K12 HK12 ⊢
      clear p0 p1 p2 p3 p4 p5 p6 q0 q1 q2 q3 q4 q5 q6
      cases Fv with
      | false =>
        have HZ := hid (And.intro (hC.out.symm.trans (djC_no (HE.out))) (hv.out.symm.trans (HE.out)))

        go_wp2_with (refine wpList_store_whole rfl 68 (.tmp 6) (.tmp 60) rfl N2 (dlC 0 0 0 none 0 0 none 0 0 none 0 0 none 0 0) rfl rfl 68 _ KR.out.2.2 rfl (by show _ = some 7; exact size_dl) (dlC_one _ _ _ _ _ _ _ _ _ _ _ _ _ _ _) ?_; intro w9 hp9 hg9; have KR9 := hid (kp_at KR.out hg9 hp9); clear hp9 hg9)
        (try simp only [Exit.inBlock, Exit.then])
        show bodyPost Try.prog Try.f42 _ _ _ _
        refine bodyPost_ret (results_cell_slot (p := 6) (u := 7) rfl _ _ N2 _ (dlC 0 0 0 none 0 0 none 0 0 none 0 0 none 0 0) (0, 0) _ (.bool false) rfl rfl KR9.out.2.2 Try.underlying68 rfl (by kernel_rfl)) rfl ?_
        obtain ⟨q1, q2⟩ := HZ.out
        subst q1
        subst q2
        exact ⟨⟨none, 0, 0, none, 0, 0, none, 0, 0, none, 0, 0, rfl, dw_0 _, df_0 _⟩, KR9.out.1⟩
      | true =>
      cases Iv with
      | false =>
        have HZ := hid (And.intro (hC.out.symm.trans (djC_no (HE.out))) (hv.out.symm.trans (HE.out)))

        go_wp2_with (refine wpList_store_whole rfl 68 (.tmp 6) (.tmp 60) rfl N2 (dlC 0 0 0 none 0 0 none 0 0 none 0 0 none 0 0) rfl rfl 68 _ KR.out.2.2 rfl (by show _ = some 7; exact size_dl) (dlC_one _ _ _ _ _ _ _ _ _ _ _ _ _ _ _) ?_; intro w9 hp9 hg9; have KR9 := hid (kp_at KR.out hg9 hp9); clear hp9 hg9)
        (try simp only [Exit.inBlock, Exit.then])
        show bodyPost Try.prog Try.f42 _ _ _ _
        refine bodyPost_ret (results_cell_slot (p := 6) (u := 7) rfl _ _ N2 _ (dlC 0 0 0 none 0 0 none 0 0 none 0 0 none 0 0) (0, 0) _ (.bool false) rfl rfl KR9.out.2.2 Try.underlying68 rfl (by kernel_rfl)) rfl ?_
        obtain ⟨q1, q2⟩ := HZ.out
        subst q1
        subst q2
        exact ⟨⟨none, 0, 0, none, 0, 0, none, 0, 0, none, 0, 0, rfl, dw_0 _, df_0 _⟩, KR9.out.1⟩
      | true =>
      cases Ov with
      | false =>
        have HZ := hid (And.intro (hC.out.symm.trans (djC_no (HE.out))) (hv.out.symm.trans (HE.out)))

        go_wp2_with (refine wpList_store_whole rfl 68 (.tmp 6) (.tmp 60) rfl N2 (dlC 0 0 0 none 0 0 none 0 0 none 0 0 none 0 0) rfl rfl 68 _ KR.out.2.2 rfl (by show _ = some 7; exact size_dl) (dlC_one _ _ _ _ _ _ _ _ _ _ _ _ _ _ _) ?_; intro w9 hp9 hg9; have KR9 := hid (kp_at KR.out hg9 hp9); clear hp9 hg9)
        (try simp only [Exit.inBlock, Exit.then])
        show bodyPost Try.prog Try.f42 _ _ _ _
        refine bodyPost_ret (results_cell_slot (p := 6) (u := 7) rfl _ _ N2 _ (dlC 0 0 0 none 0 0 none 0 0 none 0 0 none 0 0) (0, 0) _ (.bool false) rfl rfl KR9.out.2.2 Try.underlying68 rfl (by kernel_rfl)) rfl ?_
        obtain ⟨q1, q2⟩ := HZ.out
        subst q1
        subst q2
        exact ⟨⟨none, 0, 0, none, 0, 0, none, 0, 0, none, 0, 0, rfl, dw_0 _, df_0 _⟩, KR9.out.1⟩
      | true =>
        have HB : djB m c d = true := HE.out
        have PT := hid (dj_parts HB)
        have PN := hid (dj_nok HB HK.out HK2.out)
        have VD := hid (hC.out.symm.trans (djC_yes HB))
        have VV := hid (hv.out.symm.trans HB)
        clear HB
        have EI0 : Hid (jnl c.i0 d.i0 = I0) := hid (by rw [← PT.out.1.1.1]; exact FI0.out)
        have EI1 : Hid (jnl c.i1 d.i1 = I1) := hid (by rw [← PT.out.1.1.2]; exact FI1.out)
        have EO0 : Hid (jnl c.o0 d.o0 = O0) := hid (by rw [← PT.out.1.2.1]; exact FO0.out)
        have EO1 : Hid (jnl c.o1 d.o1 = O1) := hid (by rw [← PT.out.1.2.2]; exact FO1.out)
        have ES0 : Hid (c.s0 + d.s0 = S0) := FS0
        have ES1 : Hid (c.s1 + d.s1 = S1) := FS1
        have BG := hid PT.out.2
        rw [EI0.out, EI1.out, EO0.out, EO1.out] at BG PN
        have LI : Hid ((ki0 ≤ 1000 ∧ ki1 ≤ 1000) ∧ ko0 ≤ 1000 ∧ ko1 ≤ 1000) := hid (by
          have h1 := jnl_len c.i0 d.i0
          have h2 := jnl_len c.i1 d.i1
          have h3 := jnl_len c.o0 d.o0
          have h4 := jnl_len c.o1 d.o1
          rw [EI0.out, Fki0.out] at h1
          rw [EI1.out, Fki1.out] at h2
          rw [EO0.out, Fko0.out] at h3
          rw [EO1.out, Fko1.out] at h4
          have h5 := HP.out.1
          have h6 := HP.out.2
          have h7 := HP2.out.1
          have h8 := HP2.out.2
          omega)
        clear PT FI0 FI1 FO0 FO1 FS0 FS1 HE
        obtain ⟨P0, hP0⟩ : ∃ y, lef I0 O0 = y := ⟨_, rfl⟩
        obtain ⟨P1, hP1⟩ : ∃ y, lef I1 O1 = y := ⟨_, rfl⟩
        obtain ⟨Q0, hQ0⟩ : ∃ y, lef O0 I0 = y := ⟨_, rfl⟩
        obtain ⟨Q1, hQ1⟩ : ∃ y, lef O1 I1 = y := ⟨_, rfl⟩
        have FP0 := hid hP0
        have FP1 := hid hP1
        have FQ0 := hid hQ0
        have FQ1 := hid hQ1
        obtain ⟨kp0, hkp0⟩ : ∃ y, P0.length = y := ⟨_, rfl⟩
        obtain ⟨kp1, hkp1⟩ : ∃ y, P1.length = y := ⟨_, rfl⟩
        obtain ⟨kq0, hkq0⟩ : ∃ y, Q0.length = y := ⟨_, rfl⟩
        obtain ⟨kq1, hkq1⟩ : ∃ y, Q1.length = y := ⟨_, rfl⟩
        have Hkp0 := hid hkp0
        have Hkp1 := hid hkp1
        have Hkq0 := hid hkq0
        have Hkq1 := hid hkq1
        clear hP0 hP1 hQ0 hQ1 hkp0 hkp1 hkq0 hkq1
        have p0 := kp_cell (j := 0) (v := .int .i64 c.n) KA.out rfl
        have q0 := kp_cell (j := 0) (v := .int .i64 d.n) KB.out rfl
        obtain ⟨g0, g1⟩ := box_two K8.out.2.2
        skip
        rename World => wj
        go_upto_region 9 with (have KZ : Hid (Kp w (wj.alloc (.cells #[.int .i64 0, .int .i64 0, .int .i64 0, .slice none 0 0, .slice none 0 0, .slice none 0 0, .slice none 0 0] 68)) wj.heap.size (.cells #[.int .i64 0, .int .i64 0, .int .i64 0, .slice none 0 0, .slice none 0 0, .slice none 0 0, .slice none 0 0] 68)) := hid (kp_new2 KR.out.1 _ _ rfl); refine wpList_store_whole rfl 68 (.tmp 14) (.tmp 67) rfl wj.heap.size (dlC (c.n + d.n) S0 S1 none 0 0 none 0 0 none 0 0 none 0 0) rfl rfl 68 _ KZ.out.2.2 rfl (by show _ = some 7; exact size_dl) (dlC_one _ _ _ _ _ _ _ _ _ _ _ _ _ _ _) ?_; intro w9 hp9 hg9; have KD := hid (kp_at KZ.out hg9 hp9); have HKD := hid (heap_lt KR.out.2.2); replace KA := hid (kp_new_gr KA.out hg9); replace KB := hid (kp_new_gr KB.out hg9); replace KR := hid (kp_new_gr KR.out hg9); replace K8 := hid (kp_new_gr K8.out hg9); replace K10 := hid (kp_new_gr K10.out hg9); replace K12 := hid (kp_new_gr K12.out hg9); replace Re0 := hid (run_new_gr Re0.out hg9); replace Re1 := hid (run_new_gr Re1.out hg9); replace Rf0 := hid (run_new_gr Rf0.out hg9); replace Rf1 := hid (run_new_gr Rf1.out hg9); clear hp9 hg9 KZ p0 q0 g0 g1)
        generalize wj.heap.size = N14 at KD HKD ⊢
        obtain ⟨g0, g1⟩ := box_two K10.out.2.2
        obtain ⟨f0, f1⟩ := box_two K12.out.2.2
        have y3 := kp_froz KD.out 3
        have y4 := kp_froz KD.out 4
        have y5 := kp_froz KD.out 5
        have y6 := kp_froz KD.out 6
        have z3 := kp_cell (j := 3) (v := .slice none 0 0) KD.out rfl
        have z4 := kp_cell (j := 4) (v := .slice none 0 0) KD.out rfl
        have z5 := kp_cell (j := 5) (v := .slice none 0 0) KD.out rfl
        have z6 := kp_cell (j := 6) (v := .slice none 0 0) KD.out rfl
        go_upto_region 10 with (go_at_call 84; refine (apart_m _ _ _ _ _ _ _ _ _ _ _ _ I0 I1 O0 O1 P0 P1 Q0 Q1 kp0 kp1 kq0 kq1 _ ⟨Re0.out, Re1.out⟩ ⟨Rf0.out, Rf1.out⟩ PN.out.1 PN.out.2 LI.out BG.out.1 BG.out.2 FP0 FP1 FQ0 FQ1 Hkp0 Hkp1 Hkq0 Hkq1).mono ?_; rintro e w6 ⟨⟨A0, c0, A1, c1, B0, d0, B1, d1, rfl, ⟨⟨hr0, hr1⟩, hr2, hr3⟩, ⟨hf0, hf1⟩, hf2, hf3⟩, hb⟩; have RA0 := hid hr0; have RA1 := hid hr1; have RB0 := hid hr2; have RB1 := hid hr3; have FA0 := hid (far_up hf0 (heap_lt KD.out.2.2)); have FA1 := hid (far_up hf1 (heap_lt KD.out.2.2)); have FB0 := hid (far_up hf2 (heap_lt KD.out.2.2)); have FB1 := hid (far_up hf3 (heap_lt KD.out.2.2)); have FW : Hid ((Far w A0 ∧ Far w A1) ∧ Far w B0 ∧ Far w B1) := hid ⟨⟨far_low hf0 KD.out.1.size, far_low hf1 KD.out.1.size⟩, far_low hf2 KD.out.1.size, far_low hf3 KD.out.1.size⟩; replace KR := hid (KR.out.step hb); replace KD := hid (KD.out.step hb); clear hr0 hr1 hr2 hr3 hf0 hf1 hf2 hf3 hb y3 y4 y5 y6 z3 z4 z5 z6; have y3 := kp_froz KD.out 3; have y4 := kp_froz KD.out 4; have y5 := kp_froz KD.out 5; have y6 := kp_froz KD.out 6; have z3 := kp_cell (j := 3) (v := .slice none 0 0) KD.out rfl; have z4 := kp_cell (j := 4) (v := .slice none 0 0) KD.out rfl; have z5 := kp_cell (j := 5) (v := .slice none 0 0) KD.out rfl; have z6 := kp_cell (j := 6) (v := .slice none 0 0) KD.out rfl)
        have KE : Hid (Kp w ((((w6.setCell ⟨N14, 3, none⟩ (.slice A0 kp0 c0)).setCell ⟨N14, 4, none⟩ (.slice A1 kp1 c1)).setCell ⟨N14, 5, none⟩ (.slice B0 kq0 d0)).setCell ⟨N14, 6, none⟩ (.slice B1 kq1 d1)) N14 (.cells (dlC (c.n + d.n) S0 S1 A0 kp0 c0 A1 kp1 c1 B0 kq0 d0 B1 kq1 d1) 68)) := hid (kp_set (j := 6) (v := .slice B1 kq1 d1) (kp_set (j := 5) (v := .slice B0 kq0 d0) (kp_set (j := 4) (v := .slice A1 kp1 c1) (kp_set (j := 3) (v := .slice A0 kp0 c0) KD.out))))
        have sg := (((set_grown w6 N14 3 (.slice A0 kp0 c0)).trans (set_grown _ N14 4 (.slice A1 kp1 c1))).trans (set_grown _ N14 5 (.slice B0 kq0 d0))).trans (set_grown _ N14 6 (.slice B1 kq1 d1))
        have HN : Hid (w.heap.size ≤ N2 ∧ N2 < N14) := hid (by have := HO.out; have := HKD.out; omega)
        replace KR := hid (kp_gr KR.out sg (by have := HN.out; omega) (by have := HN.out; omega))
        replace RA0 := hid (RA0.out.grown sg (fun b off e => by have := FA0.out b off e; omega))
        replace RA1 := hid (RA1.out.grown sg (fun b off e => by have := FA1.out b off e; omega))
        replace RB0 := hid (RB0.out.grown sg (fun b off e => by have := FB0.out b off e; omega))
        replace RB1 := hid (RB1.out.grown sg (fun b off e => by have := FB1.out b off e; omega))
        clear sg KD y3 y4 y5 y6 z3 z4 z5 z6 g0 g1 f0 f1
        generalize (((w6.setCell ⟨N14, 3, none⟩ (.slice A0 kp0 c0)).setCell ⟨N14, 4, none⟩ (.slice A1 kp1 c1)).setCell ⟨N14, 5, none⟩ (.slice B0 kq0 d0)).setCell ⟨N14, 6, none⟩ (.slice B1 kq1 d1) = W7 at KE KR RA0 RA1 RB0 RB1 ⊢
        obtain ⟨y0, y1, y2, y3, y4, y5, y6⟩ := box_seven KE.out.2.2
        go_wp2_with (refine wpList_store_whole rfl 68 (.tmp 6) (.tmp 76) rfl N2 (dlC (c.n + d.n) S0 S1 A0 kp0 c0 A1 kp1 c1 B0 kq0 d0 B1 kq1 d1) rfl rfl 68 _ KR.out.2.2 rfl (by show _ = some 7; exact size_dl) (dlC_one _ _ _ _ _ _ _ _ _ _ _ _ _ _ _) ?_; intro w9 hp9 hg9; have KR9 := hid (kp_at KR.out hg9 hp9); replace RA0 := hid (RA0.out.grown hg9 (fun b off e => by have := FA0.out b off e; have := HN.out; omega)); replace RA1 := hid (RA1.out.grown hg9 (fun b off e => by have := FA1.out b off e; have := HN.out; omega)); replace RB0 := hid (RB0.out.grown hg9 (fun b off e => by have := FB0.out b off e; have := HN.out; omega)); replace RB1 := hid (RB1.out.grown hg9 (fun b off e => by have := FB1.out b off e; have := HN.out; omega)); clear hp9 hg9)
        (try simp only [Exit.inBlock, Exit.then])
        show bodyPost Try.prog Try.f42 _ _ _ _
        refine bodyPost_ret (results_cell_slot (p := 6) (u := 7) rfl _ _ N2 _ (dlC (c.n + d.n) S0 S1 A0 kp0 c0 A1 kp1 c1 B0 kq0 d0 B1 kq1 d1) (0, 0) _ (.bool true) rfl rfl KR9.out.2.2 Try.underlying68 rfl (by kernel_rfl)) rfl ?_
        have vd := VD.out
        subst vd
        have vv := VV.out
        subst vv
        have es0 := ES0.out
        subst es0
        have es1 := ES1.out
        subst es1
        have ei0 := EI0.out
        subst ei0
        have ei1 := EI1.out
        subst ei1
        have eo0 := EO0.out
        subst eo0
        have eo1 := EO1.out
        subst eo1
        have ep0 := FP0.out
        subst ep0
        have ep1 := FP1.out
        subst ep1
        have eq0 := FQ0.out
        subst eq0
        have eq1 := FQ1.out
        subst eq1
        have ek0 := Hkp0.out
        subst ek0
        have ek1 := Hkp1.out
        subst ek1
        have ek2 := Hkq0.out
        subst ek2
        have ek3 := Hkq1.out
        subst ek3
        exact ⟨⟨A0, _, c0, A1, _, c1, B0, _, d0, B1, _, d1, rfl, ⟨⟨RA0.out, RA1.out⟩, RB0.out, RB1.out⟩, FW.out⟩, KR9.out.1⟩

end Go.Proofs.Ytjkkajhjcinalaa

namespace Go.Proofs.Ytjkkajhjcinalaa
open Go.ChangeShapes Go.WideShapes Go.ChangeAt Go.RowKit
set_option linter.unusedVariables false
set_option linter.unusedSimpArgs false
set_option maxRecDepth 100000

theorem append_nc {w : World} {ops : Array Oper} {rest : List Oper} {o : Oper} {a : Act} {Q : Exit → Act → World → Prop} (hgd : o.guard = none) (s x : Operand)
    (ho : o.op = .call { callee := .builtin .append, args := #[s, x], argTypes := #[23, 23] }) (base g : Nat)
    (hs : a.eval s = .slice (some ⟨g, 0, none⟩) 0 0) (hown : w.ownsRow base 65 2 (.slice (some ⟨g, 0, none⟩) 0 0) 0 (ncells []))
    (ad : Addr) (m c : Nat) (ys : List Rn) (hx : a.eval x = .slice (some ad) m c) (hr : NRun w (some ad) m c ys) (hn : m ≤ 1000000) (hbase : base ≤ w.heap.size)
    (h : ∀ g' cap' w', w'.ownsRow base 65 2 (.slice (some ⟨g', 0, none⟩) m cap') m (ncells ys) → w.grownBy w' (some g) → wpList Try.prog ops Q rest (a.put o.dst (.slice (some ⟨g', 0, none⟩) m cap')) w') : wpList Try.prog ops Q (o :: rest) a w := by
  obtain ⟨i0, hi, hz0, hz1, hz2⟩ := info_parts info_nr
  refine wpList_append_own w hgd s x 23 ho base 65 i0 _ 2 16 Try.underlying23 hi hz0 hz1 hz2 rfl (by decide) _ 0 (ncells []) hs hown ad m c (ncells ys) hx (by rw [ncells_len, hr.1]) (nrun_src hr) (ncells_one _) (by unfold maxLen; omega) (by omega) hbase ?_
  intro v' w' hown' hgrow' hiff
  obtain ⟨g', cap', rfl⟩ := nown_form hown' (fun e => by have := (hiff.mp e).1; cases this)
  rw [← ncells_app, List.nil_append] at hown'
  simp only [Nat.zero_add] at hown' ⊢
  exact h g' cap' w' hown' hgrow'
set_option maxHeartbeats 4000000 in
theorem nclone_m (a : Option Addr) (n c : Nat) (l : List Rn) (w : World) (hl : NRun w a n c l) (hn : n ≤ 1000) :
    Calls Try.prog 79 #[.slice a n c] w fun e w' => (∃ A cap, e = .returned (.slice A n cap) ∧ NRun w' A n cap l ∧ Far w A) ∧ Below w.heap.size w w' := by
  cases a with
  | none =>
    obtain ⟨h1, h2, h3, h4, h5⟩ := hl
    have hc := h4 rfl
    subst hc
    obtain rfl : n = 0 := by omega
    have hl0 : l = [] := List.length_eq_zero_iff.mp h1.symm
    subst hl0
    have hnil : ∀ w, (binOp .eql 23 (.slice none 0 0) (.slice none 0 0)).run Try.prog w = .ok (.bool true) w := fun _ => by kernel_rfl
    clear h1 h2 h3 h4 h5
    go_enter Try.func79, Try.ntmps79
    go_wp2
    go_ret
    exact ⟨⟨none, 0, rfl, nrun_nil _, far_nil _⟩, Below.refl _ _⟩
  | some ad =>
    have HL := hid hl
    clear hl
    have hnil : ∀ w, (binOp .eql 23 (.slice (some ad) n c) (.slice none 0 0)).run Try.prog w = .ok (.bool false) w := fun _ => by kernel_rfl
    go_enter Try.func79, Try.ntmps79
    go_wp2_with (at_builtin; refine append_nc rfl (.tmp 5) (.tmp 6) rfl w.heap.size w.heap.size rfl (nown_made w w.heap.size (Nat.le_refl _)) ad n c l rfl (HL.out.below ((Below.refl _ _).alloc (Nat.le_refl _) _)) (by omega) (by simp) ?_; intro g1 cap1 w1 hown1 hgrow1; have O1 := hid hown1; have B1 : Below w.heap.size w w1 := ((Below.refl w.heap.size w).alloc (Nat.le_refl _) _).grown hgrow1 (by simp) (fun k hk => by cases hk; exact Nat.le_refl _); clear hown1 hgrow1)
    go_ret
    exact ⟨⟨_, cap1, rfl, own_nrun O1.out, fun b off e => by cases e; exact (O1.out.lt g1 rfl).1⟩, B1⟩
theorem dn_a {m : Int} {d : Dl} (h : dg m d = false) : dnB m d = false := by unfold dnB; rw [h]; rfl
theorem dn_eq {m : Int} {d : Dl} (g : DG m d) : dnB m d = (calc.fitB (0 - d.s0) && calc.fitB (0 - d.s1)) := by
  unfold dnB
  rw [dg_yes g, Int.zero_sub, Int.zero_sub]
  rcases g.2 with ⟨rfl, e, _, _⟩ | ⟨rfl, _⟩
  · rw [e]
    have : calc.fitB (-0) = true := by decide
    rw [this]
    simp
  · simp
theorem two_new (w : World) (o0 o1 : Obj) : Kp w ((w.alloc o0).alloc o1) w.heap.size o0 ∧ Kp w ((w.alloc o0).alloc o1) (w.heap.size + 1) o1 :=
  ⟨kp_alloc (kp_new w o0) o1, kp_new2 (b1alloc _ _) o1 _ (by simp)⟩

set_option maxHeartbeats 32000000 in
theorem dneg_m (m : Int) (d : Dl) (a0 : Option Addr) (a1 a2 : Nat) (a3 : Option Addr) (a4 a5 : Nat) (a6 : Option Addr) (a7 a8 : Nat) (a9 : Option Addr) (a10 a11 : Nat) (D : Dl) (v : Bool) (w : World) (hw : DW w a0 a1 a2 a3 a4 a5 a6 a7 a8 a9 a10 a11 d) (hk : okd d) (hp : shd d) (hC : Hid (dnC m d = D)) (hv : Hid (dnB m d = v)) :
    Calls Try.prog 36 #[.int .i64 m, (.agg #[.int .i64 d.n, .int .i64 d.s0, .int .i64 d.s1, .slice a0 a1 a2, .slice a3 a4 a5, .slice a6 a7 a8, .slice a9 a10 a11])] w fun e w' => (∃ r0 r1 r2 r3 r4 r5 r6 r7 r8 r9 r10 r11, e = .returned (.tuple #[(.agg #[.int .i64 D.n, .int .i64 D.s0, .int .i64 D.s1, .slice r0 r1 r2, .slice r3 r4 r5, .slice r6 r7 r8, .slice r9 r10 r11]), .bool v]) ∧ DW w' r0 r1 r2 r3 r4 r5 r6 r7 r8 r9 r10 r11 D ∧ DF w r0 r1 r2 r3 r4 r5 r6 r7 r8 r9 r10 r11) ∧ Below w.heap.size w w' := by
  have HW := hid hw
  have HK := hid hk
  have HP := hid hp
  clear hw hk hp
  have KK := hid (two_new w (.cells #[.int .i64 d.n, .int .i64 d.s0, .int .i64 d.s1, .slice a0 a1 a2, .slice a3 a4 a5, .slice a6 a7 a8, .slice a9 a10 a11] 68) (.cells #[.int .i64 0, .int .i64 0, .int .i64 0, .slice none 0 0, .slice none 0 0, .slice none 0 0, .slice none 0 0] 68))
  cases ga : dg m d with
  | false =>
    have GA := hid ga
    have HZ := hid (And.intro (hC.out.symm.trans (dnC_no (dn_a ga))) (hv.out.symm.trans (dn_a ga)))
    clear ga
    go_enter Try.func36, Try.ntmps36
    go_upto_region 1 with fail
    generalize (w.alloc (.cells #[.int .i64 d.n, .int .i64 d.s0, .int .i64 d.s1, .slice a0 a1 a2, .slice a3 a4 a5, .slice a6 a7 a8, .slice a9 a10 a11] 68)).alloc (.cells #[.int .i64 0, .int .i64 0, .int .i64 0, .slice none 0 0, .slice none 0 0, .slice none 0 0, .slice none 0 0] 68) = W at KK ⊢
    obtain ⟨N0, hN0⟩ : ∃ y, w.heap.size = y := ⟨_, rfl⟩
    obtain ⟨N1, hN1⟩ : ∃ y, N0 + 1 = y := ⟨_, rfl⟩
    rw [hN0, hN1] at KK
    (try rw [hN0]); (try rw [hN1])
    have HO : Hid (w.heap.size = N0 ∧ N0 < N1) := hid (by omega)
    clear hN0 hN1
    have KA := hid KK.out.1
    have KR := hid KK.out.2
    clear KK
    obtain ⟨p0, p1, p2, p3, p4, p5, p6⟩ := box_seven KA.out.2.2
    go_upto_region 2 with (go_at_call 38; refine (dgood_m _ d a0 a1 a2 a3 a4 a5 a6 a7 a8 a9 a10 a11 false _ (HW.out.below KA.out.1) HK.out HP.out GA).mono ?_; rintro e w1 ⟨rfl, hb⟩; replace KA := hid (KA.out.step hb); replace KR := hid (KR.out.step hb); clear hb p0 p1 p2 p3 p4 p5 p6; obtain ⟨p0, p1, p2, p3, p4, p5, p6⟩ := box_seven KA.out.2.2)
    go_wp2_with (refine wpList_store_whole rfl 68 (.tmp 4) (.tmp 14) rfl N1 (dlC 0 0 0 none 0 0 none 0 0 none 0 0 none 0 0) rfl rfl 68 _ KR.out.2.2 rfl (by show _ = some 7; exact size_dl) (dlC_one _ _ _ _ _ _ _ _ _ _ _ _ _ _ _) ?_; intro w9 hp9 hg9; have KR9 := hid (kp_at KR.out hg9 hp9); clear hp9 hg9)
    (try simp only [Exit.inBlock, Exit.then])
    show bodyPost Try.prog Try.f36 _ _ _ _
    refine bodyPost_ret (results_cell_slot (p := 4) (u := 5) rfl _ _ N1 _ (dlC 0 0 0 none 0 0 none 0 0 none 0 0 none 0 0) (0, 0) _ (.bool false) rfl rfl KR9.out.2.2 Try.underlying68 rfl (by kernel_rfl)) rfl ?_
    obtain ⟨q1, q2⟩ := HZ.out
    subst q1
    subst q2
    exact ⟨⟨none, 0, 0, none, 0, 0, none, 0, 0, none, 0, 0, rfl, dw_0 _, df_0 _⟩, KR9.out.1⟩
  | true =>
    have GA := hid ga
    have CA := hid (dg_iff.1 ga)
    have HE := hid (dn_eq CA.out)
    obtain ⟨na1, na2⟩ := dg_n CA.out
    have hwn : IntKind.i64.wrap (-d.n) = -d.n := IntWalk.i64_in _ (by omega)
    clear ga
    obtain ⟨Fv, hF⟩ : ∃ y, (calc.fitB (0 - d.s0) && calc.fitB (0 - d.s1)) = y := ⟨_, rfl⟩
    rw [hF] at HE
    have FF := hid hF
    clear hF
    obtain ⟨S0, hS0⟩ : ∃ y, (if Fv then 0 - d.s0 else 0) = y := ⟨_, rfl⟩
    have FS0 := hid hS0
    clear hS0
    obtain ⟨S1, hS1⟩ : ∃ y, (if Fv then 0 - d.s1 else 0) = y := ⟨_, rfl⟩
    have FS1 := hid hS1
    clear hS1
    go_enter Try.func36, Try.ntmps36
    go_upto_region 1 with fail
    generalize (w.alloc (.cells #[.int .i64 d.n, .int .i64 d.s0, .int .i64 d.s1, .slice a0 a1 a2, .slice a3 a4 a5, .slice a6 a7 a8, .slice a9 a10 a11] 68)).alloc (.cells #[.int .i64 0, .int .i64 0, .int .i64 0, .slice none 0 0, .slice none 0 0, .slice none 0 0, .slice none 0 0] 68) = W at KK ⊢
    obtain ⟨N0, hN0⟩ : ∃ y, w.heap.size = y := ⟨_, rfl⟩
    obtain ⟨N1, hN1⟩ : ∃ y, N0 + 1 = y := ⟨_, rfl⟩
    rw [hN0, hN1] at KK
    (try rw [hN0]); (try rw [hN1])
    have HO : Hid (w.heap.size = N0 ∧ N0 < N1) := hid (by omega)
    clear hN0 hN1
    have KA := hid KK.out.1
    have KR := hid KK.out.2
    clear KK
    obtain ⟨p0, p1, p2, p3, p4, p5, p6⟩ := box_seven KA.out.2.2
    go_upto_region 3 with (go_at_call 38; refine (dgood_m _ d a0 a1 a2 a3 a4 a5 a6 a7 a8 a9 a10 a11 true _ (HW.out.below KA.out.1) HK.out HP.out GA).mono ?_; rintro e w1 ⟨rfl, hb⟩; replace KA := hid (KA.out.step hb); replace KR := hid (KR.out.step hb); clear hb p0 p1 p2 p3 p4 p5 p6; obtain ⟨p0, p1, p2, p3, p4, p5, p6⟩ := box_seven KA.out.2.2)
    go_upto_region 4 with (first
      | (go_at_call 77; refine (eachSub_m 0 0 d.s0 d.s1 S0 S1 Fv _ ⟨calc.i64_0, calc.i64_0⟩ ⟨HK.out.1.2.1, HK.out.1.2.2⟩ FF FS0 FS1).mono ?_; rintro e w3 ⟨rfl, hb⟩; replace KA := hid (KA.out.step hb); replace KR := hid (KR.out.step hb); clear hb p0 p1 p2 p3 p4 p5 p6; obtain ⟨p0, p1, p2, p3, p4, p5, p6⟩ := box_seven KA.out.2.2)
      | (have KZ : Hid (Kp w (w3.alloc (.cells #[.int .i64 0, .int .i64 0] 22)) w3.heap.size (.cells #[.int .i64 0, .int .i64 0] 22)) := hid (kp_new2 KR.out.1 _ _ rfl); refine wpList_store_whole rfl 22 (.tmp 6) (.tmp 20) rfl w3.heap.size (aiC S0 S1) rfl rfl 22 _ KZ.out.2.2 rfl (by show _ = some 2; exact size_ai) (aiC_one _ _) ?_; intro w9 hp9 hg9; have K6 := hid (kp_at KZ.out hg9 hp9); have HK6 := hid (heap_lt KR.out.2.2); replace KA := hid (kp_new_gr KA.out hg9); replace KR := hid (kp_new_gr KR.out hg9); clear hp9 hg9 KZ p0 p1 p2 p3 p4 p5 p6; obtain ⟨p0, p1, p2, p3, p4, p5, p6⟩ := box_seven KA.out.2.2))
    generalize w3.heap.size = N6 at K6 HK6 ⊢
    cases Fv with
    | false =>
      have HZ := hid (And.intro (hC.out.symm.trans (dnC_no (HE.out))) (hv.out.symm.trans (HE.out)))
      go_wp2_with (refine wpList_store_whole rfl 68 (.tmp 4) (.tmp 24) rfl N1 (dlC 0 0 0 none 0 0 none 0 0 none 0 0 none 0 0) rfl rfl 68 _ KR.out.2.2 rfl (by show _ = some 7; exact size_dl) (dlC_one _ _ _ _ _ _ _ _ _ _ _ _ _ _ _) ?_; intro w9 hp9 hg9; have KR9 := hid (kp_at KR.out hg9 hp9); clear hp9 hg9)
      (try simp only [Exit.inBlock, Exit.then])
      show bodyPost Try.prog Try.f36 _ _ _ _
      refine bodyPost_ret (results_cell_slot (p := 4) (u := 5) rfl _ _ N1 _ (dlC 0 0 0 none 0 0 none 0 0 none 0 0 none 0 0) (0, 0) _ (.bool false) rfl rfl KR9.out.2.2 Try.underlying68 rfl (by kernel_rfl)) rfl ?_
      obtain ⟨q1, q2⟩ := HZ.out
      subst q1
      subst q2
      exact ⟨⟨none, 0, 0, none, 0, 0, none, 0, 0, none, 0, 0, rfl, dw_0 _, df_0 _⟩, KR9.out.1⟩
    | true =>
      have VD := hid (hC.out.symm.trans (dnC_yes HE.out))
      have VV := hid (hv.out.symm.trans HE.out)
      have ES0 : Hid (0 - d.s0 = S0) := FS0
      have ES1 : Hid (0 - d.s1 = S1) := FS1
      clear FS0 FS1
      obtain ⟨g0, g1⟩ := box_two K6.out.2.2
      rename World => wj
      go_upto_region 7 with (have KZ : Hid (Kp w (wj.alloc (.cells #[.int .i64 0, .int .i64 0, .int .i64 0, .slice none 0 0, .slice none 0 0, .slice none 0 0, .slice none 0 0] 68)) wj.heap.size (.cells #[.int .i64 0, .int .i64 0, .int .i64 0, .slice none 0 0, .slice none 0 0, .slice none 0 0, .slice none 0 0] 68)) := hid (kp_new2 KR.out.1 _ _ rfl); refine wpList_store_whole rfl 68 (.tmp 8) (.tmp 29) rfl wj.heap.size (dlC (-d.n) S0 S1 none 0 0 none 0 0 none 0 0 none 0 0) rfl rfl 68 _ KZ.out.2.2 rfl (by show _ = some 7; exact size_dl) (dlC_one _ _ _ _ _ _ _ _ _ _ _ _ _ _ _) ?_; intro w9 hp9 hg9; have KD := hid (kp_at KZ.out hg9 hp9); have HKD := hid (heap_lt KR.out.2.2); replace KA := hid (kp_new_gr KA.out hg9); replace KR := hid (kp_new_gr KR.out hg9); clear hp9 hg9 KZ p0 p1 p2 p3 p4 p5 p6 g0 g1)
      generalize wj.heap.size = N8 at KD HKD ⊢
      clear K6 HK6
      have HN : Hid (w.heap.size ≤ N0 ∧ N0 < N1 ∧ N1 < N8) := hid (by have := HO.out; have := HKD.out; omega)
      rename World => W8
      go_wp2
      refine wp_loop_rounds 3 ?_
      rw [rounds_succ]
      go_wp2
      replace KA := hid (KA.out.step (bdrew (Below.refl _ _)))
      replace KR := hid (KR.out.step (bdrew (Below.refl _ _)))
      replace KD := hid (KD.out.step (bdrew (Below.refl _ _)))
      refine wp_region_noPanic ?_
      refine wp_region_held_drew (S := fun y => y.cell? ⟨N0, 5, none⟩ = some (.slice a6 a7 a8) ∧ y.cell? ⟨N0, 3, none⟩ = some (.slice a0 a1 a2)) (by kernel_rfl) (⟨kp_cell (j := 5) (v := .slice a6 a7 a8) KA.out rfl, kp_cell (j := 3) (v := .slice a0 a1 a2) KA.out rfl⟩) (fun hHeld => ?_)
      generalize W8.drew = wd0 at KA KR KD hHeld  ⊢
      refine tk 0 (v := ?_) ?_ ?_
      rotate_left
      · intro w hSw; (try dsimp only at hSw); go_simp; (try with_reducible rfl)
      try simp only [Act.put, List.setIfInBounds_toArray, List.set_cons_zero, List.set_cons_succ]
      refine tk 1 (v := ?_) ?_ ?_
      rotate_left
      · intro w hSw; (try dsimp only at hSw); go_simp; (try with_reducible rfl)
      try simp only [Act.put, List.setIfInBounds_toArray, List.set_cons_zero, List.set_cons_succ]
      refine tk 2 (v := ?_) ?_ ?_
      rotate_left
      · intro w hSw; (try dsimp only at hSw); go_simp; (try with_reducible rfl)
      try simp only [Act.put, List.setIfInBounds_toArray, List.set_cons_zero, List.set_cons_succ]
      refine tk 3 (v := ?_) ?_ ?_
      rotate_left
      · intro w hSw; (try dsimp only at hSw); go_simp; (try with_reducible rfl)
      try simp only [Act.put, List.setIfInBounds_toArray, List.set_cons_zero, List.set_cons_succ]
      refine tk 4 (v := ?_) ?_ ?_
      rotate_left
      · intro w hSw; (try dsimp only at hSw); go_simp; (try with_reducible rfl)
      try simp only [Act.put, List.setIfInBounds_toArray, List.set_cons_zero, List.set_cons_succ]
      refine tk 5 (v := ?_) ?_ ?_
      rotate_left
      · intro w hSw; (try dsimp only at hSw); go_simp; (try with_reducible rfl)
      try simp only [Act.put, List.setIfInBounds_toArray, List.set_cons_zero, List.set_cons_succ]
      refine tk 7 (v := ?_) ?_ ?_
      rotate_left
      · intro w hSw; (try dsimp only at hSw); go_simp; (try with_reducible rfl)
      try simp only [Act.put, List.setIfInBounds_toArray, List.set_cons_zero, List.set_cons_succ]
      refine tk 8 (v := ?_) ?_ ?_
      rotate_left
      · intro w hSw; (try dsimp only at hSw); go_simp; (try with_reducible rfl)
      try simp only [Act.put, List.setIfInBounds_toArray, List.set_cons_zero, List.set_cons_succ]
      refine tk 9 (v := ?_) ?_ ?_
      rotate_left
      · intro w hSw; (try dsimp only at hSw); go_simp; (try with_reducible rfl)
      try simp only [Act.put, List.setIfInBounds_toArray, List.set_cons_zero, List.set_cons_succ]
      refine tk 10 (v := ?_) ?_ ?_
      rotate_left
      · intro w hSw; (try dsimp only at hSw); go_simp; (try with_reducible rfl)
      try simp only [Act.put, List.setIfInBounds_toArray, List.set_cons_zero, List.set_cons_succ]
      refine tk 12 (v := ?_) ?_ ?_
      rotate_left
      · intro w hSw; (try dsimp only at hSw); go_simp; (try with_reducible rfl)
      try simp only [Act.put, List.setIfInBounds_toArray, List.set_cons_zero, List.set_cons_succ]
      refine tk 15 (v := ?_) ?_ ?_
      rotate_left
      · intro w hSw; (try dsimp only at hSw); go_simp; (try with_reducible rfl)
      try simp only [Act.put, List.setIfInBounds_toArray, List.set_cons_zero, List.set_cons_succ]
      refine rd1 6 (fun K hK => ?_)
      go_simp
      go_at_call 79; refine (nclone_m _ _ _ _ _ (HW.out.2.1.below KA.out.1) (by have h1 := HW.out.2.1.lens.1; have h2 := HP.out.2.1; omega)).mono ?_; rintro e cA0 ⟨⟨X0, X0c, rfl, hr, hf⟩, hb⟩
      have FX0 := hid (far_up hf (heap_lt KD.out.2.2))
      have WX0 := hid (far_low hf KD.out.1.size)
      have RX0 := hid hr
      replace KA := hid (KA.out.step hb)
      replace KR := hid (KR.out.step hb)
      replace KD := hid (KD.out.step hb)
      clear hr hf hb
      refine hK.out _ _ ⟨kp_cell (j := 5) (v := .slice a6 a7 a8) KA.out rfl, kp_cell (j := 3) (v := .slice a0 a1 a2) KA.out rfl⟩ (fun hHeld2 => ?_)
      clear hK K hHeld; have hHeld := hHeld2; clear hHeld2
      try simp only [Act.put, List.setIfInBounds_toArray, List.set_cons_zero, List.set_cons_succ]
      refine tk 13 (v := ?_) ?_ ?_
      rotate_left
      · intro w hSw; (try dsimp only at hSw); go_simp; (try with_reducible rfl)
      try simp only [Act.put, List.setIfInBounds_toArray, List.set_cons_zero, List.set_cons_succ]
      refine rd1 11 (fun K hK => ?_)
      go_simp
      go_at_call 79; refine (nclone_m _ _ _ _ _ (HW.out.1.1.below KA.out.1) (by have h1 := HW.out.1.1.lens.1; have h2 := HP.out.1.1; omega)).mono ?_; rintro e cB0 ⟨⟨Y0, Y0c, rfl, hr, hf⟩, hb⟩
      have FY0 := hid (far_up hf (heap_lt KD.out.2.2))
      have WY0 := hid (far_low hf KD.out.1.size)
      have RY0 := hid hr
      replace KA := hid (KA.out.step hb)
      replace KR := hid (KR.out.step hb)
      replace KD := hid (KD.out.step hb)
      replace RX0 := hid (RX0.out.below hb)
      clear hr hf hb
      refine hK.out _ _ ⟨kp_cell (j := 5) (v := .slice a6 a7 a8) KA.out rfl, kp_cell (j := 3) (v := .slice a0 a1 a2) KA.out rfl⟩ (fun hHeld2 => ?_)
      clear hK K hHeld; have hHeld := hHeld2; clear hHeld2
      try simp only [Act.put, List.setIfInBounds_toArray, List.set_cons_zero, List.set_cons_succ]
      refine rd1 14 (fun K hK => ?_)
      have y0 := kp_froz KD.out 3
      have z0 := kp_cell (j := 3) (v := .slice none 0 0) KD.out rfl
      go_simp
      replace KA := hid (kp_gr KA.out (set_grown cB0 N8 3 (.slice X0 a7 X0c)) (by have := HN.out; omega) (by have := HN.out; omega))
      replace KR := hid (kp_gr KR.out (set_grown cB0 N8 3 (.slice X0 a7 X0c)) (by have := HN.out; omega) (by have := HN.out; omega))
      replace RX0 := hid (RX0.out.grown (set_grown cB0 N8 3 (.slice X0 a7 X0c)) (fun b off e => by have := FX0.out b off e; omega))
      replace RY0 := hid (RY0.out.grown (set_grown cB0 N8 3 (.slice X0 a7 X0c)) (fun b off e => by have := FY0.out b off e; omega))
      have KN : Hid (Kp w (cB0.setCell ⟨N8, 3, none⟩ (.slice X0 a7 X0c)) N8 (.cells (dlC (-d.n) S0 S1 X0 a7 X0c none 0 0 none 0 0 none 0 0) 68)) := hid (kp_set (j := 3) (v := .slice X0 a7 X0c) KD.out)
      clear KD y0 z0
      have KD := KN
      clear KN
      refine hK.out _ _ ⟨kp_cell (j := 5) (v := .slice a6 a7 a8) KA.out rfl, kp_cell (j := 3) (v := .slice a0 a1 a2) KA.out rfl⟩ (fun hHeld2 => ?_)
      clear hK K hHeld; have hHeld := hHeld2; clear hHeld2
      generalize cB0.setCell ⟨N8, 3, none⟩ (.slice X0 a7 X0c) = s03 at KA KR KD hHeld RX0 RY0 ⊢
      try simp only [Act.put, List.setIfInBounds_toArray, List.set_cons_zero, List.set_cons_succ]
      refine tk 16 (v := ?_) ?_ ?_
      rotate_left
      · intro w hSw; (try dsimp only at hSw); go_simp; (try with_reducible rfl)
      try simp only [Act.put, List.setIfInBounds_toArray, List.set_cons_zero, List.set_cons_succ]
      refine rd1 17 (fun K hK => ?_)
      have y0 := kp_froz KD.out 5
      have z0 := kp_cell (j := 5) (v := .slice none 0 0) KD.out rfl
      go_simp
      replace KA := hid (kp_gr KA.out (set_grown s03 N8 5 (.slice Y0 a1 Y0c)) (by have := HN.out; omega) (by have := HN.out; omega))
      replace KR := hid (kp_gr KR.out (set_grown s03 N8 5 (.slice Y0 a1 Y0c)) (by have := HN.out; omega) (by have := HN.out; omega))
      replace RX0 := hid (RX0.out.grown (set_grown s03 N8 5 (.slice Y0 a1 Y0c)) (fun b off e => by have := FX0.out b off e; omega))
      replace RY0 := hid (RY0.out.grown (set_grown s03 N8 5 (.slice Y0 a1 Y0c)) (fun b off e => by have := FY0.out b off e; omega))
      have KN : Hid (Kp w (s03.setCell ⟨N8, 5, none⟩ (.slice Y0 a1 Y0c)) N8 (.cells (dlC (-d.n) S0 S1 X0 a7 X0c none 0 0 Y0 a1 Y0c none 0 0) 68)) := hid (kp_set (j := 5) (v := .slice Y0 a1 Y0c) KD.out)
      clear KD y0 z0
      have KD := KN
      clear KN
      refine hK.out _ _ ⟨kp_cell (j := 5) (v := .slice a6 a7 a8) KA.out rfl, kp_cell (j := 3) (v := .slice a0 a1 a2) KA.out rfl⟩ (fun hHeld2 => ?_)
      clear hK K hHeld; have hHeld := hHeld2; clear hHeld2
      generalize s03.setCell ⟨N8, 5, none⟩ (.slice Y0 a1 Y0c) = s05 at KA KR KD hHeld RX0 RY0 ⊢
      try simp only [Act.put, List.setIfInBounds_toArray, List.set_cons_zero, List.set_cons_succ]
      refine wpAnyH_done (by kernel_rfl) ?_ _
      refine NoPanic.normal ?_
      skip
      clear hHeld
      go_wp2
      rw [rounds_succ]
      go_wp2
      replace KA := hid (KA.out.step (bdrew (Below.refl _ _)))
      replace KR := hid (KR.out.step (bdrew (Below.refl _ _)))
      replace KD := hid (KD.out.step (bdrew (Below.refl _ _)))
      replace RX0 := hid (RX0.out.below (bdrew (Below.refl _ _)))
      replace RY0 := hid (RY0.out.below (bdrew (Below.refl _ _)))
      refine wp_region_noPanic ?_
      refine wp_region_held_drew (S := fun y => y.cell? ⟨N0, 6, none⟩ = some (.slice a9 a10 a11) ∧ y.cell? ⟨N0, 4, none⟩ = some (.slice a3 a4 a5)) (by kernel_rfl) (⟨kp_cell (j := 6) (v := .slice a9 a10 a11) KA.out rfl, kp_cell (j := 4) (v := .slice a3 a4 a5) KA.out rfl⟩) (fun hHeld => ?_)
      generalize s05.drew = wd1 at KA KR KD hHeld RX0 RY0 ⊢
      refine tk 0 (v := ?_) ?_ ?_
      rotate_left
      · intro w hSw; (try dsimp only at hSw); go_simp; (try with_reducible rfl)
      try simp only [Act.put, List.setIfInBounds_toArray, List.set_cons_zero, List.set_cons_succ]
      refine tk 1 (v := ?_) ?_ ?_
      rotate_left
      · intro w hSw; (try dsimp only at hSw); go_simp; (try with_reducible rfl)
      try simp only [Act.put, List.setIfInBounds_toArray, List.set_cons_zero, List.set_cons_succ]
      refine tk 2 (v := ?_) ?_ ?_
      rotate_left
      · intro w hSw; (try dsimp only at hSw); go_simp; (try with_reducible rfl)
      try simp only [Act.put, List.setIfInBounds_toArray, List.set_cons_zero, List.set_cons_succ]
      refine tk 3 (v := ?_) ?_ ?_
      rotate_left
      · intro w hSw; (try dsimp only at hSw); go_simp; (try with_reducible rfl)
      try simp only [Act.put, List.setIfInBounds_toArray, List.set_cons_zero, List.set_cons_succ]
      refine tk 4 (v := ?_) ?_ ?_
      rotate_left
      · intro w hSw; (try dsimp only at hSw); go_simp; (try with_reducible rfl)
      try simp only [Act.put, List.setIfInBounds_toArray, List.set_cons_zero, List.set_cons_succ]
      refine tk 5 (v := ?_) ?_ ?_
      rotate_left
      · intro w hSw; (try dsimp only at hSw); go_simp; (try with_reducible rfl)
      try simp only [Act.put, List.setIfInBounds_toArray, List.set_cons_zero, List.set_cons_succ]
      refine tk 7 (v := ?_) ?_ ?_
      rotate_left
      · intro w hSw; (try dsimp only at hSw); go_simp; (try with_reducible rfl)
      try simp only [Act.put, List.setIfInBounds_toArray, List.set_cons_zero, List.set_cons_succ]
      refine tk 8 (v := ?_) ?_ ?_
      rotate_left
      · intro w hSw; (try dsimp only at hSw); go_simp; (try with_reducible rfl)
      try simp only [Act.put, List.setIfInBounds_toArray, List.set_cons_zero, List.set_cons_succ]
      refine tk 9 (v := ?_) ?_ ?_
      rotate_left
      · intro w hSw; (try dsimp only at hSw); go_simp; (try with_reducible rfl)
      try simp only [Act.put, List.setIfInBounds_toArray, List.set_cons_zero, List.set_cons_succ]
      refine tk 10 (v := ?_) ?_ ?_
      rotate_left
      · intro w hSw; (try dsimp only at hSw); go_simp; (try with_reducible rfl)
      try simp only [Act.put, List.setIfInBounds_toArray, List.set_cons_zero, List.set_cons_succ]
      refine tk 12 (v := ?_) ?_ ?_
      rotate_left
      · intro w hSw; (try dsimp only at hSw); go_simp; (try with_reducible rfl)
      try simp only [Act.put, List.setIfInBounds_toArray, List.set_cons_zero, List.set_cons_succ]
      refine tk 15 (v := ?_) ?_ ?_
      rotate_left
      · intro w hSw; (try dsimp only at hSw); go_simp; (try with_reducible rfl)
      try simp only [Act.put, List.setIfInBounds_toArray, List.set_cons_zero, List.set_cons_succ]
      refine rd1 6 (fun K hK => ?_)
      go_simp
      go_at_call 79; refine (nclone_m _ _ _ _ _ (HW.out.2.2.below KA.out.1) (by have h1 := HW.out.2.2.lens.1; have h2 := HP.out.2.2; omega)).mono ?_; rintro e cA1 ⟨⟨X1, X1c, rfl, hr, hf⟩, hb⟩
      have FX1 := hid (far_up hf (heap_lt KD.out.2.2))
      have WX1 := hid (far_low hf KD.out.1.size)
      have RX1 := hid hr
      replace KA := hid (KA.out.step hb)
      replace KR := hid (KR.out.step hb)
      replace KD := hid (KD.out.step hb)
      replace RX0 := hid (RX0.out.below hb)
      replace RY0 := hid (RY0.out.below hb)
      clear hr hf hb
      refine hK.out _ _ ⟨kp_cell (j := 6) (v := .slice a9 a10 a11) KA.out rfl, kp_cell (j := 4) (v := .slice a3 a4 a5) KA.out rfl⟩ (fun hHeld2 => ?_)
      clear hK K hHeld; have hHeld := hHeld2; clear hHeld2
      try simp only [Act.put, List.setIfInBounds_toArray, List.set_cons_zero, List.set_cons_succ]
      refine tk 13 (v := ?_) ?_ ?_
      rotate_left
      · intro w hSw; (try dsimp only at hSw); go_simp; (try with_reducible rfl)
      try simp only [Act.put, List.setIfInBounds_toArray, List.set_cons_zero, List.set_cons_succ]
      refine rd1 11 (fun K hK => ?_)
      go_simp
      go_at_call 79; refine (nclone_m _ _ _ _ _ (HW.out.1.2.below KA.out.1) (by have h1 := HW.out.1.2.lens.1; have h2 := HP.out.1.2; omega)).mono ?_; rintro e cB1 ⟨⟨Y1, Y1c, rfl, hr, hf⟩, hb⟩
      have FY1 := hid (far_up hf (heap_lt KD.out.2.2))
      have WY1 := hid (far_low hf KD.out.1.size)
      have RY1 := hid hr
      replace KA := hid (KA.out.step hb)
      replace KR := hid (KR.out.step hb)
      replace KD := hid (KD.out.step hb)
      replace RX0 := hid (RX0.out.below hb)
      replace RY0 := hid (RY0.out.below hb)
      replace RX1 := hid (RX1.out.below hb)
      clear hr hf hb
      refine hK.out _ _ ⟨kp_cell (j := 6) (v := .slice a9 a10 a11) KA.out rfl, kp_cell (j := 4) (v := .slice a3 a4 a5) KA.out rfl⟩ (fun hHeld2 => ?_)
      clear hK K hHeld; have hHeld := hHeld2; clear hHeld2
      try simp only [Act.put, List.setIfInBounds_toArray, List.set_cons_zero, List.set_cons_succ]
      refine rd1 14 (fun K hK => ?_)
      have y0 := kp_froz KD.out 4
      have z0 := kp_cell (j := 4) (v := .slice none 0 0) KD.out rfl
      go_simp
      replace KA := hid (kp_gr KA.out (set_grown cB1 N8 4 (.slice X1 a10 X1c)) (by have := HN.out; omega) (by have := HN.out; omega))
      replace KR := hid (kp_gr KR.out (set_grown cB1 N8 4 (.slice X1 a10 X1c)) (by have := HN.out; omega) (by have := HN.out; omega))
      replace RX0 := hid (RX0.out.grown (set_grown cB1 N8 4 (.slice X1 a10 X1c)) (fun b off e => by have := FX0.out b off e; omega))
      replace RY0 := hid (RY0.out.grown (set_grown cB1 N8 4 (.slice X1 a10 X1c)) (fun b off e => by have := FY0.out b off e; omega))
      replace RX1 := hid (RX1.out.grown (set_grown cB1 N8 4 (.slice X1 a10 X1c)) (fun b off e => by have := FX1.out b off e; omega))
      replace RY1 := hid (RY1.out.grown (set_grown cB1 N8 4 (.slice X1 a10 X1c)) (fun b off e => by have := FY1.out b off e; omega))
      have KN : Hid (Kp w (cB1.setCell ⟨N8, 4, none⟩ (.slice X1 a10 X1c)) N8 (.cells (dlC (-d.n) S0 S1 X0 a7 X0c X1 a10 X1c Y0 a1 Y0c none 0 0) 68)) := hid (kp_set (j := 4) (v := .slice X1 a10 X1c) KD.out)
      clear KD y0 z0
      have KD := KN
      clear KN
      refine hK.out _ _ ⟨kp_cell (j := 6) (v := .slice a9 a10 a11) KA.out rfl, kp_cell (j := 4) (v := .slice a3 a4 a5) KA.out rfl⟩ (fun hHeld2 => ?_)
      clear hK K hHeld; have hHeld := hHeld2; clear hHeld2
      generalize cB1.setCell ⟨N8, 4, none⟩ (.slice X1 a10 X1c) = s14 at KA KR KD hHeld RX0 RY0 RX1 RY1 ⊢
      try simp only [Act.put, List.setIfInBounds_toArray, List.set_cons_zero, List.set_cons_succ]
      refine tk 16 (v := ?_) ?_ ?_
      rotate_left
      · intro w hSw; (try dsimp only at hSw); go_simp; (try with_reducible rfl)
      try simp only [Act.put, List.setIfInBounds_toArray, List.set_cons_zero, List.set_cons_succ]
      refine rd1 17 (fun K hK => ?_)
      have y0 := kp_froz KD.out 6
      have z0 := kp_cell (j := 6) (v := .slice none 0 0) KD.out rfl
      go_simp
      replace KA := hid (kp_gr KA.out (set_grown s14 N8 6 (.slice Y1 a4 Y1c)) (by have := HN.out; omega) (by have := HN.out; omega))
      replace KR := hid (kp_gr KR.out (set_grown s14 N8 6 (.slice Y1 a4 Y1c)) (by have := HN.out; omega) (by have := HN.out; omega))
      replace RX0 := hid (RX0.out.grown (set_grown s14 N8 6 (.slice Y1 a4 Y1c)) (fun b off e => by have := FX0.out b off e; omega))
      replace RY0 := hid (RY0.out.grown (set_grown s14 N8 6 (.slice Y1 a4 Y1c)) (fun b off e => by have := FY0.out b off e; omega))
      replace RX1 := hid (RX1.out.grown (set_grown s14 N8 6 (.slice Y1 a4 Y1c)) (fun b off e => by have := FX1.out b off e; omega))
      replace RY1 := hid (RY1.out.grown (set_grown s14 N8 6 (.slice Y1 a4 Y1c)) (fun b off e => by have := FY1.out b off e; omega))
      have KN : Hid (Kp w (s14.setCell ⟨N8, 6, none⟩ (.slice Y1 a4 Y1c)) N8 (.cells (dlC (-d.n) S0 S1 X0 a7 X0c X1 a10 X1c Y0 a1 Y0c Y1 a4 Y1c) 68)) := hid (kp_set (j := 6) (v := .slice Y1 a4 Y1c) KD.out)
      clear KD y0 z0
      have KD := KN
      clear KN
      refine hK.out _ _ ⟨kp_cell (j := 6) (v := .slice a9 a10 a11) KA.out rfl, kp_cell (j := 4) (v := .slice a3 a4 a5) KA.out rfl⟩ (fun hHeld2 => ?_)
      clear hK K hHeld; have hHeld := hHeld2; clear hHeld2
      generalize s14.setCell ⟨N8, 6, none⟩ (.slice Y1 a4 Y1c) = s16 at KA KR KD hHeld RX0 RY0 RX1 RY1 ⊢
      try simp only [Act.put, List.setIfInBounds_toArray, List.set_cons_zero, List.set_cons_succ]
      refine wpAnyH_done (by kernel_rfl) ?_ _
      refine NoPanic.normal ?_
      skip
      clear hHeld
      go_wp2
      rw [rounds_succ]
      obtain ⟨y0, y1, y2, y3, y4, y5, y6⟩ := box_seven KD.out.2.2
      go_wp2_with (refine wpList_store_whole rfl 68 (.tmp 4) (.tmp 50) rfl N1 (dlC (-d.n) S0 S1 X0 a7 X0c X1 a10 X1c Y0 a1 Y0c Y1 a4 Y1c) rfl rfl 68 _ KR.out.2.2 rfl (by show _ = some 7; exact size_dl) (dlC_one _ _ _ _ _ _ _ _ _ _ _ _ _ _ _) ?_; intro w9 hp9 hg9; have KR9 := hid (kp_at KR.out hg9 hp9); replace RX0 := hid (RX0.out.grown hg9 (fun b off e => by have := FX0.out b off e; have := HN.out; omega)); replace RY0 := hid (RY0.out.grown hg9 (fun b off e => by have := FY0.out b off e; have := HN.out; omega)); replace RX1 := hid (RX1.out.grown hg9 (fun b off e => by have := FX1.out b off e; have := HN.out; omega)); replace RY1 := hid (RY1.out.grown hg9 (fun b off e => by have := FY1.out b off e; have := HN.out; omega)); clear hp9 hg9)
      (try simp only [Exit.inBlock, Exit.then])
      show bodyPost Try.prog Try.f36 _ _ _ _
      refine bodyPost_ret (results_cell_slot (p := 4) (u := 5) rfl _ _ N1 _ (dlC (-d.n) S0 S1 X0 a7 X0c X1 a10 X1c Y0 a1 Y0c Y1 a4 Y1c) (0, 0) _ (.bool true) rfl rfl KR9.out.2.2 Try.underlying68 rfl (by kernel_rfl)) rfl ?_
      have es0 := ES0.out
      have es1 := ES1.out
      rw [Int.zero_sub] at es0 es1
      have vd := VD.out
      subst vd
      have vv := VV.out
      subst vv
      subst es0
      subst es1
      exact ⟨⟨X0, a7, X0c, X1, a10, X1c, Y0, a1, Y0c, Y1, a4, Y1c, rfl, ⟨⟨RX0.out, RX1.out⟩, RY0.out, RY1.out⟩, ⟨⟨WX0.out, WX1.out⟩, WY0.out, WY1.out⟩⟩, KR9.out.1⟩

end Go.Proofs.Ytjkkajhjcinalaa

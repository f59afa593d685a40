/-
  The delta of a change: what Of of delta returns.
  Conditions: as each theorem states them.
-/
import Derived.Test.YtjkkajhjcinalaaI10
namespace Go.Proofs.Ytjkkajhjcinalaa
open Go.ChangeShapes Go.WideShapes Go.ChangeAt Go.RowKit
set_option linter.unusedVariables false
set_option linter.unusedSimpArgs false
set_option maxRecDepth 100000

theorem ofd_no {m m0 m1 : Int} {del : Bool} (h : (decide (m = 1) || decide (m = 2)) = false) : ofdB m m0 m1 del = false := by unfold ofdB; rw [h]; rfl
theorem ofdC_no {m m0 m1 : Int} {del : Bool} (h : ofdB m m0 m1 del = false) : ofdC m m0 m1 del = dl0 := by unfold ofdC; rw [h]; rfl
theorem one_bag (x : Int) : Bag [(x, 1)] := ⟨List.pairwise_singleton _ _, fun r hr => by simp at hr; subst hr; exact Int.le_refl _, by show (1 : Int) + 0 ≤ 1099511627776; decide⟩
theorem bagOf_one (x : Int) : bagOf [x] = [(x, 1)] := rfl
theorem nt_one (x : Int) : Nt 1 x [(x, 1)] [] := ⟨one_bag x, bag_nil, by simp [tot], by simp [wsum], by unfold apt; rw [com_nilR]; rfl⟩
/-- The delta of a change that comes. -/
def of1 (m m0 m1 : Int) : Dl := ⟨1, m0, if m = 2 then m1 else 0, [(m0, 1)], if m = 2 then [(m1, 1)] else [], [], []⟩
theorem of1_good {m m0 m1 : Int} (hm : m = 1 ∨ m = 2) : DG m (of1 m m0 m1) := by
  refine ⟨nt_one m0, ?_⟩
  rcases hm with rfl | rfl
  · exact .inl ⟨rfl, rfl, rfl, rfl⟩
  · exact .inr ⟨rfl, nt_one m1⟩
theorem ofd_come {m m0 m1 : Int} (hm : m = 1 ∨ m = 2) : ofdB m m0 m1 false = true ∧ ofdC m m0 m1 false = of1 m m0 m1 := by
  have h : ofdB m m0 m1 false = true := by unfold ofdB; rcases hm with rfl | rfl <;> rfl
  refine ⟨h, ?_⟩
  unfold ofdC; rw [h]; rfl
theorem ofd_go {m m0 m1 : Int} (hm : m = 1 ∨ m = 2) : dnB m (of1 m m0 m1) = ofdB m m0 m1 true ∧ dnC m (of1 m m0 m1) = ofdC m m0 m1 true := by
  have h : dnB m (of1 m m0 m1) = ofdB m m0 m1 true := by
    unfold dnB ofdB
    rw [dg_yes (of1_good hm)]
    rcases hm with rfl | rfl
    · rfl
    · rfl
  refine ⟨h, ?_⟩
  unfold dnC ofdC
  rw [h]
  cases ofdB m m0 m1 true with
  | false => rfl
  | true =>
    rcases hm with rfl | rfl
    · simp [dnR, of1, ofdR]
    · simp [dnR, of1, ofdR]
theorem one_nok {x : Int} (h : I64 x) : ∀ r ∈ [(x, (1 : Int))], nok r := by
  intro r hr
  simp at hr
  subst hr
  exact ⟨h, by show I64 1; unfold I64; decide⟩
theorem of1_ok {m m0 m1 : Int} (h0 : I64 m0) (h1 : I64 m1) : okd (of1 m m0 m1) := by
  refine ⟨⟨by show I64 1; unfold I64; decide, h0, ?_⟩, ⟨one_nok h0, ?_⟩, nok_nild, nok_nild⟩
  · show I64 (if m = 2 then m1 else 0)
    split
    · exact h1
    · exact calc.i64_0
  · show ∀ r ∈ (if m = 2 then [(m1, 1)] else []), nok r
    split
    · exact one_nok h1
    · exact nok_nild
theorem of1_sh (m m0 m1 : Int) : shd (of1 m m0 m1) := by
  refine ⟨⟨by show (1 : Nat) ≤ 1000; decide, ?_⟩, by show (0 : Nat) ≤ 1000; decide, by show (0 : Nat) ≤ 1000; decide⟩
  show (if m = 2 then [(m1, (1 : Int))] else []).length ≤ 1000
  split
  · show (1 : Nat) ≤ 1000; decide
  · show (0 : Nat) ≤ 1000; decide
theorem irow_1 (w : World) (x : Int) (N : Nat) (hN : w.heap.size = N) (t : TypeId) : IRow .i64 (w.alloc (.cells #[.int .i64 x] t)) (some ⟨N, 0, none⟩) 1 1 [x] := by
  refine ⟨rfl, Nat.le_refl _, by decide, (fun h => by cases h), fun _ => ⟨N, 0, rfl, by simp; omega, fun j hj => ?_⟩⟩
  have hj0 : j = 0 := by simp at hj; exact hj
  subst hj0
  have h := hnew (w := w) (o := .cells #[.int .i64 x] t) hN
  simp [World.cell?, h]

set_option maxHeartbeats 32000000 in
theorem dof_m (m m0 m1 x0 x1 x2 x3 : Int) (del : Bool) (D : Dl) (v : Bool) (w : World) (i0 : I64 m0) (i1 : I64 m1) (hC : Hid (ofdC m m0 m1 del = D)) (hv : Hid (ofdB m m0 m1 del = v)) :
    Calls Try.prog 32 #[.int .i64 m, (.agg #[.bool del, .int .u8 x0, .int .u8 x1, .int .u8 x2, .int .u8 x3, .int .i64 m0, .int .i64 m1])] w fun e w' => (∃ r0 r1 r2 r3 r4 r5 r6 r7 r8 r9 r10 r11, e = .returned (.tuple #[(.agg #[.int .i64 D.n, .int .i64 D.s0, .int .i64 D.s1, .slice r0 r1 r2, .slice r3 r4 r5, .slice r6 r7 r8, .slice r9 r10 r11]), .bool v]) ∧ DW w' r0 r1 r2 r3 r4 r5 r6 r7 r8 r9 r10 r11 D ∧ DF w r0 r1 r2 r3 r4 r5 r6 r7 r8 r9 r10 r11) ∧ Below w.heap.size w w' := by
  have KK := hid (two_new w (.cells #[.bool del, .int .u8 x0, .int .u8 x1, .int .u8 x2, .int .u8 x3, .int .i64 m0, .int .i64 m1] 76) (.cells #[.int .i64 0, .int .i64 0, .int .i64 0, .slice none 0 0, .slice none 0 0, .slice none 0 0, .slice none 0 0] 68))
  have HI := hid (And.intro i0 i1)
  clear i0 i1
  cases hm : (decide (m = 1) || decide (m = 2)) with
  | false =>
    have HM := hid hm
    have HZ := hid (And.intro (hC.out.symm.trans (ofdC_no (ofd_no hm))) (hv.out.symm.trans (ofd_no hm)))
    clear hm
    go_enter Try.func32, Try.ntmps32
    go_upto_region 1 with fail
    generalize (w.alloc (.cells #[.bool del, .int .u8 x0, .int .u8 x1, .int .u8 x2, .int .u8 x3, .int .i64 m0, .int .i64 m1] 76)).alloc (.cells #[.int .i64 0, .int .i64 0, .int .i64 0, .slice none 0 0, .slice none 0 0, .slice none 0 0, .slice none 0 0] 68) = W at KK ⊢
    obtain ⟨N0, hN0⟩ : ∃ y, w.heap.size = y := ⟨_, rfl⟩
    obtain ⟨N1, hN1⟩ : ∃ y, N0 + 1 = y := ⟨_, rfl⟩
    rw [hN0, hN1] at KK
    (try rw [hN0]); (try rw [hN1])
    have HO : Hid (w.heap.size = N0 ∧ N0 < N1) := hid (by omega)
    clear hN0 hN1
    have KA := hid KK.out.1
    have KR := hid KK.out.2
    clear KK
    obtain ⟨p0, p1, p2, p3, p4, p5, p6⟩ := box_seven KA.out.2.2
    go_upto_region 2 with (go_at_call 75; refine (dmeas_m _ false _ HM).mono ?_; rintro e w1 ⟨rfl, hb⟩; replace KA := hid (KA.out.step hb); replace KR := hid (KR.out.step hb); clear hb p0 p1 p2 p3 p4 p5 p6; obtain ⟨p0, p1, p2, p3, p4, p5, p6⟩ := box_seven KA.out.2.2)
    go_wp2_with (refine wpList_store_whole rfl 68 (.tmp 4) (.tmp 12) rfl N1 (dlC 0 0 0 none 0 0 none 0 0 none 0 0 none 0 0) rfl rfl 68 _ KR.out.2.2 rfl (by show _ = some 7; exact size_dl) (dlC_one _ _ _ _ _ _ _ _ _ _ _ _ _ _ _) ?_; intro w9 hp9 hg9; have KR9 := hid (kp_at KR.out hg9 hp9); clear hp9 hg9)
    (try simp only [Exit.inBlock, Exit.then])
    show bodyPost Try.prog Try.f32 _ _ _ _
    refine bodyPost_ret (results_cell_slot (p := 4) (u := 5) rfl _ _ N1 _ (dlC 0 0 0 none 0 0 none 0 0 none 0 0 none 0 0) (0, 0) _ (.bool false) rfl rfl KR9.out.2.2 Try.underlying68 rfl (by kernel_rfl)) rfl ?_
    obtain ⟨q1, q2⟩ := HZ.out
    subst q1
    subst q2
    exact ⟨⟨none, 0, 0, none, 0, 0, none, 0, 0, none, 0, 0, rfl, dw_0 _, df_0 _⟩, KR9.out.1⟩
  | true =>
    have HM := hid hm
    have hm2 : m = 1 ∨ m = 2 := by simpa using hm
    have HM2 := hid hm2
    clear hm
    go_enter Try.func32, Try.ntmps32
    go_upto_region 1 with fail
    generalize (w.alloc (.cells #[.bool del, .int .u8 x0, .int .u8 x1, .int .u8 x2, .int .u8 x3, .int .i64 m0, .int .i64 m1] 76)).alloc (.cells #[.int .i64 0, .int .i64 0, .int .i64 0, .slice none 0 0, .slice none 0 0, .slice none 0 0, .slice none 0 0] 68) = W at KK ⊢
    obtain ⟨N0, hN0⟩ : ∃ y, w.heap.size = y := ⟨_, rfl⟩
    obtain ⟨N1, hN1⟩ : ∃ y, N0 + 1 = y := ⟨_, rfl⟩
    rw [hN0, hN1] at KK
    (try rw [hN0]); (try rw [hN1])
    have HO : Hid (w.heap.size = N0 ∧ N0 < N1) := hid (by omega)
    clear hN0 hN1
    have KA := hid KK.out.1
    have KR := hid KK.out.2
    clear KK
    obtain ⟨p0, p1, p2, p3, p4, p5, p6⟩ := box_seven KA.out.2.2
    go_upto_region 3 with (go_at_call 75; refine (dmeas_m _ true _ HM).mono ?_; rintro e w1 ⟨rfl, hb⟩; replace KA := hid (KA.out.step hb); replace KR := hid (KR.out.step hb); clear hb p0 p1 p2 p3 p4 p5 p6; obtain ⟨p0, p1, p2, p3, p4, p5, p6⟩ := box_seven KA.out.2.2)
    rename World => wj
    go_upto_region 4 with (have KZ : Hid (Kp w (wj.alloc (.cells #[.int .i64 0, .int .i64 0, .int .i64 0, .slice none 0 0, .slice none 0 0, .slice none 0 0, .slice none 0 0] 68)) wj.heap.size (.cells #[.int .i64 0, .int .i64 0, .int .i64 0, .slice none 0 0, .slice none 0 0, .slice none 0 0, .slice none 0 0] 68)) := hid (kp_new2 KR.out.1 _ _ rfl); refine wpList_store_whole rfl 68 (.tmp 6) (.tmp 13) rfl wj.heap.size (dlC 1 0 0 none 0 0 none 0 0 none 0 0 none 0 0) rfl rfl 68 _ KZ.out.2.2 rfl (by show _ = some 7; exact size_dl) (dlC_one _ _ _ _ _ _ _ _ _ _ _ _ _ _ _) ?_; intro w9 hp9 hg9; have KD := hid (kp_at KZ.out hg9 hp9); have HKD := hid (heap_lt KR.out.2.2); replace KA := hid (kp_new_gr KA.out hg9); replace KR := hid (kp_new_gr KR.out hg9); clear hp9 hg9 KZ p0 p1 p2 p3 p4 p5 p6; obtain ⟨p0, p1, p2, p3, p4, p5, p6⟩ := box_seven KA.out.2.2)
    generalize wj.heap.size = N6 at KD HKD ⊢
    have HN : Hid (w.heap.size ≤ N0 ∧ N0 < N1 ∧ N1 < N6) := hid (by have := HO.out; have := HKD.out; omega)
    rename World => W6
    rcases hm2 with rfl | rfl
    · go_wp2
      refine wp_loop_rounds 3 ?_
      rw [rounds_succ]
      have c0 := kp_cell (j := 5) (v := .int .i64 m0) KA.out rfl
      have y1 := kp_froz KD.out 1
      have z1 := kp_cell (j := 1) (v := .int .i64 0) KD.out rfl
      go_upto_region 8 with fail
      have KN : Hid (Kp w (W6.setCell ⟨N6, 1, none⟩ (.int .i64 m0)) N6 (.cells (dlC 1 m0 0 none 0 0 none 0 0 none 0 0 none 0 0) 68)) := hid (kp_set (j := 1) (v := .int .i64 m0) KD.out)
      replace KA := hid (kp_gr KA.out (set_grown W6 N6 1 (.int .i64 m0)) (by have := HN.out; omega) (by have := HN.out; omega))
      replace KR := hid (kp_gr KR.out (set_grown W6 N6 1 (.int .i64 m0)) (by have := HN.out; omega) (by have := HN.out; omega))
      clear KD y1 z1 c0
      have KD := KN
      clear KN
      generalize W6.setCell ⟨N6, 1, none⟩ (.int .i64 m0) = u0 at KA KR KD  ⊢
      have IR := hid (irow_1 u0 m0 u0.heap.size rfl 2)
      replace KA := hid (kp_alloc KA.out (.cells #[.int .i64 m0] 2))
      replace KR := hid (kp_alloc KR.out (.cells #[.int .i64 m0] 2))
      replace KD := hid (kp_alloc KD.out (.cells #[.int .i64 m0] 2))
      go_upto_region 9 with (go_at_call 56; refine (of_n _ _ _ 1 [m0] [(m0, 1)] _ IR.out (by decide) (hid (bagOf_one m0)) (hid rfl)).mono ?_; rintro e t0 ⟨⟨A0, A0c, rfl, hr, hf⟩, hb⟩; have FA0 := hid (far_up hf (heap_lt KD.out.2.2)); have WA0 := hid (far_low hf KD.out.1.size); have RA0 := hid hr; replace KA := hid (KA.out.step hb); replace KR := hid (KR.out.step hb); replace KD := hid (KD.out.step hb); clear hr hf hb; have y3 := kp_froz KD.out 3; have z3 := kp_cell (j := 3) (v := .slice none 0 0) KD.out rfl)
      have KN : Hid (Kp w (t0.setCell ⟨N6, 3, none⟩ (.slice A0 1 A0c)) N6 (.cells (dlC 1 m0 0 A0 1 A0c none 0 0 none 0 0 none 0 0) 68)) := hid (kp_set (j := 3) (v := .slice A0 1 A0c) KD.out)
      replace KA := hid (kp_gr KA.out (set_grown t0 N6 3 (.slice A0 1 A0c)) (by have := HN.out; omega) (by have := HN.out; omega))
      replace KR := hid (kp_gr KR.out (set_grown t0 N6 3 (.slice A0 1 A0c)) (by have := HN.out; omega) (by have := HN.out; omega))
      replace RA0 := hid (RA0.out.grown (set_grown t0 N6 3 (.slice A0 1 A0c)) (fun b off e => by have := FA0.out b off e; omega))
      clear KD y3 z3 IR
      have KD := KN
      clear KN
      generalize t0.setCell ⟨N6, 3, none⟩ (.slice A0 1 A0c) = v0 at KA KR KD RA0 ⊢
      go_wp2
      rw [rounds_succ]
      have d0 := kp_cell (j := 0) (v := .bool del) KA.out rfl
      obtain ⟨y0, y1, y2, y3, y4, y5, y6⟩ := box_seven KD.out.2.2
      cases del with
      | false =>
        go_wp2_with (refine wpList_store_whole rfl 68 (.tmp 4) (.tmp 42) rfl N1 (dlC 1 m0 0 A0 1 A0c none 0 0 none 0 0 none 0 0) rfl rfl 68 _ KR.out.2.2 rfl (by show _ = some 7; exact size_dl) (dlC_one _ _ _ _ _ _ _ _ _ _ _ _ _ _ _) ?_; intro w9 hp9 hg9; have KR9 := hid (kp_at KR.out hg9 hp9); replace RA0 := hid (RA0.out.grown hg9 (fun b off e => by have := FA0.out b off e; have := HN.out; omega)); clear hp9 hg9)
        (try simp only [Exit.inBlock, Exit.then])
        show bodyPost Try.prog Try.f32 _ _ _ _
        refine bodyPost_ret (results_cell_slot (p := 4) (u := 5) rfl _ _ N1 _ (dlC 1 m0 0 A0 1 A0c none 0 0 none 0 0 none 0 0) (0, 0) _ (.bool true) rfl rfl KR9.out.2.2 Try.underlying68 rfl (by kernel_rfl)) rfl ?_
        have vd := hC.out.symm.trans (ofd_come (m0 := m0) (m1 := m1) (.inl rfl)).2
        have vv := hv.out.symm.trans (ofd_come (m0 := m0) (m1 := m1) (.inl rfl)).1
        subst vd
        subst vv
        exact ⟨⟨A0, 1, A0c, none, 0, 0, none, 0, 0, none, 0, 0, rfl, ⟨⟨RA0.out, nrun_nil _⟩, nrun_nil _, nrun_nil _⟩, ⟨⟨WA0.out, far_nil _⟩, far_nil _, far_nil _⟩⟩, KR9.out.1⟩
      | true =>
        have HC2 : Hid (dnC 1 (of1 1 m0 m1) = D) := hid ((ofd_go (m0 := m0) (m1 := m1) (.inl rfl)).2.trans hC.out)
        have HV2 : Hid (dnB 1 (of1 1 m0 m1) = v) := hid ((ofd_go (m0 := m0) (m1 := m1) (.inl rfl)).1.trans hv.out)
        have DD : Hid (DW v0 A0 1 A0c none 0 0 none 0 0 none 0 0 (of1 1 m0 m1)) := hid ⟨⟨RA0.out, nrun_nil _⟩, nrun_nil _, nrun_nil _⟩
        go_wp2_with (first
          | (go_at_call 36; refine (dneg_m 1 (of1 1 m0 m1) A0 1 A0c none 0 0 none 0 0 none 0 0 D v _ DD.out (of1_ok HI.out.1 HI.out.2) (of1_sh _ _ _) HC2 HV2).mono ?_; rintro e w7 ⟨⟨n0, n1, n2, n3, n4, n5, n6, n7, n8, n9, n10, n11, rfl, hd, hf⟩, hb⟩; have RD := hid hd; have RF := hid hf; have NB := hid (heap_lt KR.out.2.2); have RW : Hid (DF w n0 n1 n2 n3 n4 n5 n6 n7 n8 n9 n10 n11) := hid ⟨⟨far_low hf.1.1 KR.out.1.size, far_low hf.1.2 KR.out.1.size⟩, far_low hf.2.1 KR.out.1.size, far_low hf.2.2 KR.out.1.size⟩; replace KR := hid (KR.out.step hb); clear hd hf hb)
          | (refine wpList_store_whole rfl 68 (.tmp 4) (.tmp 40) rfl N1 (dlC D.n D.s0 D.s1 n0 n1 n2 n3 n4 n5 n6 n7 n8 n9 n10 n11) rfl rfl 68 _ KR.out.2.2 rfl (by show _ = some 7; exact size_dl) (dlC_one _ _ _ _ _ _ _ _ _ _ _ _ _ _ _) ?_; intro w9 hp9 hg9; have KR9 := hid (kp_at KR.out hg9 hp9); have RD9 : Hid (DW w9 n0 n1 n2 n3 n4 n5 n6 n7 n8 n9 n10 n11 D) := hid ⟨⟨RD.out.1.1.grown hg9 (fun b off e => by have := far_up RF.out.1.1 NB.out b off e; omega), RD.out.1.2.grown hg9 (fun b off e => by have := far_up RF.out.1.2 NB.out b off e; omega)⟩, RD.out.2.1.grown hg9 (fun b off e => by have := far_up RF.out.2.1 NB.out b off e; omega), RD.out.2.2.grown hg9 (fun b off e => by have := far_up RF.out.2.2 NB.out b off e; omega)⟩; clear hp9 hg9))
        (try simp only [Exit.inBlock, Exit.then])
        show bodyPost Try.prog Try.f32 _ _ _ _
        refine bodyPost_ret (results_cell_slot (p := 4) (u := 5) rfl _ _ N1 _ (dlC D.n D.s0 D.s1 n0 n1 n2 n3 n4 n5 n6 n7 n8 n9 n10 n11) (0, 0) _ (.bool v) rfl rfl KR9.out.2.2 Try.underlying68 rfl (by kernel_rfl)) rfl ?_
        exact ⟨⟨n0, n1, n2, n3, n4, n5, n6, n7, n8, n9, n10, n11, rfl, RD9.out, RW.out⟩, KR9.out.1⟩
    · go_wp2
      refine wp_loop_rounds 3 ?_
      rw [rounds_succ]
      have c0 := kp_cell (j := 5) (v := .int .i64 m0) KA.out rfl
      have y1 := kp_froz KD.out 1
      have z1 := kp_cell (j := 1) (v := .int .i64 0) KD.out rfl
      go_upto_region 8 with fail
      have KN : Hid (Kp w (W6.setCell ⟨N6, 1, none⟩ (.int .i64 m0)) N6 (.cells (dlC 1 m0 0 none 0 0 none 0 0 none 0 0 none 0 0) 68)) := hid (kp_set (j := 1) (v := .int .i64 m0) KD.out)
      replace KA := hid (kp_gr KA.out (set_grown W6 N6 1 (.int .i64 m0)) (by have := HN.out; omega) (by have := HN.out; omega))
      replace KR := hid (kp_gr KR.out (set_grown W6 N6 1 (.int .i64 m0)) (by have := HN.out; omega) (by have := HN.out; omega))
      clear KD y1 z1 c0
      have KD := KN
      clear KN
      generalize W6.setCell ⟨N6, 1, none⟩ (.int .i64 m0) = u0 at KA KR KD  ⊢
      have IR := hid (irow_1 u0 m0 u0.heap.size rfl 2)
      replace KA := hid (kp_alloc KA.out (.cells #[.int .i64 m0] 2))
      replace KR := hid (kp_alloc KR.out (.cells #[.int .i64 m0] 2))
      replace KD := hid (kp_alloc KD.out (.cells #[.int .i64 m0] 2))
      go_upto_region 9 with (go_at_call 56; refine (of_n _ _ _ 1 [m0] [(m0, 1)] _ IR.out (by decide) (hid (bagOf_one m0)) (hid rfl)).mono ?_; rintro e t0 ⟨⟨A0, A0c, rfl, hr, hf⟩, hb⟩; have FA0 := hid (far_up hf (heap_lt KD.out.2.2)); have WA0 := hid (far_low hf KD.out.1.size); have RA0 := hid hr; replace KA := hid (KA.out.step hb); replace KR := hid (KR.out.step hb); replace KD := hid (KD.out.step hb); clear hr hf hb; have y3 := kp_froz KD.out 3; have z3 := kp_cell (j := 3) (v := .slice none 0 0) KD.out rfl)
      have KN : Hid (Kp w (t0.setCell ⟨N6, 3, none⟩ (.slice A0 1 A0c)) N6 (.cells (dlC 1 m0 0 A0 1 A0c none 0 0 none 0 0 none 0 0) 68)) := hid (kp_set (j := 3) (v := .slice A0 1 A0c) KD.out)
      replace KA := hid (kp_gr KA.out (set_grown t0 N6 3 (.slice A0 1 A0c)) (by have := HN.out; omega) (by have := HN.out; omega))
      replace KR := hid (kp_gr KR.out (set_grown t0 N6 3 (.slice A0 1 A0c)) (by have := HN.out; omega) (by have := HN.out; omega))
      replace RA0 := hid (RA0.out.grown (set_grown t0 N6 3 (.slice A0 1 A0c)) (fun b off e => by have := FA0.out b off e; omega))
      clear KD y3 z3 IR
      have KD := KN
      clear KN
      generalize t0.setCell ⟨N6, 3, none⟩ (.slice A0 1 A0c) = v0 at KA KR KD RA0 ⊢
      go_wp2
      rw [rounds_succ]
      have c1 := kp_cell (j := 6) (v := .int .i64 m1) KA.out rfl
      have y1 := kp_froz KD.out 2
      have z1 := kp_cell (j := 2) (v := .int .i64 0) KD.out rfl
      go_upto_region 8 with fail
      have KN : Hid (Kp w (v0.setCell ⟨N6, 2, none⟩ (.int .i64 m1)) N6 (.cells (dlC 1 m0 m1 A0 1 A0c none 0 0 none 0 0 none 0 0) 68)) := hid (kp_set (j := 2) (v := .int .i64 m1) KD.out)
      replace KA := hid (kp_gr KA.out (set_grown v0 N6 2 (.int .i64 m1)) (by have := HN.out; omega) (by have := HN.out; omega))
      replace KR := hid (kp_gr KR.out (set_grown v0 N6 2 (.int .i64 m1)) (by have := HN.out; omega) (by have := HN.out; omega))
      replace RA0 := hid (RA0.out.grown (set_grown v0 N6 2 (.int .i64 m1)) (fun b off e => by have := FA0.out b off e; omega))
      clear KD y1 z1 c1
      have KD := KN
      clear KN
      generalize v0.setCell ⟨N6, 2, none⟩ (.int .i64 m1) = u1 at KA KR KD RA0 ⊢
      have IR := hid (irow_1 u1 m1 u1.heap.size rfl 2)
      replace KA := hid (kp_alloc KA.out (.cells #[.int .i64 m1] 2))
      replace KR := hid (kp_alloc KR.out (.cells #[.int .i64 m1] 2))
      replace KD := hid (kp_alloc KD.out (.cells #[.int .i64 m1] 2))
      replace RA0 := hid (RA0.out.below (b1alloc u1 (.cells #[.int .i64 m1] 2)))
      go_upto_region 9 with (go_at_call 56; refine (of_n _ _ _ 1 [m1] [(m1, 1)] _ IR.out (by decide) (hid (bagOf_one m1)) (hid rfl)).mono ?_; rintro e t1 ⟨⟨A1, A1c, rfl, hr, hf⟩, hb⟩; have FA1 := hid (far_up hf (heap_lt KD.out.2.2)); have WA1 := hid (far_low hf KD.out.1.size); have RA1 := hid hr; replace KA := hid (KA.out.step hb); replace KR := hid (KR.out.step hb); replace KD := hid (KD.out.step hb); replace RA0 := hid (RA0.out.below hb); clear hr hf hb; have y3 := kp_froz KD.out 4; have z3 := kp_cell (j := 4) (v := .slice none 0 0) KD.out rfl)
      have KN : Hid (Kp w (t1.setCell ⟨N6, 4, none⟩ (.slice A1 1 A1c)) N6 (.cells (dlC 1 m0 m1 A0 1 A0c A1 1 A1c none 0 0 none 0 0) 68)) := hid (kp_set (j := 4) (v := .slice A1 1 A1c) KD.out)
      replace KA := hid (kp_gr KA.out (set_grown t1 N6 4 (.slice A1 1 A1c)) (by have := HN.out; omega) (by have := HN.out; omega))
      replace KR := hid (kp_gr KR.out (set_grown t1 N6 4 (.slice A1 1 A1c)) (by have := HN.out; omega) (by have := HN.out; omega))
      replace RA0 := hid (RA0.out.grown (set_grown t1 N6 4 (.slice A1 1 A1c)) (fun b off e => by have := FA0.out b off e; omega))
      replace RA1 := hid (RA1.out.grown (set_grown t1 N6 4 (.slice A1 1 A1c)) (fun b off e => by have := FA1.out b off e; omega))
      clear KD y3 z3 IR
      have KD := KN
      clear KN
      generalize t1.setCell ⟨N6, 4, none⟩ (.slice A1 1 A1c) = v1 at KA KR KD RA0 RA1 ⊢
      go_wp2
      rw [rounds_succ]
      have d0 := kp_cell (j := 0) (v := .bool del) KA.out rfl
      obtain ⟨y0, y1, y2, y3, y4, y5, y6⟩ := box_seven KD.out.2.2
      cases del with
      | false =>
        go_wp2_with (refine wpList_store_whole rfl 68 (.tmp 4) (.tmp 42) rfl N1 (dlC 1 m0 m1 A0 1 A0c A1 1 A1c none 0 0 none 0 0) rfl rfl 68 _ KR.out.2.2 rfl (by show _ = some 7; exact size_dl) (dlC_one _ _ _ _ _ _ _ _ _ _ _ _ _ _ _) ?_; intro w9 hp9 hg9; have KR9 := hid (kp_at KR.out hg9 hp9); replace RA0 := hid (RA0.out.grown hg9 (fun b off e => by have := FA0.out b off e; have := HN.out; omega)); replace RA1 := hid (RA1.out.grown hg9 (fun b off e => by have := FA1.out b off e; have := HN.out; omega)); clear hp9 hg9)
        (try simp only [Exit.inBlock, Exit.then])
        show bodyPost Try.prog Try.f32 _ _ _ _
        refine bodyPost_ret (results_cell_slot (p := 4) (u := 5) rfl _ _ N1 _ (dlC 1 m0 m1 A0 1 A0c A1 1 A1c none 0 0 none 0 0) (0, 0) _ (.bool true) rfl rfl KR9.out.2.2 Try.underlying68 rfl (by kernel_rfl)) rfl ?_
        have vd := hC.out.symm.trans (ofd_come (m0 := m0) (m1 := m1) (.inr rfl)).2
        have vv := hv.out.symm.trans (ofd_come (m0 := m0) (m1 := m1) (.inr rfl)).1
        subst vd
        subst vv
        exact ⟨⟨A0, 1, A0c, A1, 1, A1c, none, 0, 0, none, 0, 0, rfl, ⟨⟨RA0.out, RA1.out⟩, nrun_nil _, nrun_nil _⟩, ⟨⟨WA0.out, WA1.out⟩, far_nil _, far_nil _⟩⟩, KR9.out.1⟩
      | true =>
        have HC2 : Hid (dnC 2 (of1 2 m0 m1) = D) := hid ((ofd_go (m0 := m0) (m1 := m1) (.inr rfl)).2.trans hC.out)
        have HV2 : Hid (dnB 2 (of1 2 m0 m1) = v) := hid ((ofd_go (m0 := m0) (m1 := m1) (.inr rfl)).1.trans hv.out)
        have DD : Hid (DW v1 A0 1 A0c A1 1 A1c none 0 0 none 0 0 (of1 2 m0 m1)) := hid ⟨⟨RA0.out, RA1.out⟩, nrun_nil _, nrun_nil _⟩
        go_wp2_with (first
          | (go_at_call 36; refine (dneg_m 2 (of1 2 m0 m1) A0 1 A0c A1 1 A1c none 0 0 none 0 0 D v _ DD.out (of1_ok HI.out.1 HI.out.2) (of1_sh _ _ _) HC2 HV2).mono ?_; rintro e w7 ⟨⟨n0, n1, n2, n3, n4, n5, n6, n7, n8, n9, n10, n11, rfl, hd, hf⟩, hb⟩; have RD := hid hd; have RF := hid hf; have NB := hid (heap_lt KR.out.2.2); have RW : Hid (DF w n0 n1 n2 n3 n4 n5 n6 n7 n8 n9 n10 n11) := hid ⟨⟨far_low hf.1.1 KR.out.1.size, far_low hf.1.2 KR.out.1.size⟩, far_low hf.2.1 KR.out.1.size, far_low hf.2.2 KR.out.1.size⟩; replace KR := hid (KR.out.step hb); clear hd hf hb)
          | (refine wpList_store_whole rfl 68 (.tmp 4) (.tmp 40) rfl N1 (dlC D.n D.s0 D.s1 n0 n1 n2 n3 n4 n5 n6 n7 n8 n9 n10 n11) rfl rfl 68 _ KR.out.2.2 rfl (by show _ = some 7; exact size_dl) (dlC_one _ _ _ _ _ _ _ _ _ _ _ _ _ _ _) ?_; intro w9 hp9 hg9; have KR9 := hid (kp_at KR.out hg9 hp9); have RD9 : Hid (DW w9 n0 n1 n2 n3 n4 n5 n6 n7 n8 n9 n10 n11 D) := hid ⟨⟨RD.out.1.1.grown hg9 (fun b off e => by have := far_up RF.out.1.1 NB.out b off e; omega), RD.out.1.2.grown hg9 (fun b off e => by have := far_up RF.out.1.2 NB.out b off e; omega)⟩, RD.out.2.1.grown hg9 (fun b off e => by have := far_up RF.out.2.1 NB.out b off e; omega), RD.out.2.2.grown hg9 (fun b off e => by have := far_up RF.out.2.2 NB.out b off e; omega)⟩; clear hp9 hg9))
        (try simp only [Exit.inBlock, Exit.then])
        show bodyPost Try.prog Try.f32 _ _ _ _
        refine bodyPost_ret (results_cell_slot (p := 4) (u := 5) rfl _ _ N1 _ (dlC D.n D.s0 D.s1 n0 n1 n2 n3 n4 n5 n6 n7 n8 n9 n10 n11) (0, 0) _ (.bool v) rfl rfl KR9.out.2.2 Try.underlying68 rfl (by kernel_rfl)) rfl ?_
        exact ⟨⟨n0, n1, n2, n3, n4, n5, n6, n7, n8, n9, n10, n11, rfl, RD9.out, RW.out⟩, KR9.out.1⟩

end Go.Proofs.Ytjkkajhjcinalaa

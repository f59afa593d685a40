/-
  -
  -
  -
  -
  Conditions: as each theorem states them.
-/
import Derived.Test.YtjkkajhjcinalaaQAD
import Derived.Test.YtjkkajhjcinalaaQAI
import Derived.Test.YtjkkajhjcinalaaQAM
namespace Go.Proofs.Ytjkkajhjcinalaa
open Go.ChangeShapes Go.WideShapes Go.ChangeAt Go.RowKit
set_option linter.unusedVariables false
set_option linter.unusedSimpArgs false
set_option maxRecDepth 100000

theorem ofd_no {m m0 m1 : Int} {del : Bool} (h : (decide (m = 1) || decide (m = 2)) = false) : ofdB m m0 m1 del = false := by unfold ofdB; rw [h]; rfl
theorem ofdC_no {m m0 m1 : Int} {del : Bool} (h : ofdB m m0 m1 del = false) : ofdC m m0 m1 del = dl0 := by unfold ofdC; rw [h]; rfl
theorem one_bag (x : Int) : Bag [(x, 1)] := ⟨List.pairwise_singleton _ _, fun r hr => by simp at hr; subst hr; exact Int.le_refl _, by show (1 : Int) + 0 ≤ 1099511627776; decide⟩
theorem bagOf_one (x : Int) : bagOf [x] = [(x, 1)] := rfl
theorem nt_one (x : Int) : Nt 1 x [(x, 1)] [] := ⟨one_bag x, bag_nil, by simp [tot], by simp [wsum], by unfold apt; rw [com_nilR]; rfl⟩
/-- The delta of a change that comes. -/
def of1 (m m0 m1 : Int) : Dl := ⟨1, m0, if m = 2 then m1 else 0, [(m0, 1)], if m = 2 then [(m1, 1)] else [], [], []⟩
theorem of1_good {m m0 m1 : Int} (hm : m = 1 ∨ m = 2) : DG m (of1 m m0 m1) := by
  refine ⟨nt_one m0, ?_⟩
  rcases hm with rfl | rfl
  · exact .inl ⟨rfl, rfl, rfl, rfl⟩
  · exact .inr ⟨rfl, nt_one m1⟩
theorem ofd_come {m m0 m1 : Int} (hm : m = 1 ∨ m = 2) : ofdB m m0 m1 false = true ∧ ofdC m m0 m1 false = of1 m m0 m1 := by
  have h : ofdB m m0 m1 false = true := by unfold ofdB; rcases hm with rfl | rfl <;> rfl
  refine ⟨h, ?_⟩
  unfold ofdC; rw [h]; rfl
theorem ofd_go {m m0 m1 : Int} (hm : m = 1 ∨ m = 2) : dnB m (of1 m m0 m1) = ofdB m m0 m1 true ∧ dnC m (of1 m m0 m1) = ofdC m m0 m1 true := by
  have h : dnB m (of1 m m0 m1) = ofdB m m0 m1 true := by
    unfold dnB ofdB
    rw [dg_yes (of1_good hm)]
    rcases hm with rfl | rfl
    · rfl
    · rfl
  refine ⟨h, ?_⟩
  unfold dnC ofdC
  rw [h]
  cases ofdB m m0 m1 true with
  | false => rfl
  | true =>
    rcases hm with rfl | rfl
    · simp [dnR, of1, ofdR]
    · simp [dnR, of1, ofdR]
theorem one_nok {x : Int} (h : I64 x) : ∀ r ∈ [(x, (1 : Int))], nok r := by
  intro r hr
  simp at hr
  subst hr
  exact ⟨h, by show I64 1; unfold I64; decide⟩
theorem of1_ok {m m0 m1 : Int} (h0 : I64 m0) (h1 : I64 m1) : okd (of1 m m0 m1) := by
  refine ⟨⟨by show I64 1; unfold I64; decide, h0, ?_⟩, ⟨one_nok h0, ?_⟩, nok_nild, nok_nild⟩
  · show I64 (if m = 2 then m1 else 0)
    split
    · exact h1
    · exact calc.i64_0
  · show ∀ r ∈ (if m = 2 then [(m1, 1)] else []), nok r
    split
    · exact one_nok h1
    · exact nok_nild
theorem of1_sh (m m0 m1 : Int) : shd (of1 m m0 m1) := by
  refine ⟨⟨by show (1 : Nat) ≤ 1000; decide, ?_⟩, by show (0 : Nat) ≤ 1000; decide, by show (0 : Nat) ≤ 1000; decide⟩
  show (if m = 2 then [(m1, (1 : Int))] else []).length ≤ 1000
  split
  · show (1 : Nat) ≤ 1000; decide
  · show (0 : Nat) ≤ 1000; decide
theorem irow_1 (w : World) (x : Int) (N : Nat) (hN : w.heap.size = N) (t : TypeId) : IRow .i64 (w.alloc (.cells #[.int .i64 x] t)) (some ⟨N, 0, none⟩) 1 1 [x] := by
  refine ⟨rfl, Nat.le_refl _, by decide, (fun h => by cases h), fun _ => ⟨N, 0, rfl, by simp; omega, fun j hj => ?_⟩⟩
  have hj0 : j = 0 := by simp at hj; exact hj
  subst hj0
  have h := hnew (w := w) (o := .cells #[.int .i64 x] t) hN
  simp [World.cell?, h]

set_option maxHeartbeats 32000000 in
theorem dof_m (m m0 m1 x0 x1 x2 x3 : Int) (del : Bool) (D : Dl) (v : Bool) (w : World) (i0 : I64 m0) (i1 : I64 m1) (hC : Hid (ofdC m m0 m1 del = D)) (hv : Hid (ofdB m m0 m1 del = v)) :
    Calls Try.prog 32 #[.int .i64 m, (.agg #[.bool del, .int .u8 x0, .int .u8 x1, .int .u8 x2, .int .u8 x3, .int .i64 m0, .int .i64 m1])] w fun e w' => (∃ r0 r1 r2 r3 r4 r5 r6 r7 r8 r9 r10 r11, e = .returned (.tuple #[(.agg #[.int .i64 D.n, .int .i64 D.s0, .int .i64 D.s1, .slice r0 r1 r2, .slice r3 r4 r5, .slice r6 r7 r8, .slice r9 r10 r11]), .bool v]) ∧ DW w' r0 r1 r2 r3 r4 r5 r6 r7 r8 r9 r10 r11 D ∧ DF w r0 r1 r2 r3 r4 r5 r6 r7 r8 r9 r10 r11) ∧ Below w.heap.size w w' := by
  have KK := hid (two_new w (.cells #[.bool del, .int .u8 x0, .int .u8 x1, .int .u8 x2, .int .u8 x3, .int .i64 m0, .int .i64 m1] 76) (.cells #[.int .i64 0, .int .i64 0, .int .i64 0, .slice none 0 0, .slice none 0 0, .slice none 0 0, .slice none 0 0] 68))
  have HI := hid (And.intro i0 i1)
  clear i0 i1
  cases hm : (decide (m = 1) || decide (m = 2)) with
  | false =>
    have HM := hid hm
    have HZ := hid (And.intro (hC.out.symm.trans (ofdC_no (ofd_no hm))) (hv.out.symm.trans (ofd_no hm)))
    clear hm
    go_enter Try.func32, Try.ntmps32
    go_upto_region 1 with fail
    generalize (w.alloc (.cells #[.bool del, .int .u8 x0, .int .u8 x1, .int .u8 x2, .int .u8 x3, .int .i64 m0, .int .i64 m1] 76)).alloc (.cells #[.int .i64 0, .int .i64 0, .int .i64 0, .slice none 0 0, .slice none 0 0, .slice none 0 0, .slice none 0 0] 68) = W at KK ⊢
    obtain ⟨N0, hN0⟩ : ∃ y, w.heap.size = y := ⟨_, rfl⟩
    obtain ⟨N1, hN1⟩ : ∃ y, N0 + 1 = y := ⟨_, rfl⟩
    rw [hN0, hN1] at KK
    (try rw [hN0]); (try rw [hN1])
    have HO : Hid (w.heap.size = N0 ∧ N0 < N1) := hid (by omega)
    clear hN0 hN1
    have KA := hid KK.out.1
    have KR := hid KK.out.2
    clear KK
    obtain ⟨p0, p1, p2, p3, p4, p5, p6⟩ := box_seven KA.out.2.2
    go_upto_region 2 with (go_at_call 75; refine (dmeas_m _ false _ HM).mono ?_; rintro e w1 ⟨rfl, hb⟩; replace KA := hid (KA.out.step hb); replace KR := hid (KR.out.step hb); clear hb p0 p1 p2 p3 p4 p5 p6; obtain ⟨p0, p1, p2, p3, p4, p5, p6⟩ := box_seven KA.out.2.2)
    go_wp2_with (refine wpList_store_whole rfl 68 (.tmp 4) (.tmp 12) rfl N1 (dlC 0 0 0 none 0 0 none 0 0 none 0 0 none 0 0) rfl rfl 68 _ KR.out.2.2 rfl (by show _ = some 7; exact size_dl) (dlC_one _ _ _ _ _ _ _ _ _ _ _ _ _ _ _) ?_; intro w9 hp9 hg9; have KR9 := hid (kp_at KR.out hg9 hp9); clear hp9 hg9)
    (try simp only [Exit.inBlock, Exit.then])
    show bodyPost Try.prog Try.f32 _ _ _ _
    refine bodyPost_ret (results_cell_slot (p := 4) (u := 5) rfl _ _ N1 _ (dlC 0 0 0 none 0 0 none 0 0 none 0 0 none 0 0) (0, 0) _ (.bool false) rfl rfl KR9.out.2.2 Try.underlying68 rfl (by kernel_rfl)) rfl ?_
    obtain ⟨q1, q2⟩ := HZ.out
    subst q1
    subst q2
    exact ⟨⟨none, 0, 0, none, 0, 0, none, 0, 0, none, 0, 0, rfl, dw_0 _, df_0 _⟩, KR9.out.1⟩
  | true =>
    have HM := hid hm
    have hm2 : m = 1 ∨ m = 2 := by simpa using hm
    have HM2 := hid hm2
    clear hm
    go_enter Try.func32, Try.ntmps32
    go_upto_region 1 with fail
    generalize (w.alloc (.cells #[.bool del, .int .u8 x0, .int .u8 x1, .int .u8 x2, .int .u8 x3, .int .i64 m0, .int .i64 m1] 76)).alloc (.cells #[.int .i64 0, .int .i64 0, .int .i64 0, .slice none 0 0, .slice none 0 0, .slice none 0 0, .slice none 0 0] 68) = W at KK ⊢
    obtain ⟨N0, hN0⟩ : ∃ y, w.heap.size = y := ⟨_, rfl⟩
    obtain ⟨N1, hN1⟩ : ∃ y, N0 + 1 = y := ⟨_, rfl⟩
    rw [hN0, hN1] at KK
    (try rw [hN0]); (try rw [hN1])
    have HO : Hid (w.heap.size = N0 ∧ N0 < N1) := hid (by omega)
    clear hN0 hN1
    have KA := hid KK.out.1
    have KR := hid KK.out.2
    clear KK
    obtain ⟨p0, p1, p2, p3, p4, p5, p6⟩ := box_seven KA.out.2.2
    go_upto_region 3 with (go_at_call 75; refine (dmeas_m _ true _ HM).mono ?_; rintro e w1 ⟨rfl, hb⟩; replace KA := hid (KA.out.step hb); replace KR := hid (KR.out.step hb); clear hb p0 p1 p2 p3 p4 p5 p6; obtain ⟨p0, p1, p2, p3, p4, p5, p6⟩ := box_seven KA.out.2.2)
    rename World => wj
    go_upto_region 4 with (have KZ : Hid (Kp w (wj.alloc (.cells #[.int .i64 0, .int .i64 0, .int .i64 0, .slice none 0 0, .slice none 0 0, .slice none 0 0, .slice none 0 0] 68)) wj.heap.size (.cells #[.int .i64 0, .int .i64 0, .int .i64 0, .slice none 0 0, .slice none 0 0, .slice none 0 0, .slice none 0 0] 68)) := hid (kp_new2 KR.out.1 _ _ rfl); refine wpList_store_whole rfl 68 (.tmp 6) (.tmp 13) rfl wj.heap.size (dlC 1 0 0 none 0 0 none 0 0 none 0 0 none 0 0) rfl rfl 68 _ KZ.out.2.2 rfl (by show _ = some 7; exact size_dl) (dlC_one _ _ _ _ _ _ _ _ _ _ _ _ _ _ _) ?_; intro w9 hp9 hg9; have KD := hid (kp_at KZ.out hg9 hp9); have HKD := hid (heap_lt KR.out.2.2); replace KA := hid (kp_new_gr KA.out hg9); replace KR := hid (kp_new_gr KR.out hg9); clear hp9 hg9 KZ p0 p1 p2 p3 p4 p5 p6; obtain ⟨p0, p1, p2, p3, p4, p5, p6⟩ := box_seven KA.out.2.2)
    generalize wj.heap.size = N6 at KD HKD ⊢
    have HN : Hid (w.heap.size ≤ N0 ∧ N0 < N1 ∧ N1 < N6) := hid (by have := HO.out; have := HKD.out; omega)
    rename World => W6
    rcases hm2 with rfl | rfl
    · go_wp2
      refine wp_loop_rounds 3 ?_
      rw [rounds_succ]
      have c0 := kp_cell (j := 5) (v := .int .i64 m0) KA.out rfl
      have y1 := kp_froz KD.out 1
      have z1 := kp_cell (j := 1) (v := .int .i64 0) KD.out rfl
      go_upto_region 8 with fail
      have KN : Hid (Kp w (W6.setCell ⟨N6, 1, none⟩ (.int .i64 m0)) N6 (.cells (dlC 1 m0 0 none 0 0 none 0 0 none 0 0 none 0 0) 68)) := hid (kp_set (j := 1) (v := .int .i64 m0) KD.out)
      replace KA := hid (kp_gr KA.out (set_grown W6 N6 1 (.int .i64 m0)) (by have := HN.out; omega) (by have := HN.out; omega))
      replace KR := hid (kp_gr KR.out (set_grown W6 N6 1 (.int .i64 m0)) (by have := HN.out; omega) (by have := HN.out; omega))
      clear KD y1 z1 c0
      have KD := KN
      clear KN
      generalize W6.setCell ⟨N6, 1, none⟩ (.int .i64 m0) = u0 at KA KR KD  ⊢
      have IR := hid (irow_1 u0 m0 u0.heap.size rfl 2)
      replace KA := hid (kp_alloc KA.out (.cells #[.int .i64 m0] 2))
      replace KR := hid (kp_alloc KR.out (.cells #[.int .i64 m0] 2))
      replace KD := hid (kp_alloc KD.out (.cells #[.int .i64 m0] 2))
      go_upto_region 9 with (go_at_call 56; refine (of_n _ _ _ 1 [m0] [(m0, 1)] _ IR.out (by decide) (hid (bagOf_one m0)) (hid rfl)).mono ?_; rintro e t0 ⟨⟨A0, A0c, rfl, hr, hf⟩, hb⟩; have FA0 := hid (far_up hf (heap_lt KD.out.2.2)); have WA0 := hid (far_low hf KD.out.1.size); have RA0 := hid hr; replace KA := hid (KA.out.step hb); replace KR := hid (KR.out.step hb); replace KD := hid (KD.out.step hb); clear hr hf hb; have y3 := kp_froz KD.out 3; have z3 := kp_cell (j := 3) (v := .slice none 0 0) KD.out rfl)
      have KN : Hid (Kp w (t0.setCell ⟨N6, 3, none⟩ (.slice A0 1 A0c)) N6 (.cells (dlC 1 m0 0 A0 1 A0c none 0 0 none 0 0 none 0 0) 68)) := hid (kp_set (j := 3) (v := .slice A0 1 A0c) KD.out)
      replace KA := hid (kp_gr KA.out (set_grown t0 N6 3 (.slice A0 1 A0c)) (by have := HN.out; omega) (by have := HN.out; omega))
      replace KR := hid (kp_gr KR.out (set_grown t0 N6 3 (.slice A0 1 A0c)) (by have := HN.out; omega) (by have := HN.out; omega))
      replace RA0 := hid (RA0.out.grown (set_grown t0 N6 3 (.slice A0 1 A0c)) (fun b off e => by have := FA0.out b off e; omega))
      clear KD y3 z3 IR
      have KD := KN
      clear KN
      generalize t0.setCell ⟨N6, 3, none⟩ (.slice A0 1 A0c) = v0 at KA KR KD RA0 ⊢
      go_wp2
      rw [rounds_succ]
      have d0 := kp_cell (j := 0) (v := .bool del) KA.out rfl
      obtain ⟨y0, y1, y2, y3, y4, y5, y6⟩ := box_seven KD.out.2.2
      cases del with
      | false =>
        go_wp2_with (refine wpList_store_whole rfl 68 (.tmp 4) (.tmp 42) rfl N1 (dlC 1 m0 0 A0 1 A0c none 0 0 none 0 0 none 0 0) rfl rfl 68 _ KR.out.2.2 rfl (by show _ = some 7; exact size_dl) (dlC_one _ _ _ _ _ _ _ _ _ _ _ _ _ _ _) ?_; intro w9 hp9 hg9; have KR9 := hid (kp_at KR.out hg9 hp9); replace RA0 := hid (RA0.out.grown hg9 (fun b off e => by have := FA0.out b off e; have := HN.out; omega)); clear hp9 hg9)
        (try simp only [Exit.inBlock, Exit.then])
        show bodyPost Try.prog Try.f32 _ _ _ _
        refine bodyPost_ret (results_cell_slot (p := 4) (u := 5) rfl _ _ N1 _ (dlC 1 m0 0 A0 1 A0c none 0 0 none 0 0 none 0 0) (0, 0) _ (.bool true) rfl rfl KR9.out.2.2 Try.underlying68 rfl (by kernel_rfl)) rfl ?_
        have vd := hC.out.symm.trans (ofd_come (m0 := m0) (m1 := m1) (.inl rfl)).2
        have vv := hv.out.symm.trans (ofd_come (m0 := m0) (m1 := m1) (.inl rfl)).1
        subst vd
        subst vv
        exact ⟨⟨A0, 1, A0c, none, 0, 0, none, 0, 0, none, 0, 0, rfl, ⟨⟨RA0.out, nrun_nil _⟩, nrun_nil _, nrun_nil _⟩, ⟨⟨WA0.out, far_nil _⟩, far_nil _, far_nil _⟩⟩, KR9.out.1⟩
      | true =>
        have HC2 : Hid (dnC 1 (of1 1 m0 m1) = D) := hid ((ofd_go (m0 := m0) (m1 := m1) (.inl rfl)).2.trans hC.out)
        have HV2 : Hid (dnB 1 (of1 1 m0 m1) = v) := hid ((ofd_go (m0 := m0) (m1 := m1) (.inl rfl)).1.trans hv.out)
        have DD : Hid (DW v0 A0 1 A0c none 0 0 none 0 0 none 0 0 (of1 1 m0 m1)) := hid ⟨⟨RA0.out, nrun_nil _⟩, nrun_nil _, nrun_nil _⟩
        go_wp2_with (first
          | (go_at_call 36; refine (dneg_m 1 (of1 1 m0 m1) A0 1 A0c none 0 0 none 0 0 none 0 0 D v _ DD.out (of1_ok HI.out.1 HI.out.2) (of1_sh _ _ _) HC2 HV2).mono ?_; rintro e w7 ⟨⟨n0, n1, n2, n3, n4, n5, n6, n7, n8, n9, n10, n11, rfl, hd, hf⟩, hb⟩; have RD := hid hd; have RF := hid hf; have NB := hid (heap_lt KR.out.2.2); have RW : Hid (DF w n0 n1 n2 n3 n4 n5 n6 n7 n8 n9 n10 n11) := hid ⟨⟨far_low hf.1.1 KR.out.1.size, far_low hf.1.2 KR.out.1.size⟩, far_low hf.2.1 KR.out.1.size, far_low hf.2.2 KR.out.1.size⟩; replace KR := hid (KR.out.step hb); clear hd hf hb)
          | (refine wpList_store_whole rfl 68 (.tmp 4) (.tmp 40) rfl N1 (dlC D.n D.s0 D.s1 n0 n1 n2 n3 n4 n5 n6 n7 n8 n9 n10 n11) rfl rfl 68 _ KR.out.2.2 rfl (by show _ = some 7; exact size_dl) (dlC_one _ _ _ _ _ _ _ _ _ _ _ _ _ _ _) ?_; intro w9 hp9 hg9; have KR9 := hid (kp_at KR.out hg9 hp9); have RD9 : Hid (DW w9 n0 n1 n2 n3 n4 n5 n6 n7 n8 n9 n10 n11 D) := hid ⟨⟨RD.out.1.1.grown hg9 (fun b off e => by have := far_up RF.out.1.1 NB.out b off e; omega), RD.out.1.2.grown hg9 (fun b off e => by have := far_up RF.out.1.2 NB.out b off e; omega)⟩, RD.out.2.1.grown hg9 (fun b off e => by have := far_up RF.out.2.1 NB.out b off e; omega), RD.out.2.2.grown hg9 (fun b off e => by have := far_up RF.out.2.2 NB.out b off e; omega)⟩; clear hp9 hg9))
        (try simp only [Exit.inBlock, Exit.then])
        show bodyPost Try.prog Try.f32 _ _ _ _
        refine bodyPost_ret (results_cell_slot (p := 4) (u := 5) rfl _ _ N1 _ (dlC D.n D.s0 D.s1 n0 n1 n2 n3 n4 n5 n6 n7 n8 n9 n10 n11) (0, 0) _ (.bool v) rfl rfl KR9.out.2.2 Try.underlying68 rfl (by kernel_rfl)) rfl ?_
        exact ⟨⟨n0, n1, n2, n3, n4, n5, n6, n7, n8, n9, n10, n11, rfl, RD9.out, RW.out⟩, KR9.out.1⟩
    · go_wp2
      refine wp_loop_rounds 3 ?_
      rw [rounds_succ]
      have c0 := kp_cell (j := 5) (v := .int .i64 m0) KA.out rfl
      have y1 := kp_froz KD.out 1
      have z1 := kp_cell (j := 1) (v := .int .i64 0) KD.out rfl
      go_upto_region 8 with fail
      have KN : Hid (Kp w (W6.setCell ⟨N6, 1, none⟩ (.int .i64 m0)) N6 (.cells (dlC 1 m0 0 none 0 0 none 0 0 none 0 0 none 0 0) 68)) := hid (kp_set (j := 1) (v := .int .i64 m0) KD.out)
      replace KA := hid (kp_gr KA.out (set_grown W6 N6 1 (.int .i64 m0)) (by have := HN.out; omega) (by have := HN.out; omega))
      replace KR := hid (kp_gr KR.out (set_grown W6 N6 1 (.int .i64 m0)) (by have := HN.out; omega) (by have := HN.out; omega))
      clear KD y1 z1 c0
      have KD := KN
      clear KN
      generalize W6.setCell ⟨N6, 1, none⟩ (.int .i64 m0) = u0 at KA KR KD  ⊢
      have IR := hid (irow_1 u0 m0 u0.heap.size rfl 2)
      replace KA := hid (kp_alloc KA.out (.cells #[.int .i64 m0] 2))
      replace KR := hid (kp_alloc KR.out (.cells #[.int .i64 m0] 2))
      replace KD := hid (kp_alloc KD.out (.cells #[.int .i64 m0] 2))
      go_upto_region 9 with (go_at_call 56; refine (of_n _ _ _ 1 [m0] [(m0, 1)] _ IR.out (by decide) (hid (bagOf_one m0)) (hid rfl)).mono ?_; rintro e t0 ⟨⟨A0, A0c, rfl, hr, hf⟩, hb⟩; have FA0 := hid (far_up hf (heap_lt KD.out.2.2)); have WA0 := hid (far_low hf KD.out.1.size); have RA0 := hid hr; replace KA := hid (KA.out.step hb); replace KR := hid (KR.out.step hb); replace KD := hid (KD.out.step hb); clear hr hf hb; have y3 := kp_froz KD.out 3; have z3 := kp_cell (j := 3) (v := .slice none 0 0) KD.out rfl)
      have KN : Hid (Kp w (t0.setCell ⟨N6, 3, none⟩ (.slice A0 1 A0c)) N6 (.cells (dlC 1 m0 0 A0 1 A0c none 0 0 none 0 0 none 0 0) 68)) := hid (kp_set (j := 3) (v := .slice A0 1 A0c) KD.out)
      replace KA := hid (kp_gr KA.out (set_grown t0 N6 3 (.slice A0 1 A0c)) (by have := HN.out; omega) (by have := HN.out; omega))
      replace KR := hid (kp_gr KR.out (set_grown t0 N6 3 (.slice A0 1 A0c)) (by have := HN.out; omega) (by have := HN.out; omega))
      replace RA0 := hid (RA0.out.grown (set_grown t0 N6 3 (.slice A0 1 A0c)) (fun b off e => by have := FA0.out b off e; omega))
      clear KD y3 z3 IR
      have KD := KN
      clear KN
      generalize t0.setCell ⟨N6, 3, none⟩ (.slice A0 1 A0c) = v0 at KA KR KD RA0 ⊢
      go_wp2
      rw [rounds_succ]
      have c1 := kp_cell (j := 6) (v := .int .i64 m1) KA.out rfl
      have y1 := kp_froz KD.out 2
      have z1 := kp_cell (j := 2) (v := .int .i64 0) KD.out rfl
      go_upto_region 8 with fail
      have KN : Hid (Kp w (v0.setCell ⟨N6, 2, none⟩ (.int .i64 m1)) N6 (.cells (dlC 1 m0 m1 A0 1 A0c none 0 0 none 0 0 none 0 0) 68)) := hid (kp_set (j := 2) (v := .int .i64 m1) KD.out)
      replace KA := hid (kp_gr KA.out (set_grown v0 N6 2 (.int .i64 m1)) (by have := HN.out; omega) (by have := HN.out; omega))
      replace KR := hid (kp_gr KR.out (set_grown v0 N6 2 (.int .i64 m1)) (by have := HN.out; omega) (by have := HN.out; omega))
      replace RA0 := hid (RA0.out.grown (set_grown v0 N6 2 (.int .i64 m1)) (fun b off e => by have := FA0.out b off e; omega))
      clear KD y1 z1 c1
      have KD := KN
      clear KN
      generalize v0.setCell ⟨N6, 2, none⟩ (.int .i64 m1) = u1 at KA KR KD RA0 ⊢
      have IR := hid (irow_1 u1 m1 u1.heap.size rfl 2)
      replace KA := hid (kp_alloc KA.out (.cells #[.int .i64 m1] 2))
      replace KR := hid (kp_alloc KR.out (.cells #[.int .i64 m1] 2))
      replace KD := hid (kp_alloc KD.out (.cells #[.int .i64 m1] 2))
      replace RA0 := hid (RA0.out.below (b1alloc u1 (.cells #[.int .i64 m1] 2)))
      go_upto_region 9 with (go_at_call 56; refine (of_n _ _ _ 1 [m1] [(m1, 1)] _ IR.out (by decide) (hid (bagOf_one m1)) (hid rfl)).mono ?_; rintro e t1 ⟨⟨A1, A1c, rfl, hr, hf⟩, hb⟩; have FA1 := hid (far_up hf (heap_lt KD.out.2.2)); have WA1 := hid (far_low hf KD.out.1.size); have RA1 := hid hr; replace KA := hid (KA.out.step hb); replace KR := hid (KR.out.step hb); replace KD := hid (KD.out.step hb); replace RA0 := hid (RA0.out.below hb); clear hr hf hb; have y3 := kp_froz KD.out 4; have z3 := kp_cell (j := 4) (v := .slice none 0 0) KD.out rfl)
      have KN : Hid (Kp w (t1.setCell ⟨N6, 4, none⟩ (.slice A1 1 A1c)) N6 (.cells (dlC 1 m0 m1 A0 1 A0c A1 1 A1c none 0 0 none 0 0) 68)) := hid (kp_set (j := 4) (v := .slice A1 1 A1c) KD.out)
      replace KA := hid (kp_gr KA.out (set_grown t1 N6 4 (.slice A1 1 A1c)) (by have := HN.out; omega) (by have := HN.out; omega))
      replace KR := hid (kp_gr KR.out (set_grown t1 N6 4 (.slice A1 1 A1c)) (by have := HN.out; omega) (by have := HN.out; omega))
      replace RA0 := hid (RA0.out.grown (set_grown t1 N6 4 (.slice A1 1 A1c)) (fun b off e => by have := FA0.out b off e; omega))
      replace RA1 := hid (RA1.out.grown (set_grown t1 N6 4 (.slice A1 1 A1c)) (fun b off e => by have := FA1.out b off e; omega))
      clear KD y3 z3 IR
      have KD := KN
      clear KN
      generalize t1.setCell ⟨N6, 4, none⟩ (.slice A1 1 A1c) = v1 at KA KR KD RA0 RA1 ⊢
      go_wp2
      rw [rounds_succ]
      have d0 := kp_cell (j := 0) (v := .bool del) KA.out rfl
      obtain ⟨y0, y1, y2, y3, y4, y5, y6⟩ := box_seven KD.out.2.2
      cases del with
      | false =>
        go_wp2_with (refine wpList_store_whole rfl 68 (.tmp 4) (.tmp 42) rfl N1 (dlC 1 m0 m1 A0 1 A0c A1 1 A1c none 0 0 none 0 0) rfl rfl 68 _ KR.out.2.2 rfl (by show _ = some 7; exact size_dl) (dlC_one _ _ _ _ _ _ _ _ _ _ _ _ _ _ _) ?_; intro w9 hp9 hg9; have KR9 := hid (kp_at KR.out hg9 hp9); replace RA0 := hid (RA0.out.grown hg9 (fun b off e => by have := FA0.out b off e; have := HN.out; omega)); replace RA1 := hid (RA1.out.grown hg9 (fun b off e => by have := FA1.out b off e; have := HN.out; omega)); clear hp9 hg9)
        (try simp only [Exit.inBlock, Exit.then])
        show bodyPost Try.prog Try.f32 _ _ _ _
        refine bodyPost_ret (results_cell_slot (p := 4) (u := 5) rfl _ _ N1 _ (dlC 1 m0 m1 A0 1 A0c A1 1 A1c none 0 0 none 0 0) (0, 0) _ (.bool true) rfl rfl KR9.out.2.2 Try.underlying68 rfl (by kernel_rfl)) rfl ?_
        have vd := hC.out.symm.trans (ofd_come (m0 := m0) (m1 := m1) (.inr rfl)).2
        have vv := hv.out.symm.trans (ofd_come (m0 := m0) (m1 := m1) (.inr rfl)).1
        subst vd
        subst vv
        exact ⟨⟨A0, 1, A0c, A1, 1, A1c, none, 0, 0, none, 0, 0, rfl, ⟨⟨RA0.out, RA1.out⟩, nrun_nil _, nrun_nil _⟩, ⟨⟨WA0.out, WA1.out⟩, far_nil _, far_nil _⟩⟩, KR9.out.1⟩
      | true =>
        have HC2 : Hid (dnC 2 (of1 2 m0 m1) = D) := hid ((ofd_go (m0 := m0) (m1 := m1) (.inr rfl)).2.trans hC.out)
        have HV2 : Hid (dnB 2 (of1 2 m0 m1) = v) := hid ((ofd_go (m0 := m0) (m1 := m1) (.inr rfl)).1.trans hv.out)
        have DD : Hid (DW v1 A0 1 A0c A1 1 A1c none 0 0 none 0 0 (of1 2 m0 m1)) := hid ⟨⟨RA0.out, RA1.out⟩, nrun_nil _, nrun_nil _⟩
        go_wp2_with (first
          | (go_at_call 36; refine (dneg_m 2 (of1 2 m0 m1) A0 1 A0c A1 1 A1c none 0 0 none 0 0 D v _ DD.out (of1_ok HI.out.1 HI.out.2) (of1_sh _ _ _) HC2 HV2).mono ?_; rintro e w7 ⟨⟨n0, n1, n2, n3, n4, n5, n6, n7, n8, n9, n10, n11, rfl, hd, hf⟩, hb⟩; have RD := hid hd; have RF := hid hf; have NB := hid (heap_lt KR.out.2.2); have RW : Hid (DF w n0 n1 n2 n3 n4 n5 n6 n7 n8 n9 n10 n11) := hid ⟨⟨far_low hf.1.1 KR.out.1.size, far_low hf.1.2 KR.out.1.size⟩, far_low hf.2.1 KR.out.1.size, far_low hf.2.2 KR.out.1.size⟩; replace KR := hid (KR.out.step hb); clear hd hf hb)
          | (refine wpList_store_whole rfl 68 (.tmp 4) (.tmp 40) rfl N1 (dlC D.n D.s0 D.s1 n0 n1 n2 n3 n4 n5 n6 n7 n8 n9 n10 n11) rfl rfl 68 _ KR.out.2.2 rfl (by show _ = some 7; exact size_dl) (dlC_one _ _ _ _ _ _ _ _ _ _ _ _ _ _ _) ?_; intro w9 hp9 hg9; have KR9 := hid (kp_at KR.out hg9 hp9); have RD9 : Hid (DW w9 n0 n1 n2 n3 n4 n5 n6 n7 n8 n9 n10 n11 D) := hid ⟨⟨RD.out.1.1.grown hg9 (fun b off e => by have := far_up RF.out.1.1 NB.out b off e; omega), RD.out.1.2.grown hg9 (fun b off e => by have := far_up RF.out.1.2 NB.out b off e; omega)⟩, RD.out.2.1.grown hg9 (fun b off e => by have := far_up RF.out.2.1 NB.out b off e; omega), RD.out.2.2.grown hg9 (fun b off e => by have := far_up RF.out.2.2 NB.out b off e; omega)⟩; clear hp9 hg9))
        (try simp only [Exit.inBlock, Exit.then])
        show bodyPost Try.prog Try.f32 _ _ _ _
        refine bodyPost_ret (results_cell_slot (p := 4) (u := 5) rfl _ _ N1 _ (dlC D.n D.s0 D.s1 n0 n1 n2 n3 n4 n5 n6 n7 n8 n9 n10 n11) (0, 0) _ (.bool v) rfl rfl KR9.out.2.2 Try.underlying68 rfl (by kernel_rfl)) rfl ?_
        exact ⟨⟨n0, n1, n2, n3, n4, n5, n6, n7, n8, n9, n10, n11, rfl, RD9.out, RW.out⟩, KR9.out.1⟩

end Go.Proofs.Ytjkkajhjcinalaa

namespace Go.Proofs.Ytjkkajhjcinalaa
open Go.ChangeShapes Go.WideShapes Go.ChangeAt Go.RowKit
set_option linter.unusedVariables false
set_option linter.unusedSimpArgs false
set_option maxRecDepth 100000

theorem dw_apart {w w1 w9 : World} {a0 : Option Addr} {a1 a2 : Nat} {a3 : Option Addr} {a4 a5 : Nat} {a6 : Option Addr} {a7 a8 : Nat} {a9 : Option Addr} {a10 a11 N : Nat} {d : Dl} (h : DW w1 a0 a1 a2 a3 a4 a5 a6 a7 a8 a9 a10 a11 d) (f : FD w a0 a1 a3 a4 a6 a7 a9 a10) (hg : w1.grownBy w9 (some N)) (hN : N < w.heap.size) : DW w9 a0 a1 a2 a3 a4 a5 a6 a7 a8 a9 a10 a11 d :=
  ⟨⟨h.1.1.apart hg (fun q b o e => by have := f.1.1 q b o e; omega), h.1.2.apart hg (fun q b o e => by have := f.1.2 q b o e; omega)⟩, h.2.1.apart hg (fun q b o e => by have := f.2.1 q b o e; omega), h.2.2.apart hg (fun q b o e => by have := f.2.2 q b o e; omega)⟩
theorem FD.mono {w w' : World} {a0 : Option Addr} {a1 : Nat} {a3 : Option Addr} {a4 : Nat} {a6 : Option Addr} {a7 : Nat} {a9 : Option Addr} {a10 : Nat} (h : FD w' a0 a1 a3 a4 a6 a7 a9 a10) (hs : w.heap.size ≤ w'.heap.size) : FD w a0 a1 a3 a4 a6 a7 a9 a10 :=
  ⟨⟨h.1.1.mono hs, h.1.2.mono hs⟩, h.2.1.mono hs, h.2.2.mono hs⟩
theorem lef_one (x : Int) : lef [(x, 1)] [] = [(x, 1)] := lef_nil _
/-- A change that comes. -/
theorem xd_come {m m0 m1 : Int} (hm : m = 1 ∨ m = 2) (k0 : I64 m0) (k1 : I64 m1) :
    xdB m 1 [(m0, 1)] (if m = 2 then [(m1, 1)] else []) [] [] = ofdB m m0 m1 false ∧ xdC m 1 [(m0, 1)] (if m = 2 then [(m1, 1)] else []) [] [] = ofdC m m0 m1 false := by
  have g0 : calc.fitB (wsum [(m0, 1)] - wsum []) = true := by
    have e : wsum [(m0, 1)] - wsum [] = m0 := by simp [wsum]
    rw [e]; exact fitB_i64 k0
  have B : xdB m 1 [(m0, 1)] (if m = 2 then [(m1, 1)] else []) [] [] = true := by
    rw [xdB_is hm (one_bag m0) bag_nil (by simp [tot]) (fun h => by rw [if_pos h]; exact ⟨one_bag m1, bag_nil, by simp [tot]⟩), g0]
    rcases hm with rfl | rfl
    · rfl
    · have e : wsum (if (2 : Int) = 2 then [(m1, (1 : Int))] else []) - wsum [] = m1 := by simp [wsum]
      rw [e, fitB_i64 k1]; rfl
  obtain ⟨e1, e2⟩ := ofd_come (m0 := m0) (m1 := m1) hm
  refine ⟨by rw [B, e1], ?_⟩
  rw [xdC_yes B, e2]
  unfold xdR of1
  rcases hm with rfl | rfl
  · simp [wsum, lef_one, lef_nil2]
  · simp [wsum, lef_one, lef_nil2]
/-- A change that goes. -/
theorem xd_go {m m0 m1 : Int} (hm : m = 1 ∨ m = 2) (k0 : I64 m0) (k1 : I64 m1) :
    xdB m (-1) [] [] [(m0, 1)] (if m = 2 then [(m1, 1)] else []) = ofdB m m0 m1 true ∧ xdC m (-1) [] [] [(m0, 1)] (if m = 2 then [(m1, 1)] else []) = ofdC m m0 m1 true := by
  have B : xdB m (-1) [] [] [(m0, 1)] (if m = 2 then [(m1, 1)] else []) = ofdB m m0 m1 true := by
    rw [xdB_is hm bag_nil (one_bag m0) (by simp [tot]) (fun h => by rw [if_pos h]; exact ⟨bag_nil, one_bag m1, by simp [tot]⟩)]
    have e : wsum [] - wsum [(m0, 1)] = -m0 := by simp [wsum]
    rw [e]
    unfold ofdB
    rcases hm with rfl | rfl
    · simp
    · have e : wsum [] - wsum (if (2 : Int) = 2 then [(m1, (1 : Int))] else []) = -m1 := by simp [wsum]
      rw [e]
      simp
  refine ⟨B, ?_⟩
  unfold xdC ofdC
  rw [B]
  cases h : ofdB m m0 m1 true with
  | false => rfl
  | true =>
    simp only [if_true]
    unfold xdR ofdR
    rcases hm with rfl | rfl
    · simp [wsum, lef_one, lef_nil2]
    · simp [wsum, lef_one, lef_nil2]
/-- The other way round. -/
theorem xd_neg {m : Int} {d : Dl} (g : DG m d) : xdB m (-d.n) d.o0 d.o1 d.i0 d.i1 = dnB m d ∧ xdC m (-d.n) d.o0 d.o1 d.i0 d.i1 = dnC m d := by
  have hm := dg_m (dg_yes g)
  obtain ⟨⟨b1, b2⟩, b3, b4⟩ := dg_bags g
  obtain ⟨⟨_, _, t0, s0, p0⟩, g2⟩ := g
  have gg : DG m d := ⟨⟨b1, b2, t0, s0, p0⟩, g2⟩
  have q0 : apt d.o0 d.i0 = true := by rw [apt_comm b2.1 b2.2.1 b1.1 b1.2.1]; exact p0
  have e0 : wsum d.o0 - wsum d.i0 = -d.s0 := by omega
  have e1 : wsum d.o1 - wsum d.i1 = -d.s1 := by have := dg_s1 gg; omega
  have B : xdB m (-d.n) d.o0 d.o1 d.i0 d.i1 = dnB m d := by
    rw [xdB_is hm b2 b1 (by omega) (fun h => ⟨b4, b3, by
      rcases g2 with ⟨e, _⟩ | ⟨_, k⟩
      · omega
      · have := k.2.2.1; omega⟩), e0, e1]
    unfold dnB
    rw [dg_yes gg]
    rfl
  refine ⟨B, ?_⟩
  unfold xdC dnC
  rw [B]
  cases h : dnB m d with
  | false => rfl
  | true =>
    simp only [if_true]
    unfold xdR dnR
    rw [e0, lef_apart q0, lef_apart p0]
    rcases g2 with ⟨rfl, f1, f2, f3⟩ | ⟨rfl, k⟩
    · rw [f1, f2, f3]; simp
    · have q1 : apt d.o1 d.i1 = true := by rw [apt_comm b4.1 b4.2.1 b3.1 b3.2.1]; exact k.2.2.2.2
      rw [e1, lef_apart q1, lef_apart k.2.2.2.2]; simp
/-- Both together. -/
theorem xd_join1 {a b : Dl} (ga : DG 1 a) (gb : DG 1 b) (ti : tot a.i0 + tot b.i0 ≤ 1099511627776) (tu : tot a.o0 + tot b.o0 ≤ 1099511627776) :
    xdB 1 (a.n + b.n) (jnl a.i0 b.i0) [] (jnl a.o0 b.o0) [] = djB 1 a b ∧ xdC 1 (a.n + b.n) (jnl a.i0 b.i0) [] (jnl a.o0 b.o0) [] = djC 1 a b := by
  obtain ⟨⟨a1, a2⟩, a3, a4⟩ := dg_bags ga
  obtain ⟨⟨b1, b2⟩, b3, b4⟩ := dg_bags gb
  have B : xdB 1 (a.n + b.n) (jnl a.i0 b.i0) [] (jnl a.o0 b.o0) [] = djB 1 a b := by
    rw [xdB_is (.inl rfl) (jnl_bg a1 b1 ti) (jnl_bg a2 b2 tu) (by rw [jnl_tot, jnl_tot]; have := ga.1.2.2.1; have := gb.1.2.2.1; omega) (fun h => by cases h)]
    have e0 : wsum (jnl a.i0 b.i0) - wsum (jnl a.o0 b.o0) = a.s0 + b.s0 := by rw [wsum_jnl, wsum_jnl]; have := ga.1.2.2.2.1; have := gb.1.2.2.2.1; omega
    rw [e0]
    rcases ga.2 with ⟨_, x1, x2, x3⟩ | ⟨k, _⟩
    · rcases gb.2 with ⟨_, y1, y2, y3⟩ | ⟨k, _⟩
      · unfold djB
        rw [dg_yes ga, dg_yes gb, decide_eq_true ti, decide_eq_true tu, x1, x2, x3, y1, y2, y3]
        simp [tot, calc.fitB]
      · cases k
    · cases k
  refine ⟨B, ?_⟩
  unfold xdC djC
  rw [B]
  cases h : djB 1 a b with
  | false => rfl
  | true =>
    simp only [if_true]
    have e0 : wsum (jnl a.i0 b.i0) - wsum (jnl a.o0 b.o0) = a.s0 + b.s0 := by rw [wsum_jnl, wsum_jnl]; have := ga.1.2.2.2.1; have := gb.1.2.2.2.1; omega
    unfold xdR djR
    rw [e0]
    rcases ga.2 with ⟨_, x1, x2, x3⟩ | ⟨k, _⟩
    · rcases gb.2 with ⟨_, y1, y2, y3⟩ | ⟨k, _⟩
      · rw [x1, x2, x3, y1, y2, y3]; rfl
      · cases k
    · cases k
theorem xd_join2 {a b : Dl} (ga : DG 2 a) (gb : DG 2 b) (ti : tot a.i0 + tot b.i0 ≤ 1099511627776) (tu : tot a.o0 + tot b.o0 ≤ 1099511627776) (ti1 : tot a.i1 + tot b.i1 ≤ 1099511627776) (tu1 : tot a.o1 + tot b.o1 ≤ 1099511627776) :
    xdB 2 (a.n + b.n) (jnl a.i0 b.i0) (jnl a.i1 b.i1) (jnl a.o0 b.o0) (jnl a.o1 b.o1) = djB 2 a b ∧ xdC 2 (a.n + b.n) (jnl a.i0 b.i0) (jnl a.i1 b.i1) (jnl a.o0 b.o0) (jnl a.o1 b.o1) = djC 2 a b := by
  obtain ⟨⟨a1, a2⟩, a3, a4⟩ := dg_bags ga
  obtain ⟨⟨b1, b2⟩, b3, b4⟩ := dg_bags gb
  have e0 : wsum (jnl a.i0 b.i0) - wsum (jnl a.o0 b.o0) = a.s0 + b.s0 := by rw [wsum_jnl, wsum_jnl]; have := ga.1.2.2.2.1; have := gb.1.2.2.2.1; omega
  have e1 : wsum (jnl a.i1 b.i1) - wsum (jnl a.o1 b.o1) = a.s1 + b.s1 := by rw [wsum_jnl, wsum_jnl]; have := dg_s1 ga; have := dg_s1 gb; omega
  have na : tot a.i1 - tot a.o1 = a.n := by
    rcases ga.2 with ⟨k, _⟩ | ⟨_, k⟩
    · cases k
    · exact k.2.2.1
  have nb : tot b.i1 - tot b.o1 = b.n := by
    rcases gb.2 with ⟨k, _⟩ | ⟨_, k⟩
    · cases k
    · exact k.2.2.1
  have B : xdB 2 (a.n + b.n) (jnl a.i0 b.i0) (jnl a.i1 b.i1) (jnl a.o0 b.o0) (jnl a.o1 b.o1) = djB 2 a b := by
    rw [xdB_is (.inr rfl) (jnl_bg a1 b1 ti) (jnl_bg a2 b2 tu) (by rw [jnl_tot, jnl_tot]; have := ga.1.2.2.1; have := gb.1.2.2.1; omega) (fun h => ⟨jnl_bg a3 b3 ti1, jnl_bg a4 b4 tu1, by rw [jnl_tot, jnl_tot]; omega⟩), e0, e1]
    unfold djB
    rw [dg_yes ga, dg_yes gb, decide_eq_true ti, decide_eq_true tu, decide_eq_true ti1, decide_eq_true tu1]
    simp
  refine ⟨B, ?_⟩
  unfold xdC djC
  rw [B]
  cases h : djB 2 a b with
  | false => rfl
  | true =>
    simp only [if_true]
    unfold xdR djR
    rw [e0, e1]
    simp
theorem dj_few {m : Int} {a b : Dl} (h : ¬ tot a.i0 + tot b.i0 ≤ 1099511627776 ∨ ¬ tot a.o0 + tot b.o0 ≤ 1099511627776 ∨ ¬ tot a.i1 + tot b.i1 ≤ 1099511627776 ∨ ¬ tot a.o1 + tot b.o1 ≤ 1099511627776) : djB m a b = false := djB_no (fun ⟨_, _, ⟨h1, h2⟩, ⟨h3, h4⟩, _⟩ => by
  rcases h with h | h | h | h
  · exact h h1
  · exact h h2
  · exact h h3
  · exact h h4)
end Go.Proofs.Ytjkkajhjcinalaa

namespace Go.Proofs.Ytjkkajhjcinalaa
open Go.ChangeShapes Go.WideShapes Go.ChangeAt Go.RowKit
set_option linter.unusedVariables false
set_option linter.unusedSimpArgs false
set_option maxRecDepth 100000

set_option maxHeartbeats 16000000 in
theorem rdneg_m (m : Int) (d : Dl) (a0 : Option Addr) (a1 a2 : Nat) (a3 : Option Addr) (a4 a5 : Nat) (a6 : Option Addr) (a7 a8 : Nat) (a9 : Option Addr) (a10 a11 : Nat) (D : Dl) (v : Bool) (w : World) (hw : DW w a0 a1 a2 a3 a4 a5 a6 a7 a8 a9 a10 a11 d) (hk : okd d) (hp : shd d) (hC : Hid (dnC m d = D)) (hv : Hid (dnB m d = v)) :
    Calls Try.prog 37 #[.int .i64 m, (.agg #[.int .i64 d.n, .int .i64 d.s0, .int .i64 d.s1, .slice a0 a1 a2, .slice a3 a4 a5, .slice a6 a7 a8, .slice a9 a10 a11])] w fun e w' => (∃ r0 r1 r2 r3 r4 r5 r6 r7 r8 r9 r10 r11, e = .returned (.agg #[.int .i64 D.n, .int .i64 D.s0, .int .i64 D.s1, .slice r0 r1 r2, .slice r3 r4 r5, .slice r6 r7 r8, .slice r9 r10 r11, .bool v]) ∧ DW w' r0 r1 r2 r3 r4 r5 r6 r7 r8 r9 r10 r11 D ∧ FD w r0 r1 r3 r4 r6 r7 r9 r10) ∧ Below w.heap.size w w' := by
  have HW := hid hw
  have HK := hid hk
  have HP := hid hp
  have KA := hid (kp_alloc (kp_new w (.cells #[.int .i64 d.n, .int .i64 d.s0, .int .i64 d.s1, .slice a0 a1 a2, .slice a3 a4 a5, .slice a6 a7 a8, .slice a9 a10 a11] 68)) (.cells #[.int .i64 0, .int .i64 0, .int .i64 0, .slice none 0 0, .slice none 0 0, .slice none 0 0, .slice none 0 0, .bool false] 78))
  have KR := hid (kp_new2 (b1alloc w (.cells #[.int .i64 d.n, .int .i64 d.s0, .int .i64 d.s1, .slice a0 a1 a2, .slice a3 a4 a5, .slice a6 a7 a8, .slice a9 a10 a11] 68)) (.cells #[.int .i64 0, .int .i64 0, .int .i64 0, .slice none 0 0, .slice none 0 0, .slice none 0 0, .slice none 0 0, .bool false] 78) (w.heap.size + 1) (by simp))
  obtain ⟨N1, hN1⟩ : ∃ y, w.heap.size + 1 = y := ⟨_, rfl⟩
  rw [hN1] at KR
  obtain ⟨g, hg⟩ : ∃ y, dg m d = y := ⟨_, rfl⟩
  have GV := hid hg
  clear hw hk hp hg
  cases g with
  | false =>
    have e0 := hid (dn_a GV.out)
    have HZ := hid (And.intro (hC.out.symm.trans (dnC_no e0.out)) (hv.out.symm.trans e0.out))
    go_enter Try.func37, Try.ntmps37
    go_upto_region 1 with fail
    generalize (w.alloc (.cells #[.int .i64 d.n, .int .i64 d.s0, .int .i64 d.s1, .slice a0 a1 a2, .slice a3 a4 a5, .slice a6 a7 a8, .slice a9 a10 a11] 68)).alloc (.cells #[.int .i64 0, .int .i64 0, .int .i64 0, .slice none 0 0, .slice none 0 0, .slice none 0 0, .slice none 0 0, .bool false] 78) = W at KA KR ⊢
    (try rw [hN1])
    clear hN1
    obtain ⟨p0, p1, p2, p3, p4, p5, p6⟩ := box_seven KA.out.2.2
    go_wp2_with (first
      | (go_at_call 39; refine (rdgood_m m d a0 a1 a2 a3 a4 a5 a6 a7 a8 a9 a10 a11 false _ (HW.out.below KA.out.1) HK.out GV).mono ?_; rintro e w1 ⟨rfl, hb⟩; replace KA := hid (KA.out.step hb); replace KR := hid (KR.out.step hb); clear hb p0 p1 p2 p3 p4 p5 p6; obtain ⟨p0, p1, p2, p3, p4, p5, p6⟩ := box_seven KA.out.2.2)
      | (refine wpList_store_whole rfl 78 (.tmp 4) (.tmp 9) rfl N1 (rdC 0 0 0 none 0 0 none 0 0 none 0 0 none 0 0 false) rfl rfl 78 _ KR.out.2.2 rfl (by show _ = some 8; exact size_rd) (rdC_one _ _ _ _ _ _ _ _ _ _ _ _ _ _ _ _) ?_; intro w9 hp9 hg9; have KR9 := hid (kp_at KR.out hg9 hp9); clear hp9 hg9))
    (try simp only [Exit.inBlock, Exit.then])
    show bodyPost Try.prog Try.f37 _ _ _ _
    refine bodyPost_ret (results_cell_row (p := 4) rfl _ _ N1 _ (rdC 0 0 0 none 0 0 none 0 0 none 0 0 none 0 0 false) (0, 0) _ rfl KR9.out.2.2 Try.underlying78 rfl (by kernel_rfl)) rfl ?_
    obtain ⟨z1, z2⟩ := HZ.out
    subst z1
    subst z2
    exact ⟨⟨none, 0, 0, none, 0, 0, none, 0, 0, none, 0, 0, rfl, dw_0 _, fd_0 _⟩, KR9.out.1⟩
  | true =>
    have GD := hid (dg_iff.1 GV.out)
    have XE := hid (xd_neg GD.out)
    have XC : Hid (xdC m (-d.n) d.o0 d.o1 d.i0 d.i1 = D) := hid (XE.out.2.trans hC.out)
    have XB : Hid (xdB m (-d.n) d.o0 d.o1 d.i0 d.i1 = v) := hid (XE.out.1.trans hv.out)
    have BB := hid (dg_bags GD.out)
    have hm := dg_m GV.out
    have HM := hid hm
    have nb := dg_n GD.out
    obtain ⟨nb1, nb2⟩ := nb
    have hwn : IntKind.i64.wrap (-d.n) = -d.n := IntWalk.i64_in _ (by omega)
    have OX : Hid (okd ⟨-d.n, 0, 0, d.o0, d.o1, d.i0, d.i1⟩) := hid ⟨⟨by show I64 (-d.n); unfold I64; omega, calc.i64_0, calc.i64_0⟩, HK.out.2.2, HK.out.2.1⟩
    clear hm
    go_enter Try.func37, Try.ntmps37
    go_upto_region 1 with fail
    generalize (w.alloc (.cells #[.int .i64 d.n, .int .i64 d.s0, .int .i64 d.s1, .slice a0 a1 a2, .slice a3 a4 a5, .slice a6 a7 a8, .slice a9 a10 a11] 68)).alloc (.cells #[.int .i64 0, .int .i64 0, .int .i64 0, .slice none 0 0, .slice none 0 0, .slice none 0 0, .slice none 0 0, .bool false] 78) = W at KA KR ⊢
    (try rw [hN1])
    clear hN1
    obtain ⟨p0, p1, p2, p3, p4, p5, p6⟩ := box_seven KA.out.2.2
    go_upto_region 3 with (go_at_call 39; refine (rdgood_m m d a0 a1 a2 a3 a4 a5 a6 a7 a8 a9 a10 a11 true _ (HW.out.below KA.out.1) HK.out GV).mono ?_; rintro e w1 ⟨rfl, hb⟩; replace KA := hid (KA.out.step hb); replace KR := hid (KR.out.step hb); clear hb p0 p1 p2 p3 p4 p5 p6; obtain ⟨p0, p1, p2, p3, p4, p5, p6⟩ := box_seven KA.out.2.2)
    have LT := hid (heap_lt KR.out.2.2)
    have SZ := hid KA.out.1.size
    go_wp2_with (first
      | (go_at_call 76; refine (rmade_m m ⟨-d.n, 0, 0, d.o0, d.o1, d.i0, d.i1⟩ a6 a7 a8 a9 a10 a11 a0 a1 a2 a3 a4 a5 D v _ ⟨(HW.out.below KA.out.1).2, (HW.out.below KA.out.1).1⟩ OX.out ⟨⟨BB.out.1.2, BB.out.1.1⟩, BB.out.2.2, BB.out.2.1⟩ ⟨HP.out.2, HP.out.1⟩ HM.out XC XB).mono ?_; rintro e w2 ⟨⟨r0, r1, r2, r3, r4, r5, r6, r7, r8, r9, r10, r11, rfl, hd, hf⟩, hb⟩; have DD := hid hd; have FF := hid hf; replace KA := hid (KA.out.step hb); replace KR := hid (KR.out.step hb); clear hd hf hb p0 p1 p2 p3 p4 p5 p6)
      | (refine wpList_store_whole rfl 78 (.tmp 4) (.tmp 18) rfl N1 (rdC D.n D.s0 D.s1 r0 r1 r2 r3 r4 r5 r6 r7 r8 r9 r10 r11 v) rfl rfl 78 _ KR.out.2.2 rfl (by show _ = some 8; exact size_rd) (rdC_one _ _ _ _ _ _ _ _ _ _ _ _ _ _ _ _) ?_; intro w9 hp9 hg9; have KR9 := hid (kp_at KR.out hg9 hp9); have D9 := hid (dw_apart DD.out FF.out hg9 LT.out); clear hp9 hg9))
    (try simp only [Exit.inBlock, Exit.then])
    show bodyPost Try.prog Try.f37 _ _ _ _
    refine bodyPost_ret (results_cell_row (p := 4) rfl _ _ N1 _ (rdC D.n D.s0 D.s1 r0 r1 r2 r3 r4 r5 r6 r7 r8 r9 r10 r11 v) (0, 0) _ rfl KR9.out.2.2 Try.underlying78 rfl (by kernel_rfl)) rfl ?_
    exact ⟨⟨r0, r1, r2, r3, r4, r5, r6, r7, r8, r9, r10, r11, rfl, D9.out, FF.out.mono SZ.out⟩, KR9.out.1⟩

set_option maxHeartbeats 32000000 in
theorem rdof_m (m m0 m1 x0 x1 x2 x3 : Int) (del : Bool) (D : Dl) (v : Bool) (w : World) (i0 : I64 m0) (i1 : I64 m1) (hC : Hid (ofdC m m0 m1 del = D)) (hv : Hid (ofdB m m0 m1 del = v)) :
    Calls Try.prog 33 #[.int .i64 m, .agg #[.bool del, .int .u8 x0, .int .u8 x1, .int .u8 x2, .int .u8 x3, .int .i64 m0, .int .i64 m1]] w fun e w' => (∃ r0 r1 r2 r3 r4 r5 r6 r7 r8 r9 r10 r11, e = .returned (.agg #[.int .i64 D.n, .int .i64 D.s0, .int .i64 D.s1, .slice r0 r1 r2, .slice r3 r4 r5, .slice r6 r7 r8, .slice r9 r10 r11, .bool v]) ∧ DW w' r0 r1 r2 r3 r4 r5 r6 r7 r8 r9 r10 r11 D ∧ FD w r0 r1 r3 r4 r6 r7 r9 r10) ∧ Below w.heap.size w w' := by
  have H0 := hid i0
  have H1 := hid i1
  have KA := hid (kp_alloc (kp_new w (.cells #[.bool del, .int .u8 x0, .int .u8 x1, .int .u8 x2, .int .u8 x3, .int .i64 m0, .int .i64 m1] 76)) (.cells #[.int .i64 0, .int .i64 0, .int .i64 0, .slice none 0 0, .slice none 0 0, .slice none 0 0, .slice none 0 0, .bool false] 78))
  have KR := hid (kp_new2 (b1alloc w (.cells #[.bool del, .int .u8 x0, .int .u8 x1, .int .u8 x2, .int .u8 x3, .int .i64 m0, .int .i64 m1] 76)) (.cells #[.int .i64 0, .int .i64 0, .int .i64 0, .slice none 0 0, .slice none 0 0, .slice none 0 0, .slice none 0 0, .bool false] 78) (w.heap.size + 1) (by simp))
  obtain ⟨N0, hN0⟩ : ∃ y, w.heap.size = y := ⟨_, rfl⟩
  obtain ⟨N1, hN1⟩ : ∃ y, w.heap.size + 1 = y := ⟨_, rfl⟩
  rw [hN1] at KR
  clear i0 i1
  by_cases hm : m = 1 ∨ m = 2
  · have q1 : decide (m < 1) = false := decide_eq_false (by omega)
    have q2 : decide (2 < m) = false := decide_eq_false (by omega)
    have m0d : decide ((0 : Int) < m) = true := decide_eq_true (by omega)
    have m0i : (0 : Int) < m := by omega
    have HM := hid hm
    rw [hN0] at KA
    have HN0 := hid hN0
    have LN := hid (show N0 < N1 by omega)
    rw [hN0] at hN1
    go_enter Try.func33, Try.ntmps33
    go_upto_region 1 with fail
    generalize (w.alloc (.cells #[.bool del, .int .u8 x0, .int .u8 x1, .int .u8 x2, .int .u8 x3, .int .i64 m0, .int .i64 m1] 76)).alloc (.cells #[.int .i64 0, .int .i64 0, .int .i64 0, .slice none 0 0, .slice none 0 0, .slice none 0 0, .slice none 0 0, .bool false] 78) = W at KA KR ⊢
    (try rw [hN1])
    clear hN1
    (try rw [hN0])
    clear hN0
    go_upto_region 3 with fail
    have LR := hid (heap_lt KR.out.2.2)
    have SZ0 := hid KA.out.1.size
    have KI := hid (kp_alloc (kp_new2 KA.out.1 (.cells #[.slice none 0 0, .slice none 0 0] 24) W.heap.size rfl) (.cells #[.slice none 0 0, .slice none 0 0] 24))
    have KO := hid (kp_new2 (bt KA.out.1 (b1alloc W (.cells #[.slice none 0 0, .slice none 0 0] 24))) (.cells #[.slice none 0 0, .slice none 0 0] 24) (W.heap.size + 1) (by simp))
    replace KA := hid (kp_alloc (kp_alloc KA.out (.cells #[.slice none 0 0, .slice none 0 0] 24)) (.cells #[.slice none 0 0, .slice none 0 0] 24))
    replace KR := hid (kp_alloc (kp_alloc KR.out (.cells #[.slice none 0 0, .slice none 0 0] 24)) (.cells #[.slice none 0 0, .slice none 0 0] 24))
    go_upto_region 4 with fail
    generalize (W.alloc (.cells #[.slice none 0 0, .slice none 0 0] 24)).alloc (.cells #[.slice none 0 0, .slice none 0 0] 24) = W2 at KI KO KA KR ⊢
    obtain ⟨N2, hN2⟩ : ∃ y, W.heap.size = y := ⟨_, rfl⟩
    obtain ⟨N3, hN3⟩ : ∃ y, N2 + 1 = y := ⟨_, rfl⟩
    rw [hN2] at KI KO LR SZ0
    rw [hN3] at KO
    (try rw [hN2]); (try rw [hN3])
    have HN : Hid (N0 < N1 ∧ N1 < N2 ∧ N2 < N3) := hid ⟨LN.out, LR.out, by omega⟩
    clear hN2 hN3
    go_upto_region 5 with fail
    cases del with
    | false =>
      go_upto_region 6 with fail
      refine wp_loop_rounds 3 ?_
      rw [rounds_succ]
      have cm := kp_cell (j := 5) (v := .int .i64 m0) KA.out rfl
      have cd := kp_cell (j := 0) (v := .bool false) KA.out rfl
      go_upto_region 9 with fail
      clear cm cd
      have LB0 := hid (heap_lt KO.out.2.2)
      have R0 : Hid (NRun (W2.alloc (.cells #[.int .i64 m0, .int .i64 1] 65)) (some ⟨W2.heap.size, 0, none⟩) 1 1 [(m0, 1)]) := hid (nrun_heap (l := [(m0, 1)]) (t := 65) (hnew rfl) (by simp))
      replace KA := hid (kp_alloc KA.out (.cells #[.int .i64 m0, .int .i64 1] 65))
      replace KR := hid (kp_alloc KR.out (.cells #[.int .i64 m0, .int .i64 1] 65))
      replace KI := hid (kp_alloc KI.out (.cells #[.int .i64 m0, .int .i64 1] 65))
      replace KO := hid (kp_alloc KO.out (.cells #[.int .i64 m0, .int .i64 1] 65))
      generalize W2.alloc (.cells #[.int .i64 m0, .int .i64 1] 65) = V0 at KA KR KI KO R0 ⊢
      obtain ⟨B0, hB0⟩ : ∃ y, W2.heap.size = y := ⟨_, rfl⟩
      rw [hB0] at R0 LB0
      (try rw [hB0])
      clear hB0
      have cd := kp_cell (j := 0) (v := .bool false) KA.out rfl
      go_upto_region 12 with fail
      clear cd
      have cz := kp_cell (j := 0) (v := .slice none 0 0) KI.out rfl
      have fz := kp_froz KI.out 0
      go_upto_region 7 with fail
      clear cz fz
      have g9 := set_grown V0 N2 0 (.slice (some ⟨B0, 0, none⟩) 1 1)
      replace KA := hid (kp_gr KA.out g9 (by have := HN.out; have := HN0.out; have := SZ0.out; omega) (by have := HN.out; have := HN0.out; have := SZ0.out; omega))
      replace KR := hid (kp_gr KR.out g9 (by have := HN.out; have := HN0.out; have := SZ0.out; omega) (by have := HN.out; have := HN0.out; have := SZ0.out; omega))
      replace KO := hid (kp_gr KO.out g9 (by have := HN.out; have := HN0.out; have := SZ0.out; omega) (by have := HN.out; have := HN0.out; have := SZ0.out; omega))
      replace R0 := hid (R0.out.apart g9 (fun _ b' o' e => by cases e; have := LB0.out; have := HN.out; omega))
      replace KI : Hid (Kp w (V0.setCell ⟨N2, 0, none⟩ (.slice (some ⟨B0, 0, none⟩) 1 1)) N2 (.cells #[.slice (some ⟨B0, 0, none⟩) 1 1, .slice none 0 0] 24)) := hid (kp_set (j := 0) (v := .slice (some ⟨B0, 0, none⟩) 1 1) KI.out)
      clear g9
      generalize V0.setCell ⟨N2, 0, none⟩ (.slice (some ⟨B0, 0, none⟩) 1 1) = U0 at KA KR KI KO R0 ⊢
      go_wp2
      rw [rounds_succ]
      rcases hm with rfl | rfl
      · skip
        have XE := xd_come (m := 1) (m0 := m0) (m1 := m1) (.inl rfl) H0.out H1.out
        have XB : Hid (xdB 1 1 [(m0, 1)] [] [] [] = v) := hid (XE.1.trans hv.out)
        have XC : Hid (xdC 1 1 [(m0, 1)] [] [] [] = D) := hid (XE.2.trans hC.out)
        clear XE
        obtain ⟨y0, y1⟩ := box_two KI.out.2.2
        obtain ⟨y2, y3⟩ := box_two KO.out.2.2
        have LT := hid (heap_lt KR.out.2.2)
        have SZ := hid KA.out.1.size
        go_wp2_with (first
          | (go_at_call 76; refine (rmade_m 1 ⟨1, 0, 0, [(m0, 1)], [], [], []⟩ (some ⟨B0, 0, none⟩) 1 1 none 0 0 none 0 0 none 0 0 D v _ ⟨⟨R0.out, nrun_nil _⟩, nrun_nil _, nrun_nil _⟩ ⟨⟨by show I64 1; unfold I64; decide, calc.i64_0, calc.i64_0⟩, ⟨one_nok H0.out, nok_nild⟩, nok_nild, nok_nild⟩ ⟨⟨one_bag m0, bag_nil⟩, bag_nil, bag_nil⟩ ⟨⟨by simp, by simp⟩, by simp, by simp⟩ (.inl rfl) XC XB).mono ?_; rintro e w2 ⟨⟨r0, r1, r2, r3, r4, r5, r6, r7, r8, r9, r10, r11, rfl, hd, hf⟩, hb⟩; have DD := hid hd; have FF := hid hf; replace KA := hid (KA.out.step hb); replace KR := hid (KR.out.step hb); clear hd hf hb y0 y1 y2 y3)
          | (refine wpList_store_whole rfl 78 (.tmp 4) (.tmp 41) rfl N1 (rdC D.n D.s0 D.s1 r0 r1 r2 r3 r4 r5 r6 r7 r8 r9 r10 r11 v) rfl rfl 78 _ KR.out.2.2 rfl (by show _ = some 8; exact size_rd) (rdC_one _ _ _ _ _ _ _ _ _ _ _ _ _ _ _ _) ?_; intro w9 hp9 hg9; have KR9 := hid (kp_at KR.out hg9 hp9); have D9 := hid (dw_apart DD.out FF.out hg9 LT.out); clear hp9 hg9))
        (try simp only [Exit.inBlock, Exit.then])
        show bodyPost Try.prog Try.f33 _ _ _ _
        refine bodyPost_ret (results_cell_row (p := 4) rfl _ _ N1 _ (rdC D.n D.s0 D.s1 r0 r1 r2 r3 r4 r5 r6 r7 r8 r9 r10 r11 v) (0, 0) _ rfl KR9.out.2.2 Try.underlying78 rfl (by kernel_rfl)) rfl ?_
        exact ⟨⟨r0, r1, r2, r3, r4, r5, r6, r7, r8, r9, r10, r11, rfl, D9.out, FF.out.mono SZ.out⟩, KR9.out.1⟩
      · skip
        have cm := kp_cell (j := 6) (v := .int .i64 m1) KA.out rfl
        have cd := kp_cell (j := 0) (v := .bool false) KA.out rfl
        go_upto_region 9 with fail
        clear cm cd
        have LB1 := hid (heap_lt KO.out.2.2)
        have R1 : Hid (NRun (U0.alloc (.cells #[.int .i64 m1, .int .i64 1] 65)) (some ⟨U0.heap.size, 0, none⟩) 1 1 [(m1, 1)]) := hid (nrun_heap (l := [(m1, 1)]) (t := 65) (hnew rfl) (by simp))
        replace KA := hid (kp_alloc KA.out (.cells #[.int .i64 m1, .int .i64 1] 65))
        replace KR := hid (kp_alloc KR.out (.cells #[.int .i64 m1, .int .i64 1] 65))
        replace KI := hid (kp_alloc KI.out (.cells #[.int .i64 m1, .int .i64 1] 65))
        replace KO := hid (kp_alloc KO.out (.cells #[.int .i64 m1, .int .i64 1] 65))
        replace R0 := hid (R0.out.below (b1alloc U0 (.cells #[.int .i64 m1, .int .i64 1] 65)))
        generalize U0.alloc (.cells #[.int .i64 m1, .int .i64 1] 65) = V1 at KA KR KI KO R0 R1 ⊢
        obtain ⟨B1, hB1⟩ : ∃ y, U0.heap.size = y := ⟨_, rfl⟩
        rw [hB1] at R1 LB1
        (try rw [hB1])
        clear hB1
        have cd := kp_cell (j := 0) (v := .bool false) KA.out rfl
        go_upto_region 12 with fail
        clear cd
        have cz := kp_cell (j := 1) (v := .slice none 0 0) KI.out rfl
        have fz := kp_froz KI.out 1
        go_upto_region 7 with fail
        clear cz fz
        have g9 := set_grown V1 N2 1 (.slice (some ⟨B1, 0, none⟩) 1 1)
        replace KA := hid (kp_gr KA.out g9 (by have := HN.out; have := HN0.out; have := SZ0.out; omega) (by have := HN.out; have := HN0.out; have := SZ0.out; omega))
        replace KR := hid (kp_gr KR.out g9 (by have := HN.out; have := HN0.out; have := SZ0.out; omega) (by have := HN.out; have := HN0.out; have := SZ0.out; omega))
        replace KO := hid (kp_gr KO.out g9 (by have := HN.out; have := HN0.out; have := SZ0.out; omega) (by have := HN.out; have := HN0.out; have := SZ0.out; omega))
        replace R0 := hid (R0.out.apart g9 (fun _ b' o' e => by cases e; have := LB0.out; have := HN.out; omega))
        replace R1 := hid (R1.out.apart g9 (fun _ b' o' e => by cases e; have := LB1.out; have := HN.out; omega))
        replace KI : Hid (Kp w (V1.setCell ⟨N2, 1, none⟩ (.slice (some ⟨B1, 0, none⟩) 1 1)) N2 (.cells #[.slice (some ⟨B0, 0, none⟩) 1 1, .slice (some ⟨B1, 0, none⟩) 1 1] 24)) := hid (kp_set (j := 1) (v := .slice (some ⟨B1, 0, none⟩) 1 1) KI.out)
        clear g9
        generalize V1.setCell ⟨N2, 1, none⟩ (.slice (some ⟨B1, 0, none⟩) 1 1) = U1 at KA KR KI KO R0 R1 ⊢
        go_wp2
        rw [rounds_succ]
        have XE := xd_come (m := 2) (m0 := m0) (m1 := m1) (.inr rfl) H0.out H1.out
        have XB : Hid (xdB 2 1 [(m0, 1)] [(m1, 1)] [] [] = v) := hid (XE.1.trans hv.out)
        have XC : Hid (xdC 2 1 [(m0, 1)] [(m1, 1)] [] [] = D) := hid (XE.2.trans hC.out)
        clear XE
        obtain ⟨y0, y1⟩ := box_two KI.out.2.2
        obtain ⟨y2, y3⟩ := box_two KO.out.2.2
        have LT := hid (heap_lt KR.out.2.2)
        have SZ := hid KA.out.1.size
        go_wp2_with (first
          | (go_at_call 76; refine (rmade_m 2 ⟨1, 0, 0, [(m0, 1)], [(m1, 1)], [], []⟩ (some ⟨B0, 0, none⟩) 1 1 (some ⟨B1, 0, none⟩) 1 1 none 0 0 none 0 0 D v _ ⟨⟨R0.out, R1.out⟩, nrun_nil _, nrun_nil _⟩ ⟨⟨by show I64 1; unfold I64; decide, calc.i64_0, calc.i64_0⟩, ⟨one_nok H0.out, one_nok H1.out⟩, nok_nild, nok_nild⟩ ⟨⟨one_bag m0, bag_nil⟩, one_bag m1, bag_nil⟩ ⟨⟨by simp, by simp⟩, by simp, by simp⟩ (.inr rfl) XC XB).mono ?_; rintro e w2 ⟨⟨r0, r1, r2, r3, r4, r5, r6, r7, r8, r9, r10, r11, rfl, hd, hf⟩, hb⟩; have DD := hid hd; have FF := hid hf; replace KA := hid (KA.out.step hb); replace KR := hid (KR.out.step hb); clear hd hf hb y0 y1 y2 y3)
          | (refine wpList_store_whole rfl 78 (.tmp 4) (.tmp 41) rfl N1 (rdC D.n D.s0 D.s1 r0 r1 r2 r3 r4 r5 r6 r7 r8 r9 r10 r11 v) rfl rfl 78 _ KR.out.2.2 rfl (by show _ = some 8; exact size_rd) (rdC_one _ _ _ _ _ _ _ _ _ _ _ _ _ _ _ _) ?_; intro w9 hp9 hg9; have KR9 := hid (kp_at KR.out hg9 hp9); have D9 := hid (dw_apart DD.out FF.out hg9 LT.out); clear hp9 hg9))
        (try simp only [Exit.inBlock, Exit.then])
        show bodyPost Try.prog Try.f33 _ _ _ _
        refine bodyPost_ret (results_cell_row (p := 4) rfl _ _ N1 _ (rdC D.n D.s0 D.s1 r0 r1 r2 r3 r4 r5 r6 r7 r8 r9 r10 r11 v) (0, 0) _ rfl KR9.out.2.2 Try.underlying78 rfl (by kernel_rfl)) rfl ?_
        exact ⟨⟨r0, r1, r2, r3, r4, r5, r6, r7, r8, r9, r10, r11, rfl, D9.out, FF.out.mono SZ.out⟩, KR9.out.1⟩
    | true =>
      go_upto_region 6 with fail
      refine wp_loop_rounds 3 ?_
      rw [rounds_succ]
      have cm := kp_cell (j := 5) (v := .int .i64 m0) KA.out rfl
      have cd := kp_cell (j := 0) (v := .bool true) KA.out rfl
      go_upto_region 9 with fail
      clear cm cd
      have LB0 := hid (heap_lt KO.out.2.2)
      have R0 : Hid (NRun (W2.alloc (.cells #[.int .i64 m0, .int .i64 1] 65)) (some ⟨W2.heap.size, 0, none⟩) 1 1 [(m0, 1)]) := hid (nrun_heap (l := [(m0, 1)]) (t := 65) (hnew rfl) (by simp))
      replace KA := hid (kp_alloc KA.out (.cells #[.int .i64 m0, .int .i64 1] 65))
      replace KR := hid (kp_alloc KR.out (.cells #[.int .i64 m0, .int .i64 1] 65))
      replace KI := hid (kp_alloc KI.out (.cells #[.int .i64 m0, .int .i64 1] 65))
      replace KO := hid (kp_alloc KO.out (.cells #[.int .i64 m0, .int .i64 1] 65))
      generalize W2.alloc (.cells #[.int .i64 m0, .int .i64 1] 65) = V0 at KA KR KI KO R0 ⊢
      obtain ⟨B0, hB0⟩ : ∃ y, W2.heap.size = y := ⟨_, rfl⟩
      rw [hB0] at R0 LB0
      (try rw [hB0])
      clear hB0
      have cd := kp_cell (j := 0) (v := .bool true) KA.out rfl
      go_upto_region 10 with fail
      clear cd
      have cz := kp_cell (j := 0) (v := .slice none 0 0) KO.out rfl
      have fz := kp_froz KO.out 0
      go_upto_region 7 with fail
      clear cz fz
      have g9 := set_grown V0 N3 0 (.slice (some ⟨B0, 0, none⟩) 1 1)
      replace KA := hid (kp_gr KA.out g9 (by have := HN.out; have := HN0.out; have := SZ0.out; omega) (by have := HN.out; have := HN0.out; have := SZ0.out; omega))
      replace KR := hid (kp_gr KR.out g9 (by have := HN.out; have := HN0.out; have := SZ0.out; omega) (by have := HN.out; have := HN0.out; have := SZ0.out; omega))
      replace KI := hid (kp_gr KI.out g9 (by have := HN.out; have := HN0.out; have := SZ0.out; omega) (by have := HN.out; have := HN0.out; have := SZ0.out; omega))
      replace R0 := hid (R0.out.apart g9 (fun _ b' o' e => by cases e; have := LB0.out; have := HN.out; omega))
      replace KO : Hid (Kp w (V0.setCell ⟨N3, 0, none⟩ (.slice (some ⟨B0, 0, none⟩) 1 1)) N3 (.cells #[.slice (some ⟨B0, 0, none⟩) 1 1, .slice none 0 0] 24)) := hid (kp_set (j := 0) (v := .slice (some ⟨B0, 0, none⟩) 1 1) KO.out)
      clear g9
      generalize V0.setCell ⟨N3, 0, none⟩ (.slice (some ⟨B0, 0, none⟩) 1 1) = U0 at KA KR KI KO R0 ⊢
      go_wp2
      rw [rounds_succ]
      rcases hm with rfl | rfl
      · skip
        have XE := xd_go (m := 1) (m0 := m0) (m1 := m1) (.inl rfl) H0.out H1.out
        have XB : Hid (xdB 1 (-1) [] [] [(m0, 1)] [] = v) := hid (XE.1.trans hv.out)
        have XC : Hid (xdC 1 (-1) [] [] [(m0, 1)] [] = D) := hid (XE.2.trans hC.out)
        clear XE
        obtain ⟨y0, y1⟩ := box_two KI.out.2.2
        obtain ⟨y2, y3⟩ := box_two KO.out.2.2
        have LT := hid (heap_lt KR.out.2.2)
        have SZ := hid KA.out.1.size
        go_wp2_with (first
          | (go_at_call 76; refine (rmade_m 1 ⟨-1, 0, 0, [], [], [(m0, 1)], []⟩ none 0 0 none 0 0 (some ⟨B0, 0, none⟩) 1 1 none 0 0 D v _ ⟨⟨nrun_nil _, nrun_nil _⟩, R0.out, nrun_nil _⟩ ⟨⟨by show I64 (-1); unfold I64; decide, calc.i64_0, calc.i64_0⟩, ⟨nok_nild, nok_nild⟩, one_nok H0.out, nok_nild⟩ ⟨⟨bag_nil, one_bag m0⟩, bag_nil, bag_nil⟩ ⟨⟨by simp, by simp⟩, by simp, by simp⟩ (.inl rfl) XC XB).mono ?_; rintro e w2 ⟨⟨r0, r1, r2, r3, r4, r5, r6, r7, r8, r9, r10, r11, rfl, hd, hf⟩, hb⟩; have DD := hid hd; have FF := hid hf; replace KA := hid (KA.out.step hb); replace KR := hid (KR.out.step hb); clear hd hf hb y0 y1 y2 y3)
          | (refine wpList_store_whole rfl 78 (.tmp 4) (.tmp 41) rfl N1 (rdC D.n D.s0 D.s1 r0 r1 r2 r3 r4 r5 r6 r7 r8 r9 r10 r11 v) rfl rfl 78 _ KR.out.2.2 rfl (by show _ = some 8; exact size_rd) (rdC_one _ _ _ _ _ _ _ _ _ _ _ _ _ _ _ _) ?_; intro w9 hp9 hg9; have KR9 := hid (kp_at KR.out hg9 hp9); have D9 := hid (dw_apart DD.out FF.out hg9 LT.out); clear hp9 hg9))
        (try simp only [Exit.inBlock, Exit.then])
        show bodyPost Try.prog Try.f33 _ _ _ _
        refine bodyPost_ret (results_cell_row (p := 4) rfl _ _ N1 _ (rdC D.n D.s0 D.s1 r0 r1 r2 r3 r4 r5 r6 r7 r8 r9 r10 r11 v) (0, 0) _ rfl KR9.out.2.2 Try.underlying78 rfl (by kernel_rfl)) rfl ?_
        exact ⟨⟨r0, r1, r2, r3, r4, r5, r6, r7, r8, r9, r10, r11, rfl, D9.out, FF.out.mono SZ.out⟩, KR9.out.1⟩
      · skip
        have cm := kp_cell (j := 6) (v := .int .i64 m1) KA.out rfl
        have cd := kp_cell (j := 0) (v := .bool true) KA.out rfl
        go_upto_region 9 with fail
        clear cm cd
        have LB1 := hid (heap_lt KO.out.2.2)
        have R1 : Hid (NRun (U0.alloc (.cells #[.int .i64 m1, .int .i64 1] 65)) (some ⟨U0.heap.size, 0, none⟩) 1 1 [(m1, 1)]) := hid (nrun_heap (l := [(m1, 1)]) (t := 65) (hnew rfl) (by simp))
        replace KA := hid (kp_alloc KA.out (.cells #[.int .i64 m1, .int .i64 1] 65))
        replace KR := hid (kp_alloc KR.out (.cells #[.int .i64 m1, .int .i64 1] 65))
        replace KI := hid (kp_alloc KI.out (.cells #[.int .i64 m1, .int .i64 1] 65))
        replace KO := hid (kp_alloc KO.out (.cells #[.int .i64 m1, .int .i64 1] 65))
        replace R0 := hid (R0.out.below (b1alloc U0 (.cells #[.int .i64 m1, .int .i64 1] 65)))
        generalize U0.alloc (.cells #[.int .i64 m1, .int .i64 1] 65) = V1 at KA KR KI KO R0 R1 ⊢
        obtain ⟨B1, hB1⟩ : ∃ y, U0.heap.size = y := ⟨_, rfl⟩
        rw [hB1] at R1 LB1
        (try rw [hB1])
        clear hB1
        have cd := kp_cell (j := 0) (v := .bool true) KA.out rfl
        go_upto_region 10 with fail
        clear cd
        have cz := kp_cell (j := 1) (v := .slice none 0 0) KO.out rfl
        have fz := kp_froz KO.out 1
        go_upto_region 7 with fail
        clear cz fz
        have g9 := set_grown V1 N3 1 (.slice (some ⟨B1, 0, none⟩) 1 1)
        replace KA := hid (kp_gr KA.out g9 (by have := HN.out; have := HN0.out; have := SZ0.out; omega) (by have := HN.out; have := HN0.out; have := SZ0.out; omega))
        replace KR := hid (kp_gr KR.out g9 (by have := HN.out; have := HN0.out; have := SZ0.out; omega) (by have := HN.out; have := HN0.out; have := SZ0.out; omega))
        replace KI := hid (kp_gr KI.out g9 (by have := HN.out; have := HN0.out; have := SZ0.out; omega) (by have := HN.out; have := HN0.out; have := SZ0.out; omega))
        replace R0 := hid (R0.out.apart g9 (fun _ b' o' e => by cases e; have := LB0.out; have := HN.out; omega))
        replace R1 := hid (R1.out.apart g9 (fun _ b' o' e => by cases e; have := LB1.out; have := HN.out; omega))
        replace KO : Hid (Kp w (V1.setCell ⟨N3, 1, none⟩ (.slice (some ⟨B1, 0, none⟩) 1 1)) N3 (.cells #[.slice (some ⟨B0, 0, none⟩) 1 1, .slice (some ⟨B1, 0, none⟩) 1 1] 24)) := hid (kp_set (j := 1) (v := .slice (some ⟨B1, 0, none⟩) 1 1) KO.out)
        clear g9
        generalize V1.setCell ⟨N3, 1, none⟩ (.slice (some ⟨B1, 0, none⟩) 1 1) = U1 at KA KR KI KO R0 R1 ⊢
        go_wp2
        rw [rounds_succ]
        have XE := xd_go (m := 2) (m0 := m0) (m1 := m1) (.inr rfl) H0.out H1.out
        have XB : Hid (xdB 2 (-1) [] [] [(m0, 1)] [(m1, 1)] = v) := hid (XE.1.trans hv.out)
        have XC : Hid (xdC 2 (-1) [] [] [(m0, 1)] [(m1, 1)] = D) := hid (XE.2.trans hC.out)
        clear XE
        obtain ⟨y0, y1⟩ := box_two KI.out.2.2
        obtain ⟨y2, y3⟩ := box_two KO.out.2.2
        have LT := hid (heap_lt KR.out.2.2)
        have SZ := hid KA.out.1.size
        go_wp2_with (first
          | (go_at_call 76; refine (rmade_m 2 ⟨-1, 0, 0, [], [], [(m0, 1)], [(m1, 1)]⟩ none 0 0 none 0 0 (some ⟨B0, 0, none⟩) 1 1 (some ⟨B1, 0, none⟩) 1 1 D v _ ⟨⟨nrun_nil _, nrun_nil _⟩, R0.out, R1.out⟩ ⟨⟨by show I64 (-1); unfold I64; decide, calc.i64_0, calc.i64_0⟩, ⟨nok_nild, nok_nild⟩, one_nok H0.out, one_nok H1.out⟩ ⟨⟨bag_nil, one_bag m0⟩, bag_nil, one_bag m1⟩ ⟨⟨by simp, by simp⟩, by simp, by simp⟩ (.inr rfl) XC XB).mono ?_; rintro e w2 ⟨⟨r0, r1, r2, r3, r4, r5, r6, r7, r8, r9, r10, r11, rfl, hd, hf⟩, hb⟩; have DD := hid hd; have FF := hid hf; replace KA := hid (KA.out.step hb); replace KR := hid (KR.out.step hb); clear hd hf hb y0 y1 y2 y3)
          | (refine wpList_store_whole rfl 78 (.tmp 4) (.tmp 41) rfl N1 (rdC D.n D.s0 D.s1 r0 r1 r2 r3 r4 r5 r6 r7 r8 r9 r10 r11 v) rfl rfl 78 _ KR.out.2.2 rfl (by show _ = some 8; exact size_rd) (rdC_one _ _ _ _ _ _ _ _ _ _ _ _ _ _ _ _) ?_; intro w9 hp9 hg9; have KR9 := hid (kp_at KR.out hg9 hp9); have D9 := hid (dw_apart DD.out FF.out hg9 LT.out); clear hp9 hg9))
        (try simp only [Exit.inBlock, Exit.then])
        show bodyPost Try.prog Try.f33 _ _ _ _
        refine bodyPost_ret (results_cell_row (p := 4) rfl _ _ N1 _ (rdC D.n D.s0 D.s1 r0 r1 r2 r3 r4 r5 r6 r7 r8 r9 r10 r11 v) (0, 0) _ rfl KR9.out.2.2 Try.underlying78 rfl (by kernel_rfl)) rfl ?_
        exact ⟨⟨r0, r1, r2, r3, r4, r5, r6, r7, r8, r9, r10, r11, rfl, D9.out, FF.out.mono SZ.out⟩, KR9.out.1⟩
  · have e0 : ofdB m m0 m1 del = false := ofd_no (by simp only [Bool.or_eq_false_iff, decide_eq_false_iff_not]; omega)
    have HZ := hid (And.intro (hC.out.symm.trans (ofdC_no e0)) (hv.out.symm.trans e0))
    clear e0
    by_cases h1 : m < 1
    · have q1 : decide (m < 1) = true := decide_eq_true h1
      clear hN0
      go_enter Try.func33, Try.ntmps33
      go_upto_region 1 with fail
      generalize (w.alloc (.cells #[.bool del, .int .u8 x0, .int .u8 x1, .int .u8 x2, .int .u8 x3, .int .i64 m0, .int .i64 m1] 76)).alloc (.cells #[.int .i64 0, .int .i64 0, .int .i64 0, .slice none 0 0, .slice none 0 0, .slice none 0 0, .slice none 0 0, .bool false] 78) = W at KA KR ⊢
      (try rw [hN1])
      clear hN1
      go_wp2_with (refine wpList_store_whole rfl 78 (.tmp 4) (.tmp 16) rfl N1 (rdC 0 0 0 none 0 0 none 0 0 none 0 0 none 0 0 false) rfl rfl 78 _ KR.out.2.2 rfl (by show _ = some 8; exact size_rd) (rdC_one _ _ _ _ _ _ _ _ _ _ _ _ _ _ _ _) ?_; intro w9 hp9 hg9; have KR9 := hid (kp_at KR.out hg9 hp9); clear hp9 hg9)
      (try simp only [Exit.inBlock, Exit.then])
      show bodyPost Try.prog Try.f33 _ _ _ _
      refine bodyPost_ret (results_cell_row (p := 4) rfl _ _ N1 _ (rdC 0 0 0 none 0 0 none 0 0 none 0 0 none 0 0 false) (0, 0) _ rfl KR9.out.2.2 Try.underlying78 rfl (by kernel_rfl)) rfl ?_
      obtain ⟨z1, z2⟩ := HZ.out
      subst z1
      subst z2
      exact ⟨⟨none, 0, 0, none, 0, 0, none, 0, 0, none, 0, 0, rfl, dw_0 _, fd_0 _⟩, KR9.out.1⟩
    · have q1 : decide (m < 1) = false := decide_eq_false h1
      have q2 : decide (2 < m) = true := decide_eq_true (by omega)
      clear hN0
      go_enter Try.func33, Try.ntmps33
      go_upto_region 1 with fail
      generalize (w.alloc (.cells #[.bool del, .int .u8 x0, .int .u8 x1, .int .u8 x2, .int .u8 x3, .int .i64 m0, .int .i64 m1] 76)).alloc (.cells #[.int .i64 0, .int .i64 0, .int .i64 0, .slice none 0 0, .slice none 0 0, .slice none 0 0, .slice none 0 0, .bool false] 78) = W at KA KR ⊢
      (try rw [hN1])
      clear hN1
      go_wp2_with (refine wpList_store_whole rfl 78 (.tmp 4) (.tmp 16) rfl N1 (rdC 0 0 0 none 0 0 none 0 0 none 0 0 none 0 0 false) rfl rfl 78 _ KR.out.2.2 rfl (by show _ = some 8; exact size_rd) (rdC_one _ _ _ _ _ _ _ _ _ _ _ _ _ _ _ _) ?_; intro w9 hp9 hg9; have KR9 := hid (kp_at KR.out hg9 hp9); clear hp9 hg9)
      (try simp only [Exit.inBlock, Exit.then])
      show bodyPost Try.prog Try.f33 _ _ _ _
      refine bodyPost_ret (results_cell_row (p := 4) rfl _ _ N1 _ (rdC 0 0 0 none 0 0 none 0 0 none 0 0 none 0 0 false) (0, 0) _ rfl KR9.out.2.2 Try.underlying78 rfl (by kernel_rfl)) rfl ?_
      obtain ⟨z1, z2⟩ := HZ.out
      subst z1
      subst z2
      exact ⟨⟨none, 0, 0, none, 0, 0, none, 0, 0, none, 0, 0, rfl, dw_0 _, fd_0 _⟩, KR9.out.1⟩

end Go.Proofs.Ytjkkajhjcinalaa

namespace Go.Proofs.Ytjkkajhjcinalaa
open Go.ChangeShapes Go.WideShapes Go.ChangeAt Go.RowKit
set_option linter.unusedVariables false
set_option linter.unusedSimpArgs false
set_option maxRecDepth 100000


set_option maxHeartbeats 8000000 in
theorem rjoin_any (a1 a2 : Option Addr) (n c m d : Nat) (l u : List Rn) (w : World) (hl : NRun w a1 n c l) (hu : NRun w a2 m d u) (hk : ∀ r ∈ l, nok r) (hk' : ∀ r ∈ u, nok r) (hn : n ≤ 1000) (hm : m ≤ 1000) :
    Calls Try.prog 67 #[.slice a1 n c, .slice a2 m d] w fun e w' => (∃ A cap, e = .returned (.agg #[.slice A (Jl l u).length cap, .bool (Jn l u)]) ∧ NRun w' A (Jl l u).length cap (Jl l u)) ∧ Below w.heap.size w w' := by
  have HL := hid hl
  have HU := hid hu
  have HK := hid hk
  have HK' := hid hk'
  obtain ⟨l1, l2⟩ := hl.lens
  obtain ⟨u1, u2⟩ := hu.lens
  have EL := hid l1
  have EU := hid u1
  have K0 := hid (kp_new w (.cells #[.slice none 0 0, .bool false] 130))
  have KN : Hid (Jn l u = false → ∀ W, NRun W none 0 0 (Jl l u) ∧ (Jl l u).length = 0) := hid (fun h W => by rw [jl_no h]; exact ⟨nrun_nil W, rfl⟩)
  clear hl hu hk hk' l1 u1
  cases hg : gd l with
  | false =>
    have HG := hid hg
    have HJ := hid (jn_no1 (b := u) hg)
    clear hg
    go_enter Try.func67, Try.ntmps67
    go_upto_region 1 with fail
    generalize w.alloc (.cells #[.slice none 0 0, .bool false] 130) = W0 at K0 ⊢
    obtain ⟨c0, c1⟩ := box_two K0.out.2.2
    go_wp2_with (first
      | (go_at_call 59; refine (rgood_m a1 n c l false _ (HL.out.below K0.out.1) HK.out HG).mono ?_; rintro e w1 ⟨rfl, hb1⟩; have K1 := hid (K0.out.step hb1); obtain ⟨d0, d1⟩ := box_two K1.out.2.2; have f0 := frozen_of_row _ w.heap.size 0 _ _ K1.out.2.2; have f1 := frozen_of_row _ w.heap.size 1 _ _ K1.out.2.2; clear hb1))
    (try simp only [Exit.inBlock, Exit.then])
    show bodyPost Try.prog Try.f67 _ _ _ _
    refine bodyPost_ret (results_cell_row (p := 4) rfl _ _ w.heap.size _ #[.slice none 0 0, .bool false] (0, 0) _ rfl (set2_heap _ _ K1.out.2.2) Try.underlying130 rfl (by kernel_rfl)) rfl ?_
    rw [HJ.out, (KN.out HJ.out w).2]
    exact ⟨⟨none, 0, rfl, (KN.out HJ.out _).1⟩, set2_below _ _ K1.out⟩
  | true =>
    have HG := hid hg
    have HB := hid (gd_iff.1 hg)
    clear hg
    cases hg' : gd u with
    | false =>
      have HG' := hid hg'
      have HJ := hid (jn_no2 (a := l) hg')
      clear hg'
      have t1 : True := trivial
      go_enter Try.func67, Try.ntmps67
      go_upto_region 1 with fail
      generalize w.alloc (.cells #[.slice none 0 0, .bool false] 130) = W0 at K0 ⊢
      obtain ⟨c0, c1⟩ := box_two K0.out.2.2
      go_wp2_with (first
        | (go_at_call 59; clear t1; refine (rgood_m a1 n c l true _ (HL.out.below K0.out.1) HK.out HG).mono ?_; rintro e w1 ⟨rfl, hb1⟩; have K1 := hid (K0.out.step hb1); clear hb1)
        | (go_at_call 59; refine (rgood_m a2 m d u false _ (HU.out.below K1.out.1) HK'.out HG').mono ?_; rintro e w2 ⟨rfl, hb2⟩; have K2 := hid (K1.out.step hb2); obtain ⟨d0, d1⟩ := box_two K2.out.2.2; have f0 := frozen_of_row _ w.heap.size 0 _ _ K2.out.2.2; have f1 := frozen_of_row _ w.heap.size 1 _ _ K2.out.2.2; clear hb2))
      (try simp only [Exit.inBlock, Exit.then])
      show bodyPost Try.prog Try.f67 _ _ _ _
      refine bodyPost_ret (results_cell_row (p := 4) rfl _ _ w.heap.size _ #[.slice none 0 0, .bool false] (0, 0) _ rfl (set2_heap _ _ K2.out.2.2) Try.underlying130 rfl (by kernel_rfl)) rfl ?_
      rw [HJ.out, (KN.out HJ.out w).2]
      exact ⟨⟨none, 0, rfl, (KN.out HJ.out _).1⟩, set2_below _ _ K2.out⟩
    | true =>
      have HG' := hid hg'
      have HB' := hid (gd_iff.1 hg')
      clear hg'
      have t1 : True := trivial
      have t2 : True := trivial
      have TA := hid (tl_yes HB.out)
      have TB := hid (tl_yes HB'.out)
      obtain ⟨ta, hta⟩ : ∃ x, tot l = x := ⟨_, rfl⟩
      obtain ⟨tb, htb⟩ : ∃ x, tot u = x := ⟨_, rfl⟩
      have ra : 0 ≤ ta ∧ ta ≤ 1099511627776 := by rw [← hta]; exact ⟨tot_nn HB.out.2.1, HB.out.2.2⟩
      have rb : 0 ≤ tb ∧ tb ≤ 1099511627776 := by rw [← htb]; exact ⟨tot_nn HB'.out.2.1, HB'.out.2.2⟩
      obtain ⟨ra1, ra2⟩ := ra
      obtain ⟨rb1, rb2⟩ := rb
      have HTA : Hid (tl l = ta) := hid (by rw [TA.out, hta])
      have HTB : Hid (tl u = tb) := hid (by rw [TB.out, htb])
      have QA := hid hta
      have QB := hid htb
      clear hta htb TA TB
      by_cases hs : 1099511627776 < ta + tb
      · have HJ := hid (jn_no3 (a := l) (b := u) (by rw [QA.out, QB.out]; exact hs))
        have hsd : decide (1099511627776 < ta + tb) = true := decide_eq_true hs
        go_enter Try.func67, Try.ntmps67
        go_upto_region 1 with fail
        generalize w.alloc (.cells #[.slice none 0 0, .bool false] 130) = W0 at K0 ⊢
        obtain ⟨c0, c1⟩ := box_two K0.out.2.2
        go_wp2_with (first
          | (go_at_call 59; clear t1; refine (rgood_m a1 n c l true _ (HL.out.below K0.out.1) HK.out HG).mono ?_; rintro e w1 ⟨rfl, hb1⟩; have K1 := hid (K0.out.step hb1); clear hb1)
          | (go_at_call 59; refine (rgood_m a2 m d u true _ (HU.out.below K1.out.1) HK'.out HG').mono ?_; rintro e w2 ⟨rfl, hb2⟩; have K2 := hid (K1.out.step hb2); clear hb2)
          | (go_at_call 60; clear t2; refine (rcount_m a1 n c l ta _ (HL.out.below K2.out.1) HK.out HTA).mono ?_; rintro e w3 ⟨rfl, hb3⟩; have K3 := hid (K2.out.step hb3); clear hb3)
          | (go_at_call 60; refine (rcount_m a2 m d u tb _ (HU.out.below K3.out.1) HK'.out HTB).mono ?_; rintro e w4 ⟨rfl, hb4⟩; have K4 := hid (K3.out.step hb4); obtain ⟨d0, d1⟩ := box_two K4.out.2.2; have f0 := frozen_of_row _ w.heap.size 0 _ _ K4.out.2.2; have f1 := frozen_of_row _ w.heap.size 1 _ _ K4.out.2.2; clear hb4))
        (try simp only [Exit.inBlock, Exit.then])
        show bodyPost Try.prog Try.f67 _ _ _ _
        refine bodyPost_ret (results_cell_row (p := 4) rfl _ _ w.heap.size _ #[.slice none 0 0, .bool false] (0, 0) _ rfl (set2_heap _ _ K4.out.2.2) Try.underlying130 rfl (by kernel_rfl)) rfl ?_
        rw [HJ.out, (KN.out HJ.out w).2]
        exact ⟨⟨none, 0, rfl, (KN.out HJ.out _).1⟩, set2_below _ _ K4.out⟩
      · have hsd : decide (1099511627776 < ta + tb) = false := decide_eq_false hs
        have HJ := hid (jn_yes HB.out HB'.out (by rw [QA.out, QB.out]; omega))
        have HS : Hid (∀ k, Sml (jnl l (u.take k))) := hid (fun k => sml_jn HB.out HB'.out (by rw [QA.out, QB.out]; omega) (by have := EL.out; omega) (by have := EU.out; omega) k)
        go_enter Try.func67, Try.ntmps67
        go_upto_region 1 with fail
        generalize w.alloc (.cells #[.slice none 0 0, .bool false] 130) = W0 at K0 ⊢
        go_upto_region 4 with (first
          | (go_at_call 59; clear t1; refine (rgood_m a1 n c l true _ (HL.out.below K0.out.1) HK.out HG).mono ?_; rintro e w1 ⟨rfl, hb1⟩; have K1 := hid (K0.out.step hb1); clear hb1)
          | (go_at_call 59; refine (rgood_m a2 m d u true _ (HU.out.below K1.out.1) HK'.out HG').mono ?_; rintro e w2 ⟨rfl, hb2⟩; have K2 := hid (K1.out.step hb2); clear hb2)
          | (go_at_call 60; clear t2; refine (rcount_m a1 n c l ta _ (HL.out.below K2.out.1) HK.out HTA).mono ?_; rintro e w3 ⟨rfl, hb3⟩; have K3 := hid (K2.out.step hb3); clear hb3)
          | (go_at_call 60; refine (rcount_m a2 m d u tb _ (HU.out.below K3.out.1) HK'.out HTB).mono ?_; rintro e w4 ⟨rfl, hb4⟩; have K4 := hid (K3.out.step hb4); clear hb4))
        have LA : Hid (0 < n → ∀ b off, a1 = some ⟨b, off, none⟩ → ¬ b = w.heap.size) := hid (fun h b off e => by obtain ⟨b', off', e', hlt, _⟩ := HL.out.2.2.2.2 h; rw [e] at e'; cases e'; omega)
        have LN := hid (HL.out.below K4.out.1)
        clear hsd ra1 ra2 rb1 rb2
        go_wp2
        go_loopw [5, 6] (fun o i wr => ∃ (k : Nat) (A : Option Addr) (q f : Nat) (out : List Rn), k ≤ m ∧ i = .int .i64 k ∧ o = .slice A q f ∧ Hid (out = jnl l (u.take k)) ∧ Hid (NRun wr A q f out) ∧ Hid (0 < q → ∀ b off, A = some ⟨b, off, none⟩ → ¬ b = w.heap.size) ∧ Hid (Kp w wr w.heap.size (.cells #[.slice none 0 0, .bool false] 130))) (fun _ i _ => m - (intOf i).toNat)
        case atStart => exact ⟨0, a1, n, c, l, by omega, rfl, rfl, hid rfl, LN, LA, K4⟩
        case round =>
          obtain ⟨k, A, q, f, out, hkn, rfl, rfl, HO, HN, HA, KW⟩ := hrel
          have hk0 : (0 : Int) ≤ (k : Int) := by omega
          have hsm : Hid (Sml out) := hid (by rw [HO.out]; exact HS.out k)
          have hq : q ≤ 1000000 := by have := HN.out.lens.1; have := hsm.out.2.2; omega
          by_cases hlt : k < m
          · have hki : (k : Int) < (m : Int) := by omega
            obtain ⟨b, off, x0, x1, rfl, hb, hr, p0, p1⟩ := HU.out.pick KW.out.1 hlt
            have HR := hid hr
            have hat := bag_at HB'.out hr
            have X1 := hat.2.1
            have X2 := hat.2.2.1
            have X3 := hat.2.2.2.1
            simp only at X1 X2
            have hx1 : x1 ≤ 1099511627776 := by omega
            have hbw : b < wr.heap.size := Nat.lt_of_lt_of_le hb KW.out.1.size
            have HM : Hid (lay x0 x1 out = jnl l (u.take (k + 1))) := hid (by rw [HO.out, jnl_step HR.out])
            clear hr hat X2 X3
            generalize jnl l (u.take (k + 1)) = M at HM
            have HM' : Hid (M = jnl l (u.take (k + 1))) := hid (by rw [← HM.out, HO.out, jnl_step HR.out])
            have KS : Hid (∀ x, Below wr.heap.size wr x → Below wr.heap.size wr x ∧ x.cell? ⟨b, off + k * 2, none⟩ = some (.int .i64 x0) ∧ x.cell? ⟨b, off + k * 2 + 1, none⟩ = some (.int .i64 x1)) := hid (fun x h => ⟨h, ((bcell h).1 _ _ hbw).trans p0, ((bcell h).1 _ _ hbw).trans p1⟩)
            clear p0 p1
            go_wp2
            go_region_held3 (fun x => Below wr.heap.size wr x ∧ x.cell? ⟨b, off + k * 2, none⟩ = some (.int .i64 x0) ∧ x.cell? ⟨b, off + k * 2 + 1, none⟩ = some (.int .i64 x1))
              (first | assumption | exact keep_drew KS | exact keep_step (by assumption) (by assumption) KS)
              (first | (go_at_call 52; refine (lay_m A q f out x0 x1 M _ (HN.out.below (And.left (by assumption))) (hid hsm.out.1) (hid hsm.out.2.1) (by omega) hq HM).mono ?_; rintro e w5 ⟨⟨A5, d5, rfl, hn5, hg5⟩, hb5⟩))
            have B5 := hid (undrew hb5)
            have N5 := hid hn5
            have A5' : Hid (0 < M.length → ∀ b off, A5 = some ⟨b, off, none⟩ → ¬ b = w.heap.size) := hid (fun _ b off e => by have h1 : wr.heap.size ≤ b := hg5 b off e; have := heap_lt KW.out.2.2; omega)
            clear hb5 hn5 hg5
            go_wp2
            go_roundw
            case rel => exact ⟨k + 1, A5, M.length, d5, M, by omega, by go_num, rfl, HM', N5, A5', hid (KW.out.step B5.out)⟩
            case measure => simp [intOf]; omega
          · have hkf : decide ((k : Int) < (m : Int)) = false := decide_eq_false (by omega)
            have HE : Hid (out = Jl l u) := hid (by rw [jl_yes HJ.out, HO.out, List.take_of_length_le (by have := EU.out; omega)])
            obtain ⟨d0, d1⟩ := box_two KW.out.2.2; have f0 := frozen_of_row _ w.heap.size 0 _ _ KW.out.2.2; have f1 := frozen_of_row _ w.heap.size 1 _ _ KW.out.2.2
            have hqq := hid HN.out.lens.1
            go_wp2
            (try simp only [Exit.inBlock, Exit.then])
            show bodyPost Try.prog Try.f67 _ _ _ _
            refine bodyPost_ret (results_cell_row (p := 4) rfl _ _ w.heap.size _ #[.slice A q f, .bool true] (0, 0) _ rfl (set2_heap _ _ KW.out.2.2) Try.underlying130 rfl (by kernel_rfl)) rfl ?_
            rw [HJ.out, ← HE.out, ← hqq.out]
            exact ⟨⟨A, f, rfl, set2_run _ _ HN.out HA.out⟩, set2_below _ _ KW.out⟩

end Go.Proofs.Ytjkkajhjcinalaa

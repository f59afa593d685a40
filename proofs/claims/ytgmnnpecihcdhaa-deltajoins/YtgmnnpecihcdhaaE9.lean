/-
  What is told of a cell: what Line of cell returns.
  Conditions: as each theorem states them.
-/
import Derived.Test.YtgmnnpecihcdhaaW9
namespace Go.Proofs.Ytgmnnpecihcdhaa
open Go.ChangeShapes Go.WideShapes Go.ChangeAt Go.RowKit
set_option linter.unusedVariables false
set_option linter.unusedSimpArgs false
set_option maxRecDepth 100000

theorem slice_arr (t a : TypeId) (N m : Nat) : True := trivial

set_option maxHeartbeats 32000000 in
theorem cline_any (m x0 x1 x2 x3 : Int) (c : Cl) (a0 : Option Addr) (p0 k0 : Nat) (a1 : Option Addr) (p1 k1 : Nat) (w : World) (hw : CW w a0 p0 k0 a1 p1 k1 c) (hk : okc c) :
    Calls Try.prog 21 #[.int .i64 m, .agg #[.int .u8 x0, .int .u8 x1, .int .u8 x2, .int .u8 x3], .agg #[.int .i64 c.n, .int .i64 c.s0, .int .i64 c.s1, .slice a0 p0 k0, .slice a1 p1 k1]] w fun e w' => e = .returned (lineV m x0 x1 x2 x3 c) ∧ Below w.heap.size w w' := by
  have HW := hid hw
  have HK := hid hk
  obtain ⟨l1, l2⟩ := hw.1.lens
  obtain ⟨u1, u2⟩ := hw.2.lens
  have E0 := hid l1
  have E1 := hid u1
  clear hw hk l1 u1
  have KA0 : Hid (Kp w (((w.alloc (.cells #[.int .u8 x0, .int .u8 x1, .int .u8 x2, .int .u8 x3] 28)).alloc (.cells #[.int .i64 c.n, .int .i64 c.s0, .int .i64 c.s1, .slice a0 p0 k0, .slice a1 p1 k1] 26)).alloc (.cells #[.int .u8 0, .int .u8 0, .int .u8 0, .int .u8 0, .int .i64 0, .int .i64 0, .int .i64 0, .int .i64 0, .int .i64 0, .int .i64 0, .int .i64 0] 44)) w.heap.size (.cells #[.int .u8 x0, .int .u8 x1, .int .u8 x2, .int .u8 x3] 28)) := hid (kp_alloc (kp_alloc (kp_new w _) _) _)
  have KC0 : Hid (Kp w (((w.alloc (.cells #[.int .u8 x0, .int .u8 x1, .int .u8 x2, .int .u8 x3] 28)).alloc (.cells #[.int .i64 c.n, .int .i64 c.s0, .int .i64 c.s1, .slice a0 p0 k0, .slice a1 p1 k1] 26)).alloc (.cells #[.int .u8 0, .int .u8 0, .int .u8 0, .int .u8 0, .int .i64 0, .int .i64 0, .int .i64 0, .int .i64 0, .int .i64 0, .int .i64 0, .int .i64 0] 44)) (w.heap.size + 1) (.cells #[.int .i64 c.n, .int .i64 c.s0, .int .i64 c.s1, .slice a0 p0 k0, .slice a1 p1 k1] 26)) := hid (kp_alloc (kp_new2 (b1alloc _ _) _ _ (by simp)) _)
  have KR0 : Hid (Kp w (((w.alloc (.cells #[.int .u8 x0, .int .u8 x1, .int .u8 x2, .int .u8 x3] 28)).alloc (.cells #[.int .i64 c.n, .int .i64 c.s0, .int .i64 c.s1, .slice a0 p0 k0, .slice a1 p1 k1] 26)).alloc (.cells #[.int .u8 0, .int .u8 0, .int .u8 0, .int .u8 0, .int .i64 0, .int .i64 0, .int .i64 0, .int .i64 0, .int .i64 0, .int .i64 0, .int .i64 0] 44)) (w.heap.size + 1 + 1) (.cells #[.int .u8 0, .int .u8 0, .int .u8 0, .int .u8 0, .int .i64 0, .int .i64 0, .int .i64 0, .int .i64 0, .int .i64 0, .int .i64 0, .int .i64 0] 44)) := hid (kp_new2 (bt (b1alloc _ _) (b1alloc _ _)) _ _ (by simp))
  cases hg : cg m c with
  | false =>
    rw [lineV_no hg]
    have HG := hid hg
    clear hg
    go_enter Try.func21, Try.ntmps21
    go_upto_region 1 with fail
    generalize ((w.alloc (.cells #[.int .u8 x0, .int .u8 x1, .int .u8 x2, .int .u8 x3] 28)).alloc (.cells #[.int .i64 c.n, .int .i64 c.s0, .int .i64 c.s1, .slice a0 p0 k0, .slice a1 p1 k1] 26)).alloc (.cells #[.int .u8 0, .int .u8 0, .int .u8 0, .int .u8 0, .int .i64 0, .int .i64 0, .int .i64 0, .int .i64 0, .int .i64 0, .int .i64 0, .int .i64 0] 44) = W0 at KA0 KC0 KR0 ⊢
    obtain ⟨d0, d1, d2, d3, d4⟩ := box_five KC0.out.2.2
    go_upto_region 2 with (go_at_call 19; refine (cgood_m _ _ _ _ _ _ _ _ false _ (HW.out.below KC0.out.1) HK.out HG).mono ?_; rintro e w1 ⟨rfl, hb1⟩; have KC1 := hid (KC0.out.step hb1); have KA1 := hid (KA0.out.step hb1); have KR1 := hid (KR0.out.step hb1); clear hb1 d0 d1 d2 d3 d4)
    obtain ⟨N2, hN2⟩ : ∃ y, w.heap.size + 1 + 1 = y := ⟨_, rfl⟩
    rw [hN2] at KR1 ⊢
    clear hN2
    go_wp2_with (refine wpList_store_whole rfl 44 (.tmp 6) (.tmp 14) rfl N2 (lnC 0 0 0 0 0 0 0 0 0 0 0) rfl rfl 44 _ KR1.out.2.2 rfl (by show _ = some 11; exact size_ln) (lnC_one _ _ _ _ _ _ _ _ _ _ _) ?_; intro w2 hp2 hg2; have KR2 := hid (kp_at KR1.out hg2 hp2); clear hp2 hg2)
    (try simp only [Exit.inBlock, Exit.then])
    show bodyPost Try.prog Try.f21 _ _ _ _
    refine bodyPost_ret (results_cell_row (p := 6) rfl _ _ N2 _ (lnC 0 0 0 0 0 0 0 0 0 0 0) (0, 0) _ rfl KR2.out.2.2 Try.underlying44 rfl (by kernel_rfl)) rfl ?_
    exact ⟨rfl, KR2.out.1⟩
  | true =>
    have HG := hid hg
    have HCG := hid (cg_iff.1 hg)
    have R0 := hid (rk_hase HCG.out.2.1 HCG.out.1.1)
    obtain ⟨z0, ez0⟩ : ∃ y, mn c.b0 = y := ⟨_, rfl⟩
    obtain ⟨y0, ey0⟩ : ∃ y, mx c.b0 = y := ⟨_, rfl⟩
    have Q0 := hid (R0.out.1.trans ez0)
    have P0 := hid (R0.out.2.1.trans ey0)
    have T0 := hid R0.out.2.2
    rcases cg_m hg with rfl | rfl
    · rw [lineV_1 hg, ez0, ey0]
      clear hg ez0 ey0
      go_enter Try.func21, Try.ntmps21
      go_upto_region 1 with fail
      generalize ((w.alloc (.cells #[.int .u8 x0, .int .u8 x1, .int .u8 x2, .int .u8 x3] 28)).alloc (.cells #[.int .i64 c.n, .int .i64 c.s0, .int .i64 c.s1, .slice a0 p0 k0, .slice a1 p1 k1] 26)).alloc (.cells #[.int .u8 0, .int .u8 0, .int .u8 0, .int .u8 0, .int .i64 0, .int .i64 0, .int .i64 0, .int .i64 0, .int .i64 0, .int .i64 0, .int .i64 0] 44) = W0 at KA0 KC0 KR0 ⊢
      obtain ⟨d0, d1, d2, d3, d4⟩ := box_five KC0.out.2.2
      go_upto_region 3 with (go_at_call 19; refine (cgood_m _ _ _ _ _ _ _ _ true _ (HW.out.below KC0.out.1) HK.out HG).mono ?_; rintro e w1 ⟨rfl, hb1⟩; have KC1 := hid (KC0.out.step hb1); have KA1 := hid (KA0.out.step hb1); have KR1 := hid (KR0.out.step hb1); clear hb1 d0 d1 d2 d3 d4)
      obtain ⟨d0, d1, d2, d3, d4⟩ := box_five KC1.out.2.2
      obtain ⟨f0, f1, f2, f3⟩ := box_four KA1.out.2.2
      go_upto_region 4 with fail
      have KL : Hid (Kp w (w1.alloc (.cells #[.int .u8 x0, .int .u8 x1, .int .u8 x2, .int .u8 x3, .int .i64 c.n, .int .i64 c.s0, .int .i64 c.s1, .int .i64 0, .int .i64 0, .int .i64 0, .int .i64 0] 44)) w1.heap.size (.cells #[.int .u8 x0, .int .u8 x1, .int .u8 x2, .int .u8 x3, .int .i64 c.n, .int .i64 c.s0, .int .i64 c.s1, .int .i64 0, .int .i64 0, .int .i64 0, .int .i64 0] 44)) := hid (kp_new2 KC1.out.1 _ _ rfl)
      have KC2 := hid (kp_alloc KC1.out (.cells #[.int .u8 x0, .int .u8 x1, .int .u8 x2, .int .u8 x3, .int .i64 c.n, .int .i64 c.s0, .int .i64 c.s1, .int .i64 0, .int .i64 0, .int .i64 0, .int .i64 0] 44))
      have KR2 := hid (kp_alloc KR1.out (.cells #[.int .u8 x0, .int .u8 x1, .int .u8 x2, .int .u8 x3, .int .i64 c.n, .int .i64 c.s0, .int .i64 c.s1, .int .i64 0, .int .i64 0, .int .i64 0, .int .i64 0] 44))
      have hL : w.heap.size + 1 + 1 < w1.heap.size := heap_lt KR1.out.2.2
      clear d0 d1 d2 d3 d4 f0 f1 f2 f3 KA0 KC0 KR0 KA1 KC1 KR1
      obtain ⟨N2, hN2⟩ : ∃ y, w.heap.size + 1 + 1 = y := ⟨_, rfl⟩
      rw [hN2] at KR2 hL ⊢
      obtain ⟨N1, hN1⟩ : ∃ y, w.heap.size + 1 = y := ⟨_, rfl⟩
      rw [hN1] at KC2 hN2 ⊢
      have ne1 : ¬ N1 = w1.heap.size := by omega
      have ne2 : ¬ N2 = w1.heap.size := by omega
      have geL : w.heap.size ≤ w1.heap.size := by omega
      have ne12 : ¬ N1 = N2 := by omega
      have HNE := hid (And.intro ne1 (And.intro ne2 (And.intro geL ne12)))
      clear hN1 hN2 hL ne1 ne2 geL ne12
      generalize w1.heap.size = L at KL HNE ⊢
      generalize w1.alloc (.cells #[.int .u8 x0, .int .u8 x1, .int .u8 x2, .int .u8 x3, .int .i64 c.n, .int .i64 c.s0, .int .i64 c.s1, .int .i64 0, .int .i64 0, .int .i64 0, .int .i64 0] 44) = W2 at KL KC2 KR2 ⊢
      have KL2 := KL
      clear KL
      go_upto_region 5 with fail
      refine wp_loop_rounds 3 ?_
      rw [rounds_succ]
      obtain ⟨d0, d1, d2, d3, d4⟩ := box_five KC2.out.2.2
      go_wp2_with (first
        | (go_at_call 63; refine (least_m _ _ _ _ z0 true _ (HW.out.1.below KC2.out.1) HK.out.2.2.2.1 Q0 T0).mono ?_; rintro e w2a ⟨rfl, hb⟩; have KCa := hid (KC2.out.step hb); have KLa := hid (KL2.out.step hb); have KRa := hid (KR2.out.step hb); have fz := kp_froz KLa.out 7; have cz := kp_cell (j := 7) (v := .int .i64 0) KLa.out rfl; have KCb := hid (kp_other (j := 7) (v := .int .i64 z0) KCa.out HNE.out.1 HNE.out.2.2.1); have KRb := hid (kp_other (j := 7) (v := .int .i64 z0) KRa.out HNE.out.2.1 HNE.out.2.2.1); have KLb := hid (kp_set (j := 7) (v := .int .i64 z0) KLa.out); clear hb d0 d1 d2 d3 d4)
        | (go_at_call 64; refine (greatest_m _ _ _ _ y0 true _ (HW.out.1.below KCb.out.1) HK.out.2.2.2.1 P0 T0).mono ?_; rintro e w2b ⟨rfl, hb⟩; have KCc := hid (KCb.out.step hb); have KLc := hid (KLb.out.step hb); have KRc := hid (KRb.out.step hb); have fy := kp_froz KLc.out 9; have cy := kp_cell (j := 9) (v := .int .i64 0) KLc.out rfl; have KC3 := hid (kp_other (j := 9) (v := .int .i64 y0) KCc.out HNE.out.1 HNE.out.2.2.1); have KR3 := hid (kp_other (j := 9) (v := .int .i64 y0) KRc.out HNE.out.2.1 HNE.out.2.2.1); have KL3 : Hid (Kp w _ L (.cells #[.int .u8 x0, .int .u8 x1, .int .u8 x2, .int .u8 x3, .int .i64 c.n, .int .i64 c.s0, .int .i64 c.s1, .int .i64 z0, .int .i64 0, .int .i64 y0, .int .i64 0] 44)) := hid (kp_set (j := 9) (v := .int .i64 y0) KLc.out); clear hb))
      clear KCa KLa KRa KCb KLb KRb KCc KLc KRc
      generalize (w2b.setCell ⟨L, 9, none⟩ (.int .i64 y0)) = W3 at KC3 KR3 KL3 ⊢
      rw [rounds_succ]
      obtain ⟨g0, g1, g2, g3, g4, g5, g6, g7, g8, g9, g10⟩ := box_elf KL3.out.2.2
      go_wp2_with (refine wpList_store_whole rfl 44 (.tmp 6) (.tmp 47) rfl N2 (lnC x0 x1 x2 x3 c.n c.s0 c.s1 z0 0 y0 0) rfl rfl 44 _ KR3.out.2.2 rfl (by show _ = some 11; exact size_ln) (lnC_one _ _ _ _ _ _ _ _ _ _ _) ?_; intro w9 hp9 hg9; have KR9 := hid (kp_at KR3.out hg9 hp9); clear hp9 hg9)
      (try simp only [Exit.inBlock, Exit.then])
      show bodyPost Try.prog Try.f21 _ _ _ _
      refine bodyPost_ret (results_cell_row (p := 6) rfl _ _ N2 _ (lnC x0 x1 x2 x3 c.n c.s0 c.s1 z0 0 y0 0) (0, 0) _ rfl KR9.out.2.2 Try.underlying44 rfl (by kernel_rfl)) rfl ?_
      exact ⟨rfl, KR9.out.1⟩
    · rw [lineV_2 hg, ez0, ey0]
      have R1 := hid (rk_hase (HCG.out.2.2.elim (fun h => absurd h.1 (by decide)) (fun h => h.2)) HCG.out.1.1)
      obtain ⟨z1, ez1⟩ : ∃ y, mn c.b1 = y := ⟨_, rfl⟩
      obtain ⟨y1, ey1⟩ : ∃ y, mx c.b1 = y := ⟨_, rfl⟩
      have Q1 := hid (R1.out.1.trans ez1)
      have P1 := hid (R1.out.2.1.trans ey1)
      have T1 := hid R1.out.2.2
      rw [ez1, ey1]
      clear hg ez0 ey0 ez1 ey1
      go_enter Try.func21, Try.ntmps21
      go_upto_region 1 with fail
      generalize ((w.alloc (.cells #[.int .u8 x0, .int .u8 x1, .int .u8 x2, .int .u8 x3] 28)).alloc (.cells #[.int .i64 c.n, .int .i64 c.s0, .int .i64 c.s1, .slice a0 p0 k0, .slice a1 p1 k1] 26)).alloc (.cells #[.int .u8 0, .int .u8 0, .int .u8 0, .int .u8 0, .int .i64 0, .int .i64 0, .int .i64 0, .int .i64 0, .int .i64 0, .int .i64 0, .int .i64 0] 44) = W0 at KA0 KC0 KR0 ⊢
      obtain ⟨d0, d1, d2, d3, d4⟩ := box_five KC0.out.2.2
      go_upto_region 3 with (go_at_call 19; refine (cgood_m _ _ _ _ _ _ _ _ true _ (HW.out.below KC0.out.1) HK.out HG).mono ?_; rintro e w1 ⟨rfl, hb1⟩; have KC1 := hid (KC0.out.step hb1); have KA1 := hid (KA0.out.step hb1); have KR1 := hid (KR0.out.step hb1); clear hb1 d0 d1 d2 d3 d4)
      obtain ⟨d0, d1, d2, d3, d4⟩ := box_five KC1.out.2.2
      obtain ⟨f0, f1, f2, f3⟩ := box_four KA1.out.2.2
      go_upto_region 4 with fail
      have KL : Hid (Kp w (w1.alloc (.cells #[.int .u8 x0, .int .u8 x1, .int .u8 x2, .int .u8 x3, .int .i64 c.n, .int .i64 c.s0, .int .i64 c.s1, .int .i64 0, .int .i64 0, .int .i64 0, .int .i64 0] 44)) w1.heap.size (.cells #[.int .u8 x0, .int .u8 x1, .int .u8 x2, .int .u8 x3, .int .i64 c.n, .int .i64 c.s0, .int .i64 c.s1, .int .i64 0, .int .i64 0, .int .i64 0, .int .i64 0] 44)) := hid (kp_new2 KC1.out.1 _ _ rfl)
      have KC2 := hid (kp_alloc KC1.out (.cells #[.int .u8 x0, .int .u8 x1, .int .u8 x2, .int .u8 x3, .int .i64 c.n, .int .i64 c.s0, .int .i64 c.s1, .int .i64 0, .int .i64 0, .int .i64 0, .int .i64 0] 44))
      have KR2 := hid (kp_alloc KR1.out (.cells #[.int .u8 x0, .int .u8 x1, .int .u8 x2, .int .u8 x3, .int .i64 c.n, .int .i64 c.s0, .int .i64 c.s1, .int .i64 0, .int .i64 0, .int .i64 0, .int .i64 0] 44))
      have hL : w.heap.size + 1 + 1 < w1.heap.size := heap_lt KR1.out.2.2
      clear d0 d1 d2 d3 d4 f0 f1 f2 f3 KA0 KC0 KR0 KA1 KC1 KR1
      obtain ⟨N2, hN2⟩ : ∃ y, w.heap.size + 1 + 1 = y := ⟨_, rfl⟩
      rw [hN2] at KR2 hL ⊢
      obtain ⟨N1, hN1⟩ : ∃ y, w.heap.size + 1 = y := ⟨_, rfl⟩
      rw [hN1] at KC2 hN2 ⊢
      have ne1 : ¬ N1 = w1.heap.size := by omega
      have ne2 : ¬ N2 = w1.heap.size := by omega
      have geL : w.heap.size ≤ w1.heap.size := by omega
      have ne12 : ¬ N1 = N2 := by omega
      have HNE := hid (And.intro ne1 (And.intro ne2 (And.intro geL ne12)))
      clear hN1 hN2 hL ne1 ne2 geL ne12
      generalize w1.heap.size = L at KL HNE ⊢
      generalize w1.alloc (.cells #[.int .u8 x0, .int .u8 x1, .int .u8 x2, .int .u8 x3, .int .i64 c.n, .int .i64 c.s0, .int .i64 c.s1, .int .i64 0, .int .i64 0, .int .i64 0, .int .i64 0] 44) = W2 at KL KC2 KR2 ⊢
      have KL2 := KL
      clear KL
      go_upto_region 5 with fail
      refine wp_loop_rounds 3 ?_
      rw [rounds_succ]
      obtain ⟨d0, d1, d2, d3, d4⟩ := box_five KC2.out.2.2
      go_wp2_with (first
        | (go_at_call 63; refine (least_m _ _ _ _ z0 true _ (HW.out.1.below KC2.out.1) HK.out.2.2.2.1 Q0 T0).mono ?_; rintro e w2a ⟨rfl, hb⟩; have KCa := hid (KC2.out.step hb); have KLa := hid (KL2.out.step hb); have KRa := hid (KR2.out.step hb); have fz := kp_froz KLa.out 7; have cz := kp_cell (j := 7) (v := .int .i64 0) KLa.out rfl; have KCb := hid (kp_other (j := 7) (v := .int .i64 z0) KCa.out HNE.out.1 HNE.out.2.2.1); have KRb := hid (kp_other (j := 7) (v := .int .i64 z0) KRa.out HNE.out.2.1 HNE.out.2.2.1); have KLb := hid (kp_set (j := 7) (v := .int .i64 z0) KLa.out); clear hb d0 d1 d2 d3 d4)
        | (go_at_call 64; refine (greatest_m _ _ _ _ y0 true _ (HW.out.1.below KCb.out.1) HK.out.2.2.2.1 P0 T0).mono ?_; rintro e w2b ⟨rfl, hb⟩; have KCc := hid (KCb.out.step hb); have KLc := hid (KLb.out.step hb); have KRc := hid (KRb.out.step hb); have fy := kp_froz KLc.out 9; have cy := kp_cell (j := 9) (v := .int .i64 0) KLc.out rfl; have KC3 := hid (kp_other (j := 9) (v := .int .i64 y0) KCc.out HNE.out.1 HNE.out.2.2.1); have KR3 := hid (kp_other (j := 9) (v := .int .i64 y0) KRc.out HNE.out.2.1 HNE.out.2.2.1); have KL3 : Hid (Kp w _ L (.cells #[.int .u8 x0, .int .u8 x1, .int .u8 x2, .int .u8 x3, .int .i64 c.n, .int .i64 c.s0, .int .i64 c.s1, .int .i64 z0, .int .i64 0, .int .i64 y0, .int .i64 0] 44)) := hid (kp_set (j := 9) (v := .int .i64 y0) KLc.out); clear hb))
      clear KCa KLa KRa KCb KLb KRb KCc KLc KRc
      generalize (w2b.setCell ⟨L, 9, none⟩ (.int .i64 y0)) = W3 at KC3 KR3 KL3 ⊢
      rw [rounds_succ]
      obtain ⟨d0, d1, d2, d3, d4⟩ := box_five KC3.out.2.2
      go_wp2_with (first
        | (go_at_call 63; refine (least_m _ _ _ _ z1 true _ (HW.out.2.below KC3.out.1) HK.out.2.2.2.2 Q1 T1).mono ?_; rintro e w3a ⟨rfl, hb⟩; have KCa := hid (KC3.out.step hb); have KLa := hid (KL3.out.step hb); have KRa := hid (KR3.out.step hb); have fz := kp_froz KLa.out 8; have cz := kp_cell (j := 8) (v := .int .i64 0) KLa.out rfl; have KCb := hid (kp_other (j := 8) (v := .int .i64 z1) KCa.out HNE.out.1 HNE.out.2.2.1); have KRb := hid (kp_other (j := 8) (v := .int .i64 z1) KRa.out HNE.out.2.1 HNE.out.2.2.1); have KLb := hid (kp_set (j := 8) (v := .int .i64 z1) KLa.out); clear hb d0 d1 d2 d3 d4)
        | (go_at_call 64; refine (greatest_m _ _ _ _ y1 true _ (HW.out.2.below KCb.out.1) HK.out.2.2.2.2 P1 T1).mono ?_; rintro e w3b ⟨rfl, hb⟩; have KCc := hid (KCb.out.step hb); have KLc := hid (KLb.out.step hb); have KRc := hid (KRb.out.step hb); have fy := kp_froz KLc.out 10; have cy := kp_cell (j := 10) (v := .int .i64 0) KLc.out rfl; have KC4 := hid (kp_other (j := 10) (v := .int .i64 y1) KCc.out HNE.out.1 HNE.out.2.2.1); have KR4 := hid (kp_other (j := 10) (v := .int .i64 y1) KRc.out HNE.out.2.1 HNE.out.2.2.1); have KL4 : Hid (Kp w _ L (.cells #[.int .u8 x0, .int .u8 x1, .int .u8 x2, .int .u8 x3, .int .i64 c.n, .int .i64 c.s0, .int .i64 c.s1, .int .i64 z0, .int .i64 z1, .int .i64 y0, .int .i64 y1] 44)) := hid (kp_set (j := 10) (v := .int .i64 y1) KLc.out); clear hb))
      clear KCa KLa KRa KCb KLb KRb KCc KLc KRc
      generalize (w3b.setCell ⟨L, 10, none⟩ (.int .i64 y1)) = W4 at KC4 KR4 KL4 ⊢
      rw [rounds_succ]
      obtain ⟨g0, g1, g2, g3, g4, g5, g6, g7, g8, g9, g10⟩ := box_elf KL4.out.2.2
      go_wp2_with (refine wpList_store_whole rfl 44 (.tmp 6) (.tmp 47) rfl N2 (lnC x0 x1 x2 x3 c.n c.s0 c.s1 z0 z1 y0 y1) rfl rfl 44 _ KR4.out.2.2 rfl (by show _ = some 11; exact size_ln) (lnC_one _ _ _ _ _ _ _ _ _ _ _) ?_; intro w9 hp9 hg9; have KR9 := hid (kp_at KR4.out hg9 hp9); clear hp9 hg9)
      (try simp only [Exit.inBlock, Exit.then])
      show bodyPost Try.prog Try.f21 _ _ _ _
      refine bodyPost_ret (results_cell_row (p := 6) rfl _ _ N2 _ (lnC x0 x1 x2 x3 c.n c.s0 c.s1 z0 z1 y0 y1) (0, 0) _ rfl KR9.out.2.2 Try.underlying44 rfl (by kernel_rfl)) rfl ?_
      exact ⟨rfl, KR9.out.1⟩

end Go.Proofs.Ytgmnnpecihcdhaa

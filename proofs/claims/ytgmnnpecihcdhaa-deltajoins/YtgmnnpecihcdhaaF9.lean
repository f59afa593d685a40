/-
  What is told of a cell: what the document's own Line returns.
  Conditions: as each theorem states them.
-/
import Derived.Test.YtgmnnpecihcdhaaE9
namespace Go.Proofs.Ytgmnnpecihcdhaa
open Go.ChangeShapes Go.WideShapes Go.ChangeAt Go.RowKit
set_option linter.unusedVariables false
set_option linter.unusedSimpArgs false
set_option maxRecDepth 100000

theorem mn_at {l : List Rn} {x0 x1 : Int} (h : l[0]? = some (x0, x1)) : mn l = x0 := by
  cases l with
  | nil => simp at h
  | cons r l => simp at h; subst h; rfl
theorem mx_at {l : List Rn} {j : Nat} {x0 x1 : Int} (hl : l.length = j + 1) (h : l[j]? = some (x0, x1)) : mx l = x0 := by
  unfold mx
  rw [List.getLastD_eq_getLast?, List.getLast?_eq_getElem?, show l.length - 1 = j by omega, h]
  rfl

set_option maxHeartbeats 32000000 in
theorem crline_any (m x0 x1 x2 x3 : Int) (c : Cl) (a0 : Option Addr) (p0 k0 : Nat) (a1 : Option Addr) (p1 k1 : Nat) (w : World) (hw : CW w a0 p0 k0 a1 p1 k1 c) (hk : okc c) :
    Calls Try.prog 22 #[.int .i64 m, .agg #[.int .u8 x0, .int .u8 x1, .int .u8 x2, .int .u8 x3], .agg #[.int .i64 c.n, .int .i64 c.s0, .int .i64 c.s1, .slice a0 p0 k0, .slice a1 p1 k1]] w fun e w' => e = .returned (lineV m x0 x1 x2 x3 c) ∧ Below w.heap.size w w' := by
  have HW := hid hw
  have HK := hid hk
  obtain ⟨l1, l2⟩ := hw.1.lens
  obtain ⟨u1, u2⟩ := hw.2.lens
  have E0 := hid l1
  have E1 := hid u1
  clear hw hk l1 u1
  have KA0 : Hid (Kp w (((w.alloc (.cells #[.int .u8 x0, .int .u8 x1, .int .u8 x2, .int .u8 x3] 28)).alloc (.cells #[.int .i64 c.n, .int .i64 c.s0, .int .i64 c.s1, .slice a0 p0 k0, .slice a1 p1 k1] 26)).alloc (.cells #[.int .u8 0, .int .u8 0, .int .u8 0, .int .u8 0, .int .i64 0, .int .i64 0, .int .i64 0, .int .i64 0, .int .i64 0, .int .i64 0, .int .i64 0] 44)) w.heap.size (.cells #[.int .u8 x0, .int .u8 x1, .int .u8 x2, .int .u8 x3] 28)) := hid (kp_alloc (kp_alloc (kp_new w _) _) _)
  have KC0 : Hid (Kp w (((w.alloc (.cells #[.int .u8 x0, .int .u8 x1, .int .u8 x2, .int .u8 x3] 28)).alloc (.cells #[.int .i64 c.n, .int .i64 c.s0, .int .i64 c.s1, .slice a0 p0 k0, .slice a1 p1 k1] 26)).alloc (.cells #[.int .u8 0, .int .u8 0, .int .u8 0, .int .u8 0, .int .i64 0, .int .i64 0, .int .i64 0, .int .i64 0, .int .i64 0, .int .i64 0, .int .i64 0] 44)) (w.heap.size + 1) (.cells #[.int .i64 c.n, .int .i64 c.s0, .int .i64 c.s1, .slice a0 p0 k0, .slice a1 p1 k1] 26)) := hid (kp_alloc (kp_new2 (b1alloc _ _) _ _ (by simp)) _)
  have KR0 : Hid (Kp w (((w.alloc (.cells #[.int .u8 x0, .int .u8 x1, .int .u8 x2, .int .u8 x3] 28)).alloc (.cells #[.int .i64 c.n, .int .i64 c.s0, .int .i64 c.s1, .slice a0 p0 k0, .slice a1 p1 k1] 26)).alloc (.cells #[.int .u8 0, .int .u8 0, .int .u8 0, .int .u8 0, .int .i64 0, .int .i64 0, .int .i64 0, .int .i64 0, .int .i64 0, .int .i64 0, .int .i64 0] 44)) (w.heap.size + 1 + 1) (.cells #[.int .u8 0, .int .u8 0, .int .u8 0, .int .u8 0, .int .i64 0, .int .i64 0, .int .i64 0, .int .i64 0, .int .i64 0, .int .i64 0, .int .i64 0] 44)) := hid (kp_new2 (bt (b1alloc _ _) (b1alloc _ _)) _ _ (by simp))
  cases hg : cg m c with
  | false =>
    rw [lineV_no hg]
    have HG := hid hg
    clear hg
    go_enter Try.func22, Try.ntmps22
    go_upto_region 1 with fail
    generalize ((w.alloc (.cells #[.int .u8 x0, .int .u8 x1, .int .u8 x2, .int .u8 x3] 28)).alloc (.cells #[.int .i64 c.n, .int .i64 c.s0, .int .i64 c.s1, .slice a0 p0 k0, .slice a1 p1 k1] 26)).alloc (.cells #[.int .u8 0, .int .u8 0, .int .u8 0, .int .u8 0, .int .i64 0, .int .i64 0, .int .i64 0, .int .i64 0, .int .i64 0, .int .i64 0, .int .i64 0] 44) = W0 at KA0 KC0 KR0 ⊢
    obtain ⟨d0, d1, d2, d3, d4⟩ := box_five KC0.out.2.2
    go_upto_region 2 with (go_at_call 20; refine (crgood_m _ _ _ _ _ _ _ _ false _ (HW.out.below KC0.out.1) HK.out HG).mono ?_; rintro e w1 ⟨rfl, hb1⟩; have KC1 := hid (KC0.out.step hb1); have KA1 := hid (KA0.out.step hb1); have KR1 := hid (KR0.out.step hb1); clear hb1 d0 d1 d2 d3 d4)
    obtain ⟨N2, hN2⟩ : ∃ y, w.heap.size + 1 + 1 = y := ⟨_, rfl⟩
    rw [hN2] at KR1 ⊢
    clear hN2
    go_wp2_with (refine wpList_store_whole rfl 44 (.tmp 6) (.tmp 14) rfl N2 (lnC 0 0 0 0 0 0 0 0 0 0 0) rfl rfl 44 _ KR1.out.2.2 rfl (by show _ = some 11; exact size_ln) (lnC_one _ _ _ _ _ _ _ _ _ _ _) ?_; intro w2 hp2 hg2; have KR2 := hid (kp_at KR1.out hg2 hp2); clear hp2 hg2)
    (try simp only [Exit.inBlock, Exit.then])
    show bodyPost Try.prog Try.f22 _ _ _ _
    refine bodyPost_ret (results_cell_row (p := 6) rfl _ _ N2 _ (lnC 0 0 0 0 0 0 0 0 0 0 0) (0, 0) _ rfl KR2.out.2.2 Try.underlying44 rfl (by kernel_rfl)) rfl ?_
    exact ⟨rfl, KR2.out.1⟩
  | true =>
    have HG := hid hg
    have HCG := hid (cg_iff.1 hg)
    obtain ⟨z0, ez0⟩ : ∃ y, mn c.b0 = y := ⟨_, rfl⟩
    obtain ⟨y0, ey0⟩ : ∃ y, mx c.b0 = y := ⟨_, rfl⟩
    have Z0 := hid ez0
    have Y0 := hid ey0
    have hp0 : ¬ p0 = 0 := fun e => rk_ne HCG.out.2.1 HCG.out.1.1 (List.length_eq_zero_iff.mp (by have := E0.out; omega))
    obtain ⟨t0, ht0⟩ : ∃ t, p0 = t + 1 := ⟨p0 - 1, by omega⟩
    have hjk0 : (p0 : Int) - 1 = (t0 : Int) := by omega
    have hj00 : (0 : Int) ≤ (t0 : Int) := by omega
    have hjn0 : (t0 : Int) < (p0 : Int) := by omega
    have hpp0 : (0 : Int) < (p0 : Int) := by omega
    have hwj0 : IntKind.i64.wrap ((p0 : Int) - 1) = (t0 : Int) := by rw [hjk0]; exact IntWalk.i64_in _ (by omega)
    have HT0 := hid ht0
    have hpn0 : 0 < p0 := by omega
    have htn0 : t0 < p0 := by omega
    clear ht0 hp0
    rcases cg_m hg with rfl | rfl
    · rw [lineV_1 hg, ez0, ey0]
      have HS1 : Hid (c.s1 = 0) := hid (HCG.out.2.2.elim (fun h => h.2.1) (fun h => absurd h.1 (by decide)))
      clear hg ez0 ey0
      go_enter Try.func22, Try.ntmps22
      go_upto_region 1 with fail
      generalize ((w.alloc (.cells #[.int .u8 x0, .int .u8 x1, .int .u8 x2, .int .u8 x3] 28)).alloc (.cells #[.int .i64 c.n, .int .i64 c.s0, .int .i64 c.s1, .slice a0 p0 k0, .slice a1 p1 k1] 26)).alloc (.cells #[.int .u8 0, .int .u8 0, .int .u8 0, .int .u8 0, .int .i64 0, .int .i64 0, .int .i64 0, .int .i64 0, .int .i64 0, .int .i64 0, .int .i64 0] 44) = W0 at KA0 KC0 KR0 ⊢
      obtain ⟨d0, d1, d2, d3, d4⟩ := box_five KC0.out.2.2
      go_upto_region 3 with (go_at_call 20; refine (crgood_m _ _ _ _ _ _ _ _ true _ (HW.out.below KC0.out.1) HK.out HG).mono ?_; rintro e w1 ⟨rfl, hb1⟩; have KC1 := hid (KC0.out.step hb1); have KA1 := hid (KA0.out.step hb1); have KR1 := hid (KR0.out.step hb1); clear hb1 d0 d1 d2 d3 d4)
      obtain ⟨d0, d1, d2, d3, d4⟩ := box_five KC1.out.2.2
      obtain ⟨f0, f1, f2, f3⟩ := box_four KA1.out.2.2
      go_upto_region 4 with fail
      have KL2 : Hid (Kp w (w1.alloc (.cells #[.int .u8 x0, .int .u8 x1, .int .u8 x2, .int .u8 x3, .int .i64 c.n, .int .i64 0, .int .i64 0, .int .i64 0, .int .i64 0, .int .i64 0, .int .i64 0] 44)) w1.heap.size (.cells #[.int .u8 x0, .int .u8 x1, .int .u8 x2, .int .u8 x3, .int .i64 c.n, .int .i64 0, .int .i64 0, .int .i64 0, .int .i64 0, .int .i64 0, .int .i64 0] 44)) := hid (kp_new2 KC1.out.1 _ _ rfl)
      have KC2 := hid (kp_alloc KC1.out (.cells #[.int .u8 x0, .int .u8 x1, .int .u8 x2, .int .u8 x3, .int .i64 c.n, .int .i64 0, .int .i64 0, .int .i64 0, .int .i64 0, .int .i64 0, .int .i64 0] 44))
      have KR2 := hid (kp_alloc KR1.out (.cells #[.int .u8 x0, .int .u8 x1, .int .u8 x2, .int .u8 x3, .int .i64 c.n, .int .i64 0, .int .i64 0, .int .i64 0, .int .i64 0, .int .i64 0, .int .i64 0] 44))
      have hL : w.heap.size + 1 + 1 < w1.heap.size := heap_lt KR1.out.2.2
      clear d0 d1 d2 d3 d4 f0 f1 f2 f3 KA0 KC0 KR0 KA1 KC1 KR1
      obtain ⟨N2, hN2⟩ : ∃ y, w.heap.size + 1 + 1 = y := ⟨_, rfl⟩
      rw [hN2] at KR2 hL ⊢
      obtain ⟨N1, hN1⟩ : ∃ y, w.heap.size + 1 = y := ⟨_, rfl⟩
      rw [hN1] at KC2 hN2 ⊢
      have ne1 : ¬ N1 = w1.heap.size := by omega
      have ne2 : ¬ N2 = w1.heap.size := by omega
      have geL : w.heap.size ≤ w1.heap.size := by omega
      have ne12 : ¬ N1 = N2 := by omega
      have HNE := hid (And.intro ne1 (And.intro ne2 (And.intro geL ne12)))
      clear hN1 hN2 hL ne1 ne2 geL ne12
      generalize w1.heap.size = L at KL2 HNE ⊢
      generalize w1.alloc (.cells #[.int .u8 x0, .int .u8 x1, .int .u8 x2, .int .u8 x3, .int .i64 c.n, .int .i64 0, .int .i64 0, .int .i64 0, .int .i64 0, .int .i64 0, .int .i64 0] 44) = W2 at KL2 KC2 KR2 ⊢
      go_upto_region 5 with fail
      refine wp_loop_rounds 3 ?_
      rw [rounds_succ]
      obtain ⟨d0, d1, d2, d3, d4⟩ := box_five KC2.out.2.2
      have fz := kp_froz KL2.out 5
      have cz := kp_cell (j := 5) (v := .int .i64 0) KL2.out rfl
      go_upto_region 9 with fail
      clear d0 d1 d2 d3 d4
      have KC3 := hid (kp_other (j := 5) (v := .int .i64 c.s0) KC2.out HNE.out.1 HNE.out.2.2.1)
      have KR3 := hid (kp_other (j := 5) (v := .int .i64 c.s0) KR2.out HNE.out.2.1 HNE.out.2.2.1)
      have KL3 : Hid (Kp w _ L (.cells #[.int .u8 x0, .int .u8 x1, .int .u8 x2, .int .u8 x3, .int .i64 c.n, .int .i64 c.s0, .int .i64 0, .int .i64 0, .int .i64 0, .int .i64 0, .int .i64 0] 44)) := hid (kp_set (j := 5) (v := .int .i64 c.s0) KL2.out)
      generalize (W2.setCell ⟨L, 5, none⟩ (.int .i64 c.s0)) = W3 at KC3 KR3 KL3 ⊢
      clear KC2 KR2 KL2 fz cz
      obtain ⟨bb, oo, r0, r1, ea, hbb, hr, g0, g1⟩ := HW.out.1.pick KC3.out.1 hpn0
      simp only [Nat.zero_mul, Nat.add_zero] at g0
      subst ea
      have er : r0 = z0 := (mn_at hr).symm.trans Z0.out
      rw [er] at g0
      clear hr g1 er
      have fz := kp_froz KL3.out 7
      have cz := kp_cell (j := 7) (v := .int .i64 0) KL3.out rfl
      go_upto_region 10 with fail
      clear g0
      have KC4 := hid (kp_other (j := 7) (v := .int .i64 z0) KC3.out HNE.out.1 HNE.out.2.2.1)
      have KR4 := hid (kp_other (j := 7) (v := .int .i64 z0) KR3.out HNE.out.2.1 HNE.out.2.2.1)
      have KL4 : Hid (Kp w _ L (.cells #[.int .u8 x0, .int .u8 x1, .int .u8 x2, .int .u8 x3, .int .i64 c.n, .int .i64 c.s0, .int .i64 0, .int .i64 z0, .int .i64 0, .int .i64 0, .int .i64 0] 44)) := hid (kp_set (j := 7) (v := .int .i64 z0) KL3.out)
      generalize (W3.setCell ⟨L, 7, none⟩ (.int .i64 z0)) = W4 at KC4 KR4 KL4 ⊢
      clear KC3 KR3 KL3 fz cz
      obtain ⟨bb', oo', r0', r1', ea, hbb', hr, g0, g1⟩ := HW.out.1.pick KC4.out.1 htn0
      cases ea
      have er : r0' = y0 := (mx_at (by have := E0.out; have := HT0.out; omega) hr).symm.trans Y0.out
      rw [er] at g0
      clear hr g1 er
      have fz := kp_froz KL4.out 9
      have cz := kp_cell (j := 9) (v := .int .i64 0) KL4.out rfl
      go_upto_region 6 with fail
      clear g0
      have KC5 := hid (kp_other (j := 9) (v := .int .i64 y0) KC4.out HNE.out.1 HNE.out.2.2.1)
      have KR5 := hid (kp_other (j := 9) (v := .int .i64 y0) KR4.out HNE.out.2.1 HNE.out.2.2.1)
      have KL5 : Hid (Kp w _ L (.cells #[.int .u8 x0, .int .u8 x1, .int .u8 x2, .int .u8 x3, .int .i64 c.n, .int .i64 c.s0, .int .i64 0, .int .i64 z0, .int .i64 0, .int .i64 y0, .int .i64 0] 44)) := hid (kp_set (j := 9) (v := .int .i64 y0) KL4.out)
      generalize (W4.setCell ⟨L, 9, none⟩ (.int .i64 y0)) = W5 at KC5 KR5 KL5 ⊢
      clear KC4 KR4 KL4 fz cz
      go_wp2
      rw [rounds_succ]
      obtain ⟨g0, g1, g2, g3, g4, g5, g6, g7, g8, g9, g10⟩ := box_elf KL5.out.2.2
      go_wp2_with (refine wpList_store_whole rfl 44 (.tmp 6) (.tmp 52) rfl N2 (lnC x0 x1 x2 x3 c.n c.s0 0 z0 0 y0 0) rfl rfl 44 _ KR5.out.2.2 rfl (by show _ = some 11; exact size_ln) (lnC_one _ _ _ _ _ _ _ _ _ _ _) ?_; intro w9 hp9 hg9; have KR9 := hid (kp_at KR5.out hg9 hp9); clear hp9 hg9)
      (try simp only [Exit.inBlock, Exit.then])
      show bodyPost Try.prog Try.f22 _ _ _ _
      refine bodyPost_ret (results_cell_row (p := 6) rfl _ _ N2 _ (lnC x0 x1 x2 x3 c.n c.s0 0 z0 0 y0 0) (0, 0) _ rfl KR9.out.2.2 Try.underlying44 rfl (by kernel_rfl)) rfl ?_
      exact ⟨by rw [HS1.out]; rfl, KR9.out.1⟩
    · rw [lineV_2 hg, ez0, ey0]
      have R1 := hid (HCG.out.2.2.elim (fun h => absurd h.1 (by decide)) (fun h => h.2))
      obtain ⟨z1, ez1⟩ : ∃ y, mn c.b1 = y := ⟨_, rfl⟩
      obtain ⟨y1, ey1⟩ : ∃ y, mx c.b1 = y := ⟨_, rfl⟩
      have Z1 := hid ez1
      have Y1 := hid ey1
      rw [ez1, ey1]
      have hp1 : ¬ p1 = 0 := fun e => rk_ne R1.out HCG.out.1.1 (List.length_eq_zero_iff.mp (by have := E1.out; omega))
      obtain ⟨t1, ht1⟩ : ∃ t, p1 = t + 1 := ⟨p1 - 1, by omega⟩
      have hjk1 : (p1 : Int) - 1 = (t1 : Int) := by omega
      have hj01 : (0 : Int) ≤ (t1 : Int) := by omega
      have hjn1 : (t1 : Int) < (p1 : Int) := by omega
      have hpp1 : (0 : Int) < (p1 : Int) := by omega
      have hwj1 : IntKind.i64.wrap ((p1 : Int) - 1) = (t1 : Int) := by rw [hjk1]; exact IntWalk.i64_in _ (by omega)
      have HT1 := hid ht1
      have hpn1 : 0 < p1 := by omega
      have htn1 : t1 < p1 := by omega
      clear ht1 hp1
      clear hg ez0 ey0 ez1 ey1
      go_enter Try.func22, Try.ntmps22
      go_upto_region 1 with fail
      generalize ((w.alloc (.cells #[.int .u8 x0, .int .u8 x1, .int .u8 x2, .int .u8 x3] 28)).alloc (.cells #[.int .i64 c.n, .int .i64 c.s0, .int .i64 c.s1, .slice a0 p0 k0, .slice a1 p1 k1] 26)).alloc (.cells #[.int .u8 0, .int .u8 0, .int .u8 0, .int .u8 0, .int .i64 0, .int .i64 0, .int .i64 0, .int .i64 0, .int .i64 0, .int .i64 0, .int .i64 0] 44) = W0 at KA0 KC0 KR0 ⊢
      obtain ⟨d0, d1, d2, d3, d4⟩ := box_five KC0.out.2.2
      go_upto_region 3 with (go_at_call 20; refine (crgood_m _ _ _ _ _ _ _ _ true _ (HW.out.below KC0.out.1) HK.out HG).mono ?_; rintro e w1 ⟨rfl, hb1⟩; have KC1 := hid (KC0.out.step hb1); have KA1 := hid (KA0.out.step hb1); have KR1 := hid (KR0.out.step hb1); clear hb1 d0 d1 d2 d3 d4)
      obtain ⟨d0, d1, d2, d3, d4⟩ := box_five KC1.out.2.2
      obtain ⟨f0, f1, f2, f3⟩ := box_four KA1.out.2.2
      go_upto_region 4 with fail
      have KL2 : Hid (Kp w (w1.alloc (.cells #[.int .u8 x0, .int .u8 x1, .int .u8 x2, .int .u8 x3, .int .i64 c.n, .int .i64 0, .int .i64 0, .int .i64 0, .int .i64 0, .int .i64 0, .int .i64 0] 44)) w1.heap.size (.cells #[.int .u8 x0, .int .u8 x1, .int .u8 x2, .int .u8 x3, .int .i64 c.n, .int .i64 0, .int .i64 0, .int .i64 0, .int .i64 0, .int .i64 0, .int .i64 0] 44)) := hid (kp_new2 KC1.out.1 _ _ rfl)
      have KC2 := hid (kp_alloc KC1.out (.cells #[.int .u8 x0, .int .u8 x1, .int .u8 x2, .int .u8 x3, .int .i64 c.n, .int .i64 0, .int .i64 0, .int .i64 0, .int .i64 0, .int .i64 0, .int .i64 0] 44))
      have KR2 := hid (kp_alloc KR1.out (.cells #[.int .u8 x0, .int .u8 x1, .int .u8 x2, .int .u8 x3, .int .i64 c.n, .int .i64 0, .int .i64 0, .int .i64 0, .int .i64 0, .int .i64 0, .int .i64 0] 44))
      have hL : w.heap.size + 1 + 1 < w1.heap.size := heap_lt KR1.out.2.2
      clear d0 d1 d2 d3 d4 f0 f1 f2 f3 KA0 KC0 KR0 KA1 KC1 KR1
      obtain ⟨N2, hN2⟩ : ∃ y, w.heap.size + 1 + 1 = y := ⟨_, rfl⟩
      rw [hN2] at KR2 hL ⊢
      obtain ⟨N1, hN1⟩ : ∃ y, w.heap.size + 1 = y := ⟨_, rfl⟩
      rw [hN1] at KC2 hN2 ⊢
      have ne1 : ¬ N1 = w1.heap.size := by omega
      have ne2 : ¬ N2 = w1.heap.size := by omega
      have geL : w.heap.size ≤ w1.heap.size := by omega
      have ne12 : ¬ N1 = N2 := by omega
      have HNE := hid (And.intro ne1 (And.intro ne2 (And.intro geL ne12)))
      clear hN1 hN2 hL ne1 ne2 geL ne12
      generalize w1.heap.size = L at KL2 HNE ⊢
      generalize w1.alloc (.cells #[.int .u8 x0, .int .u8 x1, .int .u8 x2, .int .u8 x3, .int .i64 c.n, .int .i64 0, .int .i64 0, .int .i64 0, .int .i64 0, .int .i64 0, .int .i64 0] 44) = W2 at KL2 KC2 KR2 ⊢
      go_upto_region 5 with fail
      refine wp_loop_rounds 3 ?_
      rw [rounds_succ]
      obtain ⟨d0, d1, d2, d3, d4⟩ := box_five KC2.out.2.2
      have fz := kp_froz KL2.out 5
      have cz := kp_cell (j := 5) (v := .int .i64 0) KL2.out rfl
      go_upto_region 9 with fail
      clear d0 d1 d2 d3 d4
      have KC3 := hid (kp_other (j := 5) (v := .int .i64 c.s0) KC2.out HNE.out.1 HNE.out.2.2.1)
      have KR3 := hid (kp_other (j := 5) (v := .int .i64 c.s0) KR2.out HNE.out.2.1 HNE.out.2.2.1)
      have KL3 : Hid (Kp w _ L (.cells #[.int .u8 x0, .int .u8 x1, .int .u8 x2, .int .u8 x3, .int .i64 c.n, .int .i64 c.s0, .int .i64 0, .int .i64 0, .int .i64 0, .int .i64 0, .int .i64 0] 44)) := hid (kp_set (j := 5) (v := .int .i64 c.s0) KL2.out)
      generalize (W2.setCell ⟨L, 5, none⟩ (.int .i64 c.s0)) = W3 at KC3 KR3 KL3 ⊢
      clear KC2 KR2 KL2 fz cz
      obtain ⟨bb, oo, r0, r1, ea, hbb, hr, g0, g1⟩ := HW.out.1.pick KC3.out.1 hpn0
      simp only [Nat.zero_mul, Nat.add_zero] at g0
      subst ea
      have er : r0 = z0 := (mn_at hr).symm.trans Z0.out
      rw [er] at g0
      clear hr g1 er
      have fz := kp_froz KL3.out 7
      have cz := kp_cell (j := 7) (v := .int .i64 0) KL3.out rfl
      go_upto_region 10 with fail
      clear g0
      have KC4 := hid (kp_other (j := 7) (v := .int .i64 z0) KC3.out HNE.out.1 HNE.out.2.2.1)
      have KR4 := hid (kp_other (j := 7) (v := .int .i64 z0) KR3.out HNE.out.2.1 HNE.out.2.2.1)
      have KL4 : Hid (Kp w _ L (.cells #[.int .u8 x0, .int .u8 x1, .int .u8 x2, .int .u8 x3, .int .i64 c.n, .int .i64 c.s0, .int .i64 0, .int .i64 z0, .int .i64 0, .int .i64 0, .int .i64 0] 44)) := hid (kp_set (j := 7) (v := .int .i64 z0) KL3.out)
      generalize (W3.setCell ⟨L, 7, none⟩ (.int .i64 z0)) = W4 at KC4 KR4 KL4 ⊢
      clear KC3 KR3 KL3 fz cz
      obtain ⟨bb', oo', r0', r1', ea, hbb', hr, g0, g1⟩ := HW.out.1.pick KC4.out.1 htn0
      cases ea
      have er : r0' = y0 := (mx_at (by have := E0.out; have := HT0.out; omega) hr).symm.trans Y0.out
      rw [er] at g0
      clear hr g1 er
      have fz := kp_froz KL4.out 9
      have cz := kp_cell (j := 9) (v := .int .i64 0) KL4.out rfl
      go_upto_region 6 with fail
      clear g0
      have KC5 := hid (kp_other (j := 9) (v := .int .i64 y0) KC4.out HNE.out.1 HNE.out.2.2.1)
      have KR5 := hid (kp_other (j := 9) (v := .int .i64 y0) KR4.out HNE.out.2.1 HNE.out.2.2.1)
      have KL5 : Hid (Kp w _ L (.cells #[.int .u8 x0, .int .u8 x1, .int .u8 x2, .int .u8 x3, .int .i64 c.n, .int .i64 c.s0, .int .i64 0, .int .i64 z0, .int .i64 0, .int .i64 y0, .int .i64 0] 44)) := hid (kp_set (j := 9) (v := .int .i64 y0) KL4.out)
      generalize (W4.setCell ⟨L, 9, none⟩ (.int .i64 y0)) = W5 at KC5 KR5 KL5 ⊢
      clear KC4 KR4 KL4 fz cz
      go_wp2
      rw [rounds_succ]
      obtain ⟨d0, d1, d2, d3, d4⟩ := box_five KC5.out.2.2
      have fz := kp_froz KL5.out 6
      have cz := kp_cell (j := 6) (v := .int .i64 0) KL5.out rfl
      go_upto_region 9 with fail
      clear d0 d1 d2 d3 d4
      have KC6 := hid (kp_other (j := 6) (v := .int .i64 c.s1) KC5.out HNE.out.1 HNE.out.2.2.1)
      have KR6 := hid (kp_other (j := 6) (v := .int .i64 c.s1) KR5.out HNE.out.2.1 HNE.out.2.2.1)
      have KL6 : Hid (Kp w _ L (.cells #[.int .u8 x0, .int .u8 x1, .int .u8 x2, .int .u8 x3, .int .i64 c.n, .int .i64 c.s0, .int .i64 c.s1, .int .i64 z0, .int .i64 0, .int .i64 y0, .int .i64 0] 44)) := hid (kp_set (j := 6) (v := .int .i64 c.s1) KL5.out)
      generalize (W5.setCell ⟨L, 6, none⟩ (.int .i64 c.s1)) = W6 at KC6 KR6 KL6 ⊢
      clear KC5 KR5 KL5 fz cz
      obtain ⟨bb, oo, r0, r1, ea, hbb, hr, g0, g1⟩ := HW.out.2.pick KC6.out.1 hpn1
      simp only [Nat.zero_mul, Nat.add_zero] at g0
      subst ea
      have er : r0 = z1 := (mn_at hr).symm.trans Z1.out
      rw [er] at g0
      clear hr g1 er
      have fz := kp_froz KL6.out 8
      have cz := kp_cell (j := 8) (v := .int .i64 0) KL6.out rfl
      go_upto_region 10 with fail
      clear g0
      have KC7 := hid (kp_other (j := 8) (v := .int .i64 z1) KC6.out HNE.out.1 HNE.out.2.2.1)
      have KR7 := hid (kp_other (j := 8) (v := .int .i64 z1) KR6.out HNE.out.2.1 HNE.out.2.2.1)
      have KL7 : Hid (Kp w _ L (.cells #[.int .u8 x0, .int .u8 x1, .int .u8 x2, .int .u8 x3, .int .i64 c.n, .int .i64 c.s0, .int .i64 c.s1, .int .i64 z0, .int .i64 z1, .int .i64 y0, .int .i64 0] 44)) := hid (kp_set (j := 8) (v := .int .i64 z1) KL6.out)
      generalize (W6.setCell ⟨L, 8, none⟩ (.int .i64 z1)) = W7 at KC7 KR7 KL7 ⊢
      clear KC6 KR6 KL6 fz cz
      obtain ⟨bb', oo', r0', r1', ea, hbb', hr, g0, g1⟩ := HW.out.2.pick KC7.out.1 htn1
      cases ea
      have er : r0' = y1 := (mx_at (by have := E1.out; have := HT1.out; omega) hr).symm.trans Y1.out
      rw [er] at g0
      clear hr g1 er
      have fz := kp_froz KL7.out 10
      have cz := kp_cell (j := 10) (v := .int .i64 0) KL7.out rfl
      go_upto_region 6 with fail
      clear g0
      have KC8 := hid (kp_other (j := 10) (v := .int .i64 y1) KC7.out HNE.out.1 HNE.out.2.2.1)
      have KR8 := hid (kp_other (j := 10) (v := .int .i64 y1) KR7.out HNE.out.2.1 HNE.out.2.2.1)
      have KL8 : Hid (Kp w _ L (.cells #[.int .u8 x0, .int .u8 x1, .int .u8 x2, .int .u8 x3, .int .i64 c.n, .int .i64 c.s0, .int .i64 c.s1, .int .i64 z0, .int .i64 z1, .int .i64 y0, .int .i64 y1] 44)) := hid (kp_set (j := 10) (v := .int .i64 y1) KL7.out)
      generalize (W7.setCell ⟨L, 10, none⟩ (.int .i64 y1)) = W8 at KC8 KR8 KL8 ⊢
      clear KC7 KR7 KL7 fz cz
      go_wp2
      rw [rounds_succ]
      obtain ⟨g0, g1, g2, g3, g4, g5, g6, g7, g8, g9, g10⟩ := box_elf KL8.out.2.2
      go_wp2_with (refine wpList_store_whole rfl 44 (.tmp 6) (.tmp 52) rfl N2 (lnC x0 x1 x2 x3 c.n c.s0 c.s1 z0 z1 y0 y1) rfl rfl 44 _ KR8.out.2.2 rfl (by show _ = some 11; exact size_ln) (lnC_one _ _ _ _ _ _ _ _ _ _ _) ?_; intro w9 hp9 hg9; have KR9 := hid (kp_at KR8.out hg9 hp9); clear hp9 hg9)
      (try simp only [Exit.inBlock, Exit.then])
      show bodyPost Try.prog Try.f22 _ _ _ _
      refine bodyPost_ret (results_cell_row (p := 6) rfl _ _ N2 _ (lnC x0 x1 x2 x3 c.n c.s0 c.s1 z0 z1 y0 y1) (0, 0) _ rfl KR9.out.2.2 Try.underlying44 rfl (by kernel_rfl)) rfl ?_
      exact ⟨rfl, KR9.out.1⟩

end Go.Proofs.Ytgmnnpecihcdhaa

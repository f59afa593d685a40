/-
  Both together: what Join of cell returns.
  Conditions: as each theorem states them.
-/
import Derived.Test.YtjkkajhjcinalaaG9
namespace Go.Proofs.Ytjkkajhjcinalaa
open Go.ChangeShapes Go.WideShapes Go.ChangeAt Go.RowKit
set_option linter.unusedVariables false
set_option linter.unusedSimpArgs false
set_option maxRecDepth 100000

theorem kp_three (w : World) (o o' o'' : Obj) : Kp w (((w.alloc o).alloc o').alloc o'') (w.heap.size + 1 + 1) o'' := kp_new2 (bt (b1alloc _ _) (b1alloc _ _)) _ _ (by simp)
theorem cjB_a {m : Int} {c d : Cl} (h : cg m c = false) : cjB m c d = false := cjB_no (fun g => by rw [cg_yes g.1] at h; cases h)
theorem cjB_b {m : Int} {c d : Cl} (h : cg m d = false) : cjB m c d = false := cjB_no (fun g => by rw [cg_yes g.2.1] at h; cases h)
theorem cjB_f0 {m : Int} {c d : Cl} (h : calc.fitB (c.s0 + d.s0) = false) : cjB m c d = false := cjB_no (fun g => by rw [g.2.2.2.1] at h; cases h)
theorem cjB_f1 {c d : Cl} (h : calc.fitB (c.s1 + d.s1) = false) : cjB 2 c d = false := cjB_no (fun g => by
  rcases g.2.2.2.2 with e | e
  · cases e
  · rw [e] at h; cases h)
theorem cg_two1 {c : Cl} (h : CG 2 c) : Rk1 c.n c.s1 c.b1 := h.2.2.elim (fun h => absurd h.1 (by decide)) (fun h => h.2)
theorem cg_one1 {c : Cl} (h : CG 1 c) : c.s1 = 0 ∧ c.b1 = [] := h.2.2.elim (fun h => h.2) (fun h => absurd h.1 (by decide))
theorem cjB_v0 {m : Int} {c d : Cl} (h : Jn c.b0 d.b0 = false) : cjB m c d = false := cjB_no (fun g => by
  rw [jn_yes g.1.2.1.1 g.2.1.2.1.1 (by rw [g.1.2.1.2.1, g.2.1.2.1.2.1]; exact g.2.2.1)] at h; cases h)
theorem cjB_v1 {c d : Cl} (h : Jn c.b1 d.b1 = false) : cjB 2 c d = false := cjB_no (fun g => by
  have x := cg_two1 g.1
  have y := cg_two1 g.2.1
  rw [jn_yes x.1 y.1 (by rw [x.2.1, y.2.1]; exact g.2.2.1)] at h; cases h)
theorem jn_le {a b : List Rn} (h : Jn a b = true) : tot a + tot b ≤ 1099511627776 := by
  by_cases hh : tot a + tot b ≤ 1099511627776
  · exact hh
  · rw [jn_no3 (by omega)] at h; cases h
theorem cjB_ok1 {c d : Cl} (hc : CG 1 c) (hd : CG 1 d) (hf : calc.fitB (c.s0 + d.s0) = true) (hj : Jn c.b0 d.b0 = true) : cjB 1 c d = true :=
  cjB_iff.2 ⟨hc, hd, by have := jn_le hj; rw [hc.2.1.2.1, hd.2.1.2.1] at this; exact this, hf, .inl rfl⟩
theorem cjB_ok2 {c d : Cl} (hc : CG 2 c) (hd : CG 2 d) (hf : calc.fitB (c.s0 + d.s0) = true) (hj : Jn c.b0 d.b0 = true) (hf1 : calc.fitB (c.s1 + d.s1) = true) : cjB 2 c d = true :=
  cjB_iff.2 ⟨hc, hd, by have := jn_le hj; rw [hc.2.1.2.1, hd.2.1.2.1] at this; exact this, hf, .inr hf1⟩

theorem kq_other {w wr : World} {M j : Nat} {o o' : Obj} {v : Value} (h : Kq w wr o o') (hM : w.heap.size + 1 < M) : Kq w (wr.setCell ⟨M, j, none⟩ v) o o' :=
  ⟨kp_other h.1 (by omega) (by omega), kp_other h.2 (by omega) (by omega)⟩
theorem cadd_m (a b S : Int) (f : Bool) (w : World) (ha : I64 a) (hb : I64 b) (hS : Hid (calc.fitV (a + b) = S)) (hf : Hid (calc.fitB (a + b) = f)) :
    Calls Try.prog 65 #[.int .i64 a, .int .i64 b] w fun e w' => e = .returned (.tuple #[.int .i64 S, .bool f]) ∧ Below w.heap.size w w' := by
  refine (calc.add_any a b w ha hb).mono ?_
  rintro e w' ⟨rfl, rfl⟩
  exact ⟨by rw [hS.out, hf.out], Below.refl _ _⟩

set_option maxHeartbeats 32000000 in
theorem cjoin_m (m : Int) (c d : Cl) (a0 : Option Addr) (p0 k0 : Nat) (a1 : Option Addr) (p1 k1 : Nat) (b0 : Option Addr) (q0 j0 : Nat) (b1 : Option Addr) (q1 j1 : Nat) (C : Cl) (v : Bool) (w : World) (hw : CW w a0 p0 k0 a1 p1 k1 c) (hz : CW w b0 q0 j0 b1 q1 j1 d) (hk : okc c) (hk' : okc d) (hp : p0 ≤ 1000 ∧ p1 ≤ 1000 ∧ q0 ≤ 1000 ∧ q1 ≤ 1000) (hC : Hid (cjC m c d = C)) (hv : Hid (cjB m c d = v)) :
    Calls Try.prog 23 #[.int .i64 m, .agg #[.int .i64 c.n, .int .i64 c.s0, .int .i64 c.s1, .slice a0 p0 k0, .slice a1 p1 k1], .agg #[.int .i64 d.n, .int .i64 d.s0, .int .i64 d.s1, .slice b0 q0 j0, .slice b1 q1 j1]] w fun e w' => (∃ a0 p0 k0 a1 p1 k1, e = .returned (.tuple #[.agg #[.int .i64 C.n, .int .i64 C.s0, .int .i64 C.s1, .slice a0 p0 k0, .slice a1 p1 k1], .bool v]) ∧ CW w' a0 p0 k0 a1 p1 k1 C) ∧ Below w.heap.size w w' := by
  have HW := hid hw
  have HV := hid hz
  have HK := hid hk
  have HK2 := hid hk'
  obtain ⟨pp0, pp1, qq0, qq1⟩ := hp
  have KQ0 : Hid (Kq w (((w.alloc (.cells #[.int .i64 c.n, .int .i64 c.s0, .int .i64 c.s1, .slice a0 p0 k0, .slice a1 p1 k1] 26)).alloc (.cells #[.int .i64 d.n, .int .i64 d.s0, .int .i64 d.s1, .slice b0 q0 j0, .slice b1 q1 j1] 26)).alloc (.cells #[.int .i64 0, .int .i64 0, .int .i64 0, .slice none 0 0, .slice none 0 0] 26)) (.cells #[.int .i64 c.n, .int .i64 c.s0, .int .i64 c.s1, .slice a0 p0 k0, .slice a1 p1 k1] 26) (.cells #[.int .i64 d.n, .int .i64 d.s0, .int .i64 d.s1, .slice b0 q0 j0, .slice b1 q1 j1] 26)) := hid ((kq_new w _ _).step (b1alloc _ _))
  have KR0 : Hid (Kp w (((w.alloc (.cells #[.int .i64 c.n, .int .i64 c.s0, .int .i64 c.s1, .slice a0 p0 k0, .slice a1 p1 k1] 26)).alloc (.cells #[.int .i64 d.n, .int .i64 d.s0, .int .i64 d.s1, .slice b0 q0 j0, .slice b1 q1 j1] 26)).alloc (.cells #[.int .i64 0, .int .i64 0, .int .i64 0, .slice none 0 0, .slice none 0 0] 26)) (w.heap.size + 1 + 1) (.cells #[.int .i64 0, .int .i64 0, .int .i64 0, .slice none 0 0, .slice none 0 0] 26)) := hid (kp_three _ _ _ _)
  have tk : True := trivial
  clear hw hz hk hk'
  cases ga : cg m c with
  | false =>
    have GA := hid ga
    have HZ := hid (And.intro (hC.out.symm.trans (cjC_no (cjB_a ga))) (hv.out.symm.trans (cjB_a ga)))
    clear ga
    go_enter Try.func23, Try.ntmps23
    go_upto_region 1 with fail
    generalize ((w.alloc (.cells #[.int .i64 c.n, .int .i64 c.s0, .int .i64 c.s1, .slice a0 p0 k0, .slice a1 p1 k1] 26)).alloc (.cells #[.int .i64 d.n, .int .i64 d.s0, .int .i64 d.s1, .slice b0 q0 j0, .slice b1 q1 j1] 26)).alloc (.cells #[.int .i64 0, .int .i64 0, .int .i64 0, .slice none 0 0, .slice none 0 0] 26) = W0 at KQ0 KR0 ⊢
    obtain ⟨_, d0, d1, d2, d3, d4, f0, f1, f2, f3, f4⟩ := KQ0.out.ten (Below.refl _ _)
    go_upto_region 2 with (go_at_call 19; clear tk; refine (cgood_m _ _ _ _ _ _ _ _ false _ (HW.out.below KQ0.out.1.1) HK.out GA).mono ?_; rintro e w1 ⟨rfl, hb⟩; have KQ1 := hid (KQ0.out.step hb); have KR1 := hid (KR0.out.step hb); obtain ⟨_, x0, x1, x2, x3, x4, y0, y1, y2, y3, y4⟩ := KQ1.out.ten (Below.refl _ _); clear hb)
    obtain ⟨N2, hN2⟩ : ∃ y, w.heap.size + 1 + 1 = y := ⟨_, rfl⟩
    rw [hN2] at KR1 ⊢
    go_wp2_with (refine wpList_store_whole rfl 26 (.tmp 6) (.tmp 24) rfl N2 (clC 0 0 0 none 0 0 none 0 0) rfl rfl 26 _ KR1.out.2.2 rfl (by show _ = some 5; exact size_cl) (clC_one _ _ _ _ _ _ _ _ _) ?_; intro w9 hp9 hg9; have KR9 := hid (kp_at KR1.out hg9 hp9); clear hp9 hg9)
    (try simp only [Exit.inBlock, Exit.then])
    show bodyPost Try.prog Try.f23 _ _ _ _
    refine bodyPost_ret (results_cell_slot (p := 6) (u := 7) rfl _ _ N2 _ (clC 0 0 0 none 0 0 none 0 0) (0, 0) _ (.bool false) rfl rfl KR9.out.2.2 Try.underlying26 rfl (by kernel_rfl)) rfl ?_
    obtain ⟨z1, z2⟩ := HZ.out; subst z1; subst z2; exact ⟨⟨none, 0, 0, none, 0, 0, rfl, cw_nil _⟩, KR9.out.1⟩
  | true =>
    have GA := hid ga
    cases gb : cg m d with
    | false =>
      have GB := hid gb
      have HZ := hid (And.intro (hC.out.symm.trans (cjC_no (cjB_b gb))) (hv.out.symm.trans (cjB_b gb)))
      clear ga gb
      go_enter Try.func23, Try.ntmps23
      go_upto_region 1 with fail
      generalize ((w.alloc (.cells #[.int .i64 c.n, .int .i64 c.s0, .int .i64 c.s1, .slice a0 p0 k0, .slice a1 p1 k1] 26)).alloc (.cells #[.int .i64 d.n, .int .i64 d.s0, .int .i64 d.s1, .slice b0 q0 j0, .slice b1 q1 j1] 26)).alloc (.cells #[.int .i64 0, .int .i64 0, .int .i64 0, .slice none 0 0, .slice none 0 0] 26) = W0 at KQ0 KR0 ⊢
      obtain ⟨_, d0, d1, d2, d3, d4, f0, f1, f2, f3, f4⟩ := KQ0.out.ten (Below.refl _ _)
      go_upto_region 2 with (first
        | (go_at_call 19; clear tk; refine (cgood_m _ _ _ _ _ _ _ _ true _ (HW.out.below KQ0.out.1.1) HK.out GA).mono ?_; rintro e w1 ⟨rfl, hb⟩; have KQ1 := hid (KQ0.out.step hb); have KR1 := hid (KR0.out.step hb); obtain ⟨_, x0, x1, x2, x3, x4, y0, y1, y2, y3, y4⟩ := KQ1.out.ten (Below.refl _ _); clear hb)
        | (go_at_call 19; refine (cgood_m _ _ _ _ _ _ _ _ false _ (HV.out.below KQ1.out.1.1) HK2.out GB).mono ?_; rintro e w2 ⟨rfl, hb⟩; have KQ2 := hid (KQ1.out.step hb); have KR2 := hid (KR1.out.step hb); obtain ⟨_, x0, x1, x2, x3, x4, y0, y1, y2, y3, y4⟩ := KQ2.out.ten (Below.refl _ _); clear hb))
      obtain ⟨N2, hN2⟩ : ∃ y, w.heap.size + 1 + 1 = y := ⟨_, rfl⟩
      rw [hN2] at KR2 ⊢
      go_wp2_with (refine wpList_store_whole rfl 26 (.tmp 6) (.tmp 24) rfl N2 (clC 0 0 0 none 0 0 none 0 0) rfl rfl 26 _ KR2.out.2.2 rfl (by show _ = some 5; exact size_cl) (clC_one _ _ _ _ _ _ _ _ _) ?_; intro w9 hp9 hg9; have KR9 := hid (kp_at KR2.out hg9 hp9); clear hp9 hg9)
      (try simp only [Exit.inBlock, Exit.then])
      show bodyPost Try.prog Try.f23 _ _ _ _
      refine bodyPost_ret (results_cell_slot (p := 6) (u := 7) rfl _ _ N2 _ (clC 0 0 0 none 0 0 none 0 0) (0, 0) _ (.bool false) rfl rfl KR9.out.2.2 Try.underlying26 rfl (by kernel_rfl)) rfl ?_
      obtain ⟨z1, z2⟩ := HZ.out; subst z1; subst z2; exact ⟨⟨none, 0, 0, none, 0, 0, rfl, cw_nil _⟩, KR9.out.1⟩
    | true =>
      have GB := hid gb
      have CA := hid (cg_iff.1 ga)
      have CB := hid (cg_iff.1 gb)
      have na := CA.out.1
      have nb := CB.out.1
      obtain ⟨na1, na2⟩ := na
      obtain ⟨nb1, nb2⟩ := nb
      have hwn : IntKind.i64.wrap (c.n + d.n) = c.n + d.n := IntWalk.i64_in _ (by omega)
      have ea := hid (cg_m ga)
      clear ga gb
      obtain ⟨S0, hS0⟩ : ∃ y, calc.fitV (c.s0 + d.s0) = y := ⟨_, rfl⟩
      obtain ⟨u0, hu0⟩ : ∃ y, calc.fitB (c.s0 + d.s0) = y := ⟨_, rfl⟩
      obtain ⟨M0, hM0⟩ : ∃ y, Jl c.b0 d.b0 = y := ⟨_, rfl⟩
      obtain ⟨t0, ht0⟩ : ∃ y, M0.length = y := ⟨_, rfl⟩
      obtain ⟨V0, hV0⟩ : ∃ y, Jn c.b0 d.b0 = y := ⟨_, rfl⟩
      have FS0 := hid hS0
      have FF0 := hid hu0
      have FM0 := hid hM0
      have FT0 := hid ht0
      have FV0 := hid hV0
      clear hS0 hu0 hM0 ht0 hV0
      go_enter Try.func23, Try.ntmps23
      go_upto_region 1 with fail
      generalize ((w.alloc (.cells #[.int .i64 c.n, .int .i64 c.s0, .int .i64 c.s1, .slice a0 p0 k0, .slice a1 p1 k1] 26)).alloc (.cells #[.int .i64 d.n, .int .i64 d.s0, .int .i64 d.s1, .slice b0 q0 j0, .slice b1 q1 j1] 26)).alloc (.cells #[.int .i64 0, .int .i64 0, .int .i64 0, .slice none 0 0, .slice none 0 0] 26) = W0 at KQ0 KR0 ⊢
      obtain ⟨_, d0, d1, d2, d3, d4, f0, f1, f2, f3, f4⟩ := KQ0.out.ten (Below.refl _ _)
      go_upto_region 3 with (first
        | (go_at_call 19; clear tk; refine (cgood_m _ _ _ _ _ _ _ _ true _ (HW.out.below KQ0.out.1.1) HK.out GA).mono ?_; rintro e w1 ⟨rfl, hb⟩; have KQ1 := hid (KQ0.out.step hb); have KR1 := hid (KR0.out.step hb); obtain ⟨_, x0, x1, x2, x3, x4, y0, y1, y2, y3, y4⟩ := KQ1.out.ten (Below.refl _ _); clear hb)
        | (go_at_call 19; refine (cgood_m _ _ _ _ _ _ _ _ true _ (HV.out.below KQ1.out.1.1) HK2.out GB).mono ?_; rintro e w2 ⟨rfl, hb⟩; have KQ2 := hid (KQ1.out.step hb); have KR2 := hid (KR1.out.step hb); obtain ⟨_, x0, x1, x2, x3, x4, y0, y1, y2, y3, y4⟩ := KQ2.out.ten (Below.refl _ _); clear hb))
      obtain ⟨N2, hN2⟩ : ∃ y, w.heap.size + 1 + 1 = y := ⟨_, rfl⟩
      rw [hN2] at KR2 ⊢
      go_upto_region 4 with fail
      have KN3 : Hid (Kp w (w2.alloc (.cells #[.int .i64 (c.n + d.n), .int .i64 0, .int .i64 0, .slice none 0 0, .slice none 0 0] 26)) w2.heap.size (.cells #[.int .i64 (c.n + d.n), .int .i64 0, .int .i64 0, .slice none 0 0, .slice none 0 0] 26)) := hid (kp_new2 KR2.out.1 _ _ rfl)
      have hne : N2 < w2.heap.size := heap_lt KR2.out.2.2
      have KR3 := hid (kp_alloc KR2.out (.cells #[.int .i64 (c.n + d.n), .int .i64 0, .int .i64 0, .slice none 0 0, .slice none 0 0] 26))
      have KQ3 := hid (KQ2.out.step (b1alloc w2 (.cells #[.int .i64 (c.n + d.n), .int .i64 0, .int .i64 0, .slice none 0 0, .slice none 0 0] 26)))
      have HNN := hid (And.intro hne (show w.heap.size ≤ N2 by omega))
      have HN1 : Hid (w.heap.size + 1 < w2.heap.size) := hid (by omega)
      clear hne KR0 KR1 KR2 KQ0 KQ1 KQ2 hN2 d0 d1 d2 d3 d4 f0 f1 f2 f3 f4 x0 x1 x2 x3 x4 y0 y1 y2 y3 y4
      generalize w2.alloc (.cells #[.int .i64 (c.n + d.n), .int .i64 0, .int .i64 0, .slice none 0 0, .slice none 0 0] 26) = W3 at KN3 KR3 KQ3 ⊢
      generalize w2.heap.size = G at KN3 HNN HN1 ⊢
      go_upto_region 5 with fail
      refine wp_loop_rounds 3 ?_
      rw [rounds_succ]
      rcases ea.out with em | em
      · subst em
        clear ea
        have hm0 : True := trivial
        have KS : Hid (∀ y, Below W3.heap.size W3 y → Below W3.heap.size W3 y ∧ y.cell? ⟨w.heap.size, 0, none⟩ = some (.int .i64 c.n) ∧ y.cell? ⟨w.heap.size, 1, none⟩ = some (.int .i64 c.s0) ∧ y.cell? ⟨w.heap.size, 2, none⟩ = some (.int .i64 c.s1) ∧ y.cell? ⟨w.heap.size, 3, none⟩ = some (.slice a0 p0 k0) ∧ y.cell? ⟨w.heap.size, 4, none⟩ = some (.slice a1 p1 k1) ∧ y.cell? ⟨w.heap.size + 1, 0, none⟩ = some (.int .i64 d.n) ∧ y.cell? ⟨w.heap.size + 1, 1, none⟩ = some (.int .i64 d.s0) ∧ y.cell? ⟨w.heap.size + 1, 2, none⟩ = some (.int .i64 d.s1) ∧ y.cell? ⟨w.heap.size + 1, 3, none⟩ = some (.slice b0 q0 j0) ∧ y.cell? ⟨w.heap.size + 1, 4, none⟩ = some (.slice b1 q1 j1)) := hid (fun y hb => KQ3.out.ten hb)
        go_wp2
        go_region_held3 (fun y => Below W3.heap.size W3 y ∧ y.cell? ⟨w.heap.size, 0, none⟩ = some (.int .i64 c.n) ∧ y.cell? ⟨w.heap.size, 1, none⟩ = some (.int .i64 c.s0) ∧ y.cell? ⟨w.heap.size, 2, none⟩ = some (.int .i64 c.s1) ∧ y.cell? ⟨w.heap.size, 3, none⟩ = some (.slice a0 p0 k0) ∧ y.cell? ⟨w.heap.size, 4, none⟩ = some (.slice a1 p1 k1) ∧ y.cell? ⟨w.heap.size + 1, 0, none⟩ = some (.int .i64 d.n) ∧ y.cell? ⟨w.heap.size + 1, 1, none⟩ = some (.int .i64 d.s0) ∧ y.cell? ⟨w.heap.size + 1, 2, none⟩ = some (.int .i64 d.s1) ∧ y.cell? ⟨w.heap.size + 1, 3, none⟩ = some (.slice b0 q0 j0) ∧ y.cell? ⟨w.heap.size + 1, 4, none⟩ = some (.slice b1 q1 j1))
          (first | assumption | exact keep_drew KS | exact keep_step (by assumption) (by assumption) KS | (obtain rfl := ‹_ = _›; assumption))
          (first
            | (go_at_call 65; refine (cadd_m _ _ S0 u0 _ HK.out.2.1 HK2.out.2.1 FS0 FF0).mono ?_; rintro e w3a ⟨rfl, hba⟩))
        have KQ3a := hid (KQ3.out.step (undrew hba))
        have KR3a := hid (KR3.out.step (undrew hba))
        have KN3a := hid (KN3.out.step (undrew hba))
        have KS2 : Hid (∀ y, Below w3a.heap.size w3a y → Below w3a.heap.size w3a y ∧ y.cell? ⟨w.heap.size, 0, none⟩ = some (.int .i64 c.n) ∧ y.cell? ⟨w.heap.size, 1, none⟩ = some (.int .i64 c.s0) ∧ y.cell? ⟨w.heap.size, 2, none⟩ = some (.int .i64 c.s1) ∧ y.cell? ⟨w.heap.size, 3, none⟩ = some (.slice a0 p0 k0) ∧ y.cell? ⟨w.heap.size, 4, none⟩ = some (.slice a1 p1 k1) ∧ y.cell? ⟨w.heap.size + 1, 0, none⟩ = some (.int .i64 d.n) ∧ y.cell? ⟨w.heap.size + 1, 1, none⟩ = some (.int .i64 d.s0) ∧ y.cell? ⟨w.heap.size + 1, 2, none⟩ = some (.int .i64 d.s1) ∧ y.cell? ⟨w.heap.size + 1, 3, none⟩ = some (.slice b0 q0 j0) ∧ y.cell? ⟨w.heap.size + 1, 4, none⟩ = some (.slice b1 q1 j1)) := hid (fun y hb => KQ3a.out.ten hb)
        clear KS hba
        go_wp2
        go_region_held3 (fun y => Below w3a.heap.size w3a y ∧ y.cell? ⟨w.heap.size, 0, none⟩ = some (.int .i64 c.n) ∧ y.cell? ⟨w.heap.size, 1, none⟩ = some (.int .i64 c.s0) ∧ y.cell? ⟨w.heap.size, 2, none⟩ = some (.int .i64 c.s1) ∧ y.cell? ⟨w.heap.size, 3, none⟩ = some (.slice a0 p0 k0) ∧ y.cell? ⟨w.heap.size, 4, none⟩ = some (.slice a1 p1 k1) ∧ y.cell? ⟨w.heap.size + 1, 0, none⟩ = some (.int .i64 d.n) ∧ y.cell? ⟨w.heap.size + 1, 1, none⟩ = some (.int .i64 d.s0) ∧ y.cell? ⟨w.heap.size + 1, 2, none⟩ = some (.int .i64 d.s1) ∧ y.cell? ⟨w.heap.size + 1, 3, none⟩ = some (.slice b0 q0 j0) ∧ y.cell? ⟨w.heap.size + 1, 4, none⟩ = some (.slice b1 q1 j1))
          (first | assumption | exact keep_drew KS2 | exact keep_step (by assumption) (by assumption) KS2)
          (first
            | (go_at_call 66; refine (join_n _ _ _ _ _ _ t0 _ _ M0 V0 _ (HW.out.1.below (bt KQ3a.out.1.1 (And.left (by assumption)))) (HV.out.1.below (bt KQ3a.out.1.1 (And.left (by assumption)))) HK.out.2.2.2.1 HK2.out.2.2.2.1 pp0 qq0 FM0 FV0 FT0).mono ?_; rintro e w3b ⟨⟨A0, cc0, rfl, hr, hf⟩, hbb⟩))
        have KQ3b := hid (KQ3a.out.step (undrew hbb))
        have KR3b := hid (KR3a.out.step (undrew hbb))
        have KN3b := hid (KN3a.out.step (undrew hbb))
        have X0b := hid (nf_of hr hf (heap_lt KN3a.out.2.2))
        clear KS2 hr hf hbb KQ3 KR3 KN3 KQ3a KR3a KN3a
        cases u0 with
        | false =>
          have HZ := hid (And.intro (hC.out.symm.trans (cjC_no (cjB_f0 FF0.out))) (hv.out.symm.trans (cjB_f0 FF0.out)))
          go_wp2_with (refine wpList_store_whole rfl 26 (.tmp 6) (.tmp 65) rfl N2 (clC 0 0 0 none 0 0 none 0 0) rfl rfl 26 _ KR3b.out.2.2 rfl (by show _ = some 5; exact size_cl) (clC_one _ _ _ _ _ _ _ _ _) ?_; intro w9 hp9 hg9; have KR9 := hid (kp_at KR3b.out hg9 hp9); clear hp9 hg9)
          (try simp only [Exit.inBlock, Exit.then])
          show bodyPost Try.prog Try.f23 _ _ _ _
          refine bodyPost_ret (results_cell_slot (p := 6) (u := 7) rfl _ _ N2 _ (clC 0 0 0 none 0 0 none 0 0) (0, 0) _ (.bool false) rfl rfl KR9.out.2.2 Try.underlying26 rfl (by kernel_rfl)) rfl ?_
          obtain ⟨z1, z2⟩ := HZ.out; subst z1; subst z2; exact ⟨⟨none, 0, 0, none, 0, 0, rfl, cw_nil _⟩, KR9.out.1⟩
        | true =>
          cases V0 with
          | false =>
            have HZ := hid (And.intro (hC.out.symm.trans (cjC_no (cjB_v0 FV0.out))) (hv.out.symm.trans (cjB_v0 FV0.out)))
            go_wp2_with (refine wpList_store_whole rfl 26 (.tmp 6) (.tmp 65) rfl N2 (clC 0 0 0 none 0 0 none 0 0) rfl rfl 26 _ KR3b.out.2.2 rfl (by show _ = some 5; exact size_cl) (clC_one _ _ _ _ _ _ _ _ _) ?_; intro w9 hp9 hg9; have KR9 := hid (kp_at KR3b.out hg9 hp9); clear hp9 hg9)
            (try simp only [Exit.inBlock, Exit.then])
            show bodyPost Try.prog Try.f23 _ _ _ _
            refine bodyPost_ret (results_cell_slot (p := 6) (u := 7) rfl _ _ N2 _ (clC 0 0 0 none 0 0 none 0 0) (0, 0) _ (.bool false) rfl rfl KR9.out.2.2 Try.underlying26 rfl (by kernel_rfl)) rfl ?_
            obtain ⟨z1, z2⟩ := HZ.out; subst z1; subst z2; exact ⟨⟨none, 0, 0, none, 0, 0, rfl, cw_nil _⟩, KR9.out.1⟩
          | true =>
            have fz := kp_froz KN3b.out 1
            have cz := kp_cell (j := 1) (v := .int .i64 0) KN3b.out rfl
            go_upto_region 12 with fail
            clear fz cz
            have KNc : Hid (Kp w _ G (.cells #[.int .i64 (c.n + d.n), .int .i64 S0, .int .i64 0, (.slice none 0 0), (.slice none 0 0)] 26)) := hid (kp_set (j := 1) (v := .int .i64 S0) KN3b.out)
            have KRc := hid (kp_other (j := 1) (v := .int .i64 S0) KR3b.out (Nat.ne_of_lt HNN.out.1) (Nat.le_trans HNN.out.2 (Nat.le_of_lt HNN.out.1)))
            have KQc := hid (kq_other (j := 1) (v := .int .i64 S0) KQ3b.out HN1.out)
            have X0c := hid (X0b.out.gr (set_grown w3b G 1 (.int .i64 S0)) (Nat.le_refl _))
            generalize (w3b.setCell ⟨G, 1, none⟩ (.int .i64 S0)) = Wc at KNc KRc KQc X0c ⊢
            have fz := kp_froz KNc.out 3
            have cz := kp_cell (j := 3) (v := .slice none 0 0) KNc.out rfl
            go_upto_region 13 with fail
            clear fz cz
            have KN4 : Hid (Kp w _ G (.cells #[.int .i64 (c.n + d.n), .int .i64 S0, .int .i64 0, (.slice A0 t0 cc0), (.slice none 0 0)] 26)) := hid (kp_set (j := 3) (v := (.slice A0 t0 cc0)) KNc.out)
            have KR4 := hid (kp_other (j := 3) (v := (.slice A0 t0 cc0)) KRc.out (Nat.ne_of_lt HNN.out.1) (Nat.le_trans HNN.out.2 (Nat.le_of_lt HNN.out.1)))
            have KQ4 := hid (kq_other (j := 3) (v := (.slice A0 t0 cc0)) KQc.out HN1.out)
            have X0 := hid (X0c.out.gr (set_grown Wc G 3 (.slice A0 t0 cc0)) (Nat.le_refl _))
            generalize (Wc.setCell ⟨G, 3, none⟩ (.slice A0 t0 cc0)) = W4 at KN4 KR4 KQ4 X0 ⊢
            clear KNc KRc KQc KN3b KR3b KQ3b X0b X0c
            go_wp2
            rw [rounds_succ]
            obtain ⟨d0, d1, d2, d3, d4⟩ := box_five KN4.out.2.2
            go_wp2_with (refine wpList_store_whole rfl 26 (.tmp 6) (.tmp 75) rfl N2 (clC (c.n + d.n) S0 0 A0 t0 cc0 none 0 0) rfl rfl 26 _ KR4.out.2.2 rfl (by show _ = some 5; exact size_cl) (clC_one _ _ _ _ _ _ _ _ _) ?_; intro w9 hp9 hg9; have KR9 := hid (kp_at KR4.out hg9 hp9); have X09 := hid (X0.out.gr hg9 (Nat.le_of_lt HNN.out.1)); clear hp9 hg9)
            (try simp only [Exit.inBlock, Exit.then])
            show bodyPost Try.prog Try.f23 _ _ _ _
            refine bodyPost_ret (results_cell_slot (p := 6) (u := 7) rfl _ _ N2 _ (clC (c.n + d.n) S0 0 A0 t0 cc0 none 0 0) (0, 0) _ (.bool true) rfl rfl KR9.out.2.2 Try.underlying26 rfl (by kernel_rfl)) rfl ?_
            have e0 := cjB_ok1 CA.out CB.out FF0.out FV0.out
            have e1 : C = ⟨c.n + d.n, S0, 0, M0, []⟩ := by
              rw [← hC.out, cjC_yes e0, ← FS0.out, fitV_yes FF0.out, ← FM0.out, jl_yes FV0.out]
              have y1 := cg_one1 CA.out
              have y2 := cg_one1 CB.out
              unfold cjR
              rw [y1.1, y1.2, y2.1, y2.2]
              rfl
            have e2 : v = true := by rw [← hv.out, e0]
            subst e1
            subst e2
            exact ⟨⟨_, _, _, _, _, _, rfl, X09.out.1, nrun_nil _⟩, KR9.out.1⟩
      · subst em
        clear ea
        have hm0 : True := trivial
        obtain ⟨S1, hS1⟩ : ∃ y, calc.fitV (c.s1 + d.s1) = y := ⟨_, rfl⟩
        obtain ⟨u1, hu1⟩ : ∃ y, calc.fitB (c.s1 + d.s1) = y := ⟨_, rfl⟩
        obtain ⟨M1, hM1⟩ : ∃ y, Jl c.b1 d.b1 = y := ⟨_, rfl⟩
        obtain ⟨t1, ht1⟩ : ∃ y, M1.length = y := ⟨_, rfl⟩
        obtain ⟨V1, hV1⟩ : ∃ y, Jn c.b1 d.b1 = y := ⟨_, rfl⟩
        have FS1 := hid hS1
        have FF1 := hid hu1
        have FM1 := hid hM1
        have FT1 := hid ht1
        have FV1 := hid hV1
        clear hS1 hu1 hM1 ht1 hV1
        have KS : Hid (∀ y, Below W3.heap.size W3 y → Below W3.heap.size W3 y ∧ y.cell? ⟨w.heap.size, 0, none⟩ = some (.int .i64 c.n) ∧ y.cell? ⟨w.heap.size, 1, none⟩ = some (.int .i64 c.s0) ∧ y.cell? ⟨w.heap.size, 2, none⟩ = some (.int .i64 c.s1) ∧ y.cell? ⟨w.heap.size, 3, none⟩ = some (.slice a0 p0 k0) ∧ y.cell? ⟨w.heap.size, 4, none⟩ = some (.slice a1 p1 k1) ∧ y.cell? ⟨w.heap.size + 1, 0, none⟩ = some (.int .i64 d.n) ∧ y.cell? ⟨w.heap.size + 1, 1, none⟩ = some (.int .i64 d.s0) ∧ y.cell? ⟨w.heap.size + 1, 2, none⟩ = some (.int .i64 d.s1) ∧ y.cell? ⟨w.heap.size + 1, 3, none⟩ = some (.slice b0 q0 j0) ∧ y.cell? ⟨w.heap.size + 1, 4, none⟩ = some (.slice b1 q1 j1)) := hid (fun y hb => KQ3.out.ten hb)
        go_wp2
        go_region_held3 (fun y => Below W3.heap.size W3 y ∧ y.cell? ⟨w.heap.size, 0, none⟩ = some (.int .i64 c.n) ∧ y.cell? ⟨w.heap.size, 1, none⟩ = some (.int .i64 c.s0) ∧ y.cell? ⟨w.heap.size, 2, none⟩ = some (.int .i64 c.s1) ∧ y.cell? ⟨w.heap.size, 3, none⟩ = some (.slice a0 p0 k0) ∧ y.cell? ⟨w.heap.size, 4, none⟩ = some (.slice a1 p1 k1) ∧ y.cell? ⟨w.heap.size + 1, 0, none⟩ = some (.int .i64 d.n) ∧ y.cell? ⟨w.heap.size + 1, 1, none⟩ = some (.int .i64 d.s0) ∧ y.cell? ⟨w.heap.size + 1, 2, none⟩ = some (.int .i64 d.s1) ∧ y.cell? ⟨w.heap.size + 1, 3, none⟩ = some (.slice b0 q0 j0) ∧ y.cell? ⟨w.heap.size + 1, 4, none⟩ = some (.slice b1 q1 j1))
          (first | assumption | exact keep_drew KS | exact keep_step (by assumption) (by assumption) KS | (obtain rfl := ‹_ = _›; assumption))
          (first
            | (go_at_call 65; refine (cadd_m _ _ S0 u0 _ HK.out.2.1 HK2.out.2.1 FS0 FF0).mono ?_; rintro e w3a ⟨rfl, hba⟩))
        have KQ3a := hid (KQ3.out.step (undrew hba))
        have KR3a := hid (KR3.out.step (undrew hba))
        have KN3a := hid (KN3.out.step (undrew hba))
        have KS2 : Hid (∀ y, Below w3a.heap.size w3a y → Below w3a.heap.size w3a y ∧ y.cell? ⟨w.heap.size, 0, none⟩ = some (.int .i64 c.n) ∧ y.cell? ⟨w.heap.size, 1, none⟩ = some (.int .i64 c.s0) ∧ y.cell? ⟨w.heap.size, 2, none⟩ = some (.int .i64 c.s1) ∧ y.cell? ⟨w.heap.size, 3, none⟩ = some (.slice a0 p0 k0) ∧ y.cell? ⟨w.heap.size, 4, none⟩ = some (.slice a1 p1 k1) ∧ y.cell? ⟨w.heap.size + 1, 0, none⟩ = some (.int .i64 d.n) ∧ y.cell? ⟨w.heap.size + 1, 1, none⟩ = some (.int .i64 d.s0) ∧ y.cell? ⟨w.heap.size + 1, 2, none⟩ = some (.int .i64 d.s1) ∧ y.cell? ⟨w.heap.size + 1, 3, none⟩ = some (.slice b0 q0 j0) ∧ y.cell? ⟨w.heap.size + 1, 4, none⟩ = some (.slice b1 q1 j1)) := hid (fun y hb => KQ3a.out.ten hb)
        clear KS hba
        go_wp2
        go_region_held3 (fun y => Below w3a.heap.size w3a y ∧ y.cell? ⟨w.heap.size, 0, none⟩ = some (.int .i64 c.n) ∧ y.cell? ⟨w.heap.size, 1, none⟩ = some (.int .i64 c.s0) ∧ y.cell? ⟨w.heap.size, 2, none⟩ = some (.int .i64 c.s1) ∧ y.cell? ⟨w.heap.size, 3, none⟩ = some (.slice a0 p0 k0) ∧ y.cell? ⟨w.heap.size, 4, none⟩ = some (.slice a1 p1 k1) ∧ y.cell? ⟨w.heap.size + 1, 0, none⟩ = some (.int .i64 d.n) ∧ y.cell? ⟨w.heap.size + 1, 1, none⟩ = some (.int .i64 d.s0) ∧ y.cell? ⟨w.heap.size + 1, 2, none⟩ = some (.int .i64 d.s1) ∧ y.cell? ⟨w.heap.size + 1, 3, none⟩ = some (.slice b0 q0 j0) ∧ y.cell? ⟨w.heap.size + 1, 4, none⟩ = some (.slice b1 q1 j1))
          (first | assumption | exact keep_drew KS2 | exact keep_step (by assumption) (by assumption) KS2)
          (first
            | (go_at_call 66; refine (join_n _ _ _ _ _ _ t0 _ _ M0 V0 _ (HW.out.1.below (bt KQ3a.out.1.1 (And.left (by assumption)))) (HV.out.1.below (bt KQ3a.out.1.1 (And.left (by assumption)))) HK.out.2.2.2.1 HK2.out.2.2.2.1 pp0 qq0 FM0 FV0 FT0).mono ?_; rintro e w3b ⟨⟨A0, cc0, rfl, hr, hf⟩, hbb⟩))
        have KQ3b := hid (KQ3a.out.step (undrew hbb))
        have KR3b := hid (KR3a.out.step (undrew hbb))
        have KN3b := hid (KN3a.out.step (undrew hbb))
        have X0b := hid (nf_of hr hf (heap_lt KN3a.out.2.2))
        clear KS2 hr hf hbb KQ3 KR3 KN3 KQ3a KR3a KN3a
        cases u0 with
        | false =>
          have HZ := hid (And.intro (hC.out.symm.trans (cjC_no (cjB_f0 FF0.out))) (hv.out.symm.trans (cjB_f0 FF0.out)))
          go_wp2_with (refine wpList_store_whole rfl 26 (.tmp 6) (.tmp 65) rfl N2 (clC 0 0 0 none 0 0 none 0 0) rfl rfl 26 _ KR3b.out.2.2 rfl (by show _ = some 5; exact size_cl) (clC_one _ _ _ _ _ _ _ _ _) ?_; intro w9 hp9 hg9; have KR9 := hid (kp_at KR3b.out hg9 hp9); clear hp9 hg9)
          (try simp only [Exit.inBlock, Exit.then])
          show bodyPost Try.prog Try.f23 _ _ _ _
          refine bodyPost_ret (results_cell_slot (p := 6) (u := 7) rfl _ _ N2 _ (clC 0 0 0 none 0 0 none 0 0) (0, 0) _ (.bool false) rfl rfl KR9.out.2.2 Try.underlying26 rfl (by kernel_rfl)) rfl ?_
          obtain ⟨z1, z2⟩ := HZ.out; subst z1; subst z2; exact ⟨⟨none, 0, 0, none, 0, 0, rfl, cw_nil _⟩, KR9.out.1⟩
        | true =>
          cases V0 with
          | false =>
            have HZ := hid (And.intro (hC.out.symm.trans (cjC_no (cjB_v0 FV0.out))) (hv.out.symm.trans (cjB_v0 FV0.out)))
            go_wp2_with (refine wpList_store_whole rfl 26 (.tmp 6) (.tmp 65) rfl N2 (clC 0 0 0 none 0 0 none 0 0) rfl rfl 26 _ KR3b.out.2.2 rfl (by show _ = some 5; exact size_cl) (clC_one _ _ _ _ _ _ _ _ _) ?_; intro w9 hp9 hg9; have KR9 := hid (kp_at KR3b.out hg9 hp9); clear hp9 hg9)
            (try simp only [Exit.inBlock, Exit.then])
            show bodyPost Try.prog Try.f23 _ _ _ _
            refine bodyPost_ret (results_cell_slot (p := 6) (u := 7) rfl _ _ N2 _ (clC 0 0 0 none 0 0 none 0 0) (0, 0) _ (.bool false) rfl rfl KR9.out.2.2 Try.underlying26 rfl (by kernel_rfl)) rfl ?_
            obtain ⟨z1, z2⟩ := HZ.out; subst z1; subst z2; exact ⟨⟨none, 0, 0, none, 0, 0, rfl, cw_nil _⟩, KR9.out.1⟩
          | true =>
            have fz := kp_froz KN3b.out 1
            have cz := kp_cell (j := 1) (v := .int .i64 0) KN3b.out rfl
            go_upto_region 12 with fail
            clear fz cz
            have KNc : Hid (Kp w _ G (.cells #[.int .i64 (c.n + d.n), .int .i64 S0, .int .i64 0, (.slice none 0 0), (.slice none 0 0)] 26)) := hid (kp_set (j := 1) (v := .int .i64 S0) KN3b.out)
            have KRc := hid (kp_other (j := 1) (v := .int .i64 S0) KR3b.out (Nat.ne_of_lt HNN.out.1) (Nat.le_trans HNN.out.2 (Nat.le_of_lt HNN.out.1)))
            have KQc := hid (kq_other (j := 1) (v := .int .i64 S0) KQ3b.out HN1.out)
            have X0c := hid (X0b.out.gr (set_grown w3b G 1 (.int .i64 S0)) (Nat.le_refl _))
            generalize (w3b.setCell ⟨G, 1, none⟩ (.int .i64 S0)) = Wc at KNc KRc KQc X0c ⊢
            have fz := kp_froz KNc.out 3
            have cz := kp_cell (j := 3) (v := .slice none 0 0) KNc.out rfl
            go_upto_region 13 with fail
            clear fz cz
            have KN4 : Hid (Kp w _ G (.cells #[.int .i64 (c.n + d.n), .int .i64 S0, .int .i64 0, (.slice A0 t0 cc0), (.slice none 0 0)] 26)) := hid (kp_set (j := 3) (v := (.slice A0 t0 cc0)) KNc.out)
            have KR4 := hid (kp_other (j := 3) (v := (.slice A0 t0 cc0)) KRc.out (Nat.ne_of_lt HNN.out.1) (Nat.le_trans HNN.out.2 (Nat.le_of_lt HNN.out.1)))
            have KQ4 := hid (kq_other (j := 3) (v := (.slice A0 t0 cc0)) KQc.out HN1.out)
            have X0 := hid (X0c.out.gr (set_grown Wc G 3 (.slice A0 t0 cc0)) (Nat.le_refl _))
            generalize (Wc.setCell ⟨G, 3, none⟩ (.slice A0 t0 cc0)) = W4 at KN4 KR4 KQ4 X0 ⊢
            clear KNc KRc KQc KN3b KR3b KQ3b X0b X0c
            go_wp2
            rw [rounds_succ]
            have KS : Hid (∀ y, Below W4.heap.size W4 y → Below W4.heap.size W4 y ∧ y.cell? ⟨w.heap.size, 0, none⟩ = some (.int .i64 c.n) ∧ y.cell? ⟨w.heap.size, 1, none⟩ = some (.int .i64 c.s0) ∧ y.cell? ⟨w.heap.size, 2, none⟩ = some (.int .i64 c.s1) ∧ y.cell? ⟨w.heap.size, 3, none⟩ = some (.slice a0 p0 k0) ∧ y.cell? ⟨w.heap.size, 4, none⟩ = some (.slice a1 p1 k1) ∧ y.cell? ⟨w.heap.size + 1, 0, none⟩ = some (.int .i64 d.n) ∧ y.cell? ⟨w.heap.size + 1, 1, none⟩ = some (.int .i64 d.s0) ∧ y.cell? ⟨w.heap.size + 1, 2, none⟩ = some (.int .i64 d.s1) ∧ y.cell? ⟨w.heap.size + 1, 3, none⟩ = some (.slice b0 q0 j0) ∧ y.cell? ⟨w.heap.size + 1, 4, none⟩ = some (.slice b1 q1 j1)) := hid (fun y hb => KQ4.out.ten hb)
            go_wp2
            go_region_held3 (fun y => Below W4.heap.size W4 y ∧ y.cell? ⟨w.heap.size, 0, none⟩ = some (.int .i64 c.n) ∧ y.cell? ⟨w.heap.size, 1, none⟩ = some (.int .i64 c.s0) ∧ y.cell? ⟨w.heap.size, 2, none⟩ = some (.int .i64 c.s1) ∧ y.cell? ⟨w.heap.size, 3, none⟩ = some (.slice a0 p0 k0) ∧ y.cell? ⟨w.heap.size, 4, none⟩ = some (.slice a1 p1 k1) ∧ y.cell? ⟨w.heap.size + 1, 0, none⟩ = some (.int .i64 d.n) ∧ y.cell? ⟨w.heap.size + 1, 1, none⟩ = some (.int .i64 d.s0) ∧ y.cell? ⟨w.heap.size + 1, 2, none⟩ = some (.int .i64 d.s1) ∧ y.cell? ⟨w.heap.size + 1, 3, none⟩ = some (.slice b0 q0 j0) ∧ y.cell? ⟨w.heap.size + 1, 4, none⟩ = some (.slice b1 q1 j1))
              (first | assumption | exact keep_drew KS | exact keep_step (by assumption) (by assumption) KS | (obtain rfl := ‹_ = _›; assumption))
              (first
                | (go_at_call 65; refine (cadd_m _ _ S1 u1 _ HK.out.2.2.1 HK2.out.2.2.1 FS1 FF1).mono ?_; rintro e w4a ⟨rfl, hba⟩))
            have KQ4a := hid (KQ4.out.step (undrew hba))
            have KR4a := hid (KR4.out.step (undrew hba))
            have KN4a := hid (KN4.out.step (undrew hba))
            have X0a := hid (X0.out.below (undrew hba))
            have KS2 : Hid (∀ y, Below w4a.heap.size w4a y → Below w4a.heap.size w4a y ∧ y.cell? ⟨w.heap.size, 0, none⟩ = some (.int .i64 c.n) ∧ y.cell? ⟨w.heap.size, 1, none⟩ = some (.int .i64 c.s0) ∧ y.cell? ⟨w.heap.size, 2, none⟩ = some (.int .i64 c.s1) ∧ y.cell? ⟨w.heap.size, 3, none⟩ = some (.slice a0 p0 k0) ∧ y.cell? ⟨w.heap.size, 4, none⟩ = some (.slice a1 p1 k1) ∧ y.cell? ⟨w.heap.size + 1, 0, none⟩ = some (.int .i64 d.n) ∧ y.cell? ⟨w.heap.size + 1, 1, none⟩ = some (.int .i64 d.s0) ∧ y.cell? ⟨w.heap.size + 1, 2, none⟩ = some (.int .i64 d.s1) ∧ y.cell? ⟨w.heap.size + 1, 3, none⟩ = some (.slice b0 q0 j0) ∧ y.cell? ⟨w.heap.size + 1, 4, none⟩ = some (.slice b1 q1 j1)) := hid (fun y hb => KQ4a.out.ten hb)
            clear KS hba
            go_wp2
            go_region_held3 (fun y => Below w4a.heap.size w4a y ∧ y.cell? ⟨w.heap.size, 0, none⟩ = some (.int .i64 c.n) ∧ y.cell? ⟨w.heap.size, 1, none⟩ = some (.int .i64 c.s0) ∧ y.cell? ⟨w.heap.size, 2, none⟩ = some (.int .i64 c.s1) ∧ y.cell? ⟨w.heap.size, 3, none⟩ = some (.slice a0 p0 k0) ∧ y.cell? ⟨w.heap.size, 4, none⟩ = some (.slice a1 p1 k1) ∧ y.cell? ⟨w.heap.size + 1, 0, none⟩ = some (.int .i64 d.n) ∧ y.cell? ⟨w.heap.size + 1, 1, none⟩ = some (.int .i64 d.s0) ∧ y.cell? ⟨w.heap.size + 1, 2, none⟩ = some (.int .i64 d.s1) ∧ y.cell? ⟨w.heap.size + 1, 3, none⟩ = some (.slice b0 q0 j0) ∧ y.cell? ⟨w.heap.size + 1, 4, none⟩ = some (.slice b1 q1 j1))
              (first | assumption | exact keep_drew KS2 | exact keep_step (by assumption) (by assumption) KS2)
              (first
                | (go_at_call 66; refine (join_n _ _ _ _ _ _ t1 _ _ M1 V1 _ (HW.out.2.below (bt KQ4a.out.1.1 (And.left (by assumption)))) (HV.out.2.below (bt KQ4a.out.1.1 (And.left (by assumption)))) HK.out.2.2.2.2 HK2.out.2.2.2.2 pp1 qq1 FM1 FV1 FT1).mono ?_; rintro e w4b ⟨⟨A1, cc1, rfl, hr, hf⟩, hbb⟩))
            have KQ4b := hid (KQ4a.out.step (undrew hbb))
            have KR4b := hid (KR4a.out.step (undrew hbb))
            have KN4b := hid (KN4a.out.step (undrew hbb))
            have X1b := hid (nf_of hr hf (heap_lt KN4a.out.2.2))
            have X0b := hid (X0a.out.below (undrew hbb))
            clear KS2 hr hf hbb KQ4 KR4 KN4 KQ4a KR4a KN4a X0 X0a
            cases u1 with
            | false =>
              have HZ := hid (And.intro (hC.out.symm.trans (cjC_no (cjB_f1 FF1.out))) (hv.out.symm.trans (cjB_f1 FF1.out)))
              go_wp2_with (refine wpList_store_whole rfl 26 (.tmp 6) (.tmp 65) rfl N2 (clC 0 0 0 none 0 0 none 0 0) rfl rfl 26 _ KR4b.out.2.2 rfl (by show _ = some 5; exact size_cl) (clC_one _ _ _ _ _ _ _ _ _) ?_; intro w9 hp9 hg9; have KR9 := hid (kp_at KR4b.out hg9 hp9); clear hp9 hg9)
              (try simp only [Exit.inBlock, Exit.then])
              show bodyPost Try.prog Try.f23 _ _ _ _
              refine bodyPost_ret (results_cell_slot (p := 6) (u := 7) rfl _ _ N2 _ (clC 0 0 0 none 0 0 none 0 0) (0, 0) _ (.bool false) rfl rfl KR9.out.2.2 Try.underlying26 rfl (by kernel_rfl)) rfl ?_
              obtain ⟨z1, z2⟩ := HZ.out; subst z1; subst z2; exact ⟨⟨none, 0, 0, none, 0, 0, rfl, cw_nil _⟩, KR9.out.1⟩
            | true =>
              cases V1 with
              | false =>
                have HZ := hid (And.intro (hC.out.symm.trans (cjC_no (cjB_v1 FV1.out))) (hv.out.symm.trans (cjB_v1 FV1.out)))
                go_wp2_with (refine wpList_store_whole rfl 26 (.tmp 6) (.tmp 65) rfl N2 (clC 0 0 0 none 0 0 none 0 0) rfl rfl 26 _ KR4b.out.2.2 rfl (by show _ = some 5; exact size_cl) (clC_one _ _ _ _ _ _ _ _ _) ?_; intro w9 hp9 hg9; have KR9 := hid (kp_at KR4b.out hg9 hp9); clear hp9 hg9)
                (try simp only [Exit.inBlock, Exit.then])
                show bodyPost Try.prog Try.f23 _ _ _ _
                refine bodyPost_ret (results_cell_slot (p := 6) (u := 7) rfl _ _ N2 _ (clC 0 0 0 none 0 0 none 0 0) (0, 0) _ (.bool false) rfl rfl KR9.out.2.2 Try.underlying26 rfl (by kernel_rfl)) rfl ?_
                obtain ⟨z1, z2⟩ := HZ.out; subst z1; subst z2; exact ⟨⟨none, 0, 0, none, 0, 0, rfl, cw_nil _⟩, KR9.out.1⟩
              | true =>
                have fz := kp_froz KN4b.out 2
                have cz := kp_cell (j := 2) (v := .int .i64 0) KN4b.out rfl
                go_upto_region 12 with fail
                clear fz cz
                have KNc : Hid (Kp w _ G (.cells #[.int .i64 (c.n + d.n), .int .i64 S0, .int .i64 S1, (.slice A0 t0 cc0), (.slice none 0 0)] 26)) := hid (kp_set (j := 2) (v := .int .i64 S1) KN4b.out)
                have KRc := hid (kp_other (j := 2) (v := .int .i64 S1) KR4b.out (Nat.ne_of_lt HNN.out.1) (Nat.le_trans HNN.out.2 (Nat.le_of_lt HNN.out.1)))
                have KQc := hid (kq_other (j := 2) (v := .int .i64 S1) KQ4b.out HN1.out)
                have X1c := hid (X1b.out.gr (set_grown w4b G 2 (.int .i64 S1)) (Nat.le_refl _))
                have X0c := hid (X0b.out.gr (set_grown w4b G 2 (.int .i64 S1)) (Nat.le_refl _))
                generalize (w4b.setCell ⟨G, 2, none⟩ (.int .i64 S1)) = Wc at KNc KRc KQc X1c X0c ⊢
                have fz := kp_froz KNc.out 4
                have cz := kp_cell (j := 4) (v := .slice none 0 0) KNc.out rfl
                go_upto_region 13 with fail
                clear fz cz
                have KN5 : Hid (Kp w _ G (.cells #[.int .i64 (c.n + d.n), .int .i64 S0, .int .i64 S1, (.slice A0 t0 cc0), (.slice A1 t1 cc1)] 26)) := hid (kp_set (j := 4) (v := (.slice A1 t1 cc1)) KNc.out)
                have KR5 := hid (kp_other (j := 4) (v := (.slice A1 t1 cc1)) KRc.out (Nat.ne_of_lt HNN.out.1) (Nat.le_trans HNN.out.2 (Nat.le_of_lt HNN.out.1)))
                have KQ5 := hid (kq_other (j := 4) (v := (.slice A1 t1 cc1)) KQc.out HN1.out)
                have X1 := hid (X1c.out.gr (set_grown Wc G 4 (.slice A1 t1 cc1)) (Nat.le_refl _))
                have X0 := hid (X0c.out.gr (set_grown Wc G 4 (.slice A1 t1 cc1)) (Nat.le_refl _))
                generalize (Wc.setCell ⟨G, 4, none⟩ (.slice A1 t1 cc1)) = W5 at KN5 KR5 KQ5 X1 X0 ⊢
                clear KNc KRc KQc KN4b KR4b KQ4b X1b X1c X0b X0c
                go_wp2
                rw [rounds_succ]
                obtain ⟨d0, d1, d2, d3, d4⟩ := box_five KN5.out.2.2
                go_wp2_with (refine wpList_store_whole rfl 26 (.tmp 6) (.tmp 75) rfl N2 (clC (c.n + d.n) S0 S1 A0 t0 cc0 A1 t1 cc1) rfl rfl 26 _ KR5.out.2.2 rfl (by show _ = some 5; exact size_cl) (clC_one _ _ _ _ _ _ _ _ _) ?_; intro w9 hp9 hg9; have KR9 := hid (kp_at KR5.out hg9 hp9); have X09 := hid (X0.out.gr hg9 (Nat.le_of_lt HNN.out.1)); have X19 := hid (X1.out.gr hg9 (Nat.le_of_lt HNN.out.1)); clear hp9 hg9)
                (try simp only [Exit.inBlock, Exit.then])
                show bodyPost Try.prog Try.f23 _ _ _ _
                refine bodyPost_ret (results_cell_slot (p := 6) (u := 7) rfl _ _ N2 _ (clC (c.n + d.n) S0 S1 A0 t0 cc0 A1 t1 cc1) (0, 0) _ (.bool true) rfl rfl KR9.out.2.2 Try.underlying26 rfl (by kernel_rfl)) rfl ?_
                have e0 := cjB_ok2 CA.out CB.out FF0.out FV0.out FF1.out
                have e1 : C = ⟨c.n + d.n, S0, S1, M0, M1⟩ := by
                  rw [← hC.out, cjC_yes e0, ← FS0.out, fitV_yes FF0.out, ← FM0.out, jl_yes FV0.out, ← FS1.out, fitV_yes FF1.out, ← FM1.out, jl_yes FV1.out]
                  rfl
                have e2 : v = true := by rw [← hv.out, e0]
                subst e1
                subst e2
                exact ⟨⟨_, _, _, _, _, _, rfl, X09.out.1, X19.out.1⟩, KR9.out.1⟩

end Go.Proofs.Ytjkkajhjcinalaa

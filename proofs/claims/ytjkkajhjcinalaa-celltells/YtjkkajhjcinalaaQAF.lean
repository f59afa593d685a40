/-
  -
  -
  -
  -
  -
  Conditions: as each theorem states them.
-/
import Derived.Deep.RegionHeld3
import Derived.Test.YtjkkajhjcinalaaQAB
import Derived.Test.YtjkkajhjcinalaaQAC
import Derived.Test.YtjkkajhjcinalaaQAE
namespace Go.Proofs.Ytjkkajhjcinalaa
open Go.ChangeShapes Go.WideShapes Go.ChangeAt Go.RowKit
set_option linter.unusedVariables false
set_option linter.unusedSimpArgs false
set_option maxRecDepth 100000

theorem kp_three (w : World) (o o' o'' : Obj) : Kp w (((w.alloc o).alloc o').alloc o'') (w.heap.size + 1 + 1) o'' := kp_new2 (bt (b1alloc _ _) (b1alloc _ _)) _ _ (by simp)
theorem cjB_a {m : Int} {c d : Cl} (h : cg m c = false) : cjB m c d = false := cjB_no (fun g => by rw [cg_yes g.1] at h; cases h)
theorem cjB_b {m : Int} {c d : Cl} (h : cg m d = false) : cjB m c d = false := cjB_no (fun g => by rw [cg_yes g.2.1] at h; cases h)
theorem cjB_f0 {m : Int} {c d : Cl} (h : calc.fitB (c.s0 + d.s0) = false) : cjB m c d = false := cjB_no (fun g => by rw [g.2.2.2.1] at h; cases h)
theorem cjB_f1 {c d : Cl} (h : calc.fitB (c.s1 + d.s1) = false) : cjB 2 c d = false := cjB_no (fun g => by
  rcases g.2.2.2.2 with e | e
  · cases e
  · rw [e] at h; cases h)
theorem cg_two1 {c : Cl} (h : CG 2 c) : Rk1 c.n c.s1 c.b1 := h.2.2.elim (fun h => absurd h.1 (by decide)) (fun h => h.2)
theorem cg_one1 {c : Cl} (h : CG 1 c) : c.s1 = 0 ∧ c.b1 = [] := h.2.2.elim (fun h => h.2) (fun h => absurd h.1 (by decide))
theorem cjB_v0 {m : Int} {c d : Cl} (h : Jn c.b0 d.b0 = false) : cjB m c d = false := cjB_no (fun g => by
  rw [jn_yes g.1.2.1.1 g.2.1.2.1.1 (by rw [g.1.2.1.2.1, g.2.1.2.1.2.1]; exact g.2.2.1)] at h; cases h)
theorem cjB_v1 {c d : Cl} (h : Jn c.b1 d.b1 = false) : cjB 2 c d = false := cjB_no (fun g => by
  have x := cg_two1 g.1
  have y := cg_two1 g.2.1
  rw [jn_yes x.1 y.1 (by rw [x.2.1, y.2.1]; exact g.2.2.1)] at h; cases h)
theorem jn_le {a b : List Rn} (h : Jn a b = true) : tot a + tot b ≤ 1099511627776 := by
  by_cases hh : tot a + tot b ≤ 1099511627776
  · exact hh
  · rw [jn_no3 (by omega)] at h; cases h
theorem cjB_ok1 {c d : Cl} (hc : CG 1 c) (hd : CG 1 d) (hf : calc.fitB (c.s0 + d.s0) = true) (hj : Jn c.b0 d.b0 = true) : cjB 1 c d = true :=
  cjB_iff.2 ⟨hc, hd, by have := jn_le hj; rw [hc.2.1.2.1, hd.2.1.2.1] at this; exact this, hf, .inl rfl⟩
theorem cjB_ok2 {c d : Cl} (hc : CG 2 c) (hd : CG 2 d) (hf : calc.fitB (c.s0 + d.s0) = true) (hj : Jn c.b0 d.b0 = true) (hf1 : calc.fitB (c.s1 + d.s1) = true) : cjB 2 c d = true :=
  cjB_iff.2 ⟨hc, hd, by have := jn_le hj; rw [hc.2.1.2.1, hd.2.1.2.1] at this; exact this, hf, .inr hf1⟩

theorem kq_other {w wr : World} {M j : Nat} {o o' : Obj} {v : Value} (h : Kq w wr o o') (hM : w.heap.size + 1 < M) : Kq w (wr.setCell ⟨M, j, none⟩ v) o o' :=
  ⟨kp_other h.1 (by omega) (by omega), kp_other h.2 (by omega) (by omega)⟩
theorem cadd_m (a b S : Int) (f : Bool) (w : World) (ha : I64 a) (hb : I64 b) (hS : Hid (calc.fitV (a + b) = S)) (hf : Hid (calc.fitB (a + b) = f)) :
    Calls Try.prog 65 #[.int .i64 a, .int .i64 b] w fun e w' => e = .returned (.tuple #[.int .i64 S, .bool f]) ∧ Below w.heap.size w w' := by
  refine (calc.add_any a b w ha hb).mono ?_
  rintro e w' ⟨rfl, rfl⟩
  exact ⟨by rw [hS.out, hf.out], Below.refl _ _⟩

set_option maxHeartbeats 32000000 in
theorem cjoin_m (m : Int) (c d : Cl) (a0 : Option Addr) (p0 k0 : Nat) (a1 : Option Addr) (p1 k1 : Nat) (b0 : Option Addr) (q0 j0 : Nat) (b1 : Option Addr) (q1 j1 : Nat) (C : Cl) (v : Bool) (w : World) (hw : CW w a0 p0 k0 a1 p1 k1 c) (hz : CW w b0 q0 j0 b1 q1 j1 d) (hk : okc c) (hk' : okc d) (hp : p0 ≤ 1000 ∧ p1 ≤ 1000 ∧ q0 ≤ 1000 ∧ q1 ≤ 1000) (hC : Hid (cjC m c d = C)) (hv : Hid (cjB m c d = v)) :
    Calls Try.prog 23 #[.int .i64 m, .agg #[.int .i64 c.n, .int .i64 c.s0, .int .i64 c.s1, .slice a0 p0 k0, .slice a1 p1 k1], .agg #[.int .i64 d.n, .int .i64 d.s0, .int .i64 d.s1, .slice b0 q0 j0, .slice b1 q1 j1]] w fun e w' => (∃ a0 p0 k0 a1 p1 k1, e = .returned (.tuple #[.agg #[.int .i64 C.n, .int .i64 C.s0, .int .i64 C.s1, .slice a0 p0 k0, .slice a1 p1 k1], .bool v]) ∧ CW w' a0 p0 k0 a1 p1 k1 C) ∧ Below w.heap.size w w' := by
  have HW := hid hw
  have HV := hid hz
  have HK := hid hk
  have HK2 := hid hk'
  obtain ⟨pp0, pp1, qq0, qq1⟩ := hp
  have KQ0 : Hid (Kq w (((w.alloc (.cells #[.int .i64 c.n, .int .i64 c.s0, .int .i64 c.s1, .slice a0 p0 k0, .slice a1 p1 k1] 26)).alloc (.cells #[.int .i64 d.n, .int .i64 d.s0, .int .i64 d.s1, .slice b0 q0 j0, .slice b1 q1 j1] 26)).alloc (.cells #[.int .i64 0, .int .i64 0, .int .i64 0, .slice none 0 0, .slice none 0 0] 26)) (.cells #[.int .i64 c.n, .int .i64 c.s0, .int .i64 c.s1, .slice a0 p0 k0, .slice a1 p1 k1] 26) (.cells #[.int .i64 d.n, .int .i64 d.s0, .int .i64 d.s1, .slice b0 q0 j0, .slice b1 q1 j1] 26)) := hid ((kq_new w _ _).step (b1alloc _ _))
  have KR0 : Hid (Kp w (((w.alloc (.cells #[.int .i64 c.n, .int .i64 c.s0, .int .i64 c.s1, .slice a0 p0 k0, .slice a1 p1 k1] 26)).alloc (.cells #[.int .i64 d.n, .int .i64 d.s0, .int .i64 d.s1, .slice b0 q0 j0, .slice b1 q1 j1] 26)).alloc (.cells #[.int .i64 0, .int .i64 0, .int .i64 0, .slice none 0 0, .slice none 0 0] 26)) (w.heap.size + 1 + 1) (.cells #[.int .i64 0, .int .i64 0, .int .i64 0, .slice none 0 0, .slice none 0 0] 26)) := hid (kp_three _ _ _ _)
  have tk : True := trivial
  clear hw hz hk hk'
  cases ga : cg m c with
  | false =>
    have GA := hid ga
    have HZ := hid (And.intro (hC.out.symm.trans (cjC_no (cjB_a ga))) (hv.out.symm.trans (cjB_a ga)))
    clear ga
    go_enter Try.func23, Try.ntmps23
    go_upto_region 1 with fail
    generalize ((w.alloc (.cells #[.int .i64 c.n, .int .i64 c.s0, .int .i64 c.s1, .slice a0 p0 k0, .slice a1 p1 k1] 26)).alloc (.cells #[.int .i64 d.n, .int .i64 d.s0, .int .i64 d.s1, .slice b0 q0 j0, .slice b1 q1 j1] 26)).alloc (.cells #[.int .i64 0, .int .i64 0, .int .i64 0, .slice none 0 0, .slice none 0 0] 26) = W0 at KQ0 KR0 ⊢
    obtain ⟨_, d0, d1, d2, d3, d4, f0, f1, f2, f3, f4⟩ := KQ0.out.ten (Below.refl _ _)
    go_upto_region 2 with (go_at_call 19; clear tk; refine (cgood_m _ _ _ _ _ _ _ _ false _ (HW.out.below KQ0.out.1.1) HK.out GA).mono ?_; rintro e w1 ⟨rfl, hb⟩; have KQ1 := hid (KQ0.out.step hb); have KR1 := hid (KR0.out.step hb); obtain ⟨_, x0, x1, x2, x3, x4, y0, y1, y2, y3, y4⟩ := KQ1.out.ten (Below.refl _ _); clear hb)
    obtain ⟨N2, hN2⟩ : ∃ y, w.heap.size + 1 + 1 = y := ⟨_, rfl⟩
    rw [hN2] at KR1 ⊢
    go_wp2_with (refine wpList_store_whole rfl 26 (.tmp 6) (.tmp 24) rfl N2 (clC 0 0 0 none 0 0 none 0 0) rfl rfl 26 _ KR1.out.2.2 rfl (by show _ = some 5; exact size_cl) (clC_one _ _ _ _ _ _ _ _ _) ?_; intro w9 hp9 hg9; have KR9 := hid (kp_at KR1.out hg9 hp9); clear hp9 hg9)
    (try simp only [Exit.inBlock, Exit.then])
    show bodyPost Try.prog Try.f23 _ _ _ _
    refine bodyPost_ret (results_cell_slot (p := 6) (u := 7) rfl _ _ N2 _ (clC 0 0 0 none 0 0 none 0 0) (0, 0) _ (.bool false) rfl rfl KR9.out.2.2 Try.underlying26 rfl (by kernel_rfl)) rfl ?_
    obtain ⟨z1, z2⟩ := HZ.out; subst z1; subst z2; exact ⟨⟨none, 0, 0, none, 0, 0, rfl, cw_nil _⟩, KR9.out.1⟩
  | true =>
    have GA := hid ga
    cases gb : cg m d with
    | false =>
      have GB := hid gb
      have HZ := hid (And.intro (hC.out.symm.trans (cjC_no (cjB_b gb))) (hv.out.symm.trans (cjB_b gb)))
      clear ga gb
      go_enter Try.func23, Try.ntmps23
      go_upto_region 1 with fail
      generalize ((w.alloc (.cells #[.int .i64 c.n, .int .i64 c.s0, .int .i64 c.s1, .slice a0 p0 k0, .slice a1 p1 k1] 26)).alloc (.cells #[.int .i64 d.n, .int .i64 d.s0, .int .i64 d.s1, .slice b0 q0 j0, .slice b1 q1 j1] 26)).alloc (.cells #[.int .i64 0, .int .i64 0, .int .i64 0, .slice none 0 0, .slice none 0 0] 26) = W0 at KQ0 KR0 ⊢
      obtain ⟨_, d0, d1, d2, d3, d4, f0, f1, f2, f3, f4⟩ := KQ0.out.ten (Below.refl _ _)
      go_upto_region 2 with (first
        | (go_at_call 19; clear tk; refine (cgood_m _ _ _ _ _ _ _ _ true _ (HW.out.below KQ0.out.1.1) HK.out GA).mono ?_; rintro e w1 ⟨rfl, hb⟩; have KQ1 := hid (KQ0.out.step hb); have KR1 := hid (KR0.out.step hb); obtain ⟨_, x0, x1, x2, x3, x4, y0, y1, y2, y3, y4⟩ := KQ1.out.ten (Below.refl _ _); clear hb)
        | (go_at_call 19; refine (cgood_m _ _ _ _ _ _ _ _ false _ (HV.out.below KQ1.out.1.1) HK2.out GB).mono ?_; rintro e w2 ⟨rfl, hb⟩; have KQ2 := hid (KQ1.out.step hb); have KR2 := hid (KR1.out.step hb); obtain ⟨_, x0, x1, x2, x3, x4, y0, y1, y2, y3, y4⟩ := KQ2.out.ten (Below.refl _ _); clear hb))
      obtain ⟨N2, hN2⟩ : ∃ y, w.heap.size + 1 + 1 = y := ⟨_, rfl⟩
      rw [hN2] at KR2 ⊢
      go_wp2_with (refine wpList_store_whole rfl 26 (.tmp 6) (.tmp 24) rfl N2 (clC 0 0 0 none 0 0 none 0 0) rfl rfl 26 _ KR2.out.2.2 rfl (by show _ = some 5; exact size_cl) (clC_one _ _ _ _ _ _ _ _ _) ?_; intro w9 hp9 hg9; have KR9 := hid (kp_at KR2.out hg9 hp9); clear hp9 hg9)
      (try simp only [Exit.inBlock, Exit.then])
      show bodyPost Try.prog Try.f23 _ _ _ _
      refine bodyPost_ret (results_cell_slot (p := 6) (u := 7) rfl _ _ N2 _ (clC 0 0 0 none 0 0 none 0 0) (0, 0) _ (.bool false) rfl rfl KR9.out.2.2 Try.underlying26 rfl (by kernel_rfl)) rfl ?_
      obtain ⟨z1, z2⟩ := HZ.out; subst z1; subst z2; exact ⟨⟨none, 0, 0, none, 0, 0, rfl, cw_nil _⟩, KR9.out.1⟩
    | true =>
      have GB := hid gb
      have CA := hid (cg_iff.1 ga)
      have CB := hid (cg_iff.1 gb)
      have na := CA.out.1
      have nb := CB.out.1
      obtain ⟨na1, na2⟩ := na
      obtain ⟨nb1, nb2⟩ := nb
      have hwn : IntKind.i64.wrap (c.n + d.n) = c.n + d.n := IntWalk.i64_in _ (by omega)
      have ea := hid (cg_m ga)
      clear ga gb
      obtain ⟨S0, hS0⟩ : ∃ y, calc.fitV (c.s0 + d.s0) = y := ⟨_, rfl⟩
      obtain ⟨u0, hu0⟩ : ∃ y, calc.fitB (c.s0 + d.s0) = y := ⟨_, rfl⟩
      obtain ⟨M0, hM0⟩ : ∃ y, Jl c.b0 d.b0 = y := ⟨_, rfl⟩
      obtain ⟨t0, ht0⟩ : ∃ y, M0.length = y := ⟨_, rfl⟩
      obtain ⟨V0, hV0⟩ : ∃ y, Jn c.b0 d.b0 = y := ⟨_, rfl⟩
      have FS0 := hid hS0
      have FF0 := hid hu0
      have FM0 := hid hM0
      have FT0 := hid ht0
      have FV0 := hid hV0
      clear hS0 hu0 hM0 ht0 hV0
      go_enter Try.func23, Try.ntmps23
      go_upto_region 1 with fail
      generalize ((w.alloc (.cells #[.int .i64 c.n, .int .i64 c.s0, .int .i64 c.s1, .slice a0 p0 k0, .slice a1 p1 k1] 26)).alloc (.cells #[.int .i64 d.n, .int .i64 d.s0, .int .i64 d.s1, .slice b0 q0 j0, .slice b1 q1 j1] 26)).alloc (.cells #[.int .i64 0, .int .i64 0, .int .i64 0, .slice none 0 0, .slice none 0 0] 26) = W0 at KQ0 KR0 ⊢
      obtain ⟨_, d0, d1, d2, d3, d4, f0, f1, f2, f3, f4⟩ := KQ0.out.ten (Below.refl _ _)
      go_upto_region 3 with (first
        | (go_at_call 19; clear tk; refine (cgood_m _ _ _ _ _ _ _ _ true _ (HW.out.below KQ0.out.1.1) HK.out GA).mono ?_; rintro e w1 ⟨rfl, hb⟩; have KQ1 := hid (KQ0.out.step hb); have KR1 := hid (KR0.out.step hb); obtain ⟨_, x0, x1, x2, x3, x4, y0, y1, y2, y3, y4⟩ := KQ1.out.ten (Below.refl _ _); clear hb)
        | (go_at_call 19; refine (cgood_m _ _ _ _ _ _ _ _ true _ (HV.out.below KQ1.out.1.1) HK2.out GB).mono ?_; rintro e w2 ⟨rfl, hb⟩; have KQ2 := hid (KQ1.out.step hb); have KR2 := hid (KR1.out.step hb); obtain ⟨_, x0, x1, x2, x3, x4, y0, y1, y2, y3, y4⟩ := KQ2.out.ten (Below.refl _ _); clear hb))
      obtain ⟨N2, hN2⟩ : ∃ y, w.heap.size + 1 + 1 = y := ⟨_, rfl⟩
      rw [hN2] at KR2 ⊢
      go_upto_region 4 with fail
      have KN3 : Hid (Kp w (w2.alloc (.cells #[.int .i64 (c.n + d.n), .int .i64 0, .int .i64 0, .slice none 0 0, .slice none 0 0] 26)) w2.heap.size (.cells #[.int .i64 (c.n + d.n), .int .i64 0, .int .i64 0, .slice none 0 0, .slice none 0 0] 26)) := hid (kp_new2 KR2.out.1 _ _ rfl)
      have hne : N2 < w2.heap.size := heap_lt KR2.out.2.2
      have KR3 := hid (kp_alloc KR2.out (.cells #[.int .i64 (c.n + d.n), .int .i64 0, .int .i64 0, .slice none 0 0, .slice none 0 0] 26))
      have KQ3 := hid (KQ2.out.step (b1alloc w2 (.cells #[.int .i64 (c.n + d.n), .int .i64 0, .int .i64 0, .slice none 0 0, .slice none 0 0] 26)))
      have HNN := hid (And.intro hne (show w.heap.size ≤ N2 by omega))
      have HN1 : Hid (w.heap.size + 1 < w2.heap.size) := hid (by omega)
      clear hne KR0 KR1 KR2 KQ0 KQ1 KQ2 hN2 d0 d1 d2 d3 d4 f0 f1 f2 f3 f4 x0 x1 x2 x3 x4 y0 y1 y2 y3 y4
      generalize w2.alloc (.cells #[.int .i64 (c.n + d.n), .int .i64 0, .int .i64 0, .slice none 0 0, .slice none 0 0] 26) = W3 at KN3 KR3 KQ3 ⊢
      generalize w2.heap.size = G at KN3 HNN HN1 ⊢
      go_upto_region 5 with fail
      refine wp_loop_rounds 3 ?_
      rw [rounds_succ]
      rcases ea.out with em | em
      · subst em
        clear ea
        have hm0 : True := trivial
        have KS : Hid (∀ y, Below W3.heap.size W3 y → Below W3.heap.size W3 y ∧ y.cell? ⟨w.heap.size, 0, none⟩ = some (.int .i64 c.n) ∧ y.cell? ⟨w.heap.size, 1, none⟩ = some (.int .i64 c.s0) ∧ y.cell? ⟨w.heap.size, 2, none⟩ = some (.int .i64 c.s1) ∧ y.cell? ⟨w.heap.size, 3, none⟩ = some (.slice a0 p0 k0) ∧ y.cell? ⟨w.heap.size, 4, none⟩ = some (.slice a1 p1 k1) ∧ y.cell? ⟨w.heap.size + 1, 0, none⟩ = some (.int .i64 d.n) ∧ y.cell? ⟨w.heap.size + 1, 1, none⟩ = some (.int .i64 d.s0) ∧ y.cell? ⟨w.heap.size + 1, 2, none⟩ = some (.int .i64 d.s1) ∧ y.cell? ⟨w.heap.size + 1, 3, none⟩ = some (.slice b0 q0 j0) ∧ y.cell? ⟨w.heap.size + 1, 4, none⟩ = some (.slice b1 q1 j1)) := hid (fun y hb => KQ3.out.ten hb)
        go_wp2
        go_region_held3 (fun y => Below W3.heap.size W3 y ∧ y.cell? ⟨w.heap.size, 0, none⟩ = some (.int .i64 c.n) ∧ y.cell? ⟨w.heap.size, 1, none⟩ = some (.int .i64 c.s0) ∧ y.cell? ⟨w.heap.size, 2, none⟩ = some (.int .i64 c.s1) ∧ y.cell? ⟨w.heap.size, 3, none⟩ = some (.slice a0 p0 k0) ∧ y.cell? ⟨w.heap.size, 4, none⟩ = some (.slice a1 p1 k1) ∧ y.cell? ⟨w.heap.size + 1, 0, none⟩ = some (.int .i64 d.n) ∧ y.cell? ⟨w.heap.size + 1, 1, none⟩ = some (.int .i64 d.s0) ∧ y.cell? ⟨w.heap.size + 1, 2, none⟩ = some (.int .i64 d.s1) ∧ y.cell? ⟨w.heap.size + 1, 3, none⟩ = some (.slice b0 q0 j0) ∧ y.cell? ⟨w.heap.size + 1, 4, none⟩ = some (.slice b1 q1 j1))
          (first | assumption | exact keep_drew KS | exact keep_step (by assumption) (by assumption) KS | (obtain rfl := ‹_ = _›; assumption))
          (first
            | (go_at_call 65; refine (cadd_m _ _ S0 u0 _ HK.out.2.1 HK2.out.2.1 FS0 FF0).mono ?_; rintro e w3a ⟨rfl, hba⟩))
        have KQ3a := hid (KQ3.out.step (undrew hba))
        have KR3a := hid (KR3.out.step (undrew hba))
        have KN3a := hid (KN3.out.step (undrew hba))
        have KS2 : Hid (∀ y, Below w3a.heap.size w3a y → Below w3a.heap.size w3a y ∧ y.cell? ⟨w.heap.size, 0, none⟩ = some (.int .i64 c.n) ∧ y.cell? ⟨w.heap.size, 1, none⟩ = some (.int .i64 c.s0) ∧ y.cell? ⟨w.heap.size, 2, none⟩ = some (.int .i64 c.s1) ∧ y.cell? ⟨w.heap.size, 3, none⟩ = some (.slice a0 p0 k0) ∧ y.cell? ⟨w.heap.size, 4, none⟩ = some (.slice a1 p1 k1) ∧ y.cell? ⟨w.heap.size + 1, 0, none⟩ = some (.int .i64 d.n) ∧ y.cell? ⟨w.heap.size + 1, 1, none⟩ = some (.int .i64 d.s0) ∧ y.cell? ⟨w.heap.size + 1, 2, none⟩ = some (.int .i64 d.s1) ∧ y.cell? ⟨w.heap.size + 1, 3, none⟩ = some (.slice b0 q0 j0) ∧ y.cell? ⟨w.heap.size + 1, 4, none⟩ = some (.slice b1 q1 j1)) := hid (fun y hb => KQ3a.out.ten hb)
        clear KS hba
        go_wp2
        go_region_held3 (fun y => Below w3a.heap.size w3a y ∧ y.cell? ⟨w.heap.size, 0, none⟩ = some (.int .i64 c.n) ∧ y.cell? ⟨w.heap.size, 1, none⟩ = some (.int .i64 c.s0) ∧ y.cell? ⟨w.heap.size, 2, none⟩ = some (.int .i64 c.s1) ∧ y.cell? ⟨w.heap.size, 3, none⟩ = some (.slice a0 p0 k0) ∧ y.cell? ⟨w.heap.size, 4, none⟩ = some (.slice a1 p1 k1) ∧ y.cell? ⟨w.heap.size + 1, 0, none⟩ = some (.int .i64 d.n) ∧ y.cell? ⟨w.heap.size + 1, 1, none⟩ = some (.int .i64 d.s0) ∧ y.cell? ⟨w.heap.size + 1, 2, none⟩ = some (.int .i64 d.s1) ∧ y.cell? ⟨w.heap.size + 1, 3, none⟩ = some (.slice b0 q0 j0) ∧ y.cell? ⟨w.heap.size + 1, 4, none⟩ = some (.slice b1 q1 j1))
          (first | assumption | exact keep_drew KS2 | exact keep_step (by assumption) (by assumption) KS2)
          (first
            | (go_at_call 66; refine (join_n _ _ _ _ _ _ t0 _ _ M0 V0 _ (HW.out.1.below (bt KQ3a.out.1.1 (And.left (by assumption)))) (HV.out.1.below (bt KQ3a.out.1.1 (And.left (by assumption)))) HK.out.2.2.2.1 HK2.out.2.2.2.1 pp0 qq0 FM0 FV0 FT0).mono ?_; rintro e w3b ⟨⟨A0, cc0, rfl, hr, hf⟩, hbb⟩))
        have KQ3b := hid (KQ3a.out.step (undrew hbb))
        have KR3b := hid (KR3a.out.step (undrew hbb))
        have KN3b := hid (KN3a.out.step (undrew hbb))
        have X0b := hid (nf_of hr hf (heap_lt KN3a.out.2.2))
        clear KS2 hr hf hbb KQ3 KR3 KN3 KQ3a KR3a KN3a
        cases u0 with
        | false =>
          have HZ := hid (And.intro (hC.out.symm.trans (cjC_no (cjB_f0 FF0.out))) (hv.out.symm.trans (cjB_f0 FF0.out)))
          go_wp2_with (refine wpList_store_whole rfl 26 (.tmp 6) (.tmp 65) rfl N2 (clC 0 0 0 none 0 0 none 0 0) rfl rfl 26 _ KR3b.out.2.2 rfl (by show _ = some 5; exact size_cl) (clC_one _ _ _ _ _ _ _ _ _) ?_; intro w9 hp9 hg9; have KR9 := hid (kp_at KR3b.out hg9 hp9); clear hp9 hg9)
          (try simp only [Exit.inBlock, Exit.then])
          show bodyPost Try.prog Try.f23 _ _ _ _
          refine bodyPost_ret (results_cell_slot (p := 6) (u := 7) rfl _ _ N2 _ (clC 0 0 0 none 0 0 none 0 0) (0, 0) _ (.bool false) rfl rfl KR9.out.2.2 Try.underlying26 rfl (by kernel_rfl)) rfl ?_
          obtain ⟨z1, z2⟩ := HZ.out; subst z1; subst z2; exact ⟨⟨none, 0, 0, none, 0, 0, rfl, cw_nil _⟩, KR9.out.1⟩
        | true =>
          cases V0 with
          | false =>
            have HZ := hid (And.intro (hC.out.symm.trans (cjC_no (cjB_v0 FV0.out))) (hv.out.symm.trans (cjB_v0 FV0.out)))
            go_wp2_with (refine wpList_store_whole rfl 26 (.tmp 6) (.tmp 65) rfl N2 (clC 0 0 0 none 0 0 none 0 0) rfl rfl 26 _ KR3b.out.2.2 rfl (by show _ = some 5; exact size_cl) (clC_one _ _ _ _ _ _ _ _ _) ?_; intro w9 hp9 hg9; have KR9 := hid (kp_at KR3b.out hg9 hp9); clear hp9 hg9)
            (try simp only [Exit.inBlock, Exit.then])
            show bodyPost Try.prog Try.f23 _ _ _ _
            refine bodyPost_ret (results_cell_slot (p := 6) (u := 7) rfl _ _ N2 _ (clC 0 0 0 none 0 0 none 0 0) (0, 0) _ (.bool false) rfl rfl KR9.out.2.2 Try.underlying26 rfl (by kernel_rfl)) rfl ?_
            obtain ⟨z1, z2⟩ := HZ.out; subst z1; subst z2; exact ⟨⟨none, 0, 0, none, 0, 0, rfl, cw_nil _⟩, KR9.out.1⟩
          | true =>
            have fz := kp_froz KN3b.out 1
            have cz := kp_cell (j := 1) (v := .int .i64 0) KN3b.out rfl
            go_upto_region 12 with fail
            clear fz cz
            have KNc : Hid (Kp w _ G (.cells #[.int .i64 (c.n + d.n), .int .i64 S0, .int .i64 0, (.slice none 0 0), (.slice none 0 0)] 26)) := hid (kp_set (j := 1) (v := .int .i64 S0) KN3b.out)
            have KRc := hid (kp_other (j := 1) (v := .int .i64 S0) KR3b.out (Nat.ne_of_lt HNN.out.1) (Nat.le_trans HNN.out.2 (Nat.le_of_lt HNN.out.1)))
            have KQc := hid (kq_other (j := 1) (v := .int .i64 S0) KQ3b.out HN1.out)
            have X0c := hid (X0b.out.gr (set_grown w3b G 1 (.int .i64 S0)) (Nat.le_refl _))
            generalize (w3b.setCell ⟨G, 1, none⟩ (.int .i64 S0)) = Wc at KNc KRc KQc X0c ⊢
            have fz := kp_froz KNc.out 3
            have cz := kp_cell (j := 3) (v := .slice none 0 0) KNc.out rfl
            go_upto_region 13 with fail
            clear fz cz
            have KN4 : Hid (Kp w _ G (.cells #[.int .i64 (c.n + d.n), .int .i64 S0, .int .i64 0, (.slice A0 t0 cc0), (.slice none 0 0)] 26)) := hid (kp_set (j := 3) (v := (.slice A0 t0 cc0)) KNc.out)
            have KR4 := hid (kp_other (j := 3) (v := (.slice A0 t0 cc0)) KRc.out (Nat.ne_of_lt HNN.out.1) (Nat.le_trans HNN.out.2 (Nat.le_of_lt HNN.out.1)))
            have KQ4 := hid (kq_other (j := 3) (v := (.slice A0 t0 cc0)) KQc.out HN1.out)
            have X0 := hid (X0c.out.gr (set_grown Wc G 3 (.slice A0 t0 cc0)) (Nat.le_refl _))
            generalize (Wc.setCell ⟨G, 3, none⟩ (.slice A0 t0 cc0)) = W4 at KN4 KR4 KQ4 X0 ⊢
            clear KNc KRc KQc KN3b KR3b KQ3b X0b X0c
            go_wp2
            rw [rounds_succ]
            obtain ⟨d0, d1, d2, d3, d4⟩ := box_five KN4.out.2.2
            go_wp2_with (refine wpList_store_whole rfl 26 (.tmp 6) (.tmp 75) rfl N2 (clC (c.n + d.n) S0 0 A0 t0 cc0 none 0 0) rfl rfl 26 _ KR4.out.2.2 rfl (by show _ = some 5; exact size_cl) (clC_one _ _ _ _ _ _ _ _ _) ?_; intro w9 hp9 hg9; have KR9 := hid (kp_at KR4.out hg9 hp9); have X09 := hid (X0.out.gr hg9 (Nat.le_of_lt HNN.out.1)); clear hp9 hg9)
            (try simp only [Exit.inBlock, Exit.then])
            show bodyPost Try.prog Try.f23 _ _ _ _
            refine bodyPost_ret (results_cell_slot (p := 6) (u := 7) rfl _ _ N2 _ (clC (c.n + d.n) S0 0 A0 t0 cc0 none 0 0) (0, 0) _ (.bool true) rfl rfl KR9.out.2.2 Try.underlying26 rfl (by kernel_rfl)) rfl ?_
            have e0 := cjB_ok1 CA.out CB.out FF0.out FV0.out
            have e1 : C = ⟨c.n + d.n, S0, 0, M0, []⟩ := by
              rw [← hC.out, cjC_yes e0, ← FS0.out, fitV_yes FF0.out, ← FM0.out, jl_yes FV0.out]
              have y1 := cg_one1 CA.out
              have y2 := cg_one1 CB.out
              unfold cjR
              rw [y1.1, y1.2, y2.1, y2.2]
              rfl
            have e2 : v = true := by rw [← hv.out, e0]
            subst e1
            subst e2
            exact ⟨⟨_, _, _, _, _, _, rfl, X09.out.1, nrun_nil _⟩, KR9.out.1⟩
      · subst em
        clear ea
        have hm0 : True := trivial
        obtain ⟨S1, hS1⟩ : ∃ y, calc.fitV (c.s1 + d.s1) = y := ⟨_, rfl⟩
        obtain ⟨u1, hu1⟩ : ∃ y, calc.fitB (c.s1 + d.s1) = y := ⟨_, rfl⟩
        obtain ⟨M1, hM1⟩ : ∃ y, Jl c.b1 d.b1 = y := ⟨_, rfl⟩
        obtain ⟨t1, ht1⟩ : ∃ y, M1.length = y := ⟨_, rfl⟩
        obtain ⟨V1, hV1⟩ : ∃ y, Jn c.b1 d.b1 = y := ⟨_, rfl⟩
        have FS1 := hid hS1
        have FF1 := hid hu1
        have FM1 := hid hM1
        have FT1 := hid ht1
        have FV1 := hid hV1
        clear hS1 hu1 hM1 ht1 hV1
        have KS : Hid (∀ y, Below W3.heap.size W3 y → Below W3.heap.size W3 y ∧ y.cell? ⟨w.heap.size, 0, none⟩ = some (.int .i64 c.n) ∧ y.cell? ⟨w.heap.size, 1, none⟩ = some (.int .i64 c.s0) ∧ y.cell? ⟨w.heap.size, 2, none⟩ = some (.int .i64 c.s1) ∧ y.cell? ⟨w.heap.size, 3, none⟩ = some (.slice a0 p0 k0) ∧ y.cell? ⟨w.heap.size, 4, none⟩ = some (.slice a1 p1 k1) ∧ y.cell? ⟨w.heap.size + 1, 0, none⟩ = some (.int .i64 d.n) ∧ y.cell? ⟨w.heap.size + 1, 1, none⟩ = some (.int .i64 d.s0) ∧ y.cell? ⟨w.heap.size + 1, 2, none⟩ = some (.int .i64 d.s1) ∧ y.cell? ⟨w.heap.size + 1, 3, none⟩ = some (.slice b0 q0 j0) ∧ y.cell? ⟨w.heap.size + 1, 4, none⟩ = some (.slice b1 q1 j1)) := hid (fun y hb => KQ3.out.ten hb)
        go_wp2
        go_region_held3 (fun y => Below W3.heap.size W3 y ∧ y.cell? ⟨w.heap.size, 0, none⟩ = some (.int .i64 c.n) ∧ y.cell? ⟨w.heap.size, 1, none⟩ = some (.int .i64 c.s0) ∧ y.cell? ⟨w.heap.size, 2, none⟩ = some (.int .i64 c.s1) ∧ y.cell? ⟨w.heap.size, 3, none⟩ = some (.slice a0 p0 k0) ∧ y.cell? ⟨w.heap.size, 4, none⟩ = some (.slice a1 p1 k1) ∧ y.cell? ⟨w.heap.size + 1, 0, none⟩ = some (.int .i64 d.n) ∧ y.cell? ⟨w.heap.size + 1, 1, none⟩ = some (.int .i64 d.s0) ∧ y.cell? ⟨w.heap.size + 1, 2, none⟩ = some (.int .i64 d.s1) ∧ y.cell? ⟨w.heap.size + 1, 3, none⟩ = some (.slice b0 q0 j0) ∧ y.cell? ⟨w.heap.size + 1, 4, none⟩ = some (.slice b1 q1 j1))
          (first | assumption | exact keep_drew KS | exact keep_step (by assumption) (by assumption) KS | (obtain rfl := ‹_ = _›; assumption))
          (first
            | (go_at_call 65; refine (cadd_m _ _ S0 u0 _ HK.out.2.1 HK2.out.2.1 FS0 FF0).mono ?_; rintro e w3a ⟨rfl, hba⟩))
        have KQ3a := hid (KQ3.out.step (undrew hba))
        have KR3a := hid (KR3.out.step (undrew hba))
        have KN3a := hid (KN3.out.step (undrew hba))
        have KS2 : Hid (∀ y, Below w3a.heap.size w3a y → Below w3a.heap.size w3a y ∧ y.cell? ⟨w.heap.size, 0, none⟩ = some (.int .i64 c.n) ∧ y.cell? ⟨w.heap.size, 1, none⟩ = some (.int .i64 c.s0) ∧ y.cell? ⟨w.heap.size, 2, none⟩ = some (.int .i64 c.s1) ∧ y.cell? ⟨w.heap.size, 3, none⟩ = some (.slice a0 p0 k0) ∧ y.cell? ⟨w.heap.size, 4, none⟩ = some (.slice a1 p1 k1) ∧ y.cell? ⟨w.heap.size + 1, 0, none⟩ = some (.int .i64 d.n) ∧ y.cell? ⟨w.heap.size + 1, 1, none⟩ = some (.int .i64 d.s0) ∧ y.cell? ⟨w.heap.size + 1, 2, none⟩ = some (.int .i64 d.s1) ∧ y.cell? ⟨w.heap.size + 1, 3, none⟩ = some (.slice b0 q0 j0) ∧ y.cell? ⟨w.heap.size + 1, 4, none⟩ = some (.slice b1 q1 j1)) := hid (fun y hb => KQ3a.out.ten hb)
        clear KS hba
        go_wp2
        go_region_held3 (fun y => Below w3a.heap.size w3a y ∧ y.cell? ⟨w.heap.size, 0, none⟩ = some (.int .i64 c.n) ∧ y.cell? ⟨w.heap.size, 1, none⟩ = some (.int .i64 c.s0) ∧ y.cell? ⟨w.heap.size, 2, none⟩ = some (.int .i64 c.s1) ∧ y.cell? ⟨w.heap.size, 3, none⟩ = some (.slice a0 p0 k0) ∧ y.cell? ⟨w.heap.size, 4, none⟩ = some (.slice a1 p1 k1) ∧ y.cell? ⟨w.heap.size + 1, 0, none⟩ = some (.int .i64 d.n) ∧ y.cell? ⟨w.heap.size + 1, 1, none⟩ = some (.int .i64 d.s0) ∧ y.cell? ⟨w.heap.size + 1, 2, none⟩ = some (.int .i64 d.s1) ∧ y.cell? ⟨w.heap.size + 1, 3, none⟩ = some (.slice b0 q0 j0) ∧ y.cell? ⟨w.heap.size + 1, 4, none⟩ = some (.slice b1 q1 j1))
          (first | assumption | exact keep_drew KS2 | exact keep_step (by assumption) (by assumption) KS2)
          (first
            | (go_at_call 66; refine (join_n _ _ _ _ _ _ t0 _ _ M0 V0 _ (HW.out.1.below (bt KQ3a.out.1.1 (And.left (by assumption)))) (HV.out.1.below (bt KQ3a.out.1.1 (And.left (by assumption)))) HK.out.2.2.2.1 HK2.out.2.2.2.1 pp0 qq0 FM0 FV0 FT0).mono ?_; rintro e w3b ⟨⟨A0, cc0, rfl, hr, hf⟩, hbb⟩))
        have KQ3b := hid (KQ3a.out.step (undrew hbb))
        have KR3b := hid (KR3a.out.step (undrew hbb))
        have KN3b := hid (KN3a.out.step (undrew hbb))
        have X0b := hid (nf_of hr hf (heap_lt KN3a.out.2.2))
        clear KS2 hr hf hbb KQ3 KR3 KN3 KQ3a KR3a KN3a
        cases u0 with
        | false =>
          have HZ := hid (And.intro (hC.out.symm.trans (cjC_no (cjB_f0 FF0.out))) (hv.out.symm.trans (cjB_f0 FF0.out)))
          go_wp2_with (refine wpList_store_whole rfl 26 (.tmp 6) (.tmp 65) rfl N2 (clC 0 0 0 none 0 0 none 0 0) rfl rfl 26 _ KR3b.out.2.2 rfl (by show _ = some 5; exact size_cl) (clC_one _ _ _ _ _ _ _ _ _) ?_; intro w9 hp9 hg9; have KR9 := hid (kp_at KR3b.out hg9 hp9); clear hp9 hg9)
          (try simp only [Exit.inBlock, Exit.then])
          show bodyPost Try.prog Try.f23 _ _ _ _
          refine bodyPost_ret (results_cell_slot (p := 6) (u := 7) rfl _ _ N2 _ (clC 0 0 0 none 0 0 none 0 0) (0, 0) _ (.bool false) rfl rfl KR9.out.2.2 Try.underlying26 rfl (by kernel_rfl)) rfl ?_
          obtain ⟨z1, z2⟩ := HZ.out; subst z1; subst z2; exact ⟨⟨none, 0, 0, none, 0, 0, rfl, cw_nil _⟩, KR9.out.1⟩
        | true =>
          cases V0 with
          | false =>
            have HZ := hid (And.intro (hC.out.symm.trans (cjC_no (cjB_v0 FV0.out))) (hv.out.symm.trans (cjB_v0 FV0.out)))
            go_wp2_with (refine wpList_store_whole rfl 26 (.tmp 6) (.tmp 65) rfl N2 (clC 0 0 0 none 0 0 none 0 0) rfl rfl 26 _ KR3b.out.2.2 rfl (by show _ = some 5; exact size_cl) (clC_one _ _ _ _ _ _ _ _ _) ?_; intro w9 hp9 hg9; have KR9 := hid (kp_at KR3b.out hg9 hp9); clear hp9 hg9)
            (try simp only [Exit.inBlock, Exit.then])
            show bodyPost Try.prog Try.f23 _ _ _ _
            refine bodyPost_ret (results_cell_slot (p := 6) (u := 7) rfl _ _ N2 _ (clC 0 0 0 none 0 0 none 0 0) (0, 0) _ (.bool false) rfl rfl KR9.out.2.2 Try.underlying26 rfl (by kernel_rfl)) rfl ?_
            obtain ⟨z1, z2⟩ := HZ.out; subst z1; subst z2; exact ⟨⟨none, 0, 0, none, 0, 0, rfl, cw_nil _⟩, KR9.out.1⟩
          | true =>
            have fz := kp_froz KN3b.out 1
            have cz := kp_cell (j := 1) (v := .int .i64 0) KN3b.out rfl
            go_upto_region 12 with fail
            clear fz cz
            have KNc : Hid (Kp w _ G (.cells #[.int .i64 (c.n + d.n), .int .i64 S0, .int .i64 0, (.slice none 0 0), (.slice none 0 0)] 26)) := hid (kp_set (j := 1) (v := .int .i64 S0) KN3b.out)
            have KRc := hid (kp_other (j := 1) (v := .int .i64 S0) KR3b.out (Nat.ne_of_lt HNN.out.1) (Nat.le_trans HNN.out.2 (Nat.le_of_lt HNN.out.1)))
            have KQc := hid (kq_other (j := 1) (v := .int .i64 S0) KQ3b.out HN1.out)
            have X0c := hid (X0b.out.gr (set_grown w3b G 1 (.int .i64 S0)) (Nat.le_refl _))
            generalize (w3b.setCell ⟨G, 1, none⟩ (.int .i64 S0)) = Wc at KNc KRc KQc X0c ⊢
            have fz := kp_froz KNc.out 3
            have cz := kp_cell (j := 3) (v := .slice none 0 0) KNc.out rfl
            go_upto_region 13 with fail
            clear fz cz
            have KN4 : Hid (Kp w _ G (.cells #[.int .i64 (c.n + d.n), .int .i64 S0, .int .i64 0, (.slice A0 t0 cc0), (.slice none 0 0)] 26)) := hid (kp_set (j := 3) (v := (.slice A0 t0 cc0)) KNc.out)
            have KR4 := hid (kp_other (j := 3) (v := (.slice A0 t0 cc0)) KRc.out (Nat.ne_of_lt HNN.out.1) (Nat.le_trans HNN.out.2 (Nat.le_of_lt HNN.out.1)))
            have KQ4 := hid (kq_other (j := 3) (v := (.slice A0 t0 cc0)) KQc.out HN1.out)
            have X0 := hid (X0c.out.gr (set_grown Wc G 3 (.slice A0 t0 cc0)) (Nat.le_refl _))
            generalize (Wc.setCell ⟨G, 3, none⟩ (.slice A0 t0 cc0)) = W4 at KN4 KR4 KQ4 X0 ⊢
            clear KNc KRc KQc KN3b KR3b KQ3b X0b X0c
            go_wp2
            rw [rounds_succ]
            have KS : Hid (∀ y, Below W4.heap.size W4 y → Below W4.heap.size W4 y ∧ y.cell? ⟨w.heap.size, 0, none⟩ = some (.int .i64 c.n) ∧ y.cell? ⟨w.heap.size, 1, none⟩ = some (.int .i64 c.s0) ∧ y.cell? ⟨w.heap.size, 2, none⟩ = some (.int .i64 c.s1) ∧ y.cell? ⟨w.heap.size, 3, none⟩ = some (.slice a0 p0 k0) ∧ y.cell? ⟨w.heap.size, 4, none⟩ = some (.slice a1 p1 k1) ∧ y.cell? ⟨w.heap.size + 1, 0, none⟩ = some (.int .i64 d.n) ∧ y.cell? ⟨w.heap.size + 1, 1, none⟩ = some (.int .i64 d.s0) ∧ y.cell? ⟨w.heap.size + 1, 2, none⟩ = some (.int .i64 d.s1) ∧ y.cell? ⟨w.heap.size + 1, 3, none⟩ = some (.slice b0 q0 j0) ∧ y.cell? ⟨w.heap.size + 1, 4, none⟩ = some (.slice b1 q1 j1)) := hid (fun y hb => KQ4.out.ten hb)
            go_wp2
            go_region_held3 (fun y => Below W4.heap.size W4 y ∧ y.cell? ⟨w.heap.size, 0, none⟩ = some (.int .i64 c.n) ∧ y.cell? ⟨w.heap.size, 1, none⟩ = some (.int .i64 c.s0) ∧ y.cell? ⟨w.heap.size, 2, none⟩ = some (.int .i64 c.s1) ∧ y.cell? ⟨w.heap.size, 3, none⟩ = some (.slice a0 p0 k0) ∧ y.cell? ⟨w.heap.size, 4, none⟩ = some (.slice a1 p1 k1) ∧ y.cell? ⟨w.heap.size + 1, 0, none⟩ = some (.int .i64 d.n) ∧ y.cell? ⟨w.heap.size + 1, 1, none⟩ = some (.int .i64 d.s0) ∧ y.cell? ⟨w.heap.size + 1, 2, none⟩ = some (.int .i64 d.s1) ∧ y.cell? ⟨w.heap.size + 1, 3, none⟩ = some (.slice b0 q0 j0) ∧ y.cell? ⟨w.heap.size + 1, 4, none⟩ = some (.slice b1 q1 j1))
              (first | assumption | exact keep_drew KS | exact keep_step (by assumption) (by assumption) KS | (obtain rfl := ‹_ = _›; assumption))
              (first
                | (go_at_call 65; refine (cadd_m _ _ S1 u1 _ HK.out.2.2.1 HK2.out.2.2.1 FS1 FF1).mono ?_; rintro e w4a ⟨rfl, hba⟩))
            have KQ4a := hid (KQ4.out.step (undrew hba))
            have KR4a := hid (KR4.out.step (undrew hba))
            have KN4a := hid (KN4.out.step (undrew hba))
            have X0a := hid (X0.out.below (undrew hba))
            have KS2 : Hid (∀ y, Below w4a.heap.size w4a y → Below w4a.heap.size w4a y ∧ y.cell? ⟨w.heap.size, 0, none⟩ = some (.int .i64 c.n) ∧ y.cell? ⟨w.heap.size, 1, none⟩ = some (.int .i64 c.s0) ∧ y.cell? ⟨w.heap.size, 2, none⟩ = some (.int .i64 c.s1) ∧ y.cell? ⟨w.heap.size, 3, none⟩ = some (.slice a0 p0 k0) ∧ y.cell? ⟨w.heap.size, 4, none⟩ = some (.slice a1 p1 k1) ∧ y.cell? ⟨w.heap.size + 1, 0, none⟩ = some (.int .i64 d.n) ∧ y.cell? ⟨w.heap.size + 1, 1, none⟩ = some (.int .i64 d.s0) ∧ y.cell? ⟨w.heap.size + 1, 2, none⟩ = some (.int .i64 d.s1) ∧ y.cell? ⟨w.heap.size + 1, 3, none⟩ = some (.slice b0 q0 j0) ∧ y.cell? ⟨w.heap.size + 1, 4, none⟩ = some (.slice b1 q1 j1)) := hid (fun y hb => KQ4a.out.ten hb)
            clear KS hba
            go_wp2
            go_region_held3 (fun y => Below w4a.heap.size w4a y ∧ y.cell? ⟨w.heap.size, 0, none⟩ = some (.int .i64 c.n) ∧ y.cell? ⟨w.heap.size, 1, none⟩ = some (.int .i64 c.s0) ∧ y.cell? ⟨w.heap.size, 2, none⟩ = some (.int .i64 c.s1) ∧ y.cell? ⟨w.heap.size, 3, none⟩ = some (.slice a0 p0 k0) ∧ y.cell? ⟨w.heap.size, 4, none⟩ = some (.slice a1 p1 k1) ∧ y.cell? ⟨w.heap.size + 1, 0, none⟩ = some (.int .i64 d.n) ∧ y.cell? ⟨w.heap.size + 1, 1, none⟩ = some (.int .i64 d.s0) ∧ y.cell? ⟨w.heap.size + 1, 2, none⟩ = some (.int .i64 d.s1) ∧ y.cell? ⟨w.heap.size + 1, 3, none⟩ = some (.slice b0 q0 j0) ∧ y.cell? ⟨w.heap.size + 1, 4, none⟩ = some (.slice b1 q1 j1))
              (first | assumption | exact keep_drew KS2 | exact keep_step (by assumption) (by assumption) KS2)
              (first
                | (go_at_call 66; refine (join_n _ _ _ _ _ _ t1 _ _ M1 V1 _ (HW.out.2.below (bt KQ4a.out.1.1 (And.left (by assumption)))) (HV.out.2.below (bt KQ4a.out.1.1 (And.left (by assumption)))) HK.out.2.2.2.2 HK2.out.2.2.2.2 pp1 qq1 FM1 FV1 FT1).mono ?_; rintro e w4b ⟨⟨A1, cc1, rfl, hr, hf⟩, hbb⟩))
            have KQ4b := hid (KQ4a.out.step (undrew hbb))
            have KR4b := hid (KR4a.out.step (undrew hbb))
            have KN4b := hid (KN4a.out.step (undrew hbb))
            have X1b := hid (nf_of hr hf (heap_lt KN4a.out.2.2))
            have X0b := hid (X0a.out.below (undrew hbb))
            clear KS2 hr hf hbb KQ4 KR4 KN4 KQ4a KR4a KN4a X0 X0a
            cases u1 with
            | false =>
              have HZ := hid (And.intro (hC.out.symm.trans (cjC_no (cjB_f1 FF1.out))) (hv.out.symm.trans (cjB_f1 FF1.out)))
              go_wp2_with (refine wpList_store_whole rfl 26 (.tmp 6) (.tmp 65) rfl N2 (clC 0 0 0 none 0 0 none 0 0) rfl rfl 26 _ KR4b.out.2.2 rfl (by show _ = some 5; exact size_cl) (clC_one _ _ _ _ _ _ _ _ _) ?_; intro w9 hp9 hg9; have KR9 := hid (kp_at KR4b.out hg9 hp9); clear hp9 hg9)
              (try simp only [Exit.inBlock, Exit.then])
              show bodyPost Try.prog Try.f23 _ _ _ _
              refine bodyPost_ret (results_cell_slot (p := 6) (u := 7) rfl _ _ N2 _ (clC 0 0 0 none 0 0 none 0 0) (0, 0) _ (.bool false) rfl rfl KR9.out.2.2 Try.underlying26 rfl (by kernel_rfl)) rfl ?_
              obtain ⟨z1, z2⟩ := HZ.out; subst z1; subst z2; exact ⟨⟨none, 0, 0, none, 0, 0, rfl, cw_nil _⟩, KR9.out.1⟩
            | true =>
              cases V1 with
              | false =>
                have HZ := hid (And.intro (hC.out.symm.trans (cjC_no (cjB_v1 FV1.out))) (hv.out.symm.trans (cjB_v1 FV1.out)))
                go_wp2_with (refine wpList_store_whole rfl 26 (.tmp 6) (.tmp 65) rfl N2 (clC 0 0 0 none 0 0 none 0 0) rfl rfl 26 _ KR4b.out.2.2 rfl (by show _ = some 5; exact size_cl) (clC_one _ _ _ _ _ _ _ _ _) ?_; intro w9 hp9 hg9; have KR9 := hid (kp_at KR4b.out hg9 hp9); clear hp9 hg9)
                (try simp only [Exit.inBlock, Exit.then])
                show bodyPost Try.prog Try.f23 _ _ _ _
                refine bodyPost_ret (results_cell_slot (p := 6) (u := 7) rfl _ _ N2 _ (clC 0 0 0 none 0 0 none 0 0) (0, 0) _ (.bool false) rfl rfl KR9.out.2.2 Try.underlying26 rfl (by kernel_rfl)) rfl ?_
                obtain ⟨z1, z2⟩ := HZ.out; subst z1; subst z2; exact ⟨⟨none, 0, 0, none, 0, 0, rfl, cw_nil _⟩, KR9.out.1⟩
              | true =>
                have fz := kp_froz KN4b.out 2
                have cz := kp_cell (j := 2) (v := .int .i64 0) KN4b.out rfl
                go_upto_region 12 with fail
                clear fz cz
                have KNc : Hid (Kp w _ G (.cells #[.int .i64 (c.n + d.n), .int .i64 S0, .int .i64 S1, (.slice A0 t0 cc0), (.slice none 0 0)] 26)) := hid (kp_set (j := 2) (v := .int .i64 S1) KN4b.out)
                have KRc := hid (kp_other (j := 2) (v := .int .i64 S1) KR4b.out (Nat.ne_of_lt HNN.out.1) (Nat.le_trans HNN.out.2 (Nat.le_of_lt HNN.out.1)))
                have KQc := hid (kq_other (j := 2) (v := .int .i64 S1) KQ4b.out HN1.out)
                have X1c := hid (X1b.out.gr (set_grown w4b G 2 (.int .i64 S1)) (Nat.le_refl _))
                have X0c := hid (X0b.out.gr (set_grown w4b G 2 (.int .i64 S1)) (Nat.le_refl _))
                generalize (w4b.setCell ⟨G, 2, none⟩ (.int .i64 S1)) = Wc at KNc KRc KQc X1c X0c ⊢
                have fz := kp_froz KNc.out 4
                have cz := kp_cell (j := 4) (v := .slice none 0 0) KNc.out rfl
                go_upto_region 13 with fail
                clear fz cz
                have KN5 : Hid (Kp w _ G (.cells #[.int .i64 (c.n + d.n), .int .i64 S0, .int .i64 S1, (.slice A0 t0 cc0), (.slice A1 t1 cc1)] 26)) := hid (kp_set (j := 4) (v := (.slice A1 t1 cc1)) KNc.out)
                have KR5 := hid (kp_other (j := 4) (v := (.slice A1 t1 cc1)) KRc.out (Nat.ne_of_lt HNN.out.1) (Nat.le_trans HNN.out.2 (Nat.le_of_lt HNN.out.1)))
                have KQ5 := hid (kq_other (j := 4) (v := (.slice A1 t1 cc1)) KQc.out HN1.out)
                have X1 := hid (X1c.out.gr (set_grown Wc G 4 (.slice A1 t1 cc1)) (Nat.le_refl _))
                have X0 := hid (X0c.out.gr (set_grown Wc G 4 (.slice A1 t1 cc1)) (Nat.le_refl _))
                generalize (Wc.setCell ⟨G, 4, none⟩ (.slice A1 t1 cc1)) = W5 at KN5 KR5 KQ5 X1 X0 ⊢
                clear KNc KRc KQc KN4b KR4b KQ4b X1b X1c X0b X0c
                go_wp2
                rw [rounds_succ]
                obtain ⟨d0, d1, d2, d3, d4⟩ := box_five KN5.out.2.2
                go_wp2_with (refine wpList_store_whole rfl 26 (.tmp 6) (.tmp 75) rfl N2 (clC (c.n + d.n) S0 S1 A0 t0 cc0 A1 t1 cc1) rfl rfl 26 _ KR5.out.2.2 rfl (by show _ = some 5; exact size_cl) (clC_one _ _ _ _ _ _ _ _ _) ?_; intro w9 hp9 hg9; have KR9 := hid (kp_at KR5.out hg9 hp9); have X09 := hid (X0.out.gr hg9 (Nat.le_of_lt HNN.out.1)); have X19 := hid (X1.out.gr hg9 (Nat.le_of_lt HNN.out.1)); clear hp9 hg9)
                (try simp only [Exit.inBlock, Exit.then])
                show bodyPost Try.prog Try.f23 _ _ _ _
                refine bodyPost_ret (results_cell_slot (p := 6) (u := 7) rfl _ _ N2 _ (clC (c.n + d.n) S0 S1 A0 t0 cc0 A1 t1 cc1) (0, 0) _ (.bool true) rfl rfl KR9.out.2.2 Try.underlying26 rfl (by kernel_rfl)) rfl ?_
                have e0 := cjB_ok2 CA.out CB.out FF0.out FV0.out FF1.out
                have e1 : C = ⟨c.n + d.n, S0, S1, M0, M1⟩ := by
                  rw [← hC.out, cjC_yes e0, ← FS0.out, fitV_yes FF0.out, ← FM0.out, jl_yes FV0.out, ← FS1.out, fitV_yes FF1.out, ← FM1.out, jl_yes FV1.out]
                  rfl
                have e2 : v = true := by rw [← hv.out, e0]
                subst e1
                subst e2
                exact ⟨⟨_, _, _, _, _, _, rfl, X09.out.1, X19.out.1⟩, KR9.out.1⟩

end Go.Proofs.Ytjkkajhjcinalaa

namespace Go.Proofs.Ytjkkajhjcinalaa.calc
open Go.RowKit
set_option linter.unusedVariables false
set_option linter.unusedSimpArgs false
set_option maxRecDepth 100000

/-- Is a number below 0? -/
def ng (x : Int) : Bool := decide (x < 0)
theorem ng_t {x : Int} (h : x < 0) : ng x = true := decide_eq_true h
theorem ng_f {x : Int} (h : 0 ≤ x) : ng x = false := decide_eq_false (by omega)
set_option maxHeartbeats 400000 in
theorem of_any (a : Int) (w : World) (ha : I64 a) :
    Calls Try.prog 62 #[.int .i64 a] w fun e w' => e = .returned (.agg #[.bool (ng a), .int .u64 (hi (sz a)), .int .u64 (lo (sz a))]) ∧ Below w.heap.size w w' := by
  obtain ⟨s1, s2⟩ := sz_bd ha
  have e1 : hi (sz a) = 0 := by unfold hi; omega
  have e2 : lo (sz a) = sz a := by unfold lo; omega
  rw [e1, e2]
  clear e1 e2
  go_enter Try.func62, Try.ntmps62
  go_wp2_with (go_at_call 99; refine (rsize_any _ _ ha).mono ?_; rintro e w' ⟨rfl, rfl⟩)
  exact bodyPost_ret (v := .agg #[.bool (ng a), .int .u64 0, .int .u64 (sz a)]) (by simp [results, Try.results62, go_sem]; rfl) rfl ⟨rfl, (Below.refl _ _).alloc (Nat.le_refl _) _⟩
/-- Is one size below another one, word by word? -/
def lsB (xh xl yh yl : Int) : Bool := decide (xh < yh) || (decide (xh = yh) && decide (xl < yl))
theorem sz_lt {x y : Int} : lsB (hi (sz x)) (lo (sz x)) (hi (sz y)) (lo (sz y)) = decide (sz x < sz y) := by
  have := lohi (sz x); have := lohi (sz y); have := lo_bd (sz x); have := lo_bd (sz y)
  unfold lsB
  rw [Bool.eq_iff_iff]
  simp only [Bool.or_eq_true, Bool.and_eq_true, decide_eq_true_eq]
  omega
theorem ret_bool {a b : Bool} (h : a = b) : Ending.returned (.bool a) = .returned (.bool b) := by rw [h]
set_option maxHeartbeats 400000 in
theorem less_raw (p q : Bool) (xh xl yh yl : Int) (w : World) :
    Calls Try.prog 108 #[.agg #[.bool p, .int .u64 xh, .int .u64 xl], .agg #[.bool q, .int .u64 yh, .int .u64 yl]] w fun e w' => e = .returned (.bool (lsB xh xl yh yl)) ∧ w' = (w.alloc (.cells #[.bool p, .int .u64 xh, .int .u64 xl] 121)).alloc (.cells #[.bool q, .int .u64 yh, .int .u64 yl] 121) := by
  unfold lsB
  by_cases h1 : xh < yh
  · go_enter Try.func108, Try.ntmps108
    go_wp2
    go_ret
    exact ⟨ret_bool (by simp [h1]), rfl⟩
  · by_cases h2 : xh = yh
    · subst h2
      go_enter Try.func108, Try.ntmps108
      go_wp2
      go_ret
      exact ⟨ret_bool (by simp), rfl⟩
    · go_enter Try.func108, Try.ntmps108
      go_wp2
      go_ret
      exact ⟨ret_bool (by simp [h2]; omega), rfl⟩
theorem sz_cases (x : Int) : (ng x = true ∧ x < 0 ∧ sz x = -x) ∨ (ng x = false ∧ 0 ≤ x ∧ sz x = x) := by
  by_cases h : x < 0
  · exact .inl ⟨ng_t h, h, sz_neg h⟩
  · exact .inr ⟨ng_f (by omega), by omega, sz_pos (by omega)⟩
theorem sz_zero {x : Int} (h1 : hi (sz x) = 0) (h2 : lo (sz x) = 0) : x = 0 := by
  have h := lohi (sz x)
  rcases sz_cases x with ⟨_, _, s⟩ | ⟨_, _, s⟩ <;> rw [h1, h2, s] at h <;> omega
theorem bk1 {x : Int} (h1 : hi (sz x) = 0) (h2 : lo (sz x) = 9223372036854775808) (h3 : (!ng x) = true) : ¬ (-9223372036854775808 ≤ x ∧ x ≤ 9223372036854775807) := by
  have h := lohi (sz x)
  rcases sz_cases x with ⟨n, _, s⟩ | ⟨n, _, s⟩
  · rw [n] at h3; cases h3
  · omega
theorem bk2 {x : Int} (h1 : hi (sz x) = 0) (h2 : lo (sz x) = 9223372036854775808) (h3 : (!ng x) = false) : (-9223372036854775808 ≤ x ∧ x ≤ 9223372036854775807) ∧ -9223372036854775808 = x := by
  have h := lohi (sz x)
  rcases sz_cases x with ⟨n, _, s⟩ | ⟨n, _, s⟩
  · omega
  · rw [n] at h3; cases h3
theorem bk3 {x : Int} (h1 : hi (sz x) = 0) (h2 : lo (sz x) ≤ 9223372036854775808) (h4 : ¬ lo (sz x) = 9223372036854775808) (h3 : ng x = true) : (-9223372036854775808 ≤ x ∧ x ≤ 9223372036854775807) ∧ -lo (sz x) = x := by
  have h := lohi (sz x)
  rcases sz_cases x with ⟨n, _, s⟩ | ⟨n, _, s⟩
  · omega
  · rw [n] at h3; cases h3
theorem bk4 {x : Int} (h1 : hi (sz x) = 0) (h2 : lo (sz x) ≤ 9223372036854775808) (h4 : ¬ lo (sz x) = 9223372036854775808) (h3 : ng x = false) : (-9223372036854775808 ≤ x ∧ x ≤ 9223372036854775807) ∧ lo (sz x) = x := by
  have h := lohi (sz x)
  rcases sz_cases x with ⟨n, _, s⟩ | ⟨n, _, s⟩
  · rw [n] at h3; cases h3
  · omega
theorem bk5 {x : Int} (h1 : hi (sz x) = 0) (h2 : 9223372036854775808 < lo (sz x)) : ¬ (-9223372036854775808 ≤ x ∧ x ≤ 9223372036854775807) := by
  have h := lohi (sz x)
  rcases sz_cases x with ⟨n, _, s⟩ | ⟨n, _, s⟩ <;> omega
theorem bk6 {x : Int} (h1 : ¬ hi (sz x) = 0) : ¬ (-9223372036854775808 ≤ x ∧ x ≤ 9223372036854775807) := by
  have h := lohi (sz x); have b := lo_bd (sz x)
  rcases sz_cases x with ⟨n, _, s⟩ | ⟨n, _, s⟩ <;> omega
set_option maxHeartbeats 400000 in
theorem back_any (x : Int) (w : World) :
    Calls Try.prog 92 #[.agg #[.bool (ng x), .int .u64 (hi (sz x)), .int .u64 (lo (sz x))]] w fun e w' => e = .returned (.tuple #[.int .i64 (fitV x), .bool (fitB x)]) ∧ Below w.heap.size w w' := by
  have hb := lo_bd (sz x)
  go_enter Try.func92, Try.ntmps92
  go_wp2
  · go_ret2
    exact ⟨ret_fit_no (bk1 ‹_› ‹_› ‹_›), (Below.refl _ _).alloc (Nat.le_refl _) _⟩
  · go_ret2
    exact ⟨ret_fit_yes (bk2 ‹_› ‹_› ‹_›).1 (bk2 ‹_› ‹_› ‹_›).2, (Below.refl _ _).alloc (Nat.le_refl _) _⟩
  · go_ret2
    exact ⟨ret_fit_yes (bk3 ‹_› ‹_› ‹_› ‹_›).1 (bk3 ‹_› ‹_› ‹_› ‹_›).2, (Below.refl _ _).alloc (Nat.le_refl _) _⟩
  · go_ret2
    exact ⟨ret_fit_yes (bk4 ‹_› ‹_› ‹_› ‹_›).1 (bk4 ‹_› ‹_› ‹_› ‹_›).2, (Below.refl _ _).alloc (Nat.le_refl _) _⟩
  · go_ret2
    exact ⟨ret_fit_no (bk5 ‹_› ‹_›), (Below.refl _ _).alloc (Nat.le_refl _) _⟩
  · go_ret2
    exact ⟨ret_fit_no (bk6 ‹_›), (Below.refl _ _).alloc (Nat.le_refl _) _⟩
theorem sz_inj {x y : Int} (hn : ng x = ng y) (h1 : hi (sz x) = hi (sz y)) (h2 : lo (sz x) = lo (sz y)) : x = y := by
  have hx := lohi (sz x); have hy := lohi (sz y)
  rcases sz_cases x with ⟨n, _, s⟩ | ⟨n, _, s⟩ <;> rcases sz_cases y with ⟨m, _, t⟩ | ⟨m, _, t⟩
  · omega
  · rw [n, m] at hn; cases hn
  · rw [n, m] at hn; cases hn
  · omega
end Go.Proofs.Ytjkkajhjcinalaa.calc

namespace Go.Proofs.Ytjkkajhjcinalaa.calc
open Go.RowKit
set_option linter.unusedVariables false
set_option linter.unusedSimpArgs false
set_option maxRecDepth 100000

set_option maxHeartbeats 1000000 in
theorem plus_same0 (p : Bool) (xh xl yh yl : Int) (w : World) (a1 : 0 ≤ xh) (a2 : 0 ≤ xl) (a3 : 0 ≤ yh) (a4 : 0 ≤ yl) (c1 : xh + yh ≤ 18446744073709551615) (c2 : xl + yl ≤ 18446744073709551615) :
    Calls Try.prog 98 #[.agg #[.bool p, .int .u64 xh, .int .u64 xl], .agg #[.bool p, .int .u64 yh, .int .u64 yl]] w fun e w' => e = .returned (.agg #[.bool p, .int .u64 (xh + yh), .int .u64 (xl + yl)]) ∧ Below w.heap.size w w' := by
  go_enter Try.func98, Try.ntmps98
  go_wp2
  exact bodyPost_ret (v := .agg #[.bool p, .int .u64 (xh + yh), .int .u64 (xl + yl)]) (by simp [results, Try.results98, go_sem]) rfl ⟨rfl, (((((Below.refl _ _).alloc (Nat.le_refl _) _).alloc (by simp) _).alloc (by simp; omega) _).alloc (by simp; omega) _)⟩
set_option maxHeartbeats 1000000 in
theorem plus_same1 (p : Bool) (xh xl yh yl z : Int) (w : World) (a1 : 0 ≤ xh) (a2 : 0 ≤ xl) (a3 : 0 ≤ yh) (a4 : 0 ≤ yl) (c1 : xh + yh + 1 ≤ 18446744073709551615) (hz : IntKind.u64.wrap (xl + yl) = z) (c2 : z < xl) :
    Calls Try.prog 98 #[.agg #[.bool p, .int .u64 xh, .int .u64 xl], .agg #[.bool p, .int .u64 yh, .int .u64 yl]] w fun e w' => e = .returned (.agg #[.bool p, .int .u64 (xh + yh + 1), .int .u64 z]) ∧ Below w.heap.size w w' := by
  go_enter Try.func98, Try.ntmps98
  go_wp2
  exact bodyPost_ret (v := .agg #[.bool p, .int .u64 (xh + yh + 1), .int .u64 z]) (by simp [results, Try.results98, go_sem]) rfl ⟨rfl, (((((Below.refl _ _).alloc (Nat.le_refl _) _).alloc (by simp) _).alloc (by simp; omega) _).alloc (by simp; omega) _)⟩
set_option maxHeartbeats 1000000 in
theorem pd_nb1 (p q : Bool) (xh xl yh yl : Int) (w : World) (hpq : (p == q) = false) (a1 : 0 ≤ xh) (a2 : 0 ≤ xl) (a3 : 0 ≤ yh) (a4 : 0 ≤ yl) (b1 : xh ≤ 18446744073709551615) (b2 : xl ≤ 18446744073709551615) (b3 : yh ≤ 18446744073709551615) (b4 : yl ≤ 18446744073709551615) (hl : lsB xh xl yh yl = false) (c1 : yh ≤ xh) (c2 : yl ≤ xl) (n1 : (xh - yh == 0) = false) :
    Calls Try.prog 98 #[.agg #[.bool p, .int .u64 xh, .int .u64 xl], .agg #[.bool q, .int .u64 yh, .int .u64 yl]] w fun e w' => e = .returned (.agg #[.bool p, .int .u64 (xh - yh), .int .u64 (xl - yl)]) ∧ Below w.heap.size w w' := by
  go_enter Try.func98, Try.ntmps98
  go_wp2_with (go_at_call 108; refine (less_raw _ _ _ _ _ _ _).mono ?_; rintro e w' ⟨rfl, rfl⟩)
  exact bodyPost_ret (v := .agg #[.bool p, .int .u64 (xh - yh), .int .u64 (xl - yl)]) (by simp [results, Try.results98, go_sem]) rfl ⟨rfl, (((((((Below.refl _ _).alloc (Nat.le_refl _) _).alloc (by simp) _).alloc (by simp; omega) _).alloc (by simp; omega) _).alloc (by simp; omega) _).alloc (by simp; omega) _)⟩
set_option maxHeartbeats 1000000 in
theorem pd_nb2 (p q : Bool) (xh xl yh yl : Int) (w : World) (hpq : (p == q) = false) (a1 : 0 ≤ xh) (a2 : 0 ≤ xl) (a3 : 0 ≤ yh) (a4 : 0 ≤ yl) (b1 : xh ≤ 18446744073709551615) (b2 : xl ≤ 18446744073709551615) (b3 : yh ≤ 18446744073709551615) (b4 : yl ≤ 18446744073709551615) (hl : lsB xh xl yh yl = false) (c1 : yh ≤ xh) (c2 : yl ≤ xl) (n1 : (xh - yh == 0) = true) (n2 : (xl - yl == 0) = false) :
    Calls Try.prog 98 #[.agg #[.bool p, .int .u64 xh, .int .u64 xl], .agg #[.bool q, .int .u64 yh, .int .u64 yl]] w fun e w' => e = .returned (.agg #[.bool p, .int .u64 (xh - yh), .int .u64 (xl - yl)]) ∧ Below w.heap.size w w' := by
  go_enter Try.func98, Try.ntmps98
  go_wp2_with (go_at_call 108; refine (less_raw _ _ _ _ _ _ _).mono ?_; rintro e w' ⟨rfl, rfl⟩)
  exact bodyPost_ret (v := .agg #[.bool p, .int .u64 (xh - yh), .int .u64 (xl - yl)]) (by simp [results, Try.results98, go_sem]) rfl ⟨rfl, (((((((Below.refl _ _).alloc (Nat.le_refl _) _).alloc (by simp) _).alloc (by simp; omega) _).alloc (by simp; omega) _).alloc (by simp; omega) _).alloc (by simp; omega) _)⟩
set_option maxHeartbeats 1000000 in
theorem pd_b1 (p q : Bool) (xh xl yh yl z : Int) (w : World) (hpq : (p == q) = false) (a1 : 0 ≤ xh) (a2 : 0 ≤ xl) (a3 : 0 ≤ yh) (a4 : 0 ≤ yl) (b1 : xh ≤ 18446744073709551615) (b2 : xl ≤ 18446744073709551615) (b3 : yh ≤ 18446744073709551615) (b4 : yl ≤ 18446744073709551615) (hl : lsB xh xl yh yl = false) (c1 : yh < xh) (c2 : xl < yl) (hz : IntKind.u64.wrap (xl - yl) = z) (n1 : (xh - yh - 1 == 0) = false) :
    Calls Try.prog 98 #[.agg #[.bool p, .int .u64 xh, .int .u64 xl], .agg #[.bool q, .int .u64 yh, .int .u64 yl]] w fun e w' => e = .returned (.agg #[.bool p, .int .u64 (xh - yh - 1), .int .u64 z]) ∧ Below w.heap.size w w' := by
  go_enter Try.func98, Try.ntmps98
  go_wp2_with (go_at_call 108; refine (less_raw _ _ _ _ _ _ _).mono ?_; rintro e w' ⟨rfl, rfl⟩)
  exact bodyPost_ret (v := .agg #[.bool p, .int .u64 (xh - yh - 1), .int .u64 z]) (by simp [results, Try.results98, go_sem]) rfl ⟨rfl, (((((((Below.refl _ _).alloc (Nat.le_refl _) _).alloc (by simp) _).alloc (by simp; omega) _).alloc (by simp; omega) _).alloc (by simp; omega) _).alloc (by simp; omega) _)⟩
set_option maxHeartbeats 1000000 in
theorem pd_b2 (p q : Bool) (xh xl yh yl z : Int) (w : World) (hpq : (p == q) = false) (a1 : 0 ≤ xh) (a2 : 0 ≤ xl) (a3 : 0 ≤ yh) (a4 : 0 ≤ yl) (b1 : xh ≤ 18446744073709551615) (b2 : xl ≤ 18446744073709551615) (b3 : yh ≤ 18446744073709551615) (b4 : yl ≤ 18446744073709551615) (hl : lsB xh xl yh yl = false) (c1 : yh < xh) (c2 : xl < yl) (hz : IntKind.u64.wrap (xl - yl) = z) (n1 : (xh - yh - 1 == 0) = true) (n2 : (z == 0) = false) :
    Calls Try.prog 98 #[.agg #[.bool p, .int .u64 xh, .int .u64 xl], .agg #[.bool q, .int .u64 yh, .int .u64 yl]] w fun e w' => e = .returned (.agg #[.bool p, .int .u64 (xh - yh - 1), .int .u64 z]) ∧ Below w.heap.size w w' := by
  go_enter Try.func98, Try.ntmps98
  go_wp2_with (go_at_call 108; refine (less_raw _ _ _ _ _ _ _).mono ?_; rintro e w' ⟨rfl, rfl⟩)
  exact bodyPost_ret (v := .agg #[.bool p, .int .u64 (xh - yh - 1), .int .u64 z]) (by simp [results, Try.results98, go_sem]) rfl ⟨rfl, (((((((Below.refl _ _).alloc (Nat.le_refl _) _).alloc (by simp) _).alloc (by simp; omega) _).alloc (by simp; omega) _).alloc (by simp; omega) _).alloc (by simp; omega) _)⟩
set_option maxHeartbeats 1000000 in
theorem ps_nb1 (p q : Bool) (xh xl yh yl : Int) (w : World) (hpq : (p == q) = false) (a1 : 0 ≤ xh) (a2 : 0 ≤ xl) (a3 : 0 ≤ yh) (a4 : 0 ≤ yl) (b1 : xh ≤ 18446744073709551615) (b2 : xl ≤ 18446744073709551615) (b3 : yh ≤ 18446744073709551615) (b4 : yl ≤ 18446744073709551615) (hl : lsB xh xl yh yl = true) (c1 : xh ≤ yh) (c2 : xl ≤ yl) (n1 : (yh - xh == 0) = false) :
    Calls Try.prog 98 #[.agg #[.bool p, .int .u64 xh, .int .u64 xl], .agg #[.bool q, .int .u64 yh, .int .u64 yl]] w fun e w' => e = .returned (.agg #[.bool q, .int .u64 (yh - xh), .int .u64 (yl - xl)]) ∧ Below w.heap.size w w' := by
  go_enter Try.func98, Try.ntmps98
  go_wp2_with (go_at_call 108; refine (less_raw _ _ _ _ _ _ _).mono ?_; rintro e w' ⟨rfl, rfl⟩)
  exact bodyPost_ret (v := .agg #[.bool q, .int .u64 (yh - xh), .int .u64 (yl - xl)]) (by simp [results, Try.results98, go_sem]) rfl ⟨rfl, (((((((Below.refl _ _).alloc (Nat.le_refl _) _).alloc (by simp) _).alloc (by simp; omega) _).alloc (by simp; omega) _).alloc (by simp; omega) _).alloc (by simp; omega) _)⟩
set_option maxHeartbeats 1000000 in
theorem ps_nb2 (p q : Bool) (xh xl yh yl : Int) (w : World) (hpq : (p == q) = false) (a1 : 0 ≤ xh) (a2 : 0 ≤ xl) (a3 : 0 ≤ yh) (a4 : 0 ≤ yl) (b1 : xh ≤ 18446744073709551615) (b2 : xl ≤ 18446744073709551615) (b3 : yh ≤ 18446744073709551615) (b4 : yl ≤ 18446744073709551615) (hl : lsB xh xl yh yl = true) (c1 : xh ≤ yh) (c2 : xl ≤ yl) (n1 : (yh - xh == 0) = true) (n2 : (yl - xl == 0) = false) :
    Calls Try.prog 98 #[.agg #[.bool p, .int .u64 xh, .int .u64 xl], .agg #[.bool q, .int .u64 yh, .int .u64 yl]] w fun e w' => e = .returned (.agg #[.bool q, .int .u64 (yh - xh), .int .u64 (yl - xl)]) ∧ Below w.heap.size w w' := by
  go_enter Try.func98, Try.ntmps98
  go_wp2_with (go_at_call 108; refine (less_raw _ _ _ _ _ _ _).mono ?_; rintro e w' ⟨rfl, rfl⟩)
  exact bodyPost_ret (v := .agg #[.bool q, .int .u64 (yh - xh), .int .u64 (yl - xl)]) (by simp [results, Try.results98, go_sem]) rfl ⟨rfl, (((((((Below.refl _ _).alloc (Nat.le_refl _) _).alloc (by simp) _).alloc (by simp; omega) _).alloc (by simp; omega) _).alloc (by simp; omega) _).alloc (by simp; omega) _)⟩
set_option maxHeartbeats 1000000 in
theorem ps_b1 (p q : Bool) (xh xl yh yl z : Int) (w : World) (hpq : (p == q) = false) (a1 : 0 ≤ xh) (a2 : 0 ≤ xl) (a3 : 0 ≤ yh) (a4 : 0 ≤ yl) (b1 : xh ≤ 18446744073709551615) (b2 : xl ≤ 18446744073709551615) (b3 : yh ≤ 18446744073709551615) (b4 : yl ≤ 18446744073709551615) (hl : lsB xh xl yh yl = true) (c1 : xh < yh) (c2 : yl < xl) (hz : IntKind.u64.wrap (yl - xl) = z) (n1 : (yh - xh - 1 == 0) = false) :
    Calls Try.prog 98 #[.agg #[.bool p, .int .u64 xh, .int .u64 xl], .agg #[.bool q, .int .u64 yh, .int .u64 yl]] w fun e w' => e = .returned (.agg #[.bool q, .int .u64 (yh - xh - 1), .int .u64 z]) ∧ Below w.heap.size w w' := by
  go_enter Try.func98, Try.ntmps98
  go_wp2_with (go_at_call 108; refine (less_raw _ _ _ _ _ _ _).mono ?_; rintro e w' ⟨rfl, rfl⟩)
  exact bodyPost_ret (v := .agg #[.bool q, .int .u64 (yh - xh - 1), .int .u64 z]) (by simp [results, Try.results98, go_sem]) rfl ⟨rfl, (((((((Below.refl _ _).alloc (Nat.le_refl _) _).alloc (by simp) _).alloc (by simp; omega) _).alloc (by simp; omega) _).alloc (by simp; omega) _).alloc (by simp; omega) _)⟩
set_option maxHeartbeats 1000000 in
theorem ps_b2 (p q : Bool) (xh xl yh yl z : Int) (w : World) (hpq : (p == q) = false) (a1 : 0 ≤ xh) (a2 : 0 ≤ xl) (a3 : 0 ≤ yh) (a4 : 0 ≤ yl) (b1 : xh ≤ 18446744073709551615) (b2 : xl ≤ 18446744073709551615) (b3 : yh ≤ 18446744073709551615) (b4 : yl ≤ 18446744073709551615) (hl : lsB xh xl yh yl = true) (c1 : xh < yh) (c2 : yl < xl) (hz : IntKind.u64.wrap (yl - xl) = z) (n1 : (yh - xh - 1 == 0) = true) (n2 : (z == 0) = false) :
    Calls Try.prog 98 #[.agg #[.bool p, .int .u64 xh, .int .u64 xl], .agg #[.bool q, .int .u64 yh, .int .u64 yl]] w fun e w' => e = .returned (.agg #[.bool q, .int .u64 (yh - xh - 1), .int .u64 z]) ∧ Below w.heap.size w w' := by
  go_enter Try.func98, Try.ntmps98
  go_wp2_with (go_at_call 108; refine (less_raw _ _ _ _ _ _ _).mono ?_; rintro e w' ⟨rfl, rfl⟩)
  exact bodyPost_ret (v := .agg #[.bool q, .int .u64 (yh - xh - 1), .int .u64 z]) (by simp [results, Try.results98, go_sem]) rfl ⟨rfl, (((((((Below.refl _ _).alloc (Nat.le_refl _) _).alloc (by simp) _).alloc (by simp; omega) _).alloc (by simp; omega) _).alloc (by simp; omega) _).alloc (by simp; omega) _)⟩
set_option maxHeartbeats 1000000 in
theorem pd_z (p q : Bool) (xh xl : Int) (w : World) (hpq : (p == q) = false) (hl : lsB xh xl xh xl = false) :
    Calls Try.prog 98 #[.agg #[.bool p, .int .u64 xh, .int .u64 xl], .agg #[.bool q, .int .u64 xh, .int .u64 xl]] w fun e w' => e = .returned (.agg #[.bool false, .int .u64 0, .int .u64 0]) ∧ Below w.heap.size w w' := by
  go_enter Try.func98, Try.ntmps98
  go_wp2_with (go_at_call 108; refine (less_raw _ _ _ _ _ _ _).mono ?_; rintro e w' ⟨rfl, rfl⟩)
  exact bodyPost_ret (v := .agg #[.bool false, .int .u64 0, .int .u64 0]) (by simp [results, Try.results98, go_sem]) rfl ⟨rfl, (((((((Below.refl _ _).alloc (Nat.le_refl _) _).alloc (by simp) _).alloc (by simp; omega) _).alloc (by simp; omega) _).alloc (by simp; omega) _).alloc (by simp; omega) _)⟩
theorem add_same {x y : Int} (h : ng x = ng y) : sz (x + y) = sz x + sz y ∧ ng (x + y) = ng x := by
  rcases sz_cases x with ⟨n, _, s⟩ | ⟨n, _, s⟩ <;> rcases sz_cases y with ⟨m, _, t⟩ | ⟨m, _, t⟩
  · exact ⟨by rw [s, t, sz_neg (by omega)]; omega, by rw [n, ng_t (by omega)]⟩
  · rw [n, m] at h; cases h
  · rw [n, m] at h; cases h
  · exact ⟨by rw [s, t, sz_pos (by omega)], by rw [n, ng_f (by omega)]⟩
theorem add_gt {x y : Int} (h : ¬ ng x = ng y) (g : sz y < sz x) : sz (x + y) = sz x - sz y ∧ ng (x + y) = ng x := by
  rcases sz_cases x with ⟨n, _, s⟩ | ⟨n, _, s⟩ <;> rcases sz_cases y with ⟨m, _, t⟩ | ⟨m, _, t⟩
  · rw [n, m] at h; exact absurd rfl h
  · exact ⟨by rw [s, t, sz_neg (by omega)]; omega, by rw [n, ng_t (by omega)]⟩
  · exact ⟨by rw [s, t, sz_pos (by omega)]; omega, by rw [n, ng_f (by omega)]⟩
  · rw [n, m] at h; exact absurd rfl h
theorem sz_nn (x : Int) : 0 ≤ sz x := by rcases sz_cases x with ⟨n, _, s⟩ | ⟨n, _, s⟩ <;> omega
theorem rplus_any (x y : Int) (w : World) (hx : sz x ≤ 85070591730234615865843651857942052864) (hy : sz y ≤ 85070591730234615865843651857942052864) :
    Calls Try.prog 98 #[.agg #[.bool (ng x), .int .u64 (hi (sz x)), .int .u64 (lo (sz x))], .agg #[.bool (ng y), .int .u64 (hi (sz y)), .int .u64 (lo (sz y))]] w fun e w' => e = .returned (.agg #[.bool (ng (x + y)), .int .u64 (hi (sz (x + y))), .int .u64 (lo (sz (x + y)))]) ∧ Below w.heap.size w w' := by
  have nx := sz_nn x
  have ny := sz_nn y
  have X := lohi (sz x); have Y := lohi (sz y)
  obtain ⟨bx1, bx2⟩ := lo_bd (sz x); obtain ⟨by1, by2⟩ := lo_bd (sz y)
  have cx1 : 0 ≤ hi (sz x) := by unfold hi; omega
  have cy1 : 0 ≤ hi (sz y) := by unfold hi; omega
  have cx2 : hi (sz x) ≤ 4611686018427387904 := by unfold hi; omega
  have cy2 : hi (sz y) ≤ 4611686018427387904 := by unfold hi; omega
  by_cases hn : ng x = ng y
  · obtain ⟨e1, e2⟩ := add_same hn
    rw [e1, e2, hn]
    by_cases hc : lo (sz x) + lo (sz y) ≤ 18446744073709551615
    · have f1 : hi (sz x + sz y) = hi (sz x) + hi (sz y) := by unfold hi lo at *; omega
      have f2 : lo (sz x + sz y) = lo (sz x) + lo (sz y) := by unfold hi lo at *; omega
      rw [f1, f2]
      exact plus_same0 _ _ _ _ _ w cx1 bx1 cy1 by1 (by omega) hc
    · have f1 : hi (sz x + sz y) = hi (sz x) + hi (sz y) + 1 := by unfold hi lo at *; omega
      have f2 : lo (sz x + sz y) = lo (sz x) + lo (sz y) - 18446744073709551616 := by unfold hi lo at *; omega
      rw [f1, f2]
      exact plus_same1 _ _ _ _ _ _ w cx1 bx1 cy1 by1 (by omega) (by rw [IntKind.wrap_u64]; omega) (by omega)
  · have hpq : (ng x == ng y) = false := by simpa using hn
    by_cases hlt : sz x < sz y
    · have hl : lsB (hi (sz x)) (lo (sz x)) (hi (sz y)) (lo (sz y)) = true := by rw [sz_lt]; exact decide_eq_true hlt
      obtain ⟨e1, e2⟩ := add_gt (x := y) (y := x) (fun h => hn h.symm) hlt
      rw [Int.add_comm x y, e1, e2]
      by_cases hc : lo (sz x) ≤ lo (sz y)
      · have f1 : hi (sz y - sz x) = hi (sz y) - hi (sz x) := by unfold hi lo at *; omega
        have f2 : lo (sz y - sz x) = lo (sz y) - lo (sz x) := by unfold hi lo at *; omega
        rw [f1, f2]
        by_cases hz : hi (sz y) - hi (sz x) = 0
        · exact ps_nb2 _ _ _ _ _ _ w hpq cx1 bx1 cy1 by1 (by omega) (by omega) (by omega) (by omega) hl (by omega) hc (by simp [hz]) (by simp; omega)
        · exact ps_nb1 _ _ _ _ _ _ w hpq cx1 bx1 cy1 by1 (by omega) (by omega) (by omega) (by omega) hl (by omega) hc (by simp [hz])
      · have f1 : hi (sz y - sz x) = hi (sz y) - hi (sz x) - 1 := by unfold hi lo at *; omega
        have f2 : lo (sz y - sz x) = lo (sz y) - lo (sz x) + 18446744073709551616 := by unfold hi lo at *; omega
        rw [f1, f2]
        by_cases hz : hi (sz y) - hi (sz x) - 1 = 0
        · exact ps_b2 _ _ _ _ _ _ _ w hpq cx1 bx1 cy1 by1 (by omega) (by omega) (by omega) (by omega) hl (by omega) (by omega) (by rw [IntKind.wrap_u64]; omega) (by simp [hz]) (by simp; omega)
        · exact ps_b1 _ _ _ _ _ _ _ w hpq cx1 bx1 cy1 by1 (by omega) (by omega) (by omega) (by omega) hl (by omega) (by omega) (by rw [IntKind.wrap_u64]; omega) (by simp [hz])
    · have hl : lsB (hi (sz x)) (lo (sz x)) (hi (sz y)) (lo (sz y)) = false := by rw [sz_lt]; exact decide_eq_false hlt
      by_cases heq : sz x = sz y
      · have e0 : x + y = 0 := by
          rcases sz_cases x with ⟨n, _, s⟩ | ⟨n, _, s⟩ <;> rcases sz_cases y with ⟨m, _, t⟩ | ⟨m, _, t⟩
          · rw [n, m] at hn; exact absurd rfl hn
          · omega
          · omega
          · rw [n, m] at hn; exact absurd rfl hn
        rw [e0, ← heq]
        rw [← heq] at hl
        exact pd_z _ _ _ _ w hpq hl
      · obtain ⟨e1, e2⟩ := add_gt hn (by omega)
        rw [e1, e2]
        by_cases hc : lo (sz y) ≤ lo (sz x)
        · have f1 : hi (sz x - sz y) = hi (sz x) - hi (sz y) := by unfold hi lo at *; omega
          have f2 : lo (sz x - sz y) = lo (sz x) - lo (sz y) := by unfold hi lo at *; omega
          rw [f1, f2]
          by_cases hz : hi (sz x) - hi (sz y) = 0
          · exact pd_nb2 _ _ _ _ _ _ w hpq cx1 bx1 cy1 by1 (by omega) (by omega) (by omega) (by omega) hl (by omega) hc (by simp [hz]) (by simp; omega)
          · exact pd_nb1 _ _ _ _ _ _ w hpq cx1 bx1 cy1 by1 (by omega) (by omega) (by omega) (by omega) hl (by omega) hc (by simp [hz])
        · have f1 : hi (sz x - sz y) = hi (sz x) - hi (sz y) - 1 := by unfold hi lo at *; omega
          have f2 : lo (sz x - sz y) = lo (sz x) - lo (sz y) + 18446744073709551616 := by unfold hi lo at *; omega
          rw [f1, f2]
          by_cases hz : hi (sz x) - hi (sz y) - 1 = 0
          · exact pd_b2 _ _ _ _ _ _ _ w hpq cx1 bx1 cy1 by1 (by omega) (by omega) (by omega) (by omega) hl (by omega) (by omega) (by rw [IntKind.wrap_u64]; omega) (by simp [hz]) (by simp; omega)
          · exact pd_b1 _ _ _ _ _ _ _ w hpq cx1 bx1 cy1 by1 (by omega) (by omega) (by omega) (by omega) hl (by omega) (by omega) (by rw [IntKind.wrap_u64]; omega) (by simp [hz])

end Go.Proofs.Ytjkkajhjcinalaa.calc

namespace Go.Proofs.Ytjkkajhjcinalaa.calc
open Go.RowKit
set_option linter.unusedVariables false
set_option linter.unusedSimpArgs false
set_option maxRecDepth 100000

set_option maxHeartbeats 1000000 in
theorem times_h (a b P Q R S PR PS QR QS PSl QRl QSl M H L : Int) (s : Bool) (w : World) (ha : I64 a) (hb : I64 b) (hs : (!(decide (a < 0) == decide (b < 0))) = s)
    (hP : sz a / 4294967296 = P) (hQ : bits .and .u64 (sz a) 4294967295 = Q) (hR : sz b / 4294967296 = R) (hS : bits .and .u64 (sz b) 4294967295 = S)
    (hPR : IntKind.u64.wrap (P * R) = PR) (hPS : IntKind.u64.wrap (P * S) = PS) (hQR : IntKind.u64.wrap (Q * R) = QR) (hQS : IntKind.u64.wrap (Q * S) = QS)
    (hPSl : bits .and .u64 PS 4294967295 = PSl) (hQRl : bits .and .u64 QR 4294967295 = QRl) (hQSl : bits .and .u64 QS 4294967295 = QSl)
    (b1 : 0 ≤ PR) (b2 : PR ≤ 4611686018427387904) (b3 : 0 ≤ PS) (b4 : PS ≤ 18446744065119617025) (b5 : 0 ≤ QR) (b6 : QR ≤ 18446744065119617025) (b7 : 0 ≤ QS) (b8 : QS ≤ 18446744065119617025)
    (b9 : 0 ≤ PSl) (b10 : PSl ≤ 4294967295) (b11 : 0 ≤ QRl) (b12 : QRl ≤ 4294967295) (b13 : 0 ≤ QSl) (b14 : QSl ≤ 4294967295)
    (hM : QS / 4294967296 + PSl + QRl = M) (m1 : 0 ≤ M) (m2 : M ≤ 12884901886) (hH : PR + PS / 4294967296 + QR / 4294967296 + M / 4294967296 = H) (hL : bits .or .u64 (IntKind.u64.wrap (M * 4294967296)) QSl = L) (n1 : (H == 0) = false) :
    Calls Try.prog 74 #[.int .i64 a, .int .i64 b] w fun e w' => e = .returned (.agg #[.bool s, .int .u64 H, .int .u64 L]) ∧ Below w.heap.size w w' := by
  go_enter Try.func74, Try.ntmps74
  go_wp2_with (go_at_call 99; refine (rsize_any _ _ (by assumption)).mono ?_; rintro e w' ⟨rfl, rfl⟩)
  exact bodyPost_ret (v := .agg #[.bool s, .int .u64 H, .int .u64 L]) (by simp [results, Try.results74, go_sem]) rfl ⟨rfl, ((Below.refl _ _).alloc (Nat.le_refl _) _).alloc (by simp) _⟩
set_option maxHeartbeats 1000000 in
theorem times_l (a b P Q R S PR PS QR QS PSl QRl QSl M H L : Int) (s : Bool) (w : World) (ha : I64 a) (hb : I64 b) (hs : (!(decide (a < 0) == decide (b < 0))) = s)
    (hP : sz a / 4294967296 = P) (hQ : bits .and .u64 (sz a) 4294967295 = Q) (hR : sz b / 4294967296 = R) (hS : bits .and .u64 (sz b) 4294967295 = S)
    (hPR : IntKind.u64.wrap (P * R) = PR) (hPS : IntKind.u64.wrap (P * S) = PS) (hQR : IntKind.u64.wrap (Q * R) = QR) (hQS : IntKind.u64.wrap (Q * S) = QS)
    (hPSl : bits .and .u64 PS 4294967295 = PSl) (hQRl : bits .and .u64 QR 4294967295 = QRl) (hQSl : bits .and .u64 QS 4294967295 = QSl)
    (b1 : 0 ≤ PR) (b2 : PR ≤ 4611686018427387904) (b3 : 0 ≤ PS) (b4 : PS ≤ 18446744065119617025) (b5 : 0 ≤ QR) (b6 : QR ≤ 18446744065119617025) (b7 : 0 ≤ QS) (b8 : QS ≤ 18446744065119617025)
    (b9 : 0 ≤ PSl) (b10 : PSl ≤ 4294967295) (b11 : 0 ≤ QRl) (b12 : QRl ≤ 4294967295) (b13 : 0 ≤ QSl) (b14 : QSl ≤ 4294967295)
    (hM : QS / 4294967296 + PSl + QRl = M) (m1 : 0 ≤ M) (m2 : M ≤ 12884901886) (hH : PR + PS / 4294967296 + QR / 4294967296 + M / 4294967296 = H) (hL : bits .or .u64 (IntKind.u64.wrap (M * 4294967296)) QSl = L) (n1 : (H == 0) = true) (n2 : (L == 0) = false) :
    Calls Try.prog 74 #[.int .i64 a, .int .i64 b] w fun e w' => e = .returned (.agg #[.bool s, .int .u64 H, .int .u64 L]) ∧ Below w.heap.size w w' := by
  go_enter Try.func74, Try.ntmps74
  go_wp2_with (go_at_call 99; refine (rsize_any _ _ (by assumption)).mono ?_; rintro e w' ⟨rfl, rfl⟩)
  exact bodyPost_ret (v := .agg #[.bool s, .int .u64 H, .int .u64 L]) (by simp [results, Try.results74, go_sem]) rfl ⟨rfl, ((Below.refl _ _).alloc (Nat.le_refl _) _).alloc (by simp) _⟩
set_option maxHeartbeats 1000000 in
theorem times_z (a b P Q R S PR PS QR QS PSl QRl QSl M H L : Int) (s : Bool) (w : World) (ha : I64 a) (hb : I64 b) (hs : (!(decide (a < 0) == decide (b < 0))) = s)
    (hP : sz a / 4294967296 = P) (hQ : bits .and .u64 (sz a) 4294967295 = Q) (hR : sz b / 4294967296 = R) (hS : bits .and .u64 (sz b) 4294967295 = S)
    (hPR : IntKind.u64.wrap (P * R) = PR) (hPS : IntKind.u64.wrap (P * S) = PS) (hQR : IntKind.u64.wrap (Q * R) = QR) (hQS : IntKind.u64.wrap (Q * S) = QS)
    (hPSl : bits .and .u64 PS 4294967295 = PSl) (hQRl : bits .and .u64 QR 4294967295 = QRl) (hQSl : bits .and .u64 QS 4294967295 = QSl)
    (b1 : 0 ≤ PR) (b2 : PR ≤ 4611686018427387904) (b3 : 0 ≤ PS) (b4 : PS ≤ 18446744065119617025) (b5 : 0 ≤ QR) (b6 : QR ≤ 18446744065119617025) (b7 : 0 ≤ QS) (b8 : QS ≤ 18446744065119617025)
    (b9 : 0 ≤ PSl) (b10 : PSl ≤ 4294967295) (b11 : 0 ≤ QRl) (b12 : QRl ≤ 4294967295) (b13 : 0 ≤ QSl) (b14 : QSl ≤ 4294967295)
    (hM : QS / 4294967296 + PSl + QRl = M) (m1 : 0 ≤ M) (m2 : M ≤ 12884901886) (hH : PR + PS / 4294967296 + QR / 4294967296 + M / 4294967296 = H) (hL : bits .or .u64 (IntKind.u64.wrap (M * 4294967296)) QSl = L) (n1 : (H == 0) = true) (n2 : (L == 0) = true) :
    Calls Try.prog 74 #[.int .i64 a, .int .i64 b] w fun e w' => e = .returned (.agg #[.bool false, .int .u64 H, .int .u64 L]) ∧ Below w.heap.size w w' := by
  go_enter Try.func74, Try.ntmps74
  go_wp2_with (go_at_call 99; refine (rsize_any _ _ (by assumption)).mono ?_; rintro e w' ⟨rfl, rfl⟩)
  exact bodyPost_ret (v := .agg #[.bool false, .int .u64 H, .int .u64 L]) (by simp [results, Try.results74, go_sem]) rfl ⟨rfl, ((Below.refl _ _).alloc (Nat.le_refl _) _).alloc (by simp) _⟩
theorem orI (m q : Int) (h0 : 0 ≤ m) (h1 : 0 ≤ q) (h2 : q < 4294967296) : bits .or .u64 (IntKind.u64.wrap (m * 4294967296)) q = (m * 4294967296) % 18446744073709551616 + q := by
  obtain ⟨m, rfl⟩ := Int.eq_ofNat_of_zero_le h0
  obtain ⟨q, rfl⟩ := Int.eq_ofNat_of_zero_le h1
  have e1 : IntKind.u64.wrap ((m : Int) * 4294967296) = (((m % 4294967296) * 4294967296 : Nat) : Int) := by rw [IntKind.wrap_u64]; omega
  have e2 : (m % 4294967296) * 4294967296 ||| q = (m % 4294967296) * 4294967296 + q := by
    have h := Nat.shiftLeft_add_eq_or_of_lt (b := q) (i := 32) (by omega) (m % 4294967296)
    rw [Nat.shiftLeft_eq] at h
    exact h.symm
  rw [e1, bits_or_u64_nat _ _ (by omega) (by omega), e2]
  omega
theorem sz_mul (a b : Int) : sz (a * b) = sz a * sz b := by
  rcases sz_cases a with ⟨_, h, s⟩ | ⟨_, h, s⟩ <;> rcases sz_cases b with ⟨_, g, t⟩ | ⟨_, g, t⟩ <;> rw [s, t]
  · rw [Int.neg_mul_neg, sz_pos (Int.le_of_lt (Int.mul_pos_of_neg_of_neg h g))]
  · rw [Int.neg_mul]
    have := Int.mul_nonneg (Int.le_of_lt (Int.neg_pos_of_neg h)) g
    rw [Int.neg_mul] at this
    by_cases z : a * b < 0
    · rw [sz_neg z]
    · have : a * b = 0 := by omega
      rw [this]; rfl
  · rw [Int.mul_neg]
    have := Int.mul_nonneg h (Int.le_of_lt (Int.neg_pos_of_neg g))
    rw [Int.mul_neg] at this
    by_cases z : a * b < 0
    · rw [sz_neg z]
    · have : a * b = 0 := by omega
      rw [this]; rfl
  · rw [sz_pos (Int.mul_nonneg h g)]
theorem ng_mul {a b : Int} (h : ¬ a * b = 0) : ng (a * b) = !(decide (a < 0) == decide (b < 0)) := by
  by_cases ca : a < 0 <;> by_cases cb : b < 0
  · rw [decide_eq_true ca, decide_eq_true cb, ng_f (Int.le_of_lt (Int.mul_pos_of_neg_of_neg ca cb))]; rfl
  · rw [decide_eq_true ca, decide_eq_false cb]
    have hb : 0 < b := by
      rcases Int.lt_or_le 0 b with h' | h'
      · exact h'
      · exfalso; have : b = 0 := by omega
        rw [this, Int.mul_zero] at h; exact h rfl
    rw [ng_t (Int.mul_neg_of_neg_of_pos ca hb)]; rfl
  · rw [decide_eq_false ca, decide_eq_true cb]
    have ha : 0 < a := by
      rcases Int.lt_or_le 0 a with h' | h'
      · exact h'
      · exfalso; have : a = 0 := by omega
        rw [this, Int.zero_mul] at h; exact h rfl
    rw [ng_t (Int.mul_neg_of_pos_of_neg ha cb)]; rfl
  · rw [decide_eq_false ca, decide_eq_false cb, ng_f (Int.mul_nonneg (by omega) (by omega))]; rfl
theorem times_any (a b : Int) (w : World) (ha : I64 a) (hb : I64 b) :
    Calls Try.prog 74 #[.int .i64 a, .int .i64 b] w fun e w' => e = .returned (.agg #[.bool (ng (a * b)), .int .u64 (hi (sz (a * b))), .int .u64 (lo (sz (a * b)))]) ∧ Below w.heap.size w w' := by
  obtain ⟨x1, x2⟩ := sz_bd ha
  obtain ⟨y1, y2⟩ := sz_bd hb
  have hT := mulsplit (sz a) (sz b) x1 y1
  rw [← sz_mul] at hT
  obtain ⟨u1, u2⟩ := half_bd (p := sz a / 4294967296) (q := sz b / 4294967296) (B := 2147483648) (C := 2147483648) (by omega) (by omega) (by omega) (by omega)
  obtain ⟨u3, u4⟩ := half_bd (p := sz a / 4294967296) (q := sz b % 4294967296) (B := 4294967295) (C := 4294967295) (by omega) (by omega) (by omega) (by omega)
  obtain ⟨u5, u6⟩ := half_bd (p := sz a % 4294967296) (q := sz b / 4294967296) (B := 4294967295) (C := 4294967295) (by omega) (by omega) (by omega) (by omega)
  obtain ⟨u7, u8⟩ := half_bd (p := sz a % 4294967296) (q := sz b % 4294967296) (B := 4294967295) (C := 4294967295) (by omega) (by omega) (by omega) (by omega)
  obtain ⟨PR, hPR⟩ : ∃ z, sz a / 4294967296 * (sz b / 4294967296) = z := ⟨_, rfl⟩
  obtain ⟨PS, hPS⟩ : ∃ z, sz a / 4294967296 * (sz b % 4294967296) = z := ⟨_, rfl⟩
  obtain ⟨QR, hQR⟩ : ∃ z, sz a % 4294967296 * (sz b / 4294967296) = z := ⟨_, rfl⟩
  obtain ⟨QS, hQS⟩ : ∃ z, sz a % 4294967296 * (sz b % 4294967296) = z := ⟨_, rfl⟩
  rw [hPR] at u1 u2 hT
  rw [hPS] at u3 u4 hT
  rw [hQR] at u5 u6 hT
  rw [hQS] at u7 u8 hT
  have eH : hi (sz (a * b)) = PR + PS / 4294967296 + QR / 4294967296 + (QS / 4294967296 + PS % 4294967296 + QR % 4294967296) / 4294967296 := by unfold hi; omega
  have eL : lo (sz (a * b)) = ((QS / 4294967296 + PS % 4294967296 + QR % 4294967296) * 4294967296) % 18446744073709551616 + QS % 4294967296 := by unfold lo; omega
  have W : ∀ z : Int, 0 ≤ z → z < 18446744073709551616 → IntKind.u64.wrap z = z := by intro z h1 h2; rw [IntKind.wrap_u64]; omega
  have hz : hi (sz (a * b)) = 0 → lo (sz (a * b)) = 0 → a * b = 0 := fun h1 h2 => sz_zero h1 h2
  have hnz1 : ¬ hi (sz (a * b)) = 0 → ¬ a * b = 0 := by intro h h'; rw [h'] at h; exact h rfl
  have hnz2 : ¬ lo (sz (a * b)) = 0 → ¬ a * b = 0 := by intro h h'; rw [h'] at h; exact h rfl
  by_cases n1 : hi (sz (a * b)) = 0
  · by_cases n2 : lo (sz (a * b)) = 0
    · rw [show ng (a * b) = false from by rw [hz n1 n2]; rfl]
      exact times_z a b _ _ _ _ _ _ _ _ _ _ _ _ _ _ _ w ha hb rfl rfl (maskI _ x1 (by omega)) rfl (maskI _ y1 (by omega)) (by rw [hPR]; exact W _ u1 (by omega)) (by rw [hPS]; exact W _ u3 (by omega)) (by rw [hQR]; exact W _ u5 (by omega)) (by rw [hQS]; exact W _ u7 (by omega)) (maskI _ u3 (by omega)) (maskI _ u5 (by omega)) (maskI _ u7 (by omega)) u1 (by omega) u3 (by omega) u5 (by omega) u7 (by omega) (by omega) (by omega) (by omega) (by omega) (by omega) (by omega) rfl (by omega) (by omega) eH.symm ((orI _ _ (by omega) (by omega) (by omega)).trans eL.symm) (by simp [n1]) (by simp [n2])
    · rw [ng_mul (hnz2 n2)]
      exact times_l a b _ _ _ _ _ _ _ _ _ _ _ _ _ _ _ w ha hb rfl rfl (maskI _ x1 (by omega)) rfl (maskI _ y1 (by omega)) (by rw [hPR]; exact W _ u1 (by omega)) (by rw [hPS]; exact W _ u3 (by omega)) (by rw [hQR]; exact W _ u5 (by omega)) (by rw [hQS]; exact W _ u7 (by omega)) (maskI _ u3 (by omega)) (maskI _ u5 (by omega)) (maskI _ u7 (by omega)) u1 (by omega) u3 (by omega) u5 (by omega) u7 (by omega) (by omega) (by omega) (by omega) (by omega) (by omega) (by omega) rfl (by omega) (by omega) eH.symm ((orI _ _ (by omega) (by omega) (by omega)).trans eL.symm) (by simp [n1]) (by simp [n2])
  · rw [ng_mul (hnz1 n1)]
    exact times_h a b _ _ _ _ _ _ _ _ _ _ _ _ _ _ _ w ha hb rfl rfl (maskI _ x1 (by omega)) rfl (maskI _ y1 (by omega)) (by rw [hPR]; exact W _ u1 (by omega)) (by rw [hPS]; exact W _ u3 (by omega)) (by rw [hQR]; exact W _ u5 (by omega)) (by rw [hQS]; exact W _ u7 (by omega)) (maskI _ u3 (by omega)) (maskI _ u5 (by omega)) (maskI _ u7 (by omega)) u1 (by omega) u3 (by omega) u5 (by omega) u7 (by omega) (by omega) (by omega) (by omega) (by omega) (by omega) (by omega) rfl (by omega) (by omega) eH.symm ((orI _ _ (by omega) (by omega) (by omega)).trans eL.symm) (by simp [n1])

end Go.Proofs.Ytjkkajhjcinalaa.calc

namespace Go.Proofs.Ytjkkajhjcinalaa
open Go.ChangeShapes Go.WideShapes Go.ChangeAt Go.RowKit
set_option linter.unusedVariables false
set_option linter.unusedSimpArgs false
set_option maxRecDepth 100000

theorem kp_far {w wr : World} {N M : Nat} {o o' : Obj} (x y z : Value) (h : Kp w wr N o) (k : Kp w wr M o') (hne : ¬ N = M) : Kp w (((wr.setCell ⟨M, 0, none⟩ x).setCell ⟨M, 1, none⟩ y).setCell ⟨M, 2, none⟩ z) N o := by
  refine ⟨((h.1.setCell k.2.1 _).setCell k.2.1 _).setCell k.2.1 _, h.2.1, ?_⟩
  rw [Below.heap_setCell _ _ _ _ hne, Below.heap_setCell _ _ _ _ hne, Below.heap_setCell _ _ _ _ hne]
  exact h.2.2
theorem mul_abs {a b A B : Int} (ha : -A ≤ a ∧ a ≤ A) (hb : 0 ≤ b ∧ b ≤ B) (hA : 0 ≤ A) : -(A * B) ≤ a * b ∧ a * b ≤ A * B := by
  have h1 : a * b ≤ A * b := Int.mul_le_mul_of_nonneg_right ha.2 hb.1
  have h2 : -A * b ≤ a * b := Int.mul_le_mul_of_nonneg_right ha.1 hb.1
  have h3 : A * b ≤ A * B := Int.mul_le_mul_of_nonneg_left hb.2 hA
  have h4 : -A * b = -(A * b) := Int.neg_mul A b
  omega
theorem wide_bd {l : List Rn} (hb : Bag l) (hk : ∀ r ∈ l, nok r) {k : Nat} : calc.sz (wsum (l.take k)) ≤ 85070591730234615865843651857942052864 := by
  have hb' := bag_take hb k
  have h := wsum_bd (l := l.take k) (fun r hr => (hk r (List.mem_of_mem_take hr)).1) hb'.2.1
  have := hb'.2.2
  have := tot_nn hb'.2.1
  unfold calc.sz; split <;> omega
theorem wide_one {l : List Rn} (hb : Bag l) (hk : ∀ r ∈ l, nok r) {k : Nat} {x0 x1 : Int} (hr : l[k]? = some (x0, x1)) : calc.sz (x0 * x1) ≤ 85070591730234615865843651857942052864 := by
  have hx := (hk _ (List.mem_of_getElem? hr)).1
  have h := bag_at hb hr
  have h1 := h.2.1; have h2 := h.2.2.1; have h3 := h.2.2.2.1
  obtain ⟨x1', x2'⟩ := hx
  simp only at h1 h2 x1' x2'
  have := mul_abs (a := x0) (b := x1) (A := 9223372036854775808) (B := 1099511627776) (by omega) (by omega) (by omega)
  unfold calc.sz; split <;> omega
set_option maxHeartbeats 8000000 in
theorem wide_good (a : Option Addr) (n c : Nat) (l : List Rn) (w : World) (hl : NRun w a n c l) (hk : ∀ r ∈ l, nok r) (hb : Bag l) :
    Calls Try.prog 61 #[.slice a n c] w fun e w' => e = .returned (.agg #[.bool (calc.ng (wsum l)), .int .u64 (calc.hi (calc.sz (wsum l))), .int .u64 (calc.lo (calc.sz (wsum l)))]) ∧ Below w.heap.size w w' := by
  have HL := hid hl
  have HK := hid hk
  obtain ⟨l1, l2⟩ := hl.lens
  have EL := hid l1
  have HB := hid hb
  have K0 : Hid (Kp w ((w.alloc (.cells #[.bool false, .int .u64 0, .int .u64 0] 121)).alloc (.cells #[.bool false, .int .u64 0, .int .u64 0] 121)) w.heap.size (.cells #[.bool false, .int .u64 0, .int .u64 0] 121)) := hid ((kp_new w _).step (b1alloc _ _))
  have K1 : Hid (Kp w ((w.alloc (.cells #[.bool false, .int .u64 0, .int .u64 0] 121)).alloc (.cells #[.bool false, .int .u64 0, .int .u64 0] 121)) (w.heap.size + 1) (.cells #[.bool false, .int .u64 0, .int .u64 0] 121)) := hid ⟨(b1alloc w _).alloc (by simp) _, by omega, hnew (by simp)⟩
  clear hl hk l1 hb
  go_enter Try.func61, Try.ntmps61
  go_upto_region 2 with fail
  generalize ((w.alloc (.cells #[.bool false, .int .u64 0, .int .u64 0] 121)).alloc (.cells #[.bool false, .int .u64 0, .int .u64 0] 121)) = W0 at K0 K1 ⊢
  go_wp2
  go_loopw [4] (fun i wr => ∃ (k : Nat) (S : Int), k ≤ n ∧ i = .int .i64 k ∧ Hid (S = wsum (l.take k)) ∧ Hid (Kp w wr w.heap.size (.cells #[.bool false, .int .u64 0, .int .u64 0] 121)) ∧ Hid (Kp w wr (w.heap.size + 1) (.cells #[.bool (calc.ng S), .int .u64 (calc.hi (calc.sz S)), .int .u64 (calc.lo (calc.sz S))] 121))) (fun i _ => n - (intOf i).toNat)
  case atStart => exact ⟨0, 0, by omega, rfl, hid rfl, K0, K1⟩
  case round =>
    obtain ⟨k, S, hkn, rfl, HI, KA, KB⟩ := hrel
    have hk0 : (0 : Int) ≤ (k : Int) := by omega
    obtain ⟨c0, c1, c2⟩ := box_three KB.out.2.2
    by_cases hlt : k < n
    · have hki : (k : Int) < (n : Int) := by omega
      obtain ⟨b, off, x0, x1, rfl, hb, hr, p0, p1⟩ := HL.out.pick KA.out.1 hlt
      have HR := hid hr
      have hxx := HK.out _ (List.mem_of_getElem? hr)
      have HX0 := hid hxx.1
      have HX1 := hid hxx.2
      have hbw : b < wr.heap.size := Nat.lt_of_lt_of_le hb KA.out.1.size
      have hsb := wide_bd HB.out HK.out (k := k)
      have hsx := wide_one HB.out HK.out hr
      rw [← HI.out] at hsb
      have HS1 := hid hsb
      have HS2 := hid hsx
      have HI2 : Hid (S + x0 * x1 = wsum (l.take (k + 1))) := hid (by rw [HI.out, wsum_step hr])
      clear hsb hsx
      clear hr hxx
      have t1 : True := trivial
      go_wp2
      go_region_with (first
        | (go_at_call 74; refine (calc.times_any x0 x1 _ HX0.out HX1.out).mono ?_; rintro e w1 ⟨rfl, hb1⟩; have T1 : Hid (Below wr.heap.size wr w1) := hid (undrew hb1); clear hb1; have q0 := ((bcell T1.out).1 b _ hbw).trans p0; have q1 := ((bcell T1.out).1 b _ hbw).trans p1; obtain ⟨d0, d1, d2⟩ := box_three (KB.out.step T1.out).2.2)
        | (go_at_call 98; refine (calc.rplus_any S (x0 * x1) _ HS1.out HS2.out).mono ?_; rintro e w2 ⟨rfl, hb2⟩; have T2 := hid (bt T1.out hb2); clear hb2; obtain ⟨e0, e1, e2⟩ := box_three (KB.out.step T2.out).2.2; obtain ⟨f0, f1, f2⟩ := froz3 (KB.out.step T2.out).2.2))
      all_goals
        go_wp2
        go_roundw
        case rel => exact ⟨k + 1, S + x0 * x1, by omega, by go_num, HI2, hid (kp_far _ _ _ (KA.out.step T2.out) (KB.out.step T2.out) (by omega)), hid (kp_set3 _ _ _ (KB.out.step T2.out))⟩
        case measure => simp [intOf]; omega
    · have hkf : decide ((k : Int) < (n : Int)) = false := decide_eq_false (by omega)
      obtain ⟨f0, f1, f2⟩ := froz3 KA.out.2.2
      obtain ⟨g0, g1, g2⟩ := box_three KA.out.2.2
      have HE : Hid (S = wsum l) := hid (by rw [HI.out, List.take_of_length_le (by have := EL.out; omega)])
      go_wp2
      (try simp only [Exit.inBlock, Exit.then])
      show bodyPost Try.prog Try.f61 _ _ _ _
      have K9 := kp_set3 (.bool (calc.ng S)) (.int .u64 (calc.hi (calc.sz S))) (.int .u64 (calc.lo (calc.sz S))) KA.out
      refine bodyPost_ret (results_cell_row (p := 2) rfl _ _ w.heap.size _ #[.bool (calc.ng S), .int .u64 (calc.hi (calc.sz S)), .int .u64 (calc.lo (calc.sz S))] (0, 0) _ rfl K9.2.2 Try.underlying121 rfl (by kernel_rfl)) rfl ?_
      exact ⟨by rw [← HE.out], K9.1⟩

end Go.Proofs.Ytjkkajhjcinalaa

/-
  -
  Conditions: as each theorem states them.
-/
import Derived.Test.YtjkkajhjcinalaaQAH
namespace Go.Proofs.Ytjkkajhjcinalaa
open Go.ChangeShapes Go.WideShapes Go.ChangeAt Go.RowKit
set_option linter.unusedVariables false
set_option linter.unusedSimpArgs false
set_option maxRecDepth 100000

/-- Runs do not lie in a block that has no numbers. -/
theorem NRun.off {w w' : World} {a : Option Addr} {n c J : Nat} {l : List Rn} (h : NRun w a n c l) (hg : w.grownBy w' (some J)) (hJ : ∀ j x y, w.cell? ⟨J, j, none⟩ = some (.int .i64 x) → w.cell? ⟨J, j + 1, none⟩ = some (.int .i64 y) → y = 0) (hp : Pos l) : NRun w' a n c l := by
  by_cases h0 : n = 0
  · obtain ⟨h1, h2, h3, h4, h5⟩ := h
    exact ⟨h1, h2, h3, h4, fun g => by omega⟩
  · refine h.grown hg (fun b off e => ?_)
    obtain ⟨b', off', x0, x1, e', hlt, hr, c0, c1⟩ := h.pick (Below.refl _ _) (k := 0) (by omega)
    rw [e'] at e
    cases e
    intro hb
    subst hb
    have := hJ _ _ _ c0 c1
    have := hp _ (List.mem_of_getElem? hr)
    simp only at this
    omega
theorem no_two {w : World} {J : Nat} {t : TypeId} {a0 a1 : Option Addr} {p0 k0 p1 k1 : Nat} (h : w.heap[J]? = some (.cells #[.slice a0 p0 k0, .slice a1 p1 k1] t)) : ∀ j x y, w.cell? ⟨J, j, none⟩ = some (.int .i64 x) → w.cell? ⟨J, j + 1, none⟩ = some (.int .i64 y) → y = 0 := by
  intro j x y hx hy
  rw [cell_of_row _ _ _ _ t (0, 0) h] at hx
  match j, hx with
  | 0, hx => simp at hx
  | 1, hx => simp at hx
  | j + 2, hx => simp at hx
theorem no_bag {w : World} {J : Nat} {t : TypeId} {a0 : Option Addr} {p0 k0 : Nat} {v : Bool} (h : w.heap[J]? = some (.cells #[.slice a0 p0 k0, .bool v] t)) : ∀ j x y, w.cell? ⟨J, j, none⟩ = some (.int .i64 x) → w.cell? ⟨J, j + 1, none⟩ = some (.int .i64 y) → y = 0 := by
  intro j x y hx hy
  rw [cell_of_row _ _ _ _ t (0, 0) h] at hx
  match j, hx with
  | 0, hx => simp at hx
  | 1, hx => simp at hx
  | j + 2, hx => simp at hx
theorem no_six {w : World} {J : Nat} {t : TypeId} (h : w.heap[J]? = some (.cells (rcC 0 0 0 none 0 0 none 0 0 false) t)) : ∀ j x y, w.cell? ⟨J, j, none⟩ = some (.int .i64 x) → w.cell? ⟨J, j + 1, none⟩ = some (.int .i64 y) → y = 0 := by
  intro j x y hx hy
  rw [cell_of_row _ _ _ _ t (0, 0) h] at hy
  match j, hy with
  | 0, hy => simp at hy; exact hy.symm
  | 1, hy => simp at hy; exact hy.symm
  | 2, hy => simp at hy
  | 3, hy => simp at hy
  | 4, hy => simp at hy
  | j + 5, hy => simp at hy
theorem CW.off {w w' : World} {a0 a1 : Option Addr} {p0 k0 p1 k1 J : Nat} {C : Cl} (h : CW w a0 p0 k0 a1 p1 k1 C) (hg : w.grownBy w' (some J)) (hJ : ∀ j x y, w.cell? ⟨J, j, none⟩ = some (.int .i64 x) → w.cell? ⟨J, j + 1, none⟩ = some (.int .i64 y) → y = 0) (hp : Pos C.b0 ∧ Pos C.b1) : CW w' a0 p0 k0 a1 p1 k1 C :=
  ⟨h.1.off hg hJ hp.1, h.2.off hg hJ hp.2⟩
theorem cg_pos {m : Int} {c : Cl} (h : CG m c) : Pos c.b0 ∧ Pos c.b1 := by
  refine ⟨h.2.1.1.2.1, ?_⟩
  rcases h.2.2 with ⟨_, _, e⟩ | ⟨_, k⟩
  · rw [e]; exact pos_nil
  · exact k.1.2.1
theorem cjC_pos (m : Int) (c d : Cl) : Pos (cjC m c d).b0 ∧ Pos (cjC m c d).b1 := by
  cases h : cjB m c d with
  | true => exact cg_pos (cg_iff.1 (cjC_good h))
  | false => rw [cjC_no h]; exact ⟨pos_nil, pos_nil⟩
theorem md_join {m : Int} {c d : Cl} (hc : CG m c) (hd : CG m d) (hn : c.n + d.n ≤ 1099511627776) : mdB m (c.n + d.n) (jnl c.b0 d.b0) (if m = 2 then jnl c.b1 d.b1 else []) = cjB m c d ∧ mdC m (c.n + d.n) (jnl c.b0 d.b0) (if m = 2 then jnl c.b1 d.b1 else []) = cjC m c d := by
  have hg := cg_yes (cjR_good hc hd hn)
  have hm := cg_m (cg_yes hc)
  have e : mdR m (c.n + d.n) (jnl c.b0 d.b0) (if m = 2 then jnl c.b1 d.b1 else []) = cjR c d := by
    unfold mdR cjR
    rw [wsum_jnl, hc.2.1.2.2, hd.2.1.2.2]
    rcases hm with rfl | rfl
    · obtain ⟨x1, x2⟩ := cg_one1 hc
      obtain ⟨y1, y2⟩ := cg_one1 hd
      rw [x1, x2, y1, y2]
      rfl
    · have x := cg_two1 hc
      have y := cg_two1 hd
      simp only [if_true, wsum_jnl, x.2.2, y.2.2]
  have e2 : wsum (jnl c.b0 d.b0) = c.s0 + d.s0 := by rw [wsum_jnl, hc.2.1.2.2, hd.2.1.2.2]
  have eb : mdB m (c.n + d.n) (jnl c.b0 d.b0) (if m = 2 then jnl c.b1 d.b1 else []) = cjB m c d := by
    unfold mdB cjB
    rw [e, hg, e2, cg_yes hc, cg_yes hd, decide_eq_true hn]
    rcases hm with rfl | rfl
    · simp
    · have x := cg_two1 hc
      have y := cg_two1 hd
      simp only [if_true, wsum_jnl, x.2.2, y.2.2]
      simp
  refine ⟨eb, ?_⟩
  unfold mdC cjC
  rw [eb, e]

theorem jl_pos (a b : List Rn) : Pos (Jl a b) := by
  cases h : Jn a b with
  | false => rw [jl_no h]; exact pos_nil
  | true =>
    rw [jl_yes h]
    have h1 : gd a = true := by cases g : gd a with | true => rfl | false => rw [jn_no1 g] at h; cases h
    have h2 : gd b = true := by cases g : gd b with | true => rfl | false => rw [jn_no2 g] at h; cases h
    exact jnl_pos (gd_iff.1 h1).2.1 (gd_iff.1 h2).2.1

set_option maxHeartbeats 64000000 in
theorem crjoin_m (m : Int) (c d : Cl) (a0 : Option Addr) (p0 k0 : Nat) (a1 : Option Addr) (p1 k1 : Nat) (b0 : Option Addr) (q0 j0 : Nat) (b1 : Option Addr) (q1 j1 : Nat) (C : Cl) (v : Bool) (w : World) (hw : CW w a0 p0 k0 a1 p1 k1 c) (hz : CW w b0 q0 j0 b1 q1 j1 d) (hk : okc c) (hk' : okc d) (hp : p0 ≤ 1000 ∧ p1 ≤ 1000 ∧ q0 ≤ 1000 ∧ q1 ≤ 1000) (hC : Hid (cjC m c d = C)) (hv : Hid (cjB m c d = v)) :
    Calls Try.prog 24 #[.int .i64 m, .agg #[.int .i64 c.n, .int .i64 c.s0, .int .i64 c.s1, .slice a0 p0 k0, .slice a1 p1 k1], .agg #[.int .i64 d.n, .int .i64 d.s0, .int .i64 d.s1, .slice b0 q0 j0, .slice b1 q1 j1]] w fun e w' => (∃ a0 p0 k0 a1 p1 k1, e = .returned (.agg #[.int .i64 C.n, .int .i64 C.s0, .int .i64 C.s1, .slice a0 p0 k0, .slice a1 p1 k1, .bool v]) ∧ CW w' a0 p0 k0 a1 p1 k1 C) ∧ Below w.heap.size w w' := by
  have HW := hid hw
  have HV := hid hz
  have HK := hid hk
  have HK2 := hid hk'
  obtain ⟨pp0, pp1, qq0, qq1⟩ := hp
  have KQ0 : Hid (Kq w (((w.alloc (.cells #[.int .i64 c.n, .int .i64 c.s0, .int .i64 c.s1, .slice a0 p0 k0, .slice a1 p1 k1] 26)).alloc (.cells #[.int .i64 d.n, .int .i64 d.s0, .int .i64 d.s1, .slice b0 q0 j0, .slice b1 q1 j1] 26)).alloc (.cells #[.int .i64 0, .int .i64 0, .int .i64 0, .slice none 0 0, .slice none 0 0, .bool false] 36)) (.cells #[.int .i64 c.n, .int .i64 c.s0, .int .i64 c.s1, .slice a0 p0 k0, .slice a1 p1 k1] 26) (.cells #[.int .i64 d.n, .int .i64 d.s0, .int .i64 d.s1, .slice b0 q0 j0, .slice b1 q1 j1] 26)) := hid ((kq_new w _ _).step (b1alloc _ _))
  have KR0 : Hid (Kp w (((w.alloc (.cells #[.int .i64 c.n, .int .i64 c.s0, .int .i64 c.s1, .slice a0 p0 k0, .slice a1 p1 k1] 26)).alloc (.cells #[.int .i64 d.n, .int .i64 d.s0, .int .i64 d.s1, .slice b0 q0 j0, .slice b1 q1 j1] 26)).alloc (.cells #[.int .i64 0, .int .i64 0, .int .i64 0, .slice none 0 0, .slice none 0 0, .bool false] 36)) (w.heap.size + 1 + 1) (.cells #[.int .i64 0, .int .i64 0, .int .i64 0, .slice none 0 0, .slice none 0 0, .bool false] 36)) := hid (kp_three _ _ _ _)
  have tk : True := trivial
  clear hw hz hk hk'
  cases ga : cg m c with
  | false =>
    have GA := hid ga
    have HZ := hid (And.intro (hC.out.symm.trans (cjC_no (cjB_a ga))) (hv.out.symm.trans (cjB_a ga)))
    clear ga
    go_enter Try.func24, Try.ntmps24
    go_upto_region 1 with fail
    generalize ((w.alloc (.cells #[.int .i64 c.n, .int .i64 c.s0, .int .i64 c.s1, .slice a0 p0 k0, .slice a1 p1 k1] 26)).alloc (.cells #[.int .i64 d.n, .int .i64 d.s0, .int .i64 d.s1, .slice b0 q0 j0, .slice b1 q1 j1] 26)).alloc (.cells #[.int .i64 0, .int .i64 0, .int .i64 0, .slice none 0 0, .slice none 0 0, .bool false] 36) = W0 at KQ0 KR0 ⊢
    obtain ⟨_, d0, d1, d2, d3, d4, f0, f1, f2, f3, f4⟩ := KQ0.out.ten (Below.refl _ _)
    go_upto_region 2 with (go_at_call 20; clear tk; refine (crgood_m _ _ _ _ _ _ _ _ false _ (HW.out.below KQ0.out.1.1) HK.out GA).mono ?_; rintro e w1 ⟨rfl, hb⟩; have KQ1 := hid (KQ0.out.step hb); have KR1 := hid (KR0.out.step hb); obtain ⟨_, x0, x1, x2, x3, x4, y0, y1, y2, y3, y4⟩ := KQ1.out.ten (Below.refl _ _); clear hb)
    obtain ⟨N2, hN2⟩ : ∃ y, w.heap.size + 1 + 1 = y := ⟨_, rfl⟩
    rw [hN2] at KR1 ⊢
    go_wp2_with (refine wpList_store_whole rfl 36 (.tmp 6) (.tmp 20) rfl N2 (rcC 0 0 0 none 0 0 none 0 0 false) rfl rfl 36 _ KR1.out.2.2 rfl (by show _ = some 6; exact size_rc) (rcC_one _ _ _ _ _ _ _ _ _ _) ?_; intro w9 hp9 hg9; have KR9 := hid (kp_at KR1.out hg9 hp9); clear hp9 hg9)
    (try simp only [Exit.inBlock, Exit.then])
    show bodyPost Try.prog Try.f24 _ _ _ _
    refine bodyPost_ret (results_cell_row (p := 6) rfl _ _ N2 _ (rcC 0 0 0 none 0 0 none 0 0 false) (0, 0) _ rfl KR9.out.2.2 Try.underlying36 rfl (by kernel_rfl)) rfl ?_
    obtain ⟨z1, z2⟩ := HZ.out; subst z1; subst z2; exact ⟨⟨none, 0, 0, none, 0, 0, rfl, cw_nil _⟩, KR9.out.1⟩
  | true =>
    have GA := hid ga
    cases gb : cg m d with
    | false =>
      have GB := hid gb
      have HZ := hid (And.intro (hC.out.symm.trans (cjC_no (cjB_b gb))) (hv.out.symm.trans (cjB_b gb)))
      clear ga gb
      go_enter Try.func24, Try.ntmps24
      go_upto_region 1 with fail
      generalize ((w.alloc (.cells #[.int .i64 c.n, .int .i64 c.s0, .int .i64 c.s1, .slice a0 p0 k0, .slice a1 p1 k1] 26)).alloc (.cells #[.int .i64 d.n, .int .i64 d.s0, .int .i64 d.s1, .slice b0 q0 j0, .slice b1 q1 j1] 26)).alloc (.cells #[.int .i64 0, .int .i64 0, .int .i64 0, .slice none 0 0, .slice none 0 0, .bool false] 36) = W0 at KQ0 KR0 ⊢
      obtain ⟨_, d0, d1, d2, d3, d4, f0, f1, f2, f3, f4⟩ := KQ0.out.ten (Below.refl _ _)
      go_upto_region 2 with (first
        | (go_at_call 20; clear tk; refine (crgood_m _ _ _ _ _ _ _ _ true _ (HW.out.below KQ0.out.1.1) HK.out GA).mono ?_; rintro e w1 ⟨rfl, hb⟩; have KQ1 := hid (KQ0.out.step hb); have KR1 := hid (KR0.out.step hb); obtain ⟨_, x0, x1, x2, x3, x4, y0, y1, y2, y3, y4⟩ := KQ1.out.ten (Below.refl _ _); clear hb)
        | (go_at_call 20; refine (crgood_m _ _ _ _ _ _ _ _ false _ (HV.out.below KQ1.out.1.1) HK2.out GB).mono ?_; rintro e w2 ⟨rfl, hb⟩; have KQ2 := hid (KQ1.out.step hb); have KR2 := hid (KR1.out.step hb); obtain ⟨_, x0, x1, x2, x3, x4, y0, y1, y2, y3, y4⟩ := KQ2.out.ten (Below.refl _ _); clear hb))
      obtain ⟨N2, hN2⟩ : ∃ y, w.heap.size + 1 + 1 = y := ⟨_, rfl⟩
      rw [hN2] at KR2 ⊢
      go_wp2_with (refine wpList_store_whole rfl 36 (.tmp 6) (.tmp 20) rfl N2 (rcC 0 0 0 none 0 0 none 0 0 false) rfl rfl 36 _ KR2.out.2.2 rfl (by show _ = some 6; exact size_rc) (rcC_one _ _ _ _ _ _ _ _ _ _) ?_; intro w9 hp9 hg9; have KR9 := hid (kp_at KR2.out hg9 hp9); clear hp9 hg9)
      (try simp only [Exit.inBlock, Exit.then])
      show bodyPost Try.prog Try.f24 _ _ _ _
      refine bodyPost_ret (results_cell_row (p := 6) rfl _ _ N2 _ (rcC 0 0 0 none 0 0 none 0 0 false) (0, 0) _ rfl KR9.out.2.2 Try.underlying36 rfl (by kernel_rfl)) rfl ?_
      obtain ⟨z1, z2⟩ := HZ.out; subst z1; subst z2; exact ⟨⟨none, 0, 0, none, 0, 0, rfl, cw_nil _⟩, KR9.out.1⟩
    | true =>
      have GB := hid gb
      have CA := hid (cg_iff.1 ga)
      have CB := hid (cg_iff.1 gb)
      have na := CA.out.1
      have nb := CB.out.1
      obtain ⟨na1, na2⟩ := na
      obtain ⟨nb1, nb2⟩ := nb
      have hwn : IntKind.i64.wrap (c.n + d.n) = c.n + d.n := IntWalk.i64_in _ (by omega)
      have ea := hid (cg_m ga)
      clear ga gb
      obtain ⟨M0, hM0⟩ : ∃ y, Jl c.b0 d.b0 = y := ⟨_, rfl⟩
      obtain ⟨t0, ht0⟩ : ∃ y, M0.length = y := ⟨_, rfl⟩
      obtain ⟨V0, hV0⟩ : ∃ y, Jn c.b0 d.b0 = y := ⟨_, rfl⟩
      have FM0 := hid hM0
      have FT0 := hid ht0
      have FV0 := hid hV0
      obtain ⟨M1, hM1⟩ : ∃ y, Jl c.b1 d.b1 = y := ⟨_, rfl⟩
      obtain ⟨t1, ht1⟩ : ∃ y, M1.length = y := ⟨_, rfl⟩
      obtain ⟨V1, hV1⟩ : ∃ y, Jn c.b1 d.b1 = y := ⟨_, rfl⟩
      have FM1 := hid hM1
      have FT1 := hid ht1
      have FV1 := hid hV1
      clear hM0 ht0 hV0 hM1 ht1 hV1
      go_enter Try.func24, Try.ntmps24
      go_upto_region 1 with fail
      generalize ((w.alloc (.cells #[.int .i64 c.n, .int .i64 c.s0, .int .i64 c.s1, .slice a0 p0 k0, .slice a1 p1 k1] 26)).alloc (.cells #[.int .i64 d.n, .int .i64 d.s0, .int .i64 d.s1, .slice b0 q0 j0, .slice b1 q1 j1] 26)).alloc (.cells #[.int .i64 0, .int .i64 0, .int .i64 0, .slice none 0 0, .slice none 0 0, .bool false] 36) = W0 at KQ0 KR0 ⊢
      obtain ⟨_, d0, d1, d2, d3, d4, f0, f1, f2, f3, f4⟩ := KQ0.out.ten (Below.refl _ _)
      go_upto_region 3 with (first
        | (go_at_call 20; clear tk; refine (crgood_m _ _ _ _ _ _ _ _ true _ (HW.out.below KQ0.out.1.1) HK.out GA).mono ?_; rintro e w1 ⟨rfl, hb⟩; have KQ1 := hid (KQ0.out.step hb); have KR1 := hid (KR0.out.step hb); obtain ⟨_, x0, x1, x2, x3, x4, y0, y1, y2, y3, y4⟩ := KQ1.out.ten (Below.refl _ _); clear hb)
        | (go_at_call 20; refine (crgood_m _ _ _ _ _ _ _ _ true _ (HV.out.below KQ1.out.1.1) HK2.out GB).mono ?_; rintro e w2 ⟨rfl, hb⟩; have KQ2 := hid (KQ1.out.step hb); have KR2 := hid (KR1.out.step hb); obtain ⟨_, x0, x1, x2, x3, x4, y0, y1, y2, y3, y4⟩ := KQ2.out.ten (Below.refl _ _); clear hb))
      obtain ⟨N2, hN2⟩ : ∃ y, w.heap.size + 1 + 1 = y := ⟨_, rfl⟩
      rw [hN2] at KR2 ⊢
      go_upto_region 4 with fail
      have KN3 : Hid (Kp w (w2.alloc (.cells #[.slice none 0 0, .slice none 0 0] 24)) w2.heap.size (.cells #[.slice none 0 0, .slice none 0 0] 24)) := hid (kp_new2 KR2.out.1 _ _ rfl)
      have hne : N2 < w2.heap.size := heap_lt KR2.out.2.2
      have KR3 := hid (kp_alloc KR2.out (.cells #[.slice none 0 0, .slice none 0 0] 24))
      have KQ3 := hid (KQ2.out.step (b1alloc w2 (.cells #[.slice none 0 0, .slice none 0 0] 24)))
      have HNN := hid (And.intro hne (show w.heap.size ≤ N2 by omega))
      have HN1 : Hid (w.heap.size + 1 < w2.heap.size) := hid (by omega)
      have HGW : Hid (w.heap.size ≤ w2.heap.size) := hid (by omega)
      clear hne KR0 KR1 KR2 KQ0 KQ1 KQ2 hN2 d0 d1 d2 d3 d4 f0 f1 f2 f3 f4 x0 x1 x2 x3 x4 y0 y1 y2 y3 y4
      generalize w2.alloc (.cells #[.slice none 0 0, .slice none 0 0] 24) = W3 at KN3 KR3 KQ3 ⊢
      generalize w2.heap.size = G at KN3 HNN HN1 HGW ⊢
      go_upto_region 5 with fail
      rcases ea.out with em | em
      · subst em
        clear ea
        go_loopw [8] (fun i wr => Hid (Kq w wr (.cells #[.int .i64 c.n, .int .i64 c.s0, .int .i64 c.s1, .slice a0 p0 k0, .slice a1 p1 k1] 26) (.cells #[.int .i64 d.n, .int .i64 d.s0, .int .i64 d.s1, .slice b0 q0 j0, .slice b1 q1 j1] 26)) ∧ Hid (Kp w wr N2 (.cells #[.int .i64 0, .int .i64 0, .int .i64 0, .slice none 0 0, .slice none 0 0, .bool false] 36)) ∧ ((i = .int .i64 0 ∧ Hid (Kp w wr G (.cells #[.slice none 0 0, .slice none 0 0] 24))) ∨ (i = .int .i64 1 ∧ ∃ A p f, Hid (Kp w wr G (.cells #[.slice A p f, .slice none 0 0] 24)) ∧ Hid (NRun wr A p f (jnl c.b0 d.b0)) ∧ Hid (Jn c.b0 d.b0 = true)))) (fun i _ => 1 - (intOf i).toNat)
        case atStart => exact ⟨KQ3, KR3, .inl ⟨rfl, KN3⟩⟩
        case round =>
          obtain ⟨KQ, KR, hi⟩ := hrel
          rcases hi with ⟨rfl, KN⟩ | ⟨rfl, A, p, f, KN, XA, J0⟩
          · skip
            have KS : Hid (∀ y, Kq w y (.cells #[.int .i64 c.n, .int .i64 c.s0, .int .i64 c.s1, .slice a0 p0 k0, .slice a1 p1 k1] 26) (.cells #[.int .i64 d.n, .int .i64 d.s0, .int .i64 d.s1, .slice b0 q0 j0, .slice b1 q1 j1] 26) → (fun y => Kq w y (.cells #[.int .i64 c.n, .int .i64 c.s0, .int .i64 c.s1, .slice a0 p0 k0, .slice a1 p1 k1] 26) (.cells #[.int .i64 d.n, .int .i64 d.s0, .int .i64 d.s1, .slice b0 q0 j0, .slice b1 q1 j1] 26) ∧ y.cell? ⟨w.heap.size, 3, none⟩ = some (.slice a0 p0 k0) ∧ y.cell? ⟨w.heap.size + 1, 3, none⟩ = some (.slice b0 q0 j0))  y) := hid (fun y h => by
              obtain ⟨_, x0, x1, x2, x3, x4, y0, y1, y2, y3, y4⟩ := h.ten (Below.refl _ _)
              exact ⟨h, x3, y3⟩)
            have ltJ1 : w.heap.size + 1 < wr.heap.size := heap_lt KQ.out.2.2.2
            have ltJ2 : N2 < wr.heap.size := heap_lt KR.out.2.2
            have ltJ3 : G < wr.heap.size := heap_lt KN.out.2.2
            have HJS := hid (And.intro ltJ1 (And.intro ltJ2 ltJ3))
            have PM0 : Hid (Pos M0) := hid (by rw [← FM0.out]; exact jl_pos _ _)
            clear ltJ1 ltJ2 ltJ3
            go_wp2
            refine wp_region_noPanic ?_
            refine wp_region_held_drew (S := fun y => Kq w y (.cells #[.int .i64 c.n, .int .i64 c.s0, .int .i64 c.s1, .slice a0 p0 k0, .slice a1 p1 k1] 26) (.cells #[.int .i64 d.n, .int .i64 d.s0, .int .i64 d.s1, .slice b0 q0 j0, .slice b1 q1 j1] 26) ∧ y.cell? ⟨w.heap.size, 3, none⟩ = some (.slice a0 p0 k0) ∧ y.cell? ⟨w.heap.size + 1, 3, none⟩ = some (.slice b0 q0 j0)) (by kernel_rfl) (KS.out _ (KQ.out.step (bdrew (Below.refl _ _)))) (fun hHeld => ?_)
            refine tk 0 (v := ?_) ?_ ?_
            rotate_left
            · intro w hSw; (try dsimp only at hSw); go_simp; (try with_reducible rfl)
            try simp only [Act.put, List.setIfInBounds_toArray, List.set_cons_zero, List.set_cons_succ]
            refine tk 1 (v := ?_) ?_ ?_
            rotate_left
            · intro w hSw; (try dsimp only at hSw); go_simp; (try with_reducible rfl)
            try simp only [Act.put, List.setIfInBounds_toArray, List.set_cons_zero, List.set_cons_succ]
            refine tk 2 (v := ?_) ?_ ?_
            rotate_left
            · intro w hSw; (try dsimp only at hSw); go_simp; (try with_reducible rfl)
            try simp only [Act.put, List.setIfInBounds_toArray, List.set_cons_zero, List.set_cons_succ]
            refine tk 3 (v := ?_) ?_ ?_
            rotate_left
            · intro w hSw; (try dsimp only at hSw); go_simp; (try with_reducible rfl)
            try simp only [Act.put, List.setIfInBounds_toArray, List.set_cons_zero, List.set_cons_succ]
            refine tk 4 (v := ?_) ?_ ?_
            rotate_left
            · intro w hSw; (try dsimp only at hSw); go_simp; (try with_reducible rfl)
            try simp only [Act.put, List.setIfInBounds_toArray, List.set_cons_zero, List.set_cons_succ]
            refine tk 5 (v := ?_) ?_ ?_
            rotate_left
            · intro w hSw; (try dsimp only at hSw); go_simp; (try with_reducible rfl)
            try simp only [Act.put, List.setIfInBounds_toArray, List.set_cons_zero, List.set_cons_succ]
            refine tk 6 (v := ?_) ?_ ?_
            rotate_left
            · intro w hSw; (try dsimp only at hSw); go_simp; (try with_reducible rfl)
            try simp only [Act.put, List.setIfInBounds_toArray, List.set_cons_zero, List.set_cons_succ]
            refine tk 7 (v := ?_) ?_ ?_
            rotate_left
            · intro w hSw; (try dsimp only at hSw); go_simp; (try with_reducible rfl)
            try simp only [Act.put, List.setIfInBounds_toArray, List.set_cons_zero, List.set_cons_succ]
            refine wpAnyH_ready (rs := [8, 9]) (by kernel_rfl) (by simp) ?_
            refine (rdc (fun K hK => ?_) (rdc (fun K hK => ?_) AllReadyH.nil))
            · go_simp
              go_at_call 67; refine (rjoin_m _ _ _ _ _ _ t0 _ _ M0 V0 _ (HW.out.1.below hHeld.1.1.1) (HV.out.1.below hHeld.1.1.1) HK.out.2.2.2.1 HK2.out.2.2.2.1 pp0 qq0 FM0 FV0 FT0).mono ?_; rintro e w5 ⟨⟨A5, f5, rfl, hn5⟩, hb5⟩
              refine hK.out _ _ (KS.out _ (hHeld.1.step hb5)) (fun hHeld2 => ?_)
              clear hK K hHeld; have hHeld := hHeld2; clear hHeld2
              have KQ5 := hid hHeld.1
              have HB5S : Hid (wr.heap.size ≤ w5.heap.size) := hid hb5.size
              have KRx := hid (KR.out.step (undrew hb5))
              have KNx := hid (KN.out.step (undrew hb5))
              have N5 := hid hn5
              clear hn5 hb5
              try simp only [Act.put, List.setIfInBounds_toArray, List.set_cons_zero, List.set_cons_succ]
              refine rd1 9 (fun K hK => ?_)
              go_simp
              refine hK.out _ _ (KS.out _ (hHeld.1.step (b1alloc w5 (.cells #[.slice none 0 0, .bool false] 130)))) (fun hHeld2 => ?_)
              clear hK K hHeld; have hHeld := hHeld2; clear hHeld2
              have KB5 : Hid (Kp w (w5.alloc (.cells #[.slice none 0 0, .bool false] 130)) w5.heap.size (.cells #[.slice none 0 0, .bool false] 130)) := hid (kp_new2 KRx.out.1 _ _ rfl)
              obtain ⟨bc0, bc1⟩ := box_two KB5.out.2.2
              have bf0 := kp_froz KB5.out 0
              have bf1 := kp_froz KB5.out 1
              try simp only [Act.put, List.setIfInBounds_toArray, List.set_cons_zero, List.set_cons_succ]
              refine rd1 10 (fun K hK => ?_)
              go_simp
              refine hK.out _ _ (KS.out _ (KQ5.out.step (b1alloc w5 (.cells #[.slice A5 t0 f5, .bool V0] 130)))) (fun hHeld2 => ?_)
              clear hK K hHeld; have hHeld := hHeld2; clear hHeld2
              try simp only [Act.put, List.setIfInBounds_toArray, List.set_cons_zero, List.set_cons_succ]
              refine wpAnyH_done (by kernel_rfl) ?_ _
              refine NoPanic.normal ?_
              have KQ6 := hid hHeld.1
              clear hHeld KS KQ5 KB5 bc0 bc1 bf0 bf1
              have KB6 : Hid (Kp w (w5.alloc (.cells #[.slice A5 t0 f5, .bool V0] 130)) w5.heap.size (.cells #[.slice A5 t0 f5, .bool V0] 130)) := hid (kp_new2 KRx.out.1 _ _ rfl)
              have hjw : w.heap.size ≤ w5.heap.size := KB6.out.2.1
              have KR6 := hid (kp_alloc KRx.out (.cells #[.slice A5 t0 f5, .bool V0] 130))
              have KN6 := hid (kp_alloc KNx.out (.cells #[.slice A5 t0 f5, .bool V0] 130))
              have N6' := hid (N5.out.below (b1alloc w5 (.cells #[.slice A5 t0 f5, .bool V0] 130)))
              clear N5 KRx KNx
              generalize (w5.alloc (.cells #[.slice A5 t0 f5, .bool V0] 130)) = W6 at KQ6 KB6 KR6 KN6 N6' ⊢
              generalize w5.heap.size = J at KB6 hjw ⊢
              obtain ⟨e0, e1⟩ := box_two KB6.out.2.2
              cases V0 with
              | false =>
                have HZ := hid (And.intro (hC.out.symm.trans (cjC_no (cjB_v0 FV0.out))) (hv.out.symm.trans (cjB_v0 FV0.out)))
                go_wp2_with (refine wpList_store_whole rfl 36 (.tmp 6) (.tmp 38) rfl N2 (rcC 0 0 0 none 0 0 none 0 0 false) rfl rfl 36 _ KR6.out.2.2 rfl (by show _ = some 6; exact size_rc) (rcC_one _ _ _ _ _ _ _ _ _ _) ?_; intro w9 hp9 hg9; have KR9 := hid (kp_at KR6.out hg9 hp9); clear hp9 hg9)
                (try simp only [Exit.inBlock, Exit.then])
                show bodyPost Try.prog Try.f24 _ _ _ _
                refine bodyPost_ret (results_cell_row (p := 6) rfl _ _ N2 _ (rcC 0 0 0 none 0 0 none 0 0 false) (0, 0) _ rfl KR9.out.2.2 Try.underlying36 rfl (by kernel_rfl)) rfl ?_
                obtain ⟨z1, z2⟩ := HZ.out; subst z1; subst z2; exact ⟨⟨none, 0, 0, none, 0, 0, rfl, cw_nil _⟩, KR9.out.1⟩
              | true =>
                have fz := kp_froz KN6.out 0
                have cz := kp_cell (j := 0) (v := .slice none 0 0) KN6.out rfl
                go_upto_region 6 with fail
                have KN7 : Hid (Kp w _ G (.cells #[.slice A5 t0 f5, .slice none 0 0] 24)) := hid (kp_set (j := 0) (v := .slice A5 t0 f5) KN6.out)
                have g3 := set_grown W6 G 0 (.slice A5 t0 f5)
                have KR7 := hid (kp_gr KR6.out g3 (Nat.ne_of_lt HNN.out.1) HGW.out)
                have KQ7 := hid (kq_other (j := 0) (v := .slice A5 t0 f5) KQ6.out HN1.out)
                have N7 := hid (N6'.out.off g3 (no_two KN6.out.2.2) PM0.out)
                have N8 : Hid (NRun _ A5 t0 f5 (jnl c.b0 d.b0)) := hid (by have h := N7.out; rw [← FM0.out, jl_yes FV0.out] at h; exact h)
                clear fz cz g3
                generalize (W6.setCell ⟨G, 0, none⟩ (.slice A5 t0 f5)) = W7 at KN7 KR7 KQ7 N7 N8 ⊢
                go_wp2
                go_roundw
                case rel => exact ⟨KQ7, KR7, .inr (⟨by go_num, A5, t0, f5, KN7, N8, FV0⟩)⟩
                case measure => simp [intOf]
            · go_simp
              refine hK.out _ _ (KS.out _ (hHeld.1.step (b1alloc wr.drew (.cells #[.slice none 0 0, .bool false] 130)))) (fun hHeld2 => ?_)
              clear hK K hHeld; have hHeld := hHeld2; clear hHeld2
              try simp only [Act.put, List.setIfInBounds_toArray, List.set_cons_zero, List.set_cons_succ]
              refine rd1 8 (fun K hK => ?_)
              go_simp
              go_at_call 67; refine (rjoin_m _ _ _ _ _ _ t0 _ _ M0 V0 _ (HW.out.1.below hHeld.1.1.1) (HV.out.1.below hHeld.1.1.1) HK.out.2.2.2.1 HK2.out.2.2.2.1 pp0 qq0 FM0 FV0 FT0).mono ?_; rintro e w5 ⟨⟨A5, f5, rfl, hn5⟩, hb5⟩
              refine hK.out _ _ (KS.out _ (hHeld.1.step hb5)) (fun hHeld2 => ?_)
              clear hK K hHeld; have hHeld := hHeld2; clear hHeld2
              have KB5 : Hid (Kp w w5 wr.heap.size (.cells #[.slice none 0 0, .bool false] 130)) := hid ((kp_new2 (bdrew KQ.out.1.1) (.cells #[.slice none 0 0, .bool false] 130) _ rfl).step hb5)
              have bj := b1alloc wr.drew (.cells #[.slice none 0 0, .bool false] 130)
              have KRx := hid ((KR.out.step (bt (bdrew (Below.refl _ _)) bj)).step hb5)
              have KNx := hid ((KN.out.step (bt (bdrew (Below.refl _ _)) bj)).step hb5)
              have N5 := hid hn5
              obtain ⟨bc0, bc1⟩ := box_two KB5.out.2.2
              have bf0 := kp_froz KB5.out 0
              have bf1 := kp_froz KB5.out 1
              clear hn5 hb5 bj
              try simp only [Act.put, List.setIfInBounds_toArray, List.set_cons_zero, List.set_cons_succ]
              refine rd1 10 (fun K hK => ?_)
              go_simp
              have hJ : w.heap.size + 1 < wr.heap.size := HJS.out.1
              have hJ2 : N2 < wr.heap.size := HJS.out.2.1
              have hJ3 : G < wr.heap.size := HJS.out.2.2
              refine hK.out _ _ (KS.out _ (kq_other (j := 1) (v := .bool V0) (kq_other (j := 0) (v := .slice A5 t0 f5) hHeld.1 hJ) hJ)) (fun hHeld2 => ?_)
              clear hK K hHeld; have hHeld := hHeld2; clear hHeld2
              try simp only [Act.put, List.setIfInBounds_toArray, List.set_cons_zero, List.set_cons_succ]
              refine wpAnyH_done (by kernel_rfl) ?_ _
              refine NoPanic.normal ?_
              have KQ6 := hid hHeld.1
              clear hHeld KS
              have KB6 : Hid (Kp w _ wr.heap.size (.cells #[.slice A5 t0 f5, .bool V0] 130)) := hid (kp_set (j := 1) (v := .bool V0) (kp_set (j := 0) (v := .slice A5 t0 f5) KB5.out))
              have g1 := set_grown w5 wr.heap.size 0 (.slice A5 t0 f5)
              have g2 := set_grown (w5.setCell ⟨wr.heap.size, 0, none⟩ (.slice A5 t0 f5)) wr.heap.size 1 (.bool V0)
              have KB5a : Hid (Kp w _ wr.heap.size (.cells #[.slice A5 t0 f5, .bool false] 130)) := hid (kp_set (j := 0) (v := .slice A5 t0 f5) KB5.out)
              have hjw : w.heap.size ≤ wr.heap.size := KB5.out.2.1
              have KR6 := hid (kp_gr (kp_gr KRx.out g1 (Nat.ne_of_lt hJ2) hjw) g2 (Nat.ne_of_lt hJ2) hjw)
              have KN6 := hid (kp_gr (kp_gr KNx.out g1 (Nat.ne_of_lt hJ3) hjw) g2 (Nat.ne_of_lt hJ3) hjw)
              have N6 := hid ((N5.out).off g1 (no_bag KB5.out.2.2) PM0.out)
              have N6' := hid (N6.out.off g2 (no_bag KB5a.out.2.2) PM0.out)
              clear g1 g2 KB5 KB5a N5 N6 KRx KNx bc0 bc1 bf0 bf1
              generalize ((w5.setCell ⟨wr.heap.size, 0, none⟩ (.slice A5 t0 f5)).setCell ⟨wr.heap.size, 1, none⟩ (.bool V0)) = W6 at KQ6 KB6 KR6 KN6 N6' ⊢
              generalize wr.heap.size = J at KB6 hjw ⊢
              obtain ⟨e0, e1⟩ := box_two KB6.out.2.2
              cases V0 with
              | false =>
                have HZ := hid (And.intro (hC.out.symm.trans (cjC_no (cjB_v0 FV0.out))) (hv.out.symm.trans (cjB_v0 FV0.out)))
                go_wp2_with (refine wpList_store_whole rfl 36 (.tmp 6) (.tmp 38) rfl N2 (rcC 0 0 0 none 0 0 none 0 0 false) rfl rfl 36 _ KR6.out.2.2 rfl (by show _ = some 6; exact size_rc) (rcC_one _ _ _ _ _ _ _ _ _ _) ?_; intro w9 hp9 hg9; have KR9 := hid (kp_at KR6.out hg9 hp9); clear hp9 hg9)
                (try simp only [Exit.inBlock, Exit.then])
                show bodyPost Try.prog Try.f24 _ _ _ _
                refine bodyPost_ret (results_cell_row (p := 6) rfl _ _ N2 _ (rcC 0 0 0 none 0 0 none 0 0 false) (0, 0) _ rfl KR9.out.2.2 Try.underlying36 rfl (by kernel_rfl)) rfl ?_
                obtain ⟨z1, z2⟩ := HZ.out; subst z1; subst z2; exact ⟨⟨none, 0, 0, none, 0, 0, rfl, cw_nil _⟩, KR9.out.1⟩
              | true =>
                have fz := kp_froz KN6.out 0
                have cz := kp_cell (j := 0) (v := .slice none 0 0) KN6.out rfl
                go_upto_region 6 with fail
                have KN7 : Hid (Kp w _ G (.cells #[.slice A5 t0 f5, .slice none 0 0] 24)) := hid (kp_set (j := 0) (v := .slice A5 t0 f5) KN6.out)
                have g3 := set_grown W6 G 0 (.slice A5 t0 f5)
                have KR7 := hid (kp_gr KR6.out g3 (Nat.ne_of_lt HNN.out.1) HGW.out)
                have KQ7 := hid (kq_other (j := 0) (v := .slice A5 t0 f5) KQ6.out HN1.out)
                have N7 := hid (N6'.out.off g3 (no_two KN6.out.2.2) PM0.out)
                have N8 : Hid (NRun _ A5 t0 f5 (jnl c.b0 d.b0)) := hid (by have h := N7.out; rw [← FM0.out, jl_yes FV0.out] at h; exact h)
                clear fz cz g3
                generalize (W6.setCell ⟨G, 0, none⟩ (.slice A5 t0 f5)) = W7 at KN7 KR7 KQ7 N7 N8 ⊢
                go_wp2
                go_roundw
                case rel => exact ⟨KQ7, KR7, .inr (⟨by go_num, A5, t0, f5, KN7, N8, FV0⟩)⟩
                case measure => simp [intOf]
          · skip
            have hle : c.n + d.n ≤ 1099511627776 := by have := jn_le J0.out; rw [CA.out.2.1.2.1, CB.out.2.1.2.1] at this; exact this
            have HMD := hid (md_join CA.out CB.out hle)
            have HLE := hid hle
            clear hle
            have HMC : Hid (mdC 1 (c.n + d.n) (jnl c.b0 d.b0) [] = C) := hid (HMD.out.2.trans hC.out)
            have HMV : Hid (mdB 1 (c.n + d.n) (jnl c.b0 d.b0) [] = v) := hid (HMD.out.1.trans hv.out)
            have HPC : Hid (Pos C.b0 ∧ Pos C.b1) := hid (by rw [← hC.out]; exact cjC_pos _ _ _)
            obtain ⟨e0, e1⟩ := box_two KN.out.2.2
            obtain ⟨_, x0, x1, x2, x3, x4, y0, y1, y2, y3, y4⟩ := KQ.out.ten (Below.refl _ _)
            go_wp2_with (first
              | (go_at_call 53; refine (made_m 1 (c.n + d.n) (jnl c.b0 d.b0) [] _ _ _ _ _ _ C v _ XA.out (nrun_nil _) (jnl_ok CA.out.2.1.1 CB.out.2.1.1 (by rw [CA.out.2.1.2.1, CB.out.2.1.2.1]; exact HLE.out) HK.out.2.2.2.1 HK2.out.2.2.2.1) nok_nil (jnl_bag CA.out.2.1.1 CB.out.2.1.1 (by rw [CA.out.2.1.2.1, CB.out.2.1.2.1]; exact HLE.out)) bag_nil (by have := HLE.out; unfold I64; omega) (.inl rfl) HMC HMV).mono ?_; rintro e w7 ⟨⟨a7, p7, k7, a8, p8, k8, rfl, hcw, hs7, hs8⟩, hb7⟩; have KR7 := hid (KR.out.step hb7); have CW7 := hid hcw; clear hcw hb7 hs7 hs8 e0 e1 x0 x1 x2 x3 x4 y0 y1 y2 y3 y4)
              | (refine wpList_store_whole rfl 36 (.tmp 6) (.tmp 50) rfl N2 (rcC C.n C.s0 C.s1 a7 p7 k7 a8 p8 k8 v) rfl rfl 36 _ KR7.out.2.2 rfl (by show _ = some 6; exact size_rc) (rcC_one _ _ _ _ _ _ _ _ _ _) ?_; intro w9 hp9 hg9; have KR9 := hid (kp_at KR7.out hg9 hp9); have CW9 := hid (CW7.out.off hg9 (no_six KR7.out.2.2) HPC.out); clear hp9 hg9))
            (try simp only [Exit.inBlock, Exit.then])
            show bodyPost Try.prog Try.f24 _ _ _ _
            refine bodyPost_ret (results_cell_row (p := 6) rfl _ _ N2 _ (rcC C.n C.s0 C.s1 a7 p7 k7 a8 p8 k8 v) (0, 0) _ rfl KR9.out.2.2 Try.underlying36 rfl (by kernel_rfl)) rfl ?_
            exact ⟨⟨_, _, _, _, _, _, rfl, CW9.out⟩, KR9.out.1⟩
      · subst em
        clear ea
        go_loopw [8] (fun i wr => Hid (Kq w wr (.cells #[.int .i64 c.n, .int .i64 c.s0, .int .i64 c.s1, .slice a0 p0 k0, .slice a1 p1 k1] 26) (.cells #[.int .i64 d.n, .int .i64 d.s0, .int .i64 d.s1, .slice b0 q0 j0, .slice b1 q1 j1] 26)) ∧ Hid (Kp w wr N2 (.cells #[.int .i64 0, .int .i64 0, .int .i64 0, .slice none 0 0, .slice none 0 0, .bool false] 36)) ∧ ((i = .int .i64 0 ∧ Hid (Kp w wr G (.cells #[.slice none 0 0, .slice none 0 0] 24))) ∨ (i = .int .i64 1 ∧ ∃ A p f, Hid (Kp w wr G (.cells #[.slice A p f, .slice none 0 0] 24)) ∧ Hid (NRun wr A p f (jnl c.b0 d.b0)) ∧ Hid (Jn c.b0 d.b0 = true)) ∨ (i = .int .i64 2 ∧ ∃ A p f A' p' f', Hid (Kp w wr G (.cells #[.slice A p f, .slice A' p' f'] 24)) ∧ Hid (NRun wr A p f (jnl c.b0 d.b0)) ∧ Hid (NRun wr A' p' f' (jnl c.b1 d.b1)) ∧ Hid (Jn c.b0 d.b0 = true)))) (fun i _ => 2 - (intOf i).toNat)
        case atStart => exact ⟨KQ3, KR3, .inl ⟨rfl, KN3⟩⟩
        case round =>
          obtain ⟨KQ, KR, hi⟩ := hrel
          rcases hi with ⟨rfl, KN⟩ | ⟨rfl, A, p, f, KN, XA, J0⟩ | ⟨rfl, A, p, f, A', p', f', KN, XA, XB, J0⟩
          · skip
            have KS : Hid (∀ y, Kq w y (.cells #[.int .i64 c.n, .int .i64 c.s0, .int .i64 c.s1, .slice a0 p0 k0, .slice a1 p1 k1] 26) (.cells #[.int .i64 d.n, .int .i64 d.s0, .int .i64 d.s1, .slice b0 q0 j0, .slice b1 q1 j1] 26) → (fun y => Kq w y (.cells #[.int .i64 c.n, .int .i64 c.s0, .int .i64 c.s1, .slice a0 p0 k0, .slice a1 p1 k1] 26) (.cells #[.int .i64 d.n, .int .i64 d.s0, .int .i64 d.s1, .slice b0 q0 j0, .slice b1 q1 j1] 26) ∧ y.cell? ⟨w.heap.size, 3, none⟩ = some (.slice a0 p0 k0) ∧ y.cell? ⟨w.heap.size + 1, 3, none⟩ = some (.slice b0 q0 j0))  y) := hid (fun y h => by
              obtain ⟨_, x0, x1, x2, x3, x4, y0, y1, y2, y3, y4⟩ := h.ten (Below.refl _ _)
              exact ⟨h, x3, y3⟩)
            have ltJ1 : w.heap.size + 1 < wr.heap.size := heap_lt KQ.out.2.2.2
            have ltJ2 : N2 < wr.heap.size := heap_lt KR.out.2.2
            have ltJ3 : G < wr.heap.size := heap_lt KN.out.2.2
            have HJS := hid (And.intro ltJ1 (And.intro ltJ2 ltJ3))
            have PM0 : Hid (Pos M0) := hid (by rw [← FM0.out]; exact jl_pos _ _)
            clear ltJ1 ltJ2 ltJ3
            go_wp2
            refine wp_region_noPanic ?_
            refine wp_region_held_drew (S := fun y => Kq w y (.cells #[.int .i64 c.n, .int .i64 c.s0, .int .i64 c.s1, .slice a0 p0 k0, .slice a1 p1 k1] 26) (.cells #[.int .i64 d.n, .int .i64 d.s0, .int .i64 d.s1, .slice b0 q0 j0, .slice b1 q1 j1] 26) ∧ y.cell? ⟨w.heap.size, 3, none⟩ = some (.slice a0 p0 k0) ∧ y.cell? ⟨w.heap.size + 1, 3, none⟩ = some (.slice b0 q0 j0)) (by kernel_rfl) (KS.out _ (KQ.out.step (bdrew (Below.refl _ _)))) (fun hHeld => ?_)
            refine tk 0 (v := ?_) ?_ ?_
            rotate_left
            · intro w hSw; (try dsimp only at hSw); go_simp; (try with_reducible rfl)
            try simp only [Act.put, List.setIfInBounds_toArray, List.set_cons_zero, List.set_cons_succ]
            refine tk 1 (v := ?_) ?_ ?_
            rotate_left
            · intro w hSw; (try dsimp only at hSw); go_simp; (try with_reducible rfl)
            try simp only [Act.put, List.setIfInBounds_toArray, List.set_cons_zero, List.set_cons_succ]
            refine tk 2 (v := ?_) ?_ ?_
            rotate_left
            · intro w hSw; (try dsimp only at hSw); go_simp; (try with_reducible rfl)
            try simp only [Act.put, List.setIfInBounds_toArray, List.set_cons_zero, List.set_cons_succ]
            refine tk 3 (v := ?_) ?_ ?_
            rotate_left
            · intro w hSw; (try dsimp only at hSw); go_simp; (try with_reducible rfl)
            try simp only [Act.put, List.setIfInBounds_toArray, List.set_cons_zero, List.set_cons_succ]
            refine tk 4 (v := ?_) ?_ ?_
            rotate_left
            · intro w hSw; (try dsimp only at hSw); go_simp; (try with_reducible rfl)
            try simp only [Act.put, List.setIfInBounds_toArray, List.set_cons_zero, List.set_cons_succ]
            refine tk 5 (v := ?_) ?_ ?_
            rotate_left
            · intro w hSw; (try dsimp only at hSw); go_simp; (try with_reducible rfl)
            try simp only [Act.put, List.setIfInBounds_toArray, List.set_cons_zero, List.set_cons_succ]
            refine tk 6 (v := ?_) ?_ ?_
            rotate_left
            · intro w hSw; (try dsimp only at hSw); go_simp; (try with_reducible rfl)
            try simp only [Act.put, List.setIfInBounds_toArray, List.set_cons_zero, List.set_cons_succ]
            refine tk 7 (v := ?_) ?_ ?_
            rotate_left
            · intro w hSw; (try dsimp only at hSw); go_simp; (try with_reducible rfl)
            try simp only [Act.put, List.setIfInBounds_toArray, List.set_cons_zero, List.set_cons_succ]
            refine wpAnyH_ready (rs := [8, 9]) (by kernel_rfl) (by simp) ?_
            refine (rdc (fun K hK => ?_) (rdc (fun K hK => ?_) AllReadyH.nil))
            · go_simp
              go_at_call 67; refine (rjoin_m _ _ _ _ _ _ t0 _ _ M0 V0 _ (HW.out.1.below hHeld.1.1.1) (HV.out.1.below hHeld.1.1.1) HK.out.2.2.2.1 HK2.out.2.2.2.1 pp0 qq0 FM0 FV0 FT0).mono ?_; rintro e w5 ⟨⟨A5, f5, rfl, hn5⟩, hb5⟩
              refine hK.out _ _ (KS.out _ (hHeld.1.step hb5)) (fun hHeld2 => ?_)
              clear hK K hHeld; have hHeld := hHeld2; clear hHeld2
              have KQ5 := hid hHeld.1
              have HB5S : Hid (wr.heap.size ≤ w5.heap.size) := hid hb5.size
              have KRx := hid (KR.out.step (undrew hb5))
              have KNx := hid (KN.out.step (undrew hb5))
              have N5 := hid hn5
              clear hn5 hb5
              try simp only [Act.put, List.setIfInBounds_toArray, List.set_cons_zero, List.set_cons_succ]
              refine rd1 9 (fun K hK => ?_)
              go_simp
              refine hK.out _ _ (KS.out _ (hHeld.1.step (b1alloc w5 (.cells #[.slice none 0 0, .bool false] 130)))) (fun hHeld2 => ?_)
              clear hK K hHeld; have hHeld := hHeld2; clear hHeld2
              have KB5 : Hid (Kp w (w5.alloc (.cells #[.slice none 0 0, .bool false] 130)) w5.heap.size (.cells #[.slice none 0 0, .bool false] 130)) := hid (kp_new2 KRx.out.1 _ _ rfl)
              obtain ⟨bc0, bc1⟩ := box_two KB5.out.2.2
              have bf0 := kp_froz KB5.out 0
              have bf1 := kp_froz KB5.out 1
              try simp only [Act.put, List.setIfInBounds_toArray, List.set_cons_zero, List.set_cons_succ]
              refine rd1 10 (fun K hK => ?_)
              go_simp
              refine hK.out _ _ (KS.out _ (KQ5.out.step (b1alloc w5 (.cells #[.slice A5 t0 f5, .bool V0] 130)))) (fun hHeld2 => ?_)
              clear hK K hHeld; have hHeld := hHeld2; clear hHeld2
              try simp only [Act.put, List.setIfInBounds_toArray, List.set_cons_zero, List.set_cons_succ]
              refine wpAnyH_done (by kernel_rfl) ?_ _
              refine NoPanic.normal ?_
              have KQ6 := hid hHeld.1
              clear hHeld KS KQ5 KB5 bc0 bc1 bf0 bf1
              have KB6 : Hid (Kp w (w5.alloc (.cells #[.slice A5 t0 f5, .bool V0] 130)) w5.heap.size (.cells #[.slice A5 t0 f5, .bool V0] 130)) := hid (kp_new2 KRx.out.1 _ _ rfl)
              have hjw : w.heap.size ≤ w5.heap.size := KB6.out.2.1
              have KR6 := hid (kp_alloc KRx.out (.cells #[.slice A5 t0 f5, .bool V0] 130))
              have KN6 := hid (kp_alloc KNx.out (.cells #[.slice A5 t0 f5, .bool V0] 130))
              have N6' := hid (N5.out.below (b1alloc w5 (.cells #[.slice A5 t0 f5, .bool V0] 130)))
              clear N5 KRx KNx
              generalize (w5.alloc (.cells #[.slice A5 t0 f5, .bool V0] 130)) = W6 at KQ6 KB6 KR6 KN6 N6' ⊢
              generalize w5.heap.size = J at KB6 hjw ⊢
              obtain ⟨e0, e1⟩ := box_two KB6.out.2.2
              cases V0 with
              | false =>
                have HZ := hid (And.intro (hC.out.symm.trans (cjC_no (cjB_v0 FV0.out))) (hv.out.symm.trans (cjB_v0 FV0.out)))
                go_wp2_with (refine wpList_store_whole rfl 36 (.tmp 6) (.tmp 38) rfl N2 (rcC 0 0 0 none 0 0 none 0 0 false) rfl rfl 36 _ KR6.out.2.2 rfl (by show _ = some 6; exact size_rc) (rcC_one _ _ _ _ _ _ _ _ _ _) ?_; intro w9 hp9 hg9; have KR9 := hid (kp_at KR6.out hg9 hp9); clear hp9 hg9)
                (try simp only [Exit.inBlock, Exit.then])
                show bodyPost Try.prog Try.f24 _ _ _ _
                refine bodyPost_ret (results_cell_row (p := 6) rfl _ _ N2 _ (rcC 0 0 0 none 0 0 none 0 0 false) (0, 0) _ rfl KR9.out.2.2 Try.underlying36 rfl (by kernel_rfl)) rfl ?_
                obtain ⟨z1, z2⟩ := HZ.out; subst z1; subst z2; exact ⟨⟨none, 0, 0, none, 0, 0, rfl, cw_nil _⟩, KR9.out.1⟩
              | true =>
                have fz := kp_froz KN6.out 0
                have cz := kp_cell (j := 0) (v := .slice none 0 0) KN6.out rfl
                go_upto_region 6 with fail
                have KN7 : Hid (Kp w _ G (.cells #[.slice A5 t0 f5, .slice none 0 0] 24)) := hid (kp_set (j := 0) (v := .slice A5 t0 f5) KN6.out)
                have g3 := set_grown W6 G 0 (.slice A5 t0 f5)
                have KR7 := hid (kp_gr KR6.out g3 (Nat.ne_of_lt HNN.out.1) HGW.out)
                have KQ7 := hid (kq_other (j := 0) (v := .slice A5 t0 f5) KQ6.out HN1.out)
                have N7 := hid (N6'.out.off g3 (no_two KN6.out.2.2) PM0.out)
                have N8 : Hid (NRun _ A5 t0 f5 (jnl c.b0 d.b0)) := hid (by have h := N7.out; rw [← FM0.out, jl_yes FV0.out] at h; exact h)
                clear fz cz g3
                generalize (W6.setCell ⟨G, 0, none⟩ (.slice A5 t0 f5)) = W7 at KN7 KR7 KQ7 N7 N8 ⊢
                go_wp2
                go_roundw
                case rel => exact ⟨KQ7, KR7, .inr (.inl ⟨by go_num, A5, t0, f5, KN7, N8, FV0⟩)⟩
                case measure => simp [intOf]
            · go_simp
              refine hK.out _ _ (KS.out _ (hHeld.1.step (b1alloc wr.drew (.cells #[.slice none 0 0, .bool false] 130)))) (fun hHeld2 => ?_)
              clear hK K hHeld; have hHeld := hHeld2; clear hHeld2
              try simp only [Act.put, List.setIfInBounds_toArray, List.set_cons_zero, List.set_cons_succ]
              refine rd1 8 (fun K hK => ?_)
              go_simp
              go_at_call 67; refine (rjoin_m _ _ _ _ _ _ t0 _ _ M0 V0 _ (HW.out.1.below hHeld.1.1.1) (HV.out.1.below hHeld.1.1.1) HK.out.2.2.2.1 HK2.out.2.2.2.1 pp0 qq0 FM0 FV0 FT0).mono ?_; rintro e w5 ⟨⟨A5, f5, rfl, hn5⟩, hb5⟩
              refine hK.out _ _ (KS.out _ (hHeld.1.step hb5)) (fun hHeld2 => ?_)
              clear hK K hHeld; have hHeld := hHeld2; clear hHeld2
              have KB5 : Hid (Kp w w5 wr.heap.size (.cells #[.slice none 0 0, .bool false] 130)) := hid ((kp_new2 (bdrew KQ.out.1.1) (.cells #[.slice none 0 0, .bool false] 130) _ rfl).step hb5)
              have bj := b1alloc wr.drew (.cells #[.slice none 0 0, .bool false] 130)
              have KRx := hid ((KR.out.step (bt (bdrew (Below.refl _ _)) bj)).step hb5)
              have KNx := hid ((KN.out.step (bt (bdrew (Below.refl _ _)) bj)).step hb5)
              have N5 := hid hn5
              obtain ⟨bc0, bc1⟩ := box_two KB5.out.2.2
              have bf0 := kp_froz KB5.out 0
              have bf1 := kp_froz KB5.out 1
              clear hn5 hb5 bj
              try simp only [Act.put, List.setIfInBounds_toArray, List.set_cons_zero, List.set_cons_succ]
              refine rd1 10 (fun K hK => ?_)
              go_simp
              have hJ : w.heap.size + 1 < wr.heap.size := HJS.out.1
              have hJ2 : N2 < wr.heap.size := HJS.out.2.1
              have hJ3 : G < wr.heap.size := HJS.out.2.2
              refine hK.out _ _ (KS.out _ (kq_other (j := 1) (v := .bool V0) (kq_other (j := 0) (v := .slice A5 t0 f5) hHeld.1 hJ) hJ)) (fun hHeld2 => ?_)
              clear hK K hHeld; have hHeld := hHeld2; clear hHeld2
              try simp only [Act.put, List.setIfInBounds_toArray, List.set_cons_zero, List.set_cons_succ]
              refine wpAnyH_done (by kernel_rfl) ?_ _
              refine NoPanic.normal ?_
              have KQ6 := hid hHeld.1
              clear hHeld KS
              have KB6 : Hid (Kp w _ wr.heap.size (.cells #[.slice A5 t0 f5, .bool V0] 130)) := hid (kp_set (j := 1) (v := .bool V0) (kp_set (j := 0) (v := .slice A5 t0 f5) KB5.out))
              have g1 := set_grown w5 wr.heap.size 0 (.slice A5 t0 f5)
              have g2 := set_grown (w5.setCell ⟨wr.heap.size, 0, none⟩ (.slice A5 t0 f5)) wr.heap.size 1 (.bool V0)
              have KB5a : Hid (Kp w _ wr.heap.size (.cells #[.slice A5 t0 f5, .bool false] 130)) := hid (kp_set (j := 0) (v := .slice A5 t0 f5) KB5.out)
              have hjw : w.heap.size ≤ wr.heap.size := KB5.out.2.1
              have KR6 := hid (kp_gr (kp_gr KRx.out g1 (Nat.ne_of_lt hJ2) hjw) g2 (Nat.ne_of_lt hJ2) hjw)
              have KN6 := hid (kp_gr (kp_gr KNx.out g1 (Nat.ne_of_lt hJ3) hjw) g2 (Nat.ne_of_lt hJ3) hjw)
              have N6 := hid ((N5.out).off g1 (no_bag KB5.out.2.2) PM0.out)
              have N6' := hid (N6.out.off g2 (no_bag KB5a.out.2.2) PM0.out)
              clear g1 g2 KB5 KB5a N5 N6 KRx KNx bc0 bc1 bf0 bf1
              generalize ((w5.setCell ⟨wr.heap.size, 0, none⟩ (.slice A5 t0 f5)).setCell ⟨wr.heap.size, 1, none⟩ (.bool V0)) = W6 at KQ6 KB6 KR6 KN6 N6' ⊢
              generalize wr.heap.size = J at KB6 hjw ⊢
              obtain ⟨e0, e1⟩ := box_two KB6.out.2.2
              cases V0 with
              | false =>
                have HZ := hid (And.intro (hC.out.symm.trans (cjC_no (cjB_v0 FV0.out))) (hv.out.symm.trans (cjB_v0 FV0.out)))
                go_wp2_with (refine wpList_store_whole rfl 36 (.tmp 6) (.tmp 38) rfl N2 (rcC 0 0 0 none 0 0 none 0 0 false) rfl rfl 36 _ KR6.out.2.2 rfl (by show _ = some 6; exact size_rc) (rcC_one _ _ _ _ _ _ _ _ _ _) ?_; intro w9 hp9 hg9; have KR9 := hid (kp_at KR6.out hg9 hp9); clear hp9 hg9)
                (try simp only [Exit.inBlock, Exit.then])
                show bodyPost Try.prog Try.f24 _ _ _ _
                refine bodyPost_ret (results_cell_row (p := 6) rfl _ _ N2 _ (rcC 0 0 0 none 0 0 none 0 0 false) (0, 0) _ rfl KR9.out.2.2 Try.underlying36 rfl (by kernel_rfl)) rfl ?_
                obtain ⟨z1, z2⟩ := HZ.out; subst z1; subst z2; exact ⟨⟨none, 0, 0, none, 0, 0, rfl, cw_nil _⟩, KR9.out.1⟩
              | true =>
                have fz := kp_froz KN6.out 0
                have cz := kp_cell (j := 0) (v := .slice none 0 0) KN6.out rfl
                go_upto_region 6 with fail
                have KN7 : Hid (Kp w _ G (.cells #[.slice A5 t0 f5, .slice none 0 0] 24)) := hid (kp_set (j := 0) (v := .slice A5 t0 f5) KN6.out)
                have g3 := set_grown W6 G 0 (.slice A5 t0 f5)
                have KR7 := hid (kp_gr KR6.out g3 (Nat.ne_of_lt HNN.out.1) HGW.out)
                have KQ7 := hid (kq_other (j := 0) (v := .slice A5 t0 f5) KQ6.out HN1.out)
                have N7 := hid (N6'.out.off g3 (no_two KN6.out.2.2) PM0.out)
                have N8 : Hid (NRun _ A5 t0 f5 (jnl c.b0 d.b0)) := hid (by have h := N7.out; rw [← FM0.out, jl_yes FV0.out] at h; exact h)
                clear fz cz g3
                generalize (W6.setCell ⟨G, 0, none⟩ (.slice A5 t0 f5)) = W7 at KN7 KR7 KQ7 N7 N8 ⊢
                go_wp2
                go_roundw
                case rel => exact ⟨KQ7, KR7, .inr (.inl ⟨by go_num, A5, t0, f5, KN7, N8, FV0⟩)⟩
                case measure => simp [intOf]
          · skip
            have PJ0 : Hid (Pos (jnl c.b0 d.b0)) := hid (jnl_pos CA.out.2.1.1.2.1 CB.out.2.1.1.2.1)
            have KS : Hid (∀ y, Kq w y (.cells #[.int .i64 c.n, .int .i64 c.s0, .int .i64 c.s1, .slice a0 p0 k0, .slice a1 p1 k1] 26) (.cells #[.int .i64 d.n, .int .i64 d.s0, .int .i64 d.s1, .slice b0 q0 j0, .slice b1 q1 j1] 26) → (fun y => Kq w y (.cells #[.int .i64 c.n, .int .i64 c.s0, .int .i64 c.s1, .slice a0 p0 k0, .slice a1 p1 k1] 26) (.cells #[.int .i64 d.n, .int .i64 d.s0, .int .i64 d.s1, .slice b0 q0 j0, .slice b1 q1 j1] 26) ∧ y.cell? ⟨w.heap.size, 4, none⟩ = some (.slice a1 p1 k1) ∧ y.cell? ⟨w.heap.size + 1, 4, none⟩ = some (.slice b1 q1 j1))  y) := hid (fun y h => by
              obtain ⟨_, x0, x1, x2, x3, x4, y0, y1, y2, y3, y4⟩ := h.ten (Below.refl _ _)
              exact ⟨h, x4, y4⟩)
            have ltJ1 : w.heap.size + 1 < wr.heap.size := heap_lt KQ.out.2.2.2
            have ltJ2 : N2 < wr.heap.size := heap_lt KR.out.2.2
            have ltJ3 : G < wr.heap.size := heap_lt KN.out.2.2
            have HJS := hid (And.intro ltJ1 (And.intro ltJ2 ltJ3))
            have PM1 : Hid (Pos M1) := hid (by rw [← FM1.out]; exact jl_pos _ _)
            clear ltJ1 ltJ2 ltJ3
            go_wp2
            refine wp_region_noPanic ?_
            refine wp_region_held_drew (S := fun y => Kq w y (.cells #[.int .i64 c.n, .int .i64 c.s0, .int .i64 c.s1, .slice a0 p0 k0, .slice a1 p1 k1] 26) (.cells #[.int .i64 d.n, .int .i64 d.s0, .int .i64 d.s1, .slice b0 q0 j0, .slice b1 q1 j1] 26) ∧ y.cell? ⟨w.heap.size, 4, none⟩ = some (.slice a1 p1 k1) ∧ y.cell? ⟨w.heap.size + 1, 4, none⟩ = some (.slice b1 q1 j1)) (by kernel_rfl) (KS.out _ (KQ.out.step (bdrew (Below.refl _ _)))) (fun hHeld => ?_)
            refine tk 0 (v := ?_) ?_ ?_
            rotate_left
            · intro w hSw; (try dsimp only at hSw); go_simp; (try with_reducible rfl)
            try simp only [Act.put, List.setIfInBounds_toArray, List.set_cons_zero, List.set_cons_succ]
            refine tk 1 (v := ?_) ?_ ?_
            rotate_left
            · intro w hSw; (try dsimp only at hSw); go_simp; (try with_reducible rfl)
            try simp only [Act.put, List.setIfInBounds_toArray, List.set_cons_zero, List.set_cons_succ]
            refine tk 2 (v := ?_) ?_ ?_
            rotate_left
            · intro w hSw; (try dsimp only at hSw); go_simp; (try with_reducible rfl)
            try simp only [Act.put, List.setIfInBounds_toArray, List.set_cons_zero, List.set_cons_succ]
            refine tk 3 (v := ?_) ?_ ?_
            rotate_left
            · intro w hSw; (try dsimp only at hSw); go_simp; (try with_reducible rfl)
            try simp only [Act.put, List.setIfInBounds_toArray, List.set_cons_zero, List.set_cons_succ]
            refine tk 4 (v := ?_) ?_ ?_
            rotate_left
            · intro w hSw; (try dsimp only at hSw); go_simp; (try with_reducible rfl)
            try simp only [Act.put, List.setIfInBounds_toArray, List.set_cons_zero, List.set_cons_succ]
            refine tk 5 (v := ?_) ?_ ?_
            rotate_left
            · intro w hSw; (try dsimp only at hSw); go_simp; (try with_reducible rfl)
            try simp only [Act.put, List.setIfInBounds_toArray, List.set_cons_zero, List.set_cons_succ]
            refine tk 6 (v := ?_) ?_ ?_
            rotate_left
            · intro w hSw; (try dsimp only at hSw); go_simp; (try with_reducible rfl)
            try simp only [Act.put, List.setIfInBounds_toArray, List.set_cons_zero, List.set_cons_succ]
            refine tk 7 (v := ?_) ?_ ?_
            rotate_left
            · intro w hSw; (try dsimp only at hSw); go_simp; (try with_reducible rfl)
            try simp only [Act.put, List.setIfInBounds_toArray, List.set_cons_zero, List.set_cons_succ]
            refine wpAnyH_ready (rs := [8, 9]) (by kernel_rfl) (by simp) ?_
            refine (rdc (fun K hK => ?_) (rdc (fun K hK => ?_) AllReadyH.nil))
            · go_simp
              go_at_call 67; refine (rjoin_m _ _ _ _ _ _ t1 _ _ M1 V1 _ (HW.out.2.below hHeld.1.1.1) (HV.out.2.below hHeld.1.1.1) HK.out.2.2.2.2 HK2.out.2.2.2.2 pp1 qq1 FM1 FV1 FT1).mono ?_; rintro e w5 ⟨⟨A5, f5, rfl, hn5⟩, hb5⟩
              refine hK.out _ _ (KS.out _ (hHeld.1.step hb5)) (fun hHeld2 => ?_)
              clear hK K hHeld; have hHeld := hHeld2; clear hHeld2
              have KQ5 := hid hHeld.1
              have HB5S : Hid (wr.heap.size ≤ w5.heap.size) := hid hb5.size
              have KRx := hid (KR.out.step (undrew hb5))
              have KNx := hid (KN.out.step (undrew hb5))
              have XAx := hid (XA.out.below (undrew hb5))
              have N5 := hid hn5
              clear hn5 hb5
              try simp only [Act.put, List.setIfInBounds_toArray, List.set_cons_zero, List.set_cons_succ]
              refine rd1 9 (fun K hK => ?_)
              go_simp
              refine hK.out _ _ (KS.out _ (hHeld.1.step (b1alloc w5 (.cells #[.slice none 0 0, .bool false] 130)))) (fun hHeld2 => ?_)
              clear hK K hHeld; have hHeld := hHeld2; clear hHeld2
              have KB5 : Hid (Kp w (w5.alloc (.cells #[.slice none 0 0, .bool false] 130)) w5.heap.size (.cells #[.slice none 0 0, .bool false] 130)) := hid (kp_new2 KRx.out.1 _ _ rfl)
              obtain ⟨bc0, bc1⟩ := box_two KB5.out.2.2
              have bf0 := kp_froz KB5.out 0
              have bf1 := kp_froz KB5.out 1
              try simp only [Act.put, List.setIfInBounds_toArray, List.set_cons_zero, List.set_cons_succ]
              refine rd1 10 (fun K hK => ?_)
              go_simp
              refine hK.out _ _ (KS.out _ (KQ5.out.step (b1alloc w5 (.cells #[.slice A5 t1 f5, .bool V1] 130)))) (fun hHeld2 => ?_)
              clear hK K hHeld; have hHeld := hHeld2; clear hHeld2
              try simp only [Act.put, List.setIfInBounds_toArray, List.set_cons_zero, List.set_cons_succ]
              refine wpAnyH_done (by kernel_rfl) ?_ _
              refine NoPanic.normal ?_
              have KQ6 := hid hHeld.1
              clear hHeld KS KQ5 KB5 bc0 bc1 bf0 bf1
              have KB6 : Hid (Kp w (w5.alloc (.cells #[.slice A5 t1 f5, .bool V1] 130)) w5.heap.size (.cells #[.slice A5 t1 f5, .bool V1] 130)) := hid (kp_new2 KRx.out.1 _ _ rfl)
              have hjw : w.heap.size ≤ w5.heap.size := KB6.out.2.1
              have KR6 := hid (kp_alloc KRx.out (.cells #[.slice A5 t1 f5, .bool V1] 130))
              have KN6 := hid (kp_alloc KNx.out (.cells #[.slice A5 t1 f5, .bool V1] 130))
              have N6' := hid (N5.out.below (b1alloc w5 (.cells #[.slice A5 t1 f5, .bool V1] 130)))
              have XA6 := hid (XAx.out.below (b1alloc w5 (.cells #[.slice A5 t1 f5, .bool V1] 130)))
              clear N5 KRx KNx XAx
              generalize (w5.alloc (.cells #[.slice A5 t1 f5, .bool V1] 130)) = W6 at KQ6 KB6 KR6 KN6 N6' XA6 ⊢
              generalize w5.heap.size = J at KB6 hjw ⊢
              obtain ⟨e0, e1⟩ := box_two KB6.out.2.2
              cases V1 with
              | false =>
                have HZ := hid (And.intro (hC.out.symm.trans (cjC_no (cjB_v1 FV1.out))) (hv.out.symm.trans (cjB_v1 FV1.out)))
                go_wp2_with (refine wpList_store_whole rfl 36 (.tmp 6) (.tmp 38) rfl N2 (rcC 0 0 0 none 0 0 none 0 0 false) rfl rfl 36 _ KR6.out.2.2 rfl (by show _ = some 6; exact size_rc) (rcC_one _ _ _ _ _ _ _ _ _ _) ?_; intro w9 hp9 hg9; have KR9 := hid (kp_at KR6.out hg9 hp9); clear hp9 hg9)
                (try simp only [Exit.inBlock, Exit.then])
                show bodyPost Try.prog Try.f24 _ _ _ _
                refine bodyPost_ret (results_cell_row (p := 6) rfl _ _ N2 _ (rcC 0 0 0 none 0 0 none 0 0 false) (0, 0) _ rfl KR9.out.2.2 Try.underlying36 rfl (by kernel_rfl)) rfl ?_
                obtain ⟨z1, z2⟩ := HZ.out; subst z1; subst z2; exact ⟨⟨none, 0, 0, none, 0, 0, rfl, cw_nil _⟩, KR9.out.1⟩
              | true =>
                have fz := kp_froz KN6.out 1
                have cz := kp_cell (j := 1) (v := .slice none 0 0) KN6.out rfl
                go_upto_region 6 with fail
                have KN7 : Hid (Kp w _ G (.cells #[.slice A p f, .slice A5 t1 f5] 24)) := hid (kp_set (j := 1) (v := .slice A5 t1 f5) KN6.out)
                have g3 := set_grown W6 G 1 (.slice A5 t1 f5)
                have KR7 := hid (kp_gr KR6.out g3 (Nat.ne_of_lt HNN.out.1) HGW.out)
                have KQ7 := hid (kq_other (j := 1) (v := .slice A5 t1 f5) KQ6.out HN1.out)
                have N7 := hid (N6'.out.off g3 (no_two KN6.out.2.2) PM1.out)
                have N8 : Hid (NRun _ A5 t1 f5 (jnl c.b1 d.b1)) := hid (by have h := N7.out; rw [← FM1.out, jl_yes FV1.out] at h; exact h)
                have XA7 := hid (XA6.out.off g3 (no_two KN6.out.2.2) PJ0.out)
                clear fz cz g3
                generalize (W6.setCell ⟨G, 1, none⟩ (.slice A5 t1 f5)) = W7 at KN7 KR7 KQ7 N7 N8 XA7 ⊢
                go_wp2
                go_roundw
                case rel => exact ⟨KQ7, KR7, .inr (.inr ⟨by go_num, A, p, f, A5, t1, f5, KN7, XA7, N8, J0⟩)⟩
                case measure => simp [intOf]
            · go_simp
              refine hK.out _ _ (KS.out _ (hHeld.1.step (b1alloc wr.drew (.cells #[.slice none 0 0, .bool false] 130)))) (fun hHeld2 => ?_)
              clear hK K hHeld; have hHeld := hHeld2; clear hHeld2
              try simp only [Act.put, List.setIfInBounds_toArray, List.set_cons_zero, List.set_cons_succ]
              refine rd1 8 (fun K hK => ?_)
              go_simp
              go_at_call 67; refine (rjoin_m _ _ _ _ _ _ t1 _ _ M1 V1 _ (HW.out.2.below hHeld.1.1.1) (HV.out.2.below hHeld.1.1.1) HK.out.2.2.2.2 HK2.out.2.2.2.2 pp1 qq1 FM1 FV1 FT1).mono ?_; rintro e w5 ⟨⟨A5, f5, rfl, hn5⟩, hb5⟩
              refine hK.out _ _ (KS.out _ (hHeld.1.step hb5)) (fun hHeld2 => ?_)
              clear hK K hHeld; have hHeld := hHeld2; clear hHeld2
              have KB5 : Hid (Kp w w5 wr.heap.size (.cells #[.slice none 0 0, .bool false] 130)) := hid ((kp_new2 (bdrew KQ.out.1.1) (.cells #[.slice none 0 0, .bool false] 130) _ rfl).step hb5)
              have bj := b1alloc wr.drew (.cells #[.slice none 0 0, .bool false] 130)
              have KRx := hid ((KR.out.step (bt (bdrew (Below.refl _ _)) bj)).step hb5)
              have KNx := hid ((KN.out.step (bt (bdrew (Below.refl _ _)) bj)).step hb5)
              have XAx := hid ((XA.out.below (bt (bdrew (Below.refl _ _)) bj)).below hb5)
              have N5 := hid hn5
              obtain ⟨bc0, bc1⟩ := box_two KB5.out.2.2
              have bf0 := kp_froz KB5.out 0
              have bf1 := kp_froz KB5.out 1
              clear hn5 hb5 bj
              try simp only [Act.put, List.setIfInBounds_toArray, List.set_cons_zero, List.set_cons_succ]
              refine rd1 10 (fun K hK => ?_)
              go_simp
              have hJ : w.heap.size + 1 < wr.heap.size := HJS.out.1
              have hJ2 : N2 < wr.heap.size := HJS.out.2.1
              have hJ3 : G < wr.heap.size := HJS.out.2.2
              refine hK.out _ _ (KS.out _ (kq_other (j := 1) (v := .bool V1) (kq_other (j := 0) (v := .slice A5 t1 f5) hHeld.1 hJ) hJ)) (fun hHeld2 => ?_)
              clear hK K hHeld; have hHeld := hHeld2; clear hHeld2
              try simp only [Act.put, List.setIfInBounds_toArray, List.set_cons_zero, List.set_cons_succ]
              refine wpAnyH_done (by kernel_rfl) ?_ _
              refine NoPanic.normal ?_
              have KQ6 := hid hHeld.1
              clear hHeld KS
              have KB6 : Hid (Kp w _ wr.heap.size (.cells #[.slice A5 t1 f5, .bool V1] 130)) := hid (kp_set (j := 1) (v := .bool V1) (kp_set (j := 0) (v := .slice A5 t1 f5) KB5.out))
              have g1 := set_grown w5 wr.heap.size 0 (.slice A5 t1 f5)
              have g2 := set_grown (w5.setCell ⟨wr.heap.size, 0, none⟩ (.slice A5 t1 f5)) wr.heap.size 1 (.bool V1)
              have KB5a : Hid (Kp w _ wr.heap.size (.cells #[.slice A5 t1 f5, .bool false] 130)) := hid (kp_set (j := 0) (v := .slice A5 t1 f5) KB5.out)
              have hjw : w.heap.size ≤ wr.heap.size := KB5.out.2.1
              have KR6 := hid (kp_gr (kp_gr KRx.out g1 (Nat.ne_of_lt hJ2) hjw) g2 (Nat.ne_of_lt hJ2) hjw)
              have KN6 := hid (kp_gr (kp_gr KNx.out g1 (Nat.ne_of_lt hJ3) hjw) g2 (Nat.ne_of_lt hJ3) hjw)
              have N6 := hid ((N5.out).off g1 (no_bag KB5.out.2.2) PM1.out)
              have N6' := hid (N6.out.off g2 (no_bag KB5a.out.2.2) PM1.out)
              have XA6 := hid (((XAx.out).off g1 (no_bag KB5.out.2.2) PJ0.out).off g2 (no_bag KB5a.out.2.2) PJ0.out)
              clear g1 g2 KB5 KB5a N5 N6 KRx KNx bc0 bc1 bf0 bf1 XAx
              generalize ((w5.setCell ⟨wr.heap.size, 0, none⟩ (.slice A5 t1 f5)).setCell ⟨wr.heap.size, 1, none⟩ (.bool V1)) = W6 at KQ6 KB6 KR6 KN6 N6' XA6 ⊢
              generalize wr.heap.size = J at KB6 hjw ⊢
              obtain ⟨e0, e1⟩ := box_two KB6.out.2.2
              cases V1 with
              | false =>
                have HZ := hid (And.intro (hC.out.symm.trans (cjC_no (cjB_v1 FV1.out))) (hv.out.symm.trans (cjB_v1 FV1.out)))
                go_wp2_with (refine wpList_store_whole rfl 36 (.tmp 6) (.tmp 38) rfl N2 (rcC 0 0 0 none 0 0 none 0 0 false) rfl rfl 36 _ KR6.out.2.2 rfl (by show _ = some 6; exact size_rc) (rcC_one _ _ _ _ _ _ _ _ _ _) ?_; intro w9 hp9 hg9; have KR9 := hid (kp_at KR6.out hg9 hp9); clear hp9 hg9)
                (try simp only [Exit.inBlock, Exit.then])
                show bodyPost Try.prog Try.f24 _ _ _ _
                refine bodyPost_ret (results_cell_row (p := 6) rfl _ _ N2 _ (rcC 0 0 0 none 0 0 none 0 0 false) (0, 0) _ rfl KR9.out.2.2 Try.underlying36 rfl (by kernel_rfl)) rfl ?_
                obtain ⟨z1, z2⟩ := HZ.out; subst z1; subst z2; exact ⟨⟨none, 0, 0, none, 0, 0, rfl, cw_nil _⟩, KR9.out.1⟩
              | true =>
                have fz := kp_froz KN6.out 1
                have cz := kp_cell (j := 1) (v := .slice none 0 0) KN6.out rfl
                go_upto_region 6 with fail
                have KN7 : Hid (Kp w _ G (.cells #[.slice A p f, .slice A5 t1 f5] 24)) := hid (kp_set (j := 1) (v := .slice A5 t1 f5) KN6.out)
                have g3 := set_grown W6 G 1 (.slice A5 t1 f5)
                have KR7 := hid (kp_gr KR6.out g3 (Nat.ne_of_lt HNN.out.1) HGW.out)
                have KQ7 := hid (kq_other (j := 1) (v := .slice A5 t1 f5) KQ6.out HN1.out)
                have N7 := hid (N6'.out.off g3 (no_two KN6.out.2.2) PM1.out)
                have N8 : Hid (NRun _ A5 t1 f5 (jnl c.b1 d.b1)) := hid (by have h := N7.out; rw [← FM1.out, jl_yes FV1.out] at h; exact h)
                have XA7 := hid (XA6.out.off g3 (no_two KN6.out.2.2) PJ0.out)
                clear fz cz g3
                generalize (W6.setCell ⟨G, 1, none⟩ (.slice A5 t1 f5)) = W7 at KN7 KR7 KQ7 N7 N8 XA7 ⊢
                go_wp2
                go_roundw
                case rel => exact ⟨KQ7, KR7, .inr (.inr ⟨by go_num, A, p, f, A5, t1, f5, KN7, XA7, N8, J0⟩)⟩
                case measure => simp [intOf]
          · skip
            have hle : c.n + d.n ≤ 1099511627776 := by have := jn_le J0.out; rw [CA.out.2.1.2.1, CB.out.2.1.2.1] at this; exact this
            have HMD := hid (md_join CA.out CB.out hle)
            have HLE := hid hle
            clear hle
            have HMC : Hid (mdC 2 (c.n + d.n) (jnl c.b0 d.b0) (jnl c.b1 d.b1) = C) := hid (HMD.out.2.trans hC.out)
            have HMV : Hid (mdB 2 (c.n + d.n) (jnl c.b0 d.b0) (jnl c.b1 d.b1) = v) := hid (HMD.out.1.trans hv.out)
            have HPC : Hid (Pos C.b0 ∧ Pos C.b1) := hid (by rw [← hC.out]; exact cjC_pos _ _ _)
            obtain ⟨e0, e1⟩ := box_two KN.out.2.2
            obtain ⟨_, x0, x1, x2, x3, x4, y0, y1, y2, y3, y4⟩ := KQ.out.ten (Below.refl _ _)
            go_wp2_with (first
              | (go_at_call 53; refine (made_m 2 (c.n + d.n) (jnl c.b0 d.b0) (jnl c.b1 d.b1) _ _ _ _ _ _ C v _ XA.out XB.out (jnl_ok CA.out.2.1.1 CB.out.2.1.1 (by rw [CA.out.2.1.2.1, CB.out.2.1.2.1]; exact HLE.out) HK.out.2.2.2.1 HK2.out.2.2.2.1) (jnl_ok (cg_two1 CA.out).1 (cg_two1 CB.out).1 (by rw [(cg_two1 CA.out).2.1, (cg_two1 CB.out).2.1]; exact HLE.out) HK.out.2.2.2.2 HK2.out.2.2.2.2) (jnl_bag CA.out.2.1.1 CB.out.2.1.1 (by rw [CA.out.2.1.2.1, CB.out.2.1.2.1]; exact HLE.out)) (jnl_bag (cg_two1 CA.out).1 (cg_two1 CB.out).1 (by rw [(cg_two1 CA.out).2.1, (cg_two1 CB.out).2.1]; exact HLE.out)) (by have := HLE.out; unfold I64; omega) (.inr rfl) HMC HMV).mono ?_; rintro e w7 ⟨⟨a7, p7, k7, a8, p8, k8, rfl, hcw, hs7, hs8⟩, hb7⟩; have KR7 := hid (KR.out.step hb7); have CW7 := hid hcw; clear hcw hb7 hs7 hs8 e0 e1 x0 x1 x2 x3 x4 y0 y1 y2 y3 y4)
              | (refine wpList_store_whole rfl 36 (.tmp 6) (.tmp 50) rfl N2 (rcC C.n C.s0 C.s1 a7 p7 k7 a8 p8 k8 v) rfl rfl 36 _ KR7.out.2.2 rfl (by show _ = some 6; exact size_rc) (rcC_one _ _ _ _ _ _ _ _ _ _) ?_; intro w9 hp9 hg9; have KR9 := hid (kp_at KR7.out hg9 hp9); have CW9 := hid (CW7.out.off hg9 (no_six KR7.out.2.2) HPC.out); clear hp9 hg9))
            (try simp only [Exit.inBlock, Exit.then])
            show bodyPost Try.prog Try.f24 _ _ _ _
            refine bodyPost_ret (results_cell_row (p := 6) rfl _ _ N2 _ (rcC C.n C.s0 C.s1 a7 p7 k7 a8 p8 k8 v) (0, 0) _ rfl KR9.out.2.2 Try.underlying36 rfl (by kernel_rfl)) rfl ?_
            exact ⟨⟨_, _, _, _, _, _, rfl, CW9.out⟩, KR9.out.1⟩

end Go.Proofs.Ytjkkajhjcinalaa

/-
  -
  -
  Conditions: as each theorem states them.
-/
import Derived.Test.YtjkkajhjcinalaaQAD
import Derived.Test.YtjkkajhjcinalaaQAF
namespace Go.Proofs.Ytjkkajhjcinalaa
open Go.ChangeShapes Go.WideShapes Go.ChangeAt Go.RowKit
set_option linter.unusedVariables false
set_option linter.unusedSimpArgs false
set_option maxRecDepth 100000

theorem dg_r0 {m : Int} {d : Dl} (h : nt d.n d.s0 d.i0 d.o0 = false) : dg m d = false := by unfold dg; rw [h]; rfl
theorem dg_one {d : Dl} (h : nt d.n d.s0 d.i0 d.o0 = true) : dg 1 d = (decide (d.s1 = 0) && (d.i1.isEmpty && d.o1.isEmpty)) := by unfold dg; rw [h]; simp
theorem dg_two2 {d : Dl} (h : nt d.n d.s0 d.i0 d.o0 = true) : dg 2 d = nt d.n d.s1 d.i1 d.o1 := by unfold dg; rw [h]; simp
theorem len_pos {p : Nat} {l : List Rn} (h : p = l.length) : l.isEmpty = !decide (0 < p) := by
  cases l with
  | nil => subst h; rfl
  | cons x l => subst h; simp
set_option maxHeartbeats 32000000 in
theorem dgood_m (m : Int) (d : Dl) (a0 : Option Addr) (a1 a2 : Nat) (a3 : Option Addr) (a4 a5 : Nat) (a6 : Option Addr) (a7 a8 : Nat) (a9 : Option Addr) (a10 a11 : Nat) (v : Bool) (w : World) (hw : DW w a0 a1 a2 a3 a4 a5 a6 a7 a8 a9 a10 a11 d) (hk : okd d) (hp : shd d) (hv : Hid (dg m d = v)) :
    Calls Try.prog 38 #[.int .i64 m, (.agg #[.int .i64 d.n, .int .i64 d.s0, .int .i64 d.s1, .slice a0 a1 a2, .slice a3 a4 a5, .slice a6 a7 a8, .slice a9 a10 a11])] w fun e w' => e = .returned (.bool v) ∧ Below w.heap.size w w' := by
  have h := hv.out
  subst h
  clear hv
  have HW := hid hw
  have HK := hid hk
  have HP : Hid ((a1 ≤ 1000 ∧ a4 ≤ 1000) ∧ a7 ≤ 1000 ∧ a10 ≤ 1000) := hid (by have h1 := hw.1.1.lens.1; have h2 := hw.1.2.lens.1; have h3 := hw.2.1.lens.1; have h4 := hw.2.2.lens.1; have h5 := hp.1.1; have h6 := hp.1.2; have h7 := hp.2.1; have h8 := hp.2.2; omega)
  have E1 := hid (And.intro hw.1.2.lens.1 hw.2.2.lens.1)
  clear hw hk hp
  have i0 : ∀ w, (Instr.index 24 (.agg #[.slice a0 a1 a2, .slice a3 a4 a5]) (.int .i64 0)).run Try.prog w = .ok (.slice a0 a1 a2) w := fun _ => by kernel_rfl
  have i1 : ∀ w, (Instr.index 24 (.agg #[.slice a0 a1 a2, .slice a3 a4 a5]) (.int .i64 1)).run Try.prog w = .ok (.slice a3 a4 a5) w := fun _ => by kernel_rfl
  have KA := hid (kp_new w (.cells #[.int .i64 d.n, .int .i64 d.s0, .int .i64 d.s1, .slice a0 a1 a2, .slice a3 a4 a5, .slice a6 a7 a8, .slice a9 a10 a11] 68))
  by_cases hm : m = 1 ∨ m = 2
  · have HM : Hid ((decide (m = 1) || decide (m = 2)) = true) := hid (by simp only [Bool.or_eq_true, decide_eq_true_iff]; exact hm)
    obtain ⟨V0, e0⟩ : ∃ x, nt d.n d.s0 d.i0 d.o0 = x := ⟨_, rfl⟩
    have EV0 := hid e0
    clear e0
    have m0 : (0 : Int) < m := by omega
    have m0d : decide ((0 : Int) < m) = true := decide_eq_true m0
    have m0f : decide (m ≤ (0 : Int)) = false := decide_eq_false (by omega)
    go_enter Try.func38, Try.ntmps38
    go_upto_region 1 with fail
    generalize w.alloc (.cells #[.int .i64 d.n, .int .i64 d.s0, .int .i64 d.s1, .slice a0 a1 a2, .slice a3 a4 a5, .slice a6 a7 a8, .slice a9 a10 a11] 68) = W at KA ⊢
    obtain ⟨N, hN⟩ : ∃ y, w.heap.size = y := ⟨_, rfl⟩
    rw [hN] at KA ⊢
    have HN := hid hN
    clear hN
    go_upto_region 4 with ((go_at_call 75; refine (dmeas_m _ true _ HM).mono ?_; rintro e w1 ⟨rfl, hb1⟩; replace KA := hid (KA.out.step hb1); clear hb1); have c3 := kp_cell (j := 3) (v := .slice a0 a1 a2) KA.out rfl; have c4 := kp_cell (j := 4) (v := .slice a3 a4 a5) KA.out rfl)
    clear c3 c4
    rename World => W1
    refine wp_loop_rounds 3 ?_
    rw [rounds_succ]
    have c5 := kp_cell (j := 5) (v := .slice a6 a7 a8) KA.out rfl
    have c6 := kp_cell (j := 6) (v := .slice a9 a10 a11) KA.out rfl
    cases V0 with
    | false =>
      go_wp2
      have KS : Hid (∀ y, Below W1.heap.size W1 y → (fun y => Below W1.heap.size W1 y ∧ y.cell? ⟨N, 0, none⟩ = some (.int .i64 d.n) ∧ y.cell? ⟨N, 1, none⟩ = some (.int .i64 d.s0)) y) := hid (fun y hb => ⟨hb, kp_cell (j := 0) (v := .int .i64 d.n) (KA.out.step hb) rfl, kp_cell (j := 1) (v := .int .i64 d.s0) (KA.out.step hb) rfl⟩)
      refine wp_region_noPanic ?_
      refine wp_region_held_drew (S := fun y => Below W1.heap.size W1 y ∧ y.cell? ⟨N, 0, none⟩ = some (.int .i64 d.n) ∧ y.cell? ⟨N, 1, none⟩ = some (.int .i64 d.s0)) (by kernel_rfl) (KS.out _ (bdrew (Below.refl _ _))) (fun hHeld => ?_)
      refine tk 0 (v := ?_) ?_ ?_
      rotate_left
      · intro w hSw; (try dsimp only at hSw); go_simp; (try with_reducible rfl)
      try simp only [Act.put, List.setIfInBounds_toArray, List.set_cons_zero, List.set_cons_succ]
      refine tk 1 (v := ?_) ?_ ?_
      rotate_left
      · intro w hSw; (try dsimp only at hSw); go_simp; (try with_reducible rfl)
      try simp only [Act.put, List.setIfInBounds_toArray, List.set_cons_zero, List.set_cons_succ]
      refine tk 2 (v := ?_) ?_ ?_
      rotate_left
      · intro w hSw; (try dsimp only at hSw); go_simp; (try with_reducible rfl)
      try simp only [Act.put, List.setIfInBounds_toArray, List.set_cons_zero, List.set_cons_succ]
      refine tk 3 (v := ?_) ?_ ?_
      rotate_left
      · intro w hSw; (try dsimp only at hSw); go_simp; (try with_reducible rfl)
      try simp only [Act.put, List.setIfInBounds_toArray, List.set_cons_zero, List.set_cons_succ]
      refine tk 4 (v := ?_) ?_ ?_
      rotate_left
      · intro w hSw; (try dsimp only at hSw); go_simp; (try with_reducible rfl)
      try simp only [Act.put, List.setIfInBounds_toArray, List.set_cons_zero, List.set_cons_succ]
      refine tk 5 (v := ?_) ?_ ?_
      rotate_left
      · intro w hSw; (try dsimp only at hSw); go_simp; (try with_reducible rfl)
      try simp only [Act.put, List.setIfInBounds_toArray, List.set_cons_zero, List.set_cons_succ]
      refine tk 6 (v := ?_) ?_ ?_
      rotate_left
      · intro w hSw; (try dsimp only at hSw); go_simp; (try with_reducible rfl)
      try simp only [Act.put, List.setIfInBounds_toArray, List.set_cons_zero, List.set_cons_succ]
      refine tk 7 (v := ?_) ?_ ?_
      rotate_left
      · intro w hSw; (try dsimp only at hSw); go_simp; (try with_reducible rfl)
      try simp only [Act.put, List.setIfInBounds_toArray, List.set_cons_zero, List.set_cons_succ]
      refine tk 8 (v := ?_) ?_ ?_
      rotate_left
      · intro w hSw; (try dsimp only at hSw); go_simp; (try with_reducible rfl)
      try simp only [Act.put, List.setIfInBounds_toArray, List.set_cons_zero, List.set_cons_succ]
      refine tk 9 (v := ?_) ?_ ?_
      rotate_left
      · intro w hSw; (try dsimp only at hSw); go_simp; (try with_reducible rfl)
      try simp only [Act.put, List.setIfInBounds_toArray, List.set_cons_zero, List.set_cons_succ]
      refine tk 10 (v := ?_) ?_ ?_
      rotate_left
      · intro w hSw; (try dsimp only at hSw); go_simp; (try with_reducible rfl)
      try simp only [Act.put, List.setIfInBounds_toArray, List.set_cons_zero, List.set_cons_succ]
      refine tk 11 (v := ?_) ?_ ?_
      rotate_left
      · intro w hSw; (try dsimp only at hSw); go_simp; (try with_reducible rfl)
      try simp only [Act.put, List.setIfInBounds_toArray, List.set_cons_zero, List.set_cons_succ]
      refine rd1 12 (fun K hK => ?_)
      go_simp
      go_at_call 80; refine (dreck_m _ _ _ _ _ _ _ _ d.i0 d.o0 false _ (HW.out.1.1.below (bt KA.out.1 hHeld.1)) (HW.out.2.1.below (bt KA.out.1 hHeld.1)) HK.out.2.1.1 HK.out.2.2.1 (by have := HP.out; omega) (by have := HP.out; omega) HK.out.1.2.1 EV0).mono ?_; rintro e x0 ⟨rfl, hbx0⟩
      refine hK.out _ _ (KS.out _ (bt hHeld.1 hbx0)) (fun hHeld2 => ?_)
      clear hK K hHeld; have hHeld := hHeld2; clear hHeld2
      try simp only [Act.put, List.setIfInBounds_toArray, List.set_cons_zero, List.set_cons_succ]
      refine tk 13 (v := ?_) ?_ ?_
      rotate_left
      · intro w hSw; (try dsimp only at hSw); go_simp; (try with_reducible rfl)
      try simp only [Act.put, List.setIfInBounds_toArray, List.set_cons_zero, List.set_cons_succ]
      refine tk 14 (v := ?_) ?_ ?_
      rotate_left
      · intro w hSw; (try dsimp only at hSw); go_simp; (try with_reducible rfl)
      try simp only [Act.put, List.setIfInBounds_toArray, List.set_cons_zero, List.set_cons_succ]
      refine wpAnyH_done (by kernel_rfl) ?_ _
      refine NoPanic.normal ?_
      have B0 := hid (bt KA.out.1 hHeld.1)
      go_wp2
      go_ret
      rw [HN.out] at *
      exact ⟨ret_bool (dg_r0 EV0.out).symm, by have := B0.out; exact this⟩
    | true =>
      go_wp2
      have KS : Hid (∀ y, Below W1.heap.size W1 y → (fun y => Below W1.heap.size W1 y ∧ y.cell? ⟨N, 0, none⟩ = some (.int .i64 d.n) ∧ y.cell? ⟨N, 1, none⟩ = some (.int .i64 d.s0)) y) := hid (fun y hb => ⟨hb, kp_cell (j := 0) (v := .int .i64 d.n) (KA.out.step hb) rfl, kp_cell (j := 1) (v := .int .i64 d.s0) (KA.out.step hb) rfl⟩)
      refine wp_region_noPanic ?_
      refine wp_region_held_drew (S := fun y => Below W1.heap.size W1 y ∧ y.cell? ⟨N, 0, none⟩ = some (.int .i64 d.n) ∧ y.cell? ⟨N, 1, none⟩ = some (.int .i64 d.s0)) (by kernel_rfl) (KS.out _ (bdrew (Below.refl _ _))) (fun hHeld => ?_)
      refine tk 0 (v := ?_) ?_ ?_
      rotate_left
      · intro w hSw; (try dsimp only at hSw); go_simp; (try with_reducible rfl)
      try simp only [Act.put, List.setIfInBounds_toArray, List.set_cons_zero, List.set_cons_succ]
      refine tk 1 (v := ?_) ?_ ?_
      rotate_left
      · intro w hSw; (try dsimp only at hSw); go_simp; (try with_reducible rfl)
      try simp only [Act.put, List.setIfInBounds_toArray, List.set_cons_zero, List.set_cons_succ]
      refine tk 2 (v := ?_) ?_ ?_
      rotate_left
      · intro w hSw; (try dsimp only at hSw); go_simp; (try with_reducible rfl)
      try simp only [Act.put, List.setIfInBounds_toArray, List.set_cons_zero, List.set_cons_succ]
      refine tk 3 (v := ?_) ?_ ?_
      rotate_left
      · intro w hSw; (try dsimp only at hSw); go_simp; (try with_reducible rfl)
      try simp only [Act.put, List.setIfInBounds_toArray, List.set_cons_zero, List.set_cons_succ]
      refine tk 4 (v := ?_) ?_ ?_
      rotate_left
      · intro w hSw; (try dsimp only at hSw); go_simp; (try with_reducible rfl)
      try simp only [Act.put, List.setIfInBounds_toArray, List.set_cons_zero, List.set_cons_succ]
      refine tk 5 (v := ?_) ?_ ?_
      rotate_left
      · intro w hSw; (try dsimp only at hSw); go_simp; (try with_reducible rfl)
      try simp only [Act.put, List.setIfInBounds_toArray, List.set_cons_zero, List.set_cons_succ]
      refine tk 6 (v := ?_) ?_ ?_
      rotate_left
      · intro w hSw; (try dsimp only at hSw); go_simp; (try with_reducible rfl)
      try simp only [Act.put, List.setIfInBounds_toArray, List.set_cons_zero, List.set_cons_succ]
      refine tk 7 (v := ?_) ?_ ?_
      rotate_left
      · intro w hSw; (try dsimp only at hSw); go_simp; (try with_reducible rfl)
      try simp only [Act.put, List.setIfInBounds_toArray, List.set_cons_zero, List.set_cons_succ]
      refine tk 8 (v := ?_) ?_ ?_
      rotate_left
      · intro w hSw; (try dsimp only at hSw); go_simp; (try with_reducible rfl)
      try simp only [Act.put, List.setIfInBounds_toArray, List.set_cons_zero, List.set_cons_succ]
      refine tk 9 (v := ?_) ?_ ?_
      rotate_left
      · intro w hSw; (try dsimp only at hSw); go_simp; (try with_reducible rfl)
      try simp only [Act.put, List.setIfInBounds_toArray, List.set_cons_zero, List.set_cons_succ]
      refine tk 10 (v := ?_) ?_ ?_
      rotate_left
      · intro w hSw; (try dsimp only at hSw); go_simp; (try with_reducible rfl)
      try simp only [Act.put, List.setIfInBounds_toArray, List.set_cons_zero, List.set_cons_succ]
      refine tk 11 (v := ?_) ?_ ?_
      rotate_left
      · intro w hSw; (try dsimp only at hSw); go_simp; (try with_reducible rfl)
      try simp only [Act.put, List.setIfInBounds_toArray, List.set_cons_zero, List.set_cons_succ]
      refine rd1 12 (fun K hK => ?_)
      go_simp
      go_at_call 80; refine (dreck_m _ _ _ _ _ _ _ _ d.i0 d.o0 true _ (HW.out.1.1.below (bt KA.out.1 hHeld.1)) (HW.out.2.1.below (bt KA.out.1 hHeld.1)) HK.out.2.1.1 HK.out.2.2.1 (by have := HP.out; omega) (by have := HP.out; omega) HK.out.1.2.1 EV0).mono ?_; rintro e x0 ⟨rfl, hbx0⟩
      refine hK.out _ _ (KS.out _ (bt hHeld.1 hbx0)) (fun hHeld2 => ?_)
      clear hK K hHeld; have hHeld := hHeld2; clear hHeld2
      try simp only [Act.put, List.setIfInBounds_toArray, List.set_cons_zero, List.set_cons_succ]
      refine tk 13 (v := ?_) ?_ ?_
      rotate_left
      · intro w hSw; (try dsimp only at hSw); go_simp; (try with_reducible rfl)
      try simp only [Act.put, List.setIfInBounds_toArray, List.set_cons_zero, List.set_cons_succ]
      refine tk 14 (v := ?_) ?_ ?_
      rotate_left
      · intro w hSw; (try dsimp only at hSw); go_simp; (try with_reducible rfl)
      try simp only [Act.put, List.setIfInBounds_toArray, List.set_cons_zero, List.set_cons_succ]
      refine wpAnyH_done (by kernel_rfl) ?_ _
      refine NoPanic.normal ?_
      replace KA := hid (KA.out.step hHeld.1)
      clear hHeld KS hbx0 c5 c6
      have c5 := kp_cell (j := 5) (v := .slice a6 a7 a8) KA.out rfl
      have c6 := kp_cell (j := 6) (v := .slice a9 a10 a11) KA.out rfl
      go_wp2
      rw [rounds_succ]
      rcases hm with rfl | rfl
      · have E2 := hid (dg_one EV0.out)
        go_wp2
        have KS : Hid (∀ y, Below x0.heap.size x0 y → (fun y => Below x0.heap.size x0 y) y) := hid (fun y hb => hb)
        refine wp_region_noPanic ?_
        refine wp_region_held_drew (S := fun y => Below x0.heap.size x0 y) (by kernel_rfl) (KS.out _ (bdrew (Below.refl _ _))) (fun hHeld => ?_)
        refine tk 0 (v := ?_) ?_ ?_
        rotate_left
        · intro w hSw; (try dsimp only at hSw); go_simp; (try with_reducible rfl)
        try simp only [Act.put, List.setIfInBounds_toArray, List.set_cons_zero, List.set_cons_succ]
        refine tk 1 (v := ?_) ?_ ?_
        rotate_left
        · intro w hSw; (try dsimp only at hSw); go_simp; (try with_reducible rfl)
        try simp only [Act.put, List.setIfInBounds_toArray, List.set_cons_zero, List.set_cons_succ]
        refine tk 2 (v := ?_) ?_ ?_
        rotate_left
        · intro w hSw; (try dsimp only at hSw); go_simp; (try with_reducible rfl)
        try simp only [Act.put, List.setIfInBounds_toArray, List.set_cons_zero, List.set_cons_succ]
        refine tk 3 (v := ?_) ?_ ?_
        rotate_left
        · intro w hSw; (try dsimp only at hSw); go_simp; (try with_reducible rfl)
        try simp only [Act.put, List.setIfInBounds_toArray, List.set_cons_zero, List.set_cons_succ]
        refine tks 4 ?_
        try simp only [Act.put, List.setIfInBounds_toArray, List.set_cons_zero, List.set_cons_succ]
        refine tks 5 ?_
        try simp only [Act.put, List.setIfInBounds_toArray, List.set_cons_zero, List.set_cons_succ]
        refine tks 6 ?_
        try simp only [Act.put, List.setIfInBounds_toArray, List.set_cons_zero, List.set_cons_succ]
        refine tks 7 ?_
        try simp only [Act.put, List.setIfInBounds_toArray, List.set_cons_zero, List.set_cons_succ]
        refine tks 8 ?_
        try simp only [Act.put, List.setIfInBounds_toArray, List.set_cons_zero, List.set_cons_succ]
        refine tks 9 ?_
        try simp only [Act.put, List.setIfInBounds_toArray, List.set_cons_zero, List.set_cons_succ]
        refine tks 10 ?_
        try simp only [Act.put, List.setIfInBounds_toArray, List.set_cons_zero, List.set_cons_succ]
        refine tks 11 ?_
        try simp only [Act.put, List.setIfInBounds_toArray, List.set_cons_zero, List.set_cons_succ]
        refine tks 12 ?_
        try simp only [Act.put, List.setIfInBounds_toArray, List.set_cons_zero, List.set_cons_succ]
        refine tks 13 ?_
        try simp only [Act.put, List.setIfInBounds_toArray, List.set_cons_zero, List.set_cons_succ]
        refine tk 14 (v := ?_) ?_ ?_
        rotate_left
        · intro w hSw; (try dsimp only at hSw); go_simp; (try with_reducible rfl)
        try simp only [Act.put, List.setIfInBounds_toArray, List.set_cons_zero, List.set_cons_succ]
        refine wpAnyH_done (by kernel_rfl) ?_ _
        refine NoPanic.normal ?_
        have KA9 := hid (KA.out.step hHeld)
        clear hHeld KS
        have z2 := kp_cell (j := 2) (v := .int .i64 d.s1) KA9.out rfl
        by_cases hs : d.s1 = 0
        · have hsd : (d.s1 != 0) = false := by simp [hs]
          have HS := hid hs
          clear hs
          by_cases h1 : 0 < a4
          · have h1d : decide ((0 : Int) < (a4 : Int)) = true := decide_eq_true (by omega)
            have h1e : decide (0 < a4) = true := decide_eq_true h1
            have H1 := hid h1
            clear h1
            go_wp2
            go_ret
            exact ⟨ret_bool (by rw [E2.out, decide_eq_true HS.out, len_pos E1.out.1, decide_eq_true H1.out]; rfl), KA9.out.1⟩
          · have h1d : decide ((0 : Int) < (a4 : Int)) = false := decide_eq_false (by omega)
            have h1e : decide (0 < a4) = false := decide_eq_false h1
            have H1 := hid h1
            clear h1
            by_cases h2 : 0 < a10
            · have h2d : decide ((0 : Int) < (a10 : Int)) = true := decide_eq_true (by omega)
              have h2e : decide (0 < a10) = true := decide_eq_true h2
              have H2 := hid h2
              clear h2
              go_wp2
              go_ret
              exact ⟨ret_bool (by rw [E2.out, decide_eq_true HS.out, len_pos E1.out.1, len_pos E1.out.2, decide_eq_true H2.out]; simp), KA9.out.1⟩
            · have h2d : decide ((0 : Int) < (a10 : Int)) = false := decide_eq_false (by omega)
              have h2e : decide (0 < a10) = false := decide_eq_false h2
              have H2 := hid h2
              clear h2
              go_wp2
              rw [rounds_succ]
              go_wp2
              go_ret
              exact ⟨ret_bool (by rw [E2.out, decide_eq_true HS.out, len_pos E1.out.1, len_pos E1.out.2, decide_eq_false H1.out, decide_eq_false H2.out]; rfl), KA9.out.1⟩
        · have hsd : (d.s1 != 0) = true := by simp [hs]
          have HS := hid hs
          clear hs
          go_wp2
          go_ret
          exact ⟨ret_bool (by rw [E2.out, decide_eq_false HS.out]; rfl), KA9.out.1⟩
      · have E2 := hid (dg_two2 EV0.out)
        obtain ⟨V1, e1⟩ : ∃ x, nt d.n d.s1 d.i1 d.o1 = x := ⟨_, rfl⟩
        have EV1 := hid e1
        clear e1
        go_wp2
        have KS : Hid (∀ y, Below x0.heap.size x0 y → (fun y => Below x0.heap.size x0 y ∧ y.cell? ⟨N, 0, none⟩ = some (.int .i64 d.n) ∧ y.cell? ⟨N, 2, none⟩ = some (.int .i64 d.s1)) y) := hid (fun y hb => ⟨hb, kp_cell (j := 0) (v := .int .i64 d.n) (KA.out.step hb) rfl, kp_cell (j := 2) (v := .int .i64 d.s1) (KA.out.step hb) rfl⟩)
        refine wp_region_noPanic ?_
        refine wp_region_held_drew (S := fun y => Below x0.heap.size x0 y ∧ y.cell? ⟨N, 0, none⟩ = some (.int .i64 d.n) ∧ y.cell? ⟨N, 2, none⟩ = some (.int .i64 d.s1)) (by kernel_rfl) (KS.out _ (bdrew (Below.refl _ _))) (fun hHeld => ?_)
        refine tk 0 (v := ?_) ?_ ?_
        rotate_left
        · intro w hSw; (try dsimp only at hSw); go_simp; (try with_reducible rfl)
        try simp only [Act.put, List.setIfInBounds_toArray, List.set_cons_zero, List.set_cons_succ]
        refine tk 1 (v := ?_) ?_ ?_
        rotate_left
        · intro w hSw; (try dsimp only at hSw); go_simp; (try with_reducible rfl)
        try simp only [Act.put, List.setIfInBounds_toArray, List.set_cons_zero, List.set_cons_succ]
        refine tk 2 (v := ?_) ?_ ?_
        rotate_left
        · intro w hSw; (try dsimp only at hSw); go_simp; (try with_reducible rfl)
        try simp only [Act.put, List.setIfInBounds_toArray, List.set_cons_zero, List.set_cons_succ]
        refine tk 3 (v := ?_) ?_ ?_
        rotate_left
        · intro w hSw; (try dsimp only at hSw); go_simp; (try with_reducible rfl)
        try simp only [Act.put, List.setIfInBounds_toArray, List.set_cons_zero, List.set_cons_succ]
        refine tk 4 (v := ?_) ?_ ?_
        rotate_left
        · intro w hSw; (try dsimp only at hSw); go_simp; (try with_reducible rfl)
        try simp only [Act.put, List.setIfInBounds_toArray, List.set_cons_zero, List.set_cons_succ]
        refine tk 5 (v := ?_) ?_ ?_
        rotate_left
        · intro w hSw; (try dsimp only at hSw); go_simp; (try with_reducible rfl)
        try simp only [Act.put, List.setIfInBounds_toArray, List.set_cons_zero, List.set_cons_succ]
        refine tk 6 (v := ?_) ?_ ?_
        rotate_left
        · intro w hSw; (try dsimp only at hSw); go_simp; (try with_reducible rfl)
        try simp only [Act.put, List.setIfInBounds_toArray, List.set_cons_zero, List.set_cons_succ]
        refine tk 7 (v := ?_) ?_ ?_
        rotate_left
        · intro w hSw; (try dsimp only at hSw); go_simp; (try with_reducible rfl)
        try simp only [Act.put, List.setIfInBounds_toArray, List.set_cons_zero, List.set_cons_succ]
        refine tk 8 (v := ?_) ?_ ?_
        rotate_left
        · intro w hSw; (try dsimp only at hSw); go_simp; (try with_reducible rfl)
        try simp only [Act.put, List.setIfInBounds_toArray, List.set_cons_zero, List.set_cons_succ]
        refine tk 9 (v := ?_) ?_ ?_
        rotate_left
        · intro w hSw; (try dsimp only at hSw); go_simp; (try with_reducible rfl)
        try simp only [Act.put, List.setIfInBounds_toArray, List.set_cons_zero, List.set_cons_succ]
        refine tk 10 (v := ?_) ?_ ?_
        rotate_left
        · intro w hSw; (try dsimp only at hSw); go_simp; (try with_reducible rfl)
        try simp only [Act.put, List.setIfInBounds_toArray, List.set_cons_zero, List.set_cons_succ]
        refine tk 11 (v := ?_) ?_ ?_
        rotate_left
        · intro w hSw; (try dsimp only at hSw); go_simp; (try with_reducible rfl)
        try simp only [Act.put, List.setIfInBounds_toArray, List.set_cons_zero, List.set_cons_succ]
        refine rd1 12 (fun K hK => ?_)
        go_simp
        go_at_call 80; refine (dreck_m _ _ _ _ _ _ _ _ d.i1 d.o1 V1 _ (HW.out.1.2.below (bt KA.out.1 hHeld.1)) (HW.out.2.2.below (bt KA.out.1 hHeld.1)) HK.out.2.1.2 HK.out.2.2.2 (by have := HP.out; omega) (by have := HP.out; omega) HK.out.1.2.2 EV1).mono ?_; rintro e x1 ⟨rfl, hbx1⟩
        refine hK.out _ _ (KS.out _ (bt hHeld.1 hbx1)) (fun hHeld2 => ?_)
        clear hK K hHeld; have hHeld := hHeld2; clear hHeld2
        try simp only [Act.put, List.setIfInBounds_toArray, List.set_cons_zero, List.set_cons_succ]
        refine tk 13 (v := ?_) ?_ ?_
        rotate_left
        · intro w hSw; (try dsimp only at hSw); go_simp; (try with_reducible rfl)
        try simp only [Act.put, List.setIfInBounds_toArray, List.set_cons_zero, List.set_cons_succ]
        refine tk 14 (v := ?_) ?_ ?_
        rotate_left
        · intro w hSw; (try dsimp only at hSw); go_simp; (try with_reducible rfl)
        try simp only [Act.put, List.setIfInBounds_toArray, List.set_cons_zero, List.set_cons_succ]
        refine wpAnyH_done (by kernel_rfl) ?_ _
        refine NoPanic.normal ?_
        replace KA := hid (KA.out.step hHeld.1)
        clear hHeld KS hbx1 c5 c6
        cases V1 with
        | false =>
          go_wp2
          go_ret
          exact ⟨ret_bool (by rw [E2.out, EV1.out]), KA.out.1⟩
        | true =>
          go_wp2
          rw [rounds_succ]
          go_wp2
          go_ret
          exact ⟨ret_bool (by rw [E2.out, EV1.out]), KA.out.1⟩
  · rw [dg_not d hm]
    have HM : Hid ((decide (m = 1) || decide (m = 2)) = false) := hid (by simp only [Bool.or_eq_false_iff, decide_eq_false_iff_not]; omega)
    go_enter Try.func38, Try.ntmps38
    go_upto_region 1 with fail
    generalize w.alloc (.cells #[.int .i64 d.n, .int .i64 d.s0, .int .i64 d.s1, .slice a0 a1 a2, .slice a3 a4 a5, .slice a6 a7 a8, .slice a9 a10 a11] 68) = W at KA ⊢
    obtain ⟨N, hN⟩ : ∃ y, w.heap.size = y := ⟨_, rfl⟩
    rw [hN] at KA ⊢
    have HN := hid hN
    clear hN
    go_wp2_with (go_at_call 75; refine (dmeas_m _ false _ HM).mono ?_; rintro e w1 ⟨rfl, hb1⟩; replace KA := hid (KA.out.step hb1); clear hb1)
    go_ret
    exact ⟨rfl, KA.out.1⟩

set_option maxHeartbeats 8000000 in
theorem didle_m (m : Int) (d : Dl) (a0 : Option Addr) (a1 a2 : Nat) (a3 : Option Addr) (a4 a5 : Nat) (a6 : Option Addr) (a7 a8 : Nat) (a9 : Option Addr) (a10 a11 : Nat) (v : Bool) (w : World) (hw : DW w a0 a1 a2 a3 a4 a5 a6 a7 a8 a9 a10 a11 d) (hk : okd d) (hp : shd d) (hv : Hid (did m d = v)) :
    Calls Try.prog 40 #[.int .i64 m, (.agg #[.int .i64 d.n, .int .i64 d.s0, .int .i64 d.s1, .slice a0 a1 a2, .slice a3 a4 a5, .slice a6 a7 a8, .slice a9 a10 a11])] w fun e w' => e = .returned (.bool v) ∧ Below w.heap.size w w' := by
  have h := hv.out
  subst h
  clear hv
  have HW := hid hw
  have HK := hid hk
  have HP := hid hp
  have KA := hid (kp_new w (.cells #[.int .i64 d.n, .int .i64 d.s0, .int .i64 d.s1, .slice a0 a1 a2, .slice a3 a4 a5, .slice a6 a7 a8, .slice a9 a10 a11] 68))
  clear hw hk hp
  obtain ⟨V, e0⟩ : ∃ x, dg m d = x := ⟨_, rfl⟩
  obtain ⟨U, e1⟩ : ∃ x, dsm d dl0 = x := ⟨_, rfl⟩
  have EV := hid e0
  have EU := hid e1
  have HD : Hid (did m d = (V && U)) := hid (by unfold did; rw [e0, e1])
  clear e0 e1
  cases V with
  | false =>
    go_enter Try.func40, Try.ntmps40
    go_upto_region 1 with fail
    generalize w.alloc (.cells #[.int .i64 d.n, .int .i64 d.s0, .int .i64 d.s1, .slice a0 a1 a2, .slice a3 a4 a5, .slice a6 a7 a8, .slice a9 a10 a11] 68) = W at KA ⊢
    obtain ⟨z0, z1, z2, z3, z4, z5, z6⟩ := box_seven KA.out.2.2
    go_wp2_with (go_at_call 38; refine (dgood_m _ d _ _ _ _ _ _ _ _ _ _ _ _ false _ (HW.out.below KA.out.1) HK.out HP.out EV).mono ?_; rintro e w1 ⟨rfl, hb1⟩; replace KA := hid (KA.out.step hb1); clear hb1)
    go_ret
    exact ⟨ret_bool (by rw [HD.out]; rfl), KA.out.1⟩
  | true =>
    go_enter Try.func40, Try.ntmps40
    go_upto_region 1 with fail
    generalize w.alloc (.cells #[.int .i64 d.n, .int .i64 d.s0, .int .i64 d.s1, .slice a0 a1 a2, .slice a3 a4 a5, .slice a6 a7 a8, .slice a9 a10 a11] 68) = W at KA ⊢
    obtain ⟨z0, z1, z2, z3, z4, z5, z6⟩ := box_seven KA.out.2.2
    go_wp2_with (first
      | (go_at_call 38; refine (dgood_m _ d _ _ _ _ _ _ _ _ _ _ _ _ true _ (HW.out.below KA.out.1) HK.out HP.out EV).mono ?_; rintro e w1 ⟨rfl, hb1⟩; replace KA := hid (KA.out.step hb1); clear hb1 z0 z1 z2 z3 z4 z5 z6; obtain ⟨z0, z1, z2, z3, z4, z5, z6⟩ := box_seven KA.out.2.2)
      | (go_at_call 44; refine (dsame_m d dl0 _ _ _ _ _ _ _ _ _ _ _ _ _ _ _ _ _ _ _ _ _ _ _ _ U _ (HW.out.below KA.out.1) (dw_0 _) EU).mono ?_; rintro e w2 ⟨rfl, hb2⟩; replace KA := hid (KA.out.step hb2); clear hb2))
    go_ret
    exact ⟨ret_bool (by rw [HD.out]; rfl), KA.out.1⟩

end Go.Proofs.Ytjkkajhjcinalaa

namespace Go.Proofs.Ytjkkajhjcinalaa
open Go.ChangeShapes Go.WideShapes Go.ChangeAt Go.RowKit
set_option linter.unusedVariables false
set_option linter.unusedSimpArgs false
set_option maxRecDepth 100000

theorem eqWd (p q : Bool) (a b x y : Int) (w : World) (n : Nat) : (Op.equalIn (n + 2) 121 (.agg #[.bool p, .int .u64 a, .int .u64 b]) (.agg #[.bool q, .int .u64 x, .int .u64 y])).run Try.prog w = .ok (p == q && (a == x && b == y)) w := by
  have u3 := Try.underlying119
  have a3 := Try.isAgg119
  have z3 := Try.sizeOf119
  have u4 := Try.underlying4
  have a4 := Try.isAgg4
  have z4 := Try.sizeOf4
  rw [show n + 2 = (n + 1) + 1 from rfl, Op.equalIn]
  simp only [Sem.run_bind, run_underlying Try.underlying121, Result.andThen_ok]
  have hs : Try.prog.stoodInHeld 121 = false := by kernel_rfl
  have hp : Sem.run Try.prog program w = .ok Try.prog w := rfl
  simp only [hp, Result.andThen_ok, hs, Bool.false_eq_true, if_false, Sem.run_bind]
  simp only [← Array.forIn_toList, List.forIn_cons, List.forIn_nil]
  go_simp
  by_cases h0 : p = q <;> by_cases h1 : a = x <;> by_cases h2 : b = y <;> simp [h0, h1, h2]
def qwd (p q : Bool) (a b x y : Int) : Bool := p == q && (a == x && b == y)
theorem eqWd2 (p q : Bool) (a b x y : Int) (w : World) : (Op.equalIn 10000 121 (.agg #[.bool p, .int .u64 a, .int .u64 b]) (.agg #[.bool q, .int .u64 x, .int .u64 y])).run Try.prog w = .ok (qwd p q a b x y) w := eqWd p q a b x y w 9998
theorem qwd_dec (X s : Int) : qwd (calc.ng X) (calc.ng s) (calc.hi (calc.sz X)) (calc.lo (calc.sz X)) (calc.hi (calc.sz s)) (calc.lo (calc.sz s)) = decide (X = s) := by
  by_cases h : X = s
  · subst h; unfold qwd; simp
  · rw [decide_eq_false h]
    cases e : qwd (calc.ng X) (calc.ng s) (calc.hi (calc.sz X)) (calc.lo (calc.sz X)) (calc.hi (calc.sz s)) (calc.lo (calc.sz s)) with
    | false => rfl
    | true =>
      unfold qwd at e
      simp only [Bool.and_eq_true, beq_iff_eq] at e
      exact absurd (calc.sz_inj e.1 e.2.1 e.2.2) h
theorem wofd_m (a : Int) (p : Bool) (x y : Int) (w : World) (ha : I64 a) (hp : Hid (calc.ng a = p)) (hx : Hid (calc.hi (calc.sz a) = x)) (hy : Hid (calc.lo (calc.sz a) = y)) :
    Calls Try.prog 62 #[.int .i64 a] w fun e w' => e = .returned (.agg #[.bool p, .int .u64 x, .int .u64 y]) ∧ Below w.heap.size w w' := by
  have := calc.of_any a w ha
  rw [hp.out, hx.out, hy.out] at this
  exact this
theorem rwide_n (a1 a2 : Option Addr) (n c m d : Nat) (l u : List Rn) (X : Int) (p : Bool) (x y : Int) (w : World) (hl : NRun w a1 n c l) (hu : NRun w a2 m d u) (hk : ∀ r ∈ l, nok r) (hk' : ∀ r ∈ u, nok r) (bl : Bag l) (bu : Bag u) (hX : Hid (wsum l - wsum u = X)) (hp : Hid (calc.ng X = p)) (hx : Hid (calc.hi (calc.sz X) = x)) (hy : Hid (calc.lo (calc.sz X) = y)) :
    Calls Try.prog 82 #[.slice a1 n c, .slice a2 m d] w fun e w' => e = .returned (.agg #[.bool p, .int .u64 x, .int .u64 y]) ∧ Below w.heap.size w w' := by
  have := rwide_m a1 a2 n c m d l u X w hl hu hk hk' bl bu hX
  unfold wvC at this
  rw [hp.out, hx.out, hy.out] at this
  exact this
theorem dg_n0 {m : Int} {d : Dl} (h : ¬ (-1099511627776 ≤ d.n ∧ d.n ≤ 1099511627776)) : dg m d = false := dg_no (fun g => h (dg_n g))
theorem dg_r1 {d : Dl} (h : nt d.n d.s1 d.i1 d.o1 = false) : dg 2 d = false := dg_no (fun g => by
  rcases g.2 with ⟨e, _⟩ | ⟨_, k⟩
  · cases e
  · rw [nt_yes k] at h; cases h)
theorem nt_tot {n s : Int} {i o : List Rn} (h : ¬ tot i - tot o = n) : nt n s i o = false := nt_no (fun g => h g.2.2.1)
theorem nt_has {n s : Int} {i o : List Rn} {k : Nat} {r : Rn} (hr : i[k]? = some r) (h : 0 < cn r.1 o) : nt n s i o = false := nt_no (fun g => by
  have := (apt_iff g.1.2.1).1 g.2.2.2.2 r (List.mem_of_getElem? hr)
  omega)
theorem nt_rest {n s : Int} {i o : List Rn} (h1 : Bag i) (h2 : Bag o) (ht : tot i - tot o = n) (ha : ∀ (k : Nat) (r : Rn), i[k]? = some r → cn r.1 o ≤ 0) : nt n s i o = decide (wsum i - wsum o = s) := by
  have e : apt i o = true := (apt_iff h1.2.1).2 (fun r hr => by
    obtain ⟨k, hk⟩ := List.mem_iff_getElem?.1 hr
    exact ha k r hk)
  unfold nt
  rw [gd_yes h1, gd_yes h2, decide_eq_true ht, e]
  simp

set_option maxHeartbeats 64000000 in
theorem rdgood_m (m : Int) (d : Dl) (a0 : Option Addr) (a1 a2 : Nat) (a3 : Option Addr) (a4 a5 : Nat) (a6 : Option Addr) (a7 a8 : Nat) (a9 : Option Addr) (a10 a11 : Nat) (v : Bool) (w : World) (hw : DW w a0 a1 a2 a3 a4 a5 a6 a7 a8 a9 a10 a11 d) (hk : okd d) (hv : Hid (dg m d = v)) :
    Calls Try.prog 39 #[.int .i64 m, (.agg #[.int .i64 d.n, .int .i64 d.s0, .int .i64 d.s1, .slice a0 a1 a2, .slice a3 a4 a5, .slice a6 a7 a8, .slice a9 a10 a11])] w fun e w' => e = .returned (.bool v) ∧ Below w.heap.size w w' := by
  have h := hv.out
  subst h
  clear hv
  have HW := hid hw
  have HK := hid hk
  have eqw := eqWd2
  clear hw hk
  have KA := hid (kp_new w (.cells #[.int .i64 d.n, .int .i64 d.s0, .int .i64 d.s1, .slice a0 a1 a2, .slice a3 a4 a5, .slice a6 a7 a8, .slice a9 a10 a11] 68))
  by_cases hm : m = 1 ∨ m = 2
  · have q1 : decide (m < 1) = false := decide_eq_false (by omega)
    have q2 : decide (2 < m) = false := decide_eq_false (by omega)
    by_cases hn : -1099511627776 ≤ d.n ∧ d.n ≤ 1099511627776
    · have q3 : decide (d.n < -1099511627776) = false := decide_eq_false (by omega)
      have q4 : decide (1099511627776 < d.n) = false := decide_eq_false (by omega)
      have m0 : (0 : Int) < m := by omega
      have m0f : decide (m ≤ (0 : Int)) = false := decide_eq_false (by omega)
      clear hn
      go_enter Try.func39, Try.ntmps39
      go_upto_region 1 with fail
      generalize w.alloc (.cells #[.int .i64 d.n, .int .i64 d.s0, .int .i64 d.s1, .slice a0 a1 a2, .slice a3 a4 a5, .slice a6 a7 a8, .slice a9 a10 a11] 68) = W at KA ⊢
      obtain ⟨N, hN⟩ : ∃ y, w.heap.size = y := ⟨_, rfl⟩
      rw [hN] at KA ⊢
      have HN := hid hN
      clear hN
      have c0 := kp_cell (j := 0) (v := .int .i64 d.n) KA.out rfl
      go_upto_region 4 with fail
      clear c0
      refine wp_loop_rounds 3 ?_
      rw [rounds_succ]
      go_wp2
      go_wp2
      have c3 := kp_cell (j := 3) (v := .slice a0 a1 a2) KA.out rfl
      have c5 := kp_cell (j := 5) (v := .slice a6 a7 a8) KA.out rfl
      go_quiet (fail)
      replace KA : Hid (Kp w (W.drewN nq) N (.cells #[.int .i64 d.n, .int .i64 d.s0, .int .i64 d.s1, .slice a0 a1 a2, .slice a3 a4 a5, .slice a6 a7 a8, .slice a9 a10 a11] 68)) := hid (KA.out.step (bdrewN (Below.refl _ _)))
      clear c3 c5
      generalize W.drewN nq = Wa0 at KA ⊢
      obtain ⟨G0, hG0⟩ : ∃ x, gd d.i0 = x := ⟨_, rfl⟩
      obtain ⟨E0, hE0⟩ : ∃ x, gd d.o0 = x := ⟨_, rfl⟩
      have HG0 := hid hG0
      have HE0 := hid hE0
      clear hG0 hE0
      go_wp2
      cases G0 with
      | false =>
        have KS : Hid (∀ y, Below Wa0.heap.size Wa0 y → (fun y => Below Wa0.heap.size Wa0 y ∧ y.cell? ⟨N, 0, none⟩ = some (.int .i64 d.n)) y) := hid (fun y hb => ⟨hb, kp_cell (j := 0) (v := .int .i64 d.n) (KA.out.step hb) rfl⟩)
        refine wp_region_noPanic ?_
        refine wp_region_held_drew (S := fun y => Below Wa0.heap.size Wa0 y ∧ y.cell? ⟨N, 0, none⟩ = some (.int .i64 d.n)) (by kernel_rfl) (KS.out _ (bdrew (Below.refl _ _))) (fun hHeld => ?_)
        refine tk 0 (v := ?_) ?_ ?_
        rotate_left
        · intro w hSw; (try dsimp only at hSw); go_simp; (try with_reducible rfl)
        try simp only [Act.put, List.setIfInBounds_toArray, List.set_cons_zero, List.set_cons_succ]
        refine rd1 1 (fun K hK => ?_)
        go_simp
        go_at_call 59; refine (rgood_m _ _ _ d.i0 false _ (HW.out.1.1.below (bt KA.out.1 hHeld.1)) HK.out.2.1.1 HG0).mono ?_; rintro e x0 ⟨rfl, hbx0⟩
        refine hK.out _ _ (KS.out _ (bt hHeld.1 hbx0)) (fun hHeld2 => ?_)
        clear hK K hHeld; have hHeld := hHeld2; clear hHeld2
        try simp only [Act.put, List.setIfInBounds_toArray, List.set_cons_zero, List.set_cons_succ]
        refine tk 2 (v := ?_) ?_ ?_
        rotate_left
        · intro w hSw; (try dsimp only at hSw); go_simp; (try with_reducible rfl)
        try simp only [Act.put, List.setIfInBounds_toArray, List.set_cons_zero, List.set_cons_succ]
        refine tk 3 (v := ?_) ?_ ?_
        rotate_left
        · intro w hSw; (try dsimp only at hSw); go_simp; (try with_reducible rfl)
        try simp only [Act.put, List.setIfInBounds_toArray, List.set_cons_zero, List.set_cons_succ]
        refine tks 4 ?_
        try simp only [Act.put, List.setIfInBounds_toArray, List.set_cons_zero, List.set_cons_succ]
        refine tks 5 ?_
        try simp only [Act.put, List.setIfInBounds_toArray, List.set_cons_zero, List.set_cons_succ]
        refine tks 6 ?_
        try simp only [Act.put, List.setIfInBounds_toArray, List.set_cons_zero, List.set_cons_succ]
        refine tk 7 (v := ?_) ?_ ?_
        rotate_left
        · intro w hSw; (try dsimp only at hSw); go_simp; (try with_reducible rfl)
        try simp only [Act.put, List.setIfInBounds_toArray, List.set_cons_zero, List.set_cons_succ]
        refine tk 8 (v := ?_) ?_ ?_
        rotate_left
        · intro w hSw; (try dsimp only at hSw); go_simp; (try with_reducible rfl)
        try simp only [Act.put, List.setIfInBounds_toArray, List.set_cons_zero, List.set_cons_succ]
        refine tks 9 ?_
        try simp only [Act.put, List.setIfInBounds_toArray, List.set_cons_zero, List.set_cons_succ]
        refine tks 10 ?_
        try simp only [Act.put, List.setIfInBounds_toArray, List.set_cons_zero, List.set_cons_succ]
        refine tks 11 ?_
        try simp only [Act.put, List.setIfInBounds_toArray, List.set_cons_zero, List.set_cons_succ]
        refine tks 12 ?_
        try simp only [Act.put, List.setIfInBounds_toArray, List.set_cons_zero, List.set_cons_succ]
        refine tks 13 ?_
        try simp only [Act.put, List.setIfInBounds_toArray, List.set_cons_zero, List.set_cons_succ]
        refine tks 14 ?_
        try simp only [Act.put, List.setIfInBounds_toArray, List.set_cons_zero, List.set_cons_succ]
        refine tks 15 ?_
        try simp only [Act.put, List.setIfInBounds_toArray, List.set_cons_zero, List.set_cons_succ]
        refine tks 16 ?_
        try simp only [Act.put, List.setIfInBounds_toArray, List.set_cons_zero, List.set_cons_succ]
        refine tk 17 (v := ?_) ?_ ?_
        rotate_left
        · intro w hSw; (try dsimp only at hSw); go_simp; (try with_reducible rfl)
        try simp only [Act.put, List.setIfInBounds_toArray, List.set_cons_zero, List.set_cons_succ]
        refine wpAnyH_done (by kernel_rfl) ?_ _
        refine NoPanic.normal ?_
        replace KA := hid (KA.out.step hHeld.1)
        go_wp2
        go_ret
        exact ⟨ret_bool ((dg_r0 (nt_no1 (.inl HG0.out))).symm), KA.out.1⟩
      | true =>
      cases E0 with
      | false =>
        have KS : Hid (∀ y, Below Wa0.heap.size Wa0 y → (fun y => Below Wa0.heap.size Wa0 y ∧ y.cell? ⟨N, 0, none⟩ = some (.int .i64 d.n)) y) := hid (fun y hb => ⟨hb, kp_cell (j := 0) (v := .int .i64 d.n) (KA.out.step hb) rfl⟩)
        refine wp_region_noPanic ?_
        refine wp_region_held_drew (S := fun y => Below Wa0.heap.size Wa0 y ∧ y.cell? ⟨N, 0, none⟩ = some (.int .i64 d.n)) (by kernel_rfl) (KS.out _ (bdrew (Below.refl _ _))) (fun hHeld => ?_)
        refine tk 0 (v := ?_) ?_ ?_
        rotate_left
        · intro w hSw; (try dsimp only at hSw); go_simp; (try with_reducible rfl)
        try simp only [Act.put, List.setIfInBounds_toArray, List.set_cons_zero, List.set_cons_succ]
        refine rd1 1 (fun K hK => ?_)
        go_simp
        go_at_call 59; refine (rgood_m _ _ _ d.i0 true _ (HW.out.1.1.below (bt KA.out.1 hHeld.1)) HK.out.2.1.1 HG0).mono ?_; rintro e x0 ⟨rfl, hbx0⟩
        refine hK.out _ _ (KS.out _ (bt hHeld.1 hbx0)) (fun hHeld2 => ?_)
        clear hK K hHeld; have hHeld := hHeld2; clear hHeld2
        try simp only [Act.put, List.setIfInBounds_toArray, List.set_cons_zero, List.set_cons_succ]
        refine tk 2 (v := ?_) ?_ ?_
        rotate_left
        · intro w hSw; (try dsimp only at hSw); go_simp; (try with_reducible rfl)
        try simp only [Act.put, List.setIfInBounds_toArray, List.set_cons_zero, List.set_cons_succ]
        refine tk 3 (v := ?_) ?_ ?_
        rotate_left
        · intro w hSw; (try dsimp only at hSw); go_simp; (try with_reducible rfl)
        try simp only [Act.put, List.setIfInBounds_toArray, List.set_cons_zero, List.set_cons_succ]
        refine tk 4 (v := ?_) ?_ ?_
        rotate_left
        · intro w hSw; (try dsimp only at hSw); go_simp; (try with_reducible rfl)
        try simp only [Act.put, List.setIfInBounds_toArray, List.set_cons_zero, List.set_cons_succ]
        refine rd1 5 (fun K hK => ?_)
        go_simp
        go_at_call 59; refine (rgood_m _ _ _ d.o0 false _ (HW.out.2.1.below (bt KA.out.1 hHeld.1)) HK.out.2.2.1 HE0).mono ?_; rintro e y0 ⟨rfl, hby0⟩
        refine hK.out _ _ (KS.out _ (bt hHeld.1 hby0)) (fun hHeld2 => ?_)
        clear hK K hHeld; have hHeld := hHeld2; clear hHeld2
        try simp only [Act.put, List.setIfInBounds_toArray, List.set_cons_zero, List.set_cons_succ]
        refine tk 6 (v := ?_) ?_ ?_
        rotate_left
        · intro w hSw; (try dsimp only at hSw); go_simp; (try with_reducible rfl)
        try simp only [Act.put, List.setIfInBounds_toArray, List.set_cons_zero, List.set_cons_succ]
        refine tk 7 (v := ?_) ?_ ?_
        rotate_left
        · intro w hSw; (try dsimp only at hSw); go_simp; (try with_reducible rfl)
        try simp only [Act.put, List.setIfInBounds_toArray, List.set_cons_zero, List.set_cons_succ]
        refine tk 8 (v := ?_) ?_ ?_
        rotate_left
        · intro w hSw; (try dsimp only at hSw); go_simp; (try with_reducible rfl)
        try simp only [Act.put, List.setIfInBounds_toArray, List.set_cons_zero, List.set_cons_succ]
        refine tks 9 ?_
        try simp only [Act.put, List.setIfInBounds_toArray, List.set_cons_zero, List.set_cons_succ]
        refine tks 10 ?_
        try simp only [Act.put, List.setIfInBounds_toArray, List.set_cons_zero, List.set_cons_succ]
        refine tks 11 ?_
        try simp only [Act.put, List.setIfInBounds_toArray, List.set_cons_zero, List.set_cons_succ]
        refine tks 12 ?_
        try simp only [Act.put, List.setIfInBounds_toArray, List.set_cons_zero, List.set_cons_succ]
        refine tks 13 ?_
        try simp only [Act.put, List.setIfInBounds_toArray, List.set_cons_zero, List.set_cons_succ]
        refine tks 14 ?_
        try simp only [Act.put, List.setIfInBounds_toArray, List.set_cons_zero, List.set_cons_succ]
        refine tks 15 ?_
        try simp only [Act.put, List.setIfInBounds_toArray, List.set_cons_zero, List.set_cons_succ]
        refine tks 16 ?_
        try simp only [Act.put, List.setIfInBounds_toArray, List.set_cons_zero, List.set_cons_succ]
        refine tk 17 (v := ?_) ?_ ?_
        rotate_left
        · intro w hSw; (try dsimp only at hSw); go_simp; (try with_reducible rfl)
        try simp only [Act.put, List.setIfInBounds_toArray, List.set_cons_zero, List.set_cons_succ]
        refine wpAnyH_done (by kernel_rfl) ?_ _
        refine NoPanic.normal ?_
        replace KA := hid (KA.out.step hHeld.1)
        go_wp2
        go_ret
        exact ⟨ret_bool ((dg_r0 (nt_no1 (.inr HE0.out))).symm), KA.out.1⟩
      | true =>
      have BI0 := hid (gd_iff.1 HG0.out)
      have BO0 := hid (gd_iff.1 HE0.out)
      obtain ⟨ti0, hti0⟩ : ∃ x, tl d.i0 = x := ⟨_, rfl⟩
      obtain ⟨tu0, htu0⟩ : ∃ x, tl d.o0 = x := ⟨_, rfl⟩
      have TI0 := hid hti0
      have TU0 := hid htu0
      rw [tl_yes BI0.out] at hti0
      rw [tl_yes BO0.out] at htu0
      have r1 := tot_nn BI0.out.2.1
      have r2 := BI0.out.2.2
      have r3 := tot_nn BO0.out.2.1
      have r4 := BO0.out.2.2
      rw [hti0] at r1 r2
      rw [htu0] at r3 r4
      have wsub0 : IntKind.i64.wrap (ti0 - tu0) = ti0 - tu0 := IntWalk.i64_in _ (by omega)
      have TT0 : Hid (tot d.i0 - tot d.o0 = ti0 - tu0) := hid (by rw [hti0, htu0])
      clear hti0 htu0 r1 r2 r3 r4
      obtain ⟨q0, hq0⟩ : ∃ x, ((ti0 - tu0) != d.n) = x := ⟨_, rfl⟩
      have HQ0 := hid hq0
      have KS : Hid (∀ y, Below Wa0.heap.size Wa0 y → (fun y => Below Wa0.heap.size Wa0 y ∧ y.cell? ⟨N, 0, none⟩ = some (.int .i64 d.n)) y) := hid (fun y hb => ⟨hb, kp_cell (j := 0) (v := .int .i64 d.n) (KA.out.step hb) rfl⟩)
      refine wp_region_noPanic ?_
      refine wp_region_held_drew (S := fun y => Below Wa0.heap.size Wa0 y ∧ y.cell? ⟨N, 0, none⟩ = some (.int .i64 d.n)) (by kernel_rfl) (KS.out _ (bdrew (Below.refl _ _))) (fun hHeld => ?_)
      refine tk 0 (v := ?_) ?_ ?_
      rotate_left
      · intro w hSw; (try dsimp only at hSw); go_simp; (try with_reducible rfl)
      try simp only [Act.put, List.setIfInBounds_toArray, List.set_cons_zero, List.set_cons_succ]
      refine rd1 1 (fun K hK => ?_)
      go_simp
      go_at_call 59; refine (rgood_m _ _ _ d.i0 true _ (HW.out.1.1.below (bt KA.out.1 hHeld.1)) HK.out.2.1.1 HG0).mono ?_; rintro e x0 ⟨rfl, hbx0⟩
      refine hK.out _ _ (KS.out _ (bt hHeld.1 hbx0)) (fun hHeld2 => ?_)
      clear hK K hHeld; have hHeld := hHeld2; clear hHeld2
      try simp only [Act.put, List.setIfInBounds_toArray, List.set_cons_zero, List.set_cons_succ]
      refine tk 2 (v := ?_) ?_ ?_
      rotate_left
      · intro w hSw; (try dsimp only at hSw); go_simp; (try with_reducible rfl)
      try simp only [Act.put, List.setIfInBounds_toArray, List.set_cons_zero, List.set_cons_succ]
      refine tk 3 (v := ?_) ?_ ?_
      rotate_left
      · intro w hSw; (try dsimp only at hSw); go_simp; (try with_reducible rfl)
      try simp only [Act.put, List.setIfInBounds_toArray, List.set_cons_zero, List.set_cons_succ]
      refine tk 4 (v := ?_) ?_ ?_
      rotate_left
      · intro w hSw; (try dsimp only at hSw); go_simp; (try with_reducible rfl)
      try simp only [Act.put, List.setIfInBounds_toArray, List.set_cons_zero, List.set_cons_succ]
      refine rd1 5 (fun K hK => ?_)
      go_simp
      go_at_call 59; refine (rgood_m _ _ _ d.o0 true _ (HW.out.2.1.below (bt KA.out.1 hHeld.1)) HK.out.2.2.1 HE0).mono ?_; rintro e y0 ⟨rfl, hby0⟩
      refine hK.out _ _ (KS.out _ (bt hHeld.1 hby0)) (fun hHeld2 => ?_)
      clear hK K hHeld; have hHeld := hHeld2; clear hHeld2
      try simp only [Act.put, List.setIfInBounds_toArray, List.set_cons_zero, List.set_cons_succ]
      refine tk 6 (v := ?_) ?_ ?_
      rotate_left
      · intro w hSw; (try dsimp only at hSw); go_simp; (try with_reducible rfl)
      try simp only [Act.put, List.setIfInBounds_toArray, List.set_cons_zero, List.set_cons_succ]
      refine tk 7 (v := ?_) ?_ ?_
      rotate_left
      · intro w hSw; (try dsimp only at hSw); go_simp; (try with_reducible rfl)
      try simp only [Act.put, List.setIfInBounds_toArray, List.set_cons_zero, List.set_cons_succ]
      refine tk 8 (v := ?_) ?_ ?_
      rotate_left
      · intro w hSw; (try dsimp only at hSw); go_simp; (try with_reducible rfl)
      try simp only [Act.put, List.setIfInBounds_toArray, List.set_cons_zero, List.set_cons_succ]
      refine tk 9 (v := ?_) ?_ ?_
      rotate_left
      · intro w hSw; (try dsimp only at hSw); go_simp; (try with_reducible rfl)
      try simp only [Act.put, List.setIfInBounds_toArray, List.set_cons_zero, List.set_cons_succ]
      refine tk 11 (v := ?_) ?_ ?_
      rotate_left
      · intro w hSw; (try dsimp only at hSw); go_simp; (try with_reducible rfl)
      try simp only [Act.put, List.setIfInBounds_toArray, List.set_cons_zero, List.set_cons_succ]
      refine tk 14 (v := ?_) ?_ ?_
      rotate_left
      · intro w hSw; (try dsimp only at hSw); go_simp; (try with_reducible rfl)
      try simp only [Act.put, List.setIfInBounds_toArray, List.set_cons_zero, List.set_cons_succ]
      refine tk 15 (v := ?_) ?_ ?_
      rotate_left
      · intro w hSw; (try dsimp only at hSw); go_simp; (try with_reducible rfl)
      try simp only [Act.put, List.setIfInBounds_toArray, List.set_cons_zero, List.set_cons_succ]
      refine rd1 10 (fun K hK => ?_)
      go_simp
      go_at_call 60; refine (rcount_m _ _ _ d.i0 ti0 _ (HW.out.1.1.below (bt KA.out.1 hHeld.1)) HK.out.2.1.1 TI0).mono ?_; rintro e u0 ⟨rfl, hbu0⟩
      refine hK.out _ _ (KS.out _ (bt hHeld.1 hbu0)) (fun hHeld2 => ?_)
      clear hK K hHeld; have hHeld := hHeld2; clear hHeld2
      try simp only [Act.put, List.setIfInBounds_toArray, List.set_cons_zero, List.set_cons_succ]
      refine rd1 12 (fun K hK => ?_)
      go_simp
      go_at_call 60; refine (rcount_m _ _ _ d.o0 tu0 _ (HW.out.2.1.below (bt KA.out.1 hHeld.1)) HK.out.2.2.1 TU0).mono ?_; rintro e v0 ⟨rfl, hbv0⟩
      refine hK.out _ _ (KS.out _ (bt hHeld.1 hbv0)) (fun hHeld2 => ?_)
      clear hK K hHeld; have hHeld := hHeld2; clear hHeld2
      try simp only [Act.put, List.setIfInBounds_toArray, List.set_cons_zero, List.set_cons_succ]
      refine tk 13 (v := ?_) ?_ ?_
      rotate_left
      · intro w hSw; (try dsimp only at hSw); go_simp; (try with_reducible rfl)
      try simp only [Act.put, List.setIfInBounds_toArray, List.set_cons_zero, List.set_cons_succ]
      refine tk 16 (v := ?_) ?_ ?_
      rotate_left
      · intro w hSw; (try dsimp only at hSw); go_simp; (try with_reducible rfl)
      try simp only [Act.put, List.setIfInBounds_toArray, List.set_cons_zero, List.set_cons_succ]
      refine tk 17 (v := ?_) ?_ ?_
      rotate_left
      · intro w hSw; (try dsimp only at hSw); go_simp; (try with_reducible rfl)
      try simp only [Act.put, List.setIfInBounds_toArray, List.set_cons_zero, List.set_cons_succ]
      refine wpAnyH_done (by kernel_rfl) ?_ _
      refine NoPanic.normal ?_
      replace KA := hid (KA.out.step hHeld.1)
      clear hHeld KS hbx0 hby0 hbu0 hbv0 hq0 wsub0
      by_cases ht0 : ti0 - tu0 = d.n
      case neg =>
        have e : q0 = true := by rw [← HQ0.out]; simp [ht0]
        subst e
        go_wp2
        go_ret
        exact ⟨ret_bool ((dg_r0 (nt_tot (by rw [TT0.out]; exact ht0))).symm), KA.out.1⟩
      case pos =>
      have e : q0 = false := by rw [← HQ0.out]; simp [ht0]
      subst e
      have HT0 : Hid (tot d.i0 - tot d.o0 = d.n) := hid (TT0.out.trans ht0)
      clear ht0
      have le0 := HW.out.1.1.lens.2
      have q17 : True := trivial
      clear q17
      have la0 : (0 : Int) ≤ ((a1 : Nat) : Int) := by omega
      go_wp2
      go_loopw [8] (fun kk wr => ∃ (k : Nat), k ≤ a1 ∧ kk = .int .i64 k ∧ Hid (∀ t q, t < k → d.i0[t]? = some q → cn q.1 d.o0 ≤ 0) ∧ Hid (Kp w wr N (.cells #[.int .i64 d.n, .int .i64 d.s0, .int .i64 d.s1, .slice a0 a1 a2, .slice a3 a4 a5, .slice a6 a7 a8, .slice a9 a10 a11] 68))) (fun kk _ => a1 - (intOf kk).toNat)
      case atStart => exact ⟨0, by omega, rfl, hid (fun t q ht => by omega), KA⟩
      case round =>
        obtain ⟨k, hkn, rfl, HF, KA⟩ := hrel
        have hk0 : (0 : Int) ≤ (k : Int) := by omega
        by_cases hlt : k < a1
        · have hki : (k : Int) < (a1 : Int) := by omega
          obtain ⟨b, off, x0, x1, rfl, hb, hr, p0, p1⟩ := HW.out.1.1.pick KA.out.1 hlt
          have HR := hid hr
          obtain ⟨C, hC⟩ : ∃ C, cn x0 d.o0 = C := ⟨_, rfl⟩
          have QC := hid hC
          have HC : Hid (hs x0 d.o0 = C) := hid (by rw [hs_yes HE0.out, hC])
          clear hr hC p1
          by_cases hp : 0 < C
          · have hpd : decide (0 < C) = true := decide_eq_true hp
            have HP := hid hp
            clear hp
            go_wp2_with (go_at_call 81; refine (rhas_m _ _ _ d.o0 x0 C _ (HW.out.2.1.below KA.out.1) HK.out.2.2.1 HC).mono ?_; rintro e w1 ⟨rfl, hb1⟩; replace KA := hid (KA.out.step hb1); clear hb1)
            go_ret
            exact ⟨ret_bool ((dg_r0 (nt_has HR.out (by rw [QC.out]; exact HP.out))).symm), KA.out.1⟩
          · have hpd : decide (0 < C) = false := decide_eq_false hp
            have HP := hid hp
            clear hp
            go_wp2_with (go_at_call 81; refine (rhas_m _ _ _ d.o0 x0 C _ (HW.out.2.1.below KA.out.1) HK.out.2.2.1 HC).mono ?_; rintro e w1 ⟨rfl, hb1⟩; replace KA := hid (KA.out.step hb1); clear hb1)
            go_roundw
            case rel =>
              refine ⟨k + 1, by omega, by go_num, hid (fun t q ht hq => ?_), KA⟩
              by_cases e : t = k
              · subst e
                rw [HR.out] at hq
                cases hq
                have := HP.out
                have := QC.out
                simp only
                omega
              · exact HF.out t q (by omega) hq
            case measure => simp [intOf]; omega
        · have hkf : decide ((k : Int) < (a1 : Int)) = false := decide_eq_false (by omega)
          obtain ⟨X, hX⟩ : ∃ y, wsum d.i0 - wsum d.o0 = y := ⟨_, rfl⟩
          obtain ⟨xp, ex1⟩ : ∃ y, calc.ng X = y := ⟨_, rfl⟩
          obtain ⟨xh, ex2⟩ : ∃ y, calc.hi (calc.sz X) = y := ⟨_, rfl⟩
          obtain ⟨xl, ex3⟩ : ∃ y, calc.lo (calc.sz X) = y := ⟨_, rfl⟩
          obtain ⟨yp, ey1⟩ : ∃ y, calc.ng d.s0 = y := ⟨_, rfl⟩
          obtain ⟨yh, ey2⟩ : ∃ y, calc.hi (calc.sz d.s0) = y := ⟨_, rfl⟩
          obtain ⟨yl, ey3⟩ : ∃ y, calc.lo (calc.sz d.s0) = y := ⟨_, rfl⟩
          obtain ⟨Q, hq⟩ : ∃ y, qwd xp yp xh xl yh yl = y := ⟨_, rfl⟩
          have EQ : Hid (nt d.n d.s0 d.i0 d.o0 = Q) := hid (by
            rw [nt_rest BI0.out BO0.out HT0.out (fun t q hq => HF.out t q (by have := (List.getElem?_eq_some_iff.1 hq).1; have := HW.out.1.1.lens.1; omega) hq), hX, ← qwd_dec, ex1, ex2, ex3, ey1, ey2, ey3, hq])
          have XX := hid hX
          have X1 := hid ex1
          have X2 := hid ex2
          have X3 := hid ex3
          have Y1 := hid ey1
          have Y2 := hid ey2
          have Y3 := hid ey3
          clear hX ex1 ex2 ex3 ey1 ey2 ey3
          go_wp2
          have KS : Hid (∀ y, Below wr.heap.size wr y → (fun y => Below wr.heap.size wr y ∧ y.cell? ⟨N, 1, none⟩ = some (.int .i64 d.s0)) y) := hid (fun y hb => ⟨hb, kp_cell (j := 1) (v := .int .i64 d.s0) (KA.out.step hb) rfl⟩)
          refine wp_region_noPanic ?_
          refine wp_region_held_drew (S := fun y => Below wr.heap.size wr y ∧ y.cell? ⟨N, 1, none⟩ = some (.int .i64 d.s0)) (by kernel_rfl) (KS.out _ (bdrew (Below.refl _ _))) (fun hHeld => ?_)
          refine tk 0 (v := ?_) ?_ ?_
          rotate_left
          · intro w hSw; (try dsimp only at hSw); go_simp; (try with_reducible rfl)
          try simp only [Act.put, List.setIfInBounds_toArray, List.set_cons_zero, List.set_cons_succ]
          refine tk 1 (v := ?_) ?_ ?_
          rotate_left
          · intro w hSw; (try dsimp only at hSw); go_simp; (try with_reducible rfl)
          try simp only [Act.put, List.setIfInBounds_toArray, List.set_cons_zero, List.set_cons_succ]
          refine tk 3 (v := ?_) ?_ ?_
          rotate_left
          · intro w hSw; (try dsimp only at hSw); go_simp; (try with_reducible rfl)
          try simp only [Act.put, List.setIfInBounds_toArray, List.set_cons_zero, List.set_cons_succ]
          refine tk 4 (v := ?_) ?_ ?_
          rotate_left
          · intro w hSw; (try dsimp only at hSw); go_simp; (try with_reducible rfl)
          try simp only [Act.put, List.setIfInBounds_toArray, List.set_cons_zero, List.set_cons_succ]
          refine tk 5 (v := ?_) ?_ ?_
          rotate_left
          · intro w hSw; (try dsimp only at hSw); go_simp; (try with_reducible rfl)
          try simp only [Act.put, List.setIfInBounds_toArray, List.set_cons_zero, List.set_cons_succ]
          refine tk 6 (v := ?_) ?_ ?_
          rotate_left
          · intro w hSw; (try dsimp only at hSw); go_simp; (try with_reducible rfl)
          try simp only [Act.put, List.setIfInBounds_toArray, List.set_cons_zero, List.set_cons_succ]
          refine rd1 2 (fun K hK => ?_)
          go_simp
          go_at_call 82; refine (rwide_n _ _ _ _ _ _ d.i0 d.o0 X xp xh xl _ (HW.out.1.1.below (bt KA.out.1 hHeld.1)) (HW.out.2.1.below (bt KA.out.1 hHeld.1)) HK.out.2.1.1 HK.out.2.2.1 BI0.out BO0.out XX X1 X2 X3).mono ?_; rintro e z0 ⟨rfl, hbz⟩
          refine hK.out _ _ (KS.out _ (bt hHeld.1 hbz)) (fun hHeld2 => ?_)
          clear hK K hHeld; have hHeld := hHeld2; clear hHeld2
          try simp only [Act.put, List.setIfInBounds_toArray, List.set_cons_zero, List.set_cons_succ]
          refine rd1 7 (fun K hK => ?_)
          go_simp
          go_at_call 62; refine (wofd_m _ yp yh yl _ HK.out.1.2.1 Y1 Y2 Y3).mono ?_; rintro e u0 ⟨rfl, hbu⟩
          refine hK.out _ _ (KS.out _ (bt hHeld.1 hbu)) (fun hHeld2 => ?_)
          clear hK K hHeld; have hHeld := hHeld2; clear hHeld2
          try simp only [Act.put, List.setIfInBounds_toArray, List.set_cons_zero, List.set_cons_succ]
          refine tk 8 (v := ?_) ?_ ?_
          rotate_left
          · intro w hSw; (try dsimp only at hSw); go_simp; (try with_reducible rfl)
          try simp only [Act.put, List.setIfInBounds_toArray, List.set_cons_zero, List.set_cons_succ]
          refine wpAnyH_done (by kernel_rfl) ?_ _
          refine NoPanic.normal ?_
          replace KA := hid (KA.out.step hHeld.1)
          clear hHeld KS hbz hbu hq
          cases Q with
          | false =>
            go_wp2
            go_ret
            exact ⟨ret_bool ((dg_r0 (EQ.out)).symm), KA.out.1⟩
          | true =>
            go_wp2
            rw [rounds_succ]
            rcases hm with rfl | rfl
            · have E2 := hid (dg_one EQ.out)
              rename World => Wb
              go_wp2
              have c4 := kp_cell (j := 4) (v := .slice a3 a4 a5) KA.out rfl
              have c6 := kp_cell (j := 6) (v := .slice a9 a10 a11) KA.out rfl
              have c2 := kp_cell (j := 2) (v := .int .i64 d.s1) KA.out rfl
              go_quiet (fail)
              replace KA : Hid (Kp w (Wb.drewN nq) N (.cells #[.int .i64 d.n, .int .i64 d.s0, .int .i64 d.s1, .slice a0 a1 a2, .slice a3 a4 a5, .slice a6 a7 a8, .slice a9 a10 a11] 68)) := hid (KA.out.step (bdrewN (Below.refl _ _)))
              have E1 := hid (And.intro HW.out.1.2.lens.1 HW.out.2.2.lens.1)
              by_cases hs : d.s1 = 0
              · have hsd : (d.s1 != 0) = false := by simp [hs]
                have HS := hid hs
                clear hs
                by_cases h1 : 0 < a4
                · have h1d : decide ((0 : Int) < (a4 : Int)) = true := decide_eq_true (by omega)
                  have h1e : decide (0 < a4) = true := decide_eq_true h1
                  have H1 := hid h1
                  clear h1
                  go_wp2
                  go_ret
                  exact ⟨ret_bool (by rw [E2.out, decide_eq_true HS.out, len_pos E1.out.1, decide_eq_true H1.out]; rfl), KA.out.1⟩
                · have h1d : decide ((0 : Int) < (a4 : Int)) = false := decide_eq_false (by omega)
                  have h1e : decide (0 < a4) = false := decide_eq_false h1
                  have H1 := hid h1
                  clear h1
                  by_cases h2 : 0 < a10
                  · have h2d : decide ((0 : Int) < (a10 : Int)) = true := decide_eq_true (by omega)
                    have h2e : decide (0 < a10) = true := decide_eq_true h2
                    have H2 := hid h2
                    clear h2
                    go_wp2
                    go_ret
                    exact ⟨ret_bool (by rw [E2.out, decide_eq_true HS.out, len_pos E1.out.1, len_pos E1.out.2, decide_eq_true H2.out]; simp), KA.out.1⟩
                  · have h2d : decide ((0 : Int) < (a10 : Int)) = false := decide_eq_false (by omega)
                    have h2e : decide (0 < a10) = false := decide_eq_false h2
                    have H2 := hid h2
                    clear h2
                    go_wp2
                    rw [rounds_succ]
                    go_wp2
                    go_ret
                    exact ⟨ret_bool (by rw [E2.out, decide_eq_true HS.out, len_pos E1.out.1, len_pos E1.out.2, decide_eq_false H1.out, decide_eq_false H2.out]; rfl), KA.out.1⟩
              · have hsd : (d.s1 != 0) = true := by simp [hs]
                have HS := hid hs
                clear hs
                go_wp2
                go_ret
                exact ⟨ret_bool (by rw [E2.out, decide_eq_false HS.out]; rfl), KA.out.1⟩
            · have E2 := hid (dg_two2 EQ.out)
              rename World => Wb
              go_wp2
              have c4 := kp_cell (j := 4) (v := .slice a3 a4 a5) KA.out rfl
              have c6 := kp_cell (j := 6) (v := .slice a9 a10 a11) KA.out rfl
              go_quiet (fail)
              replace KA : Hid (Kp w (Wb.drewN nq) N (.cells #[.int .i64 d.n, .int .i64 d.s0, .int .i64 d.s1, .slice a0 a1 a2, .slice a3 a4 a5, .slice a6 a7 a8, .slice a9 a10 a11] 68)) := hid (KA.out.step (bdrewN (Below.refl _ _)))
              clear c4 c6
              generalize Wb.drewN nq = Wa1 at KA ⊢
              obtain ⟨G1, hG1⟩ : ∃ x, gd d.i1 = x := ⟨_, rfl⟩
              obtain ⟨E1, hE1⟩ : ∃ x, gd d.o1 = x := ⟨_, rfl⟩
              have HG1 := hid hG1
              have HE1 := hid hE1
              clear hG1 hE1
              go_wp2
              cases G1 with
              | false =>
                have KS : Hid (∀ y, Below Wa1.heap.size Wa1 y → (fun y => Below Wa1.heap.size Wa1 y ∧ y.cell? ⟨N, 0, none⟩ = some (.int .i64 d.n)) y) := hid (fun y hb => ⟨hb, kp_cell (j := 0) (v := .int .i64 d.n) (KA.out.step hb) rfl⟩)
                refine wp_region_noPanic ?_
                refine wp_region_held_drew (S := fun y => Below Wa1.heap.size Wa1 y ∧ y.cell? ⟨N, 0, none⟩ = some (.int .i64 d.n)) (by kernel_rfl) (KS.out _ (bdrew (Below.refl _ _))) (fun hHeld => ?_)
                refine tk 0 (v := ?_) ?_ ?_
                rotate_left
                · intro w hSw; (try dsimp only at hSw); go_simp; (try with_reducible rfl)
                try simp only [Act.put, List.setIfInBounds_toArray, List.set_cons_zero, List.set_cons_succ]
                refine rd1 1 (fun K hK => ?_)
                go_simp
                go_at_call 59; refine (rgood_m _ _ _ d.i1 false _ (HW.out.1.2.below (bt KA.out.1 hHeld.1)) HK.out.2.1.2 HG1).mono ?_; rintro e x1 ⟨rfl, hbx1⟩
                refine hK.out _ _ (KS.out _ (bt hHeld.1 hbx1)) (fun hHeld2 => ?_)
                clear hK K hHeld; have hHeld := hHeld2; clear hHeld2
                try simp only [Act.put, List.setIfInBounds_toArray, List.set_cons_zero, List.set_cons_succ]
                refine tk 2 (v := ?_) ?_ ?_
                rotate_left
                · intro w hSw; (try dsimp only at hSw); go_simp; (try with_reducible rfl)
                try simp only [Act.put, List.setIfInBounds_toArray, List.set_cons_zero, List.set_cons_succ]
                refine tk 3 (v := ?_) ?_ ?_
                rotate_left
                · intro w hSw; (try dsimp only at hSw); go_simp; (try with_reducible rfl)
                try simp only [Act.put, List.setIfInBounds_toArray, List.set_cons_zero, List.set_cons_succ]
                refine tks 4 ?_
                try simp only [Act.put, List.setIfInBounds_toArray, List.set_cons_zero, List.set_cons_succ]
                refine tks 5 ?_
                try simp only [Act.put, List.setIfInBounds_toArray, List.set_cons_zero, List.set_cons_succ]
                refine tks 6 ?_
                try simp only [Act.put, List.setIfInBounds_toArray, List.set_cons_zero, List.set_cons_succ]
                refine tk 7 (v := ?_) ?_ ?_
                rotate_left
                · intro w hSw; (try dsimp only at hSw); go_simp; (try with_reducible rfl)
                try simp only [Act.put, List.setIfInBounds_toArray, List.set_cons_zero, List.set_cons_succ]
                refine tk 8 (v := ?_) ?_ ?_
                rotate_left
                · intro w hSw; (try dsimp only at hSw); go_simp; (try with_reducible rfl)
                try simp only [Act.put, List.setIfInBounds_toArray, List.set_cons_zero, List.set_cons_succ]
                refine tks 9 ?_
                try simp only [Act.put, List.setIfInBounds_toArray, List.set_cons_zero, List.set_cons_succ]
                refine tks 10 ?_
                try simp only [Act.put, List.setIfInBounds_toArray, List.set_cons_zero, List.set_cons_succ]
                refine tks 11 ?_
                try simp only [Act.put, List.setIfInBounds_toArray, List.set_cons_zero, List.set_cons_succ]
                refine tks 12 ?_
                try simp only [Act.put, List.setIfInBounds_toArray, List.set_cons_zero, List.set_cons_succ]
                refine tks 13 ?_
                try simp only [Act.put, List.setIfInBounds_toArray, List.set_cons_zero, List.set_cons_succ]
                refine tks 14 ?_
                try simp only [Act.put, List.setIfInBounds_toArray, List.set_cons_zero, List.set_cons_succ]
                refine tks 15 ?_
                try simp only [Act.put, List.setIfInBounds_toArray, List.set_cons_zero, List.set_cons_succ]
                refine tks 16 ?_
                try simp only [Act.put, List.setIfInBounds_toArray, List.set_cons_zero, List.set_cons_succ]
                refine tk 17 (v := ?_) ?_ ?_
                rotate_left
                · intro w hSw; (try dsimp only at hSw); go_simp; (try with_reducible rfl)
                try simp only [Act.put, List.setIfInBounds_toArray, List.set_cons_zero, List.set_cons_succ]
                refine wpAnyH_done (by kernel_rfl) ?_ _
                refine NoPanic.normal ?_
                replace KA := hid (KA.out.step hHeld.1)
                go_wp2
                go_ret
                exact ⟨ret_bool ((dg_r1 (nt_no1 (.inl HG1.out))).symm), KA.out.1⟩
              | true =>
              cases E1 with
              | false =>
                have KS : Hid (∀ y, Below Wa1.heap.size Wa1 y → (fun y => Below Wa1.heap.size Wa1 y ∧ y.cell? ⟨N, 0, none⟩ = some (.int .i64 d.n)) y) := hid (fun y hb => ⟨hb, kp_cell (j := 0) (v := .int .i64 d.n) (KA.out.step hb) rfl⟩)
                refine wp_region_noPanic ?_
                refine wp_region_held_drew (S := fun y => Below Wa1.heap.size Wa1 y ∧ y.cell? ⟨N, 0, none⟩ = some (.int .i64 d.n)) (by kernel_rfl) (KS.out _ (bdrew (Below.refl _ _))) (fun hHeld => ?_)
                refine tk 0 (v := ?_) ?_ ?_
                rotate_left
                · intro w hSw; (try dsimp only at hSw); go_simp; (try with_reducible rfl)
                try simp only [Act.put, List.setIfInBounds_toArray, List.set_cons_zero, List.set_cons_succ]
                refine rd1 1 (fun K hK => ?_)
                go_simp
                go_at_call 59; refine (rgood_m _ _ _ d.i1 true _ (HW.out.1.2.below (bt KA.out.1 hHeld.1)) HK.out.2.1.2 HG1).mono ?_; rintro e x1 ⟨rfl, hbx1⟩
                refine hK.out _ _ (KS.out _ (bt hHeld.1 hbx1)) (fun hHeld2 => ?_)
                clear hK K hHeld; have hHeld := hHeld2; clear hHeld2
                try simp only [Act.put, List.setIfInBounds_toArray, List.set_cons_zero, List.set_cons_succ]
                refine tk 2 (v := ?_) ?_ ?_
                rotate_left
                · intro w hSw; (try dsimp only at hSw); go_simp; (try with_reducible rfl)
                try simp only [Act.put, List.setIfInBounds_toArray, List.set_cons_zero, List.set_cons_succ]
                refine tk 3 (v := ?_) ?_ ?_
                rotate_left
                · intro w hSw; (try dsimp only at hSw); go_simp; (try with_reducible rfl)
                try simp only [Act.put, List.setIfInBounds_toArray, List.set_cons_zero, List.set_cons_succ]
                refine tk 4 (v := ?_) ?_ ?_
                rotate_left
                · intro w hSw; (try dsimp only at hSw); go_simp; (try with_reducible rfl)
                try simp only [Act.put, List.setIfInBounds_toArray, List.set_cons_zero, List.set_cons_succ]
                refine rd1 5 (fun K hK => ?_)
                go_simp
                go_at_call 59; refine (rgood_m _ _ _ d.o1 false _ (HW.out.2.2.below (bt KA.out.1 hHeld.1)) HK.out.2.2.2 HE1).mono ?_; rintro e y1 ⟨rfl, hby1⟩
                refine hK.out _ _ (KS.out _ (bt hHeld.1 hby1)) (fun hHeld2 => ?_)
                clear hK K hHeld; have hHeld := hHeld2; clear hHeld2
                try simp only [Act.put, List.setIfInBounds_toArray, List.set_cons_zero, List.set_cons_succ]
                refine tk 6 (v := ?_) ?_ ?_
                rotate_left
                · intro w hSw; (try dsimp only at hSw); go_simp; (try with_reducible rfl)
                try simp only [Act.put, List.setIfInBounds_toArray, List.set_cons_zero, List.set_cons_succ]
                refine tk 7 (v := ?_) ?_ ?_
                rotate_left
                · intro w hSw; (try dsimp only at hSw); go_simp; (try with_reducible rfl)
                try simp only [Act.put, List.setIfInBounds_toArray, List.set_cons_zero, List.set_cons_succ]
                refine tk 8 (v := ?_) ?_ ?_
                rotate_left
                · intro w hSw; (try dsimp only at hSw); go_simp; (try with_reducible rfl)
                try simp only [Act.put, List.setIfInBounds_toArray, List.set_cons_zero, List.set_cons_succ]
                refine tks 9 ?_
                try simp only [Act.put, List.setIfInBounds_toArray, List.set_cons_zero, List.set_cons_succ]
                refine tks 10 ?_
                try simp only [Act.put, List.setIfInBounds_toArray, List.set_cons_zero, List.set_cons_succ]
                refine tks 11 ?_
                try simp only [Act.put, List.setIfInBounds_toArray, List.set_cons_zero, List.set_cons_succ]
                refine tks 12 ?_
                try simp only [Act.put, List.setIfInBounds_toArray, List.set_cons_zero, List.set_cons_succ]
                refine tks 13 ?_
                try simp only [Act.put, List.setIfInBounds_toArray, List.set_cons_zero, List.set_cons_succ]
                refine tks 14 ?_
                try simp only [Act.put, List.setIfInBounds_toArray, List.set_cons_zero, List.set_cons_succ]
                refine tks 15 ?_
                try simp only [Act.put, List.setIfInBounds_toArray, List.set_cons_zero, List.set_cons_succ]
                refine tks 16 ?_
                try simp only [Act.put, List.setIfInBounds_toArray, List.set_cons_zero, List.set_cons_succ]
                refine tk 17 (v := ?_) ?_ ?_
                rotate_left
                · intro w hSw; (try dsimp only at hSw); go_simp; (try with_reducible rfl)
                try simp only [Act.put, List.setIfInBounds_toArray, List.set_cons_zero, List.set_cons_succ]
                refine wpAnyH_done (by kernel_rfl) ?_ _
                refine NoPanic.normal ?_
                replace KA := hid (KA.out.step hHeld.1)
                go_wp2
                go_ret
                exact ⟨ret_bool ((dg_r1 (nt_no1 (.inr HE1.out))).symm), KA.out.1⟩
              | true =>
              have BI1 := hid (gd_iff.1 HG1.out)
              have BO1 := hid (gd_iff.1 HE1.out)
              obtain ⟨ti1, hti1⟩ : ∃ x, tl d.i1 = x := ⟨_, rfl⟩
              obtain ⟨tu1, htu1⟩ : ∃ x, tl d.o1 = x := ⟨_, rfl⟩
              have TI1 := hid hti1
              have TU1 := hid htu1
              rw [tl_yes BI1.out] at hti1
              rw [tl_yes BO1.out] at htu1
              have r1 := tot_nn BI1.out.2.1
              have r2 := BI1.out.2.2
              have r3 := tot_nn BO1.out.2.1
              have r4 := BO1.out.2.2
              rw [hti1] at r1 r2
              rw [htu1] at r3 r4
              have wsub1 : IntKind.i64.wrap (ti1 - tu1) = ti1 - tu1 := IntWalk.i64_in _ (by omega)
              have TT1 : Hid (tot d.i1 - tot d.o1 = ti1 - tu1) := hid (by rw [hti1, htu1])
              clear hti1 htu1 r1 r2 r3 r4
              obtain ⟨q1, hq1⟩ : ∃ x, ((ti1 - tu1) != d.n) = x := ⟨_, rfl⟩
              have HQ1 := hid hq1
              have KS : Hid (∀ y, Below Wa1.heap.size Wa1 y → (fun y => Below Wa1.heap.size Wa1 y ∧ y.cell? ⟨N, 0, none⟩ = some (.int .i64 d.n)) y) := hid (fun y hb => ⟨hb, kp_cell (j := 0) (v := .int .i64 d.n) (KA.out.step hb) rfl⟩)
              refine wp_region_noPanic ?_
              refine wp_region_held_drew (S := fun y => Below Wa1.heap.size Wa1 y ∧ y.cell? ⟨N, 0, none⟩ = some (.int .i64 d.n)) (by kernel_rfl) (KS.out _ (bdrew (Below.refl _ _))) (fun hHeld => ?_)
              refine tk 0 (v := ?_) ?_ ?_
              rotate_left
              · intro w hSw; (try dsimp only at hSw); go_simp; (try with_reducible rfl)
              try simp only [Act.put, List.setIfInBounds_toArray, List.set_cons_zero, List.set_cons_succ]
              refine rd1 1 (fun K hK => ?_)
              go_simp
              go_at_call 59; refine (rgood_m _ _ _ d.i1 true _ (HW.out.1.2.below (bt KA.out.1 hHeld.1)) HK.out.2.1.2 HG1).mono ?_; rintro e x1 ⟨rfl, hbx1⟩
              refine hK.out _ _ (KS.out _ (bt hHeld.1 hbx1)) (fun hHeld2 => ?_)
              clear hK K hHeld; have hHeld := hHeld2; clear hHeld2
              try simp only [Act.put, List.setIfInBounds_toArray, List.set_cons_zero, List.set_cons_succ]
              refine tk 2 (v := ?_) ?_ ?_
              rotate_left
              · intro w hSw; (try dsimp only at hSw); go_simp; (try with_reducible rfl)
              try simp only [Act.put, List.setIfInBounds_toArray, List.set_cons_zero, List.set_cons_succ]
              refine tk 3 (v := ?_) ?_ ?_
              rotate_left
              · intro w hSw; (try dsimp only at hSw); go_simp; (try with_reducible rfl)
              try simp only [Act.put, List.setIfInBounds_toArray, List.set_cons_zero, List.set_cons_succ]
              refine tk 4 (v := ?_) ?_ ?_
              rotate_left
              · intro w hSw; (try dsimp only at hSw); go_simp; (try with_reducible rfl)
              try simp only [Act.put, List.setIfInBounds_toArray, List.set_cons_zero, List.set_cons_succ]
              refine rd1 5 (fun K hK => ?_)
              go_simp
              go_at_call 59; refine (rgood_m _ _ _ d.o1 true _ (HW.out.2.2.below (bt KA.out.1 hHeld.1)) HK.out.2.2.2 HE1).mono ?_; rintro e y1 ⟨rfl, hby1⟩
              refine hK.out _ _ (KS.out _ (bt hHeld.1 hby1)) (fun hHeld2 => ?_)
              clear hK K hHeld; have hHeld := hHeld2; clear hHeld2
              try simp only [Act.put, List.setIfInBounds_toArray, List.set_cons_zero, List.set_cons_succ]
              refine tk 6 (v := ?_) ?_ ?_
              rotate_left
              · intro w hSw; (try dsimp only at hSw); go_simp; (try with_reducible rfl)
              try simp only [Act.put, List.setIfInBounds_toArray, List.set_cons_zero, List.set_cons_succ]
              refine tk 7 (v := ?_) ?_ ?_
              rotate_left
              · intro w hSw; (try dsimp only at hSw); go_simp; (try with_reducible rfl)
              try simp only [Act.put, List.setIfInBounds_toArray, List.set_cons_zero, List.set_cons_succ]
              refine tk 8 (v := ?_) ?_ ?_
              rotate_left
              · intro w hSw; (try dsimp only at hSw); go_simp; (try with_reducible rfl)
              try simp only [Act.put, List.setIfInBounds_toArray, List.set_cons_zero, List.set_cons_succ]
              refine tk 9 (v := ?_) ?_ ?_
              rotate_left
              · intro w hSw; (try dsimp only at hSw); go_simp; (try with_reducible rfl)
              try simp only [Act.put, List.setIfInBounds_toArray, List.set_cons_zero, List.set_cons_succ]
              refine tk 11 (v := ?_) ?_ ?_
              rotate_left
              · intro w hSw; (try dsimp only at hSw); go_simp; (try with_reducible rfl)
              try simp only [Act.put, List.setIfInBounds_toArray, List.set_cons_zero, List.set_cons_succ]
              refine tk 14 (v := ?_) ?_ ?_
              rotate_left
              · intro w hSw; (try dsimp only at hSw); go_simp; (try with_reducible rfl)
              try simp only [Act.put, List.setIfInBounds_toArray, List.set_cons_zero, List.set_cons_succ]
              refine tk 15 (v := ?_) ?_ ?_
              rotate_left
              · intro w hSw; (try dsimp only at hSw); go_simp; (try with_reducible rfl)
              try simp only [Act.put, List.setIfInBounds_toArray, List.set_cons_zero, List.set_cons_succ]
              refine rd1 10 (fun K hK => ?_)
              go_simp
              go_at_call 60; refine (rcount_m _ _ _ d.i1 ti1 _ (HW.out.1.2.below (bt KA.out.1 hHeld.1)) HK.out.2.1.2 TI1).mono ?_; rintro e u1 ⟨rfl, hbu1⟩
              refine hK.out _ _ (KS.out _ (bt hHeld.1 hbu1)) (fun hHeld2 => ?_)
              clear hK K hHeld; have hHeld := hHeld2; clear hHeld2
              try simp only [Act.put, List.setIfInBounds_toArray, List.set_cons_zero, List.set_cons_succ]
              refine rd1 12 (fun K hK => ?_)
              go_simp
              go_at_call 60; refine (rcount_m _ _ _ d.o1 tu1 _ (HW.out.2.2.below (bt KA.out.1 hHeld.1)) HK.out.2.2.2 TU1).mono ?_; rintro e v1 ⟨rfl, hbv1⟩
              refine hK.out _ _ (KS.out _ (bt hHeld.1 hbv1)) (fun hHeld2 => ?_)
              clear hK K hHeld; have hHeld := hHeld2; clear hHeld2
              try simp only [Act.put, List.setIfInBounds_toArray, List.set_cons_zero, List.set_cons_succ]
              refine tk 13 (v := ?_) ?_ ?_
              rotate_left
              · intro w hSw; (try dsimp only at hSw); go_simp; (try with_reducible rfl)
              try simp only [Act.put, List.setIfInBounds_toArray, List.set_cons_zero, List.set_cons_succ]
              refine tk 16 (v := ?_) ?_ ?_
              rotate_left
              · intro w hSw; (try dsimp only at hSw); go_simp; (try with_reducible rfl)
              try simp only [Act.put, List.setIfInBounds_toArray, List.set_cons_zero, List.set_cons_succ]
              refine tk 17 (v := ?_) ?_ ?_
              rotate_left
              · intro w hSw; (try dsimp only at hSw); go_simp; (try with_reducible rfl)
              try simp only [Act.put, List.setIfInBounds_toArray, List.set_cons_zero, List.set_cons_succ]
              refine wpAnyH_done (by kernel_rfl) ?_ _
              refine NoPanic.normal ?_
              replace KA := hid (KA.out.step hHeld.1)
              clear hHeld KS hbx1 hby1 hbu1 hbv1 hq1 wsub1
              by_cases ht1 : ti1 - tu1 = d.n
              case neg =>
                have e : q1 = true := by rw [← HQ1.out]; simp [ht1]
                subst e
                go_wp2
                go_ret
                exact ⟨ret_bool ((dg_r1 (nt_tot (by rw [TT1.out]; exact ht1))).symm), KA.out.1⟩
              case pos =>
              have e : q1 = false := by rw [← HQ1.out]; simp [ht1]
              subst e
              have HT1 : Hid (tot d.i1 - tot d.o1 = d.n) := hid (TT1.out.trans ht1)
              clear ht1
              have le1 := HW.out.1.2.lens.2
              have q17 : True := trivial
              clear q17
              have la1 : (0 : Int) ≤ ((a4 : Nat) : Int) := by omega
              go_wp2
              go_loopw [8] (fun kk wr => ∃ (k : Nat), k ≤ a4 ∧ kk = .int .i64 k ∧ Hid (∀ t q, t < k → d.i1[t]? = some q → cn q.1 d.o1 ≤ 0) ∧ Hid (Kp w wr N (.cells #[.int .i64 d.n, .int .i64 d.s0, .int .i64 d.s1, .slice a0 a1 a2, .slice a3 a4 a5, .slice a6 a7 a8, .slice a9 a10 a11] 68))) (fun kk _ => a4 - (intOf kk).toNat)
              case atStart => exact ⟨0, by omega, rfl, hid (fun t q ht => by omega), KA⟩
              case round =>
                obtain ⟨k, hkn, rfl, HF, KA⟩ := hrel
                have hk0 : (0 : Int) ≤ (k : Int) := by omega
                by_cases hlt : k < a4
                · have hki : (k : Int) < (a4 : Int) := by omega
                  obtain ⟨b, off, x0, x1, rfl, hb, hr, p0, p1⟩ := HW.out.1.2.pick KA.out.1 hlt
                  have HR := hid hr
                  obtain ⟨C, hC⟩ : ∃ C, cn x0 d.o1 = C := ⟨_, rfl⟩
                  have QC := hid hC
                  have HC : Hid (hs x0 d.o1 = C) := hid (by rw [hs_yes HE1.out, hC])
                  clear hr hC p1
                  by_cases hp : 0 < C
                  · have hpd : decide (0 < C) = true := decide_eq_true hp
                    have HP := hid hp
                    clear hp
                    go_wp2_with (go_at_call 81; refine (rhas_m _ _ _ d.o1 x0 C _ (HW.out.2.2.below KA.out.1) HK.out.2.2.2 HC).mono ?_; rintro e w1 ⟨rfl, hb1⟩; replace KA := hid (KA.out.step hb1); clear hb1)
                    go_ret
                    exact ⟨ret_bool ((dg_r1 (nt_has HR.out (by rw [QC.out]; exact HP.out))).symm), KA.out.1⟩
                  · have hpd : decide (0 < C) = false := decide_eq_false hp
                    have HP := hid hp
                    clear hp
                    go_wp2_with (go_at_call 81; refine (rhas_m _ _ _ d.o1 x0 C _ (HW.out.2.2.below KA.out.1) HK.out.2.2.2 HC).mono ?_; rintro e w1 ⟨rfl, hb1⟩; replace KA := hid (KA.out.step hb1); clear hb1)
                    go_roundw
                    case rel =>
                      refine ⟨k + 1, by omega, by go_num, hid (fun t q ht hq => ?_), KA⟩
                      by_cases e : t = k
                      · subst e
                        rw [HR.out] at hq
                        cases hq
                        have := HP.out
                        have := QC.out
                        simp only
                        omega
                      · exact HF.out t q (by omega) hq
                    case measure => simp [intOf]; omega
                · have hkf : decide ((k : Int) < (a4 : Int)) = false := decide_eq_false (by omega)
                  obtain ⟨X, hX⟩ : ∃ y, wsum d.i1 - wsum d.o1 = y := ⟨_, rfl⟩
                  obtain ⟨xp, ex1⟩ : ∃ y, calc.ng X = y := ⟨_, rfl⟩
                  obtain ⟨xh, ex2⟩ : ∃ y, calc.hi (calc.sz X) = y := ⟨_, rfl⟩
                  obtain ⟨xl, ex3⟩ : ∃ y, calc.lo (calc.sz X) = y := ⟨_, rfl⟩
                  obtain ⟨yp, ey1⟩ : ∃ y, calc.ng d.s1 = y := ⟨_, rfl⟩
                  obtain ⟨yh, ey2⟩ : ∃ y, calc.hi (calc.sz d.s1) = y := ⟨_, rfl⟩
                  obtain ⟨yl, ey3⟩ : ∃ y, calc.lo (calc.sz d.s1) = y := ⟨_, rfl⟩
                  obtain ⟨Q, hq⟩ : ∃ y, qwd xp yp xh xl yh yl = y := ⟨_, rfl⟩
                  have EQ : Hid (nt d.n d.s1 d.i1 d.o1 = Q) := hid (by
                    rw [nt_rest BI1.out BO1.out HT1.out (fun t q hq => HF.out t q (by have := (List.getElem?_eq_some_iff.1 hq).1; have := HW.out.1.2.lens.1; omega) hq), hX, ← qwd_dec, ex1, ex2, ex3, ey1, ey2, ey3, hq])
                  have XX := hid hX
                  have X1 := hid ex1
                  have X2 := hid ex2
                  have X3 := hid ex3
                  have Y1 := hid ey1
                  have Y2 := hid ey2
                  have Y3 := hid ey3
                  clear hX ex1 ex2 ex3 ey1 ey2 ey3
                  go_wp2
                  have KS : Hid (∀ y, Below wr.heap.size wr y → (fun y => Below wr.heap.size wr y ∧ y.cell? ⟨N, 2, none⟩ = some (.int .i64 d.s1)) y) := hid (fun y hb => ⟨hb, kp_cell (j := 2) (v := .int .i64 d.s1) (KA.out.step hb) rfl⟩)
                  refine wp_region_noPanic ?_
                  refine wp_region_held_drew (S := fun y => Below wr.heap.size wr y ∧ y.cell? ⟨N, 2, none⟩ = some (.int .i64 d.s1)) (by kernel_rfl) (KS.out _ (bdrew (Below.refl _ _))) (fun hHeld => ?_)
                  refine tk 0 (v := ?_) ?_ ?_
                  rotate_left
                  · intro w hSw; (try dsimp only at hSw); go_simp; (try with_reducible rfl)
                  try simp only [Act.put, List.setIfInBounds_toArray, List.set_cons_zero, List.set_cons_succ]
                  refine tk 1 (v := ?_) ?_ ?_
                  rotate_left
                  · intro w hSw; (try dsimp only at hSw); go_simp; (try with_reducible rfl)
                  try simp only [Act.put, List.setIfInBounds_toArray, List.set_cons_zero, List.set_cons_succ]
                  refine tk 3 (v := ?_) ?_ ?_
                  rotate_left
                  · intro w hSw; (try dsimp only at hSw); go_simp; (try with_reducible rfl)
                  try simp only [Act.put, List.setIfInBounds_toArray, List.set_cons_zero, List.set_cons_succ]
                  refine tk 4 (v := ?_) ?_ ?_
                  rotate_left
                  · intro w hSw; (try dsimp only at hSw); go_simp; (try with_reducible rfl)
                  try simp only [Act.put, List.setIfInBounds_toArray, List.set_cons_zero, List.set_cons_succ]
                  refine tk 5 (v := ?_) ?_ ?_
                  rotate_left
                  · intro w hSw; (try dsimp only at hSw); go_simp; (try with_reducible rfl)
                  try simp only [Act.put, List.setIfInBounds_toArray, List.set_cons_zero, List.set_cons_succ]
                  refine tk 6 (v := ?_) ?_ ?_
                  rotate_left
                  · intro w hSw; (try dsimp only at hSw); go_simp; (try with_reducible rfl)
                  try simp only [Act.put, List.setIfInBounds_toArray, List.set_cons_zero, List.set_cons_succ]
                  refine rd1 2 (fun K hK => ?_)
                  go_simp
                  go_at_call 82; refine (rwide_n _ _ _ _ _ _ d.i1 d.o1 X xp xh xl _ (HW.out.1.2.below (bt KA.out.1 hHeld.1)) (HW.out.2.2.below (bt KA.out.1 hHeld.1)) HK.out.2.1.2 HK.out.2.2.2 BI1.out BO1.out XX X1 X2 X3).mono ?_; rintro e z1 ⟨rfl, hbz⟩
                  refine hK.out _ _ (KS.out _ (bt hHeld.1 hbz)) (fun hHeld2 => ?_)
                  clear hK K hHeld; have hHeld := hHeld2; clear hHeld2
                  try simp only [Act.put, List.setIfInBounds_toArray, List.set_cons_zero, List.set_cons_succ]
                  refine rd1 7 (fun K hK => ?_)
                  go_simp
                  go_at_call 62; refine (wofd_m _ yp yh yl _ HK.out.1.2.2 Y1 Y2 Y3).mono ?_; rintro e u1 ⟨rfl, hbu⟩
                  refine hK.out _ _ (KS.out _ (bt hHeld.1 hbu)) (fun hHeld2 => ?_)
                  clear hK K hHeld; have hHeld := hHeld2; clear hHeld2
                  try simp only [Act.put, List.setIfInBounds_toArray, List.set_cons_zero, List.set_cons_succ]
                  refine tk 8 (v := ?_) ?_ ?_
                  rotate_left
                  · intro w hSw; (try dsimp only at hSw); go_simp; (try with_reducible rfl)
                  try simp only [Act.put, List.setIfInBounds_toArray, List.set_cons_zero, List.set_cons_succ]
                  refine wpAnyH_done (by kernel_rfl) ?_ _
                  refine NoPanic.normal ?_
                  replace KA := hid (KA.out.step hHeld.1)
                  clear hHeld KS hbz hbu hq
                  cases Q with
                  | false =>
                    go_wp2
                    go_ret
                    exact ⟨ret_bool ((dg_r1 (EQ.out)).symm), KA.out.1⟩
                  | true =>
                    go_wp2
                    rw [rounds_succ]
                    go_wp2
                    go_ret
                    exact ⟨ret_bool ((E2.out.trans EQ.out).symm), KA.out.1⟩
    · have HNN := hid hn
      by_cases h1 : d.n < -1099511627776
      · have q3 : decide (d.n < -1099511627776) = true := decide_eq_true h1
        clear h1 hn
        go_enter Try.func39, Try.ntmps39
        go_upto_region 1 with fail
        generalize w.alloc (.cells #[.int .i64 d.n, .int .i64 d.s0, .int .i64 d.s1, .slice a0 a1 a2, .slice a3 a4 a5, .slice a6 a7 a8, .slice a9 a10 a11] 68) = W at KA ⊢
        obtain ⟨N, hN⟩ : ∃ y, w.heap.size = y := ⟨_, rfl⟩
        rw [hN] at KA ⊢
        have HN := hid hN
        clear hN
        have c0 := kp_cell (j := 0) (v := .int .i64 d.n) KA.out rfl
        go_wp2
        go_ret
        exact ⟨ret_bool (dg_n0 HNN.out).symm, KA.out.1⟩
      · have q3 : decide (d.n < -1099511627776) = false := decide_eq_false h1
        have q4 : decide (1099511627776 < d.n) = true := decide_eq_true (by omega)
        clear h1 hn
        go_enter Try.func39, Try.ntmps39
        go_upto_region 1 with fail
        generalize w.alloc (.cells #[.int .i64 d.n, .int .i64 d.s0, .int .i64 d.s1, .slice a0 a1 a2, .slice a3 a4 a5, .slice a6 a7 a8, .slice a9 a10 a11] 68) = W at KA ⊢
        obtain ⟨N, hN⟩ : ∃ y, w.heap.size = y := ⟨_, rfl⟩
        rw [hN] at KA ⊢
        have HN := hid hN
        clear hN
        have c0 := kp_cell (j := 0) (v := .int .i64 d.n) KA.out rfl
        go_wp2
        go_ret
        exact ⟨ret_bool (dg_n0 HNN.out).symm, KA.out.1⟩
  · rw [dg_not d hm]
    by_cases h1 : m < 1
    · have q1 : decide (m < 1) = true := decide_eq_true h1
      go_enter Try.func39, Try.ntmps39
      go_upto_region 1 with fail
      generalize w.alloc (.cells #[.int .i64 d.n, .int .i64 d.s0, .int .i64 d.s1, .slice a0 a1 a2, .slice a3 a4 a5, .slice a6 a7 a8, .slice a9 a10 a11] 68) = W at KA ⊢
      obtain ⟨N, hN⟩ : ∃ y, w.heap.size = y := ⟨_, rfl⟩
      rw [hN] at KA ⊢
      have HN := hid hN
      clear hN
      have c0 := kp_cell (j := 0) (v := .int .i64 d.n) KA.out rfl
      go_wp2
      go_ret
      exact ⟨rfl, KA.out.1⟩
    · have q1 : decide (m < 1) = false := decide_eq_false h1
      have q2 : decide (2 < m) = true := decide_eq_true (by omega)
      go_enter Try.func39, Try.ntmps39
      go_upto_region 1 with fail
      generalize w.alloc (.cells #[.int .i64 d.n, .int .i64 d.s0, .int .i64 d.s1, .slice a0 a1 a2, .slice a3 a4 a5, .slice a6 a7 a8, .slice a9 a10 a11] 68) = W at KA ⊢
      obtain ⟨N, hN⟩ : ∃ y, w.heap.size = y := ⟨_, rfl⟩
      rw [hN] at KA ⊢
      have HN := hid hN
      clear hN
      have c0 := kp_cell (j := 0) (v := .int .i64 d.n) KA.out rfl
      go_wp2
      go_ret
      exact ⟨rfl, KA.out.1⟩

end Go.Proofs.Ytjkkajhjcinalaa

/-
  -
  Conditions: as each theorem states them.
-/
import Derived.Test.YtjkkajhjcinalaaQAC
import Derived.Test.YtjkkajhjcinalaaQAG
import Derived.Test.YtjkkajhjcinalaaQAH
namespace Go.Proofs.Ytjkkajhjcinalaa
open Go.ChangeShapes Go.WideShapes Go.ChangeAt Go.RowKit
set_option linter.unusedVariables false
set_option linter.unusedSimpArgs false
set_option maxRecDepth 100000

theorem idd_no {m : Int} {d : Dl} (h : dg m d = true) (k : idd m d = false) : did m d = false := by unfold did; rw [h, did_is h, k]; rfl
theorem idd_yes {m : Int} {d : Dl} (h : dg m d = true) (k : idd m d = true) : did m d = true := by unfold did; rw [h, did_is h, k]; rfl
theorem len_pos_d {p : Nat} {l : List Rn} (h : p = l.length) : l.isEmpty = !decide (0 < p) := by
  cases l with
  | nil => subst h; rfl
  | cons x l => subst h; simp
set_option maxHeartbeats 16000000 in
theorem rdidle_m (m : Int) (d : Dl) (a0 : Option Addr) (a1 a2 : Nat) (a3 : Option Addr) (a4 a5 : Nat) (a6 : Option Addr) (a7 a8 : Nat) (a9 : Option Addr) (a10 a11 : Nat) (v : Bool) (w : World) (hw : DW w a0 a1 a2 a3 a4 a5 a6 a7 a8 a9 a10 a11 d) (hk : okd d) (hv : Hid (did m d = v)) :
    Calls Try.prog 41 #[.int .i64 m, (.agg #[.int .i64 d.n, .int .i64 d.s0, .int .i64 d.s1, .slice a0 a1 a2, .slice a3 a4 a5, .slice a6 a7 a8, .slice a9 a10 a11])] w fun e w' => e = .returned (.bool v) ∧ Below w.heap.size w w' := by
  have h := hv.out
  subst h
  clear hv
  have HW := hid hw
  have HK := hid hk
  have E0 := hid hw.1.1.lens.1
  have E1 := hid hw.1.2.lens.1
  have E2 := hid hw.2.1.lens.1
  have E3 := hid hw.2.2.lens.1
  have KA := hid (kp_new w (.cells #[.int .i64 d.n, .int .i64 d.s0, .int .i64 d.s1, .slice a0 a1 a2, .slice a3 a4 a5, .slice a6 a7 a8, .slice a9 a10 a11] 68))
  obtain ⟨g, hg⟩ : ∃ y, dg m d = y := ⟨_, rfl⟩
  have GV := hid hg
  clear hw hk hg
  cases g with
  | false =>
    have HD : Hid (did m d = false) := hid (by unfold did; rw [GV.out]; rfl)
    go_enter Try.func41, Try.ntmps41
    go_upto_region 1 with fail
    generalize w.alloc (.cells #[.int .i64 d.n, .int .i64 d.s0, .int .i64 d.s1, .slice a0 a1 a2, .slice a3 a4 a5, .slice a6 a7 a8, .slice a9 a10 a11] 68) = W at KA ⊢
    obtain ⟨p0, p1, p2, p3, p4, p5, p6⟩ := box_seven KA.out.2.2
    go_wp2_with (go_at_call 39; refine (rdgood_m m d a0 a1 a2 a3 a4 a5 a6 a7 a8 a9 a10 a11 false _ (HW.out.below KA.out.1) HK.out GV).mono ?_; rintro e w1 ⟨rfl, hb⟩; replace KA := hid (KA.out.step hb); clear hb p0 p1 p2 p3 p4 p5 p6; obtain ⟨p0, p1, p2, p3, p4, p5, p6⟩ := box_seven KA.out.2.2)
    go_ret
    exact ⟨ret_bool HD.out.symm, KA.out.1⟩
  | true =>
    by_cases hn : d.n = 0
    · have hnd : (d.n != 0) = false := by simp [hn]
      have HN := hid hn
      have hm := dg_m GV.out
      have m0d : decide ((0 : Int) < m) = true := decide_eq_true (by omega)
      have m0i : (0 : Int) < m := by omega
      clear hn
      go_enter Try.func41, Try.ntmps41
      go_upto_region 1 with fail
      generalize w.alloc (.cells #[.int .i64 d.n, .int .i64 d.s0, .int .i64 d.s1, .slice a0 a1 a2, .slice a3 a4 a5, .slice a6 a7 a8, .slice a9 a10 a11] 68) = W at KA ⊢
      obtain ⟨p0, p1, p2, p3, p4, p5, p6⟩ := box_seven KA.out.2.2
      go_upto_region 3 with (go_at_call 39; refine (rdgood_m m d a0 a1 a2 a3 a4 a5 a6 a7 a8 a9 a10 a11 true _ (HW.out.below KA.out.1) HK.out GV).mono ?_; rintro e w1 ⟨rfl, hb⟩; replace KA := hid (KA.out.step hb); clear hb p0 p1 p2 p3 p4 p5 p6; obtain ⟨p0, p1, p2, p3, p4, p5, p6⟩ := box_seven KA.out.2.2)
      go_upto_region 4 with fail
      refine wp_loop_rounds 3 ?_
      rw [rounds_succ]
      by_cases hi0 : 0 < a1
      · have hd0 : decide ((0 : Int) < (a1 : Int)) = true := decide_eq_true (by omega)
        have hx0 : decide (0 < a1) = true := decide_eq_true hi0
        have HX0 := hid hx0
        clear hi0
        go_wp2
        go_ret
        exact ⟨ret_bool (idd_no GV.out (by unfold idd; rw [len_pos_d E0.out, HX0.out]; simp)).symm, KA.out.1⟩
      · have hd0 : decide ((0 : Int) < (a1 : Int)) = false := decide_eq_false (by omega)
        have hx0 : decide (0 < a1) = false := decide_eq_false hi0
        have HX0 := hid hx0
        clear hi0
        by_cases ho0 : 0 < a7
        · have he0 : decide ((0 : Int) < (a7 : Int)) = true := decide_eq_true (by omega)
          have hy0 : decide (0 < a7) = true := decide_eq_true ho0
          have HY0 := hid hy0
          clear ho0
          go_wp2
          go_ret
          exact ⟨ret_bool (idd_no GV.out (by unfold idd; rw [len_pos_d E2.out, HY0.out]; simp)).symm, KA.out.1⟩
        · have he0 : decide ((0 : Int) < (a7 : Int)) = false := decide_eq_false (by omega)
          have hy0 : decide (0 < a7) = false := decide_eq_false ho0
          have HY0 := hid hy0
          clear ho0
          go_wp2
          rw [rounds_succ]
          rcases hm with rfl | rfl
          · go_wp2
            go_ret
            exact ⟨ret_bool (idd_yes GV.out (by unfold idd; rw [HN.out, len_pos_d E0.out, len_pos_d E2.out, HX0.out, HY0.out]; rfl)).symm, KA.out.1⟩
          · skip
            by_cases hi1 : 0 < a4
            · have hd1 : decide ((0 : Int) < (a4 : Int)) = true := decide_eq_true (by omega)
              have hx1 : decide (0 < a4) = true := decide_eq_true hi1
              have HX1 := hid hx1
              clear hi1
              go_wp2
              go_ret
              exact ⟨ret_bool (idd_no GV.out (by unfold idd; rw [len_pos_d E1.out, HX1.out]; simp)).symm, KA.out.1⟩
            · have hd1 : decide ((0 : Int) < (a4 : Int)) = false := decide_eq_false (by omega)
              have hx1 : decide (0 < a4) = false := decide_eq_false hi1
              have HX1 := hid hx1
              clear hi1
              by_cases ho1 : 0 < a10
              · have he1 : decide ((0 : Int) < (a10 : Int)) = true := decide_eq_true (by omega)
                have hy1 : decide (0 < a10) = true := decide_eq_true ho1
                have HY1 := hid hy1
                clear ho1
                go_wp2
                go_ret
                exact ⟨ret_bool (idd_no GV.out (by unfold idd; rw [len_pos_d E3.out, HY1.out]; simp)).symm, KA.out.1⟩
              · have he1 : decide ((0 : Int) < (a10 : Int)) = false := decide_eq_false (by omega)
                have hy1 : decide (0 < a10) = false := decide_eq_false ho1
                have HY1 := hid hy1
                clear ho1
                go_wp2
                rw [rounds_succ]
                go_wp2
                go_ret
                exact ⟨ret_bool (idd_yes GV.out (by unfold idd; rw [HN.out, len_pos_d E0.out, len_pos_d E2.out, len_pos_d E1.out, len_pos_d E3.out, HX0.out, HY0.out, HX1.out, HY1.out]; rfl)).symm, KA.out.1⟩
    · have hnd : (d.n != 0) = true := by simp [hn]
      have HN := hid hn
      clear hn
      go_enter Try.func41, Try.ntmps41
      go_upto_region 1 with fail
      generalize w.alloc (.cells #[.int .i64 d.n, .int .i64 d.s0, .int .i64 d.s1, .slice a0 a1 a2, .slice a3 a4 a5, .slice a6 a7 a8, .slice a9 a10 a11] 68) = W at KA ⊢
      obtain ⟨p0, p1, p2, p3, p4, p5, p6⟩ := box_seven KA.out.2.2
      go_wp2_with (go_at_call 39; refine (rdgood_m m d a0 a1 a2 a3 a4 a5 a6 a7 a8 a9 a10 a11 true _ (HW.out.below KA.out.1) HK.out GV).mono ?_; rintro e w1 ⟨rfl, hb⟩; replace KA := hid (KA.out.step hb); clear hb p0 p1 p2 p3 p4 p5 p6; obtain ⟨p0, p1, p2, p3, p4, p5, p6⟩ := box_seven KA.out.2.2)
      go_ret
      exact ⟨ret_bool (idd_no GV.out (by unfold idd; rw [decide_eq_false HN.out]; rfl)).symm, KA.out.1⟩

set_option maxHeartbeats 32000000 in
theorem rdsame_m (c d : Dl) (a0 : Option Addr) (a1 a2 : Nat) (a3 : Option Addr) (a4 a5 : Nat) (a6 : Option Addr) (a7 a8 : Nat) (a9 : Option Addr) (a10 a11 : Nat) (b0 : Option Addr) (b1 b2 : Nat) (b3 : Option Addr) (b4 b5 : Nat) (b6 : Option Addr) (b7 b8 : Nat) (b9 : Option Addr) (b10 b11 : Nat) (v : Bool) (w : World) (hw : DW w a0 a1 a2 a3 a4 a5 a6 a7 a8 a9 a10 a11 c) (hz : DW w b0 b1 b2 b3 b4 b5 b6 b7 b8 b9 b10 b11 d) (hv : Hid (dsm c d = v)) :
    Calls Try.prog 34 #[(.agg #[.int .i64 c.n, .int .i64 c.s0, .int .i64 c.s1, .slice a0 a1 a2, .slice a3 a4 a5, .slice a6 a7 a8, .slice a9 a10 a11]), (.agg #[.int .i64 d.n, .int .i64 d.s0, .int .i64 d.s1, .slice b0 b1 b2, .slice b3 b4 b5, .slice b6 b7 b8, .slice b9 b10 b11])] w fun e w' => e = .returned (.bool v) ∧ Below w.heap.size w w' := by
  have h := hv.out
  subst h
  clear hv
  have HW := hid hw
  have HZ := hid hz
  have K0 := hid (kq_new w (.cells #[.int .i64 c.n, .int .i64 c.s0, .int .i64 c.s1, .slice a0 a1 a2, .slice a3 a4 a5, .slice a6 a7 a8, .slice a9 a10 a11] 68) (.cells #[.int .i64 d.n, .int .i64 d.s0, .int .i64 d.s1, .slice b0 b1 b2, .slice b3 b4 b5, .slice b6 b7 b8, .slice b9 b10 b11] 68))
  clear hw hz
  go_enter Try.func34, Try.ntmps34
  go_upto_region 1 with fail
  generalize (w.alloc (.cells #[.int .i64 c.n, .int .i64 c.s0, .int .i64 c.s1, .slice a0 a1 a2, .slice a3 a4 a5, .slice a6 a7 a8, .slice a9 a10 a11] 68)).alloc (.cells #[.int .i64 d.n, .int .i64 d.s0, .int .i64 d.s1, .slice b0 b1 b2, .slice b3 b4 b5, .slice b6 b7 b8, .slice b9 b10 b11] 68) = W at K0 ⊢
  have KA := hid K0.out.1
  have KB := hid K0.out.2
  clear K0
  obtain ⟨N, hN⟩ : ∃ y, w.heap.size = y := ⟨_, rfl⟩
  obtain ⟨M, hM⟩ : ∃ y, w.heap.size + 1 = y := ⟨_, rfl⟩
  rw [hN] at KA ⊢
  have hM2 : N + 1 = M := by rw [← hN]; exact hM
  rw [hM] at KB
  (try rw [hM2])
  clear hN hM hM2
  go_upto_region 2 with fail
  refine wp_loop_rounds 3 ?_
  rw [rounds_succ]
  obtain ⟨V0, ev0⟩ : ∃ x, sm c.i0 d.i0 = x := ⟨_, rfl⟩
  have EV0 := hid ev0
  obtain ⟨U0, eu0⟩ : ∃ x, sm c.o0 d.o0 = x := ⟨_, rfl⟩
  have EU0 := hid eu0
  clear ev0 eu0
  by_cases hs0 : c.s0 = d.s0
  case neg =>
    have hst0 : (c.s0 != d.s0) = true := by simp [hs0]
    have HS0 := hid hs0
    clear hs0
    go_upto_region 4 with fail
    have KS : Hid (∀ y, Below W.heap.size W y → (fun y => Below W.heap.size W y ∧ y.cell? ⟨N, 1, none⟩ = some (.int .i64 c.s0) ∧ y.cell? ⟨M, 1, none⟩ = some (.int .i64 d.s0) ∧ y.cell? ⟨N, 3, none⟩ = some (.slice a0 a1 a2) ∧ y.cell? ⟨M, 3, none⟩ = some (.slice b0 b1 b2) ∧ y.cell? ⟨N, 5, none⟩ = some (.slice a6 a7 a8) ∧ y.cell? ⟨M, 5, none⟩ = some (.slice b6 b7 b8)) y) := hid (fun y hb => ⟨hb, kp_cell (j := 1) (v := .int .i64 c.s0) (KA.out.step hb) rfl, kp_cell (j := 1) (v := .int .i64 d.s0) (KB.out.step hb) rfl, kp_cell (j := 3) (v := .slice a0 a1 a2) (KA.out.step hb) rfl, kp_cell (j := 3) (v := .slice b0 b1 b2) (KB.out.step hb) rfl, kp_cell (j := 5) (v := .slice a6 a7 a8) (KA.out.step hb) rfl, kp_cell (j := 5) (v := .slice b6 b7 b8) (KB.out.step hb) rfl⟩)
    refine wp_region_noPanic ?_
    refine wp_region_held_drew (S := fun y => Below W.heap.size W y ∧ y.cell? ⟨N, 1, none⟩ = some (.int .i64 c.s0) ∧ y.cell? ⟨M, 1, none⟩ = some (.int .i64 d.s0) ∧ y.cell? ⟨N, 3, none⟩ = some (.slice a0 a1 a2) ∧ y.cell? ⟨M, 3, none⟩ = some (.slice b0 b1 b2) ∧ y.cell? ⟨N, 5, none⟩ = some (.slice a6 a7 a8) ∧ y.cell? ⟨M, 5, none⟩ = some (.slice b6 b7 b8)) (by kernel_rfl) (KS.out _ (bdrew (Below.refl _ _))) (fun hHeld => ?_)
    refine tk 0 (v := ?_) ?_ ?_
    rotate_left
    · intro w hSw; (try dsimp only at hSw); go_simp; (try with_reducible rfl)
    try simp only [Act.put, List.setIfInBounds_toArray, List.set_cons_zero, List.set_cons_succ]
    refine tk 1 (v := ?_) ?_ ?_
    rotate_left
    · intro w hSw; (try dsimp only at hSw); go_simp; (try with_reducible rfl)
    try simp only [Act.put, List.setIfInBounds_toArray, List.set_cons_zero, List.set_cons_succ]
    refine tk 2 (v := ?_) ?_ ?_
    rotate_left
    · intro w hSw; (try dsimp only at hSw); go_simp; (try with_reducible rfl)
    try simp only [Act.put, List.setIfInBounds_toArray, List.set_cons_zero, List.set_cons_succ]
    refine tk 3 (v := ?_) ?_ ?_
    rotate_left
    · intro w hSw; (try dsimp only at hSw); go_simp; (try with_reducible rfl)
    try simp only [Act.put, List.setIfInBounds_toArray, List.set_cons_zero, List.set_cons_succ]
    refine tk 4 (v := ?_) ?_ ?_
    rotate_left
    · intro w hSw; (try dsimp only at hSw); go_simp; (try with_reducible rfl)
    try simp only [Act.put, List.setIfInBounds_toArray, List.set_cons_zero, List.set_cons_succ]
    refine tk 5 (v := ?_) ?_ ?_
    rotate_left
    · intro w hSw; (try dsimp only at hSw); go_simp; (try with_reducible rfl)
    try simp only [Act.put, List.setIfInBounds_toArray, List.set_cons_zero, List.set_cons_succ]
    refine tk 6 (v := ?_) ?_ ?_
    rotate_left
    · intro w hSw; (try dsimp only at hSw); go_simp; (try with_reducible rfl)
    try simp only [Act.put, List.setIfInBounds_toArray, List.set_cons_zero, List.set_cons_succ]
    refine tk 7 (v := ?_) ?_ ?_
    rotate_left
    · intro w hSw; (try dsimp only at hSw); go_simp; (try with_reducible rfl)
    try simp only [Act.put, List.setIfInBounds_toArray, List.set_cons_zero, List.set_cons_succ]
    refine tk 8 (v := ?_) ?_ ?_
    rotate_left
    · intro w hSw; (try dsimp only at hSw); go_simp; (try with_reducible rfl)
    try simp only [Act.put, List.setIfInBounds_toArray, List.set_cons_zero, List.set_cons_succ]
    refine tk 9 (v := ?_) ?_ ?_
    rotate_left
    · intro w hSw; (try dsimp only at hSw); go_simp; (try with_reducible rfl)
    try simp only [Act.put, List.setIfInBounds_toArray, List.set_cons_zero, List.set_cons_succ]
    refine tks 10 ?_
    try simp only [Act.put, List.setIfInBounds_toArray, List.set_cons_zero, List.set_cons_succ]
    refine tks 11 ?_
    try simp only [Act.put, List.setIfInBounds_toArray, List.set_cons_zero, List.set_cons_succ]
    refine tks 12 ?_
    try simp only [Act.put, List.setIfInBounds_toArray, List.set_cons_zero, List.set_cons_succ]
    refine tks 13 ?_
    try simp only [Act.put, List.setIfInBounds_toArray, List.set_cons_zero, List.set_cons_succ]
    refine tks 14 ?_
    try simp only [Act.put, List.setIfInBounds_toArray, List.set_cons_zero, List.set_cons_succ]
    refine tks 15 ?_
    try simp only [Act.put, List.setIfInBounds_toArray, List.set_cons_zero, List.set_cons_succ]
    refine tks 16 ?_
    try simp only [Act.put, List.setIfInBounds_toArray, List.set_cons_zero, List.set_cons_succ]
    refine tks 17 ?_
    try simp only [Act.put, List.setIfInBounds_toArray, List.set_cons_zero, List.set_cons_succ]
    refine tks 18 ?_
    try simp only [Act.put, List.setIfInBounds_toArray, List.set_cons_zero, List.set_cons_succ]
    refine tks 19 ?_
    try simp only [Act.put, List.setIfInBounds_toArray, List.set_cons_zero, List.set_cons_succ]
    refine tk 20 (v := ?_) ?_ ?_
    rotate_left
    · intro w hSw; (try dsimp only at hSw); go_simp; (try with_reducible rfl)
    try simp only [Act.put, List.setIfInBounds_toArray, List.set_cons_zero, List.set_cons_succ]
    refine tk 21 (v := ?_) ?_ ?_
    rotate_left
    · intro w hSw; (try dsimp only at hSw); go_simp; (try with_reducible rfl)
    try simp only [Act.put, List.setIfInBounds_toArray, List.set_cons_zero, List.set_cons_succ]
    refine tks 22 ?_
    try simp only [Act.put, List.setIfInBounds_toArray, List.set_cons_zero, List.set_cons_succ]
    refine tks 23 ?_
    try simp only [Act.put, List.setIfInBounds_toArray, List.set_cons_zero, List.set_cons_succ]
    refine tks 24 ?_
    try simp only [Act.put, List.setIfInBounds_toArray, List.set_cons_zero, List.set_cons_succ]
    refine tks 25 ?_
    try simp only [Act.put, List.setIfInBounds_toArray, List.set_cons_zero, List.set_cons_succ]
    refine tks 26 ?_
    try simp only [Act.put, List.setIfInBounds_toArray, List.set_cons_zero, List.set_cons_succ]
    refine tks 27 ?_
    try simp only [Act.put, List.setIfInBounds_toArray, List.set_cons_zero, List.set_cons_succ]
    refine tks 28 ?_
    try simp only [Act.put, List.setIfInBounds_toArray, List.set_cons_zero, List.set_cons_succ]
    refine tks 29 ?_
    try simp only [Act.put, List.setIfInBounds_toArray, List.set_cons_zero, List.set_cons_succ]
    refine tks 30 ?_
    try simp only [Act.put, List.setIfInBounds_toArray, List.set_cons_zero, List.set_cons_succ]
    refine tks 31 ?_
    try simp only [Act.put, List.setIfInBounds_toArray, List.set_cons_zero, List.set_cons_succ]
    refine tk 32 (v := ?_) ?_ ?_
    rotate_left
    · intro w hSw; (try dsimp only at hSw); go_simp; (try with_reducible rfl)
    try simp only [Act.put, List.setIfInBounds_toArray, List.set_cons_zero, List.set_cons_succ]
    refine wpAnyH_done (by kernel_rfl) ?_ _
    refine NoPanic.normal ?_
    replace KA := hid (KA.out.step hHeld.1)
    go_wp2
    go_ret
    exact ⟨ret_bool (dsm_s (fun h => HS0.out h.1)).symm, KA.out.1⟩
  case pos =>
  have hst0 : (c.s0 != d.s0) = false := by simp [hs0]
  have HS0 := hid hs0
  clear hs0
  go_upto_region 4 with fail
  cases V0 with
  | false =>
    have KS : Hid (∀ y, Below W.heap.size W y → (fun y => Below W.heap.size W y ∧ y.cell? ⟨N, 1, none⟩ = some (.int .i64 c.s0) ∧ y.cell? ⟨M, 1, none⟩ = some (.int .i64 d.s0) ∧ y.cell? ⟨N, 3, none⟩ = some (.slice a0 a1 a2) ∧ y.cell? ⟨M, 3, none⟩ = some (.slice b0 b1 b2) ∧ y.cell? ⟨N, 5, none⟩ = some (.slice a6 a7 a8) ∧ y.cell? ⟨M, 5, none⟩ = some (.slice b6 b7 b8)) y) := hid (fun y hb => ⟨hb, kp_cell (j := 1) (v := .int .i64 c.s0) (KA.out.step hb) rfl, kp_cell (j := 1) (v := .int .i64 d.s0) (KB.out.step hb) rfl, kp_cell (j := 3) (v := .slice a0 a1 a2) (KA.out.step hb) rfl, kp_cell (j := 3) (v := .slice b0 b1 b2) (KB.out.step hb) rfl, kp_cell (j := 5) (v := .slice a6 a7 a8) (KA.out.step hb) rfl, kp_cell (j := 5) (v := .slice b6 b7 b8) (KB.out.step hb) rfl⟩)
    refine wp_region_noPanic ?_
    refine wp_region_held_drew (S := fun y => Below W.heap.size W y ∧ y.cell? ⟨N, 1, none⟩ = some (.int .i64 c.s0) ∧ y.cell? ⟨M, 1, none⟩ = some (.int .i64 d.s0) ∧ y.cell? ⟨N, 3, none⟩ = some (.slice a0 a1 a2) ∧ y.cell? ⟨M, 3, none⟩ = some (.slice b0 b1 b2) ∧ y.cell? ⟨N, 5, none⟩ = some (.slice a6 a7 a8) ∧ y.cell? ⟨M, 5, none⟩ = some (.slice b6 b7 b8)) (by kernel_rfl) (KS.out _ (bdrew (Below.refl _ _))) (fun hHeld => ?_)
    refine tk 0 (v := ?_) ?_ ?_
    rotate_left
    · intro w hSw; (try dsimp only at hSw); go_simp; (try with_reducible rfl)
    try simp only [Act.put, List.setIfInBounds_toArray, List.set_cons_zero, List.set_cons_succ]
    refine tk 1 (v := ?_) ?_ ?_
    rotate_left
    · intro w hSw; (try dsimp only at hSw); go_simp; (try with_reducible rfl)
    try simp only [Act.put, List.setIfInBounds_toArray, List.set_cons_zero, List.set_cons_succ]
    refine tk 2 (v := ?_) ?_ ?_
    rotate_left
    · intro w hSw; (try dsimp only at hSw); go_simp; (try with_reducible rfl)
    try simp only [Act.put, List.setIfInBounds_toArray, List.set_cons_zero, List.set_cons_succ]
    refine tk 3 (v := ?_) ?_ ?_
    rotate_left
    · intro w hSw; (try dsimp only at hSw); go_simp; (try with_reducible rfl)
    try simp only [Act.put, List.setIfInBounds_toArray, List.set_cons_zero, List.set_cons_succ]
    refine tk 4 (v := ?_) ?_ ?_
    rotate_left
    · intro w hSw; (try dsimp only at hSw); go_simp; (try with_reducible rfl)
    try simp only [Act.put, List.setIfInBounds_toArray, List.set_cons_zero, List.set_cons_succ]
    refine tk 5 (v := ?_) ?_ ?_
    rotate_left
    · intro w hSw; (try dsimp only at hSw); go_simp; (try with_reducible rfl)
    try simp only [Act.put, List.setIfInBounds_toArray, List.set_cons_zero, List.set_cons_succ]
    refine tk 6 (v := ?_) ?_ ?_
    rotate_left
    · intro w hSw; (try dsimp only at hSw); go_simp; (try with_reducible rfl)
    try simp only [Act.put, List.setIfInBounds_toArray, List.set_cons_zero, List.set_cons_succ]
    refine tk 7 (v := ?_) ?_ ?_
    rotate_left
    · intro w hSw; (try dsimp only at hSw); go_simp; (try with_reducible rfl)
    try simp only [Act.put, List.setIfInBounds_toArray, List.set_cons_zero, List.set_cons_succ]
    refine tk 8 (v := ?_) ?_ ?_
    rotate_left
    · intro w hSw; (try dsimp only at hSw); go_simp; (try with_reducible rfl)
    try simp only [Act.put, List.setIfInBounds_toArray, List.set_cons_zero, List.set_cons_succ]
    refine tk 9 (v := ?_) ?_ ?_
    rotate_left
    · intro w hSw; (try dsimp only at hSw); go_simp; (try with_reducible rfl)
    try simp only [Act.put, List.setIfInBounds_toArray, List.set_cons_zero, List.set_cons_succ]
    refine tk 10 (v := ?_) ?_ ?_
    rotate_left
    · intro w hSw; (try dsimp only at hSw); go_simp; (try with_reducible rfl)
    try simp only [Act.put, List.setIfInBounds_toArray, List.set_cons_zero, List.set_cons_succ]
    refine tk 11 (v := ?_) ?_ ?_
    rotate_left
    · intro w hSw; (try dsimp only at hSw); go_simp; (try with_reducible rfl)
    try simp only [Act.put, List.setIfInBounds_toArray, List.set_cons_zero, List.set_cons_succ]
    refine tk 12 (v := ?_) ?_ ?_
    rotate_left
    · intro w hSw; (try dsimp only at hSw); go_simp; (try with_reducible rfl)
    try simp only [Act.put, List.setIfInBounds_toArray, List.set_cons_zero, List.set_cons_succ]
    refine tk 13 (v := ?_) ?_ ?_
    rotate_left
    · intro w hSw; (try dsimp only at hSw); go_simp; (try with_reducible rfl)
    try simp only [Act.put, List.setIfInBounds_toArray, List.set_cons_zero, List.set_cons_succ]
    refine tk 14 (v := ?_) ?_ ?_
    rotate_left
    · intro w hSw; (try dsimp only at hSw); go_simp; (try with_reducible rfl)
    try simp only [Act.put, List.setIfInBounds_toArray, List.set_cons_zero, List.set_cons_succ]
    refine tk 15 (v := ?_) ?_ ?_
    rotate_left
    · intro w hSw; (try dsimp only at hSw); go_simp; (try with_reducible rfl)
    try simp only [Act.put, List.setIfInBounds_toArray, List.set_cons_zero, List.set_cons_succ]
    refine tk 16 (v := ?_) ?_ ?_
    rotate_left
    · intro w hSw; (try dsimp only at hSw); go_simp; (try with_reducible rfl)
    try simp only [Act.put, List.setIfInBounds_toArray, List.set_cons_zero, List.set_cons_succ]
    refine tk 17 (v := ?_) ?_ ?_
    rotate_left
    · intro w hSw; (try dsimp only at hSw); go_simp; (try with_reducible rfl)
    try simp only [Act.put, List.setIfInBounds_toArray, List.set_cons_zero, List.set_cons_succ]
    refine rd1 18 (fun K hK => ?_)
    go_simp
    go_at_call 57; refine (rsame_m _ _ _ _ _ _ c.i0 d.i0 false _ (HW.out.1.1.below (bt KA.out.1 hHeld.1)) (HZ.out.1.1.below (bt KA.out.1 hHeld.1)) EV0).mono ?_; rintro e x0 ⟨rfl, hbx0⟩
    refine hK.out _ _ (KS.out _ (bt hHeld.1 hbx0)) (fun hHeld2 => ?_)
    clear hK K hHeld; have hHeld := hHeld2; clear hHeld2
    try simp only [Act.put, List.setIfInBounds_toArray, List.set_cons_zero, List.set_cons_succ]
    refine tk 19 (v := ?_) ?_ ?_
    rotate_left
    · intro w hSw; (try dsimp only at hSw); go_simp; (try with_reducible rfl)
    try simp only [Act.put, List.setIfInBounds_toArray, List.set_cons_zero, List.set_cons_succ]
    refine tk 20 (v := ?_) ?_ ?_
    rotate_left
    · intro w hSw; (try dsimp only at hSw); go_simp; (try with_reducible rfl)
    try simp only [Act.put, List.setIfInBounds_toArray, List.set_cons_zero, List.set_cons_succ]
    refine tk 21 (v := ?_) ?_ ?_
    rotate_left
    · intro w hSw; (try dsimp only at hSw); go_simp; (try with_reducible rfl)
    try simp only [Act.put, List.setIfInBounds_toArray, List.set_cons_zero, List.set_cons_succ]
    refine tks 22 ?_
    try simp only [Act.put, List.setIfInBounds_toArray, List.set_cons_zero, List.set_cons_succ]
    refine tks 23 ?_
    try simp only [Act.put, List.setIfInBounds_toArray, List.set_cons_zero, List.set_cons_succ]
    refine tks 24 ?_
    try simp only [Act.put, List.setIfInBounds_toArray, List.set_cons_zero, List.set_cons_succ]
    refine tks 25 ?_
    try simp only [Act.put, List.setIfInBounds_toArray, List.set_cons_zero, List.set_cons_succ]
    refine tks 26 ?_
    try simp only [Act.put, List.setIfInBounds_toArray, List.set_cons_zero, List.set_cons_succ]
    refine tks 27 ?_
    try simp only [Act.put, List.setIfInBounds_toArray, List.set_cons_zero, List.set_cons_succ]
    refine tks 28 ?_
    try simp only [Act.put, List.setIfInBounds_toArray, List.set_cons_zero, List.set_cons_succ]
    refine tks 29 ?_
    try simp only [Act.put, List.setIfInBounds_toArray, List.set_cons_zero, List.set_cons_succ]
    refine tks 30 ?_
    try simp only [Act.put, List.setIfInBounds_toArray, List.set_cons_zero, List.set_cons_succ]
    refine tks 31 ?_
    try simp only [Act.put, List.setIfInBounds_toArray, List.set_cons_zero, List.set_cons_succ]
    refine tk 32 (v := ?_) ?_ ?_
    rotate_left
    · intro w hSw; (try dsimp only at hSw); go_simp; (try with_reducible rfl)
    try simp only [Act.put, List.setIfInBounds_toArray, List.set_cons_zero, List.set_cons_succ]
    refine wpAnyH_done (by kernel_rfl) ?_ _
    refine NoPanic.normal ?_
    replace KA := hid (KA.out.step hHeld.1)
    go_wp2
    go_ret
    exact ⟨ret_bool (dsm_b (.inl EV0.out)).symm, KA.out.1⟩
  | true =>
  cases U0 with
  | false =>
    have KS : Hid (∀ y, Below W.heap.size W y → (fun y => Below W.heap.size W y ∧ y.cell? ⟨N, 1, none⟩ = some (.int .i64 c.s0) ∧ y.cell? ⟨M, 1, none⟩ = some (.int .i64 d.s0) ∧ y.cell? ⟨N, 3, none⟩ = some (.slice a0 a1 a2) ∧ y.cell? ⟨M, 3, none⟩ = some (.slice b0 b1 b2) ∧ y.cell? ⟨N, 5, none⟩ = some (.slice a6 a7 a8) ∧ y.cell? ⟨M, 5, none⟩ = some (.slice b6 b7 b8)) y) := hid (fun y hb => ⟨hb, kp_cell (j := 1) (v := .int .i64 c.s0) (KA.out.step hb) rfl, kp_cell (j := 1) (v := .int .i64 d.s0) (KB.out.step hb) rfl, kp_cell (j := 3) (v := .slice a0 a1 a2) (KA.out.step hb) rfl, kp_cell (j := 3) (v := .slice b0 b1 b2) (KB.out.step hb) rfl, kp_cell (j := 5) (v := .slice a6 a7 a8) (KA.out.step hb) rfl, kp_cell (j := 5) (v := .slice b6 b7 b8) (KB.out.step hb) rfl⟩)
    refine wp_region_noPanic ?_
    refine wp_region_held_drew (S := fun y => Below W.heap.size W y ∧ y.cell? ⟨N, 1, none⟩ = some (.int .i64 c.s0) ∧ y.cell? ⟨M, 1, none⟩ = some (.int .i64 d.s0) ∧ y.cell? ⟨N, 3, none⟩ = some (.slice a0 a1 a2) ∧ y.cell? ⟨M, 3, none⟩ = some (.slice b0 b1 b2) ∧ y.cell? ⟨N, 5, none⟩ = some (.slice a6 a7 a8) ∧ y.cell? ⟨M, 5, none⟩ = some (.slice b6 b7 b8)) (by kernel_rfl) (KS.out _ (bdrew (Below.refl _ _))) (fun hHeld => ?_)
    refine tk 0 (v := ?_) ?_ ?_
    rotate_left
    · intro w hSw; (try dsimp only at hSw); go_simp; (try with_reducible rfl)
    try simp only [Act.put, List.setIfInBounds_toArray, List.set_cons_zero, List.set_cons_succ]
    refine tk 1 (v := ?_) ?_ ?_
    rotate_left
    · intro w hSw; (try dsimp only at hSw); go_simp; (try with_reducible rfl)
    try simp only [Act.put, List.setIfInBounds_toArray, List.set_cons_zero, List.set_cons_succ]
    refine tk 2 (v := ?_) ?_ ?_
    rotate_left
    · intro w hSw; (try dsimp only at hSw); go_simp; (try with_reducible rfl)
    try simp only [Act.put, List.setIfInBounds_toArray, List.set_cons_zero, List.set_cons_succ]
    refine tk 3 (v := ?_) ?_ ?_
    rotate_left
    · intro w hSw; (try dsimp only at hSw); go_simp; (try with_reducible rfl)
    try simp only [Act.put, List.setIfInBounds_toArray, List.set_cons_zero, List.set_cons_succ]
    refine tk 4 (v := ?_) ?_ ?_
    rotate_left
    · intro w hSw; (try dsimp only at hSw); go_simp; (try with_reducible rfl)
    try simp only [Act.put, List.setIfInBounds_toArray, List.set_cons_zero, List.set_cons_succ]
    refine tk 5 (v := ?_) ?_ ?_
    rotate_left
    · intro w hSw; (try dsimp only at hSw); go_simp; (try with_reducible rfl)
    try simp only [Act.put, List.setIfInBounds_toArray, List.set_cons_zero, List.set_cons_succ]
    refine tk 6 (v := ?_) ?_ ?_
    rotate_left
    · intro w hSw; (try dsimp only at hSw); go_simp; (try with_reducible rfl)
    try simp only [Act.put, List.setIfInBounds_toArray, List.set_cons_zero, List.set_cons_succ]
    refine tk 7 (v := ?_) ?_ ?_
    rotate_left
    · intro w hSw; (try dsimp only at hSw); go_simp; (try with_reducible rfl)
    try simp only [Act.put, List.setIfInBounds_toArray, List.set_cons_zero, List.set_cons_succ]
    refine tk 8 (v := ?_) ?_ ?_
    rotate_left
    · intro w hSw; (try dsimp only at hSw); go_simp; (try with_reducible rfl)
    try simp only [Act.put, List.setIfInBounds_toArray, List.set_cons_zero, List.set_cons_succ]
    refine tk 9 (v := ?_) ?_ ?_
    rotate_left
    · intro w hSw; (try dsimp only at hSw); go_simp; (try with_reducible rfl)
    try simp only [Act.put, List.setIfInBounds_toArray, List.set_cons_zero, List.set_cons_succ]
    refine tk 10 (v := ?_) ?_ ?_
    rotate_left
    · intro w hSw; (try dsimp only at hSw); go_simp; (try with_reducible rfl)
    try simp only [Act.put, List.setIfInBounds_toArray, List.set_cons_zero, List.set_cons_succ]
    refine tk 11 (v := ?_) ?_ ?_
    rotate_left
    · intro w hSw; (try dsimp only at hSw); go_simp; (try with_reducible rfl)
    try simp only [Act.put, List.setIfInBounds_toArray, List.set_cons_zero, List.set_cons_succ]
    refine tk 12 (v := ?_) ?_ ?_
    rotate_left
    · intro w hSw; (try dsimp only at hSw); go_simp; (try with_reducible rfl)
    try simp only [Act.put, List.setIfInBounds_toArray, List.set_cons_zero, List.set_cons_succ]
    refine tk 13 (v := ?_) ?_ ?_
    rotate_left
    · intro w hSw; (try dsimp only at hSw); go_simp; (try with_reducible rfl)
    try simp only [Act.put, List.setIfInBounds_toArray, List.set_cons_zero, List.set_cons_succ]
    refine tk 14 (v := ?_) ?_ ?_
    rotate_left
    · intro w hSw; (try dsimp only at hSw); go_simp; (try with_reducible rfl)
    try simp only [Act.put, List.setIfInBounds_toArray, List.set_cons_zero, List.set_cons_succ]
    refine tk 15 (v := ?_) ?_ ?_
    rotate_left
    · intro w hSw; (try dsimp only at hSw); go_simp; (try with_reducible rfl)
    try simp only [Act.put, List.setIfInBounds_toArray, List.set_cons_zero, List.set_cons_succ]
    refine tk 16 (v := ?_) ?_ ?_
    rotate_left
    · intro w hSw; (try dsimp only at hSw); go_simp; (try with_reducible rfl)
    try simp only [Act.put, List.setIfInBounds_toArray, List.set_cons_zero, List.set_cons_succ]
    refine tk 17 (v := ?_) ?_ ?_
    rotate_left
    · intro w hSw; (try dsimp only at hSw); go_simp; (try with_reducible rfl)
    try simp only [Act.put, List.setIfInBounds_toArray, List.set_cons_zero, List.set_cons_succ]
    refine rd1 18 (fun K hK => ?_)
    go_simp
    go_at_call 57; refine (rsame_m _ _ _ _ _ _ c.i0 d.i0 true _ (HW.out.1.1.below (bt KA.out.1 hHeld.1)) (HZ.out.1.1.below (bt KA.out.1 hHeld.1)) EV0).mono ?_; rintro e x0 ⟨rfl, hbx0⟩
    refine hK.out _ _ (KS.out _ (bt hHeld.1 hbx0)) (fun hHeld2 => ?_)
    clear hK K hHeld; have hHeld := hHeld2; clear hHeld2
    try simp only [Act.put, List.setIfInBounds_toArray, List.set_cons_zero, List.set_cons_succ]
    refine tk 19 (v := ?_) ?_ ?_
    rotate_left
    · intro w hSw; (try dsimp only at hSw); go_simp; (try with_reducible rfl)
    try simp only [Act.put, List.setIfInBounds_toArray, List.set_cons_zero, List.set_cons_succ]
    refine tk 20 (v := ?_) ?_ ?_
    rotate_left
    · intro w hSw; (try dsimp only at hSw); go_simp; (try with_reducible rfl)
    try simp only [Act.put, List.setIfInBounds_toArray, List.set_cons_zero, List.set_cons_succ]
    refine tk 21 (v := ?_) ?_ ?_
    rotate_left
    · intro w hSw; (try dsimp only at hSw); go_simp; (try with_reducible rfl)
    try simp only [Act.put, List.setIfInBounds_toArray, List.set_cons_zero, List.set_cons_succ]
    refine tk 22 (v := ?_) ?_ ?_
    rotate_left
    · intro w hSw; (try dsimp only at hSw); go_simp; (try with_reducible rfl)
    try simp only [Act.put, List.setIfInBounds_toArray, List.set_cons_zero, List.set_cons_succ]
    refine tk 23 (v := ?_) ?_ ?_
    rotate_left
    · intro w hSw; (try dsimp only at hSw); go_simp; (try with_reducible rfl)
    try simp only [Act.put, List.setIfInBounds_toArray, List.set_cons_zero, List.set_cons_succ]
    refine tk 24 (v := ?_) ?_ ?_
    rotate_left
    · intro w hSw; (try dsimp only at hSw); go_simp; (try with_reducible rfl)
    try simp only [Act.put, List.setIfInBounds_toArray, List.set_cons_zero, List.set_cons_succ]
    refine tk 25 (v := ?_) ?_ ?_
    rotate_left
    · intro w hSw; (try dsimp only at hSw); go_simp; (try with_reducible rfl)
    try simp only [Act.put, List.setIfInBounds_toArray, List.set_cons_zero, List.set_cons_succ]
    refine tk 26 (v := ?_) ?_ ?_
    rotate_left
    · intro w hSw; (try dsimp only at hSw); go_simp; (try with_reducible rfl)
    try simp only [Act.put, List.setIfInBounds_toArray, List.set_cons_zero, List.set_cons_succ]
    refine tk 27 (v := ?_) ?_ ?_
    rotate_left
    · intro w hSw; (try dsimp only at hSw); go_simp; (try with_reducible rfl)
    try simp only [Act.put, List.setIfInBounds_toArray, List.set_cons_zero, List.set_cons_succ]
    refine tk 28 (v := ?_) ?_ ?_
    rotate_left
    · intro w hSw; (try dsimp only at hSw); go_simp; (try with_reducible rfl)
    try simp only [Act.put, List.setIfInBounds_toArray, List.set_cons_zero, List.set_cons_succ]
    refine tk 29 (v := ?_) ?_ ?_
    rotate_left
    · intro w hSw; (try dsimp only at hSw); go_simp; (try with_reducible rfl)
    try simp only [Act.put, List.setIfInBounds_toArray, List.set_cons_zero, List.set_cons_succ]
    refine rd1 30 (fun K hK => ?_)
    go_simp
    go_at_call 57; refine (rsame_m _ _ _ _ _ _ c.o0 d.o0 false _ (HW.out.2.1.below (bt KA.out.1 hHeld.1)) (HZ.out.2.1.below (bt KA.out.1 hHeld.1)) EU0).mono ?_; rintro e y0 ⟨rfl, hby0⟩
    refine hK.out _ _ (KS.out _ (bt hHeld.1 hby0)) (fun hHeld2 => ?_)
    clear hK K hHeld; have hHeld := hHeld2; clear hHeld2
    try simp only [Act.put, List.setIfInBounds_toArray, List.set_cons_zero, List.set_cons_succ]
    refine tk 31 (v := ?_) ?_ ?_
    rotate_left
    · intro w hSw; (try dsimp only at hSw); go_simp; (try with_reducible rfl)
    try simp only [Act.put, List.setIfInBounds_toArray, List.set_cons_zero, List.set_cons_succ]
    refine tk 32 (v := ?_) ?_ ?_
    rotate_left
    · intro w hSw; (try dsimp only at hSw); go_simp; (try with_reducible rfl)
    try simp only [Act.put, List.setIfInBounds_toArray, List.set_cons_zero, List.set_cons_succ]
    refine wpAnyH_done (by kernel_rfl) ?_ _
    refine NoPanic.normal ?_
    replace KA := hid (KA.out.step hHeld.1)
    go_wp2
    go_ret
    exact ⟨ret_bool (dsm_b (.inr (.inl EU0.out))).symm, KA.out.1⟩
  | true =>
  have KS : Hid (∀ y, Below W.heap.size W y → (fun y => Below W.heap.size W y ∧ y.cell? ⟨N, 1, none⟩ = some (.int .i64 c.s0) ∧ y.cell? ⟨M, 1, none⟩ = some (.int .i64 d.s0) ∧ y.cell? ⟨N, 3, none⟩ = some (.slice a0 a1 a2) ∧ y.cell? ⟨M, 3, none⟩ = some (.slice b0 b1 b2) ∧ y.cell? ⟨N, 5, none⟩ = some (.slice a6 a7 a8) ∧ y.cell? ⟨M, 5, none⟩ = some (.slice b6 b7 b8)) y) := hid (fun y hb => ⟨hb, kp_cell (j := 1) (v := .int .i64 c.s0) (KA.out.step hb) rfl, kp_cell (j := 1) (v := .int .i64 d.s0) (KB.out.step hb) rfl, kp_cell (j := 3) (v := .slice a0 a1 a2) (KA.out.step hb) rfl, kp_cell (j := 3) (v := .slice b0 b1 b2) (KB.out.step hb) rfl, kp_cell (j := 5) (v := .slice a6 a7 a8) (KA.out.step hb) rfl, kp_cell (j := 5) (v := .slice b6 b7 b8) (KB.out.step hb) rfl⟩)
  refine wp_region_noPanic ?_
  refine wp_region_held_drew (S := fun y => Below W.heap.size W y ∧ y.cell? ⟨N, 1, none⟩ = some (.int .i64 c.s0) ∧ y.cell? ⟨M, 1, none⟩ = some (.int .i64 d.s0) ∧ y.cell? ⟨N, 3, none⟩ = some (.slice a0 a1 a2) ∧ y.cell? ⟨M, 3, none⟩ = some (.slice b0 b1 b2) ∧ y.cell? ⟨N, 5, none⟩ = some (.slice a6 a7 a8) ∧ y.cell? ⟨M, 5, none⟩ = some (.slice b6 b7 b8)) (by kernel_rfl) (KS.out _ (bdrew (Below.refl _ _))) (fun hHeld => ?_)
  refine tk 0 (v := ?_) ?_ ?_
  rotate_left
  · intro w hSw; (try dsimp only at hSw); go_simp; (try with_reducible rfl)
  try simp only [Act.put, List.setIfInBounds_toArray, List.set_cons_zero, List.set_cons_succ]
  refine tk 1 (v := ?_) ?_ ?_
  rotate_left
  · intro w hSw; (try dsimp only at hSw); go_simp; (try with_reducible rfl)
  try simp only [Act.put, List.setIfInBounds_toArray, List.set_cons_zero, List.set_cons_succ]
  refine tk 2 (v := ?_) ?_ ?_
  rotate_left
  · intro w hSw; (try dsimp only at hSw); go_simp; (try with_reducible rfl)
  try simp only [Act.put, List.setIfInBounds_toArray, List.set_cons_zero, List.set_cons_succ]
  refine tk 3 (v := ?_) ?_ ?_
  rotate_left
  · intro w hSw; (try dsimp only at hSw); go_simp; (try with_reducible rfl)
  try simp only [Act.put, List.setIfInBounds_toArray, List.set_cons_zero, List.set_cons_succ]
  refine tk 4 (v := ?_) ?_ ?_
  rotate_left
  · intro w hSw; (try dsimp only at hSw); go_simp; (try with_reducible rfl)
  try simp only [Act.put, List.setIfInBounds_toArray, List.set_cons_zero, List.set_cons_succ]
  refine tk 5 (v := ?_) ?_ ?_
  rotate_left
  · intro w hSw; (try dsimp only at hSw); go_simp; (try with_reducible rfl)
  try simp only [Act.put, List.setIfInBounds_toArray, List.set_cons_zero, List.set_cons_succ]
  refine tk 6 (v := ?_) ?_ ?_
  rotate_left
  · intro w hSw; (try dsimp only at hSw); go_simp; (try with_reducible rfl)
  try simp only [Act.put, List.setIfInBounds_toArray, List.set_cons_zero, List.set_cons_succ]
  refine tk 7 (v := ?_) ?_ ?_
  rotate_left
  · intro w hSw; (try dsimp only at hSw); go_simp; (try with_reducible rfl)
  try simp only [Act.put, List.setIfInBounds_toArray, List.set_cons_zero, List.set_cons_succ]
  refine tk 8 (v := ?_) ?_ ?_
  rotate_left
  · intro w hSw; (try dsimp only at hSw); go_simp; (try with_reducible rfl)
  try simp only [Act.put, List.setIfInBounds_toArray, List.set_cons_zero, List.set_cons_succ]
  refine tk 9 (v := ?_) ?_ ?_
  rotate_left
  · intro w hSw; (try dsimp only at hSw); go_simp; (try with_reducible rfl)
  try simp only [Act.put, List.setIfInBounds_toArray, List.set_cons_zero, List.set_cons_succ]
  refine tk 10 (v := ?_) ?_ ?_
  rotate_left
  · intro w hSw; (try dsimp only at hSw); go_simp; (try with_reducible rfl)
  try simp only [Act.put, List.setIfInBounds_toArray, List.set_cons_zero, List.set_cons_succ]
  refine tk 11 (v := ?_) ?_ ?_
  rotate_left
  · intro w hSw; (try dsimp only at hSw); go_simp; (try with_reducible rfl)
  try simp only [Act.put, List.setIfInBounds_toArray, List.set_cons_zero, List.set_cons_succ]
  refine tk 12 (v := ?_) ?_ ?_
  rotate_left
  · intro w hSw; (try dsimp only at hSw); go_simp; (try with_reducible rfl)
  try simp only [Act.put, List.setIfInBounds_toArray, List.set_cons_zero, List.set_cons_succ]
  refine tk 13 (v := ?_) ?_ ?_
  rotate_left
  · intro w hSw; (try dsimp only at hSw); go_simp; (try with_reducible rfl)
  try simp only [Act.put, List.setIfInBounds_toArray, List.set_cons_zero, List.set_cons_succ]
  refine tk 14 (v := ?_) ?_ ?_
  rotate_left
  · intro w hSw; (try dsimp only at hSw); go_simp; (try with_reducible rfl)
  try simp only [Act.put, List.setIfInBounds_toArray, List.set_cons_zero, List.set_cons_succ]
  refine tk 15 (v := ?_) ?_ ?_
  rotate_left
  · intro w hSw; (try dsimp only at hSw); go_simp; (try with_reducible rfl)
  try simp only [Act.put, List.setIfInBounds_toArray, List.set_cons_zero, List.set_cons_succ]
  refine tk 16 (v := ?_) ?_ ?_
  rotate_left
  · intro w hSw; (try dsimp only at hSw); go_simp; (try with_reducible rfl)
  try simp only [Act.put, List.setIfInBounds_toArray, List.set_cons_zero, List.set_cons_succ]
  refine tk 17 (v := ?_) ?_ ?_
  rotate_left
  · intro w hSw; (try dsimp only at hSw); go_simp; (try with_reducible rfl)
  try simp only [Act.put, List.setIfInBounds_toArray, List.set_cons_zero, List.set_cons_succ]
  refine rd1 18 (fun K hK => ?_)
  go_simp
  go_at_call 57; refine (rsame_m _ _ _ _ _ _ c.i0 d.i0 true _ (HW.out.1.1.below (bt KA.out.1 hHeld.1)) (HZ.out.1.1.below (bt KA.out.1 hHeld.1)) EV0).mono ?_; rintro e x0 ⟨rfl, hbx0⟩
  refine hK.out _ _ (KS.out _ (bt hHeld.1 hbx0)) (fun hHeld2 => ?_)
  clear hK K hHeld; have hHeld := hHeld2; clear hHeld2
  try simp only [Act.put, List.setIfInBounds_toArray, List.set_cons_zero, List.set_cons_succ]
  refine tk 19 (v := ?_) ?_ ?_
  rotate_left
  · intro w hSw; (try dsimp only at hSw); go_simp; (try with_reducible rfl)
  try simp only [Act.put, List.setIfInBounds_toArray, List.set_cons_zero, List.set_cons_succ]
  refine tk 20 (v := ?_) ?_ ?_
  rotate_left
  · intro w hSw; (try dsimp only at hSw); go_simp; (try with_reducible rfl)
  try simp only [Act.put, List.setIfInBounds_toArray, List.set_cons_zero, List.set_cons_succ]
  refine tk 21 (v := ?_) ?_ ?_
  rotate_left
  · intro w hSw; (try dsimp only at hSw); go_simp; (try with_reducible rfl)
  try simp only [Act.put, List.setIfInBounds_toArray, List.set_cons_zero, List.set_cons_succ]
  refine tk 22 (v := ?_) ?_ ?_
  rotate_left
  · intro w hSw; (try dsimp only at hSw); go_simp; (try with_reducible rfl)
  try simp only [Act.put, List.setIfInBounds_toArray, List.set_cons_zero, List.set_cons_succ]
  refine tk 23 (v := ?_) ?_ ?_
  rotate_left
  · intro w hSw; (try dsimp only at hSw); go_simp; (try with_reducible rfl)
  try simp only [Act.put, List.setIfInBounds_toArray, List.set_cons_zero, List.set_cons_succ]
  refine tk 24 (v := ?_) ?_ ?_
  rotate_left
  · intro w hSw; (try dsimp only at hSw); go_simp; (try with_reducible rfl)
  try simp only [Act.put, List.setIfInBounds_toArray, List.set_cons_zero, List.set_cons_succ]
  refine tk 25 (v := ?_) ?_ ?_
  rotate_left
  · intro w hSw; (try dsimp only at hSw); go_simp; (try with_reducible rfl)
  try simp only [Act.put, List.setIfInBounds_toArray, List.set_cons_zero, List.set_cons_succ]
  refine tk 26 (v := ?_) ?_ ?_
  rotate_left
  · intro w hSw; (try dsimp only at hSw); go_simp; (try with_reducible rfl)
  try simp only [Act.put, List.setIfInBounds_toArray, List.set_cons_zero, List.set_cons_succ]
  refine tk 27 (v := ?_) ?_ ?_
  rotate_left
  · intro w hSw; (try dsimp only at hSw); go_simp; (try with_reducible rfl)
  try simp only [Act.put, List.setIfInBounds_toArray, List.set_cons_zero, List.set_cons_succ]
  refine tk 28 (v := ?_) ?_ ?_
  rotate_left
  · intro w hSw; (try dsimp only at hSw); go_simp; (try with_reducible rfl)
  try simp only [Act.put, List.setIfInBounds_toArray, List.set_cons_zero, List.set_cons_succ]
  refine tk 29 (v := ?_) ?_ ?_
  rotate_left
  · intro w hSw; (try dsimp only at hSw); go_simp; (try with_reducible rfl)
  try simp only [Act.put, List.setIfInBounds_toArray, List.set_cons_zero, List.set_cons_succ]
  refine rd1 30 (fun K hK => ?_)
  go_simp
  go_at_call 57; refine (rsame_m _ _ _ _ _ _ c.o0 d.o0 true _ (HW.out.2.1.below (bt KA.out.1 hHeld.1)) (HZ.out.2.1.below (bt KA.out.1 hHeld.1)) EU0).mono ?_; rintro e y0 ⟨rfl, hby0⟩
  refine hK.out _ _ (KS.out _ (bt hHeld.1 hby0)) (fun hHeld2 => ?_)
  clear hK K hHeld; have hHeld := hHeld2; clear hHeld2
  try simp only [Act.put, List.setIfInBounds_toArray, List.set_cons_zero, List.set_cons_succ]
  refine tk 31 (v := ?_) ?_ ?_
  rotate_left
  · intro w hSw; (try dsimp only at hSw); go_simp; (try with_reducible rfl)
  try simp only [Act.put, List.setIfInBounds_toArray, List.set_cons_zero, List.set_cons_succ]
  refine tk 32 (v := ?_) ?_ ?_
  rotate_left
  · intro w hSw; (try dsimp only at hSw); go_simp; (try with_reducible rfl)
  try simp only [Act.put, List.setIfInBounds_toArray, List.set_cons_zero, List.set_cons_succ]
  refine wpAnyH_done (by kernel_rfl) ?_ _
  refine NoPanic.normal ?_
  replace KA := hid (KA.out.step hHeld.1)
  replace KB := hid (KB.out.step hHeld.1)
  clear hHeld KS hbx0 hby0
  go_wp2
  rw [rounds_succ]
  rename World => W4
  obtain ⟨V1, ev1⟩ : ∃ x, sm c.i1 d.i1 = x := ⟨_, rfl⟩
  have EV1 := hid ev1
  obtain ⟨U1, eu1⟩ : ∃ x, sm c.o1 d.o1 = x := ⟨_, rfl⟩
  have EU1 := hid eu1
  clear ev1 eu1
  by_cases hs1 : c.s1 = d.s1
  case neg =>
    have hst1 : (c.s1 != d.s1) = true := by simp [hs1]
    have HS1 := hid hs1
    clear hs1
    go_upto_region 4 with fail
    have KS : Hid (∀ y, Below W4.heap.size W4 y → (fun y => Below W4.heap.size W4 y ∧ y.cell? ⟨N, 2, none⟩ = some (.int .i64 c.s1) ∧ y.cell? ⟨M, 2, none⟩ = some (.int .i64 d.s1) ∧ y.cell? ⟨N, 4, none⟩ = some (.slice a3 a4 a5) ∧ y.cell? ⟨M, 4, none⟩ = some (.slice b3 b4 b5) ∧ y.cell? ⟨N, 6, none⟩ = some (.slice a9 a10 a11) ∧ y.cell? ⟨M, 6, none⟩ = some (.slice b9 b10 b11)) y) := hid (fun y hb => ⟨hb, kp_cell (j := 2) (v := .int .i64 c.s1) (KA.out.step hb) rfl, kp_cell (j := 2) (v := .int .i64 d.s1) (KB.out.step hb) rfl, kp_cell (j := 4) (v := .slice a3 a4 a5) (KA.out.step hb) rfl, kp_cell (j := 4) (v := .slice b3 b4 b5) (KB.out.step hb) rfl, kp_cell (j := 6) (v := .slice a9 a10 a11) (KA.out.step hb) rfl, kp_cell (j := 6) (v := .slice b9 b10 b11) (KB.out.step hb) rfl⟩)
    refine wp_region_noPanic ?_
    refine wp_region_held_drew (S := fun y => Below W4.heap.size W4 y ∧ y.cell? ⟨N, 2, none⟩ = some (.int .i64 c.s1) ∧ y.cell? ⟨M, 2, none⟩ = some (.int .i64 d.s1) ∧ y.cell? ⟨N, 4, none⟩ = some (.slice a3 a4 a5) ∧ y.cell? ⟨M, 4, none⟩ = some (.slice b3 b4 b5) ∧ y.cell? ⟨N, 6, none⟩ = some (.slice a9 a10 a11) ∧ y.cell? ⟨M, 6, none⟩ = some (.slice b9 b10 b11)) (by kernel_rfl) (KS.out _ (bdrew (Below.refl _ _))) (fun hHeld => ?_)
    refine tk 0 (v := ?_) ?_ ?_
    rotate_left
    · intro w hSw; (try dsimp only at hSw); go_simp; (try with_reducible rfl)
    try simp only [Act.put, List.setIfInBounds_toArray, List.set_cons_zero, List.set_cons_succ]
    refine tk 1 (v := ?_) ?_ ?_
    rotate_left
    · intro w hSw; (try dsimp only at hSw); go_simp; (try with_reducible rfl)
    try simp only [Act.put, List.setIfInBounds_toArray, List.set_cons_zero, List.set_cons_succ]
    refine tk 2 (v := ?_) ?_ ?_
    rotate_left
    · intro w hSw; (try dsimp only at hSw); go_simp; (try with_reducible rfl)
    try simp only [Act.put, List.setIfInBounds_toArray, List.set_cons_zero, List.set_cons_succ]
    refine tk 3 (v := ?_) ?_ ?_
    rotate_left
    · intro w hSw; (try dsimp only at hSw); go_simp; (try with_reducible rfl)
    try simp only [Act.put, List.setIfInBounds_toArray, List.set_cons_zero, List.set_cons_succ]
    refine tk 4 (v := ?_) ?_ ?_
    rotate_left
    · intro w hSw; (try dsimp only at hSw); go_simp; (try with_reducible rfl)
    try simp only [Act.put, List.setIfInBounds_toArray, List.set_cons_zero, List.set_cons_succ]
    refine tk 5 (v := ?_) ?_ ?_
    rotate_left
    · intro w hSw; (try dsimp only at hSw); go_simp; (try with_reducible rfl)
    try simp only [Act.put, List.setIfInBounds_toArray, List.set_cons_zero, List.set_cons_succ]
    refine tk 6 (v := ?_) ?_ ?_
    rotate_left
    · intro w hSw; (try dsimp only at hSw); go_simp; (try with_reducible rfl)
    try simp only [Act.put, List.setIfInBounds_toArray, List.set_cons_zero, List.set_cons_succ]
    refine tk 7 (v := ?_) ?_ ?_
    rotate_left
    · intro w hSw; (try dsimp only at hSw); go_simp; (try with_reducible rfl)
    try simp only [Act.put, List.setIfInBounds_toArray, List.set_cons_zero, List.set_cons_succ]
    refine tk 8 (v := ?_) ?_ ?_
    rotate_left
    · intro w hSw; (try dsimp only at hSw); go_simp; (try with_reducible rfl)
    try simp only [Act.put, List.setIfInBounds_toArray, List.set_cons_zero, List.set_cons_succ]
    refine tk 9 (v := ?_) ?_ ?_
    rotate_left
    · intro w hSw; (try dsimp only at hSw); go_simp; (try with_reducible rfl)
    try simp only [Act.put, List.setIfInBounds_toArray, List.set_cons_zero, List.set_cons_succ]
    refine tks 10 ?_
    try simp only [Act.put, List.setIfInBounds_toArray, List.set_cons_zero, List.set_cons_succ]
    refine tks 11 ?_
    try simp only [Act.put, List.setIfInBounds_toArray, List.set_cons_zero, List.set_cons_succ]
    refine tks 12 ?_
    try simp only [Act.put, List.setIfInBounds_toArray, List.set_cons_zero, List.set_cons_succ]
    refine tks 13 ?_
    try simp only [Act.put, List.setIfInBounds_toArray, List.set_cons_zero, List.set_cons_succ]
    refine tks 14 ?_
    try simp only [Act.put, List.setIfInBounds_toArray, List.set_cons_zero, List.set_cons_succ]
    refine tks 15 ?_
    try simp only [Act.put, List.setIfInBounds_toArray, List.set_cons_zero, List.set_cons_succ]
    refine tks 16 ?_
    try simp only [Act.put, List.setIfInBounds_toArray, List.set_cons_zero, List.set_cons_succ]
    refine tks 17 ?_
    try simp only [Act.put, List.setIfInBounds_toArray, List.set_cons_zero, List.set_cons_succ]
    refine tks 18 ?_
    try simp only [Act.put, List.setIfInBounds_toArray, List.set_cons_zero, List.set_cons_succ]
    refine tks 19 ?_
    try simp only [Act.put, List.setIfInBounds_toArray, List.set_cons_zero, List.set_cons_succ]
    refine tk 20 (v := ?_) ?_ ?_
    rotate_left
    · intro w hSw; (try dsimp only at hSw); go_simp; (try with_reducible rfl)
    try simp only [Act.put, List.setIfInBounds_toArray, List.set_cons_zero, List.set_cons_succ]
    refine tk 21 (v := ?_) ?_ ?_
    rotate_left
    · intro w hSw; (try dsimp only at hSw); go_simp; (try with_reducible rfl)
    try simp only [Act.put, List.setIfInBounds_toArray, List.set_cons_zero, List.set_cons_succ]
    refine tks 22 ?_
    try simp only [Act.put, List.setIfInBounds_toArray, List.set_cons_zero, List.set_cons_succ]
    refine tks 23 ?_
    try simp only [Act.put, List.setIfInBounds_toArray, List.set_cons_zero, List.set_cons_succ]
    refine tks 24 ?_
    try simp only [Act.put, List.setIfInBounds_toArray, List.set_cons_zero, List.set_cons_succ]
    refine tks 25 ?_
    try simp only [Act.put, List.setIfInBounds_toArray, List.set_cons_zero, List.set_cons_succ]
    refine tks 26 ?_
    try simp only [Act.put, List.setIfInBounds_toArray, List.set_cons_zero, List.set_cons_succ]
    refine tks 27 ?_
    try simp only [Act.put, List.setIfInBounds_toArray, List.set_cons_zero, List.set_cons_succ]
    refine tks 28 ?_
    try simp only [Act.put, List.setIfInBounds_toArray, List.set_cons_zero, List.set_cons_succ]
    refine tks 29 ?_
    try simp only [Act.put, List.setIfInBounds_toArray, List.set_cons_zero, List.set_cons_succ]
    refine tks 30 ?_
    try simp only [Act.put, List.setIfInBounds_toArray, List.set_cons_zero, List.set_cons_succ]
    refine tks 31 ?_
    try simp only [Act.put, List.setIfInBounds_toArray, List.set_cons_zero, List.set_cons_succ]
    refine tk 32 (v := ?_) ?_ ?_
    rotate_left
    · intro w hSw; (try dsimp only at hSw); go_simp; (try with_reducible rfl)
    try simp only [Act.put, List.setIfInBounds_toArray, List.set_cons_zero, List.set_cons_succ]
    refine wpAnyH_done (by kernel_rfl) ?_ _
    refine NoPanic.normal ?_
    replace KA := hid (KA.out.step hHeld.1)
    go_wp2
    go_ret
    exact ⟨ret_bool (dsm_s (fun h => HS1.out h.2)).symm, KA.out.1⟩
  case pos =>
  have hst1 : (c.s1 != d.s1) = false := by simp [hs1]
  have HS1 := hid hs1
  clear hs1
  go_upto_region 4 with fail
  cases V1 with
  | false =>
    have KS : Hid (∀ y, Below W4.heap.size W4 y → (fun y => Below W4.heap.size W4 y ∧ y.cell? ⟨N, 2, none⟩ = some (.int .i64 c.s1) ∧ y.cell? ⟨M, 2, none⟩ = some (.int .i64 d.s1) ∧ y.cell? ⟨N, 4, none⟩ = some (.slice a3 a4 a5) ∧ y.cell? ⟨M, 4, none⟩ = some (.slice b3 b4 b5) ∧ y.cell? ⟨N, 6, none⟩ = some (.slice a9 a10 a11) ∧ y.cell? ⟨M, 6, none⟩ = some (.slice b9 b10 b11)) y) := hid (fun y hb => ⟨hb, kp_cell (j := 2) (v := .int .i64 c.s1) (KA.out.step hb) rfl, kp_cell (j := 2) (v := .int .i64 d.s1) (KB.out.step hb) rfl, kp_cell (j := 4) (v := .slice a3 a4 a5) (KA.out.step hb) rfl, kp_cell (j := 4) (v := .slice b3 b4 b5) (KB.out.step hb) rfl, kp_cell (j := 6) (v := .slice a9 a10 a11) (KA.out.step hb) rfl, kp_cell (j := 6) (v := .slice b9 b10 b11) (KB.out.step hb) rfl⟩)
    refine wp_region_noPanic ?_
    refine wp_region_held_drew (S := fun y => Below W4.heap.size W4 y ∧ y.cell? ⟨N, 2, none⟩ = some (.int .i64 c.s1) ∧ y.cell? ⟨M, 2, none⟩ = some (.int .i64 d.s1) ∧ y.cell? ⟨N, 4, none⟩ = some (.slice a3 a4 a5) ∧ y.cell? ⟨M, 4, none⟩ = some (.slice b3 b4 b5) ∧ y.cell? ⟨N, 6, none⟩ = some (.slice a9 a10 a11) ∧ y.cell? ⟨M, 6, none⟩ = some (.slice b9 b10 b11)) (by kernel_rfl) (KS.out _ (bdrew (Below.refl _ _))) (fun hHeld => ?_)
    refine tk 0 (v := ?_) ?_ ?_
    rotate_left
    · intro w hSw; (try dsimp only at hSw); go_simp; (try with_reducible rfl)
    try simp only [Act.put, List.setIfInBounds_toArray, List.set_cons_zero, List.set_cons_succ]
    refine tk 1 (v := ?_) ?_ ?_
    rotate_left
    · intro w hSw; (try dsimp only at hSw); go_simp; (try with_reducible rfl)
    try simp only [Act.put, List.setIfInBounds_toArray, List.set_cons_zero, List.set_cons_succ]
    refine tk 2 (v := ?_) ?_ ?_
    rotate_left
    · intro w hSw; (try dsimp only at hSw); go_simp; (try with_reducible rfl)
    try simp only [Act.put, List.setIfInBounds_toArray, List.set_cons_zero, List.set_cons_succ]
    refine tk 3 (v := ?_) ?_ ?_
    rotate_left
    · intro w hSw; (try dsimp only at hSw); go_simp; (try with_reducible rfl)
    try simp only [Act.put, List.setIfInBounds_toArray, List.set_cons_zero, List.set_cons_succ]
    refine tk 4 (v := ?_) ?_ ?_
    rotate_left
    · intro w hSw; (try dsimp only at hSw); go_simp; (try with_reducible rfl)
    try simp only [Act.put, List.setIfInBounds_toArray, List.set_cons_zero, List.set_cons_succ]
    refine tk 5 (v := ?_) ?_ ?_
    rotate_left
    · intro w hSw; (try dsimp only at hSw); go_simp; (try with_reducible rfl)
    try simp only [Act.put, List.setIfInBounds_toArray, List.set_cons_zero, List.set_cons_succ]
    refine tk 6 (v := ?_) ?_ ?_
    rotate_left
    · intro w hSw; (try dsimp only at hSw); go_simp; (try with_reducible rfl)
    try simp only [Act.put, List.setIfInBounds_toArray, List.set_cons_zero, List.set_cons_succ]
    refine tk 7 (v := ?_) ?_ ?_
    rotate_left
    · intro w hSw; (try dsimp only at hSw); go_simp; (try with_reducible rfl)
    try simp only [Act.put, List.setIfInBounds_toArray, List.set_cons_zero, List.set_cons_succ]
    refine tk 8 (v := ?_) ?_ ?_
    rotate_left
    · intro w hSw; (try dsimp only at hSw); go_simp; (try with_reducible rfl)
    try simp only [Act.put, List.setIfInBounds_toArray, List.set_cons_zero, List.set_cons_succ]
    refine tk 9 (v := ?_) ?_ ?_
    rotate_left
    · intro w hSw; (try dsimp only at hSw); go_simp; (try with_reducible rfl)
    try simp only [Act.put, List.setIfInBounds_toArray, List.set_cons_zero, List.set_cons_succ]
    refine tk 10 (v := ?_) ?_ ?_
    rotate_left
    · intro w hSw; (try dsimp only at hSw); go_simp; (try with_reducible rfl)
    try simp only [Act.put, List.setIfInBounds_toArray, List.set_cons_zero, List.set_cons_succ]
    refine tk 11 (v := ?_) ?_ ?_
    rotate_left
    · intro w hSw; (try dsimp only at hSw); go_simp; (try with_reducible rfl)
    try simp only [Act.put, List.setIfInBounds_toArray, List.set_cons_zero, List.set_cons_succ]
    refine tk 12 (v := ?_) ?_ ?_
    rotate_left
    · intro w hSw; (try dsimp only at hSw); go_simp; (try with_reducible rfl)
    try simp only [Act.put, List.setIfInBounds_toArray, List.set_cons_zero, List.set_cons_succ]
    refine tk 13 (v := ?_) ?_ ?_
    rotate_left
    · intro w hSw; (try dsimp only at hSw); go_simp; (try with_reducible rfl)
    try simp only [Act.put, List.setIfInBounds_toArray, List.set_cons_zero, List.set_cons_succ]
    refine tk 14 (v := ?_) ?_ ?_
    rotate_left
    · intro w hSw; (try dsimp only at hSw); go_simp; (try with_reducible rfl)
    try simp only [Act.put, List.setIfInBounds_toArray, List.set_cons_zero, List.set_cons_succ]
    refine tk 15 (v := ?_) ?_ ?_
    rotate_left
    · intro w hSw; (try dsimp only at hSw); go_simp; (try with_reducible rfl)
    try simp only [Act.put, List.setIfInBounds_toArray, List.set_cons_zero, List.set_cons_succ]
    refine tk 16 (v := ?_) ?_ ?_
    rotate_left
    · intro w hSw; (try dsimp only at hSw); go_simp; (try with_reducible rfl)
    try simp only [Act.put, List.setIfInBounds_toArray, List.set_cons_zero, List.set_cons_succ]
    refine tk 17 (v := ?_) ?_ ?_
    rotate_left
    · intro w hSw; (try dsimp only at hSw); go_simp; (try with_reducible rfl)
    try simp only [Act.put, List.setIfInBounds_toArray, List.set_cons_zero, List.set_cons_succ]
    refine rd1 18 (fun K hK => ?_)
    go_simp
    go_at_call 57; refine (rsame_m _ _ _ _ _ _ c.i1 d.i1 false _ (HW.out.1.2.below (bt KA.out.1 hHeld.1)) (HZ.out.1.2.below (bt KA.out.1 hHeld.1)) EV1).mono ?_; rintro e x1 ⟨rfl, hbx1⟩
    refine hK.out _ _ (KS.out _ (bt hHeld.1 hbx1)) (fun hHeld2 => ?_)
    clear hK K hHeld; have hHeld := hHeld2; clear hHeld2
    try simp only [Act.put, List.setIfInBounds_toArray, List.set_cons_zero, List.set_cons_succ]
    refine tk 19 (v := ?_) ?_ ?_
    rotate_left
    · intro w hSw; (try dsimp only at hSw); go_simp; (try with_reducible rfl)
    try simp only [Act.put, List.setIfInBounds_toArray, List.set_cons_zero, List.set_cons_succ]
    refine tk 20 (v := ?_) ?_ ?_
    rotate_left
    · intro w hSw; (try dsimp only at hSw); go_simp; (try with_reducible rfl)
    try simp only [Act.put, List.setIfInBounds_toArray, List.set_cons_zero, List.set_cons_succ]
    refine tk 21 (v := ?_) ?_ ?_
    rotate_left
    · intro w hSw; (try dsimp only at hSw); go_simp; (try with_reducible rfl)
    try simp only [Act.put, List.setIfInBounds_toArray, List.set_cons_zero, List.set_cons_succ]
    refine tks 22 ?_
    try simp only [Act.put, List.setIfInBounds_toArray, List.set_cons_zero, List.set_cons_succ]
    refine tks 23 ?_
    try simp only [Act.put, List.setIfInBounds_toArray, List.set_cons_zero, List.set_cons_succ]
    refine tks 24 ?_
    try simp only [Act.put, List.setIfInBounds_toArray, List.set_cons_zero, List.set_cons_succ]
    refine tks 25 ?_
    try simp only [Act.put, List.setIfInBounds_toArray, List.set_cons_zero, List.set_cons_succ]
    refine tks 26 ?_
    try simp only [Act.put, List.setIfInBounds_toArray, List.set_cons_zero, List.set_cons_succ]
    refine tks 27 ?_
    try simp only [Act.put, List.setIfInBounds_toArray, List.set_cons_zero, List.set_cons_succ]
    refine tks 28 ?_
    try simp only [Act.put, List.setIfInBounds_toArray, List.set_cons_zero, List.set_cons_succ]
    refine tks 29 ?_
    try simp only [Act.put, List.setIfInBounds_toArray, List.set_cons_zero, List.set_cons_succ]
    refine tks 30 ?_
    try simp only [Act.put, List.setIfInBounds_toArray, List.set_cons_zero, List.set_cons_succ]
    refine tks 31 ?_
    try simp only [Act.put, List.setIfInBounds_toArray, List.set_cons_zero, List.set_cons_succ]
    refine tk 32 (v := ?_) ?_ ?_
    rotate_left
    · intro w hSw; (try dsimp only at hSw); go_simp; (try with_reducible rfl)
    try simp only [Act.put, List.setIfInBounds_toArray, List.set_cons_zero, List.set_cons_succ]
    refine wpAnyH_done (by kernel_rfl) ?_ _
    refine NoPanic.normal ?_
    replace KA := hid (KA.out.step hHeld.1)
    go_wp2
    go_ret
    exact ⟨ret_bool (dsm_b (.inr (.inr (.inl EV1.out)))).symm, KA.out.1⟩
  | true =>
  cases U1 with
  | false =>
    have KS : Hid (∀ y, Below W4.heap.size W4 y → (fun y => Below W4.heap.size W4 y ∧ y.cell? ⟨N, 2, none⟩ = some (.int .i64 c.s1) ∧ y.cell? ⟨M, 2, none⟩ = some (.int .i64 d.s1) ∧ y.cell? ⟨N, 4, none⟩ = some (.slice a3 a4 a5) ∧ y.cell? ⟨M, 4, none⟩ = some (.slice b3 b4 b5) ∧ y.cell? ⟨N, 6, none⟩ = some (.slice a9 a10 a11) ∧ y.cell? ⟨M, 6, none⟩ = some (.slice b9 b10 b11)) y) := hid (fun y hb => ⟨hb, kp_cell (j := 2) (v := .int .i64 c.s1) (KA.out.step hb) rfl, kp_cell (j := 2) (v := .int .i64 d.s1) (KB.out.step hb) rfl, kp_cell (j := 4) (v := .slice a3 a4 a5) (KA.out.step hb) rfl, kp_cell (j := 4) (v := .slice b3 b4 b5) (KB.out.step hb) rfl, kp_cell (j := 6) (v := .slice a9 a10 a11) (KA.out.step hb) rfl, kp_cell (j := 6) (v := .slice b9 b10 b11) (KB.out.step hb) rfl⟩)
    refine wp_region_noPanic ?_
    refine wp_region_held_drew (S := fun y => Below W4.heap.size W4 y ∧ y.cell? ⟨N, 2, none⟩ = some (.int .i64 c.s1) ∧ y.cell? ⟨M, 2, none⟩ = some (.int .i64 d.s1) ∧ y.cell? ⟨N, 4, none⟩ = some (.slice a3 a4 a5) ∧ y.cell? ⟨M, 4, none⟩ = some (.slice b3 b4 b5) ∧ y.cell? ⟨N, 6, none⟩ = some (.slice a9 a10 a11) ∧ y.cell? ⟨M, 6, none⟩ = some (.slice b9 b10 b11)) (by kernel_rfl) (KS.out _ (bdrew (Below.refl _ _))) (fun hHeld => ?_)
    refine tk 0 (v := ?_) ?_ ?_
    rotate_left
    · intro w hSw; (try dsimp only at hSw); go_simp; (try with_reducible rfl)
    try simp only [Act.put, List.setIfInBounds_toArray, List.set_cons_zero, List.set_cons_succ]
    refine tk 1 (v := ?_) ?_ ?_
    rotate_left
    · intro w hSw; (try dsimp only at hSw); go_simp; (try with_reducible rfl)
    try simp only [Act.put, List.setIfInBounds_toArray, List.set_cons_zero, List.set_cons_succ]
    refine tk 2 (v := ?_) ?_ ?_
    rotate_left
    · intro w hSw; (try dsimp only at hSw); go_simp; (try with_reducible rfl)
    try simp only [Act.put, List.setIfInBounds_toArray, List.set_cons_zero, List.set_cons_succ]
    refine tk 3 (v := ?_) ?_ ?_
    rotate_left
    · intro w hSw; (try dsimp only at hSw); go_simp; (try with_reducible rfl)
    try simp only [Act.put, List.setIfInBounds_toArray, List.set_cons_zero, List.set_cons_succ]
    refine tk 4 (v := ?_) ?_ ?_
    rotate_left
    · intro w hSw; (try dsimp only at hSw); go_simp; (try with_reducible rfl)
    try simp only [Act.put, List.setIfInBounds_toArray, List.set_cons_zero, List.set_cons_succ]
    refine tk 5 (v := ?_) ?_ ?_
    rotate_left
    · intro w hSw; (try dsimp only at hSw); go_simp; (try with_reducible rfl)
    try simp only [Act.put, List.setIfInBounds_toArray, List.set_cons_zero, List.set_cons_succ]
    refine tk 6 (v := ?_) ?_ ?_
    rotate_left
    · intro w hSw; (try dsimp only at hSw); go_simp; (try with_reducible rfl)
    try simp only [Act.put, List.setIfInBounds_toArray, List.set_cons_zero, List.set_cons_succ]
    refine tk 7 (v := ?_) ?_ ?_
    rotate_left
    · intro w hSw; (try dsimp only at hSw); go_simp; (try with_reducible rfl)
    try simp only [Act.put, List.setIfInBounds_toArray, List.set_cons_zero, List.set_cons_succ]
    refine tk 8 (v := ?_) ?_ ?_
    rotate_left
    · intro w hSw; (try dsimp only at hSw); go_simp; (try with_reducible rfl)
    try simp only [Act.put, List.setIfInBounds_toArray, List.set_cons_zero, List.set_cons_succ]
    refine tk 9 (v := ?_) ?_ ?_
    rotate_left
    · intro w hSw; (try dsimp only at hSw); go_simp; (try with_reducible rfl)
    try simp only [Act.put, List.setIfInBounds_toArray, List.set_cons_zero, List.set_cons_succ]
    refine tk 10 (v := ?_) ?_ ?_
    rotate_left
    · intro w hSw; (try dsimp only at hSw); go_simp; (try with_reducible rfl)
    try simp only [Act.put, List.setIfInBounds_toArray, List.set_cons_zero, List.set_cons_succ]
    refine tk 11 (v := ?_) ?_ ?_
    rotate_left
    · intro w hSw; (try dsimp only at hSw); go_simp; (try with_reducible rfl)
    try simp only [Act.put, List.setIfInBounds_toArray, List.set_cons_zero, List.set_cons_succ]
    refine tk 12 (v := ?_) ?_ ?_
    rotate_left
    · intro w hSw; (try dsimp only at hSw); go_simp; (try with_reducible rfl)
    try simp only [Act.put, List.setIfInBounds_toArray, List.set_cons_zero, List.set_cons_succ]
    refine tk 13 (v := ?_) ?_ ?_
    rotate_left
    · intro w hSw; (try dsimp only at hSw); go_simp; (try with_reducible rfl)
    try simp only [Act.put, List.setIfInBounds_toArray, List.set_cons_zero, List.set_cons_succ]
    refine tk 14 (v := ?_) ?_ ?_
    rotate_left
    · intro w hSw; (try dsimp only at hSw); go_simp; (try with_reducible rfl)
    try simp only [Act.put, List.setIfInBounds_toArray, List.set_cons_zero, List.set_cons_succ]
    refine tk 15 (v := ?_) ?_ ?_
    rotate_left
    · intro w hSw; (try dsimp only at hSw); go_simp; (try with_reducible rfl)
    try simp only [Act.put, List.setIfInBounds_toArray, List.set_cons_zero, List.set_cons_succ]
    refine tk 16 (v := ?_) ?_ ?_
    rotate_left
    · intro w hSw; (try dsimp only at hSw); go_simp; (try with_reducible rfl)
    try simp only [Act.put, List.setIfInBounds_toArray, List.set_cons_zero, List.set_cons_succ]
    refine tk 17 (v := ?_) ?_ ?_
    rotate_left
    · intro w hSw; (try dsimp only at hSw); go_simp; (try with_reducible rfl)
    try simp only [Act.put, List.setIfInBounds_toArray, List.set_cons_zero, List.set_cons_succ]
    refine rd1 18 (fun K hK => ?_)
    go_simp
    go_at_call 57; refine (rsame_m _ _ _ _ _ _ c.i1 d.i1 true _ (HW.out.1.2.below (bt KA.out.1 hHeld.1)) (HZ.out.1.2.below (bt KA.out.1 hHeld.1)) EV1).mono ?_; rintro e x1 ⟨rfl, hbx1⟩
    refine hK.out _ _ (KS.out _ (bt hHeld.1 hbx1)) (fun hHeld2 => ?_)
    clear hK K hHeld; have hHeld := hHeld2; clear hHeld2
    try simp only [Act.put, List.setIfInBounds_toArray, List.set_cons_zero, List.set_cons_succ]
    refine tk 19 (v := ?_) ?_ ?_
    rotate_left
    · intro w hSw; (try dsimp only at hSw); go_simp; (try with_reducible rfl)
    try simp only [Act.put, List.setIfInBounds_toArray, List.set_cons_zero, List.set_cons_succ]
    refine tk 20 (v := ?_) ?_ ?_
    rotate_left
    · intro w hSw; (try dsimp only at hSw); go_simp; (try with_reducible rfl)
    try simp only [Act.put, List.setIfInBounds_toArray, List.set_cons_zero, List.set_cons_succ]
    refine tk 21 (v := ?_) ?_ ?_
    rotate_left
    · intro w hSw; (try dsimp only at hSw); go_simp; (try with_reducible rfl)
    try simp only [Act.put, List.setIfInBounds_toArray, List.set_cons_zero, List.set_cons_succ]
    refine tk 22 (v := ?_) ?_ ?_
    rotate_left
    · intro w hSw; (try dsimp only at hSw); go_simp; (try with_reducible rfl)
    try simp only [Act.put, List.setIfInBounds_toArray, List.set_cons_zero, List.set_cons_succ]
    refine tk 23 (v := ?_) ?_ ?_
    rotate_left
    · intro w hSw; (try dsimp only at hSw); go_simp; (try with_reducible rfl)
    try simp only [Act.put, List.setIfInBounds_toArray, List.set_cons_zero, List.set_cons_succ]
    refine tk 24 (v := ?_) ?_ ?_
    rotate_left
    · intro w hSw; (try dsimp only at hSw); go_simp; (try with_reducible rfl)
    try simp only [Act.put, List.setIfInBounds_toArray, List.set_cons_zero, List.set_cons_succ]
    refine tk 25 (v := ?_) ?_ ?_
    rotate_left
    · intro w hSw; (try dsimp only at hSw); go_simp; (try with_reducible rfl)
    try simp only [Act.put, List.setIfInBounds_toArray, List.set_cons_zero, List.set_cons_succ]
    refine tk 26 (v := ?_) ?_ ?_
    rotate_left
    · intro w hSw; (try dsimp only at hSw); go_simp; (try with_reducible rfl)
    try simp only [Act.put, List.setIfInBounds_toArray, List.set_cons_zero, List.set_cons_succ]
    refine tk 27 (v := ?_) ?_ ?_
    rotate_left
    · intro w hSw; (try dsimp only at hSw); go_simp; (try with_reducible rfl)
    try simp only [Act.put, List.setIfInBounds_toArray, List.set_cons_zero, List.set_cons_succ]
    refine tk 28 (v := ?_) ?_ ?_
    rotate_left
    · intro w hSw; (try dsimp only at hSw); go_simp; (try with_reducible rfl)
    try simp only [Act.put, List.setIfInBounds_toArray, List.set_cons_zero, List.set_cons_succ]
    refine tk 29 (v := ?_) ?_ ?_
    rotate_left
    · intro w hSw; (try dsimp only at hSw); go_simp; (try with_reducible rfl)
    try simp only [Act.put, List.setIfInBounds_toArray, List.set_cons_zero, List.set_cons_succ]
    refine rd1 30 (fun K hK => ?_)
    go_simp
    go_at_call 57; refine (rsame_m _ _ _ _ _ _ c.o1 d.o1 false _ (HW.out.2.2.below (bt KA.out.1 hHeld.1)) (HZ.out.2.2.below (bt KA.out.1 hHeld.1)) EU1).mono ?_; rintro e y1 ⟨rfl, hby1⟩
    refine hK.out _ _ (KS.out _ (bt hHeld.1 hby1)) (fun hHeld2 => ?_)
    clear hK K hHeld; have hHeld := hHeld2; clear hHeld2
    try simp only [Act.put, List.setIfInBounds_toArray, List.set_cons_zero, List.set_cons_succ]
    refine tk 31 (v := ?_) ?_ ?_
    rotate_left
    · intro w hSw; (try dsimp only at hSw); go_simp; (try with_reducible rfl)
    try simp only [Act.put, List.setIfInBounds_toArray, List.set_cons_zero, List.set_cons_succ]
    refine tk 32 (v := ?_) ?_ ?_
    rotate_left
    · intro w hSw; (try dsimp only at hSw); go_simp; (try with_reducible rfl)
    try simp only [Act.put, List.setIfInBounds_toArray, List.set_cons_zero, List.set_cons_succ]
    refine wpAnyH_done (by kernel_rfl) ?_ _
    refine NoPanic.normal ?_
    replace KA := hid (KA.out.step hHeld.1)
    go_wp2
    go_ret
    exact ⟨ret_bool (dsm_b (.inr (.inr (.inr EU1.out)))).symm, KA.out.1⟩
  | true =>
  have KS : Hid (∀ y, Below W4.heap.size W4 y → (fun y => Below W4.heap.size W4 y ∧ y.cell? ⟨N, 2, none⟩ = some (.int .i64 c.s1) ∧ y.cell? ⟨M, 2, none⟩ = some (.int .i64 d.s1) ∧ y.cell? ⟨N, 4, none⟩ = some (.slice a3 a4 a5) ∧ y.cell? ⟨M, 4, none⟩ = some (.slice b3 b4 b5) ∧ y.cell? ⟨N, 6, none⟩ = some (.slice a9 a10 a11) ∧ y.cell? ⟨M, 6, none⟩ = some (.slice b9 b10 b11)) y) := hid (fun y hb => ⟨hb, kp_cell (j := 2) (v := .int .i64 c.s1) (KA.out.step hb) rfl, kp_cell (j := 2) (v := .int .i64 d.s1) (KB.out.step hb) rfl, kp_cell (j := 4) (v := .slice a3 a4 a5) (KA.out.step hb) rfl, kp_cell (j := 4) (v := .slice b3 b4 b5) (KB.out.step hb) rfl, kp_cell (j := 6) (v := .slice a9 a10 a11) (KA.out.step hb) rfl, kp_cell (j := 6) (v := .slice b9 b10 b11) (KB.out.step hb) rfl⟩)
  refine wp_region_noPanic ?_
  refine wp_region_held_drew (S := fun y => Below W4.heap.size W4 y ∧ y.cell? ⟨N, 2, none⟩ = some (.int .i64 c.s1) ∧ y.cell? ⟨M, 2, none⟩ = some (.int .i64 d.s1) ∧ y.cell? ⟨N, 4, none⟩ = some (.slice a3 a4 a5) ∧ y.cell? ⟨M, 4, none⟩ = some (.slice b3 b4 b5) ∧ y.cell? ⟨N, 6, none⟩ = some (.slice a9 a10 a11) ∧ y.cell? ⟨M, 6, none⟩ = some (.slice b9 b10 b11)) (by kernel_rfl) (KS.out _ (bdrew (Below.refl _ _))) (fun hHeld => ?_)
  refine tk 0 (v := ?_) ?_ ?_
  rotate_left
  · intro w hSw; (try dsimp only at hSw); go_simp; (try with_reducible rfl)
  try simp only [Act.put, List.setIfInBounds_toArray, List.set_cons_zero, List.set_cons_succ]
  refine tk 1 (v := ?_) ?_ ?_
  rotate_left
  · intro w hSw; (try dsimp only at hSw); go_simp; (try with_reducible rfl)
  try simp only [Act.put, List.setIfInBounds_toArray, List.set_cons_zero, List.set_cons_succ]
  refine tk 2 (v := ?_) ?_ ?_
  rotate_left
  · intro w hSw; (try dsimp only at hSw); go_simp; (try with_reducible rfl)
  try simp only [Act.put, List.setIfInBounds_toArray, List.set_cons_zero, List.set_cons_succ]
  refine tk 3 (v := ?_) ?_ ?_
  rotate_left
  · intro w hSw; (try dsimp only at hSw); go_simp; (try with_reducible rfl)
  try simp only [Act.put, List.setIfInBounds_toArray, List.set_cons_zero, List.set_cons_succ]
  refine tk 4 (v := ?_) ?_ ?_
  rotate_left
  · intro w hSw; (try dsimp only at hSw); go_simp; (try with_reducible rfl)
  try simp only [Act.put, List.setIfInBounds_toArray, List.set_cons_zero, List.set_cons_succ]
  refine tk 5 (v := ?_) ?_ ?_
  rotate_left
  · intro w hSw; (try dsimp only at hSw); go_simp; (try with_reducible rfl)
  try simp only [Act.put, List.setIfInBounds_toArray, List.set_cons_zero, List.set_cons_succ]
  refine tk 6 (v := ?_) ?_ ?_
  rotate_left
  · intro w hSw; (try dsimp only at hSw); go_simp; (try with_reducible rfl)
  try simp only [Act.put, List.setIfInBounds_toArray, List.set_cons_zero, List.set_cons_succ]
  refine tk 7 (v := ?_) ?_ ?_
  rotate_left
  · intro w hSw; (try dsimp only at hSw); go_simp; (try with_reducible rfl)
  try simp only [Act.put, List.setIfInBounds_toArray, List.set_cons_zero, List.set_cons_succ]
  refine tk 8 (v := ?_) ?_ ?_
  rotate_left
  · intro w hSw; (try dsimp only at hSw); go_simp; (try with_reducible rfl)
  try simp only [Act.put, List.setIfInBounds_toArray, List.set_cons_zero, List.set_cons_succ]
  refine tk 9 (v := ?_) ?_ ?_
  rotate_left
  · intro w hSw; (try dsimp only at hSw); go_simp; (try with_reducible rfl)
  try simp only [Act.put, List.setIfInBounds_toArray, List.set_cons_zero, List.set_cons_succ]
  refine tk 10 (v := ?_) ?_ ?_
  rotate_left
  · intro w hSw; (try dsimp only at hSw); go_simp; (try with_reducible rfl)
  try simp only [Act.put, List.setIfInBounds_toArray, List.set_cons_zero, List.set_cons_succ]
  refine tk 11 (v := ?_) ?_ ?_
  rotate_left
  · intro w hSw; (try dsimp only at hSw); go_simp; (try with_reducible rfl)
  try simp only [Act.put, List.setIfInBounds_toArray, List.set_cons_zero, List.set_cons_succ]
  refine tk 12 (v := ?_) ?_ ?_
  rotate_left
  · intro w hSw; (try dsimp only at hSw); go_simp; (try with_reducible rfl)
  try simp only [Act.put, List.setIfInBounds_toArray, List.set_cons_zero, List.set_cons_succ]
  refine tk 13 (v := ?_) ?_ ?_
  rotate_left
  · intro w hSw; (try dsimp only at hSw); go_simp; (try with_reducible rfl)
  try simp only [Act.put, List.setIfInBounds_toArray, List.set_cons_zero, List.set_cons_succ]
  refine tk 14 (v := ?_) ?_ ?_
  rotate_left
  · intro w hSw; (try dsimp only at hSw); go_simp; (try with_reducible rfl)
  try simp only [Act.put, List.setIfInBounds_toArray, List.set_cons_zero, List.set_cons_succ]
  refine tk 15 (v := ?_) ?_ ?_
  rotate_left
  · intro w hSw; (try dsimp only at hSw); go_simp; (try with_reducible rfl)
  try simp only [Act.put, List.setIfInBounds_toArray, List.set_cons_zero, List.set_cons_succ]
  refine tk 16 (v := ?_) ?_ ?_
  rotate_left
  · intro w hSw; (try dsimp only at hSw); go_simp; (try with_reducible rfl)
  try simp only [Act.put, List.setIfInBounds_toArray, List.set_cons_zero, List.set_cons_succ]
  refine tk 17 (v := ?_) ?_ ?_
  rotate_left
  · intro w hSw; (try dsimp only at hSw); go_simp; (try with_reducible rfl)
  try simp only [Act.put, List.setIfInBounds_toArray, List.set_cons_zero, List.set_cons_succ]
  refine rd1 18 (fun K hK => ?_)
  go_simp
  go_at_call 57; refine (rsame_m _ _ _ _ _ _ c.i1 d.i1 true _ (HW.out.1.2.below (bt KA.out.1 hHeld.1)) (HZ.out.1.2.below (bt KA.out.1 hHeld.1)) EV1).mono ?_; rintro e x1 ⟨rfl, hbx1⟩
  refine hK.out _ _ (KS.out _ (bt hHeld.1 hbx1)) (fun hHeld2 => ?_)
  clear hK K hHeld; have hHeld := hHeld2; clear hHeld2
  try simp only [Act.put, List.setIfInBounds_toArray, List.set_cons_zero, List.set_cons_succ]
  refine tk 19 (v := ?_) ?_ ?_
  rotate_left
  · intro w hSw; (try dsimp only at hSw); go_simp; (try with_reducible rfl)
  try simp only [Act.put, List.setIfInBounds_toArray, List.set_cons_zero, List.set_cons_succ]
  refine tk 20 (v := ?_) ?_ ?_
  rotate_left
  · intro w hSw; (try dsimp only at hSw); go_simp; (try with_reducible rfl)
  try simp only [Act.put, List.setIfInBounds_toArray, List.set_cons_zero, List.set_cons_succ]
  refine tk 21 (v := ?_) ?_ ?_
  rotate_left
  · intro w hSw; (try dsimp only at hSw); go_simp; (try with_reducible rfl)
  try simp only [Act.put, List.setIfInBounds_toArray, List.set_cons_zero, List.set_cons_succ]
  refine tk 22 (v := ?_) ?_ ?_
  rotate_left
  · intro w hSw; (try dsimp only at hSw); go_simp; (try with_reducible rfl)
  try simp only [Act.put, List.setIfInBounds_toArray, List.set_cons_zero, List.set_cons_succ]
  refine tk 23 (v := ?_) ?_ ?_
  rotate_left
  · intro w hSw; (try dsimp only at hSw); go_simp; (try with_reducible rfl)
  try simp only [Act.put, List.setIfInBounds_toArray, List.set_cons_zero, List.set_cons_succ]
  refine tk 24 (v := ?_) ?_ ?_
  rotate_left
  · intro w hSw; (try dsimp only at hSw); go_simp; (try with_reducible rfl)
  try simp only [Act.put, List.setIfInBounds_toArray, List.set_cons_zero, List.set_cons_succ]
  refine tk 25 (v := ?_) ?_ ?_
  rotate_left
  · intro w hSw; (try dsimp only at hSw); go_simp; (try with_reducible rfl)
  try simp only [Act.put, List.setIfInBounds_toArray, List.set_cons_zero, List.set_cons_succ]
  refine tk 26 (v := ?_) ?_ ?_
  rotate_left
  · intro w hSw; (try dsimp only at hSw); go_simp; (try with_reducible rfl)
  try simp only [Act.put, List.setIfInBounds_toArray, List.set_cons_zero, List.set_cons_succ]
  refine tk 27 (v := ?_) ?_ ?_
  rotate_left
  · intro w hSw; (try dsimp only at hSw); go_simp; (try with_reducible rfl)
  try simp only [Act.put, List.setIfInBounds_toArray, List.set_cons_zero, List.set_cons_succ]
  refine tk 28 (v := ?_) ?_ ?_
  rotate_left
  · intro w hSw; (try dsimp only at hSw); go_simp; (try with_reducible rfl)
  try simp only [Act.put, List.setIfInBounds_toArray, List.set_cons_zero, List.set_cons_succ]
  refine tk 29 (v := ?_) ?_ ?_
  rotate_left
  · intro w hSw; (try dsimp only at hSw); go_simp; (try with_reducible rfl)
  try simp only [Act.put, List.setIfInBounds_toArray, List.set_cons_zero, List.set_cons_succ]
  refine rd1 30 (fun K hK => ?_)
  go_simp
  go_at_call 57; refine (rsame_m _ _ _ _ _ _ c.o1 d.o1 true _ (HW.out.2.2.below (bt KA.out.1 hHeld.1)) (HZ.out.2.2.below (bt KA.out.1 hHeld.1)) EU1).mono ?_; rintro e y1 ⟨rfl, hby1⟩
  refine hK.out _ _ (KS.out _ (bt hHeld.1 hby1)) (fun hHeld2 => ?_)
  clear hK K hHeld; have hHeld := hHeld2; clear hHeld2
  try simp only [Act.put, List.setIfInBounds_toArray, List.set_cons_zero, List.set_cons_succ]
  refine tk 31 (v := ?_) ?_ ?_
  rotate_left
  · intro w hSw; (try dsimp only at hSw); go_simp; (try with_reducible rfl)
  try simp only [Act.put, List.setIfInBounds_toArray, List.set_cons_zero, List.set_cons_succ]
  refine tk 32 (v := ?_) ?_ ?_
  rotate_left
  · intro w hSw; (try dsimp only at hSw); go_simp; (try with_reducible rfl)
  try simp only [Act.put, List.setIfInBounds_toArray, List.set_cons_zero, List.set_cons_succ]
  refine wpAnyH_done (by kernel_rfl) ?_ _
  refine NoPanic.normal ?_
  replace KA := hid (KA.out.step hHeld.1)
  replace KB := hid (KB.out.step hHeld.1)
  clear hHeld KS hbx1 hby1
  go_wp2
  rw [rounds_succ]
  obtain ⟨f0, _, _, _, _, _, _⟩ := box_seven KA.out.2.2
  obtain ⟨g0, _, _, _, _, _, _⟩ := box_seven KB.out.2.2
  by_cases hn : c.n = d.n
  · have hnt : (c.n == d.n) = true := by simp [hn]
    have HN := hid hn
    clear hn
    go_wp2
    go_ret
    exact ⟨ret_bool (dsm_all HN.out ⟨HS0.out, HS1.out⟩ EV0.out EU0.out EV1.out EU1.out).symm, KA.out.1⟩
  · have hnt : (c.n == d.n) = false := by simp [hn]
    have HN := hid hn
    clear hn
    go_wp2
    go_ret
    exact ⟨ret_bool (dsm_n HN.out).symm, KA.out.1⟩

end Go.Proofs.Ytjkkajhjcinalaa

/-
  -
  -
  -
  -
  -
  -
  -
  -
  -
  Conditions: as each theorem states them.
-/
import Derived.Deep.MidRow
import Derived.Deep.Slices
import Derived.Shelf.SortM.Plain
import Derived.Shelf.SortM.SortNone
import Derived.Test.YtjkkajhjcinalaaRows
import Derived.Test.YtjkkajhjcinalaaQAB
import Derived.Test.YtjkkajhjcinalaaQAC
namespace Go.Proofs.Ytjkkajhjcinalaa
open Go.ChangeShapes Go.WideShapes Go.ChangeAt Go.RowKit
set_option linter.unusedVariables false
set_option linter.unusedSimpArgs false
set_option maxRecDepth 100000

theorem Kp.five {w W y : World} {N : Nat} {a b c d e : Value} {t : TypeId} (h : Kp w W N (.cells #[a, b, c, d, e] t)) (hb : Below W.heap.size W y) :
    Below W.heap.size W y ∧ y.cell? ⟨N, 0, none⟩ = some a ∧ y.cell? ⟨N, 1, none⟩ = some b ∧ y.cell? ⟨N, 2, none⟩ = some c ∧ y.cell? ⟨N, 3, none⟩ = some d ∧ y.cell? ⟨N, 4, none⟩ = some e := ⟨hb, box_five (h.step hb).2.2⟩
theorem cg_n0 {m : Int} {c : Cl} (h : ¬ (1 ≤ c.n ∧ c.n ≤ 1099511627776)) : cg m c = false := cg_no (fun g => h g.1)
theorem cg_r0 {m : Int} {c : Cl} (h : rk c.n c.s0 c.b0 = false) : cg m c = false := cg_no (fun g => by rw [rk_yes g.2.1] at h; cases h)
theorem cg_one {c : Cl} (h : 1 ≤ c.n ∧ c.n ≤ 1099511627776) (h0 : rk c.n c.s0 c.b0 = true) : cg 1 c = (decide (c.s1 = 0) && c.b1.isEmpty) := by
  unfold cg
  rw [decide_eq_true h, h0]
  simp
theorem cg_two {c : Cl} (h : 1 ≤ c.n ∧ c.n ≤ 1099511627776) (h0 : rk c.n c.s0 c.b0 = true) : cg 2 c = rk c.n c.s1 c.b1 := by
  unfold cg
  rw [decide_eq_true h, h0]
  simp
theorem len_emp {p : Nat} {l : List Rn} (h : p = l.length) : l.isEmpty = decide (p = 0) := by
  cases l with
  | nil => subst h; rfl
  | cons x l => subst h; simp

set_option maxHeartbeats 16000000 in
theorem cgood_m (m : Int) (c : Cl) (a0 : Option Addr) (p0 k0 : Nat) (a1 : Option Addr) (p1 k1 : Nat) (v : Bool) (w : World) (hw : CW w a0 p0 k0 a1 p1 k1 c) (hk : okc c) (hv : Hid (cg m c = v)) :
    Calls Try.prog 19 #[.int .i64 m, .agg #[.int .i64 c.n, .int .i64 c.s0, .int .i64 c.s1, .slice a0 p0 k0, .slice a1 p1 k1]] w fun e w' => e = .returned (.bool v) ∧ Below w.heap.size w w' := by
  have h := hv.out
  subst h
  clear hv
  obtain ⟨l1, l2⟩ := hw.1.lens
  obtain ⟨u1, u2⟩ := hw.2.lens
  obtain ⟨o1, o2, o3, o4, o5⟩ := hk
  have HW := hid hw
  have O2 := hid o2
  have O3 := hid o3
  have K4 := hid o4
  have K5 := hid o5
  have EU := hid u1
  clear hw l1 u1 o1 o2 o3 o4 o5
  have i0 : ∀ w, (Instr.index 24 (.agg #[.slice a0 p0 k0, .slice a1 p1 k1]) (.int .i64 0)).run Try.prog w = .ok (.slice a0 p0 k0) w := fun _ => by kernel_rfl
  have i1 : ∀ w, (Instr.index 24 (.agg #[.slice a0 p0 k0, .slice a1 p1 k1]) (.int .i64 1)).run Try.prog w = .ok (.slice a1 p1 k1) w := fun _ => by kernel_rfl
  by_cases hm : m = 1 ∨ m = 2
  · have HM : Hid ((decide (m = 1) || decide (m = 2)) = true) := hid (by simp only [Bool.or_eq_true, decide_eq_true_iff]; exact hm)
    by_cases hn : 1 ≤ c.n ∧ c.n ≤ 1099511627776
    · have hn1 : decide (c.n < 1) = false := decide_eq_false (by omega)
      have hn2 : decide (1099511627776 < c.n) = false := decide_eq_false (by omega)
      have HN := hid hn
      obtain ⟨r0, e0⟩ : ∃ x, rk c.n c.s0 c.b0 = x := ⟨_, rfl⟩
      have E0 := hid e0
      have m0 : (0 : Int) < m := by omega
      have m0d : decide ((0 : Int) < m) = true := decide_eq_true m0
      have m0f : decide (m ≤ (0 : Int)) = false := decide_eq_false (by omega)
      have hlen : (p1 : Int) ≤ 9223372036854775807 := by omega
      have K0 := hid (kp_new w (.cells #[.int .i64 c.n, .int .i64 c.s0, .int .i64 c.s1, .slice a0 p0 k0, .slice a1 p1 k1] 26))
      clear hn
      cases r0 with
      | false =>
        rw [cg_r0 e0]
        clear e0 hm
        go_enter Try.func19, Try.ntmps19
        go_upto_region 4 with (go_at_call 54; refine (meas_m _ true _ HM).mono ?_; rintro e w1 ⟨rfl, hb1⟩; have B1 := hid hb1; clear hb1; obtain ⟨_, d0, d1, d2, d3, d4⟩ := K0.out.five B1.out)
        have K1 := hid (K0.out.step B1.out)
        have KS : Hid (∀ y, Below w1.heap.size w1 y → Below w1.heap.size w1 y ∧ y.cell? ⟨w.heap.size, 0, none⟩ = some (.int .i64 c.n) ∧ y.cell? ⟨w.heap.size, 1, none⟩ = some (.int .i64 c.s0) ∧ y.cell? ⟨w.heap.size, 2, none⟩ = some (.int .i64 c.s1) ∧ y.cell? ⟨w.heap.size, 3, none⟩ = some (.slice a0 p0 k0) ∧ y.cell? ⟨w.heap.size, 4, none⟩ = some (.slice a1 p1 k1)) := hid (fun y hb => K1.out.five hb)
        clear d0 d1 d2 d3 d4
        refine wp_loop_rounds 3 ?_
        rw [rounds_succ]
        go_wp2
        go_region_held3 (fun y => Below w1.heap.size w1 y ∧ y.cell? ⟨w.heap.size, 0, none⟩ = some (.int .i64 c.n) ∧ y.cell? ⟨w.heap.size, 1, none⟩ = some (.int .i64 c.s0) ∧ y.cell? ⟨w.heap.size, 2, none⟩ = some (.int .i64 c.s1) ∧ y.cell? ⟨w.heap.size, 3, none⟩ = some (.slice a0 p0 k0) ∧ y.cell? ⟨w.heap.size, 4, none⟩ = some (.slice a1 p1 k1))
          (first | assumption | exact keep_drew KS | exact keep_step (by assumption) (by assumption) KS)
          (first
            | (go_at_call 58; refine (reck_m _ _ _ _ _ _ false _ (HW.out.1.below (bt (bt K0.out.1 B1.out) (And.left (by assumption)))) K4.out HN.out.1 O2.out E0).mono ?_; rintro e w2 ⟨rfl, hb2⟩))
        go_wp2
        go_ret
        exact ⟨rfl, bt K1.out.1 (undrew hb2)⟩
      | true =>
        rcases hm with rfl | rfl
        · rw [cg_one HN.out e0, len_emp EU.out]
          clear e0
          by_cases hs : c.s1 = 0
          · have hsd : (c.s1 != 0) = false := by simp [hs]
            by_cases hp : p1 = 0
            · have hpd : decide ((0 : Int) < (p1 : Int)) = false := decide_eq_false (by omega)
              have hpe : decide (0 < p1) = false := decide_eq_false (by omega)
              rw [decide_eq_true hs, decide_eq_true hp]
              clear hs hp
              go_enter Try.func19, Try.ntmps19
              go_upto_region 4 with (go_at_call 54; refine (meas_m _ true _ HM).mono ?_; rintro e w1 ⟨rfl, hb1⟩; have B1 := hid hb1; clear hb1; obtain ⟨_, d0, d1, d2, d3, d4⟩ := K0.out.five B1.out)
              have K1 := hid (K0.out.step B1.out)
              have KS : Hid (∀ y, Below w1.heap.size w1 y → Below w1.heap.size w1 y ∧ y.cell? ⟨w.heap.size, 0, none⟩ = some (.int .i64 c.n) ∧ y.cell? ⟨w.heap.size, 1, none⟩ = some (.int .i64 c.s0) ∧ y.cell? ⟨w.heap.size, 2, none⟩ = some (.int .i64 c.s1) ∧ y.cell? ⟨w.heap.size, 3, none⟩ = some (.slice a0 p0 k0) ∧ y.cell? ⟨w.heap.size, 4, none⟩ = some (.slice a1 p1 k1)) := hid (fun y hb => K1.out.five hb)
              clear d0 d1 d2 d3 d4
              refine wp_loop_rounds 3 ?_
              rw [rounds_succ]
              go_wp2
              go_region_held3 (fun y => Below w1.heap.size w1 y ∧ y.cell? ⟨w.heap.size, 0, none⟩ = some (.int .i64 c.n) ∧ y.cell? ⟨w.heap.size, 1, none⟩ = some (.int .i64 c.s0) ∧ y.cell? ⟨w.heap.size, 2, none⟩ = some (.int .i64 c.s1) ∧ y.cell? ⟨w.heap.size, 3, none⟩ = some (.slice a0 p0 k0) ∧ y.cell? ⟨w.heap.size, 4, none⟩ = some (.slice a1 p1 k1))
                (first | assumption | exact keep_drew KS | exact keep_step (by assumption) (by assumption) KS)
                (first
                  | (go_at_call 58; refine (reck_m _ _ _ _ _ _ true _ (HW.out.1.below (bt (bt K0.out.1 B1.out) (And.left (by assumption)))) K4.out HN.out.1 O2.out E0).mono ?_; rintro e w2 ⟨rfl, hb2⟩))
              have K2 := hid (K1.out.step (undrew hb2))
              obtain ⟨d0, d1, d2, d3, d4⟩ := box_five K2.out.2.2
              go_wp2
              rw [rounds_succ]
              go_wp2
              have KS2 : Hid (∀ y, Below w2.heap.size w2 y → Below w2.heap.size w2 y ∧ y.cell? ⟨w.heap.size, 0, none⟩ = some (.int .i64 c.n) ∧ y.cell? ⟨w.heap.size, 1, none⟩ = some (.int .i64 c.s0) ∧ y.cell? ⟨w.heap.size, 2, none⟩ = some (.int .i64 c.s1) ∧ y.cell? ⟨w.heap.size, 3, none⟩ = some (.slice a0 p0 k0) ∧ y.cell? ⟨w.heap.size, 4, none⟩ = some (.slice a1 p1 k1)) := hid (fun y hb => K2.out.five hb)
              refine wp_region_noPanic ?_
              refine wp_region_held_drew (S := fun y => Below w2.heap.size w2 y ∧ y.cell? ⟨w.heap.size, 0, none⟩ = some (.int .i64 c.n) ∧ y.cell? ⟨w.heap.size, 1, none⟩ = some (.int .i64 c.s0) ∧ y.cell? ⟨w.heap.size, 2, none⟩ = some (.int .i64 c.s1) ∧ y.cell? ⟨w.heap.size, 3, none⟩ = some (.slice a0 p0 k0) ∧ y.cell? ⟨w.heap.size, 4, none⟩ = some (.slice a1 p1 k1)) (by kernel_rfl) (keep_drew KS2) (fun hHeld => ?_)
              refine tk 0 (v := ?_) ?_ ?_
              rotate_left
              · intro w hSw; (try dsimp only at hSw); go_simp; (try with_reducible rfl)
              try simp only [Act.put, List.setIfInBounds_toArray, List.set_cons_zero, List.set_cons_succ]
              refine tk 1 (v := ?_) ?_ ?_
              rotate_left
              · intro w hSw; (try dsimp only at hSw); go_simp; (try with_reducible rfl)
              try simp only [Act.put, List.setIfInBounds_toArray, List.set_cons_zero, List.set_cons_succ]
              refine tk 2 (v := ?_) ?_ ?_
              rotate_left
              · intro w hSw; (try dsimp only at hSw); go_simp; (try with_reducible rfl)
              try simp only [Act.put, List.setIfInBounds_toArray, List.set_cons_zero, List.set_cons_succ]
              refine tk 3 (v := ?_) ?_ ?_
              rotate_left
              · intro w hSw; (try dsimp only at hSw); go_simp; (try with_reducible rfl)
              try simp only [Act.put, List.setIfInBounds_toArray, List.set_cons_zero, List.set_cons_succ]
              refine tks 4 ?_
              try simp only [Act.put, List.setIfInBounds_toArray, List.set_cons_zero, List.set_cons_succ]
              refine tks 5 ?_
              try simp only [Act.put, List.setIfInBounds_toArray, List.set_cons_zero, List.set_cons_succ]
              refine tks 6 ?_
              try simp only [Act.put, List.setIfInBounds_toArray, List.set_cons_zero, List.set_cons_succ]
              refine tks 7 ?_
              try simp only [Act.put, List.setIfInBounds_toArray, List.set_cons_zero, List.set_cons_succ]
              refine tks 8 ?_
              try simp only [Act.put, List.setIfInBounds_toArray, List.set_cons_zero, List.set_cons_succ]
              refine tks 9 ?_
              try simp only [Act.put, List.setIfInBounds_toArray, List.set_cons_zero, List.set_cons_succ]
              refine tks 10 ?_
              try simp only [Act.put, List.setIfInBounds_toArray, List.set_cons_zero, List.set_cons_succ]
              refine tks 11 ?_
              try simp only [Act.put, List.setIfInBounds_toArray, List.set_cons_zero, List.set_cons_succ]
              refine tks 12 ?_
              try simp only [Act.put, List.setIfInBounds_toArray, List.set_cons_zero, List.set_cons_succ]
              refine tk 13 (v := ?_) ?_ ?_
              rotate_left
              · intro w hSw; (try dsimp only at hSw); go_simp; (try with_reducible rfl)
              try simp only [Act.put, List.setIfInBounds_toArray, List.set_cons_zero, List.set_cons_succ]
              refine wpAnyH_done (by kernel_rfl) ?_ _
              refine NoPanic.normal ?_
              have K3 := hid (K2.out.step (Below.refl _ _).drew)
              obtain ⟨d0', d1', d2', d3', d4'⟩ := box_five K3.out.2.2
              go_wp2
              try rw [rounds_succ]
              try go_wp2
              go_ret
              exact ⟨rfl, K3.out.1⟩
            · have hpd : decide ((0 : Int) < (p1 : Int)) = true := decide_eq_true (by omega)
              have hpe : decide (0 < p1) = true := decide_eq_true (by omega)
              rw [decide_eq_true hs, decide_eq_false hp]
              clear hs hp
              go_enter Try.func19, Try.ntmps19
              go_upto_region 4 with (go_at_call 54; refine (meas_m _ true _ HM).mono ?_; rintro e w1 ⟨rfl, hb1⟩; have B1 := hid hb1; clear hb1; obtain ⟨_, d0, d1, d2, d3, d4⟩ := K0.out.five B1.out)
              have K1 := hid (K0.out.step B1.out)
              have KS : Hid (∀ y, Below w1.heap.size w1 y → Below w1.heap.size w1 y ∧ y.cell? ⟨w.heap.size, 0, none⟩ = some (.int .i64 c.n) ∧ y.cell? ⟨w.heap.size, 1, none⟩ = some (.int .i64 c.s0) ∧ y.cell? ⟨w.heap.size, 2, none⟩ = some (.int .i64 c.s1) ∧ y.cell? ⟨w.heap.size, 3, none⟩ = some (.slice a0 p0 k0) ∧ y.cell? ⟨w.heap.size, 4, none⟩ = some (.slice a1 p1 k1)) := hid (fun y hb => K1.out.five hb)
              clear d0 d1 d2 d3 d4
              refine wp_loop_rounds 3 ?_
              rw [rounds_succ]
              go_wp2
              go_region_held3 (fun y => Below w1.heap.size w1 y ∧ y.cell? ⟨w.heap.size, 0, none⟩ = some (.int .i64 c.n) ∧ y.cell? ⟨w.heap.size, 1, none⟩ = some (.int .i64 c.s0) ∧ y.cell? ⟨w.heap.size, 2, none⟩ = some (.int .i64 c.s1) ∧ y.cell? ⟨w.heap.size, 3, none⟩ = some (.slice a0 p0 k0) ∧ y.cell? ⟨w.heap.size, 4, none⟩ = some (.slice a1 p1 k1))
                (first | assumption | exact keep_drew KS | exact keep_step (by assumption) (by assumption) KS)
                (first
                  | (go_at_call 58; refine (reck_m _ _ _ _ _ _ true _ (HW.out.1.below (bt (bt K0.out.1 B1.out) (And.left (by assumption)))) K4.out HN.out.1 O2.out E0).mono ?_; rintro e w2 ⟨rfl, hb2⟩))
              have K2 := hid (K1.out.step (undrew hb2))
              obtain ⟨d0, d1, d2, d3, d4⟩ := box_five K2.out.2.2
              go_wp2
              rw [rounds_succ]
              go_wp2
              have KS2 : Hid (∀ y, Below w2.heap.size w2 y → Below w2.heap.size w2 y ∧ y.cell? ⟨w.heap.size, 0, none⟩ = some (.int .i64 c.n) ∧ y.cell? ⟨w.heap.size, 1, none⟩ = some (.int .i64 c.s0) ∧ y.cell? ⟨w.heap.size, 2, none⟩ = some (.int .i64 c.s1) ∧ y.cell? ⟨w.heap.size, 3, none⟩ = some (.slice a0 p0 k0) ∧ y.cell? ⟨w.heap.size, 4, none⟩ = some (.slice a1 p1 k1)) := hid (fun y hb => K2.out.five hb)
              refine wp_region_noPanic ?_
              refine wp_region_held_drew (S := fun y => Below w2.heap.size w2 y ∧ y.cell? ⟨w.heap.size, 0, none⟩ = some (.int .i64 c.n) ∧ y.cell? ⟨w.heap.size, 1, none⟩ = some (.int .i64 c.s0) ∧ y.cell? ⟨w.heap.size, 2, none⟩ = some (.int .i64 c.s1) ∧ y.cell? ⟨w.heap.size, 3, none⟩ = some (.slice a0 p0 k0) ∧ y.cell? ⟨w.heap.size, 4, none⟩ = some (.slice a1 p1 k1)) (by kernel_rfl) (keep_drew KS2) (fun hHeld => ?_)
              refine tk 0 (v := ?_) ?_ ?_
              rotate_left
              · intro w hSw; (try dsimp only at hSw); go_simp; (try with_reducible rfl)
              try simp only [Act.put, List.setIfInBounds_toArray, List.set_cons_zero, List.set_cons_succ]
              refine tk 1 (v := ?_) ?_ ?_
              rotate_left
              · intro w hSw; (try dsimp only at hSw); go_simp; (try with_reducible rfl)
              try simp only [Act.put, List.setIfInBounds_toArray, List.set_cons_zero, List.set_cons_succ]
              refine tk 2 (v := ?_) ?_ ?_
              rotate_left
              · intro w hSw; (try dsimp only at hSw); go_simp; (try with_reducible rfl)
              try simp only [Act.put, List.setIfInBounds_toArray, List.set_cons_zero, List.set_cons_succ]
              refine tk 3 (v := ?_) ?_ ?_
              rotate_left
              · intro w hSw; (try dsimp only at hSw); go_simp; (try with_reducible rfl)
              try simp only [Act.put, List.setIfInBounds_toArray, List.set_cons_zero, List.set_cons_succ]
              refine tks 4 ?_
              try simp only [Act.put, List.setIfInBounds_toArray, List.set_cons_zero, List.set_cons_succ]
              refine tks 5 ?_
              try simp only [Act.put, List.setIfInBounds_toArray, List.set_cons_zero, List.set_cons_succ]
              refine tks 6 ?_
              try simp only [Act.put, List.setIfInBounds_toArray, List.set_cons_zero, List.set_cons_succ]
              refine tks 7 ?_
              try simp only [Act.put, List.setIfInBounds_toArray, List.set_cons_zero, List.set_cons_succ]
              refine tks 8 ?_
              try simp only [Act.put, List.setIfInBounds_toArray, List.set_cons_zero, List.set_cons_succ]
              refine tks 9 ?_
              try simp only [Act.put, List.setIfInBounds_toArray, List.set_cons_zero, List.set_cons_succ]
              refine tks 10 ?_
              try simp only [Act.put, List.setIfInBounds_toArray, List.set_cons_zero, List.set_cons_succ]
              refine tks 11 ?_
              try simp only [Act.put, List.setIfInBounds_toArray, List.set_cons_zero, List.set_cons_succ]
              refine tks 12 ?_
              try simp only [Act.put, List.setIfInBounds_toArray, List.set_cons_zero, List.set_cons_succ]
              refine tk 13 (v := ?_) ?_ ?_
              rotate_left
              · intro w hSw; (try dsimp only at hSw); go_simp; (try with_reducible rfl)
              try simp only [Act.put, List.setIfInBounds_toArray, List.set_cons_zero, List.set_cons_succ]
              refine wpAnyH_done (by kernel_rfl) ?_ _
              refine NoPanic.normal ?_
              have K3 := hid (K2.out.step (Below.refl _ _).drew)
              obtain ⟨d0', d1', d2', d3', d4'⟩ := box_five K3.out.2.2
              go_wp2
              try rw [rounds_succ]
              try go_wp2
              go_ret
              exact ⟨rfl, K3.out.1⟩
          · have hsd : (c.s1 != 0) = true := by simp [hs]
            rw [decide_eq_false hs]
            clear hs
            go_enter Try.func19, Try.ntmps19
            go_upto_region 4 with (go_at_call 54; refine (meas_m _ true _ HM).mono ?_; rintro e w1 ⟨rfl, hb1⟩; have B1 := hid hb1; clear hb1; obtain ⟨_, d0, d1, d2, d3, d4⟩ := K0.out.five B1.out)
            have K1 := hid (K0.out.step B1.out)
            have KS : Hid (∀ y, Below w1.heap.size w1 y → Below w1.heap.size w1 y ∧ y.cell? ⟨w.heap.size, 0, none⟩ = some (.int .i64 c.n) ∧ y.cell? ⟨w.heap.size, 1, none⟩ = some (.int .i64 c.s0) ∧ y.cell? ⟨w.heap.size, 2, none⟩ = some (.int .i64 c.s1) ∧ y.cell? ⟨w.heap.size, 3, none⟩ = some (.slice a0 p0 k0) ∧ y.cell? ⟨w.heap.size, 4, none⟩ = some (.slice a1 p1 k1)) := hid (fun y hb => K1.out.five hb)
            clear d0 d1 d2 d3 d4
            refine wp_loop_rounds 3 ?_
            rw [rounds_succ]
            go_wp2
            go_region_held3 (fun y => Below w1.heap.size w1 y ∧ y.cell? ⟨w.heap.size, 0, none⟩ = some (.int .i64 c.n) ∧ y.cell? ⟨w.heap.size, 1, none⟩ = some (.int .i64 c.s0) ∧ y.cell? ⟨w.heap.size, 2, none⟩ = some (.int .i64 c.s1) ∧ y.cell? ⟨w.heap.size, 3, none⟩ = some (.slice a0 p0 k0) ∧ y.cell? ⟨w.heap.size, 4, none⟩ = some (.slice a1 p1 k1))
              (first | assumption | exact keep_drew KS | exact keep_step (by assumption) (by assumption) KS)
              (first
                | (go_at_call 58; refine (reck_m _ _ _ _ _ _ true _ (HW.out.1.below (bt (bt K0.out.1 B1.out) (And.left (by assumption)))) K4.out HN.out.1 O2.out E0).mono ?_; rintro e w2 ⟨rfl, hb2⟩))
            have K2 := hid (K1.out.step (undrew hb2))
            obtain ⟨d0, d1, d2, d3, d4⟩ := box_five K2.out.2.2
            go_wp2
            rw [rounds_succ]
            go_wp2
            have KS2 : Hid (∀ y, Below w2.heap.size w2 y → Below w2.heap.size w2 y ∧ y.cell? ⟨w.heap.size, 0, none⟩ = some (.int .i64 c.n) ∧ y.cell? ⟨w.heap.size, 1, none⟩ = some (.int .i64 c.s0) ∧ y.cell? ⟨w.heap.size, 2, none⟩ = some (.int .i64 c.s1) ∧ y.cell? ⟨w.heap.size, 3, none⟩ = some (.slice a0 p0 k0) ∧ y.cell? ⟨w.heap.size, 4, none⟩ = some (.slice a1 p1 k1)) := hid (fun y hb => K2.out.five hb)
            refine wp_region_noPanic ?_
            refine wp_region_held_drew (S := fun y => Below w2.heap.size w2 y ∧ y.cell? ⟨w.heap.size, 0, none⟩ = some (.int .i64 c.n) ∧ y.cell? ⟨w.heap.size, 1, none⟩ = some (.int .i64 c.s0) ∧ y.cell? ⟨w.heap.size, 2, none⟩ = some (.int .i64 c.s1) ∧ y.cell? ⟨w.heap.size, 3, none⟩ = some (.slice a0 p0 k0) ∧ y.cell? ⟨w.heap.size, 4, none⟩ = some (.slice a1 p1 k1)) (by kernel_rfl) (keep_drew KS2) (fun hHeld => ?_)
            refine tk 0 (v := ?_) ?_ ?_
            rotate_left
            · intro w hSw; (try dsimp only at hSw); go_simp; (try with_reducible rfl)
            try simp only [Act.put, List.setIfInBounds_toArray, List.set_cons_zero, List.set_cons_succ]
            refine tk 1 (v := ?_) ?_ ?_
            rotate_left
            · intro w hSw; (try dsimp only at hSw); go_simp; (try with_reducible rfl)
            try simp only [Act.put, List.setIfInBounds_toArray, List.set_cons_zero, List.set_cons_succ]
            refine tk 2 (v := ?_) ?_ ?_
            rotate_left
            · intro w hSw; (try dsimp only at hSw); go_simp; (try with_reducible rfl)
            try simp only [Act.put, List.setIfInBounds_toArray, List.set_cons_zero, List.set_cons_succ]
            refine tk 3 (v := ?_) ?_ ?_
            rotate_left
            · intro w hSw; (try dsimp only at hSw); go_simp; (try with_reducible rfl)
            try simp only [Act.put, List.setIfInBounds_toArray, List.set_cons_zero, List.set_cons_succ]
            refine tks 4 ?_
            try simp only [Act.put, List.setIfInBounds_toArray, List.set_cons_zero, List.set_cons_succ]
            refine tks 5 ?_
            try simp only [Act.put, List.setIfInBounds_toArray, List.set_cons_zero, List.set_cons_succ]
            refine tks 6 ?_
            try simp only [Act.put, List.setIfInBounds_toArray, List.set_cons_zero, List.set_cons_succ]
            refine tks 7 ?_
            try simp only [Act.put, List.setIfInBounds_toArray, List.set_cons_zero, List.set_cons_succ]
            refine tks 8 ?_
            try simp only [Act.put, List.setIfInBounds_toArray, List.set_cons_zero, List.set_cons_succ]
            refine tks 9 ?_
            try simp only [Act.put, List.setIfInBounds_toArray, List.set_cons_zero, List.set_cons_succ]
            refine tks 10 ?_
            try simp only [Act.put, List.setIfInBounds_toArray, List.set_cons_zero, List.set_cons_succ]
            refine tks 11 ?_
            try simp only [Act.put, List.setIfInBounds_toArray, List.set_cons_zero, List.set_cons_succ]
            refine tks 12 ?_
            try simp only [Act.put, List.setIfInBounds_toArray, List.set_cons_zero, List.set_cons_succ]
            refine tk 13 (v := ?_) ?_ ?_
            rotate_left
            · intro w hSw; (try dsimp only at hSw); go_simp; (try with_reducible rfl)
            try simp only [Act.put, List.setIfInBounds_toArray, List.set_cons_zero, List.set_cons_succ]
            refine wpAnyH_done (by kernel_rfl) ?_ _
            refine NoPanic.normal ?_
            have K3 := hid (K2.out.step (Below.refl _ _).drew)
            obtain ⟨d0', d1', d2', d3', d4'⟩ := box_five K3.out.2.2
            go_wp2
            try rw [rounds_succ]
            try go_wp2
            go_ret
            exact ⟨rfl, K3.out.1⟩
        · rw [cg_two HN.out e0]
          clear e0
          obtain ⟨r1, e1⟩ : ∃ x, rk c.n c.s1 c.b1 = x := ⟨_, rfl⟩
          have E1 := hid e1
          rw [e1]
          clear e1
          cases r1 with
          | false =>
            go_enter Try.func19, Try.ntmps19
            go_upto_region 4 with (go_at_call 54; refine (meas_m _ true _ HM).mono ?_; rintro e w1 ⟨rfl, hb1⟩; have B1 := hid hb1; clear hb1; obtain ⟨_, d0, d1, d2, d3, d4⟩ := K0.out.five B1.out)
            have K1 := hid (K0.out.step B1.out)
            have KS : Hid (∀ y, Below w1.heap.size w1 y → Below w1.heap.size w1 y ∧ y.cell? ⟨w.heap.size, 0, none⟩ = some (.int .i64 c.n) ∧ y.cell? ⟨w.heap.size, 1, none⟩ = some (.int .i64 c.s0) ∧ y.cell? ⟨w.heap.size, 2, none⟩ = some (.int .i64 c.s1) ∧ y.cell? ⟨w.heap.size, 3, none⟩ = some (.slice a0 p0 k0) ∧ y.cell? ⟨w.heap.size, 4, none⟩ = some (.slice a1 p1 k1)) := hid (fun y hb => K1.out.five hb)
            clear d0 d1 d2 d3 d4
            refine wp_loop_rounds 3 ?_
            rw [rounds_succ]
            go_wp2
            go_region_held3 (fun y => Below w1.heap.size w1 y ∧ y.cell? ⟨w.heap.size, 0, none⟩ = some (.int .i64 c.n) ∧ y.cell? ⟨w.heap.size, 1, none⟩ = some (.int .i64 c.s0) ∧ y.cell? ⟨w.heap.size, 2, none⟩ = some (.int .i64 c.s1) ∧ y.cell? ⟨w.heap.size, 3, none⟩ = some (.slice a0 p0 k0) ∧ y.cell? ⟨w.heap.size, 4, none⟩ = some (.slice a1 p1 k1))
              (first | assumption | exact keep_drew KS | exact keep_step (by assumption) (by assumption) KS)
              (first
                | (go_at_call 58; refine (reck_m _ _ _ _ _ _ true _ (HW.out.1.below (bt (bt K0.out.1 B1.out) (And.left (by assumption)))) K4.out HN.out.1 O2.out E0).mono ?_; rintro e w2 ⟨rfl, hb2⟩))
            have K2 := hid (K1.out.step (undrew hb2))
            obtain ⟨d0, d1, d2, d3, d4⟩ := box_five K2.out.2.2
            go_wp2
            rw [rounds_succ]
            have KS2 : Hid (∀ y, Below w2.heap.size w2 y → Below w2.heap.size w2 y ∧ y.cell? ⟨w.heap.size, 0, none⟩ = some (.int .i64 c.n) ∧ y.cell? ⟨w.heap.size, 1, none⟩ = some (.int .i64 c.s0) ∧ y.cell? ⟨w.heap.size, 2, none⟩ = some (.int .i64 c.s1) ∧ y.cell? ⟨w.heap.size, 3, none⟩ = some (.slice a0 p0 k0) ∧ y.cell? ⟨w.heap.size, 4, none⟩ = some (.slice a1 p1 k1)) := hid (fun y hb => K2.out.five hb)
            clear d0 d1 d2 d3 d4
            go_wp2
            go_region_held3 (fun y => Below w2.heap.size w2 y ∧ y.cell? ⟨w.heap.size, 0, none⟩ = some (.int .i64 c.n) ∧ y.cell? ⟨w.heap.size, 1, none⟩ = some (.int .i64 c.s0) ∧ y.cell? ⟨w.heap.size, 2, none⟩ = some (.int .i64 c.s1) ∧ y.cell? ⟨w.heap.size, 3, none⟩ = some (.slice a0 p0 k0) ∧ y.cell? ⟨w.heap.size, 4, none⟩ = some (.slice a1 p1 k1))
              (first | assumption | exact keep_drew KS2 | exact keep_step (by assumption) (by assumption) KS2)
              (first
                | (go_at_call 58; refine (reck_m _ _ _ _ _ _ _ _ (HW.out.2.below (bt K2.out.1 (And.left (by assumption)))) K5.out HN.out.1 O3.out E1).mono ?_; rintro e w3 ⟨rfl, hb3⟩))
            have K3 := hid (K2.out.step (undrew hb3))
            obtain ⟨d0, d1, d2, d3, d4⟩ := box_five K3.out.2.2
            go_wp2
            try rw [rounds_succ]
            try go_wp2
            go_ret
            exact ⟨rfl, K3.out.1⟩
          | true =>
            go_enter Try.func19, Try.ntmps19
            go_upto_region 4 with (go_at_call 54; refine (meas_m _ true _ HM).mono ?_; rintro e w1 ⟨rfl, hb1⟩; have B1 := hid hb1; clear hb1; obtain ⟨_, d0, d1, d2, d3, d4⟩ := K0.out.five B1.out)
            have K1 := hid (K0.out.step B1.out)
            have KS : Hid (∀ y, Below w1.heap.size w1 y → Below w1.heap.size w1 y ∧ y.cell? ⟨w.heap.size, 0, none⟩ = some (.int .i64 c.n) ∧ y.cell? ⟨w.heap.size, 1, none⟩ = some (.int .i64 c.s0) ∧ y.cell? ⟨w.heap.size, 2, none⟩ = some (.int .i64 c.s1) ∧ y.cell? ⟨w.heap.size, 3, none⟩ = some (.slice a0 p0 k0) ∧ y.cell? ⟨w.heap.size, 4, none⟩ = some (.slice a1 p1 k1)) := hid (fun y hb => K1.out.five hb)
            clear d0 d1 d2 d3 d4
            refine wp_loop_rounds 3 ?_
            rw [rounds_succ]
            go_wp2
            go_region_held3 (fun y => Below w1.heap.size w1 y ∧ y.cell? ⟨w.heap.size, 0, none⟩ = some (.int .i64 c.n) ∧ y.cell? ⟨w.heap.size, 1, none⟩ = some (.int .i64 c.s0) ∧ y.cell? ⟨w.heap.size, 2, none⟩ = some (.int .i64 c.s1) ∧ y.cell? ⟨w.heap.size, 3, none⟩ = some (.slice a0 p0 k0) ∧ y.cell? ⟨w.heap.size, 4, none⟩ = some (.slice a1 p1 k1))
              (first | assumption | exact keep_drew KS | exact keep_step (by assumption) (by assumption) KS)
              (first
                | (go_at_call 58; refine (reck_m _ _ _ _ _ _ true _ (HW.out.1.below (bt (bt K0.out.1 B1.out) (And.left (by assumption)))) K4.out HN.out.1 O2.out E0).mono ?_; rintro e w2 ⟨rfl, hb2⟩))
            have K2 := hid (K1.out.step (undrew hb2))
            obtain ⟨d0, d1, d2, d3, d4⟩ := box_five K2.out.2.2
            go_wp2
            rw [rounds_succ]
            have KS2 : Hid (∀ y, Below w2.heap.size w2 y → Below w2.heap.size w2 y ∧ y.cell? ⟨w.heap.size, 0, none⟩ = some (.int .i64 c.n) ∧ y.cell? ⟨w.heap.size, 1, none⟩ = some (.int .i64 c.s0) ∧ y.cell? ⟨w.heap.size, 2, none⟩ = some (.int .i64 c.s1) ∧ y.cell? ⟨w.heap.size, 3, none⟩ = some (.slice a0 p0 k0) ∧ y.cell? ⟨w.heap.size, 4, none⟩ = some (.slice a1 p1 k1)) := hid (fun y hb => K2.out.five hb)
            clear d0 d1 d2 d3 d4
            go_wp2
            go_region_held3 (fun y => Below w2.heap.size w2 y ∧ y.cell? ⟨w.heap.size, 0, none⟩ = some (.int .i64 c.n) ∧ y.cell? ⟨w.heap.size, 1, none⟩ = some (.int .i64 c.s0) ∧ y.cell? ⟨w.heap.size, 2, none⟩ = some (.int .i64 c.s1) ∧ y.cell? ⟨w.heap.size, 3, none⟩ = some (.slice a0 p0 k0) ∧ y.cell? ⟨w.heap.size, 4, none⟩ = some (.slice a1 p1 k1))
              (first | assumption | exact keep_drew KS2 | exact keep_step (by assumption) (by assumption) KS2)
              (first
                | (go_at_call 58; refine (reck_m _ _ _ _ _ _ _ _ (HW.out.2.below (bt K2.out.1 (And.left (by assumption)))) K5.out HN.out.1 O3.out E1).mono ?_; rintro e w3 ⟨rfl, hb3⟩))
            have K3 := hid (K2.out.step (undrew hb3))
            obtain ⟨d0, d1, d2, d3, d4⟩ := box_five K3.out.2.2
            go_wp2
            try rw [rounds_succ]
            try go_wp2
            go_ret
            exact ⟨rfl, K3.out.1⟩
    · have HM2 := HM
      rw [cg_n0 hn]
      by_cases h1 : c.n < 1
      · have hn1 : decide (c.n < 1) = true := decide_eq_true h1
        have K0 := hid (kp_new w (.cells #[.int .i64 c.n, .int .i64 c.s0, .int .i64 c.s1, .slice a0 p0 k0, .slice a1 p1 k1] 26))
        go_enter Try.func19, Try.ntmps19
        go_wp2_with (go_at_call 54; refine (meas_m _ true _ HM).mono ?_; rintro e w1 ⟨rfl, hb1⟩; have B1 := hid hb1; clear hb1; obtain ⟨_, d0, d1, d2, d3, d4⟩ := K0.out.five B1.out)
        go_ret
        exact ⟨rfl, bt K0.out.1 B1.out⟩
      · have hn1 : decide (c.n < 1) = false := decide_eq_false h1
        have hn2 : decide (1099511627776 < c.n) = true := decide_eq_true (by omega)
        have K0 := hid (kp_new w (.cells #[.int .i64 c.n, .int .i64 c.s0, .int .i64 c.s1, .slice a0 p0 k0, .slice a1 p1 k1] 26))
        go_enter Try.func19, Try.ntmps19
        go_wp2_with (go_at_call 54; refine (meas_m _ true _ HM).mono ?_; rintro e w1 ⟨rfl, hb1⟩; have B1 := hid hb1; clear hb1; obtain ⟨_, d0, d1, d2, d3, d4⟩ := K0.out.five B1.out)
        go_ret
        exact ⟨rfl, bt K0.out.1 B1.out⟩
  · rw [cg_not c hm]
    have HM : Hid ((decide (m = 1) || decide (m = 2)) = false) := hid (by simp only [Bool.or_eq_false_iff, decide_eq_false_iff_not]; omega)
    have K0 := hid (kp_new w (.cells #[.int .i64 c.n, .int .i64 c.s0, .int .i64 c.s1, .slice a0 p0 k0, .slice a1 p1 k1] 26))
    go_enter Try.func19, Try.ntmps19
    go_wp2_with (go_at_call 54; refine (meas_m _ false _ HM).mono ?_; rintro e w1 ⟨rfl, hb1⟩; have B1 := hid hb1; clear hb1; obtain ⟨_, d0, d1, d2, d3, d4⟩ := K0.out.five B1.out)
    go_ret
    exact ⟨rfl, bt K0.out.1 B1.out⟩

end Go.Proofs.Ytjkkajhjcinalaa

namespace Go.Proofs.Ytjkkajhjcinalaa
open Go.ChangeShapes Go.WideShapes Go.ChangeAt Go.RowKit
set_option linter.unusedVariables false
set_option linter.unusedSimpArgs false
set_option maxRecDepth 100000

theorem eqM (a b x y : Int) (w : World) (n : Nat) : (Op.equalIn (n + 2) 22 (.agg #[.int .i64 a, .int .i64 b]) (.agg #[.int .i64 x, .int .i64 y])).run Try.prog w = .ok (a == x && b == y) w := by
  have u3 := Try.underlying2
  have a3 := Try.isAgg2
  have z3 := Try.sizeOf2
  rw [show n + 2 = (n + 1) + 1 from rfl, Op.equalIn]
  simp only [Sem.run_bind, run_underlying Try.underlying22, Result.andThen_ok]
  simp only [Std.Legacy.Range.forIn_eq_forIn_range', Std.Legacy.Range.size, Nat.sub_zero, Nat.add_sub_cancel, Nat.div_one, List.range'_succ, List.range'_zero, List.forIn_cons, List.forIn_nil]
  go_simp
  by_cases h1 : a = x <;> by_cases h2 : b = y <;> simp [h1, h2]
def qm (a b x y : Int) : Bool := a == x && b == y
theorem qm_iff {a b x y : Int} : qm a b x y = true ↔ a = x ∧ b = y := by unfold qm; simp
theorem eqM2 (a b x y : Int) (w : World) : (Op.equalIn 10000 22 (.agg #[.int .i64 a, .int .i64 b]) (.agg #[.int .i64 x, .int .i64 y])).run Try.prog w = .ok (qm a b x y) w := eqM a b x y w 9998

/-- Two boxes that are kept. -/
def Kq (w wr : World) (o o' : Obj) : Prop := Kp w wr w.heap.size o ∧ Kp w wr (w.heap.size + 1) o'
theorem Kq.step {w wr w' : World} {o o' : Obj} (h : Kq w wr o o') (hb : Below wr.heap.size wr w') : Kq w w' o o' := ⟨h.1.step hb, h.2.step hb⟩
theorem kq_new (w : World) (o o' : Obj) : Kq w ((w.alloc o).alloc o') o o' := ⟨(kp_new w o).step (b1alloc _ _), bt (b1alloc _ _) (b1alloc _ _), by omega, hnew (by simp)⟩
theorem Kq.ten {w W y : World} {a b c d e a' b' c' d' e' : Value} {t t' : TypeId} (h : Kq w W (.cells #[a, b, c, d, e] t) (.cells #[a', b', c', d', e'] t')) (hb : Below W.heap.size W y) :
    Below W.heap.size W y ∧ y.cell? ⟨w.heap.size, 0, none⟩ = some a ∧ y.cell? ⟨w.heap.size, 1, none⟩ = some b ∧ y.cell? ⟨w.heap.size, 2, none⟩ = some c ∧ y.cell? ⟨w.heap.size, 3, none⟩ = some d ∧ y.cell? ⟨w.heap.size, 4, none⟩ = some e ∧ y.cell? ⟨w.heap.size + 1, 0, none⟩ = some a' ∧ y.cell? ⟨w.heap.size + 1, 1, none⟩ = some b' ∧ y.cell? ⟨w.heap.size + 1, 2, none⟩ = some c' ∧ y.cell? ⟨w.heap.size + 1, 3, none⟩ = some d' ∧ y.cell? ⟨w.heap.size + 1, 4, none⟩ = some e' := by
  obtain ⟨x0, x1, x2, x3, x4⟩ := box_five (h.step hb).1.2.2
  obtain ⟨y0, y1, y2, y3, y4⟩ := box_five (h.step hb).2.2.2
  exact ⟨hb, x0, x1, x2, x3, x4, y0, y1, y2, y3, y4⟩
theorem csm_n {c d : Cl} (h : ¬ c.n = d.n) : csm c d = false := csm_no (fun e => h (by rw [e]))
theorem csm_s {c d : Cl} (h : ¬ (c.s0 = d.s0 ∧ c.s1 = d.s1)) : csm c d = false := csm_no (fun e => h (by rw [e]; exact ⟨rfl, rfl⟩))
theorem csm_b0 {c d : Cl} (h : sm c.b0 d.b0 = false) : csm c d = false := csm_no (fun e => by rw [e, sm_yes rfl] at h; cases h)
theorem csm_b1 {c d : Cl} (h : sm c.b1 d.b1 = false) : csm c d = false := csm_no (fun e => by rw [e, sm_yes rfl] at h; cases h)
theorem csm_all {c d : Cl} (h0 : c.s0 = d.s0) (h1 : c.s1 = d.s1) (h2 : sm c.b0 d.b0 = true) (h3 : sm c.b1 d.b1 = true) : csm c d = (c.n == d.n) := by
  unfold csm
  rw [decide_eq_true h0, decide_eq_true h1, h2, h3]
  by_cases h : c.n = d.n <;> simp [h]

set_option maxHeartbeats 32000000 in
theorem csame_m (c d : Cl) (a0 : Option Addr) (p0 k0 : Nat) (a1 : Option Addr) (p1 k1 : Nat) (b0 : Option Addr) (q0 j0 : Nat) (b1 : Option Addr) (q1 j1 : Nat) (v : Bool) (w : World) (hw : CW w a0 p0 k0 a1 p1 k1 c) (hz : CW w b0 q0 j0 b1 q1 j1 d) (hv : Hid (csm c d = v)) :
    Calls Try.prog 25 #[.agg #[.int .i64 c.n, .int .i64 c.s0, .int .i64 c.s1, .slice a0 p0 k0, .slice a1 p1 k1], .agg #[.int .i64 d.n, .int .i64 d.s0, .int .i64 d.s1, .slice b0 q0 j0, .slice b1 q1 j1]] w fun e w' => e = .returned (.bool v) ∧ Below w.heap.size w w' := by
  have h := hv.out
  subst h
  clear hv
  obtain ⟨l1, l2⟩ := hw.1.lens
  obtain ⟨u1, u2⟩ := hw.2.lens
  obtain ⟨l1', l2'⟩ := hz.1.lens
  obtain ⟨u1', u2'⟩ := hz.2.lens
  have HW := hid hw
  have HZ := hid hz
  have eqm := eqM2
  have K0 := hid (kq_new w (.cells #[.int .i64 c.n, .int .i64 c.s0, .int .i64 c.s1, .slice a0 p0 k0, .slice a1 p1 k1] 26) (.cells #[.int .i64 d.n, .int .i64 d.s0, .int .i64 d.s1, .slice b0 q0 j0, .slice b1 q1 j1] 26))
  clear hw hz l1 u1 l1' u1'
  by_cases hn : c.n = d.n
  · have hnt : (c.n != d.n) = false := by simp [hn]
    have HN := hid hn
    clear hn
    by_cases hs : c.s0 = d.s0 ∧ c.s1 = d.s1
    · have hst : qm c.s0 c.s1 d.s0 d.s1 = true := qm_iff.2 hs
      have HS := hid hs
      clear hs
      go_enter Try.func25, Try.ntmps25
      go_upto_region 1 with fail
      generalize (w.alloc (.cells #[.int .i64 c.n, .int .i64 c.s0, .int .i64 c.s1, .slice a0 p0 k0, .slice a1 p1 k1] 26)).alloc (.cells #[.int .i64 d.n, .int .i64 d.s0, .int .i64 d.s1, .slice b0 q0 j0, .slice b1 q1 j1] 26) = W at K0 ⊢
      obtain ⟨_, d0, d1, d2, d3, d4, f0, f1, f2, f3, f4⟩ := K0.out.ten (Below.refl _ _)
      go_upto_region 4 with fail
      clear d0 d1 d2 d3 d4 f0 f1 f2 f3 f4
      go_loopw [18] (fun i wr => Hid (Kq w wr (.cells #[.int .i64 c.n, .int .i64 c.s0, .int .i64 c.s1, .slice a0 p0 k0, .slice a1 p1 k1] 26) (.cells #[.int .i64 d.n, .int .i64 d.s0, .int .i64 d.s1, .slice b0 q0 j0, .slice b1 q1 j1] 26)) ∧ (i = .int .i64 0 ∨ (i = .int .i64 1 ∧ Hid (sm c.b0 d.b0 = true)) ∨ (i = .int .i64 2 ∧ Hid (sm c.b0 d.b0 = true ∧ sm c.b1 d.b1 = true)))) (fun i _ => 2 - (intOf i).toNat)
      case atStart => exact ⟨K0, .inl rfl⟩
      case round =>
        obtain ⟨KW, hi⟩ := hrel
        obtain ⟨_, d0, d1, d2, d3, d4, f0, f1, f2, f3, f4⟩ := KW.out.ten (Below.refl _ _)
        rcases hi with rfl | ⟨rfl, R0⟩ | ⟨rfl, R1⟩
        · skip
          obtain ⟨V, ev⟩ : ∃ x, sm c.b0 d.b0 = x := ⟨_, rfl⟩
          have EV := hid ev
          clear ev
          have KS : Hid (∀ y, Below wr.heap.size wr y → Below wr.heap.size wr y ∧ y.cell? ⟨w.heap.size, 0, none⟩ = some (.int .i64 c.n) ∧ y.cell? ⟨w.heap.size, 1, none⟩ = some (.int .i64 c.s0) ∧ y.cell? ⟨w.heap.size, 2, none⟩ = some (.int .i64 c.s1) ∧ y.cell? ⟨w.heap.size, 3, none⟩ = some (.slice a0 p0 k0) ∧ y.cell? ⟨w.heap.size, 4, none⟩ = some (.slice a1 p1 k1) ∧ y.cell? ⟨w.heap.size + 1, 0, none⟩ = some (.int .i64 d.n) ∧ y.cell? ⟨w.heap.size + 1, 1, none⟩ = some (.int .i64 d.s0) ∧ y.cell? ⟨w.heap.size + 1, 2, none⟩ = some (.int .i64 d.s1) ∧ y.cell? ⟨w.heap.size + 1, 3, none⟩ = some (.slice b0 q0 j0) ∧ y.cell? ⟨w.heap.size + 1, 4, none⟩ = some (.slice b1 q1 j1)) := hid (fun y hb => KW.out.ten hb)
          clear d0 d1 d2 d3 d4 f0 f1 f2 f3 f4
          go_wp2
          go_region_held3 (fun y => Below wr.heap.size wr y ∧ y.cell? ⟨w.heap.size, 0, none⟩ = some (.int .i64 c.n) ∧ y.cell? ⟨w.heap.size, 1, none⟩ = some (.int .i64 c.s0) ∧ y.cell? ⟨w.heap.size, 2, none⟩ = some (.int .i64 c.s1) ∧ y.cell? ⟨w.heap.size, 3, none⟩ = some (.slice a0 p0 k0) ∧ y.cell? ⟨w.heap.size, 4, none⟩ = some (.slice a1 p1 k1) ∧ y.cell? ⟨w.heap.size + 1, 0, none⟩ = some (.int .i64 d.n) ∧ y.cell? ⟨w.heap.size + 1, 1, none⟩ = some (.int .i64 d.s0) ∧ y.cell? ⟨w.heap.size + 1, 2, none⟩ = some (.int .i64 d.s1) ∧ y.cell? ⟨w.heap.size + 1, 3, none⟩ = some (.slice b0 q0 j0) ∧ y.cell? ⟨w.heap.size + 1, 4, none⟩ = some (.slice b1 q1 j1))
            (first | assumption | exact keep_drew KS | exact keep_step (by assumption) (by assumption) KS)
            (first
              | (go_at_call 68; refine (same_m _ _ _ _ _ _ _ _ _ _ (HW.out.1.below (bt KW.out.1.1 (And.left (by assumption)))) (HZ.out.1.below (bt KW.out.1.1 (And.left (by assumption)))) EV).mono ?_; rintro e w1 ⟨rfl, hb1⟩))
          have K2 := hid (KW.out.step (undrew hb1))
          cases V with
          | false =>
            go_wp2
            go_ret
            exact ⟨ret_bool (csm_b0 EV.out).symm, K2.out.1.1⟩
          | true =>
            go_wp2
            go_roundw
            case rel => exact ⟨K2, .inr (.inl ⟨by go_num, EV⟩)⟩
            case measure => simp [intOf]
        · skip
          obtain ⟨V, ev⟩ : ∃ x, sm c.b1 d.b1 = x := ⟨_, rfl⟩
          have EV := hid ev
          clear ev
          have KS : Hid (∀ y, Below wr.heap.size wr y → Below wr.heap.size wr y ∧ y.cell? ⟨w.heap.size, 0, none⟩ = some (.int .i64 c.n) ∧ y.cell? ⟨w.heap.size, 1, none⟩ = some (.int .i64 c.s0) ∧ y.cell? ⟨w.heap.size, 2, none⟩ = some (.int .i64 c.s1) ∧ y.cell? ⟨w.heap.size, 3, none⟩ = some (.slice a0 p0 k0) ∧ y.cell? ⟨w.heap.size, 4, none⟩ = some (.slice a1 p1 k1) ∧ y.cell? ⟨w.heap.size + 1, 0, none⟩ = some (.int .i64 d.n) ∧ y.cell? ⟨w.heap.size + 1, 1, none⟩ = some (.int .i64 d.s0) ∧ y.cell? ⟨w.heap.size + 1, 2, none⟩ = some (.int .i64 d.s1) ∧ y.cell? ⟨w.heap.size + 1, 3, none⟩ = some (.slice b0 q0 j0) ∧ y.cell? ⟨w.heap.size + 1, 4, none⟩ = some (.slice b1 q1 j1)) := hid (fun y hb => KW.out.ten hb)
          clear d0 d1 d2 d3 d4 f0 f1 f2 f3 f4
          go_wp2
          go_region_held3 (fun y => Below wr.heap.size wr y ∧ y.cell? ⟨w.heap.size, 0, none⟩ = some (.int .i64 c.n) ∧ y.cell? ⟨w.heap.size, 1, none⟩ = some (.int .i64 c.s0) ∧ y.cell? ⟨w.heap.size, 2, none⟩ = some (.int .i64 c.s1) ∧ y.cell? ⟨w.heap.size, 3, none⟩ = some (.slice a0 p0 k0) ∧ y.cell? ⟨w.heap.size, 4, none⟩ = some (.slice a1 p1 k1) ∧ y.cell? ⟨w.heap.size + 1, 0, none⟩ = some (.int .i64 d.n) ∧ y.cell? ⟨w.heap.size + 1, 1, none⟩ = some (.int .i64 d.s0) ∧ y.cell? ⟨w.heap.size + 1, 2, none⟩ = some (.int .i64 d.s1) ∧ y.cell? ⟨w.heap.size + 1, 3, none⟩ = some (.slice b0 q0 j0) ∧ y.cell? ⟨w.heap.size + 1, 4, none⟩ = some (.slice b1 q1 j1))
            (first | assumption | exact keep_drew KS | exact keep_step (by assumption) (by assumption) KS)
            (first
              | (go_at_call 68; refine (same_m _ _ _ _ _ _ _ _ _ _ (HW.out.2.below (bt KW.out.1.1 (And.left (by assumption)))) (HZ.out.2.below (bt KW.out.1.1 (And.left (by assumption)))) EV).mono ?_; rintro e w1 ⟨rfl, hb1⟩))
          have K2 := hid (KW.out.step (undrew hb1))
          cases V with
          | false =>
            go_wp2
            go_ret
            exact ⟨ret_bool (csm_b1 EV.out).symm, K2.out.1.1⟩
          | true =>
            go_wp2
            go_roundw
            case rel => exact ⟨K2, .inr (.inr ⟨by go_num, hid ⟨R0.out, EV.out⟩⟩)⟩
            case measure => simp [intOf]
        · go_wp2
          go_ret
          exact ⟨ret_bool (by rw [csm_all HS.out.1 HS.out.2 R1.out.1 R1.out.2, HN.out]; simp), KW.out.1.1⟩
    · have hst : qm c.s0 c.s1 d.s0 d.s1 = false := by
        cases e : qm c.s0 c.s1 d.s0 d.s1 with
        | false => rfl
        | true => exact absurd (qm_iff.1 e) hs
      rw [csm_s hs]
      clear hs
      go_enter Try.func25, Try.ntmps25
      go_upto_region 1 with fail
      generalize (w.alloc (.cells #[.int .i64 c.n, .int .i64 c.s0, .int .i64 c.s1, .slice a0 p0 k0, .slice a1 p1 k1] 26)).alloc (.cells #[.int .i64 d.n, .int .i64 d.s0, .int .i64 d.s1, .slice b0 q0 j0, .slice b1 q1 j1] 26) = W at K0 ⊢
      obtain ⟨_, d0, d1, d2, d3, d4, f0, f1, f2, f3, f4⟩ := K0.out.ten (Below.refl _ _)
      go_wp2
      go_ret
      exact ⟨rfl, K0.out.1.1⟩
  · have hnt : (c.n != d.n) = true := by simp [hn]
    rw [csm_n hn]
    clear hn
    go_enter Try.func25, Try.ntmps25
    go_upto_region 1 with fail
    generalize (w.alloc (.cells #[.int .i64 c.n, .int .i64 c.s0, .int .i64 c.s1, .slice a0 p0 k0, .slice a1 p1 k1] 26)).alloc (.cells #[.int .i64 d.n, .int .i64 d.s0, .int .i64 d.s1, .slice b0 q0 j0, .slice b1 q1 j1] 26) = W at K0 ⊢
    obtain ⟨_, d0, d1, d2, d3, d4, f0, f1, f2, f3, f4⟩ := K0.out.ten (Below.refl _ _)
    go_wp2
    go_ret
    exact ⟨rfl, K0.out.1.1⟩

end Go.Proofs.Ytjkkajhjcinalaa

namespace Go.Proofs.Ytjkkajhjcinalaa
open Go.ChangeShapes Go.WideShapes Go.ChangeAt Go.RowKit
set_option linter.unusedVariables false
set_option linter.unusedSimpArgs false
set_option maxRecDepth 100000

theorem setCells_heap (g : Nat) (t : TypeId) : ∀ (vs : List Value) (o : Nat) (w : World) (cs : Array Value), w.heap[g]? = some (.cells cs t) → ∃ cs', (w.setCells g o vs).heap[g]? = some (.cells cs' t) ∧ cs'.size = cs.size
  | [], _, w, cs, h => ⟨cs, h, rfl⟩
  | v :: r, o, w, cs, h => by
    rw [World.setCells]
    obtain ⟨cs', h1, h2⟩ := setCells_heap g t r (o + 1) _ _ (heap_setCell_same w g o cs t v h)
    exact ⟨cs', h1, by rw [h2]; simp⟩
theorem setCells_grown (g : Nat) : ∀ (vs : List Value) (o : Nat) (w : World), w.grownBy (w.setCells g o vs) (some g)
  | [], _, w => ⟨rfl, rfl, rfl, Nat.le_refl _, fun _ _ _ => rfl⟩
  | v :: r, o, w => by
    rw [World.setCells]
    have h1 := set_grown w g o v
    have h2 := setCells_grown g r (o + 1) (w.setCell ⟨g, o, none⟩ v)
    exact ⟨h2.os.trans h1.os, h2.tape.trans h1.tape, h2.output.trans h1.output, Nat.le_trans h1.size h2.size, fun k hk hne => (h2.block k (Nat.lt_of_lt_of_le hk h1.size) hne).trans (h1.block k hk hne)⟩
/-- A whole row is stored: the block holds it; no other block is turned. -/
theorem wpList_store_whole {P : Program} {ops : Array Oper} {rest : List Oper} {o : Oper} {a : Act} {w : World} {Q : Exit → Act → World → Prop} (hgd : o.guard = none) (ty : TypeId) (x y : Operand) (ho : o.op = .store ty x y)
    (g : Nat) (X : Array Value) (hx : a.eval x = .pointer (some ⟨g, 0, none⟩)) (hy : a.eval y = .agg X) (t : TypeId) (cs : Array Value) (hg : w.heap[g]? = some (.cells cs t)) (hs : cs.size = X.size)
    (hi : (P.info? ty).map (·.size) = some X.size) (h1 : ∀ v ∈ X.toList, v.oneCell' = true)
    (h : ∀ w', w'.heap[g]? = some (.cells X t) → w.grownBy w' (some g) → wpList P ops Q rest (a.put o.dst undef) w') : wpList P ops Q (o :: rest) a w := by
  have ht : w.there g 0 X.size := fun j hj => by
    constructor
    · rw [Nat.zero_add, cell_of_row w g j cs t (0, 0) hg, Array.getElem?_eq_getElem (by omega)]; rfl
    · exact frozen_of_row w g _ _ _ hg
  refine wpList_store_mid hgd ty x y ho g 0 X hx hy ht hi (by have := all_oneCell_toArray h1; simpa using this) ?_
  refine h _ ?_ (setCells_grown g _ 0 w)
  obtain ⟨cs', e1, e2⟩ := setCells_heap g t X.toList 0 w cs hg
  rw [e1]
  have hr := World.rangeAt_setCells_same w g 0 X.toList (by simpa using ht)
  have : cs' = X := by
    apply Array.ext_getElem?
    intro j
    by_cases hj : j < X.size
    · have h2 := hr j X[j] (by simp [hj])
      rw [Nat.zero_add, cell_of_row _ g j cs' t (0, 0) e1] at h2
      rw [h2]; simp [hj]
    · rw [Array.getElem?_eq_none (by omega), Array.getElem?_eq_none (by omega)]
  rw [this]
theorem box_four {w : World} {D : Nat} {t : TypeId} {a b c d : Value} (hD : w.heap[D]? = some (.cells #[a, b, c, d] t)) : w.cell? ⟨D, 0, none⟩ = some a ∧ w.cell? ⟨D, 1, none⟩ = some b ∧ w.cell? ⟨D, 2, none⟩ = some c ∧ w.cell? ⟨D, 3, none⟩ = some d := by
  refine ⟨?_, ?_, ?_, ?_⟩ <;> simp [World.cell?, hD]
theorem kp_alloc {w wr : World} {N : Nat} {o : Obj} (h : Kp w wr N o) (o' : Obj) : Kp w (wr.alloc o') N o := h.step (b1alloc _ _)
theorem kp_new2 {w wr : World} (h : Below w.heap.size w wr) (o : Obj) (N : Nat) (hN : wr.heap.size = N) : Kp w (wr.alloc o) N o := ⟨bt h (b1alloc _ _), by have := h.size; omega, hnew hN⟩
theorem kp_set {w wr : World} {N j : Nat} {cs : Array Value} {t : TypeId} {v : Value} (h : Kp w wr N (.cells cs t)) : Kp w (wr.setCell ⟨N, j, none⟩ v) N (.cells (cs.setIfInBounds j v) t) :=
  ⟨h.1.setCell h.2.1 _, h.2.1, heap_setCell_same wr N j cs t v h.2.2⟩
theorem kp_other {w wr : World} {N M j : Nat} {o : Obj} {v : Value} (h : Kp w wr N o) (hne : ¬ N = M) (hM : w.heap.size ≤ M) : Kp w (wr.setCell ⟨M, j, none⟩ v) N o :=
  ⟨h.1.setCell hM _, h.2.1, by rw [Below.heap_setCell _ _ _ _ hne]; exact h.2.2⟩
theorem kp_gr {w wr w' : World} {N M : Nat} {o : Obj} (h : Kp w wr N o) (hg : wr.grownBy w' (some M)) (hne : ¬ N = M) (hM : w.heap.size ≤ M) : Kp w w' N o :=
  ⟨h.1.grown hg h.1.size (fun k hk => by cases hk; exact hM), h.2.1, (hg.block N (heap_lt h.2.2) (fun e => hne (by cases e; rfl))).trans h.2.2⟩
theorem kp_at {w wr w' : World} {M : Nat} {o o' : Obj} (h : Kp w wr M o) (hg : wr.grownBy w' (some M)) (hp : w'.heap[M]? = some o') : Kp w w' M o' :=
  ⟨h.1.grown hg h.1.size (fun k hk => by cases hk; exact h.2.1), h.2.1, hp⟩
theorem kp_cell {w wr : World} {N : Nat} {cs : Array Value} {t : TypeId} (h : Kp w wr N (.cells cs t)) {j : Nat} {v : Value} (hj : cs[j]? = some v) : wr.cell? ⟨N, j, none⟩ = some v := by
  rw [cell_of_row _ _ _ _ t (0, 0) h.2.2]; exact hj
theorem kp_froz {w wr : World} {N : Nat} {cs : Array Value} {t : TypeId} (h : Kp w wr N (.cells cs t)) (j : Nat) : wr.frozen? ⟨N, j, none⟩ = false := frozen_of_row _ _ _ _ _ h.2.2
theorem box_elf {w : World} {D : Nat} {t : TypeId} {a b c d e f g h i j k : Value} (h0 : w.heap[D]? = some (.cells #[a, b, c, d, e, f, g, h, i, j, k] t)) : w.cell? ⟨D, 0, none⟩ = some a ∧ w.cell? ⟨D, 1, none⟩ = some b ∧ w.cell? ⟨D, 2, none⟩ = some c ∧ w.cell? ⟨D, 3, none⟩ = some d ∧ w.cell? ⟨D, 4, none⟩ = some e ∧ w.cell? ⟨D, 5, none⟩ = some f ∧ w.cell? ⟨D, 6, none⟩ = some g ∧ w.cell? ⟨D, 7, none⟩ = some h ∧ w.cell? ⟨D, 8, none⟩ = some i ∧ w.cell? ⟨D, 9, none⟩ = some j ∧ w.cell? ⟨D, 10, none⟩ = some k := by
  refine ⟨?_, ?_, ?_, ?_, ?_, ?_, ?_, ?_, ?_, ?_, ?_⟩ <;> simp [World.cell?, h0]
/-- A line's cells. -/
abbrev lnC (x0 x1 x2 x3 n s0 s1 a0 a1 b0 b1 : Int) : Array Value := #[.int .u8 x0, .int .u8 x1, .int .u8 x2, .int .u8 x3, .int .i64 n, .int .i64 s0, .int .i64 s1, .int .i64 a0, .int .i64 a1, .int .i64 b0, .int .i64 b1]
theorem lnC_one (x0 x1 x2 x3 n s0 s1 a0 a1 b0 b1 : Int) : ∀ v ∈ (lnC x0 x1 x2 x3 n s0 s1 a0 a1 b0 b1).toList, v.oneCell' = true := by
  intro v hv
  simp only [List.mem_cons, List.not_mem_nil, or_false] at hv
  rcases hv with rfl | rfl | rfl | rfl | rfl | rfl | rfl | rfl | rfl | rfl | rfl <;> rfl
theorem size_ln : (Try.prog.info? 44).map (·.size) = some 11 := by kernel_rfl
abbrev clC (n s0 s1 : Int) (a0 : Option Addr) (p0 k0 : Nat) (a1 : Option Addr) (p1 k1 : Nat) : Array Value := #[.int .i64 n, .int .i64 s0, .int .i64 s1, .slice a0 p0 k0, .slice a1 p1 k1]
theorem clC_one (n s0 s1 : Int) (a0 : Option Addr) (p0 k0 : Nat) (a1 : Option Addr) (p1 k1 : Nat) : ∀ v ∈ (clC n s0 s1 a0 p0 k0 a1 p1 k1).toList, v.oneCell' = true := by
  intro v hv
  simp only [List.mem_cons, List.not_mem_nil, or_false] at hv
  rcases hv with rfl | rfl | rfl | rfl | rfl <;> rfl
theorem size_cl : (Try.prog.info? 26).map (·.size) = some 5 := by kernel_rfl

end Go.Proofs.Ytjkkajhjcinalaa

namespace Go.Proofs.Ytjkkajhjcinalaa
open Go.ChangeShapes Go.WideShapes Go.ChangeAt Go.RowKit
set_option linter.unusedVariables false
set_option linter.unusedSimpArgs false
set_option maxRecDepth 100000

theorem cells_nr : Try.prog.cellsOf 65 = 2 := by kernel_rfl
theorem open_run_cells {H : Type} {enc : TypeId × Value → H} {W : World} {base fuel : Nat} {spare : Nat → Bool} {held : Bool} {c0 c1 : Value} {x : DataW H × List MemPlace}
    (hf : DataW.trod enc Try.prog W base spare held fuel 65 [c0, c1] = some x) : ∃ x0 x1 : Int, [c0, c1] = ncs (x0, x1) ∧ nok (x0, x1) := by
  have hO : Try.prog.cellsOf 2 = 1 := by kernel_rfl
  obtain ⟨xs, m, _, _, _, hl, hg⟩ := DataW.trod_struct Try.underlying65 hf
  have g0 := hg 0
  have g1 := hg 1
  simp [hO] at g0 g1
  match xs, hl with
  | [y0, y1], _ =>
    obtain ⟨a, e0, _, w0⟩ := DataW.trod_int Try.underlying2 g0
    obtain ⟨b, e1, _, w1⟩ := DataW.trod_int Try.underlying2 g1
    simp at e0 e1
    subst e0 e1
    exact ⟨a, b, rfl, bounds_i64 w0, bounds_i64 w1⟩
end Go.Proofs.Ytjkkajhjcinalaa

namespace Go.Proofs.Ytjkkajhjcinalaa
open Go.ChangeShapes Go.WideShapes Go.ChangeAt Go.RowKit
set_option linter.unusedVariables false
set_option linter.unusedSimpArgs false
set_option maxRecDepth 100000

/-- A slice of rows, in a world. -/
def RRow (w : World) (a : Option Addr) (n c : Nat) (l : List Rw) : Prop :=
  n = l.length ∧ n ≤ c ∧ c ≤ maxLen ∧ (a = none → c = 0) ∧ (0 < n → ∃ b off, a = some ⟨b, off, none⟩ ∧ b < w.heap.size ∧ ∀ j r, l[j]? = some r → ∀ i v, (rcs r)[i]? = some v → w.cell? ⟨b, off + j * 6 + i, none⟩ = some v)
theorem RRow.below {w w' : World} {a : Option Addr} {n c : Nat} {l : List Rw} (h : RRow w a n c l) (hb : Below w.heap.size w w') : RRow w' a n c l := by
  obtain ⟨h1, h2, h3, h4, h5⟩ := h
  refine ⟨h1, h2, h3, h4, fun h0 => ?_⟩
  obtain ⟨b, off, e, hlt, hl⟩ := h5 h0
  exact ⟨b, off, e, Nat.lt_of_lt_of_le hlt hb.size, fun j r hj i v hi => ((bcell hb).1 b _ hlt).trans (hl j r hj i v hi)⟩
theorem rrow_nil (w : World) : RRow w none 0 0 [] := ⟨rfl, Nat.le_refl _, by decide, fun _ => rfl, fun h => by cases h⟩
theorem RRow.lens {w : World} {a : Option Addr} {n c : Nat} {l : List Rw} (h : RRow w a n c l) : n = l.length ∧ n ≤ 9223372036854775807 := by
  obtain ⟨h1, h2, h3, _⟩ := h
  unfold maxLen at h3
  exact ⟨h1, by omega⟩
/-- One row of it, read. -/
theorem RRow.pick {w w' : World} {a : Option Addr} {n c : Nat} {l : List Rw} (h : RRow w a n c l) (hb : Below w.heap.size w w') {k : Nat} (hk : k < n) :
    ∃ b off x0 x1 x2 x3 m0 m1, a = some ⟨b, off, none⟩ ∧ b < w.heap.size ∧ l[k]? = some (x0, x1, x2, x3, m0, m1) ∧ w'.cell? ⟨b, off + k * 6, none⟩ = some (.int .u8 x0) ∧ w'.cell? ⟨b, off + k * 6 + 1, none⟩ = some (.int .u8 x1) ∧ w'.cell? ⟨b, off + k * 6 + 2, none⟩ = some (.int .u8 x2) ∧ w'.cell? ⟨b, off + k * 6 + 3, none⟩ = some (.int .u8 x3) ∧ w'.cell? ⟨b, off + k * 6 + 4, none⟩ = some (.int .i64 m0) ∧ w'.cell? ⟨b, off + k * 6 + 5, none⟩ = some (.int .i64 m1) := by
  obtain ⟨h1, h2, h3, h4, h5⟩ := h.below hb
  obtain ⟨h1', _, _, _, h5'⟩ := h
  obtain ⟨b, off, e, hlt, hl⟩ := h5 (by omega)
  obtain ⟨b', off', e', hlt', _⟩ := h5' (by omega)
  rw [e] at e'
  cases e'
  obtain ⟨r, hr⟩ : ∃ r, l[k]? = some r := ⟨l[k]'(by omega), List.getElem?_eq_getElem (by omega)⟩
  obtain ⟨x0, x1, x2, x3, m0, m1⟩ := r
  have := hl k _ hr
  exact ⟨b, off, x0, x1, x2, x3, m0, m1, e, hlt', hr, this 0 _ rfl, this 1 _ rfl, this 2 _ rfl, this 3 _ rfl, this 4 _ rfl, this 5 _ rfl⟩

theorem open_coord_cells {H : Type} {enc : TypeId × Value → H} {W : World} {base fuel : Nat} {spare : Nat → Bool} {held : Bool} {c0 c1 c2 c3 : Value} {x : DataW H × List MemPlace}
    (hf : DataW.trod enc Try.prog W base spare held fuel 28 [c0, c1, c2, c3] = some x) : ∃ a b c d : Int, c0 = .int .u8 a ∧ c1 = .int .u8 b ∧ c2 = .int .u8 c ∧ c3 = .int .u8 d ∧ ∀ y ∈ [a, b, c, d], U8 y := by
  have hC2 : Try.prog.cellsOf 5 = 1 := by kernel_rfl
  obtain ⟨ys, m, _, hx, _, hl, hg⟩ := DataW.trod_array Try.underlying28 hf
  have g0 := hg 0 (by decide); have g1 := hg 1 (by decide); have g2 := hg 2 (by decide); have g3 := hg 3 (by decide)
  rw [hC2] at g0 g1 g2 g3
  match ys, hl with
  | [y0, y1, y2, y3], _ =>
    simp at g0 g1 g2 g3
    obtain ⟨a, e0, _, w0⟩ := DataW.trod_int Try.underlying5 g0
    obtain ⟨b, e1, _, w1⟩ := DataW.trod_int Try.underlying5 g1
    obtain ⟨c, e2, _, w2⟩ := DataW.trod_int Try.underlying5 g2
    obtain ⟨d, e3, _, w3⟩ := DataW.trod_int Try.underlying5 g3
    simp at e0 e1 e2 e3
    subst e0 e1 e2 e3
    exact ⟨a, b, c, d, rfl, rfl, rfl, rfl, by intro y hy; simp at hy; rcases hy with rfl | rfl | rfl | rfl <;> first | exact bounds_u8 w0 | exact bounds_u8 w1 | exact bounds_u8 w2 | exact bounds_u8 w3⟩

theorem cells_rw : Try.prog.cellsOf 53 = 6 := by kernel_rfl
theorem open_meas_cells {H : Type} {enc : TypeId × Value → H} {W : World} {base fuel : Nat} {spare : Nat → Bool} {held : Bool} {c0 c1 : Value} {x : DataW H × List MemPlace}
    (hf : DataW.trod enc Try.prog W base spare held fuel 22 [c0, c1] = some x) : ∃ a b : Int, c0 = .int .i64 a ∧ c1 = .int .i64 b ∧ I64 a ∧ I64 b := by
  have hC2 : Try.prog.cellsOf 2 = 1 := by kernel_rfl
  obtain ⟨ys, m, _, hx, _, hl, hg⟩ := DataW.trod_array Try.underlying22 hf
  have g0 := hg 0 (by decide); have g1 := hg 1 (by decide)
  rw [hC2] at g0 g1
  match ys, hl with
  | [y0, y1], _ =>
    simp at g0 g1
    obtain ⟨a, e0, _, w0⟩ := DataW.trod_int Try.underlying2 g0
    obtain ⟨b, e1, _, w1⟩ := DataW.trod_int Try.underlying2 g1
    simp at e0 e1
    subst e0 e1
    exact ⟨a, b, rfl, rfl, bounds_i64 w0, bounds_i64 w1⟩
theorem open_row_cells {H : Type} {enc : TypeId × Value → H} {W : World} {base fuel : Nat} {spare : Nat → Bool} {held : Bool} {c0 c1 c2 c3 c4 c5 : Value} {x : DataW H × List MemPlace}
    (hf : DataW.trod enc Try.prog W base spare held fuel 53 [c0, c1, c2, c3, c4, c5] = some x) : ∃ x0 x1 x2 x3 m0 m1 : Int, [c0, c1, c2, c3, c4, c5] = rcs (x0, x1, x2, x3, m0, m1) ∧ rok (x0, x1, x2, x3, m0, m1) := by
  have hO : Try.prog.cellsOf 28 = 4 := by kernel_rfl
  have hM : Try.prog.cellsOf 22 = 2 := by kernel_rfl
  obtain ⟨xs, m, _, _, _, hl, hg⟩ := DataW.trod_struct Try.underlying53 hf
  have g0 := hg 0
  have g1 := hg 1
  simp [hO, hM] at g0 g1
  match xs, hl with
  | [y0, y1], _ =>
    obtain ⟨a, b, c, d, rfl, rfl, rfl, rfl, hu⟩ := open_coord_cells (c0 := c0) (c1 := c1) (c2 := c2) (c3 := c3) g0
    obtain ⟨m0, m1, rfl, rfl, i0, i1⟩ := open_meas_cells (c0 := c4) (c1 := c5) g1
    exact ⟨a, b, c, d, m0, m1, rfl, ⟨hu a (by simp), hu b (by simp), hu c (by simp), hu d (by simp)⟩, i0, i1⟩
theorem open_rows {H : Type} {enc : TypeId × Value → H} {W : World} {base b0 : Nat} {r : Reach} {v : Value} {d : DataW H} {p : List MemPlace}
    (hv : Value.okWide Try.prog W r b0 31 v) (h : DataW.Trod enc Try.prog W base (fun _ => true) true 31 v d p) :
    ∃ a n c l, v = .slice a n c ∧ RRow W a n c l ∧ ∀ r ∈ l, rok r := by
  obtain ⟨a, len, cap, rfl⟩ := okWide_slice Try.underlying31 hv
  obtain ⟨fuel, hf⟩ := h
  rcases Go.Deep.open_slice Try.underlying31 hf with ⟨hcs, _⟩ | ⟨ad, len', cap', m, n', D, Pl, hcs, hb, hl, hm, hmm, _, hx⟩
  · simp [Value.cells] at hcs
    obtain ⟨rfl, rfl, rfl⟩ := hcs
    exact ⟨none, 0, 0, [], rfl, rrow_nil W, fun r hr => by cases hr⟩
  · simp [Value.cells] at hcs
    obtain ⟨rfl, rfl, rfl⟩ := hcs
    simp only [if_true] at hmm
    have each : ∀ i, i < len → ∃ q : Rw, rok q ∧ ∀ k v, (rcs q)[k]? = some v → W.cell? (ad.add (i * 6 + k)) = some v := by
      intro i hi
      obtain ⟨cs', h1, h2⟩ := hx i (by omega)
      rw [cells_rw] at h1
      obtain ⟨_, hlen, hcell⟩ := World.cells?_some h1
      match cs', hlen with
      | [c0, c1, c2, c3, c4, c5], _ =>
        obtain ⟨x0, x1, x2, x3, m0, m1, e, hr⟩ := open_row_cells h2
        refine ⟨_, hr, fun k v hk => ?_⟩
        rw [← e] at hk
        have hk6 : k < 6 := by
          have := (List.getElem?_eq_some_iff.1 hk).1
          simpa using this
        have := hcell k (by simpa using hk6)
        rw [Go.Deep.add_add] at this
        rw [this]
        exact hk
    obtain ⟨q, hq⟩ := Go.Deep.choose_lt each
    refine ⟨some ad, len, cap, (List.range len).map q, rfl, ⟨by simp, hl, hm, (fun h => by cases h), fun h0 => ?_⟩, ?_⟩
    · obtain ⟨b, off, spot⟩ := ad
      have hc0 := (hq 0 (by omega)).2 0
      obtain ⟨⟨x0, x1, x2, x3, m0, m1⟩, hq0⟩ : ∃ y, q 0 = y := ⟨_, rfl⟩
      have hc := hc0 (.int .u8 x0) (by rw [hq0]; rfl)
      have hspot : spot = none := by simpa [Addr.add] using World.cell?_spot hc
      subst hspot
      have hb' := World.block_lt_of_cell? _ _ hc
      refine ⟨b, off, rfl, by simpa [Addr.add] using hb', fun j r hj i v hi => ?_⟩
      have hjl : j < len := by
        have := (List.getElem?_eq_some_iff.1 hj).1
        simpa using this
      rw [List.getElem?_map, List.getElem?_range hjl] at hj
      simp at hj
      subst hj
      have := (hq j hjl).2 i v hi
      rw [add_at, ← Nat.add_assoc] at this
      exact this
    · intro r hr
      simp only [List.mem_map, List.mem_range] at hr
      obtain ⟨i, hi, rfl⟩ := hr
      exact (hq i hi).1

end Go.Proofs.Ytjkkajhjcinalaa

namespace Go.Proofs.Ytjkkajhjcinalaa.calc
open Go.RowKit
set_option linter.unusedVariables false
set_option linter.unusedSimpArgs false
set_option maxRecDepth 100000

set_option maxHeartbeats 400000 in
theorem total_0 (a : Option Addr) (cap : Nat) (w : World) :
    Calls Try.prog 27 #[.slice a 0 cap] w fun e w' => e = .returned (.tuple #[.int .i64 0, .bool true]) ∧ Below w.heap.size w w' := by
  go_enter Try.func27, Try.ntmps27
  go_wp2
  go_loopw [9] (fun i wr => i = .int .i64 0 ∧ wr = w.alloc (.cells #[.int .i64 (hi 0), .int .u64 (lo 0)] 133))
    (fun _ _ => 0)
  case atStart => exact ⟨rfl, rfl⟩
  case round =>
    obtain ⟨rfl, rfl⟩ := hrel
    go_wp2_with (go_at_call 70; refine (narrow_any 0 _).mono ?_; rintro e w2 ⟨rfl, hb2⟩)
    go_ret2
    exact ⟨rfl, ((Below.refl _ _).alloc (Nat.le_refl _) _).trans (hb2.mono (by simp))⟩
end Go.Proofs.Ytjkkajhjcinalaa.calc

namespace Go.Proofs.Ytjkkajhjcinalaa
open Go.Shelf
set_option linter.unusedVariables false
set_option linter.unusedSimpArgs false
set_option maxRecDepth 100000

def sortI_ren : Go.Shelf.Ren := ⟨fun | 5 => 94 | 8 => 118 | 7 => 117 | 19 => 138 | 20 => 139 | 10 => 129 | 11 => 130 | 12 => 131 | 13 => 132 | 14 => 133 | 15 => 134 | 16 => 135 | 17 => 136 | 18 => 137 | 30 => 145 | 31 => 146 | 32 => 147 | 33 => 148 | 34 => 149 | 35 => 105 | 40 => 150 | n => n, fun | 23 => 51 | 25 => 2 | 3 => 3 | 32 => 176 | 22 => 51 | 0 => 0 | 44 => 208 | 46 => 119 | 4 => 4 | 36 => 200 | 35 => 199 | 41 => 205 | 5 => 5 | 9 => 9 | 53 => 213 | 57 => 217 | 63 => 219 | 64 => 220 | n => n, fun | n => n⟩
theorem sortI : Go.Proofs.SlLaysM.n5 Try.prog sortI_ren := {
  mixed := by kernel_rfl,
  f5 := ⟨Try.f94.name, by decide, Try.func94.trans (congrArg some (by kernel_rfl))⟩,
  f7 := ⟨Try.f117.name, by decide, Try.func117.trans (congrArg some (by kernel_rfl))⟩,
  f8 := Try.func118.trans (congrArg some (by kernel_rfl)),
  f10 := ⟨Try.f129.name, by decide, Try.func129.trans (congrArg some (by kernel_rfl))⟩,
  f11 := ⟨Try.f130.name, by decide, Try.func130.trans (congrArg some (by kernel_rfl))⟩,
  f12 := ⟨Try.f131.name, by decide, Try.func131.trans (congrArg some (by kernel_rfl))⟩,
  f13 := ⟨Try.f132.name, by decide, Try.func132.trans (congrArg some (by kernel_rfl))⟩,
  f14 := ⟨Try.f133.name, by decide, Try.func133.trans (congrArg some (by kernel_rfl))⟩,
  f15 := ⟨Try.f134.name, by decide, Try.func134.trans (congrArg some (by kernel_rfl))⟩,
  f16 := ⟨Try.f135.name, by decide, Try.func135.trans (congrArg some (by kernel_rfl))⟩,
  f17 := ⟨Try.f136.name, by decide, Try.func136.trans (congrArg some (by kernel_rfl))⟩,
  f18 := ⟨Try.f137.name, by decide, Try.func137.trans (congrArg some (by kernel_rfl))⟩,
  f19 := Try.func138.trans (congrArg some (by kernel_rfl)),
  f20 := Try.func139.trans (congrArg some (by kernel_rfl)),
  f30 := ⟨Try.f145.name, by decide, Try.func145.trans (congrArg some (by kernel_rfl))⟩,
  f31 := Try.func146.trans (congrArg some (by kernel_rfl)),
  f32 := Try.func147.trans (congrArg some (by kernel_rfl)),
  f33 := ⟨Try.f148.name, by decide, Try.func148.trans (congrArg some (by kernel_rfl))⟩,
  f34 := ⟨Try.f149.name, by decide, Try.func149.trans (congrArg some (by kernel_rfl))⟩,
  f35 := ⟨Try.f105.name, by decide, Try.func105.trans (congrArg some (by kernel_rfl))⟩,
  f40 := ⟨Try.f150.name, by decide, Try.func150.trans (congrArg some (by kernel_rfl))⟩,
  t0 := Try.underlying0,
  a0 := Try.isAgg0,
  z0 := Try.sizeOf0,
  v0 := Try.zeroValue0,
  t3 := Try.underlying3,
  a3 := Try.isAgg3,
  z3 := Try.sizeOf3,
  v3 := Try.zeroValue3,
  t4 := Try.underlying4,
  a4 := Try.isAgg4,
  z4 := Try.sizeOf4,
  v4 := Try.zeroValue4,
  t5 := Try.underlying5,
  a5 := Try.isAgg5,
  z5 := Try.sizeOf5,
  v5 := Try.zeroValue5,
  t9 := Try.underlying9,
  a9 := Try.isAgg9,
  z9 := Try.sizeOf9,
  v9 := Try.zeroValue9,
  t22 := Try.underlying51,
  a22 := Try.isAgg51,
  z22 := Try.sizeOf51,
  v22 := Try.zeroValue51,
  t23 := Try.underlying51,
  a23 := Try.isAgg51,
  z23 := Try.sizeOf51,
  v23 := Try.zeroValue51,
  t25 := Try.underlying2,
  a25 := Try.isAgg2,
  z25 := Try.sizeOf2,
  v25 := Try.zeroValue2,
  t32 := Try.underlying176,
  a32 := Try.isAgg176,
  z32 := Try.sizeOf176,
  v32 := Try.zeroValue176,
  t35 := Try.underlying199,
  a35 := Try.isAgg199,
  z35 := Try.sizeOf199,
  v35 := Try.zeroValue199,
  t36 := Try.underlying200,
  a36 := Try.isAgg200,
  z36 := Try.sizeOf200,
  v36 := Try.zeroValue200,
  t41 := Try.underlying205,
  a41 := Try.isAgg205,
  z41 := Try.sizeOf205,
  v41 := Try.zeroValue205,
  t44 := Try.underlying208,
  a44 := Try.isAgg208,
  z44 := Try.sizeOf208,
  v44 := Try.zeroValue208,
  t46 := Try.underlying119,
  a46 := Try.isAgg119,
  z46 := Try.sizeOf119,
  v46 := Try.zeroValue119,
  t53 := Try.underlying213,
  a53 := Try.isAgg213,
  z53 := Try.sizeOf213,
  v53 := Try.zeroValue213,
  t57 := Try.underlying217,
  a57 := Try.isAgg217,
  z57 := Try.sizeOf217,
  v57 := Try.zeroValue217,
  t63 := Try.underlying219,
  a63 := Try.isAgg219,
  z63 := Try.sizeOf219,
  v63 := Try.zeroValue219,
  t64 := Try.underlying220,
  a64 := Try.isAgg220,
  z64 := Try.sizeOf220,
  v64 := Try.zeroValue220 }

end Go.Proofs.Ytjkkajhjcinalaa

namespace Go.Proofs.Ytjkkajhjcinalaa
open Go.ChangeShapes Go.WideShapes Go.ChangeAt Go.RowKit
set_option linter.unusedVariables false
set_option linter.unusedSimpArgs false
set_option maxRecDepth 100000

theorem gtr {a w w' : World} {row : Option Nat} (h : a.grownBy w row) (k : w.grownBy w' row) : a.grownBy w' row :=
  ⟨k.os.trans h.os, k.tape.trans h.tape, k.output.trans h.output, Nat.le_trans h.size k.size, fun i hi hne => (k.block i (Nat.lt_of_lt_of_le hi h.size) hne).trans (h.block i hi hne)⟩
theorem ncells_set (l : List Rn) (x y z : Int) : (ncells (l ++ [(x, y)])).set (l.length * 2 + 1) (.int .i64 z) = ncells (l ++ [(x, z)]) := by
  rw [ncells_app, ncells_app, List.set_append_right _ _ (by rw [ncells_len]; omega), ncells_len, show l.length * 2 + 1 - l.length * 2 = 1 by omega]
  rfl
theorem gdrewN {w w' : World} {row : Option Nat} {n : Nat} (h : w.grownBy w' row) : w.grownBy (w'.drewN n) row := ⟨h.os, h.tape, h.output, h.size, h.block⟩

theorem gdrew1 {w w' : World} {row : Option Nat} (h : w.grownBy w' row) : w.grownBy w'.drew row := ⟨h.os, h.tape, h.output, h.size, h.block⟩

set_option maxHeartbeats 4000000 in
theorem laid_new (base : Nat) (v : Value) (l : List Rn) (p q : Int) (w : World) (ho : OwnN w base v l) (hb : base ≤ w.heap.size) (hn : l.length ≤ 1000000) (hne : ∀ x y, l[l.length - 1]? = some (x, y) → ¬ x = p) :
    Calls Try.prog 95 #[v, .agg #[.int .i64 p, .int .i64 q]] w fun e w' => (∃ v', e = .returned v' ∧ OwnN w' base v' (l ++ [(p, q)])) ∧ w.grownBy w' v.ownBlock := by
  have HO := hid ho
  have HNE := hid hne
  obtain ⟨a, cap, rfl, hr⟩ := own_any ho
  have HR := hid hr
  obtain ⟨n, en⟩ : ∃ n, l.length = n := ⟨_, rfl⟩
  rw [en] at hr hn hne ⊢
  have EN := hid en
  have O1 : Hid (OwnN (w.alloc (.cells #[.int .i64 p, .int .i64 q] 65)) base (.slice a n cap) l) := hid (by have := ho.alloc (.cells #[.int .i64 p, .int .i64 q] 65); rw [← en]; exact this)
  have hl2 : n ≤ 9223372036854775807 := by omega
  have P1 : Hid (NRun w a n cap l) := hid hr
  clear ho hne hr en HO HR
  by_cases h0 : n = 0
  · subst h0
    go_enter Try.func95, Try.ntmps95
    go_wp2
    go_quiet (fail)
    have F1 : Hid (OwnN ((w.alloc (.cells #[.int .i64 p, .int .i64 q] 65)).drewN nq) base (.slice a 0 cap) l ∧ w.grownBy ((w.alloc (.cells #[.int .i64 p, .int .i64 q] 65)).drewN nq) (Value.slice a 0 cap).ownBlock ∧ ((w.alloc (.cells #[.int .i64 p, .int .i64 q] 65)).drewN nq).heap[w.heap.size]? = some (.cells #[.int .i64 p, .int .i64 q] 65) ∧ ((w.alloc (.cells #[.int .i64 p, .int .i64 q] 65)).drewN nq).heap.size = w.heap.size + 1) := hid ⟨O1.out, gdrewN (World.grownBy_alloc w _ _), heap_alloc_new w _, by simp [World.drewN]⟩
    generalize ((w.alloc (.cells #[.int .i64 p, .int .i64 q] 65)).drewN nq) = W at F1 ⊢
    obtain ⟨c0, c1⟩ := box_two F1.out.2.2.1
    have hWs := hid F1.out.2.2.2
    go_wp2_with (at_builtin; refine append_run rfl (.tmp 21) (.tmp 23) rfl base (.slice a 0 cap) l _ p q rfl (F1.out.1.alloc _) rfl (hnew rfl) (by have := EN.out; omega) (by have := hWs.out; simp; omega) ?_; intro u1 w1 ho1 hg1; have U1 := hid ho1; have G1 := hid (gtr (gtr F1.out.2.1 (World.grownBy_alloc _ _ _)) hg1); clear ho1 hg1)
    go_ret
    exact ⟨⟨u1, rfl, U1.out⟩, G1.out⟩
  · obtain ⟨j, hj⟩ : ∃ j, n - 1 = j := ⟨_, rfl⟩
    have hjk : (n : Int) - 1 = (j : Int) := by omega
    have hj0 : (0 : Int) ≤ (j : Int) := by omega
    have hjl : decide ((j : Int) < 0) = false := decide_eq_false (by omega)
    have hjn : (j : Int) < (n : Int) := by omega
    have hwj : IntKind.i64.wrap ((n : Int) - 1) = (j : Int) := by rw [hjk]; exact IntWalk.i64_in _ (by omega)
    obtain ⟨b, off, x0, x1, rfl, hbb, hr, p0, p1⟩ := P1.out.pick (b1alloc w (.cells #[.int .i64 p, .int .i64 q] 65)) (k := j) (by omega)
    have hx : ¬ x0 = p := HNE.out x0 x1 (by rw [EN.out, hj]; exact hr)
    have hxd : (x0 == p) = false := by simpa using hx
    have hxd2 : (x0 != p) = true := by simpa using hx
    clear hr hx hj p1
    go_enter Try.func95, Try.ntmps95
    go_wp2
    go_quiet (fail)
    have F1 : Hid (OwnN ((w.alloc (.cells #[.int .i64 p, .int .i64 q] 65)).drewN nq) base (.slice (some ⟨b, off, none⟩) n cap) l ∧ w.grownBy ((w.alloc (.cells #[.int .i64 p, .int .i64 q] 65)).drewN nq) (Value.slice (some ⟨b, off, none⟩) n cap).ownBlock ∧ ((w.alloc (.cells #[.int .i64 p, .int .i64 q] 65)).drewN nq).heap[w.heap.size]? = some (.cells #[.int .i64 p, .int .i64 q] 65) ∧ ((w.alloc (.cells #[.int .i64 p, .int .i64 q] 65)).drewN nq).heap.size = w.heap.size + 1) := hid ⟨O1.out, gdrewN (World.grownBy_alloc w _ _), heap_alloc_new w _, by simp [World.drewN]⟩
    generalize ((w.alloc (.cells #[.int .i64 p, .int .i64 q] 65)).drewN nq) = W at F1 ⊢
    obtain ⟨c0, c1⟩ := box_two F1.out.2.2.1
    have hWs := hid F1.out.2.2.2
    go_wp2_with (at_builtin; refine append_run rfl (.tmp 21) (.tmp 23) rfl base (.slice (some ⟨b, off, none⟩) n cap) l _ p q rfl (F1.out.1.alloc _) rfl (hnew rfl) (by have := EN.out; omega) (by have := hWs.out; simp; omega) ?_; intro u1 w1 ho1 hg1; have U1 := hid ho1; have G1 := hid (gtr (gtr F1.out.2.1 (World.grownBy_alloc _ _ _)) hg1); clear ho1 hg1)
    go_ret
    exact ⟨⟨u1, rfl, U1.out⟩, G1.out⟩

set_option maxHeartbeats 4000000 in
theorem laid_more (base : Nat) (v : Value) (l : List Rn) (x y q : Int) (w : World) (ho : OwnN w base v (l ++ [(x, y)])) (hb : base ≤ w.heap.size) (hn : l.length ≤ 1000000) (hy : -4611686018427387904 ≤ y ∧ y ≤ 4611686018427387904) (hq : -4611686018427387904 ≤ q ∧ q ≤ 4611686018427387903) :
    Calls Try.prog 95 #[v, .agg #[.int .i64 x, .int .i64 q]] w fun e w' => (e = .returned v ∧ OwnN w' base v (l ++ [(x, y + q)])) ∧ w.grownBy w' v.ownBlock := by
  obtain ⟨j, ej⟩ : ∃ j, l.length = j := ⟨_, rfl⟩
  have hl : (l ++ [(x, y)]).length = j + 1 := by rw [List.length_append, ej]; rfl
  have hl' : (l ++ [(x, y + q)]).length = j + 1 := by rw [List.length_append, ej]; rfl
  have ho' := ho
  unfold OwnN at ho'
  rw [hl] at ho'
  obtain ⟨g, cap, rfl⟩ := nown_form ho' (fun e => by subst e; rcases ho'.2 with ⟨_, h⟩ | ⟨_, _, _, h, _⟩ <;> first | omega | cases h)
  have HN := hid (own_nrun ho')
  have O1 : Hid ((w.alloc (.cells #[.int .i64 x, .int .i64 q] 65)).ownsRow base 65 2 (.slice (some ⟨g, 0, none⟩) (j + 1) cap) (j + 1) (ncells (l ++ [(x, y)]))) := hid (ho'.alloc _)
  have HGl := hid (ho'.lt g rfl).2
  obtain ⟨y1, y2⟩ := hy
  obtain ⟨q1, q2⟩ := hq
  obtain ⟨b, off, x0, x1, e0, hbb, hr, p0, p1⟩ := HN.out.pick (b1alloc w (.cells #[.int .i64 x, .int .i64 q] 65)) (k := j) (by omega)
  cases e0
  rw [List.getElem?_append_right (by omega), ej, Nat.sub_self] at hr
  cases hr
  have hj0 : (0 : Int) ≤ (j : Int) := by omega
  have hjl : decide ((j : Int) < 0) = false := decide_eq_false (by omega)
  have hwj : IntKind.i64.wrap (((j + 1 : Nat) : Int) - 1) = (j : Int) := by rw [show ((j + 1 : Nat) : Int) - 1 = (j : Int) by omega]; exact IntWalk.i64_in _ (by omega)
  have hj2 : (j : Int) < ((j + 1 : Nat) : Int) := by omega
  have EJ := hid ej
  have hjb : j ≤ 1000000 := by omega
  have HL' := hid hl'
  simp only [Nat.zero_add] at p0 p1
  clear ho ho' hl hl' ej
  obtain ⟨n, en⟩ : ∃ n, j + 1 = n := ⟨_, rfl⟩
  have hnj : (j : Int) < (n : Int) := by omega
  have hn2 : n ≤ 9223372036854775807 := by omega
  have hwn : IntKind.i64.wrap ((n : Int) - 1) = (j : Int) := by rw [← en]; exact hwj
  have O2 : Hid ((w.alloc (.cells #[.int .i64 x, .int .i64 q] 65)).ownsRow base 65 2 (.slice (some ⟨g, 0, none⟩) n cap) n (ncells (l ++ [(x, y)]))) := hid (by rw [← en]; exact O1.out)
  have HL2 : Hid ((l ++ [(x, y + q)]).length = n) := hid (by rw [← en]; exact HL'.out)
  rw [en]
  clear hwj hj2 O1 HL' HN en
  go_enter Try.func95, Try.ntmps95
  go_wp2
  go_quiet (fail)
  have F1 : Hid (((w.alloc (.cells #[.int .i64 x, .int .i64 q] 65)).drewN nq).ownsRow base 65 2 (.slice (some ⟨g, 0, none⟩) n cap) n (ncells (l ++ [(x, y)])) ∧ w.grownBy ((w.alloc (.cells #[.int .i64 x, .int .i64 q] 65)).drewN nq) (some g) ∧ ((w.alloc (.cells #[.int .i64 x, .int .i64 q] 65)).drewN nq).heap[w.heap.size]? = some (.cells #[.int .i64 x, .int .i64 q] 65)) := hid ⟨O2.out, gdrewN (World.grownBy_alloc w _ _), heap_alloc_new w _⟩
  have p0' : ((w.alloc (.cells #[.int .i64 x, .int .i64 q] 65)).drewN nq).cell? ⟨g, j * 2, none⟩ = some (.int .i64 x) := p0
  have p1' : ((w.alloc (.cells #[.int .i64 x, .int .i64 q] 65)).drewN nq).cell? ⟨g, j * 2 + 1, none⟩ = some (.int .i64 y) := p1
  clear p0 p1 O2
  generalize ((w.alloc (.cells #[.int .i64 x, .int .i64 q] 65)).drewN nq) = W at F1 p0' p1' ⊢
  obtain ⟨c0, c1⟩ := box_two F1.out.2.2
  have f1 := World.ownsRow.frozenAt F1.out.1 (j * 2 + 1)
  go_wp2
  go_region
  all_goals
    go_wp2
    go_ret
    have st := World.ownsRow.stored F1.out.1 (j * 2 + 1) (.int .i64 (y + q))
    have e1 : ncells (l ++ [(x, y + q)]) = (ncells (l ++ [(x, y)])).set (j * 2 + 1) (.int .i64 (y + q)) := by rw [← EJ.out, ncells_set]
    refine ⟨⟨rfl, ?_⟩, ?_⟩
    · unfold OwnN
      rw [HL2.out, e1]
      exact st.1
    · exact gtr F1.out.2.1 (gdrew1 st.2)

end Go.Proofs.Ytjkkajhjcinalaa

namespace Go.Proofs.Ytjkkajhjcinalaa
open Go.ChangeShapes Go.WideShapes Go.ChangeAt Go.RowKit
set_option linter.unusedVariables false
set_option linter.unusedSimpArgs false
set_option maxRecDepth 100000

def srtI (l : List Int) : List Int := l.mergeSort fun x y => decide (x ≤ y)
theorem srtI_perm (l : List Int) : (srtI l).Perm l := List.mergeSort_perm l _
theorem srtI_len (l : List Int) : (srtI l).length = l.length := (srtI_perm l).length_eq
theorem srtI_rise (l : List Int) : (srtI l).Pairwise (fun x y => x ≤ y) := by
  have := List.pairwise_mergeSort (le := fun x y : Int => decide (x ≤ y)) (fun a b c h1 h2 => by simp at h1 h2 ⊢; omega) (fun a b => by
    by_cases h : a ≤ b
    · simp [h]
    · have : b ≤ a := by omega
      simp [this]) l
  refine List.pairwise_iff_getElem.mpr (fun i j hi hj hij => ?_)
  have h : decide ((srtI l)[i]'hi ≤ (srtI l)[j]'hj) = true := List.pairwise_iff_getElem.mp this i j hi hj hij
  exact of_decide_eq_true h
theorem put_grown (w : World) (blk off m : Nat) (d : Array Int) (os : Array Obj) : w.grownBy (Go.Sort.grow (Go.Sort.putRow (Value.int .i64) (Go.Sort.ahead w m) blk off d) os) (some blk) := by
  refine ⟨rfl, rfl, rfl, by simp [Go.Sort.grow, Go.Sort.putRow, Go.Sort.mapBlock, Go.Sort.ahead], fun j hj hne => ?_⟩
  have hne' : ¬ blk = j := fun e => hne (by rw [e])
  rw [Go.Sort.heap_grow_old _ _ (by simp [Go.Sort.putRow, Go.Sort.mapBlock, Go.Sort.ahead]; exact hj)]
  simp only [Go.Sort.putRow, Go.Sort.mapBlock, Go.Sort.ahead]
  rw [Array.getElem?_modify, if_neg hne']
set_option maxHeartbeats 1000000 in
theorem sort_any (base g n cap : Nat) (l : List Int) (w : World) (ho : w.ownsRow base 2 1 (.slice (some ⟨g, 0, none⟩) n cap) n (vals .i64 l)) (hn : n ≤ 1000000) :
    Calls Try.prog 94 #[.slice (some ⟨g, 0, none⟩) n cap] w fun e w' => e = .returned (.tuple #[]) ∧ IRow .i64 w' (some ⟨g, 0, none⟩) n cap (srtI l) ∧ w.grownBy w' (some g) := by
  obtain ⟨e1, hlt, hl⟩ := owns_lies ho
  obtain ⟨_, hnc, hcm, _, _⟩ := own_row ho
  have hH : Go.Sort.Holds (Value.int .i64) w g 0 l.toArray := by
    intro j hj
    have hj' : j < l.length := by simpa using hj
    refine ⟨?_, ?_⟩
    · rw [hl j hj']
      simp [List.getD_eq_getElem?_getD, List.getElem?_eq_getElem hj']
    · rw [Nat.zero_add]; exact World.ownsRow.frozenAt ho j
  have hcon := AnyM.slices_Sort_int sortI g 0 cap l w hH hlt (by omega)
  rw [← e1] at hcon
  refine hcon.mono ?_
  rintro e w' ⟨rfl, m, os, rfl⟩
  have hD : (l.mergeSort fun x y => decide (x ≤ y)) = srtI l := rfl
  rw [hD]
  have hlen := srtI_len l
  refine ⟨rfl, ⟨by omega, hnc, hcm, (fun e => by cases e), fun _ => ⟨g, 0, rfl, ?_, fun j hj => ?_⟩⟩, put_grown _ _ _ _ _ _⟩
  · have := (put_grown w g 0 m (srtI l).toArray os).size
    omega
  · have hh := Go.Sort.holds_putRow (Value.int .i64) (Go.Sort.ahead w m) g 0 l.toArray (srtI l).toArray hH (by simp [hlen])
    have hc := (hh j (by simpa using hj)).1
    have hb := World.block_lt_of_cell? _ _ hc
    rw [Go.Sort.cell?_grow _ os _ hb, hc]
    simp [List.getD_eq_getElem?_getD, List.getElem?_eq_getElem hj]
theorem info_i64 : (Try.prog.info? 2).map (fun i => (i.zero, i.size, i.bytes)) = some (some (.int .i64 0), 1, 8) := by kernel_rfl
set_option maxHeartbeats 1000000 in
theorem clone_none (w : World) : Calls Try.prog 93 #[.slice none 0 0] w fun e w' => e = .returned (.slice none 0 0) ∧ w' = w := by
  have hnil : ∀ w, (binOp .eql 51 (.slice none 0 0) (.slice none 0 0)).run Try.prog w = .ok (.bool true) w := fun _ => by kernel_rfl
  go_enter Try.func93, Try.ntmps93
  go_wp2
  go_ret
  exact ⟨rfl, rfl⟩
set_option maxHeartbeats 1000000 in
theorem clone_some (ad : Addr) (n c : Nat) (l : List Int) (w : World) (h1 : IRow .i64 w (some ad) n c l) (hn : n ≤ 1000000) :
    Calls Try.prog 93 #[.slice (some ad) n c] w fun e w' => (∃ g cap : Nat, e = .returned (.slice (some ⟨g, 0, none⟩) n cap) ∧ w'.ownsRow w.heap.size 2 1 (.slice (some ⟨g, 0, none⟩) n cap) n (vals .i64 l)) ∧ Below w.heap.size w w' := by
  have H1 := hid h1
  clear h1
  have hnil : ∀ w, (binOp .eql 51 (.slice (some ad) n c) (.slice none 0 0)).run Try.prog w = .ok (.bool false) w := fun _ => by kernel_rfl
  go_enter Try.func93, Try.ntmps93
  go_wp2_with (at_builtin; refine append_row Try.underlying51 info_i64 (by decide) rfl (.tmp 5) (.tmp 6) rfl w.heap.size w.heap.size 0 0 [] rfl (own_made 2 w w.heap.size (Nat.le_refl _)) (some ad) n c l rfl (H1.out.below ((Below.refl _ _).alloc (Nat.le_refl _) _)) (by omega) (by simp) ?_; intro g1 cap1 w1 hown1 hgrow1; rw [Nat.zero_add, List.nil_append] at hown1; have B1 : Below w.heap.size w w1 := ((Below.refl w.heap.size w).alloc (Nat.le_refl _) _).grown hgrow1 (by simp) (fun k hk => by cases hk; exact Nat.le_refl _))
  go_ret
  exact ⟨⟨g1, cap1, rfl, hown1⟩, B1⟩
/-- A value behind a bag of values that are none above it. -/
theorem lay_last {l : List Rn} {x y : Int} (hs : Srt (l ++ [(x, y)])) (hy : ¬ y + 1 = 0) : lay x 1 (l ++ [(x, y)]) = l ++ [(x, y + 1)] := by
  have h : ∀ r ∈ l, r.1 < x := fun r hr => (List.pairwise_append.1 hs).2.2 r hr (x, y) (by simp)
  rw [lay_here h rfl, if_neg hy]
theorem below_x {l : List Rn} {x : Int} (hs : Srt l) (hx : ∀ r ∈ l, r.1 ≤ x) (hne : ∀ p q, l[l.length - 1]? = some (p, q) → ¬ p = x) : ∀ r ∈ l, r.1 < x := by
  intro r hr
  obtain ⟨i, hi⟩ := List.mem_iff_getElem?.1 hr
  have hil := (List.getElem?_eq_some_iff.1 hi).1
  have hlast : l[l.length - 1]? = some (l[l.length - 1]'(by omega)) := List.getElem?_eq_getElem (by omega)
  have h1 : ¬ (l[l.length - 1]'(by omega)).1 = x := hne _ (l[l.length - 1]'(by omega)).2 hlast
  have h2 := hx _ (List.getElem_mem (show l.length - 1 < l.length by omega))
  by_cases he : i = l.length - 1
  · subst he; rw [hlast] at hi; cases hi; omega
  · have := srt_get hs hi hlast (by omega); omega
theorem split_last {l : List Rn} {x y : Int} (h : l[l.length - 1]? = some (x, y)) : ∃ l0, l = l0 ++ [(x, y)] := by
  have hl := (List.getElem?_eq_some_iff.1 h).1
  refine ⟨l.take (l.length - 1), ?_⟩
  have := take_one h
  rw [show l.length - 1 + 1 = l.length by omega, List.take_length] at this
  exact this

set_option maxHeartbeats 4000000 in
theorem of_any (a : Option Addr) (n c : Nat) (l : List Int) (w : World) (hl : IRow .i64 w a n c l) (hn : n ≤ 1000) :
    Calls Try.prog 56 #[.slice a n c] w fun e w' => (∃ A cap, e = .returned (.slice A (bagOf l).length cap) ∧ NRun w' A (bagOf l).length cap (bagOf l)) ∧ Below w.heap.size w w' := by
  have HL := hid hl
  obtain ⟨l1, l2⟩ := hl.len
  have EL := hid l1
  have hs0 : Hid (∀ W, Calls Try.prog 94 #[.slice none 0 0] W fun e w' => e = .returned (.tuple #[]) ∧ w' = W) := hid fun W => AnyM.slices_Sort_int_none sortI none 0 W
  cases a with
  | none =>
    obtain ⟨r1, r2, r3, r4, r5⟩ := hl
    obtain rfl : c = 0 := r4 rfl
    obtain rfl : n = 0 := by omega
    have hy : l = [] := List.length_eq_zero_iff.mp r1.symm
    subst hy
    clear r1 r2 r3 r4 r5 l1 l2 HL EL
    go_enter Try.func56, Try.ntmps56
    go_upto_region 3 with (first
      | (go_at_call 93; refine (clone_none _).mono ?_; rintro e w1 ⟨rfl, hw⟩; have hw2 := hw.symm; clear hw; subst hw2)
      | (go_at_call 94; refine (hs0.out _).mono ?_; rintro e w2 ⟨rfl, hw⟩; have hw2 := hw.symm; clear hw; subst hw2))
    go_wp2
    refine wp_loop_rounds 1 ?_
    rw [rounds_succ]
    go_wp2
    go_ret
    exact ⟨⟨none, 0, rfl, nrun_nil _⟩, Below.refl _ _⟩
  | some ad =>
    clear hl l1
    go_enter Try.func56, Try.ntmps56
    go_upto_region 3 with (first
      | (go_at_call 93; refine (clone_some ad n c l _ HL.out (by omega)).mono ?_; rintro e w1 ⟨⟨g1, cap1, rfl, ho1⟩, hb1⟩; have O1 := hid ho1; have B1 := hid hb1; clear ho1 hb1)
      | (go_at_call 94; refine (sort_any w.heap.size g1 n cap1 l _ O1.out (by omega)).mono ?_; rintro e w2 ⟨rfl, hr2, hg2⟩; have R2 := hid hr2; have B2 := hid (B1.out.grown hg2 B1.out.size (fun k hk => by cases hk; exact (O1.out.lt g1 rfl).1)); clear hr2 hg2))
    clear O1 B1 hs0 HL
    go_wp2
    go_loopw [3, 12] (fun o i wr => ∃ (k : Nat) (u : Value) (out : List Rn), k ≤ n ∧ i = .int .i64 k ∧ u = o ∧ Hid (out = bagOf ((srtI l).take k)) ∧ Hid (OwnW w2 wr u out)) (fun _ i _ => n - (intOf i).toNat)
    case atStart => exact ⟨0, _, [], by omega, rfl, rfl, hid rfl, hid ⟨Below.refl _ _, own_nil _ _⟩⟩
    case round =>
      obtain ⟨k, u, out, hkn, rfl, rfl, HO, OW⟩ := hrel
      have hk0 : (0 : Int) ≤ (k : Int) := by omega
      by_cases hlt : k < n
      · have hki : (k : Int) < (n : Int) := by omega
        obtain ⟨b, off, x, eb, hb, hr, p0⟩ := R2.out.pick OW.out.1 hlt
        cases eb
        simp only [Nat.zero_add] at p0
        have HR := hid hr
        have HST : Hid (lay x 1 out = bagOf ((srtI l).take (k + 1))) := hid (by rw [HO.out, bagOf_step HR.out])
        have HSrt : Hid (Srt out) := hid (by rw [HO.out]; exact bagOf_srt _)
        have HPos : Hid (Pos out) := hid (by rw [HO.out]; exact bagOf_pos _)
        have HLen : Hid (out.length ≤ k) := hid (by rw [HO.out]; have := bagOf_len ((srtI l).take k); rw [List.length_take] at this; omega)
        have HLe : Hid (∀ r ∈ out, r.1 ≤ x) := hid (fun r hr' => by
          rw [HO.out] at hr'
          have hm := bagOf_mem hr'
          obtain ⟨i, hi⟩ := List.mem_iff_getElem?.1 hm
          rw [List.getElem?_take] at hi
          by_cases hik : i < k
          · rw [if_pos hik] at hi
            obtain ⟨h1, e1⟩ := List.getElem?_eq_some_iff.1 hi
            obtain ⟨h2, e2⟩ := List.getElem?_eq_some_iff.1 HR.out
            have := List.pairwise_iff_getElem.mp (srtI_rise l) i k h1 h2 hik
            rw [e1, e2] at this
            exact this
          · rw [if_neg hik] at hi; cases hi)
        have HBd : Hid (∀ r ∈ out, r.2 ≤ k) := hid (fun r hr' => by
          have h2 := cn_srt_eq HSrt.out hr'
          have h3 := cn_le (v := r.1) HPos.out
          have h4 : tot out = (((srtI l).take k).length : Int) := by rw [HO.out, bagOf_tot]
          rw [List.length_take] at h4
          omega)
        clear hr
        by_cases hq : ∃ y, out[out.length - 1]? = some (x, y)
        · obtain ⟨y, hy⟩ := hq
          obtain ⟨l0, el⟩ := split_last hy
          have hyb := HBd.out (x, y) (by rw [el]; simp)
          have hyp := HPos.out (x, y) (by rw [el]; simp)
          simp only at hyb hyp
          have OW2 : Hid (OwnW w2 wr u (l0 ++ [(x, y)])) := hid (by rw [← el]; exact OW.out)
          have hlen0 : l0.length ≤ k := by have := HLen.out; rw [el, List.length_append] at this; omega
          have HST2 : Hid (l0 ++ [(x, y + 1)] = bagOf ((srtI l).take (k + 1))) := hid (by rw [← HST.out, el, lay_last (by rw [← el]; exact HSrt.out) (by omega)])
          clear hy el
          go_wp2_with (go_at_call 95; refine (laid_more w2.heap.size u l0 x y 1 _ OW2.out.2 OW2.out.1.size (by omega) (by omega) (by omega)).mono ?_; rintro e w3 ⟨⟨rfl, ho3⟩, hg3⟩; have O3 := hid (OwnW.grown OW2.out hg3 ho3); clear ho3 hg3)
          go_roundw
          case rel => exact ⟨k + 1, u, _, by omega, by go_num, rfl, HST2, O3⟩
          case measure => simp [intOf]; omega
        · have HNE : Hid (∀ p q, out[out.length - 1]? = some (p, q) → ¬ p = x) := hid (fun p q h e => hq ⟨q, by rw [← e]; exact h⟩)
          have HST2 : Hid (out ++ [(x, 1)] = bagOf ((srtI l).take (k + 1))) := hid (by rw [← HST.out, lay_low (below_x HSrt.out HLe.out HNE.out)])
          clear hq
          go_wp2_with (go_at_call 95; refine (laid_new w2.heap.size u out x 1 _ OW.out.2 OW.out.1.size (by have := HLen.out; omega) HNE.out).mono ?_; rintro e w3 ⟨⟨u3, rfl, ho3⟩, hg3⟩; have O3 := hid (OwnW.grown OW.out hg3 ho3); clear ho3 hg3)
          go_roundw
          case rel => exact ⟨k + 1, u3, _, by omega, by go_num, rfl, HST2, O3⟩
          case measure => simp [intOf]; omega
      · have hkf : decide ((k : Int) < (n : Int)) = false := decide_eq_false (by omega)
        have HE : Hid (out = bagOf l) := hid (by rw [HO.out, List.take_of_length_le (by rw [srtI_len]; have := EL.out; omega), bagOf_perm (srtI_perm l)])
        obtain ⟨A, cap, e, hr⟩ := own_any OW.out.2
        subst e
        have HR := hid hr
        clear hr
        go_wp2
        go_ret
        rw [← HE.out]
        exact ⟨⟨A, cap, rfl, HR.out⟩, bt B2.out OW.out.1⟩

end Go.Proofs.Ytjkkajhjcinalaa

/-
  What lattice.next and Count return.
  Conditions: as each theorem states them.
-/
import Derived.Test.YtmlnfpefemchhaaLE
import Derived.Test.YtmlnfpefemchhaaLF
namespace Go.Proofs.Ytmlnfpefemchhaa
open Go.ChangeShapes Go.WideShapes Go.ChangeAt Go.RowKit
set_option linter.unusedVariables false
set_option linter.unusedSimpArgs false

set_option maxHeartbeats 4000000 in
theorem next_d (a b c d w0 w1 w2 w3 : Int) (w : World) (h : ¬ d = w3) (h0 : 0 ≤ d) (h1 : d ≤ 100) :
    Calls Try.prog 55 #[.agg #[.int .u8 a, .int .u8 b, .int .u8 c, .int .u8 d], .agg #[.int .u8 w0, .int .u8 w1, .int .u8 w2, .int .u8 w3]] w
      fun e w' => e = .returned (.agg #[.int .u8 a, .int .u8 b, .int .u8 c, .int .u8 (d + 1)]) ∧ Below w.heap.size w w' := by
  have e3 : (d == w3) = false := by simp [h]
  go_enter Try.func55, Try.ntmps55
  go_wp2
  refine wp_loop_rounds 5 ?_
  rw [rounds_succ]; go_wp2; go_region; go_wp2
  go_returns
  exact ⟨rfl, by (repeat refine below_drewN ?_ _); go_grown⟩

set_option maxHeartbeats 4000000 in
theorem next_c (a b c w0 w1 w2 w3 : Int) (w : World) (h : ¬ c = w2) (h0 : 0 ≤ c) (h1 : c ≤ 100) :
    Calls Try.prog 55 #[.agg #[.int .u8 a, .int .u8 b, .int .u8 c, .int .u8 w3], .agg #[.int .u8 w0, .int .u8 w1, .int .u8 w2, .int .u8 w3]] w
      fun e w' => e = .returned (.agg #[.int .u8 a, .int .u8 b, .int .u8 (c + 1), .int .u8 0]) ∧ Below w.heap.size w w' := by
  have e3 : (c == w2) = false := by simp [h]
  go_enter Try.func55, Try.ntmps55
  go_wp2
  refine wp_loop_rounds 5 ?_
  iterate 2 (rw [rounds_succ]; go_wp2; go_region; go_wp2)
  go_returns
  exact ⟨rfl, by (repeat refine below_drewN ?_ _); go_grown⟩

set_option maxHeartbeats 4000000 in
theorem next_b (a b w0 w1 w2 w3 : Int) (w : World) (h : ¬ b = w1) (h0 : 0 ≤ b) (h1 : b ≤ 100) :
    Calls Try.prog 55 #[.agg #[.int .u8 a, .int .u8 b, .int .u8 w2, .int .u8 w3], .agg #[.int .u8 w0, .int .u8 w1, .int .u8 w2, .int .u8 w3]] w
      fun e w' => e = .returned (.agg #[.int .u8 a, .int .u8 (b + 1), .int .u8 0, .int .u8 0]) ∧ Below w.heap.size w w' := by
  have e3 : (b == w1) = false := by simp [h]
  go_enter Try.func55, Try.ntmps55
  go_wp2
  refine wp_loop_rounds 5 ?_
  iterate 3 (rw [rounds_succ]; go_wp2; go_region; go_wp2)
  go_returns
  exact ⟨rfl, by (repeat refine below_drewN ?_ _); go_grown⟩

set_option maxHeartbeats 4000000 in
theorem next_a (a w0 w1 w2 w3 : Int) (w : World) (h : ¬ a = w0) (h0 : 0 ≤ a) (h1 : a ≤ 100) :
    Calls Try.prog 55 #[.agg #[.int .u8 a, .int .u8 w1, .int .u8 w2, .int .u8 w3], .agg #[.int .u8 w0, .int .u8 w1, .int .u8 w2, .int .u8 w3]] w
      fun e w' => e = .returned (.agg #[.int .u8 (a + 1), .int .u8 0, .int .u8 0, .int .u8 0]) ∧ Below w.heap.size w w' := by
  have e3 : (a == w0) = false := by simp [h]
  go_enter Try.func55, Try.ntmps55
  go_wp2
  refine wp_loop_rounds 5 ?_
  iterate 4 (rw [rounds_succ]; go_wp2; go_region; go_wp2)
  go_returns
  exact ⟨rfl, by (repeat refine below_drewN ?_ _); go_grown⟩

/-- How many nodes. -/
def cnt (ds : Dims) (M : Int) : Int := if goodC ds M then (tp ds M 0 + 1) * (tp ds M 1 + 1) * (tp ds M 2 + 1) * (tp ds M 3 + 1) else 0
theorem mul_bd {x y X Y : Int} (hx : 1 ≤ x) (hX : x ≤ X) (hy : 1 ≤ y) (hY : y ≤ Y) : 1 ≤ x * y ∧ x * y ≤ X * Y := by
  constructor
  · have := Int.mul_le_mul hx hy (by omega) (by omega)
    simpa using this
  · exact Int.mul_le_mul hX hY (by omega) (by omega)

set_option maxHeartbeats 4000000 in
theorem count_any (a : Option Addr) (n c : Nat) (ds : Dims) (M : Int) (w : World) (hc : Cat w a n c ds) (hM : I64 M) :
    Calls Try.prog 35 #[.agg #[.slice a n c, .int .i64 M]] w fun e w' => e = .returned (.int .i64 (cnt ds M)) ∧ Below w.heap.size w w' := by
  have HC : Hid (Cat w a n c ds) := hc
  have HM : Hid (I64 M) := hM
  have bx : Below w.heap.size w (w.alloc (.cells #[.slice a n c, .int .i64 M] 25)) := (Below.refl _ _).alloc (Nat.le_refl _) _
  clear hc hM
  cases hg : goodC ds M with
  | false =>
    go_enter Try.func35, Try.ntmps35
    go_wp2_with (go_at_call 52; refine (top_any _ _ _ _ _ _ (HC.out.below bx) HM.out).mono ?_; rintro e w1 ⟨rfl, hb⟩)
    go_ret
    exact ⟨ret_int (by unfold cnt; rw [hg]; rfl), (bx.trans (hb.mono (by simp))).alloc (by have := hb.size; simp at this; omega) _⟩
  | true =>
    have b0 := tp_bd ds M 0; have b1 := tp_bd ds M 1; have b2 := tp_bd ds M 2; have b3 := tp_bd ds M 3
    have HQ : Hid (cnt ds M = (tp ds M 0 + 1) * (tp ds M 1 + 1) * (tp ds M 2 + 1) * (tp ds M 3 + 1)) := by show _ = _; unfold cnt; rw [if_pos hg]
    obtain ⟨t0, h0⟩ : ∃ t, tp ds M 0 = t := ⟨_, rfl⟩
    obtain ⟨t1, h1⟩ : ∃ t, tp ds M 1 = t := ⟨_, rfl⟩
    obtain ⟨t2, h2⟩ : ∃ t, tp ds M 2 = t := ⟨_, rfl⟩
    obtain ⟨t3, h3⟩ : ∃ t, tp ds M 3 = t := ⟨_, rfl⟩
    rw [h0] at b0; rw [h1] at b1; rw [h2] at b2; rw [h3] at b3
    rw [h0, h1, h2, h3] at HQ
    obtain ⟨p0, q0⟩ := b0; obtain ⟨p1, q1⟩ := b1; obtain ⟨p2, q2⟩ := b2; obtain ⟨p3, q3⟩ := b3
    have i0 : ∀ w, (Instr.index 36 (.agg #[.int .u8 t0, .int .u8 t1, .int .u8 t2, .int .u8 t3]) (.int .i64 0)).run Try.prog w = .ok (.int .u8 t0) w := fun _ => by kernel_rfl
    have i1 : ∀ w, (Instr.index 36 (.agg #[.int .u8 t0, .int .u8 t1, .int .u8 t2, .int .u8 t3]) (.int .i64 1)).run Try.prog w = .ok (.int .u8 t1) w := fun _ => by kernel_rfl
    have i2 : ∀ w, (Instr.index 36 (.agg #[.int .u8 t0, .int .u8 t1, .int .u8 t2, .int .u8 t3]) (.int .i64 2)).run Try.prog w = .ok (.int .u8 t2) w := fun _ => by kernel_rfl
    have i3 : ∀ w, (Instr.index 36 (.agg #[.int .u8 t0, .int .u8 t1, .int .u8 t2, .int .u8 t3]) (.int .i64 3)).run Try.prog w = .ok (.int .u8 t3) w := fun _ => by kernel_rfl
    obtain ⟨P1, hP1⟩ : ∃ P, (t0 + 1) * (t1 + 1) = P := ⟨_, rfl⟩
    obtain ⟨P2, hP2⟩ : ∃ P, P1 * (t2 + 1) = P := ⟨_, rfl⟩
    obtain ⟨P3, hP3⟩ : ∃ P, P2 * (t3 + 1) = P := ⟨_, rfl⟩
    have g1 := mul_bd (x := t0 + 1) (y := t1 + 1) (X := 5) (Y := 5) (by omega) (by omega) (by omega) (by omega)
    rw [hP1] at g1
    have g2 := mul_bd (x := P1) (y := t2 + 1) (X := 25) (Y := 5) (by omega) (by omega) (by omega) (by omega)
    rw [hP2] at g2
    have g3 := mul_bd (x := P2) (y := t3 + 1) (X := 125) (Y := 5) (by omega) (by omega) (by omega) (by omega)
    rw [hP3] at g3
    obtain ⟨g11, g12⟩ := g1; obtain ⟨g21, g22⟩ := g2; obtain ⟨g31, g32⟩ := g3
    have z0 : IntKind.i64.wrap (t0 + 1) = t0 + 1 := IntWalk.i64_in _ (by omega)
    rw [hP1, hP2, hP3] at HQ
    go_enter Try.func35, Try.ntmps35
    go_wp2_with (go_at_call 52; refine (top_any _ _ _ _ _ _ (HC.out.below bx) HM.out).mono ?_; rintro e w1 ⟨rfl, hb⟩; rw [h0, h1, h2, h3])
    refine wp_loop_rounds 5 ?_
    iterate 4 (rw [rounds_succ]; go_wp2)
    rw [rounds_succ]; go_wp2
    go_ret
    refine ⟨ret_int HQ.out.symm, (bx.trans (hb.mono (by simp))).alloc (by have := hb.size; simp at this; omega) _⟩

end Go.Proofs.Ytmlnfpefemchhaa

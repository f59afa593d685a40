/-
  Is a delta light: what LightDelta returns.
  Conditions: as each theorem states them.
-/
import Derived.Test.YtjkkajhjcinalaaC10
import Derived.Laws.Cover1
namespace Go.Proofs.Ytjkkajhjcinalaa
open Go.ChangeShapes Go.WideShapes Go.ChangeAt Go.RowKit
set_option linter.unusedVariables false
set_option linter.unusedSimpArgs false
set_option maxRecDepth 100000

set_option maxHeartbeats 8000000 in
theorem dlight_m (d : Dl) (a0 : Option Addr) (a1 a2 : Nat) (a3 : Option Addr) (a4 a5 : Nat) (a6 : Option Addr) (a7 a8 : Nat) (a9 : Option Addr) (a10 a11 : Nat) (v : Bool) (w : World) (hw : DW w a0 a1 a2 a3 a4 a5 a6 a7 a8 a9 a10 a11 d) (hv : Hid (decide ((a1 ≤ 60 ∧ a4 ≤ 60) ∧ a7 ≤ 60 ∧ a10 ≤ 60) = v)) :
    Calls Try.prog 30 #[(.agg #[.int .i64 d.n, .int .i64 d.s0, .int .i64 d.s1, .slice a0 a1 a2, .slice a3 a4 a5, .slice a6 a7 a8, .slice a9 a10 a11])] w fun e w' => e = .returned (.bool v) ∧ Below w.heap.size w w' := by
  have K0 := hid (kp_new w (.cells #[.int .i64 d.n, .int .i64 d.s0, .int .i64 d.s1, .slice a0 a1 a2, .slice a3 a4 a5, .slice a6 a7 a8, .slice a9 a10 a11] 68))
  have h1 := hw.1.1.lens.2
  have h2 := hw.1.2.lens.2
  have h3 := hw.2.1.lens.2
  have h4 := hw.2.2.lens.2
  clear hw
  go_enter Try.func30, Try.ntmps30
  go_upto_region 1 with fail
  generalize w.alloc (.cells #[.int .i64 d.n, .int .i64 d.s0, .int .i64 d.s1, .slice a0 a1 a2, .slice a3 a4 a5, .slice a6 a7 a8, .slice a9 a10 a11] 68) = W at K0 ⊢
  have c3 := kp_cell (j := 3) (v := .slice a0 a1 a2) K0.out rfl
  have c5 := kp_cell (j := 5) (v := .slice a6 a7 a8) K0.out rfl
  go_upto_region 3 with fail
  refine wp_loop_rounds 3 ?_
  rw [rounds_succ]
  go_wp2
  go_quiet (fail)
  generalize hM : (if (if 0 < a1 then (a1 : Int) else 0) < (a7 : Int) then (a7 : Int) else if 0 < a1 then (a1 : Int) else 0) = M
  have HM := hid hM
  clear hM
  replace K0 : Hid (Kp w (W.drewN nq) w.heap.size (.cells #[.int .i64 d.n, .int .i64 d.s0, .int .i64 d.s1, .slice a0 a1 a2, .slice a3 a4 a5, .slice a6 a7 a8, .slice a9 a10 a11] 68)) := hid (K0.out.step (bdrewN (Below.refl _ _)))
  generalize W.drewN nq = W1 at K0 ⊢
  clear c3 c5
  have c4 := kp_cell (j := 4) (v := .slice a3 a4 a5) K0.out rfl
  have c6 := kp_cell (j := 6) (v := .slice a9 a10 a11) K0.out rfl
  go_wp2
  rw [rounds_succ]
  go_wp2
  go_quiet (fail)
  generalize hY : (if (if M < (a4 : Int) then (a4 : Int) else M) < (a10 : Int) then (a10 : Int) else if M < (a4 : Int) then (a4 : Int) else M) = Y
  have HY := hid hY
  clear hY
  replace K0 : Hid (Kp w (W1.drewN nq) w.heap.size (.cells #[.int .i64 d.n, .int .i64 d.s0, .int .i64 d.s1, .slice a0 a1 a2, .slice a3 a4 a5, .slice a6 a7 a8, .slice a9 a10 a11] 68)) := hid (K0.out.step (bdrewN (Below.refl _ _)))
  generalize W1.drewN nq = W2 at K0 ⊢
  clear c4 c6
  have hd : decide (Y ≤ 60) = v := by
    rw [← hv.out, ← HY.out, ← HM.out]
    refine decide_eq_decide.2 ?_
    split <;> split <;> split <;> omega
  clear HM HY
  go_wp2
  rw [rounds_succ]
  go_wp2
  go_ret
  exact ⟨by first | rfl | exact ret_bool hd, K0.out.1⟩

end Go.Proofs.Ytjkkajhjcinalaa

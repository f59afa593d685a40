/-
  What keep.Nodes returns; All of a catalog that may not be; contracts as slices.
  Conditions: as each theorem states them.
-/
import Derived.Test.YtmlnfpefemchhaaLM
namespace Go.Proofs.Ytmlnfpefemchhaa
open Go.ChangeShapes Go.WideShapes Go.ChangeAt Go.RowKit
set_option linter.unusedVariables false
set_option linter.unusedSimpArgs false

set_option maxHeartbeats 4000000 in
theorem nodes_same (a : Option Addr) (n c : Nat) (a2 : Option Addr) (n2 c2 : Nat) (l : List Nd) (w : World) (h : NRow w a n c l) (h2 : NRow w a2 n2 c2 l) :
    Calls Try.prog 30 #[.slice a n c, .slice a2 n2 c2] w fun e w' => e = .returned (.bool true) ∧ Below w.heap.size w w' := by
  obtain ⟨e1, e2⟩ := h.lens
  obtain ⟨e3, e4⟩ := h2.lens
  obtain rfl : n2 = n := by omega
  have HA : Hid (NRow w a n2 c l) := h
  have HB : Hid (NRow w a2 n2 c2 l) := h2
  have eqn := eqN
  have e0 : ((n2 : Int) != (n2 : Int)) = false := by simp
  clear h h2 e1 e3
  go_enter Try.func30, Try.ntmps30
  go_wp2
  go_loopg [5] n2 (fun gk vi wr => ∃ (k : Nat), vi = .int .i64 k ∧ Hid (gk + k = n2) ∧ Hid (Below w.heap.size w wr))
  case atStart => exact ⟨0, rfl, hid (by omega), hid (Below.refl _ _)⟩
  case round =>
    obtain ⟨k, rfl, HK, HW⟩ := hrel
    by_cases hlt : k < n2
    · have hkn : (k : Int) < (n2 : Int) := by omega
      obtain ⟨b, off, rfl, hb, x0, x1, x2, x3, hx, p0, p1, p2, p3⟩ := HA.out.get HW.out hlt
      obtain ⟨b', off', rfl, hb', y0, y1, y2, y3, hy, q0, q1, q2, q3⟩ := HB.out.get HW.out hlt
      rw [hx] at hy
      simp only [Option.some.injEq, Prod.mk.injEq] at hy
      obtain ⟨rfl, rfl, rfl, rfl⟩ := hy
      clear hx
      go_wp2
      go_quiet (fail)
      go_wp2
      go_roundg (n2 - (k + 1))
      case measure => have := HK.out; omega
      case rel => exact ⟨k + 1, by go_num, hid (by have := HK.out; omega), hid (below_drewN HW.out _)⟩
    · have hkf : decide ((k : Int) < (n2 : Int)) = false := decide_eq_false (by omega)
      go_wp2
      go_ret
      exact ⟨rfl, HW.out⟩

end Go.Proofs.Ytmlnfpefemchhaa

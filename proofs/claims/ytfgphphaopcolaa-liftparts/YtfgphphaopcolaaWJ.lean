/-
  Rows of places held against each other; the chapter's examples: what the law's own wakes returns.
  Conditions: as each theorem states them.
-/
import Derived.Test.YtfgphphaopcolaaWI
import Derived.Test.YtfgphphaopcolaaWE
namespace Go.Proofs.Ytfgphphaopcolaa
open Go.ChangeShapes Go.WideShapes Go.ChangeAt Go.RowKit
set_option linter.unusedVariables false
set_option linter.unusedSimpArgs false

theorem eqC (a b c d x y z u : Int) (w : World) : (Op.equalIn 10000 27 (.agg #[.int .u8 a, .int .u8 b, .int .u8 c, .int .u8 d]) (.agg #[.int .u8 x, .int .u8 y, .int .u8 z, .int .u8 u])).run Try.prog w = .ok (a == x && (b == y && (c == z && d == u))) w := by
  have u3 := Try.underlying5
  have a3 := Try.isAgg5
  have z3 := Try.sizeOf5
  rw [show (10000 : Nat) = 9999 + 1 from rfl, Op.equalIn]
  simp only [Sem.run_bind, run_underlying Try.underlying27, Result.andThen_ok]
  simp only [Std.Legacy.Range.forIn_eq_forIn_range', Std.Legacy.Range.size, Nat.sub_zero, Nat.add_sub_cancel, Nat.div_one, List.range'_succ, List.range'_zero, List.forIn_cons, List.forIn_nil]
  go_simp
  by_cases h1 : a = x <;> by_cases h2 : b = y <;> by_cases h3 : c = z <;> by_cases h4 : d = u <;> simp [h1, h2, h3, h4]
theorem NRow.pick {w w' : World} {a : Option Addr} {n c : Nat} {l : List Nd} (h : NRow w a n c l) (hb : Below w.heap.size w w') {k : Nat} (hk : k < n) :
    ∃ b off, a = some ⟨b, off, none⟩ ∧ b < w'.heap.size ∧ ∃ x0 x1 x2 x3, l[k]? = some (x0, x1, x2, x3) ∧ w'.cell? ⟨b, off + k * 4, none⟩ = some (.int .u8 x0) ∧ w'.cell? ⟨b, off + k * 4 + 1, none⟩ = some (.int .u8 x1) ∧ w'.cell? ⟨b, off + k * 4 + 2, none⟩ = some (.int .u8 x2) ∧ w'.cell? ⟨b, off + k * 4 + 3, none⟩ = some (.int .u8 x3) := by
  obtain ⟨x, hx⟩ : ∃ x, l[k]? = some x := ⟨_, List.getElem?_eq_getElem (by rw [← h.1]; exact hk)⟩
  obtain ⟨x0, x1, x2, x3⟩ := x
  obtain ⟨b, off, e, hlt, c0, c1, c2, c3⟩ := (h.below hb).at hx
  exact ⟨b, off, e, hlt, x0, x1, x2, x3, hx, c0, c1, c2, c3⟩
theorem below_dr {B : Nat} {w w' : World} (h : Below B w w') (n : Nat) : Below B w (w'.drewN n) := ⟨h.os, h.tape, h.output, h.size, h.block⟩

set_option maxHeartbeats 4000000 in
theorem coords_same (a : Option Addr) (n c : Nat) (a2 : Option Addr) (n2 c2 : Nat) (l : List Nd) (w : World) (h : NRow w a n c l) (h2 : NRow w a2 n2 c2 l) :
    Calls Try.prog 15 #[.slice a n c, .slice a2 n2 c2] w fun e w' => e = .returned (.bool true) ∧ Below w.heap.size w w' := by
  obtain ⟨e1, e2⟩ := h.lens
  obtain ⟨e3, e4⟩ := h2.lens
  obtain rfl : n2 = n := by omega
  have HA : Hid (NRow w a n2 c l) := h
  have HB : Hid (NRow w a2 n2 c2 l) := h2
  have eqn := eqC
  have e0 : ((n2 : Int) != (n2 : Int)) = false := by simp
  clear h h2 e1 e3
  go_enter Try.func15, Try.ntmps15
  go_wp2
  go_loopg [5] n2 (fun gk vi wr => ∃ (k : Nat), vi = .int .i64 k ∧ Hid (gk + k = n2) ∧ Hid (Below w.heap.size w wr))
  case atStart => exact ⟨0, rfl, hid (by omega), hid (Below.refl _ _)⟩
  case round =>
    obtain ⟨k, rfl, HK, HW⟩ := hrel
    by_cases hlt : k < n2
    · have hkn : (k : Int) < (n2 : Int) := by omega
      obtain ⟨b, off, rfl, hb, x0, x1, x2, x3, hx, p0, p1, p2, p3⟩ := HA.out.pick HW.out hlt
      obtain ⟨b', off', rfl, hb', y0, y1, y2, y3, hy, q0, q1, q2, q3⟩ := HB.out.pick HW.out hlt
      rw [hx] at hy
      simp only [Option.some.injEq, Prod.mk.injEq] at hy
      obtain ⟨rfl, rfl, rfl, rfl⟩ := hy
      clear hx
      go_wp2
      go_quiet (fail)
      go_wp2
      go_roundg (n2 - (k + 1))
      case measure => have := HK.out; omega
      case rel => exact ⟨k + 1, by go_num, hid (by have := HK.out; omega), hid (below_dr HW.out _)⟩
    · have hkf : decide ((k : Int) < (n2 : Int)) = false := decide_eq_false (by omega)
      go_wp2
      go_ret
      exact ⟨rfl, HW.out⟩

/-! The examples. -/
def D6 : Dims := [([4, 2], [[0, 0, 1, 1]])]
theorem toB_D6 : toB D6 1 0 0 0 0 1 0 0 0 3 0 0 0 = true := by decide
theorem toR_D6 : toR D6 1 0 0 0 0 1 0 0 0 3 0 0 0 0 = 1 ∧ toR D6 1 0 0 0 0 1 0 0 0 3 0 0 0 1 = 0 ∧ toR D6 1 0 0 0 0 1 0 0 0 3 0 0 0 2 = 0 ∧ toR D6 1 0 0 0 0 1 0 0 0 3 0 0 0 3 = 0 := by decide
theorem fib_D6 : fib D6 1 1 0 0 0 1 0 0 0 0 0 0 0 = [(2, 0, 0, 0), (3, 0, 0, 0)] := by decide
theorem win_D6 : wthn D6 1 [0, 0, 0, 0] [3, 0, 0, 0] 0 1 [1] = true := by decide
theorem win_D6' : wthn D6 1 [0, 0, 0, 0] [3, 0, 0, 0] 0 1 [0] = false := by decide
theorem i64_1' : I64 1 := by unfold I64; omega
theorem i64_0' : I64 0 := by unfold I64; omega
theorem u8_a : ∀ x ∈ [(0 : Int), 0, 0, 0], U8 x := by intro x hx; simp at hx; unfold U8; omega
theorem u8_b : ∀ x ∈ [(1 : Int), 0, 0, 0], U8 x := by intro x hx; simp at hx; unfold U8; omega
theorem u8_c : ∀ x ∈ [(3 : Int), 0, 0, 0], U8 x := by intro x hx; simp at hx; unfold U8; omega

end Go.Proofs.Ytfgphphaopcolaa

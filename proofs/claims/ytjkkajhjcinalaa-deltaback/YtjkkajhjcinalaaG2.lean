/-
  What Add, Size, signHalf and the like of calc return.
  What the wide numbers of calc come to.
  What Mul and Total of calc return.
  What a bag's values come to, in three parts: what parts.plus and parts.narrow return.
  Conditions: as each theorem states them.
-/
import Derived.Test.YtjkkajhjcinalaaRows
import Derived.Test.YtjkkajhjcinalaaLib
import Derived.Shelf.Spec.BitsCarry
import Derived.Lib.Mul64
import Derived.Laws.Bits64b
import Derived.Below
import Derived.WalkSmall
import Derived.Deep.QuietTactic
import Derived.BigQuiet
import Derived.Test.YtjkkajhjcinalaaG1
import Derived.Laws.Bits128
namespace Go.Proofs.Ytjkkajhjcinalaa.calc
open Go.RowKit
set_option linter.unusedVariables false
set_option linter.unusedSimpArgs false
set_option maxRecDepth 100000

/-- Is a number an int64? -/
def fitB (x : Int) : Bool := decide (-9223372036854775808 ≤ x ∧ x ≤ 9223372036854775807)
/-- A number, or 0 where it is no int64. -/
def fitV (x : Int) : Int := if fitB x then x else 0
/-- A number without its sign. -/
def sz (a : Int) : Int := if a < 0 then -a else a
theorem fit_yes {x : Int} (h : -9223372036854775808 ≤ x ∧ x ≤ 9223372036854775807) : fitB x = true ∧ fitV x = x := by
  have e : fitB x = true := by unfold fitB; exact decide_eq_true h
  exact ⟨e, by unfold fitV; rw [e]; rfl⟩
theorem fit_no {x : Int} (h : ¬ (-9223372036854775808 ≤ x ∧ x ≤ 9223372036854775807)) : fitB x = false ∧ fitV x = 0 := by
  have e : fitB x = false := by unfold fitB; exact decide_eq_false h
  exact ⟨e, by unfold fitV; rw [e]; rfl⟩
theorem ret_fit_no {x : Int} (h : ¬ (-9223372036854775808 ≤ x ∧ x ≤ 9223372036854775807)) : Ending.returned (.tuple #[.int .i64 0, .bool false]) = .returned (.tuple #[.int .i64 (fitV x), .bool (fitB x)]) := by
  rw [(fit_no h).1, (fit_no h).2]
theorem ret_fit_yes {x y : Int} (h : -9223372036854775808 ≤ x ∧ x ≤ 9223372036854775807) (e : y = x) : Ending.returned (.tuple #[.int .i64 y, .bool true]) = .returned (.tuple #[.int .i64 (fitV x), .bool (fitB x)]) := by
  rw [(fit_yes h).1, (fit_yes h).2, e]
theorem add_no {a b : Int} (ha : I64 a) (hb : I64 b) (h : (!decide (wrap64 (a + b) < a) == decide (b < 0)) = true) : ¬ (-9223372036854775808 ≤ a + b ∧ a + b ≤ 9223372036854775807) := by
  obtain ⟨a1, a2⟩ := ha; obtain ⟨b1, b2⟩ := hb
  unfold wrap64 at h
  intro hf
  simp only [Bool.not_eq_true', beq_eq_false_iff_ne, ne_eq, decide_eq_decide] at h
  omega
theorem add_yes {a b : Int} (ha : I64 a) (hb : I64 b) (h : (!decide (wrap64 (a + b) < a) == decide (b < 0)) = false) : (-9223372036854775808 ≤ a + b ∧ a + b ≤ 9223372036854775807) ∧ wrap64 (a + b) = a + b := by
  obtain ⟨a1, a2⟩ := ha; obtain ⟨b1, b2⟩ := hb
  unfold wrap64 at *
  simp only [Bool.not_eq_false', beq_iff_eq, decide_eq_decide] at h
  omega
set_option maxHeartbeats 400000 in
theorem add_any (a b : Int) (w : World) (ha : I64 a) (hb : I64 b) :
    Calls Try.prog 65 #[.int .i64 a, .int .i64 b] w fun e w' => e = .returned (.tuple #[.int .i64 (fitV (a + b)), .bool (fitB (a + b))]) ∧ w' = w := by
  go_enter Try.func65, Try.ntmps65
  go_wp2
  · go_ret2
    exact ⟨ret_fit_no (add_no ha hb ‹_›), rfl⟩
  · go_ret2
    exact ⟨ret_fit_yes (add_yes ha hb ‹_›).1 (add_yes ha hb ‹_›).2, rfl⟩
theorem i64_0 : I64 0 := by unfold I64; decide
theorem sz_neg {a : Int} (h : a < 0) : sz a = -a := by unfold sz; rw [if_pos h]
theorem sz_pos {a : Int} (h : 0 ≤ a) : sz a = a := by unfold sz; rw [if_neg (by omega)]
theorem u64_neg {a : Int} (h1 : -9223372036854775808 ≤ a) (h : a < 0) : IntKind.u64.wrap (-IntKind.u64.wrap a) = -a := by
  rw [IntKind.wrap_u64, IntKind.wrap_u64]; omega
set_option maxHeartbeats 400000 in
theorem size_any (a : Int) (w : World) (ha : I64 a) :
    Calls Try.prog 120 #[.int .i64 a] w fun e w' => e = .returned (.int .u64 (sz a)) ∧ w' = w := by
  obtain ⟨a1, a2⟩ := ha
  by_cases h : a < 0
  · go_enter Try.func120, Try.ntmps120
    go_wp2
    go_ret
    exact ⟨ret_int ((u64_neg a1 h).trans (sz_neg h).symm), rfl⟩
  · go_enter Try.func120, Try.ntmps120
    go_wp2
    go_ret
    exact ⟨ret_int (sz_pos h).symm, rfl⟩
set_option maxHeartbeats 400000 in
theorem rsize_any (a : Int) (w : World) (ha : I64 a) :
    Calls Try.prog 99 #[.int .i64 a] w fun e w' => e = .returned (.int .u64 (sz a)) ∧ w' = w := by
  obtain ⟨a1, a2⟩ := ha
  by_cases h : a < 0
  · go_enter Try.func99, Try.ntmps99
    go_wp2
    go_ret
    exact ⟨ret_int (by rw [sz_neg h]; omega), rfl⟩
  · go_enter Try.func99, Try.ntmps99
    go_wp2
    go_ret
    exact ⟨ret_int (sz_pos h).symm, rfl⟩
/-- The high half (floor), the low half of a number, by 2^64. -/
def hi (x : Int) : Int := x / 18446744073709551616
def lo (x : Int) : Int := x % 18446744073709551616
set_option maxHeartbeats 400000 in
theorem signhalf_any (a : Int) (w : World) (ha : I64 a) :
    Calls Try.prog 104 #[.int .i64 a] w fun e w' => e = .returned (.int .i64 (hi a)) ∧ w' = w := by
  obtain ⟨a1, a2⟩ := ha
  go_enter Try.func104, Try.ntmps104
  go_wp2
  go_ret
  exact ⟨ret_int (by unfold hi; omega), rfl⟩
/-- -1, 0, 1. -/
def sg (a b : Int) : Int := if a < b then -1 else if b < a then 1 else 0
set_option maxHeartbeats 400000 in
theorem cmpi_any (a b : Int) (w : World) :
    Calls Try.prog 71 #[.int .i64 a, .int .i64 b] w fun e w' => e = .returned (.int .i64 (sg a b)) ∧ w' = w := by
  unfold sg
  go_enter Try.func71, Try.ntmps71
  go_wp2
  all_goals (go_ret; exact ⟨rfl, rfl⟩)
set_option maxHeartbeats 400000 in
theorem cmpu_any (a b : Int) (w : World) :
    Calls Try.prog 122 #[.int .u64 a, .int .u64 b] w fun e w' => e = .returned (.int .i64 (sg a b)) ∧ w' = w := by
  unfold sg
  go_enter Try.func122, Try.ntmps122
  go_wp2
  all_goals (go_ret; exact ⟨rfl, rfl⟩)
theorem maskI (x : Int) (h0 : 0 ≤ x) (h1 : x < 18446744073709551616) : bits .and .u64 x 4294967295 = x % 4294967296 := by
  obtain ⟨n, rfl⟩ := Int.eq_ofNat_of_zero_le h0
  have h := bits_and_u64_nat n 4294967295 (by omega) (by omega)
  rw [show n &&& 4294967295 = n % 4294967296 from Nat.and_two_pow_sub_one_eq_mod n 32] at h
  exact h.trans (by omega)
theorem mulsplit (X Y : Int) (hX : 0 ≤ X) (hY : 0 ≤ Y) : X * Y = X / 4294967296 * (Y / 4294967296) * 18446744073709551616 + (X / 4294967296 * (Y % 4294967296) + X % 4294967296 * (Y / 4294967296)) * 4294967296 + X % 4294967296 * (Y % 4294967296) := by
  obtain ⟨x, rfl⟩ := Int.eq_ofNat_of_zero_le hX
  obtain ⟨y, rfl⟩ := Int.eq_ofNat_of_zero_le hY
  have e := Lib.split_mul (x / 4294967296) (x % 4294967296) (y / 4294967296) (y % 4294967296) 4294967296
  rw [Nat.div_add_mod' x 4294967296, Nat.div_add_mod' y 4294967296] at e
  have e' : ((x * y : Nat) : Int) = (((x / 4294967296) * (y / 4294967296) * (4294967296 * 4294967296) + ((x / 4294967296) * (y % 4294967296) + (x % 4294967296) * (y / 4294967296)) * 4294967296 + (x % 4294967296) * (y % 4294967296) : Nat) : Int) := by rw [e]
  simpa using e'
theorem half_bd {p q B C : Int} (h1 : 0 ≤ p) (h2 : p ≤ B) (h3 : 0 ≤ q) (h4 : q ≤ C) : 0 ≤ p * q ∧ p * q ≤ B * C :=
  ⟨Int.mul_nonneg h1 h3, Int.mul_le_mul h2 h4 h3 (by omega)⟩
theorem wrap_small (z : Int) (h1 : 0 ≤ z) (h2 : z < 18446744073709551616) : IntKind.u64.wrap z = z := by rw [IntKind.wrap_u64]; omega
set_option maxHeartbeats 1000000 in
theorem mul64_raw (x y P Q R S PR PS QR QS T U H L : Int) (w : World)
    (hP : x / 4294967296 = P) (hQ : bits .and .u64 x 4294967295 = Q) (hR : y / 4294967296 = R) (hS : bits .and .u64 y 4294967295 = S)
    (hQS : IntKind.u64.wrap (Q * S) = QS) (hPS : IntKind.u64.wrap (P * S) = PS) (hQR : IntKind.u64.wrap (Q * R) = QR) (hPR : IntKind.u64.wrap (P * R) = PR)
    (hT : IntKind.u64.wrap (PS + QS / 4294967296) = T) (hU : bits .and .u64 T 4294967295 = U) (hV : IntKind.u64.wrap (U + QR) = U + QR)
    (hH1 : IntKind.u64.wrap (PR + T / 4294967296) = PR + T / 4294967296) (hH : IntKind.u64.wrap (PR + T / 4294967296 + (U + QR) / 4294967296) = H) (hL : IntKind.u64.wrap (x * y) = L) :
    Calls Try.prog 119 #[.int .u64 x, .int .u64 y] w fun e w' => e = .returned (.tuple #[.int .u64 H, .int .u64 L]) ∧ w' = w := by
  go_enter Try.func119, Try.ntmps119
  go_wp2
  go_ret2
  exact ⟨rfl, rfl⟩
theorem mul64_any (x y : Int) (hx : 0 ≤ x) (hy : 0 ≤ y) (hx' : x < 18446744073709551616) (hy' : y < 18446744073709551616) (w : World) :
    Calls Try.prog 119 #[.int .u64 x, .int .u64 y] w fun e w' => e = .returned (.tuple #[.int .u64 (hi (x * y)), .int .u64 (lo (x * y))]) ∧ w' = w := by
  have hT := mulsplit x y hx hy
  obtain ⟨u1, u2⟩ := half_bd (p := x / 4294967296) (q := y / 4294967296) (B := 4294967295) (C := 4294967295) (by omega) (by omega) (by omega) (by omega)
  obtain ⟨u3, u4⟩ := half_bd (p := x / 4294967296) (q := y % 4294967296) (B := 4294967295) (C := 4294967295) (by omega) (by omega) (by omega) (by omega)
  obtain ⟨u5, u6⟩ := half_bd (p := x % 4294967296) (q := y / 4294967296) (B := 4294967295) (C := 4294967295) (by omega) (by omega) (by omega) (by omega)
  obtain ⟨u7, u8⟩ := half_bd (p := x % 4294967296) (q := y % 4294967296) (B := 4294967295) (C := 4294967295) (by omega) (by omega) (by omega) (by omega)
  obtain ⟨PR, hPR⟩ : ∃ z, x / 4294967296 * (y / 4294967296) = z := ⟨_, rfl⟩
  obtain ⟨PS, hPS⟩ : ∃ z, x / 4294967296 * (y % 4294967296) = z := ⟨_, rfl⟩
  obtain ⟨QR, hQR⟩ : ∃ z, x % 4294967296 * (y / 4294967296) = z := ⟨_, rfl⟩
  obtain ⟨QS, hQS⟩ : ∃ z, x % 4294967296 * (y % 4294967296) = z := ⟨_, rfl⟩
  rw [hPR] at u1 u2 hT
  rw [hPS] at u3 u4 hT
  rw [hQR] at u5 u6 hT
  rw [hQS] at u7 u8 hT
  refine mul64_raw x y _ _ _ _ PR PS QR QS (PS + QS / 4294967296) ((PS + QS / 4294967296) % 4294967296) _ _ w rfl (maskI _ hx hx') rfl (maskI _ hy hy') (by rw [hQS]; exact wrap_small _ u7 (by omega)) (by rw [hPS]; exact wrap_small _ u3 (by omega)) (by rw [hQR]; exact wrap_small _ u5 (by omega)) (by rw [hPR]; exact wrap_small _ u1 (by omega)) (wrap_small _ (by omega) (by omega)) (maskI _ (by omega) (by omega)) (wrap_small _ (by omega) (by omega)) (wrap_small _ (by omega) (by omega)) ?_ ?_
  · rw [wrap_small _ (by omega) (by omega)]; unfold hi; omega
  · rw [IntKind.wrap_u64]; rfl
theorem add64 (x y c : Int) (hx : 0 ≤ x) (hy : 0 ≤ y) (hc0 : 0 ≤ c) (hc : c ≤ 1) (w : World) : (callFunc 103 #[.int .u64 x, .int .u64 y, .int .u64 c]).run Try.prog w =
    .ok (.value (.tuple #[.int .u64 (lo (x + y + c)), .int .u64 (hi (x + y + c))])) w := by
  rw [run_callFunc_extern Try.func103 (by kernel_rfl) (by kernel_rfl) (by kernel_rfl) (e := add64Entry) (by kernel_rfl), run_add64 x y c hx hy hc0 hc]
  rfl
/-- The borrow. -/
def bor (x y : Int) : Int := if x < y then 1 else 0
theorem sub64 (x y c : Int) (hx : 0 ≤ x) (hy : 0 ≤ y) (hy' : y < 18446744073709551616) (hc0 : 0 ≤ c) (hc : c ≤ 1) (w : World) : (callFunc 140 #[.int .u64 x, .int .u64 y, .int .u64 c]).run Try.prog w =
    .ok (.value (.tuple #[.int .u64 (lo (x - y - c)), .int .u64 (bor x (y + c))])) w := by
  obtain ⟨x, rfl⟩ := Int.eq_ofNat_of_zero_le hx
  obtain ⟨y, rfl⟩ := Int.eq_ofNat_of_zero_le hy
  obtain ⟨c, rfl⟩ := Int.eq_ofNat_of_zero_le hc0
  rw [run_callFunc_extern Try.func140 (by kernel_rfl) (by kernel_rfl) (by kernel_rfl) (e := sub64Entry) (by kernel_rfl), run_sub64 x y c (by omega)]
  simp only [Result.andThen]
  have e1 : (((x + 18446744073709551616 - y - c) % 18446744073709551616 : Nat) : Int) = lo ((x : Int) - y - c) := by unfold lo; omega
  have e2 : ((if x < y + c then 1 else 0 : Nat) : Int) = bor (x : Int) (y + c) := by unfold bor; split <;> split <;> omega
  rw [e1, e2]

end Go.Proofs.Ytjkkajhjcinalaa.calc

namespace Go.Proofs.Ytjkkajhjcinalaa.calc
open Go.RowKit
set_option linter.unusedVariables false
set_option linter.unusedSimpArgs false
set_option maxRecDepth 100000

theorem lo_bd (x : Int) : 0 ≤ lo x ∧ lo x < 18446744073709551616 := by unfold lo; omega
theorem lohi (x : Int) : x = hi x * 18446744073709551616 + lo x := by unfold lo hi; omega
theorem turned_hi {x : Int} (h0 : 0 ≤ x) (h1 : x ≤ 85070591730234615865843651857942052864) : wrap64 (lo (-hi x - bor 0 (lo x))) = hi (-x) := by
  unfold wrap64 bor lo hi; split <;> omega
theorem turned_lo {x : Int} : lo (-lo x) = lo (-x) := by
  unfold lo; omega
set_option maxHeartbeats 400000 in
theorem turned_any (x : Int) (w : World) (h0 : 0 ≤ x) (h1 : x ≤ 85070591730234615865843651857942052864) :
    Calls Try.prog 121 #[.agg #[.int .i64 (hi x), .int .u64 (lo x)]] w fun e w' => e = .returned (.agg #[.int .i64 (hi (-x)), .int .u64 (lo (-x))]) ∧ Below w.heap.size w w' := by
  obtain ⟨l1, l2⟩ := lo_bd x
  have H1 : 0 ≤ hi x := by unfold hi; omega
  have H2 : hi x ≤ 4611686018427387904 := by unfold hi; omega
  have k0 : 0 ≤ bor 0 (lo x) := by unfold bor; split <;> omega
  have k1 : bor 0 (lo x) ≤ 1 := by unfold bor; split <;> omega
  go_enter Try.func121, Try.ntmps121
  go_wp2_with (first | simp only [sub64 _ _ _ (Int.le_refl 0) l1 l2 (Int.le_refl 0) (by decide : (0 : Int) ≤ 1)] | simp only [sub64 _ _ _ (Int.le_refl 0) H1 (by omega) k0 k1])
  rw [turned_hi h0 h1, turned_lo]
  exact bodyPost_ret (v := .agg #[.int .i64 (hi (-x)), .int .u64 (lo (-x))]) (by simp [results, Try.results121, go_sem]) rfl ⟨rfl, ((Below.refl _ _).alloc (Nat.le_refl _) _).alloc (by simp) _⟩
theorem narrow_yes {x : Int} (h : (hi x != hi (wrap64 (lo x))) = false) : (-9223372036854775808 ≤ x ∧ x ≤ 9223372036854775807) ∧ wrap64 (lo x) = x := by
  unfold wrap64 lo hi at *
  simp only [bne_eq_false_iff_eq] at h
  omega
theorem narrow_no {x : Int} (h : (hi x != hi (wrap64 (lo x))) = true) : ¬ (-9223372036854775808 ≤ x ∧ x ≤ 9223372036854775807) := by
  unfold wrap64 lo hi at *
  simp only [bne_iff_ne, ne_eq] at h
  omega
theorem wrap_i64 (x : Int) : I64 (wrap64 x) := by unfold I64 wrap64; omega
set_option maxHeartbeats 400000 in
theorem narrow_any (x : Int) (w : World) :
    Calls Try.prog 70 #[.agg #[.int .i64 (hi x), .int .u64 (lo x)]] w fun e w' => e = .returned (.tuple #[.int .i64 (fitV x), .bool (fitB x)]) ∧ Below w.heap.size w w' := by
  obtain ⟨l1, l2⟩ := lo_bd x
  go_enter Try.func70, Try.ntmps70
  go_wp2
  go_quiet ((go_at_call 104; exact Calls.quiet_of_same (signhalf_any _ _ (wrap_i64 _))))
  go_wp2
  · go_ret2
    exact ⟨ret_fit_no (narrow_no ‹_›), below_drewN ((Below.refl _ _).alloc (Nat.le_refl _) _) _⟩
  · go_ret2
    exact ⟨ret_fit_yes (narrow_yes ‹_›).1 (narrow_yes ‹_›).2, below_drewN ((Below.refl _ _).alloc (Nat.le_refl _) _) _⟩
theorem plus_hi {x v : Int} (h0 : -170141183460469231731687303715884105728 ≤ x + v) (h1 : x + v < 170141183460469231731687303715884105728) : wrap64 (lo (lo (hi x) + lo (hi v) + hi (lo x + lo v))) = hi (x + v) := by
  unfold wrap64 lo hi; omega
theorem plus_lo {x v : Int} : lo (lo x + lo v) = lo (x + v) := by unfold lo; omega
theorem wrapu (x : Int) : IntKind.u64.wrap x = lo x := by rw [IntKind.wrap_u64]; rfl
set_option maxHeartbeats 400000 in
theorem plus_any (x v : Int) (w : World) (hv : I64 v) (h0 : -170141183460469231731687303715884105728 ≤ x + v) (h1 : x + v < 170141183460469231731687303715884105728) :
    Calls Try.prog 69 #[.agg #[.int .i64 (hi x), .int .u64 (lo x)], .int .i64 v] w fun e w' => e = .returned (.agg #[.int .i64 (hi (x + v)), .int .u64 (lo (x + v))]) ∧ Below w.heap.size w w' := by
  obtain ⟨l1, l2⟩ := lo_bd x
  obtain ⟨v1, v2⟩ := lo_bd v
  obtain ⟨m1, m2⟩ := lo_bd (hi x)
  obtain ⟨n1, n2⟩ := lo_bd (hi v)
  have k0 : 0 ≤ hi (lo x + lo v) := by unfold lo hi; omega
  have k1 : hi (lo x + lo v) ≤ 1 := by unfold lo hi; omega
  have hadd : ∀ w', (callFunc 103 #[.int .u64 (IntKind.u64.wrap (hi x)), .int .u64 (IntKind.u64.wrap (hi v)), .int .u64 (hi (lo x + lo v))]).run Try.prog w' = .ok (.value (.tuple #[.int .u64 (lo (lo (hi x) + lo (hi v) + hi (lo x + lo v))), .int .u64 (hi (lo (hi x) + lo (hi v) + hi (lo x + lo v)))])) w' := by
    intro w'
    rw [wrapu, wrapu]
    exact add64 _ _ _ m1 n1 k0 k1 w'
  go_enter Try.func69, Try.ntmps69
  go_wp2_with (first | (simp only [wrapu, add64 _ _ _ l1 v1 (Int.le_refl 0) (by decide : (0 : Int) ≤ 1)]))
  go_quiet ((go_at_call 104; exact Calls.quiet_of_same (signhalf_any _ _ hv)))
  go_wp2
  rw [plus_hi h0 h1, plus_lo]
  exact bodyPost_ret (v := .agg #[.int .i64 (hi (x + v)), .int .u64 (lo (x + v))]) (by simp [results, Try.results69, go_sem]) rfl ⟨rfl, ((below_drewN (((Below.refl _ _).alloc (Nat.le_refl _) _).alloc (by simp) _) _).setCell (by simp) _).setCell (by simp) _⟩
theorem sg_hi {x y : Int} (h : (hi x != hi y) = true) : sg (hi x) (hi y) = sg x y := by
  simp only [bne_iff_ne, ne_eq] at h
  have := lohi x; have := lohi y; have := lo_bd x; have := lo_bd y
  unfold sg
  split <;> split <;> (try split) <;> (try split) <;> omega
theorem sg_lo {x y : Int} (h : (hi x != hi y) = false) : sg (lo x) (lo y) = sg x y := by
  simp only [bne_eq_false_iff_eq] at h
  have := lohi x; have := lohi y
  unfold sg
  split <;> split <;> (try split) <;> (try split) <;> omega
set_option maxHeartbeats 400000 in
theorem compare_any (x y : Int) (w : World) :
    Calls Try.prog 107 #[.agg #[.int .i64 (hi x), .int .u64 (lo x)], .agg #[.int .i64 (hi y), .int .u64 (lo y)]] w fun e w' => e = .returned (.int .i64 (sg x y)) ∧ Below w.heap.size w w' := by
  go_enter Try.func107, Try.ntmps107
  go_wp2_with (first | (go_at_call 71; refine (cmpi_any _ _ _).mono ?_; rintro e w' ⟨rfl, rfl⟩) | (go_at_call 122; refine (cmpu_any _ _ _).mono ?_; rintro e w' ⟨rfl, rfl⟩))
  · go_ret
    exact ⟨ret_int (sg_hi ‹_›), ((Below.refl _ _).alloc (Nat.le_refl _) _).alloc (by simp) _⟩
  · go_ret
    exact ⟨ret_int (sg_lo ‹_›), ((Below.refl _ _).alloc (Nat.le_refl _) _).alloc (by simp) _⟩
theorem sz_bd {a : Int} (h : I64 a) : 0 ≤ sz a ∧ sz a ≤ 9223372036854775808 := by
  obtain ⟨h1, h2⟩ := h
  unfold sz; split <;> omega
theorem mul_bd {x y : Int} (hx : 0 ≤ x ∧ x ≤ 9223372036854775808) (hy : 0 ≤ y ∧ y ≤ 9223372036854775808) : 0 ≤ x * y ∧ x * y ≤ 85070591730234615865843651857942052864 := by
  refine ⟨Int.mul_nonneg hx.1 hy.1, ?_⟩
  have h := Int.mul_le_mul hx.2 hy.2 hy.1 (by decide : (0 : Int) ≤ 9223372036854775808)
  exact h
theorem mul64_p (x y p : Int) (hx : 0 ≤ x) (hy : 0 ≤ y) (hx' : x < 18446744073709551616) (hy' : y < 18446744073709551616) (hp : x * y = p) (w : World) :
    Calls Try.prog 119 #[.int .u64 x, .int .u64 y] w fun e w' => e = .returned (.tuple #[.int .u64 (hi p), .int .u64 (lo p)]) ∧ w' = w := by
  subst hp; exact mul64_any x y hx hy hx' hy' w
set_option maxHeartbeats 400000 in
theorem product_any (a b : Int) (w : World) (ha : I64 a) (hb : I64 b) :
    Calls Try.prog 106 #[.int .i64 a, .int .i64 b] w fun e w' => e = .returned (.agg #[.int .i64 (hi (a * b)), .int .u64 (lo (a * b))]) ∧ Below w.heap.size w w' := by
  obtain ⟨s1, s2⟩ := sz_bd ha
  obtain ⟨t1, t2⟩ := sz_bd hb
  obtain ⟨p1, p2⟩ := mul_bd (sz_bd ha) (sz_bd hb)
  obtain ⟨p, hp⟩ : ∃ p, sz a * sz b = p := ⟨_, rfl⟩
  rw [hp] at p1 p2
  have q0 : 0 ≤ hi p := by unfold hi; omega
  have q1 : hi p ≤ 4611686018427387904 := by unfold hi; omega
  have HP : Hid (sz a * sz b = p) := hp
  clear hp
  by_cases ca : a < 0
  · by_cases cb : b < 0
    · have e1 : p = a * b := by rw [← HP.out, sz_neg ca, sz_neg cb, Int.neg_mul_neg]
      have e2 : Hid (p = a * b) := e1
      clear e1
      go_enter Try.func106, Try.ntmps106
      go_wp2_with (first | (go_at_call 120; refine (size_any _ _ (by assumption)).mono ?_; rintro e w' ⟨rfl, rfl⟩) | (go_at_call 119; refine (mul64_p _ _ p s1 t1 (by omega) (by omega) HP.out _).mono ?_; rintro e w' ⟨rfl, rfl⟩))
      rw [← e2.out]
      exact bodyPost_ret (v := .agg #[.int .i64 (hi p), .int .u64 (lo p)]) (by simp [results, Try.results106, go_sem]) rfl ⟨rfl, ((Below.refl _ _).alloc (Nat.le_refl _) _).alloc (by simp) _⟩
    · have e1 : -p = a * b := by rw [← HP.out, sz_neg ca, sz_pos (by omega), Int.neg_mul, Int.neg_neg]
      have e2 : Hid (-p = a * b) := e1
      clear e1
      have cb' : decide (b < 0) = false := decide_eq_false cb
      go_enter Try.func106, Try.ntmps106
      go_wp2_with (first | (go_at_call 120; refine (size_any _ _ (by assumption)).mono ?_; rintro e w' ⟨rfl, rfl⟩) | (go_at_call 119; refine (mul64_p _ _ p s1 t1 (by omega) (by omega) HP.out _).mono ?_; rintro e w' ⟨rfl, rfl⟩) | (go_at_call 121; refine (turned_any p _ p1 p2).mono ?_; rintro e w' ⟨rfl, hbel⟩; obtain ⟨hc, hf⟩ := bcell hbel; have hz := hbel.size; simp at hz))
      rw [← e2.out]
      have hc0 : w'.cell? ⟨w.heap.size, 0, none⟩ = some (.int .i64 0) := by rw [hc _ _ (by simp; omega)]; simp [go_sem]
      have hc1 : w'.cell? ⟨w.heap.size, 1, none⟩ = some (.int .u64 0) := by rw [hc _ _ (by simp; omega)]; simp [go_sem]
      exact bodyPost_ret (v := .agg #[.int .i64 (hi (-p)), .int .u64 (lo (-p))]) (by simp [results, Try.results106, go_sem, hc0, hc1]) rfl ⟨rfl, (((((Below.refl _ _).alloc (Nat.le_refl _) _).alloc (by simp) _).trans (hbel.mono (by simp; omega))).setCell (by simp) _).setCell (by simp) _⟩
  · have ca' : decide (a < 0) = false := decide_eq_false ca
    by_cases cb : b < 0
    · have e1 : -p = a * b := by rw [← HP.out, sz_pos (by omega), sz_neg cb, Int.mul_neg, Int.neg_neg]
      have e2 : Hid (-p = a * b) := e1
      clear e1
      go_enter Try.func106, Try.ntmps106
      go_wp2_with (first | (go_at_call 120; refine (size_any _ _ (by assumption)).mono ?_; rintro e w' ⟨rfl, rfl⟩) | (go_at_call 119; refine (mul64_p _ _ p s1 t1 (by omega) (by omega) HP.out _).mono ?_; rintro e w' ⟨rfl, rfl⟩) | (go_at_call 121; refine (turned_any p _ p1 p2).mono ?_; rintro e w' ⟨rfl, hbel⟩; obtain ⟨hc, hf⟩ := bcell hbel; have hz := hbel.size; simp at hz))
      rw [← e2.out]
      have hc0 : w'.cell? ⟨w.heap.size, 0, none⟩ = some (.int .i64 0) := by rw [hc _ _ (by simp; omega)]; simp [go_sem]
      have hc1 : w'.cell? ⟨w.heap.size, 1, none⟩ = some (.int .u64 0) := by rw [hc _ _ (by simp; omega)]; simp [go_sem]
      exact bodyPost_ret (v := .agg #[.int .i64 (hi (-p)), .int .u64 (lo (-p))]) (by simp [results, Try.results106, go_sem, hc0, hc1]) rfl ⟨rfl, (((((Below.refl _ _).alloc (Nat.le_refl _) _).alloc (by simp) _).trans (hbel.mono (by simp; omega))).setCell (by simp) _).setCell (by simp) _⟩
    · have e1 : p = a * b := by rw [← HP.out, sz_pos (by omega), sz_pos (by omega)]
      have e2 : Hid (p = a * b) := e1
      clear e1
      have cb' : decide (b < 0) = false := decide_eq_false cb
      go_enter Try.func106, Try.ntmps106
      go_wp2_with (first | (go_at_call 120; refine (size_any _ _ (by assumption)).mono ?_; rintro e w' ⟨rfl, rfl⟩) | (go_at_call 119; refine (mul64_p _ _ p s1 t1 (by omega) (by omega) HP.out _).mono ?_; rintro e w' ⟨rfl, rfl⟩))
      rw [← e2.out]
      exact bodyPost_ret (v := .agg #[.int .i64 (hi p), .int .u64 (lo p)]) (by simp [results, Try.results106, go_sem]) rfl ⟨rfl, ((Below.refl _ _).alloc (Nat.le_refl _) _).alloc (by simp) _⟩

end Go.Proofs.Ytjkkajhjcinalaa.calc

namespace Go.Proofs.Ytjkkajhjcinalaa.calc
open Go.RowKit
set_option linter.unusedVariables false
set_option linter.unusedSimpArgs false
set_option maxRecDepth 100000

set_option maxHeartbeats 400000 in
theorem mul_any (a b : Int) (w : World) (ha : I64 a) (hb : I64 b) :
    Calls Try.prog 142 #[.int .i64 a, .int .i64 b] w fun e w' => e = .returned (.tuple #[.int .i64 (fitV (a * b)), .bool (fitB (a * b))]) ∧ Below w.heap.size w w' := by
  go_enter Try.func142, Try.ntmps142
  go_wp2_with (first | (go_at_call 106; refine (product_any _ _ _ ha hb).mono ?_; rintro e w1 ⟨rfl, hb1⟩) | (go_at_call 70; refine (narrow_any _ _).mono ?_; rintro e w2 ⟨rfl, hb2⟩))
  go_ret2
  exact ⟨rfl, hb1.trans (hb2.mono hb1.size)⟩
set_option maxHeartbeats 400000 in
theorem cmp_any (a b c d : Int) (w : World) (ha : I64 a) (hb : I64 b) (hc : I64 c) (hd : I64 d) :
    Calls Try.prog 72 #[.int .i64 a, .int .i64 b, .int .i64 c, .int .i64 d] w fun e w' => e = .returned (.int .i64 (sg (a * b) (c * d))) ∧ Below w.heap.size w w' := by
  go_enter Try.func72, Try.ntmps72
  go_wp2_with (first | (go_at_call 106; refine (product_any _ _ _ (by assumption) (by assumption)).mono ?_; rintro e w1 ⟨rfl, hb1⟩) | (go_at_call 107; refine (compare_any _ _ _).mono ?_; rintro e w3 ⟨rfl, hb3⟩))
  go_ret
  exact ⟨rfl, bt (bt (by assumption) hb1) hb3⟩
/-- The sum of a list. -/
def sumI : List Int → Int
  | [] => 0
  | x :: l => x + sumI l
theorem sumI_snoc (l : List Int) (x : Int) : sumI (l ++ [x]) = sumI l + x := by
  induction l with
  | nil => simp [sumI]
  | cons y l ih => simp only [List.cons_append, sumI, ih]; omega
theorem sumI_bd (l : List Int) (h : ∀ x ∈ l, I64 x) : -(9223372036854775808 * l.length) ≤ sumI l ∧ sumI l ≤ 9223372036854775808 * l.length := by
  induction l with
  | nil => simp [sumI]
  | cons y l ih =>
    have h1 := h y (by simp)
    have h2 := ih (fun x hx => h x (by simp [hx]))
    obtain ⟨a1, a2⟩ := h1
    simp only [sumI, List.length_cons]
    omega
theorem take_snoc (l : List Int) (k : Nat) (h : k < l.length) : l.take (k + 1) = l.take k ++ [l.getD k 0] := by
  rw [List.take_succ_eq_append_getElem h]
  simp [List.getD, h]
theorem two_store {w wr w1 : World} {v0 v1 u0 u1 : Value} (hbel : Below w.heap.size w wr) (hsz : w.heap.size < wr.heap.size)
    (hc0 : wr.cell? ⟨w.heap.size, 0, none⟩ = some u0) (hc1 : wr.cell? ⟨w.heap.size, 1, none⟩ = some u1) (hf0 : wr.frozen? ⟨w.heap.size, 0, none⟩ = false) (hf1 : wr.frozen? ⟨w.heap.size, 1, none⟩ = false) (hb1 : Below wr.heap.size wr w1) :
    Below w.heap.size w ((w1.setCell ⟨w.heap.size, 0, none⟩ v0).setCell ⟨w.heap.size, 1, none⟩ v1) ∧ w.heap.size < ((w1.setCell ⟨w.heap.size, 0, none⟩ v0).setCell ⟨w.heap.size, 1, none⟩ v1).heap.size ∧
    ((w1.setCell ⟨w.heap.size, 0, none⟩ v0).setCell ⟨w.heap.size, 1, none⟩ v1).cell? ⟨w.heap.size, 0, none⟩ = some v0 ∧ ((w1.setCell ⟨w.heap.size, 0, none⟩ v0).setCell ⟨w.heap.size, 1, none⟩ v1).cell? ⟨w.heap.size, 1, none⟩ = some v1 ∧
    ((w1.setCell ⟨w.heap.size, 0, none⟩ v0).setCell ⟨w.heap.size, 1, none⟩ v1).frozen? ⟨w.heap.size, 0, none⟩ = false ∧ ((w1.setCell ⟨w.heap.size, 0, none⟩ v0).setCell ⟨w.heap.size, 1, none⟩ v1).frozen? ⟨w.heap.size, 1, none⟩ = false := by
  obtain ⟨hc, hf⟩ := bcell hb1
  have g0 := (hc _ 0 hsz).trans hc0
  have g1 := (hc _ 1 hsz).trans hc1
  refine ⟨((hbel.trans (hb1.mono hbel.size)).setCell (Nat.le_refl _) _).setCell (Nat.le_refl _) _, ?_, ?_, ?_, ?_, ?_⟩
  · rw [World.size_setCell, World.size_setCell]; exact Nat.lt_of_lt_of_le hsz hb1.size
  · simp [go_sem, g0, g1]
  · simp [go_sem, g0, g1]
  · simp [go_sem, hf _ _ hsz, hf0]
  · simp [go_sem, hf _ _ hsz, hf1]
theorem getD_mem (zs : List Int) (k : Nat) (h : k < zs.length) : zs.getD k 0 ∈ zs := by
  have : zs.getD k 0 = zs[k] := by simp [List.getD, h]
  rw [this]; exact List.getElem_mem h
theorem sum_step (zs : List Int) (k : Nat) (h : k < zs.length) : sumI (zs.take (k + 1)) = sumI (zs.take k) + zs[k]?.getD 0 := by
  rw [take_snoc _ _ h, sumI_snoc]; rfl
theorem sum_bd (zs : List Int) (k : Nat) (h : k ≤ zs.length) (hz : ∀ x ∈ zs, I64 x) (hk : k ≤ 1000000000000) : -9223372036854775808000000000000 ≤ sumI (zs.take k) ∧ sumI (zs.take k) ≤ 9223372036854775808000000000000 := by
  have h1 := sumI_bd (zs.take k) (fun x hx => hz x (List.mem_of_mem_take hx))
  have h2 : (zs.take k).length = k := by simp; omega
  rw [h2] at h1
  omega
set_option maxHeartbeats 1000000 in
theorem total_any (b off len cap : Nat) (zs : List Int) (w : World) (hl : len ≤ zs.length) (hm : len ≤ 1000000000000) (hb : b < w.heap.size)
    (hc : ∀ k, k < len → w.cell? ⟨b, off + k, none⟩ = some (.int .i64 (zs.getD k 0))) (hz : ∀ x ∈ zs, I64 x) :
    Calls Try.prog 27 #[.slice (some ⟨b, off, none⟩) len cap] w fun e w' => e = .returned (.tuple #[.int .i64 (fitV (sumI (zs.take len))), .bool (fitB (sumI (zs.take len)))]) ∧ Below w.heap.size w w' := by
  go_enter Try.func27, Try.ntmps27
  go_wp2
  go_loopw [9] (fun i wr => ∃ k : Nat, k ≤ len ∧ i = .int .i64 k ∧ Below w.heap.size w wr ∧ w.heap.size < wr.heap.size ∧ wr.cell? ⟨w.heap.size, 0, none⟩ = some (.int .i64 (hi (sumI (zs.take k)))) ∧ wr.cell? ⟨w.heap.size, 1, none⟩ = some (.int .u64 (lo (sumI (zs.take k)))) ∧ wr.frozen? ⟨w.heap.size, 0, none⟩ = false ∧ wr.frozen? ⟨w.heap.size, 1, none⟩ = false)
    (fun i _ => len - (intOf i).toNat)
  case atStart =>
    refine ⟨0, Nat.zero_le _, rfl, (Below.refl _ _).alloc (Nat.le_refl _) _, by simp, ?_, ?_, ?_, ?_⟩ <;> simp [go_sem, sumI, hi, lo]
  case round =>
    obtain ⟨k, hk, rfl, hbel, hsz, hc0, hc1, hf0, hf1⟩ := hrel
    by_cases hlt : k < len
    · have hcx : wr.cell? ⟨b, off + k, none⟩ = some (.int .i64 (zs.getD k 0)) := (hbel.cell (by exact hb)).trans (hc k hlt)
      have hv : I64 (zs.getD k 0) := hz _ (getD_mem zs k (by omega))
      have hs := sum_bd zs k (by omega) hz (by omega)
      have hv2 : -9223372036854775808 ≤ zs.getD k 0 ∧ zs.getD k 0 ≤ 9223372036854775807 := hv
      have HS : Hid (sumI (zs.take (k + 1)) = sumI (zs.take k) + zs[k]?.getD 0) := sum_step zs k (by omega)
      go_wp2_with (go_at_call 69; refine (plus_any _ _ _ hv (by omega) (by omega)).mono ?_; rintro e w1 ⟨rfl, hb1⟩; obtain ⟨hc', hf'⟩ := bcell hb1)
      go_roundw
      case rel =>
        refine ⟨k + 1, by omega, by go_num, ?_⟩
        rw [HS.out]
        exact two_store hbel hsz hc0 hc1 hf0 hf1 hb1
      case measure => simp [intOf]; omega
    · go_wp2_with (go_at_call 70; refine (narrow_any _ _).mono ?_; rintro e w2 ⟨rfl, hb2⟩)
      go_ret2
      have : k = len := by omega
      subst this
      exact ⟨rfl, bt hbel hb2⟩

end Go.Proofs.Ytjkkajhjcinalaa.calc

namespace Go.Proofs.Ytjkkajhjcinalaa
open Go.ChangeShapes Go.WideShapes Go.ChangeAt Go.RowKit
set_option linter.unusedVariables false
set_option linter.unusedSimpArgs false
set_option maxRecDepth 100000

theorem box_three {w : World} {D : Nat} {t : TypeId} {a b c : Value} (hD : w.heap[D]? = some (.cells #[a, b, c] t)) : w.cell? ⟨D, 0, none⟩ = some a ∧ w.cell? ⟨D, 1, none⟩ = some b ∧ w.cell? ⟨D, 2, none⟩ = some c := by
  refine ⟨?_, ?_, ?_⟩ <;> simp [World.cell?, hD]
theorem mask22 (n : Int) : bits .and .i64 n 4194303 = n % 4194304 := by
  have h127 : (BitVec.ofInt 64 4194303).toNat = 2 ^ 22 - 1 := by decide
  have key : (BitVec.ofInt 64 n &&& BitVec.ofInt 64 4194303).toNat = (n % ((2 ^ 64 : Nat) : Int)).toNat % 2 ^ 22 := by
    rw [BitVec.toNat_and, BitVec.toNat_ofInt, h127, Nat.and_two_pow_sub_one_eq_mod]
  show IntKind.i64.wrap ((BitVec.ofInt 64 n &&& BitVec.ofInt 64 4194303).toNat : Nat) = n % 4194304
  rw [key, IntKind.wrap_i64]
  omega
set_option maxHeartbeats 1000000 in
theorem pplus_raw (h m lo v n A B C P Q R : Int) (w : World) (hA : v / 17592186044416 = A) (hB : v / 4194304 % 4194304 = B) (hC : v % 4194304 = C) (hP : A * n = P) (hQ : B * n = Q) (hR : C * n = R)
    (h1 : -9223372036854775808 ≤ P) (h2 : P ≤ 9223372036854775807) (h3 : -9223372036854775808 ≤ Q) (h4 : Q ≤ 9223372036854775807) (h5 : -9223372036854775808 ≤ R) (h6 : R ≤ 9223372036854775807) (h7 : -9223372036854775808 ≤ h + P) (h8 : h + P ≤ 9223372036854775807) (h9 : -9223372036854775808 ≤ m + Q) (g0 : m + Q ≤ 9223372036854775807) (g1 : -9223372036854775808 ≤ lo + R) (g2 : lo + R ≤ 9223372036854775807) :
    Calls Try.prog 123 #[.agg #[.int .i64 h, .int .i64 m, .int .i64 lo], .int .i64 v, .int .i64 n] w fun e w' => e = .returned (.agg #[.int .i64 (h + P), .int .i64 (m + Q), .int .i64 (lo + R)]) ∧ Below w.heap.size w w' := by
  have mk := mask22
  go_enter Try.func123, Try.ntmps123
  go_wp2
  exact bodyPost_ret (v := .agg #[.int .i64 (h + P), .int .i64 (m + Q), .int .i64 (lo + R)]) (by simp [results, Try.results123, go_sem]) rfl ⟨rfl, ((Below.refl _ _).alloc (Nat.le_refl _) _).alloc (by simp) _⟩
/-- The sums of the three parts. -/
def hS : List Rn → Int | [] => 0 | r :: l => r.1 / 17592186044416 * r.2 + hS l
def mS : List Rn → Int | [] => 0 | r :: l => r.1 / 4194304 % 4194304 * r.2 + mS l
def lS : List Rn → Int | [] => 0 | r :: l => r.1 % 4194304 * r.2 + lS l
theorem hS_app (l m : List Rn) : hS (l ++ m) = hS l + hS m := by
  induction l with
  | nil => simp [hS]
  | cons r l ih => simp only [List.cons_append, hS, ih]; omega
theorem mS_app (l m : List Rn) : mS (l ++ m) = mS l + mS m := by
  induction l with
  | nil => simp [mS]
  | cons r l ih => simp only [List.cons_append, mS, ih]; omega
theorem lS_app (l m : List Rn) : lS (l ++ m) = lS l + lS m := by
  induction l with
  | nil => simp [lS]
  | cons r l ih => simp only [List.cons_append, lS, ih]; omega
theorem mul_le {a b c d n : Int} (ha : a ≤ b) (hb : b ≤ c) (hn : 0 ≤ n) : a * n ≤ b * n ∧ b * n ≤ c * n := ⟨Int.mul_le_mul_of_nonneg_right ha hn, Int.mul_le_mul_of_nonneg_right hb hn⟩
theorem part_bd {v n : Int} (hv : I64 v) (hn : 0 ≤ n) : -524288 * n ≤ v / 17592186044416 * n ∧ v / 17592186044416 * n ≤ 524288 * n ∧ 0 ≤ v / 4194304 % 4194304 * n ∧ v / 4194304 % 4194304 * n ≤ 4194304 * n ∧ 0 ≤ v % 4194304 * n ∧ v % 4194304 * n ≤ 4194304 * n ∧ v * n = v / 17592186044416 * n * 17592186044416 + v / 4194304 % 4194304 * n * 4194304 + v % 4194304 * n := by
  obtain ⟨h1, h2⟩ := hv
  have a1 : -524288 ≤ v / 17592186044416 := by omega
  have a2 : v / 17592186044416 ≤ 524288 := by omega
  have b1 : 0 ≤ v / 4194304 % 4194304 := by omega
  have b2 : v / 4194304 % 4194304 ≤ 4194304 := by omega
  have c1 : 0 ≤ v % 4194304 := by omega
  have c2 : v % 4194304 ≤ 4194304 := by omega
  have e : v = v / 17592186044416 * 17592186044416 + v / 4194304 % 4194304 * 4194304 + v % 4194304 := by omega
  obtain ⟨p1, p2⟩ := mul_le (d := 0) a1 a2 hn
  obtain ⟨q1, q2⟩ := mul_le (d := 0) b1 b2 hn
  obtain ⟨r1, r2⟩ := mul_le (d := 0) c1 c2 hn
  refine ⟨p1, p2, by omega, q2, by omega, r2, ?_⟩
  generalize v / 17592186044416 = A at e ⊢
  generalize v / 4194304 % 4194304 = B at e ⊢
  generalize v % 4194304 = C at e ⊢
  subst e
  rw [Int.add_mul, Int.add_mul, Int.mul_right_comm A, Int.mul_right_comm B]
theorem sum_bds {l : List Rn} (hv : ∀ r ∈ l, I64 r.1) (hp : Pos l) : -524288 * tot l ≤ hS l ∧ hS l ≤ 524288 * tot l ∧ 0 ≤ mS l ∧ mS l ≤ 4194304 * tot l ∧ 0 ≤ lS l ∧ lS l ≤ 4194304 * tot l ∧ wsum l = hS l * 17592186044416 + mS l * 4194304 + lS l := by
  induction l with
  | nil => simp [hS, mS, lS, tot, wsum]
  | cons r l ih =>
    have h1 := ih (fun q hq => hv q (by simp [hq])) (fun q hq => hp q (by simp [hq]))
    have h2 := part_bd (hv r (by simp)) (n := r.2) (by have := hp r (by simp); omega)
    simp only [hS, mS, lS, tot, wsum]
    omega
theorem narrow_fit {h m lo : Int} (h1 : -1152921504606846976 ≤ h) (h2 : h ≤ 1152921504606846976) (m1 : -4611686018427387904 ≤ m) (m2 : m ≤ 4611686018427387904) (l1 : -4611686018427387904 ≤ lo) (l2 : lo ≤ 4611686018427387904) {M H r1 r2 : Int} (hM : m + lo / 4194304 = M) (hH : h + M / 4194304 = H) (hr1 : M % 4194304 = r1) (hr2 : lo % 4194304 = r2) :
    h * 17592186044416 + m * 4194304 + lo = H * 17592186044416 + (r1 * 4194304 + r2) ∧ 0 ≤ r1 * 4194304 + r2 ∧ r1 * 4194304 + r2 < 17592186044416 := by omega
set_option maxHeartbeats 1000000 in
theorem narrow_m (h m lo : Int) (w : World) (h1 : -1152921504606846976 ≤ h) (h2 : h ≤ 1152921504606846976) (m1 : -4611686018427387904 ≤ m) (m2 : m ≤ 4611686018427387904) (l1 : -4611686018427387904 ≤ lo) (l2 : lo ≤ 4611686018427387904) :
    Calls Try.prog 124 #[.agg #[.int .i64 h, .int .i64 m, .int .i64 lo]] w fun e w' => e = .returned (.tuple #[.int .i64 (calc.fitV (h * 17592186044416 + m * 4194304 + lo)), .bool (calc.fitB (h * 17592186044416 + m * 4194304 + lo))]) ∧ Below w.heap.size w w' := by
  have mk := mask22
  obtain ⟨L, hL⟩ : ∃ x, lo / 4194304 = x := ⟨_, rfl⟩
  obtain ⟨M, hM⟩ : ∃ x, m + L = x := ⟨_, rfl⟩
  obtain ⟨K, hK⟩ : ∃ x, M / 4194304 = x := ⟨_, rfl⟩
  obtain ⟨H, hH⟩ : ∃ x, h + K = x := ⟨_, rfl⟩
  obtain ⟨r1, hr1⟩ : ∃ x, M % 4194304 = x := ⟨_, rfl⟩
  obtain ⟨r2, hr2⟩ : ∃ x, lo % 4194304 = x := ⟨_, rfl⟩
  obtain ⟨s1, hs1⟩ : ∃ x, r1 * 4194304 = x := ⟨_, rfl⟩
  obtain ⟨r, hr⟩ : ∃ x, s1 + r2 = x := ⟨_, rfl⟩
  obtain ⟨P, hP⟩ : ∃ x, H * 17592186044416 = x := ⟨_, rfl⟩
  have hf := narrow_fit h1 h2 m1 m2 l1 l2 (M := M) (H := H) (r1 := r1) (r2 := r2) (by rw [hL, hM]) (by rw [hK, hH]) hr1 hr2
  rw [hs1, hr, hP] at hf
  have b1 : -1099511627776 ≤ L ∧ L ≤ 1099511627776 := by omega
  have b2 : -4611687117939015680 ≤ M ∧ M ≤ 4611687117939015680 := by omega
  have b3 : -1099511889921 ≤ K ∧ K ≤ 1099511889920 := by omega
  have b4 : -1152922604118736897 ≤ H ∧ H ≤ 1152922604118736896 := by omega
  have b5 : 0 ≤ s1 ∧ s1 ≤ 17592181850112 := by omega
  have b6 : 0 ≤ r ∧ r ≤ 17592186044415 := by omega
  obtain ⟨b1a, b1b⟩ := b1
  obtain ⟨b2a, b2b⟩ := b2
  obtain ⟨b3a, b3b⟩ := b3
  obtain ⟨b4a, b4b⟩ := b4
  obtain ⟨b5a, b5b⟩ := b5
  obtain ⟨b6a, b6b⟩ := b6
  have b7 : 0 ≤ r1 := by omega
  have b8 : r1 ≤ 4194303 := by omega
  have b9 : 0 ≤ r2 := by omega
  have b10 : r2 ≤ 4194303 := by omega
  have HF := hid hf
  have HH : Hid (I64 H) := hid (by unfold I64; omega)
  have HR : Hid (I64 r) := hid (by unfold I64; omega)
  have HP := hid hP
  have H44 : Hid (I64 17592186044416) := hid (by unfold I64; decide)
  obtain ⟨X, hX⟩ : ∃ x, h * 17592186044416 + m * 4194304 + lo = x := ⟨_, rfl⟩
  rw [hX] at hf HF ⊢
  clear hX
  by_cases hfit : -9223372036854775808 ≤ P ∧ P ≤ 9223372036854775807
  · have HFP := hid (calc.fit_yes hfit)
    have HPI : Hid (I64 P) := hid hfit
    have C2 : Hid ((w.alloc (.cells #[.int .i64 h, .int .i64 m, .int .i64 lo] 192)).cell? ⟨w.heap.size, 2, none⟩ = some (.int .i64 lo)) := hid (box_three (heap_alloc_new w _)).2.2
    clear hfit hf hP
    go_enter Try.func124, Try.ntmps124
    go_wp2_with (first
      | (go_at_call 142; refine (calc.mul_any H 17592186044416 _ HH.out H44.out).mono ?_; rintro e w1 ⟨rfl, hb1⟩; rw [HP.out, HFP.out.1, HFP.out.2]; have B1 := hid (bt (b1alloc _ _) hb1); have c2 := ((bcell hb1).1 w.heap.size 2 (by simp)).trans C2.out; clear hb1)
      | (go_at_call 65; refine (calc.add_any P r _ HPI.out HR.out).mono ?_; rintro e w2 ⟨rfl, rfl⟩))
    go_ret2
    exact ⟨by rw [HF.out.1]; rfl, B1.out⟩
  · have HFP := hid (calc.fit_no hfit)
    have HNX : Hid (¬ (-9223372036854775808 ≤ X ∧ X ≤ 9223372036854775807)) := hid (by rw [← hP] at hfit hf; omega)
    clear hfit hf hP
    go_enter Try.func124, Try.ntmps124
    go_wp2_with (first
      | (go_at_call 142; refine (calc.mul_any H 17592186044416 _ HH.out H44.out).mono ?_; rintro e w1 ⟨rfl, hb1⟩; rw [HP.out, HFP.out.1, HFP.out.2]; have B1 := hid (bt (b1alloc _ _) hb1); clear hb1))
    go_ret2
    exact ⟨calc.ret_fit_no HNX.out, B1.out⟩

end Go.Proofs.Ytjkkajhjcinalaa

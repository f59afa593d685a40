/-
  What code.Flip, Back, Zig, Zag and the document's own Flip, Back, Zig, Zag return, for every int64 or uint64.
  Conditions: as each theorem states them.
-/
import Derived.Test.YteilfoefjemjoaaRows
import Derived.WalkKit
import Derived.WalkSpells
import Derived.Laws.Externs
import Derived.Laws.BitsAllLaws
import Derived.Laws.DeepNot64
namespace Go.Proofs.Yteilfoefjemjoaa
open Go.RowKit
set_option linter.unusedVariables false
set_option linter.unusedSimpArgs false

/-- An int64, a uint64, a uint32, a byte. -/
def I64 (x : Int) : Prop := -9223372036854775808 ≤ x ∧ x ≤ 9223372036854775807
def U64 (x : Int) : Prop := 0 ≤ x ∧ x ≤ 18446744073709551615
def U32 (x : Int) : Prop := 0 ≤ x ∧ x ≤ 4294967295
def U8 (x : Int) : Prop := 0 ≤ x ∧ x ≤ 255
/-- A number with its highest bit turned; back; by size; back. -/
def flip (v : Int) : Int := v + 9223372036854775808
def back (u : Int) : Int := u - 9223372036854775808
def zig (v : Int) : Int := if v < 0 then -(2 * v) - 1 else 2 * v
def zag (u : Int) : Int := if u % 2 = 1 then -(u / 2) - 1 else u / 2

theorem ret_int {k : IntKind} {a b : Int} (h : a = b) : Ending.returned (.int k a) = .returned (.int k b) := by rw [h]

theorem xor_top_lo (x : Nat) (h : x < 2 ^ 63) : x ^^^ 2 ^ 63 = 2 ^ 63 + x := by
  apply Nat.eq_of_testBit_eq
  intro j
  rw [Nat.testBit_xor, Nat.testBit_two_pow]
  by_cases h1 : j = 63
  · subst h1
    rw [Nat.testBit_two_pow_add_eq]; simp
  · by_cases h2 : j < 63
    · rw [Nat.testBit_two_pow_add_gt h2]
      rw [decide_eq_false (by omega)]; simp
    · have e1 : x.testBit j = false := Nat.testBit_lt_two_pow (Nat.lt_of_lt_of_le h (Nat.pow_le_pow_right (by decide) (by omega)))
      have e2 : (2 ^ 63 + x).testBit j = false := Nat.testBit_lt_two_pow (Nat.lt_of_lt_of_le (show 2 ^ 63 + x < 2 ^ 64 by omega) (Nat.pow_le_pow_right (by decide) (by omega)))
      rw [e1, e2, decide_eq_false (by omega)]; rfl
theorem xor_top_hi (x : Nat) (h : 2 ^ 63 ≤ x) (h2 : x < 2 ^ 64) : x ^^^ 2 ^ 63 = x - 2 ^ 63 := by
  obtain ⟨y, rfl⟩ : ∃ y, x = 2 ^ 63 + y := ⟨x - 2 ^ 63, by omega⟩
  rw [← xor_top_lo y (by omega), Nat.xor_assoc, Nat.xor_self, Nat.xor_zero, xor_top_lo y (by omega)]
  omega
theorem u64_top_lo {x : Int} (h1 : 0 ≤ x) (h2 : x ≤ 9223372036854775807) : bits .xor .u64 x 9223372036854775808 = x + 9223372036854775808 := by
  rw [u64_xor x _ h1 (by omega) (by omega) (by omega)]
  have := xor_top_lo x.toNat (by omega)
  simp only [Nat.reducePow] at this
  rw [show (9223372036854775808 : Int).toNat = 9223372036854775808 from rfl, this]
  omega
theorem u64_top_hi {x : Int} (h1 : 9223372036854775808 ≤ x) (h2 : x ≤ 18446744073709551615) : bits .xor .u64 x 9223372036854775808 = x - 9223372036854775808 := by
  rw [u64_xor x _ (by omega) (by omega) (by omega) (by omega)]
  have := xor_top_hi x.toNat (by omega) (by omega)
  simp only [Nat.reducePow] at this
  rw [show (9223372036854775808 : Int).toNat = 9223372036854775808 from rfl, this]
  omega
theorem flip_sem {a : Int} (a1 : -9223372036854775808 ≤ a) (a2 : a ≤ 9223372036854775807) : bits BinOp.xor IntKind.u64 (IntKind.u64.wrap a) 9223372036854775808 = flip a := by
  rw [IntKind.wrap_u64]
  unfold flip
  by_cases h : a < 0
  · have e : a % 18446744073709551616 = a + 18446744073709551616 := by omega
    rw [e, u64_top_hi (by omega) (by omega)]; omega
  · have e : a % 18446744073709551616 = a := by omega
    rw [e, u64_top_lo (by omega) (by omega)]
theorem back_sem {a : Int} (a1 : 0 ≤ a) (a2 : a ≤ 18446744073709551615) : wrap64 (bits BinOp.xor IntKind.u64 a 9223372036854775808) = back a := by
  unfold back wrap64
  by_cases h : a < 9223372036854775808
  · rw [u64_top_lo (by omega) (by omega)]; omega
  · rw [u64_top_hi (by omega) (by omega)]; omega
theorem u64_not {x : Int} (h1 : 0 ≤ x) (h2 : x ≤ 18446744073709551615) : bits BinOp.xor IntKind.u64 IntKind.u64.max x = 18446744073709551615 - x := by
  obtain ⟨n, rfl⟩ : ∃ n : Nat, x = n := ⟨x.toNat, by omega⟩
  show IntKind.u64.wrap ((BitVec.ofInt 64 IntKind.u64.max ^^^ BitVec.ofInt 64 (n : Int)).toNat : Int) = _
  have e1 : BitVec.ofInt 64 IntKind.u64.max = BitVec.allOnes 64 := by decide
  rw [e1, BitVec.allOnes_xor, BitVec.toNat_not, ofInt_u64 n (by omega), IntKind.wrap_u64]
  omega
theorem zig_neg {a : Int} (h : a < 0) : zig a = -(2 * a) - 1 := by unfold zig; rw [if_pos h]
theorem zig_pos {a : Int} (h : 0 ≤ a) : zig a = 2 * a := by unfold zig; rw [if_neg (by omega)]
theorem zag_odd {a : Int} (h : a % 2 = 1) : zag a = -(a / 2) - 1 := by unfold zag; rw [if_pos h]
theorem zag_even {a : Int} (h : ¬ a % 2 = 1) : zag a = a / 2 := by unfold zag; rw [if_neg h]
theorem zig_sem {a : Int} (a1 : -9223372036854775808 ≤ a) (h : a < 0) : bits BinOp.xor IntKind.u64 IntKind.u64.max (IntKind.u64.wrap (IntKind.u64.wrap a * 2)) = zig a := by
  rw [zig_neg h, IntKind.wrap_u64, IntKind.wrap_u64, u64_not (by omega) (by omega)]
  omega
theorem zag_sem {a : Int} (a1 : 0 ≤ a) (a2 : a ≤ 18446744073709551615) (h : a % 2 = 1) : bits BinOp.xor IntKind.i64 (-1) (a / 2) = zag a := by
  rw [zag_odd h]
  obtain ⟨n, hn⟩ : ∃ n : Nat, a / 2 = n := ⟨(a / 2).toNat, by omega⟩
  rw [hn, i64_not n (by omega)]
  omega

set_option maxHeartbeats 400000 in
theorem flip_any (a : Int) (w : World) (ha : I64 a) :
    Calls Try.prog 9 #[.int .i64 a] w fun e w' => e = .returned (.int .u64 (flip a)) ∧ w' = w := by
  obtain ⟨a1, a2⟩ := ha
  go_enter Try.func9, Try.ntmps9
  go_wp2
  go_ret
  exact ⟨ret_int (by exact flip_sem a1 a2), rfl⟩

set_option maxHeartbeats 400000 in
theorem rflip_any (a : Int) (w : World) (ha : I64 a) :
    Calls Try.prog 10 #[.int .i64 a] w fun e w' => e = .returned (.int .u64 (flip a)) ∧ w' = w := by
  obtain ⟨a1, a2⟩ := ha
  go_enter Try.func10, Try.ntmps10
  go_wp2
  go_ret
  exact ⟨ret_int (by exact flip_sem a1 a2), rfl⟩

set_option maxHeartbeats 400000 in
theorem back_any (a : Int) (w : World) (ha : U64 a) :
    Calls Try.prog 11 #[.int .u64 a] w fun e w' => e = .returned (.int .i64 (back a)) ∧ w' = w := by
  obtain ⟨a1, a2⟩ := ha
  go_enter Try.func11, Try.ntmps11
  go_wp2
  go_ret
  exact ⟨ret_int (by exact back_sem a1 a2), rfl⟩

set_option maxHeartbeats 400000 in
theorem rback_any (a : Int) (w : World) (ha : U64 a) :
    Calls Try.prog 12 #[.int .u64 a] w fun e w' => e = .returned (.int .i64 (back a)) ∧ w' = w := by
  obtain ⟨a1, a2⟩ := ha
  go_enter Try.func12, Try.ntmps12
  go_wp2
  go_ret
  exact ⟨ret_int (by exact back_sem a1 a2), rfl⟩

set_option maxHeartbeats 400000 in
theorem zig_any (a : Int) (w : World) (ha : I64 a) :
    Calls Try.prog 13 #[.int .i64 a] w fun e w' => e = .returned (.int .u64 (zig a)) ∧ w' = w := by
  obtain ⟨a1, a2⟩ := ha
  by_cases h : a < 0
  · go_enter Try.func13, Try.ntmps13
    go_wp2
    go_ret
    exact ⟨ret_int (by exact zig_sem a1 (by assumption)), rfl⟩
  · go_enter Try.func13, Try.ntmps13
    go_wp2
    go_ret
    exact ⟨ret_int (by exact (by rw [zig_pos h]; omega)), rfl⟩

set_option maxHeartbeats 400000 in
theorem rzig_any (a : Int) (w : World) (ha : I64 a) :
    Calls Try.prog 14 #[.int .i64 a] w fun e w' => e = .returned (.int .u64 (zig a)) ∧ w' = w := by
  obtain ⟨a1, a2⟩ := ha
  by_cases h : a < 0
  · go_enter Try.func14, Try.ntmps14
    go_wp2
    go_ret
    exact ⟨ret_int (by exact (by rw [zig_neg h]; omega)), rfl⟩
  · go_enter Try.func14, Try.ntmps14
    go_wp2
    go_ret
    exact ⟨ret_int (by exact (zig_pos h).symm), rfl⟩

set_option maxHeartbeats 400000 in
theorem zag_any (a : Int) (w : World) (ha : U64 a) :
    Calls Try.prog 15 #[.int .u64 a] w fun e w' => e = .returned (.int .i64 (zag a)) ∧ w' = w := by
  obtain ⟨a1, a2⟩ := ha
  by_cases h : a % 2 = 1
  · go_enter Try.func15, Try.ntmps15
    go_wp2
    all_goals go_ret
    all_goals exact ⟨ret_int (by exact zag_sem a1 a2 (by assumption)), rfl⟩
  · go_enter Try.func15, Try.ntmps15
    go_wp2
    all_goals go_ret
    all_goals exact ⟨ret_int (by exact (zag_even h).symm), rfl⟩

set_option maxHeartbeats 400000 in
theorem rzag_any (a : Int) (w : World) (ha : U64 a) :
    Calls Try.prog 16 #[.int .u64 a] w fun e w' => e = .returned (.int .i64 (zag a)) ∧ w' = w := by
  obtain ⟨a1, a2⟩ := ha
  by_cases h : a % 2 = 1
  · go_enter Try.func16, Try.ntmps16
    go_wp2
    all_goals go_ret
    all_goals exact ⟨ret_int (by exact (zag_odd h).symm), rfl⟩
  · go_enter Try.func16, Try.ntmps16
    go_wp2
    all_goals go_ret
    all_goals exact ⟨ret_int (by exact (zag_even h).symm), rfl⟩
end Go.Proofs.Yteilfoefjemjoaa

/-
  What code.Flip, Back, Zig, Zag, Key, At return, and the document's own.
  Conditions: as each theorem states them.
-/
import Derived.Test.YtikgbcdmeikjfaaC
import Derived.Laws.BitsAllLaws
import Derived.Laws.DeepNot64
namespace Go.Proofs.Ytikgbcdmeikjfaa.code
open Go.ChangeShapes Go.WideShapes Go.ChangeAt Go.RowKit
set_option linter.unusedVariables false
set_option linter.unusedSimpArgs false
set_option maxRecDepth 100000

/-- A number with its highest bit turned; back; by size; back. -/
def flip (v : Int) : Int := v + 9223372036854775808
def back (u : Int) : Int := u - 9223372036854775808
def zig (v : Int) : Int := if v < 0 then -(2 * v) - 1 else 2 * v
def zag (u : Int) : Int := if u % 2 = 1 then -(u / 2) - 1 else u / 2


theorem xor_top_lo (x : Nat) (h : x < 2 ^ 63) : x ^^^ 2 ^ 63 = 2 ^ 63 + x := by
  apply Nat.eq_of_testBit_eq
  intro j
  rw [Nat.testBit_xor, Nat.testBit_two_pow]
  by_cases h1 : j = 63
  · subst h1
    rw [Nat.testBit_two_pow_add_eq]; simp
  · by_cases h2 : j < 63
    · rw [Nat.testBit_two_pow_add_gt h2]
      rw [decide_eq_false (by omega)]; simp
    · have e1 : x.testBit j = false := Nat.testBit_lt_two_pow (Nat.lt_of_lt_of_le h (Nat.pow_le_pow_right (by decide) (by omega)))
      have e2 : (2 ^ 63 + x).testBit j = false := Nat.testBit_lt_two_pow (Nat.lt_of_lt_of_le (show 2 ^ 63 + x < 2 ^ 64 by omega) (Nat.pow_le_pow_right (by decide) (by omega)))
      rw [e1, e2, decide_eq_false (by omega)]; rfl
theorem xor_top_hi (x : Nat) (h : 2 ^ 63 ≤ x) (h2 : x < 2 ^ 64) : x ^^^ 2 ^ 63 = x - 2 ^ 63 := by
  obtain ⟨y, rfl⟩ : ∃ y, x = 2 ^ 63 + y := ⟨x - 2 ^ 63, by omega⟩
  rw [← xor_top_lo y (by omega), Nat.xor_assoc, Nat.xor_self, Nat.xor_zero, xor_top_lo y (by omega)]
  omega
theorem u64_top_lo {x : Int} (h1 : 0 ≤ x) (h2 : x ≤ 9223372036854775807) : bits .xor .u64 x 9223372036854775808 = x + 9223372036854775808 := by
  rw [u64_xor x _ h1 (by omega) (by omega) (by omega)]
  have := xor_top_lo x.toNat (by omega)
  simp only [Nat.reducePow] at this
  rw [show (9223372036854775808 : Int).toNat = 9223372036854775808 from rfl, this]
  omega
theorem u64_top_hi {x : Int} (h1 : 9223372036854775808 ≤ x) (h2 : x ≤ 18446744073709551615) : bits .xor .u64 x 9223372036854775808 = x - 9223372036854775808 := by
  rw [u64_xor x _ (by omega) (by omega) (by omega) (by omega)]
  have := xor_top_hi x.toNat (by omega) (by omega)
  simp only [Nat.reducePow] at this
  rw [show (9223372036854775808 : Int).toNat = 9223372036854775808 from rfl, this]
  omega
theorem flip_sem {a : Int} (a1 : -9223372036854775808 ≤ a) (a2 : a ≤ 9223372036854775807) : bits BinOp.xor IntKind.u64 (IntKind.u64.wrap a) 9223372036854775808 = flip a := by
  rw [IntKind.wrap_u64]
  unfold flip
  by_cases h : a < 0
  · have e : a % 18446744073709551616 = a + 18446744073709551616 := by omega
    rw [e, u64_top_hi (by omega) (by omega)]; omega
  · have e : a % 18446744073709551616 = a := by omega
    rw [e, u64_top_lo (by omega) (by omega)]
theorem back_sem {a : Int} (a1 : 0 ≤ a) (a2 : a ≤ 18446744073709551615) : wrap64 (bits BinOp.xor IntKind.u64 a 9223372036854775808) = back a := by
  unfold back wrap64
  by_cases h : a < 9223372036854775808
  · rw [u64_top_lo (by omega) (by omega)]; omega
  · rw [u64_top_hi (by omega) (by omega)]; omega
theorem u64_not {x : Int} (h1 : 0 ≤ x) (h2 : x ≤ 18446744073709551615) : bits BinOp.xor IntKind.u64 IntKind.u64.max x = 18446744073709551615 - x := by
  obtain ⟨n, rfl⟩ : ∃ n : Nat, x = n := ⟨x.toNat, by omega⟩
  show IntKind.u64.wrap ((BitVec.ofInt 64 IntKind.u64.max ^^^ BitVec.ofInt 64 (n : Int)).toNat : Int) = _
  have e1 : BitVec.ofInt 64 IntKind.u64.max = BitVec.allOnes 64 := by decide
  rw [e1, BitVec.allOnes_xor, BitVec.toNat_not, ofInt_u64 n (by omega), IntKind.wrap_u64]
  omega
theorem zig_neg {a : Int} (h : a < 0) : zig a = -(2 * a) - 1 := by unfold zig; rw [if_pos h]
theorem zig_pos {a : Int} (h : 0 ≤ a) : zig a = 2 * a := by unfold zig; rw [if_neg (by omega)]
theorem zag_odd {a : Int} (h : a % 2 = 1) : zag a = -(a / 2) - 1 := by unfold zag; rw [if_pos h]
theorem zag_even {a : Int} (h : ¬ a % 2 = 1) : zag a = a / 2 := by unfold zag; rw [if_neg h]
theorem zig_sem {a : Int} (a1 : -9223372036854775808 ≤ a) (h : a < 0) : bits BinOp.xor IntKind.u64 IntKind.u64.max (IntKind.u64.wrap (IntKind.u64.wrap a * 2)) = zig a := by
  rw [zig_neg h, IntKind.wrap_u64, IntKind.wrap_u64, u64_not (by omega) (by omega)]
  omega
theorem zag_sem {a : Int} (a1 : 0 ≤ a) (a2 : a ≤ 18446744073709551615) (h : a % 2 = 1) : bits BinOp.xor IntKind.i64 (-1) (a / 2) = zag a := by
  rw [zag_odd h]
  obtain ⟨n, hn⟩ : ∃ n : Nat, a / 2 = n := ⟨(a / 2).toNat, by omega⟩
  rw [hn, i64_not n (by omega)]
  omega

set_option maxHeartbeats 400000 in
theorem zig_any (a : Int) (w : World) (ha : I64 a) :
    Calls Try.prog 43 #[.int .i64 a] w fun e w' => e = .returned (.int .u64 (zig a)) ∧ w' = w := by
  obtain ⟨a1, a2⟩ := ha
  by_cases h : a < 0
  · go_enter Try.func43, Try.ntmps43
    go_wp2
    go_ret
    exact ⟨ret_int (by exact zig_sem a1 (by assumption)), rfl⟩
  · go_enter Try.func43, Try.ntmps43
    go_wp2
    go_ret
    exact ⟨ret_int (by exact (by rw [zig_pos h]; omega)), rfl⟩

set_option maxHeartbeats 400000 in
theorem rzig_any (a : Int) (w : World) (ha : I64 a) :
    Calls Try.prog 45 #[.int .i64 a] w fun e w' => e = .returned (.int .u64 (zig a)) ∧ w' = w := by
  obtain ⟨a1, a2⟩ := ha
  by_cases h : a < 0
  · go_enter Try.func45, Try.ntmps45
    go_wp2
    go_ret
    exact ⟨ret_int (by exact (by rw [zig_neg h]; omega)), rfl⟩
  · go_enter Try.func45, Try.ntmps45
    go_wp2
    go_ret
    exact ⟨ret_int (by exact (zig_pos h).symm), rfl⟩

set_option maxHeartbeats 400000 in
theorem zag_any (a : Int) (w : World) (ha : U64 a) :
    Calls Try.prog 47 #[.int .u64 a] w fun e w' => e = .returned (.int .i64 (zag a)) ∧ w' = w := by
  obtain ⟨a1, a2⟩ := ha
  by_cases h : a % 2 = 1
  · go_enter Try.func47, Try.ntmps47
    go_wp2
    all_goals go_ret
    all_goals exact ⟨ret_int (by exact zag_sem a1 a2 (by assumption)), rfl⟩
  · go_enter Try.func47, Try.ntmps47
    go_wp2
    all_goals go_ret
    all_goals exact ⟨ret_int (by exact (zag_even h).symm), rfl⟩

set_option maxHeartbeats 400000 in
theorem rzag_any (a : Int) (w : World) (ha : U64 a) :
    Calls Try.prog 49 #[.int .u64 a] w fun e w' => e = .returned (.int .i64 (zag a)) ∧ w' = w := by
  obtain ⟨a1, a2⟩ := ha
  by_cases h : a % 2 = 1
  · go_enter Try.func49, Try.ntmps49
    go_wp2
    all_goals go_ret
    all_goals exact ⟨ret_int (by exact (zag_odd h).symm), rfl⟩
  · go_enter Try.func49, Try.ntmps49
    go_wp2
    all_goals go_ret
    all_goals exact ⟨ret_int (by exact (zag_even h).symm), rfl⟩

/-- Four bytes as a number, and the bytes of a number. -/
def key (a b c d : Int) : Int := ((a * 256 + b) * 256 + c) * 256 + d
def b1 (k : Int) : Int := k / 16777216
def b2 (k : Int) : Int := k / 65536 % 256
def b3 (k : Int) : Int := k / 256 % 256
def b4 (k : Int) : Int := k % 256
theorem u32_join {x m : Int} (h1 : 0 ≤ x) (h2 : x < 16777216) (h3 : 0 ≤ m) (h4 : m ≤ 255) : bits .or .u32 (x * 256) m = x * 256 + m := by
  rw [u32_or _ _ (by omega) (by omega) (by omega) (by omega), nat_join 8 _ _ (by omega) (by omega)]
  omega


set_option maxHeartbeats 1000000 in
theorem key_any (a b c d : Int) (w : World) (ha : U8 a) (hb : U8 b) (hc : U8 c) (hd : U8 d) :
    Calls Try.prog 55 #[.agg #[.int .u8 a, .int .u8 b, .int .u8 c, .int .u8 d]] w fun e w' => e = .returned (.int .u32 (key a b c d)) ∧ Below w.heap.size w w' := by
  obtain ⟨a1, a2⟩ := ha; obtain ⟨b1, b2⟩ := hb; obtain ⟨c1, c2⟩ := hc; obtain ⟨d1, d2⟩ := hd
  have e1 : bits .or .u32 0 a = a := by have := u32_join (x := 0) (m := a) (by omega) (by omega) a1 a2; simpa using this
  have e2 := u32_join (x := a) (m := b) (by omega) (by omega) b1 b2
  obtain ⟨K2, h2⟩ : ∃ K, a * 256 + b = K := ⟨_, rfl⟩
  rw [h2] at e2
  have e3 := u32_join (x := K2) (m := c) (by omega) (by omega) c1 c2
  obtain ⟨K3, h3⟩ : ∃ K, K2 * 256 + c = K := ⟨_, rfl⟩
  rw [h3] at e3
  have e4 := u32_join (x := K3) (m := d) (by omega) (by omega) d1 d2
  obtain ⟨K4, h4⟩ : ∃ K, K3 * 256 + d = K := ⟨_, rfl⟩
  rw [h4] at e4
  have hk : key a b c d = K4 := by unfold key; omega
  have k2 : 0 ≤ K2 ∧ K2 ≤ 65535 := by omega
  have k3 : 0 ≤ K3 ∧ K3 ≤ 16777215 := by omega
  rw [hk]
  clear hk h2 h3 h4
  obtain ⟨k21, k22⟩ := k2; obtain ⟨k31, k32⟩ := k3
  have i0 : ∀ w, (Instr.index 30 (.agg #[.int .u8 a, .int .u8 b, .int .u8 c, .int .u8 d]) (.int .i64 0)).run Try.prog w = .ok (.int .u8 a) w := fun _ => by kernel_rfl
  have i1 : ∀ w, (Instr.index 30 (.agg #[.int .u8 a, .int .u8 b, .int .u8 c, .int .u8 d]) (.int .i64 1)).run Try.prog w = .ok (.int .u8 b) w := fun _ => by kernel_rfl
  have i2 : ∀ w, (Instr.index 30 (.agg #[.int .u8 a, .int .u8 b, .int .u8 c, .int .u8 d]) (.int .i64 2)).run Try.prog w = .ok (.int .u8 c) w := fun _ => by kernel_rfl
  have i3 : ∀ w, (Instr.index 30 (.agg #[.int .u8 a, .int .u8 b, .int .u8 c, .int .u8 d]) (.int .i64 3)).run Try.prog w = .ok (.int .u8 d) w := fun _ => by kernel_rfl
  go_enter Try.func55, Try.ntmps55
  go_wp2
  go_loop [3, 7] (fun k i => (k = .int .u32 0 ∧ i = .int .i64 0) ∨ (k = .int .u32 a ∧ i = .int .i64 1) ∨ (k = .int .u32 K2 ∧ i = .int .i64 2) ∨ (k = .int .u32 K3 ∧ i = .int .i64 3) ∨ (k = .int .u32 K4 ∧ i = .int .i64 4))
    (fun _ i => 4 - (intOf i).toNat)
  case atStart => exact .inl ⟨rfl, rfl⟩
  case round =>
    rcases hrel with ⟨rfl, rfl⟩ | ⟨rfl, rfl⟩ | ⟨rfl, rfl⟩ | ⟨rfl, rfl⟩ | ⟨rfl, rfl⟩
    · go_wp2
      go_round
      case rel => exact .inr (.inl ⟨rfl, rfl⟩)
      case measure => simp [intOf]
    · go_wp2
      go_round
      case rel => exact .inr (.inr (.inl ⟨rfl, rfl⟩))
      case measure => simp [intOf]
    · go_wp2
      go_round
      case rel => exact .inr (.inr (.inr (.inl ⟨rfl, rfl⟩)))
      case measure => simp [intOf]
    · go_wp2
      go_round
      case rel => exact .inr (.inr (.inr (.inr ⟨rfl, rfl⟩)))
      case measure => simp [intOf]
    · go_wp2
      go_ret
      exact ⟨rfl, (Below.refl _ _).alloc (Nat.le_refl _) _⟩

set_option maxHeartbeats 1000000 in
theorem rkey_any (a b c d : Int) (w : World) (ha : U8 a) (hb : U8 b) (hc : U8 c) (hd : U8 d) :
    Calls Try.prog 32 #[.agg #[.int .u8 a, .int .u8 b, .int .u8 c, .int .u8 d]] w fun e w' => e = .returned (.int .u32 (key a b c d)) ∧ Below w.heap.size w w' := by
  obtain ⟨a1, a2⟩ := ha; obtain ⟨b1, b2⟩ := hb; obtain ⟨c1, c2⟩ := hc; obtain ⟨d1, d2⟩ := hd
  obtain ⟨K2, h2⟩ : ∃ K, a * 256 + b = K := ⟨_, rfl⟩
  obtain ⟨K3, h3⟩ : ∃ K, K2 * 256 + c = K := ⟨_, rfl⟩
  obtain ⟨K4, h4⟩ : ∃ K, K3 * 256 + d = K := ⟨_, rfl⟩
  have hk : key a b c d = K4 := by unfold key; omega
  have k2 : 0 ≤ K2 ∧ K2 ≤ 65535 := by omega
  have k3 : 0 ≤ K3 ∧ K3 ≤ 16777215 := by omega
  have k4 : 0 ≤ K4 ∧ K4 ≤ 4294967295 := by omega
  rw [hk]
  clear hk
  obtain ⟨k21, k22⟩ := k2; obtain ⟨k31, k32⟩ := k3; obtain ⟨k41, k42⟩ := k4
  go_enter Try.func32, Try.ntmps32
  go_wp2
  go_loop [3, 4] (fun k i => (k = .int .u32 0 ∧ i = .int .i64 0) ∨ (k = .int .u32 a ∧ i = .int .i64 1) ∨ (k = .int .u32 K2 ∧ i = .int .i64 2) ∨ (k = .int .u32 K3 ∧ i = .int .i64 3) ∨ (k = .int .u32 K4 ∧ i = .int .i64 4))
    (fun _ i => 4 - (intOf i).toNat)
  case atStart => exact .inl ⟨rfl, rfl⟩
  case round =>
    rcases hrel with ⟨rfl, rfl⟩ | ⟨rfl, rfl⟩ | ⟨rfl, rfl⟩ | ⟨rfl, rfl⟩ | ⟨rfl, rfl⟩
    · go_wp2
      go_round
      case rel => exact .inr (.inl ⟨rfl, rfl⟩)
      case measure => simp [intOf]
    · go_wp2
      go_round
      case rel => exact .inr (.inr (.inl ⟨rfl, rfl⟩))
      case measure => simp [intOf]
    · go_wp2
      go_round
      case rel => exact .inr (.inr (.inr (.inl ⟨rfl, rfl⟩)))
      case measure => simp [intOf]
    · go_wp2
      go_round
      case rel => exact .inr (.inr (.inr (.inr ⟨rfl, rfl⟩)))
      case measure => simp [intOf]
    · go_wp2
      go_ret
      exact ⟨rfl, (Below.refl _ _).alloc (Nat.le_refl _) _⟩

end Go.Proofs.Ytikgbcdmeikjfaa.code

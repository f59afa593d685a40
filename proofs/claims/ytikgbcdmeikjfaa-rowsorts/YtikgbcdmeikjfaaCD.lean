/-
  What code.digitsOf returns: a number's digits, and how many they are.
  Conditions: as each theorem states them.
-/
import Derived.Test.YtikgbcdmeikjfaaChecked
import Derived.Test.YtikgbcdmeikjfaaCC
import Derived.Laws.BitsAllLaws
import Derived.Laws.DeepNot64
namespace Go.Proofs.Ytikgbcdmeikjfaa.code
open Go.RowKit
set_option linter.unusedVariables false
set_option linter.unusedSimpArgs false
set_option maxRecDepth 100000

theorem u8_top {r : Int} (h1 : 0 ≤ r) (h2 : r < 128) : bits .or .u8 r 128 = r + 128 := by
  rw [u8_or _ _ (by omega) (by omega) (by omega) (by omega), Nat.or_comm, nat_join 7 _ _ (by decide) (by omega)]
  omega
/-- Ten bytes, the first n of which are the digits of a number. -/
def IsDigs (u : Int) (xs : List Int) (n : Nat) : Prop := 1 ≤ n ∧ n ≤ 10 ∧ xs.take n = digs u

set_option maxHeartbeats 8000000 in
theorem digits_any (u : Int) (w : World) (hu : U64 u) :
    Calls Try.prog 60 #[.int .u64 u] w fun e w' => (∃ (x0 x1 x2 x3 x4 x5 x6 x7 x8 x9 : Int) (n : Nat), e = .returned (.agg #[.int .u8 x0, .int .u8 x1, .int .u8 x2, .int .u8 x3, .int .u8 x4, .int .u8 x5, .int .u8 x6, .int .u8 x7, .int .u8 x8, .int .u8 x9, .int .i64 n]) ∧ IsDigs u [x0, x1, x2, x3, x4, x5, x6, x7, x8, x9] n) ∧ Below w.heap.size w w' := by
  obtain ⟨u1, u2⟩ := hu
  obtain ⟨q0, h0⟩ : ∃ q, u = q := ⟨_, rfl⟩
  rw [h0]
  rw [h0] at u1 u2
  clear h0
  obtain ⟨q1, h1⟩ : ∃ q, q0 / 128 = q := ⟨_, rfl⟩
  obtain ⟨q2, h2⟩ : ∃ q, q1 / 128 = q := ⟨_, rfl⟩
  obtain ⟨q3, h3⟩ : ∃ q, q2 / 128 = q := ⟨_, rfl⟩
  obtain ⟨q4, h4⟩ : ∃ q, q3 / 128 = q := ⟨_, rfl⟩
  obtain ⟨q5, h5⟩ : ∃ q, q4 / 128 = q := ⟨_, rfl⟩
  obtain ⟨q6, h6⟩ : ∃ q, q5 / 128 = q := ⟨_, rfl⟩
  obtain ⟨q7, h7⟩ : ∃ q, q6 / 128 = q := ⟨_, rfl⟩
  obtain ⟨q8, h8⟩ : ∃ q, q7 / 128 = q := ⟨_, rfl⟩
  obtain ⟨q9, h9⟩ : ∃ q, q8 / 128 = q := ⟨_, rfl⟩
  have y1 : 0 ≤ q1 ∧ q1 ≤ 144115188075855871 := by omega
  have y2 : 0 ≤ q2 ∧ q2 ≤ 1125899906842623 := by omega
  have y3 : 0 ≤ q3 ∧ q3 ≤ 8796093022207 := by omega
  have y4 : 0 ≤ q4 ∧ q4 ≤ 68719476735 := by omega
  have y5 : 0 ≤ q5 ∧ q5 ≤ 536870911 := by omega
  have y6 : 0 ≤ q6 ∧ q6 ≤ 4194303 := by omega
  have y7 : 0 ≤ q7 ∧ q7 ≤ 32767 := by omega
  have y8 : 0 ≤ q8 ∧ q8 ≤ 255 := by omega
  have y9 : 0 ≤ q9 ∧ q9 ≤ 1 := by omega
  have z0 : bits .or .u8 (q0 % 128) 128 = q0 % 128 + 128 := u8_top (by omega) (by omega)
  have z1 : bits .or .u8 (q1 % 128) 128 = q1 % 128 + 128 := u8_top (by omega) (by omega)
  have z2 : bits .or .u8 (q2 % 128) 128 = q2 % 128 + 128 := u8_top (by omega) (by omega)
  have z3 : bits .or .u8 (q3 % 128) 128 = q3 % 128 + 128 := u8_top (by omega) (by omega)
  have z4 : bits .or .u8 (q4 % 128) 128 = q4 % 128 + 128 := u8_top (by omega) (by omega)
  have z5 : bits .or .u8 (q5 % 128) 128 = q5 % 128 + 128 := u8_top (by omega) (by omega)
  have z6 : bits .or .u8 (q6 % 128) 128 = q6 % 128 + 128 := u8_top (by omega) (by omega)
  have z7 : bits .or .u8 (q7 % 128) 128 = q7 % 128 + 128 := u8_top (by omega) (by omega)
  have z8 : bits .or .u8 (q8 % 128) 128 = q8 % 128 + 128 := u8_top (by omega) (by omega)
  obtain ⟨y1a, y1b⟩ := y1
  obtain ⟨y2a, y2b⟩ := y2
  obtain ⟨y3a, y3b⟩ := y3
  obtain ⟨y4a, y4b⟩ := y4
  obtain ⟨y5a, y5b⟩ := y5
  obtain ⟨y6a, y6b⟩ := y6
  obtain ⟨y7a, y7b⟩ := y7
  obtain ⟨y8a, y8b⟩ := y8
  obtain ⟨y9a, y9b⟩ := y9
  go_enter Try.func60, Try.ntmps60
  go_wp2
  go_loopw [0] (fun v wr => (v = .int .u64 q0 ∧ wr = (w.alloc (.cells #[.int .u8 0, .int .u8 0, .int .u8 0, .int .u8 0, .int .u8 0, .int .u8 0, .int .u8 0, .int .u8 0, .int .u8 0, .int .u8 0, .int .i64 0] 98)).alloc (.cells #[.int .u8 0, .int .u8 0, .int .u8 0, .int .u8 0, .int .u8 0, .int .u8 0, .int .u8 0, .int .u8 0, .int .u8 0, .int .u8 0, .int .i64 0] 98)) ∨
    (128 ≤ q0 ∧ v = .int .u64 q1 ∧ wr = (w.alloc (.cells #[.int .u8 0, .int .u8 0, .int .u8 0, .int .u8 0, .int .u8 0, .int .u8 0, .int .u8 0, .int .u8 0, .int .u8 0, .int .u8 0, .int .i64 0] 98)).alloc (.cells #[.int .u8 (q0 % 128 + 128), .int .u8 0, .int .u8 0, .int .u8 0, .int .u8 0, .int .u8 0, .int .u8 0, .int .u8 0, .int .u8 0, .int .u8 0, .int .i64 1] 98)) ∨
    (128 ≤ q0 ∧ 128 ≤ q1 ∧ v = .int .u64 q2 ∧ wr = (w.alloc (.cells #[.int .u8 0, .int .u8 0, .int .u8 0, .int .u8 0, .int .u8 0, .int .u8 0, .int .u8 0, .int .u8 0, .int .u8 0, .int .u8 0, .int .i64 0] 98)).alloc (.cells #[.int .u8 (q0 % 128 + 128), .int .u8 (q1 % 128 + 128), .int .u8 0, .int .u8 0, .int .u8 0, .int .u8 0, .int .u8 0, .int .u8 0, .int .u8 0, .int .u8 0, .int .i64 2] 98)) ∨
    (128 ≤ q0 ∧ 128 ≤ q1 ∧ 128 ≤ q2 ∧ v = .int .u64 q3 ∧ wr = (w.alloc (.cells #[.int .u8 0, .int .u8 0, .int .u8 0, .int .u8 0, .int .u8 0, .int .u8 0, .int .u8 0, .int .u8 0, .int .u8 0, .int .u8 0, .int .i64 0] 98)).alloc (.cells #[.int .u8 (q0 % 128 + 128), .int .u8 (q1 % 128 + 128), .int .u8 (q2 % 128 + 128), .int .u8 0, .int .u8 0, .int .u8 0, .int .u8 0, .int .u8 0, .int .u8 0, .int .u8 0, .int .i64 3] 98)) ∨
    (128 ≤ q0 ∧ 128 ≤ q1 ∧ 128 ≤ q2 ∧ 128 ≤ q3 ∧ v = .int .u64 q4 ∧ wr = (w.alloc (.cells #[.int .u8 0, .int .u8 0, .int .u8 0, .int .u8 0, .int .u8 0, .int .u8 0, .int .u8 0, .int .u8 0, .int .u8 0, .int .u8 0, .int .i64 0] 98)).alloc (.cells #[.int .u8 (q0 % 128 + 128), .int .u8 (q1 % 128 + 128), .int .u8 (q2 % 128 + 128), .int .u8 (q3 % 128 + 128), .int .u8 0, .int .u8 0, .int .u8 0, .int .u8 0, .int .u8 0, .int .u8 0, .int .i64 4] 98)) ∨
    (128 ≤ q0 ∧ 128 ≤ q1 ∧ 128 ≤ q2 ∧ 128 ≤ q3 ∧ 128 ≤ q4 ∧ v = .int .u64 q5 ∧ wr = (w.alloc (.cells #[.int .u8 0, .int .u8 0, .int .u8 0, .int .u8 0, .int .u8 0, .int .u8 0, .int .u8 0, .int .u8 0, .int .u8 0, .int .u8 0, .int .i64 0] 98)).alloc (.cells #[.int .u8 (q0 % 128 + 128), .int .u8 (q1 % 128 + 128), .int .u8 (q2 % 128 + 128), .int .u8 (q3 % 128 + 128), .int .u8 (q4 % 128 + 128), .int .u8 0, .int .u8 0, .int .u8 0, .int .u8 0, .int .u8 0, .int .i64 5] 98)) ∨
    (128 ≤ q0 ∧ 128 ≤ q1 ∧ 128 ≤ q2 ∧ 128 ≤ q3 ∧ 128 ≤ q4 ∧ 128 ≤ q5 ∧ v = .int .u64 q6 ∧ wr = (w.alloc (.cells #[.int .u8 0, .int .u8 0, .int .u8 0, .int .u8 0, .int .u8 0, .int .u8 0, .int .u8 0, .int .u8 0, .int .u8 0, .int .u8 0, .int .i64 0] 98)).alloc (.cells #[.int .u8 (q0 % 128 + 128), .int .u8 (q1 % 128 + 128), .int .u8 (q2 % 128 + 128), .int .u8 (q3 % 128 + 128), .int .u8 (q4 % 128 + 128), .int .u8 (q5 % 128 + 128), .int .u8 0, .int .u8 0, .int .u8 0, .int .u8 0, .int .i64 6] 98)) ∨
    (128 ≤ q0 ∧ 128 ≤ q1 ∧ 128 ≤ q2 ∧ 128 ≤ q3 ∧ 128 ≤ q4 ∧ 128 ≤ q5 ∧ 128 ≤ q6 ∧ v = .int .u64 q7 ∧ wr = (w.alloc (.cells #[.int .u8 0, .int .u8 0, .int .u8 0, .int .u8 0, .int .u8 0, .int .u8 0, .int .u8 0, .int .u8 0, .int .u8 0, .int .u8 0, .int .i64 0] 98)).alloc (.cells #[.int .u8 (q0 % 128 + 128), .int .u8 (q1 % 128 + 128), .int .u8 (q2 % 128 + 128), .int .u8 (q3 % 128 + 128), .int .u8 (q4 % 128 + 128), .int .u8 (q5 % 128 + 128), .int .u8 (q6 % 128 + 128), .int .u8 0, .int .u8 0, .int .u8 0, .int .i64 7] 98)) ∨
    (128 ≤ q0 ∧ 128 ≤ q1 ∧ 128 ≤ q2 ∧ 128 ≤ q3 ∧ 128 ≤ q4 ∧ 128 ≤ q5 ∧ 128 ≤ q6 ∧ 128 ≤ q7 ∧ v = .int .u64 q8 ∧ wr = (w.alloc (.cells #[.int .u8 0, .int .u8 0, .int .u8 0, .int .u8 0, .int .u8 0, .int .u8 0, .int .u8 0, .int .u8 0, .int .u8 0, .int .u8 0, .int .i64 0] 98)).alloc (.cells #[.int .u8 (q0 % 128 + 128), .int .u8 (q1 % 128 + 128), .int .u8 (q2 % 128 + 128), .int .u8 (q3 % 128 + 128), .int .u8 (q4 % 128 + 128), .int .u8 (q5 % 128 + 128), .int .u8 (q6 % 128 + 128), .int .u8 (q7 % 128 + 128), .int .u8 0, .int .u8 0, .int .i64 8] 98)) ∨
    (128 ≤ q0 ∧ 128 ≤ q1 ∧ 128 ≤ q2 ∧ 128 ≤ q3 ∧ 128 ≤ q4 ∧ 128 ≤ q5 ∧ 128 ≤ q6 ∧ 128 ≤ q7 ∧ 128 ≤ q8 ∧ v = .int .u64 q9 ∧ wr = (w.alloc (.cells #[.int .u8 0, .int .u8 0, .int .u8 0, .int .u8 0, .int .u8 0, .int .u8 0, .int .u8 0, .int .u8 0, .int .u8 0, .int .u8 0, .int .i64 0] 98)).alloc (.cells #[.int .u8 (q0 % 128 + 128), .int .u8 (q1 % 128 + 128), .int .u8 (q2 % 128 + 128), .int .u8 (q3 % 128 + 128), .int .u8 (q4 % 128 + 128), .int .u8 (q5 % 128 + 128), .int .u8 (q6 % 128 + 128), .int .u8 (q7 % 128 + 128), .int .u8 (q8 % 128 + 128), .int .u8 0, .int .i64 9] 98)))
    (fun v _ => (intOf v).toNat)
  case atStart => exact .inl ⟨rfl, rfl⟩
  case round =>
    rcases hrel with ⟨rfl, rfl⟩ | ⟨k0, rfl, rfl⟩ | ⟨k0, k1, rfl, rfl⟩ | ⟨k0, k1, k2, rfl, rfl⟩ | ⟨k0, k1, k2, k3, rfl, rfl⟩ | ⟨k0, k1, k2, k3, k4, rfl, rfl⟩ | ⟨k0, k1, k2, k3, k4, k5, rfl, rfl⟩ | ⟨k0, k1, k2, k3, k4, k5, k6, rfl, rfl⟩ | ⟨k0, k1, k2, k3, k4, k5, k6, k7, rfl, rfl⟩ | ⟨k0, k1, k2, k3, k4, k5, k6, k7, k8, rfl, rfl⟩
    · by_cases hlt : 128 ≤ q0
      · go_wp2
        go_roundw
        case rel => exact .inr (.inl ⟨hlt, (by first | rfl | rw [h1]), by simp [go_sem, z0]⟩)
        case measure => simp [intOf]; omega
      · go_wp2
        exact bodyPost_ret (v := .agg #[.int .u8 (q0), .int .u8 (0), .int .u8 (0), .int .u8 (0), .int .u8 (0), .int .u8 (0), .int .u8 (0), .int .u8 (0), .int .u8 (0), .int .u8 (0), .int .i64 1]) (by simp [results, Try.results60, go_sem]) rfl ⟨⟨_, _, _, _, _, _, _, _, _, _, 1, rfl, by omega, by omega, by simp only [List.take_succ_cons, List.take_zero, digs]; rw [digF_stop (by omega)]⟩, ((Below.refl _ _).alloc (Nat.le_refl _) _).alloc (by simp) _⟩
    · by_cases hlt : 128 ≤ q1
      · go_wp2
        go_roundw
        case rel => exact .inr (.inr (.inl ⟨k0, hlt, (by first | rfl | rw [h2]), by simp [go_sem, z1]⟩))
        case measure => simp [intOf]; omega
      · go_wp2
        exact bodyPost_ret (v := .agg #[.int .u8 (q0 % 128 + 128), .int .u8 (q1), .int .u8 (0), .int .u8 (0), .int .u8 (0), .int .u8 (0), .int .u8 (0), .int .u8 (0), .int .u8 (0), .int .u8 (0), .int .i64 2]) (by simp [results, Try.results60, go_sem]) rfl ⟨⟨_, _, _, _, _, _, _, _, _, _, 2, rfl, by omega, by omega, by simp only [List.take_succ_cons, List.take_zero, digs]; rw [digF_step (by omega), h1, digF_stop (by omega)]⟩, ((Below.refl _ _).alloc (Nat.le_refl _) _).alloc (by simp) _⟩
    · by_cases hlt : 128 ≤ q2
      · go_wp2
        go_roundw
        case rel => exact .inr (.inr (.inr (.inl ⟨k0, k1, hlt, (by first | rfl | rw [h3]), by simp [go_sem, z2]⟩)))
        case measure => simp [intOf]; omega
      · go_wp2
        exact bodyPost_ret (v := .agg #[.int .u8 (q0 % 128 + 128), .int .u8 (q1 % 128 + 128), .int .u8 (q2), .int .u8 (0), .int .u8 (0), .int .u8 (0), .int .u8 (0), .int .u8 (0), .int .u8 (0), .int .u8 (0), .int .i64 3]) (by simp [results, Try.results60, go_sem]) rfl ⟨⟨_, _, _, _, _, _, _, _, _, _, 3, rfl, by omega, by omega, by simp only [List.take_succ_cons, List.take_zero, digs]; rw [digF_step (by omega), h1, digF_step (by omega), h2, digF_stop (by omega)]⟩, ((Below.refl _ _).alloc (Nat.le_refl _) _).alloc (by simp) _⟩
    · by_cases hlt : 128 ≤ q3
      · go_wp2
        go_roundw
        case rel => exact .inr (.inr (.inr (.inr (.inl ⟨k0, k1, k2, hlt, (by first | rfl | rw [h4]), by simp [go_sem, z3]⟩))))
        case measure => simp [intOf]; omega
      · go_wp2
        exact bodyPost_ret (v := .agg #[.int .u8 (q0 % 128 + 128), .int .u8 (q1 % 128 + 128), .int .u8 (q2 % 128 + 128), .int .u8 (q3), .int .u8 (0), .int .u8 (0), .int .u8 (0), .int .u8 (0), .int .u8 (0), .int .u8 (0), .int .i64 4]) (by simp [results, Try.results60, go_sem]) rfl ⟨⟨_, _, _, _, _, _, _, _, _, _, 4, rfl, by omega, by omega, by simp only [List.take_succ_cons, List.take_zero, digs]; rw [digF_step (by omega), h1, digF_step (by omega), h2, digF_step (by omega), h3, digF_stop (by omega)]⟩, ((Below.refl _ _).alloc (Nat.le_refl _) _).alloc (by simp) _⟩
    · by_cases hlt : 128 ≤ q4
      · go_wp2
        go_roundw
        case rel => exact .inr (.inr (.inr (.inr (.inr (.inl ⟨k0, k1, k2, k3, hlt, (by first | rfl | rw [h5]), by simp [go_sem, z4]⟩)))))
        case measure => simp [intOf]; omega
      · go_wp2
        exact bodyPost_ret (v := .agg #[.int .u8 (q0 % 128 + 128), .int .u8 (q1 % 128 + 128), .int .u8 (q2 % 128 + 128), .int .u8 (q3 % 128 + 128), .int .u8 (q4), .int .u8 (0), .int .u8 (0), .int .u8 (0), .int .u8 (0), .int .u8 (0), .int .i64 5]) (by simp [results, Try.results60, go_sem]) rfl ⟨⟨_, _, _, _, _, _, _, _, _, _, 5, rfl, by omega, by omega, by simp only [List.take_succ_cons, List.take_zero, digs]; rw [digF_step (by omega), h1, digF_step (by omega), h2, digF_step (by omega), h3, digF_step (by omega), h4, digF_stop (by omega)]⟩, ((Below.refl _ _).alloc (Nat.le_refl _) _).alloc (by simp) _⟩
    · by_cases hlt : 128 ≤ q5
      · go_wp2
        go_roundw
        case rel => exact .inr (.inr (.inr (.inr (.inr (.inr (.inl ⟨k0, k1, k2, k3, k4, hlt, (by first | rfl | rw [h6]), by simp [go_sem, z5]⟩))))))
        case measure => simp [intOf]; omega
      · go_wp2
        exact bodyPost_ret (v := .agg #[.int .u8 (q0 % 128 + 128), .int .u8 (q1 % 128 + 128), .int .u8 (q2 % 128 + 128), .int .u8 (q3 % 128 + 128), .int .u8 (q4 % 128 + 128), .int .u8 (q5), .int .u8 (0), .int .u8 (0), .int .u8 (0), .int .u8 (0), .int .i64 6]) (by simp [results, Try.results60, go_sem]) rfl ⟨⟨_, _, _, _, _, _, _, _, _, _, 6, rfl, by omega, by omega, by simp only [List.take_succ_cons, List.take_zero, digs]; rw [digF_step (by omega), h1, digF_step (by omega), h2, digF_step (by omega), h3, digF_step (by omega), h4, digF_step (by omega), h5, digF_stop (by omega)]⟩, ((Below.refl _ _).alloc (Nat.le_refl _) _).alloc (by simp) _⟩
    · by_cases hlt : 128 ≤ q6
      · go_wp2
        go_roundw
        case rel => exact .inr (.inr (.inr (.inr (.inr (.inr (.inr (.inl ⟨k0, k1, k2, k3, k4, k5, hlt, (by first | rfl | rw [h7]), by simp [go_sem, z6]⟩)))))))
        case measure => simp [intOf]; omega
      · go_wp2
        exact bodyPost_ret (v := .agg #[.int .u8 (q0 % 128 + 128), .int .u8 (q1 % 128 + 128), .int .u8 (q2 % 128 + 128), .int .u8 (q3 % 128 + 128), .int .u8 (q4 % 128 + 128), .int .u8 (q5 % 128 + 128), .int .u8 (q6), .int .u8 (0), .int .u8 (0), .int .u8 (0), .int .i64 7]) (by simp [results, Try.results60, go_sem]) rfl ⟨⟨_, _, _, _, _, _, _, _, _, _, 7, rfl, by omega, by omega, by simp only [List.take_succ_cons, List.take_zero, digs]; rw [digF_step (by omega), h1, digF_step (by omega), h2, digF_step (by omega), h3, digF_step (by omega), h4, digF_step (by omega), h5, digF_step (by omega), h6, digF_stop (by omega)]⟩, ((Below.refl _ _).alloc (Nat.le_refl _) _).alloc (by simp) _⟩
    · by_cases hlt : 128 ≤ q7
      · go_wp2
        go_roundw
        case rel => exact .inr (.inr (.inr (.inr (.inr (.inr (.inr (.inr (.inl ⟨k0, k1, k2, k3, k4, k5, k6, hlt, (by first | rfl | rw [h8]), by simp [go_sem, z7]⟩))))))))
        case measure => simp [intOf]; omega
      · go_wp2
        exact bodyPost_ret (v := .agg #[.int .u8 (q0 % 128 + 128), .int .u8 (q1 % 128 + 128), .int .u8 (q2 % 128 + 128), .int .u8 (q3 % 128 + 128), .int .u8 (q4 % 128 + 128), .int .u8 (q5 % 128 + 128), .int .u8 (q6 % 128 + 128), .int .u8 (q7), .int .u8 (0), .int .u8 (0), .int .i64 8]) (by simp [results, Try.results60, go_sem]) rfl ⟨⟨_, _, _, _, _, _, _, _, _, _, 8, rfl, by omega, by omega, by simp only [List.take_succ_cons, List.take_zero, digs]; rw [digF_step (by omega), h1, digF_step (by omega), h2, digF_step (by omega), h3, digF_step (by omega), h4, digF_step (by omega), h5, digF_step (by omega), h6, digF_step (by omega), h7, digF_stop (by omega)]⟩, ((Below.refl _ _).alloc (Nat.le_refl _) _).alloc (by simp) _⟩
    · by_cases hlt : 128 ≤ q8
      · go_wp2
        go_roundw
        case rel => exact .inr (.inr (.inr (.inr (.inr (.inr (.inr (.inr (.inr (⟨k0, k1, k2, k3, k4, k5, k6, k7, hlt, (by first | rfl | rw [h9]), by simp [go_sem, z8]⟩)))))))))
        case measure => simp [intOf]; omega
      · go_wp2
        exact bodyPost_ret (v := .agg #[.int .u8 (q0 % 128 + 128), .int .u8 (q1 % 128 + 128), .int .u8 (q2 % 128 + 128), .int .u8 (q3 % 128 + 128), .int .u8 (q4 % 128 + 128), .int .u8 (q5 % 128 + 128), .int .u8 (q6 % 128 + 128), .int .u8 (q7 % 128 + 128), .int .u8 (q8), .int .u8 (0), .int .i64 9]) (by simp [results, Try.results60, go_sem]) rfl ⟨⟨_, _, _, _, _, _, _, _, _, _, 9, rfl, by omega, by omega, by simp only [List.take_succ_cons, List.take_zero, digs]; rw [digF_step (by omega), h1, digF_step (by omega), h2, digF_step (by omega), h3, digF_step (by omega), h4, digF_step (by omega), h5, digF_step (by omega), h6, digF_step (by omega), h7, digF_step (by omega), h8, digF_stop (by omega)]⟩, ((Below.refl _ _).alloc (Nat.le_refl _) _).alloc (by simp) _⟩
    · go_wp2
      exact bodyPost_ret (v := .agg #[.int .u8 (q0 % 128 + 128), .int .u8 (q1 % 128 + 128), .int .u8 (q2 % 128 + 128), .int .u8 (q3 % 128 + 128), .int .u8 (q4 % 128 + 128), .int .u8 (q5 % 128 + 128), .int .u8 (q6 % 128 + 128), .int .u8 (q7 % 128 + 128), .int .u8 (q8 % 128 + 128), .int .u8 (q9), .int .i64 10]) (by simp [results, Try.results60, go_sem]) rfl ⟨⟨_, _, _, _, _, _, _, _, _, _, 10, rfl, by omega, by omega, by simp only [List.take_succ_cons, List.take_zero, digs]; rw [digF_step (by omega), h1, digF_step (by omega), h2, digF_step (by omega), h3, digF_step (by omega), h4, digF_step (by omega), h5, digF_step (by omega), h6, digF_step (by omega), h7, digF_step (by omega), h8, digF_step (by omega), h9, digF_stop (by omega)]⟩, ((Below.refl _ _).alloc (Nat.le_refl _) _).alloc (by simp) _⟩

end Go.Proofs.Ytikgbcdmeikjfaa.code

/-
  What code.Key, At and the document's own Key, At return, for every place, every uint32.
  Conditions: as each theorem states them.
-/
import Derived.Test.YteilfoefjemjoaaA
import Derived.Below
namespace Go.Proofs.Yteilfoefjemjoaa
open Go.RowKit
set_option linter.unusedVariables false
set_option linter.unusedSimpArgs false

/-- Four bytes as a number, and the bytes of a number. -/
def key (a b c d : Int) : Int := ((a * 256 + b) * 256 + c) * 256 + d
def b1 (k : Int) : Int := k / 16777216
def b2 (k : Int) : Int := k / 65536 % 256
def b3 (k : Int) : Int := k / 256 % 256
def b4 (k : Int) : Int := k % 256
theorem u32_join {x m : Int} (h1 : 0 ≤ x) (h2 : x < 16777216) (h3 : 0 ≤ m) (h4 : m ≤ 255) : bits .or .u32 (x * 256) m = x * 256 + m := by
  rw [u32_or _ _ (by omega) (by omega) (by omega) (by omega), nat_join 8 _ _ (by omega) (by omega)]
  omega

theorem bt {a b c : World} (h : Below a.heap.size a b) (k : Below b.heap.size b c) : Below a.heap.size a c := h.trans (k.mono h.size)

set_option maxHeartbeats 1000000 in
theorem key_any (a b c d : Int) (w : World) (ha : U8 a) (hb : U8 b) (hc : U8 c) (hd : U8 d) :
    Calls Try.prog 17 #[.agg #[.int .u8 a, .int .u8 b, .int .u8 c, .int .u8 d]] w fun e w' => e = .returned (.int .u32 (key a b c d)) ∧ Below w.heap.size w w' := by
  obtain ⟨a1, a2⟩ := ha; obtain ⟨b1, b2⟩ := hb; obtain ⟨c1, c2⟩ := hc; obtain ⟨d1, d2⟩ := hd
  have e1 : bits .or .u32 0 a = a := by have := u32_join (x := 0) (m := a) (by omega) (by omega) a1 a2; simpa using this
  have e2 := u32_join (x := a) (m := b) (by omega) (by omega) b1 b2
  obtain ⟨K2, h2⟩ : ∃ K, a * 256 + b = K := ⟨_, rfl⟩
  rw [h2] at e2
  have e3 := u32_join (x := K2) (m := c) (by omega) (by omega) c1 c2
  obtain ⟨K3, h3⟩ : ∃ K, K2 * 256 + c = K := ⟨_, rfl⟩
  rw [h3] at e3
  have e4 := u32_join (x := K3) (m := d) (by omega) (by omega) d1 d2
  obtain ⟨K4, h4⟩ : ∃ K, K3 * 256 + d = K := ⟨_, rfl⟩
  rw [h4] at e4
  have hk : key a b c d = K4 := by unfold key; omega
  have k2 : 0 ≤ K2 ∧ K2 ≤ 65535 := by omega
  have k3 : 0 ≤ K3 ∧ K3 ≤ 16777215 := by omega
  rw [hk]
  clear hk h2 h3 h4
  obtain ⟨k21, k22⟩ := k2; obtain ⟨k31, k32⟩ := k3
  have i0 : ∀ w, (Instr.index 25 (.agg #[.int .u8 a, .int .u8 b, .int .u8 c, .int .u8 d]) (.int .i64 0)).run Try.prog w = .ok (.int .u8 a) w := fun _ => by kernel_rfl
  have i1 : ∀ w, (Instr.index 25 (.agg #[.int .u8 a, .int .u8 b, .int .u8 c, .int .u8 d]) (.int .i64 1)).run Try.prog w = .ok (.int .u8 b) w := fun _ => by kernel_rfl
  have i2 : ∀ w, (Instr.index 25 (.agg #[.int .u8 a, .int .u8 b, .int .u8 c, .int .u8 d]) (.int .i64 2)).run Try.prog w = .ok (.int .u8 c) w := fun _ => by kernel_rfl
  have i3 : ∀ w, (Instr.index 25 (.agg #[.int .u8 a, .int .u8 b, .int .u8 c, .int .u8 d]) (.int .i64 3)).run Try.prog w = .ok (.int .u8 d) w := fun _ => by kernel_rfl
  go_enter Try.func17, Try.ntmps17
  go_wp2
  go_loop [3, 7] (fun k i => (k = .int .u32 0 ∧ i = .int .i64 0) ∨ (k = .int .u32 a ∧ i = .int .i64 1) ∨ (k = .int .u32 K2 ∧ i = .int .i64 2) ∨ (k = .int .u32 K3 ∧ i = .int .i64 3) ∨ (k = .int .u32 K4 ∧ i = .int .i64 4))
    (fun _ i => 4 - (intOf i).toNat)
  case atStart => exact .inl ⟨rfl, rfl⟩
  case round =>
    rcases hrel with ⟨rfl, rfl⟩ | ⟨rfl, rfl⟩ | ⟨rfl, rfl⟩ | ⟨rfl, rfl⟩ | ⟨rfl, rfl⟩
    · go_wp2
      go_round
      case rel => exact .inr (.inl ⟨rfl, rfl⟩)
      case measure => simp [intOf]
    · go_wp2
      go_round
      case rel => exact .inr (.inr (.inl ⟨rfl, rfl⟩))
      case measure => simp [intOf]
    · go_wp2
      go_round
      case rel => exact .inr (.inr (.inr (.inl ⟨rfl, rfl⟩)))
      case measure => simp [intOf]
    · go_wp2
      go_round
      case rel => exact .inr (.inr (.inr (.inr ⟨rfl, rfl⟩)))
      case measure => simp [intOf]
    · go_wp2
      go_ret
      exact ⟨rfl, (Below.refl _ _).alloc (Nat.le_refl _) _⟩

set_option maxHeartbeats 1000000 in
theorem rkey_any (a b c d : Int) (w : World) (ha : U8 a) (hb : U8 b) (hc : U8 c) (hd : U8 d) :
    Calls Try.prog 18 #[.agg #[.int .u8 a, .int .u8 b, .int .u8 c, .int .u8 d]] w fun e w' => e = .returned (.int .u32 (key a b c d)) ∧ Below w.heap.size w w' := by
  obtain ⟨a1, a2⟩ := ha; obtain ⟨b1, b2⟩ := hb; obtain ⟨c1, c2⟩ := hc; obtain ⟨d1, d2⟩ := hd
  obtain ⟨K2, h2⟩ : ∃ K, a * 256 + b = K := ⟨_, rfl⟩
  obtain ⟨K3, h3⟩ : ∃ K, K2 * 256 + c = K := ⟨_, rfl⟩
  obtain ⟨K4, h4⟩ : ∃ K, K3 * 256 + d = K := ⟨_, rfl⟩
  have hk : key a b c d = K4 := by unfold key; omega
  have k2 : 0 ≤ K2 ∧ K2 ≤ 65535 := by omega
  have k3 : 0 ≤ K3 ∧ K3 ≤ 16777215 := by omega
  have k4 : 0 ≤ K4 ∧ K4 ≤ 4294967295 := by omega
  rw [hk]
  clear hk
  obtain ⟨k21, k22⟩ := k2; obtain ⟨k31, k32⟩ := k3; obtain ⟨k41, k42⟩ := k4
  go_enter Try.func18, Try.ntmps18
  go_wp2
  go_loop [3, 4] (fun k i => (k = .int .u32 0 ∧ i = .int .i64 0) ∨ (k = .int .u32 a ∧ i = .int .i64 1) ∨ (k = .int .u32 K2 ∧ i = .int .i64 2) ∨ (k = .int .u32 K3 ∧ i = .int .i64 3) ∨ (k = .int .u32 K4 ∧ i = .int .i64 4))
    (fun _ i => 4 - (intOf i).toNat)
  case atStart => exact .inl ⟨rfl, rfl⟩
  case round =>
    rcases hrel with ⟨rfl, rfl⟩ | ⟨rfl, rfl⟩ | ⟨rfl, rfl⟩ | ⟨rfl, rfl⟩ | ⟨rfl, rfl⟩
    · go_wp2
      go_round
      case rel => exact .inr (.inl ⟨rfl, rfl⟩)
      case measure => simp [intOf]
    · go_wp2
      go_round
      case rel => exact .inr (.inr (.inl ⟨rfl, rfl⟩))
      case measure => simp [intOf]
    · go_wp2
      go_round
      case rel => exact .inr (.inr (.inr (.inl ⟨rfl, rfl⟩)))
      case measure => simp [intOf]
    · go_wp2
      go_round
      case rel => exact .inr (.inr (.inr (.inr ⟨rfl, rfl⟩)))
      case measure => simp [intOf]
    · go_wp2
      go_ret
      exact ⟨rfl, (Below.refl _ _).alloc (Nat.le_refl _) _⟩

set_option maxHeartbeats 1000000 in
theorem at_any (k : Int) (w : World) (hk : U32 k) :
    Calls Try.prog 19 #[.int .u32 k] w fun e w' => e = .returned (.agg #[.int .u8 (b1 k), .int .u8 (b2 k), .int .u8 (b3 k), .int .u8 (b4 k)]) ∧ Below w.heap.size w w' := by
  obtain ⟨k1, k2⟩ := hk
  go_enter Try.func19, Try.ntmps19
  go_wp2
  exact bodyPost_ret (v := .agg #[.int .u8 (b1 k), .int .u8 (b2 k), .int .u8 (b3 k), .int .u8 (b4 k)]) (by simp [results, Try.results19, go_sem]; exact ⟨rfl, rfl, rfl, rfl⟩) rfl ⟨rfl, (Below.refl _ _).alloc (Nat.le_refl _) _⟩

set_option maxHeartbeats 2000000 in
theorem rat_any (k : Int) (w : World) (hk : U32 k) :
    Calls Try.prog 20 #[.int .u32 k] w fun e w' => e = .returned (.agg #[.int .u8 (b1 k), .int .u8 (b2 k), .int .u8 (b3 k), .int .u8 (b4 k)]) ∧ Below w.heap.size w w' := by
  obtain ⟨k1, k2⟩ := hk
  obtain ⟨q1, h1⟩ : ∃ q, k / 256 = q := ⟨_, rfl⟩
  obtain ⟨q2, h2⟩ : ∃ q, q1 / 256 = q := ⟨_, rfl⟩
  obtain ⟨q3, h3⟩ : ∃ q, q2 / 256 = q := ⟨_, rfl⟩
  obtain ⟨r0, g0⟩ : ∃ q, k % 256 = q := ⟨_, rfl⟩
  obtain ⟨r1, g1⟩ : ∃ q, q1 % 256 = q := ⟨_, rfl⟩
  obtain ⟨r2, g2⟩ : ∃ q, q2 % 256 = q := ⟨_, rfl⟩
  have z1 : b1 k = q3 := by unfold b1; omega
  have z2 : b2 k = r2 := by unfold b2; omega
  have z3 : b3 k = r1 := by unfold b3; omega
  have z4 : b4 k = r0 := by unfold b4; omega
  have y1 : 0 ≤ q1 ∧ q1 ≤ 16777215 ∧ 0 ≤ q2 ∧ q2 ≤ 65535 ∧ 0 ≤ q3 ∧ q3 ≤ 255 := by omega
  have y2 : 0 ≤ r0 ∧ r0 ≤ 255 ∧ 0 ≤ r1 ∧ r1 ≤ 255 ∧ 0 ≤ r2 ∧ r2 ≤ 255 := by omega
  have g3 : q3 % 256 = q3 := by omega
  have h4 : q3 / 256 = 0 := by omega
  rw [z1, z2, z3, z4]
  clear z1 z2 z3 z4
  obtain ⟨y11, y12, y13, y14, y15, y16⟩ := y1
  obtain ⟨y21, y22, y23, y24, y25, y26⟩ := y2
  go_enter Try.func20, Try.ntmps20
  go_wp2
  go_loopw [0, 4] (fun u i wr => (u = .int .u32 k ∧ i = .int .i64 3 ∧ wr = (w.alloc (.cells #[.int .u8 0, .int .u8 0, .int .u8 0, .int .u8 0] 25)).alloc (.cells #[.int .u8 0, .int .u8 0, .int .u8 0, .int .u8 0] 25)) ∨ (u = .int .u32 q1 ∧ i = .int .i64 2 ∧ wr = (w.alloc (.cells #[.int .u8 0, .int .u8 0, .int .u8 0, .int .u8 0] 25)).alloc (.cells #[.int .u8 0, .int .u8 0, .int .u8 0, .int .u8 r0] 25)) ∨ (u = .int .u32 q2 ∧ i = .int .i64 1 ∧ wr = (w.alloc (.cells #[.int .u8 0, .int .u8 0, .int .u8 0, .int .u8 0] 25)).alloc (.cells #[.int .u8 0, .int .u8 0, .int .u8 r1, .int .u8 r0] 25)) ∨ (u = .int .u32 q3 ∧ i = .int .i64 0 ∧ wr = (w.alloc (.cells #[.int .u8 0, .int .u8 0, .int .u8 0, .int .u8 0] 25)).alloc (.cells #[.int .u8 0, .int .u8 r2, .int .u8 r1, .int .u8 r0] 25)) ∨ (u = .int .u32 0 ∧ i = .int .i64 (-1) ∧ wr = (w.alloc (.cells #[.int .u8 0, .int .u8 0, .int .u8 0, .int .u8 0] 25)).alloc (.cells #[.int .u8 q3, .int .u8 r2, .int .u8 r1, .int .u8 r0] 25)))
    (fun _ i _ => (intOf i + 1).toNat)
  case atStart => exact .inl ⟨rfl, rfl, rfl⟩
  case round =>
    rcases hrel with ⟨rfl, rfl, rfl⟩ | ⟨rfl, rfl, rfl⟩ | ⟨rfl, rfl, rfl⟩ | ⟨rfl, rfl, rfl⟩ | ⟨rfl, rfl, rfl⟩
    · go_wp2
      go_roundw
      case rel => exact .inr (.inl ⟨by rw [h1], rfl, by simp [go_sem, g0, g1, g2, g3]⟩)
      case measure => simp [intOf]
    · go_wp2
      go_roundw
      case rel => exact .inr (.inr (.inl ⟨by rw [h2], rfl, by simp [go_sem, g0, g1, g2, g3]⟩))
      case measure => simp [intOf]
    · go_wp2
      go_roundw
      case rel => exact .inr (.inr (.inr (.inl ⟨by rw [h3], rfl, by simp [go_sem, g0, g1, g2, g3]⟩)))
      case measure => simp [intOf]
    · go_wp2
      go_roundw
      case rel => exact .inr (.inr (.inr (.inr ⟨by rw [h4], rfl, by simp [go_sem, g0, g1, g2, g3]⟩)))
      case measure => simp [intOf]
    · go_wp2
      exact bodyPost_ret (v := .agg #[.int .u8 q3, .int .u8 r2, .int .u8 r1, .int .u8 r0]) (by simp [results, Try.results20, go_sem]) rfl ⟨rfl, ((Below.refl _ _).alloc (Nat.le_refl _) _).alloc (by simp) _⟩

end Go.Proofs.Yteilfoefjemjoaa

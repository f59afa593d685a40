/-
  The chapter's examples (wakes) come out true.
  Conditions: as each theorem states them.
-/
import Derived.Test.YteilfoefjemjoaaF
import Derived.Laws.StructEq
namespace Go.Proofs.Yteilfoefjemjoaa
open Go.RowKit
set_option linter.unusedVariables false
set_option linter.unusedSimpArgs false

/-! Places are held against each other byte by byte. -/
theorem eq25 (a b c d x y z u : Int) (w : World) : (Op.equalIn 10000 25 (.agg #[.int .u8 a, .int .u8 b, .int .u8 c, .int .u8 d]) (.agg #[.int .u8 x, .int .u8 y, .int .u8 z, .int .u8 u])).run Try.prog w = .ok (a == x && (b == y && (c == z && d == u))) w := by
  have u3 := Try.underlying5
  have a3 := Try.isAgg5
  have z3 := Try.sizeOf5
  rw [show (10000 : Nat) = 9999 + 1 from rfl, Op.equalIn]
  simp only [Sem.run_bind, run_underlying Try.underlying25, Result.andThen_ok]
  simp only [Std.Legacy.Range.forIn_eq_forIn_range', Std.Legacy.Range.size, Nat.sub_zero, Nat.add_sub_cancel, Nat.div_one, List.range'_succ, List.range'_zero, List.forIn_cons, List.forIn_nil]
  go_simp
  by_cases h1 : a = x <;> by_cases h2 : b = y <;> by_cases h3 : c = z <;> by_cases h4 : d = u <;> simp [h1, h2, h3, h4]
theorem eq25_same (a b c d : Int) (w : World) : (Op.equalIn 10000 25 (.agg #[.int .u8 a, .int .u8 b, .int .u8 c, .int .u8 d]) (.agg #[.int .u8 a, .int .u8 b, .int .u8 c, .int .u8 d])).run Try.prog w = .ok true w := by
  rw [eq25]; simp

theorem bt1 {B : Nat} {a b c : World} {o : Obj} (h : Below B a b) (hB : B ≤ b.heap.size) (k : Below (b.alloc o).heap.size (b.alloc o) c) : Below B a c :=
  (h.alloc hB o).trans (k.mono (by simp; omega))
theorem row_nil (w : World) : Row8 w none 0 0 [] := ⟨rfl, Nat.le_refl _, by decide, by simp, fun _ => rfl, fun h => by cases h⟩
theorem put_wake (w : World) : Calls Try.prog 22 #[.slice none 0 0, .int .u64 300] w fun e w' => (∃ g : Nat, e = .returned (.slice (some ⟨g, 0, none⟩) 2 2) ∧ g < w'.heap.size ∧ w'.cell? ⟨g, 1, none⟩ = some (.int .u8 2)) ∧ Below w.heap.size w w' := by
  refine (put_any none 0 0 [] 300 w (row_nil w) (by decide) (by unfold U64; decide)).mono ?_
  rintro e w' ⟨⟨g, rfl, h0, h1, h2⟩, hb⟩
  refine ⟨⟨g, rfl, h1, ?_⟩, hb⟩
  have := h2 1 (by decide)
  exact this
theorem get_wake1 (b : Nat) (w : World) (hb : b < w.heap.size) (h0 : w.cell? ⟨b, 0, none⟩ = some (.int .u8 172)) (h1 : w.cell? ⟨b, 1, none⟩ = some (.int .u8 2)) (h2 : w.cell? ⟨b, 2, none⟩ = some (.int .u8 9)) : Calls Try.prog 23 #[.slice (some ⟨b, 0, none⟩) 3 3] w fun e w' => e = .returned (.tuple #[.int .u64 300, .int .i64 2, .bool true]) ∧ w' = w := by
  have h : Row8 w (some ⟨b, 0, none⟩) 3 3 [172, 2, 9] := by
    refine ⟨rfl, Nat.le_refl _, by decide, ?_, (fun h => by cases h), (fun _ => ⟨_, _, rfl, hb, ?_⟩)⟩
    · intro x hx
      simp at hx
      rcases hx with rfl | rfl | rfl <;> (unfold U8; decide)
    · intro k hk
      match k, hk with
      | 0, _ => simpa using h0
      | 1, _ => simpa using h1
      | 2, _ => simpa using h2
  have := get_any _ _ _ _ _ h
  rw [show getV [172, 2, 9] = 300 from by decide, show getN [172, 2, 9] = 2 from by decide, show getB [172, 2, 9] = true from by decide] at this
  exact this
theorem get_wake2 (b : Nat) (w : World) (hb : b < w.heap.size) (h0 : w.cell? ⟨b, 0, none⟩ = some (.int .u8 128)) (h1 : w.cell? ⟨b, 1, none⟩ = some (.int .u8 0)) : Calls Try.prog 23 #[.slice (some ⟨b, 0, none⟩) 2 2] w fun e w' => e = .returned (.tuple #[.int .u64 0, .int .i64 0, .bool false]) ∧ w' = w := by
  have h : Row8 w (some ⟨b, 0, none⟩) 2 2 [128, 0] := by
    refine ⟨rfl, Nat.le_refl _, by decide, ?_, (fun h => by cases h), (fun _ => ⟨_, _, rfl, hb, ?_⟩)⟩
    · intro x hx
      simp at hx
      rcases hx with rfl | rfl <;> (unfold U8; decide)
    · intro k hk
      match k, hk with
      | 0, _ => simpa using h0
      | 1, _ => simpa using h1
  have := get_any _ _ _ _ _ h
  rw [show getV [128, 0] = 0 from by decide, show getN [128, 0] = 0 from by decide, show getB [128, 0] = false from by decide] at this
  exact this
theorem key_wake (w : World) : Calls Try.prog 17 #[.agg #[.int .u8 1, .int .u8 2, .int .u8 3, .int .u8 4]] w fun e w' => e = .returned (.int .u32 16909060) ∧ Below w.heap.size w w' := by
  have h := key_any 1 2 3 4 w (by unfold U8; decide) (by unfold U8; decide) (by unfold U8; decide) (by unfold U8; decide)
  rw [show key 1 2 3 4 = 16909060 from by decide] at h
  exact h
theorem at_wake (w : World) : Calls Try.prog 19 #[.int .u32 7] w fun e w' => e = .returned (.agg #[.int .u8 0, .int .u8 0, .int .u8 0, .int .u8 7]) ∧ Below w.heap.size w w' := by
  have h := at_any 7 w (by unfold U32; decide)
  rw [show b1 7 = 0 from by decide, show b2 7 = 0 from by decide, show b3 7 = 0 from by decide, show b4 7 = 7 from by decide] at h
  exact h
theorem zig_wake (w : World) : Calls Try.prog 13 #[.int .i64 (-1)] w fun e w' => e = .returned (.int .u64 1) ∧ w' = w := by
  have h := zig_any (-1) w (by unfold I64; decide)
  rw [show zig (-1) = 1 from by decide] at h
  exact h
theorem zag_wake (w : World) : Calls Try.prog 15 #[.int .u64 2] w fun e w' => e = .returned (.int .i64 1) ∧ w' = w := by
  have h := zag_any 2 w (by unfold U64; decide)
  rw [show zag 2 = 1 from by decide] at h
  exact h
theorem flip_wake (w : World) : Calls Try.prog 9 #[.int .i64 0] w fun e w' => e = .returned (.int .u64 9223372036854775808) ∧ w' = w := by
  have h := flip_any 0 w (by unfold I64; decide)
  rw [show flip 0 = 9223372036854775808 from by decide] at h
  exact h

set_option maxHeartbeats 1000000 in
theorem wakes_any (w : World) :
    Calls Try.prog 21 #[] w fun e w' => e = .returned (.bool true) ∧ Below w.heap.size w w' := by
  have t1 : True := trivial
  have eqC := eq25_same 0 0 0 7
  go_enter Try.func21, Try.ntmps21
  go_wp2_with (first
    | (go_at_call 22; refine (put_wake _).mono ?_; rintro e w1 ⟨⟨g, rfl, hg, hc⟩, hb1⟩; have acc := Below.refl w1.heap.size w1)
    | (go_at_call 23; clear t1; refine (get_wake1 _ _ (by simp) (by simp [go_sem]) (by simp [go_sem]) (by simp [go_sem])).mono ?_; rintro e w' ⟨rfl, rfl⟩)
    | (go_at_call 23; refine (get_wake2 _ _ (by simp) (by simp [go_sem]) (by simp [go_sem])).mono ?_; rintro e w' ⟨rfl, rfl⟩)
    | (go_at_call 17; refine (key_wake _).mono ?_; rintro e w2 ⟨rfl, hb2⟩; replace acc := (((acc.alloc (Nat.le_refl _) _).alloc (by simp) _).trans (hb2.mono (by simp; omega))))
    | (go_at_call 19; refine (at_wake _).mono ?_; rintro e w3 ⟨rfl, hb3⟩; replace acc := acc.trans (hb3.mono acc.size); have hc' := (acc.cell (p := ⟨g, 1, none⟩) hg).trans hc)
    | (go_at_call 13; refine (zig_wake _).mono ?_; rintro e w' ⟨rfl, rfl⟩)
    | (go_at_call 15; refine (zag_wake _).mono ?_; rintro e w' ⟨rfl, rfl⟩)
    | (go_at_call 9; refine (flip_wake _).mono ?_; rintro e w' ⟨rfl, rfl⟩))
  go_ret
  exact ⟨rfl, bt hb1 acc⟩

end Go.Proofs.Yteilfoefjemjoaa

/-
  Each number comes back out of the number, the bytes that it is written as: the walk of the law CodeBack.
  Conditions: as each theorem states them.
-/
import Derived.Test.YteilfoefjemjoaaJ
import Derived.Test.YteilfoefjemjoaaS
namespace Go.Proofs.Yteilfoefjemjoaa
open Go.RowKit
set_option linter.unusedVariables false
set_option linter.unusedSimpArgs false

theorem start7p (w : World) (v u k a b c d : Int) : w.heap.size < (w.alloc (.cells #[.int .i64 v, .int .u64 u, .int .u32 k, .int .u8 a, .int .u8 b, .int .u8 c, .int .u8 d] 27)).heap.size ∧ Below w.heap.size w (w.alloc (.cells #[.int .i64 v, .int .u64 u, .int .u32 k, .int .u8 a, .int .u8 b, .int .u8 c, .int .u8 d] 27)) ∧ (w.alloc (.cells #[.int .i64 v, .int .u64 u, .int .u32 k, .int .u8 a, .int .u8 b, .int .u8 c, .int .u8 d] 27)).cell? ⟨w.heap.size, 0, none⟩ = some (.int .i64 v) ∧ (w.alloc (.cells #[.int .i64 v, .int .u64 u, .int .u32 k, .int .u8 a, .int .u8 b, .int .u8 c, .int .u8 d] 27)).cell? ⟨w.heap.size, 1, none⟩ = some (.int .u64 u) ∧ (w.alloc (.cells #[.int .i64 v, .int .u64 u, .int .u32 k, .int .u8 a, .int .u8 b, .int .u8 c, .int .u8 d] 27)).cell? ⟨w.heap.size, 2, none⟩ = some (.int .u32 k) ∧ (w.alloc (.cells #[.int .i64 v, .int .u64 u, .int .u32 k, .int .u8 a, .int .u8 b, .int .u8 c, .int .u8 d] 27)).cell? ⟨w.heap.size, 3, none⟩ = some (.int .u8 a) ∧ (w.alloc (.cells #[.int .i64 v, .int .u64 u, .int .u32 k, .int .u8 a, .int .u8 b, .int .u8 c, .int .u8 d] 27)).cell? ⟨w.heap.size, 4, none⟩ = some (.int .u8 b) ∧ (w.alloc (.cells #[.int .i64 v, .int .u64 u, .int .u32 k, .int .u8 a, .int .u8 b, .int .u8 c, .int .u8 d] 27)).cell? ⟨w.heap.size, 5, none⟩ = some (.int .u8 c) ∧ (w.alloc (.cells #[.int .i64 v, .int .u64 u, .int .u32 k, .int .u8 a, .int .u8 b, .int .u8 c, .int .u8 d] 27)).cell? ⟨w.heap.size, 6, none⟩ = some (.int .u8 d) := by
  refine ⟨by simp, (Below.refl _ _).alloc (Nat.le_refl _) _, ?_, ?_, ?_, ?_, ?_, ?_, ?_⟩ <;> simp [go_sem]
theorem drew7 {w W : World} {v u k a b c d : Int} (h : w.heap.size < W.heap.size ∧ Below w.heap.size w W ∧ W.cell? ⟨w.heap.size, 0, none⟩ = some (.int .i64 v) ∧ W.cell? ⟨w.heap.size, 1, none⟩ = some (.int .u64 u) ∧ W.cell? ⟨w.heap.size, 2, none⟩ = some (.int .u32 k) ∧ W.cell? ⟨w.heap.size, 3, none⟩ = some (.int .u8 a) ∧ W.cell? ⟨w.heap.size, 4, none⟩ = some (.int .u8 b) ∧ W.cell? ⟨w.heap.size, 5, none⟩ = some (.int .u8 c) ∧ W.cell? ⟨w.heap.size, 6, none⟩ = some (.int .u8 d)) : w.heap.size < W.drew.heap.size ∧ Below w.heap.size w W.drew ∧ W.drew.cell? ⟨w.heap.size, 0, none⟩ = some (.int .i64 v) ∧ W.drew.cell? ⟨w.heap.size, 1, none⟩ = some (.int .u64 u) ∧ W.drew.cell? ⟨w.heap.size, 2, none⟩ = some (.int .u32 k) ∧ W.drew.cell? ⟨w.heap.size, 3, none⟩ = some (.int .u8 a) ∧ W.drew.cell? ⟨w.heap.size, 4, none⟩ = some (.int .u8 b) ∧ W.drew.cell? ⟨w.heap.size, 5, none⟩ = some (.int .u8 c) ∧ W.drew.cell? ⟨w.heap.size, 6, none⟩ = some (.int .u8 d) := by
  obtain ⟨h0, h1, h2, h3, h4, h5, h6, h7, h8⟩ := h
  exact ⟨h0, h1.drew, h2, h3, h4, h5, h6, h7, h8⟩

set_option maxHeartbeats 4000000 in
theorem back_walk (v u k a b c d : Int) (w : World) (hv : I64 v) (hu : U64 u) (hk : U32 k) (ha : U8 a) (hb : U8 b) (hc : U8 c) (hd : U8 d) :
    Calls Try.prog 5 #[.agg #[.int .i64 v, .int .u64 u, .int .u32 k, .int .u8 a, .int .u8 b, .int .u8 c, .int .u8 d]] w fun e w' => e = .returned (.bool true) ∧ Below w.heap.size w w' := by
  have eqC := eq25_same a b c d
  have f1 := back_flip v
  have f2 := flip_back u
  have f3 := zag_zig v
  have f4 := zig_zag hu
  have f5 := key_at k
  obtain ⟨f6, f7, f8, f9⟩ := at_key ha hb hc hd
  obtain ⟨m1, m2, m3, m4⟩ := u8_at hk
  have m5 := u32_key ha hb hc hd
  have m6 := i64_back hu
  have m7 := u64_flip hv
  have m8 := u64_zig hv
  have m9 := i64_zag hu
  go_enter Try.func5, Try.ntmps5
  go_wp2_with (first
    | (go_at_call 22; refine (put_nil _ _ (by assumption)).mono ?_; rintro e w1 ⟨⟨g, rfl, hg0, hg, hl⟩, hb1⟩; have inv := keep7 hb1 (start7p w v u k a b c d); obtain ⟨n0, n1, n2, n3, n4, n5, n6, n7, n8⟩ := inv)
    | (go_at_call 23; refine (get_back _ _ _ (by assumption) (by assumption) (by assumption)).mono ?_; rintro e w' ⟨rfl, rfl⟩))
  simp only [List.append_eq, List.cons_append, List.nil_append]
  go_region_held3 (fun w' => w.heap.size < w'.heap.size ∧ Below w.heap.size w w' ∧ w'.cell? ⟨w.heap.size, 0, none⟩ = some (.int .i64 v) ∧ w'.cell? ⟨w.heap.size, 1, none⟩ = some (.int .u64 u) ∧ w'.cell? ⟨w.heap.size, 2, none⟩ = some (.int .u32 k) ∧ w'.cell? ⟨w.heap.size, 3, none⟩ = some (.int .u8 a) ∧ w'.cell? ⟨w.heap.size, 4, none⟩ = some (.int .u8 b) ∧ w'.cell? ⟨w.heap.size, 5, none⟩ = some (.int .u8 c) ∧ w'.cell? ⟨w.heap.size, 6, none⟩ = some (.int .u8 d))
    (first | exact drew7 ⟨by assumption, by assumption, by assumption, by assumption, by assumption, by assumption, by assumption, by assumption, by assumption⟩ | exact keep7 (by assumption) (by assumption))
    (first
      | (go_at_call 9; refine (flip_any _ _ (by assumption)).mono ?_; rintro e w1 ⟨rfl, rfl⟩)
      | (go_at_call 11; refine (back_any _ _ (by assumption)).mono ?_; rintro e w1 ⟨rfl, rfl⟩)
      | (go_at_call 13; refine (zig_any _ _ (by assumption)).mono ?_; rintro e w1 ⟨rfl, rfl⟩)
      | (go_at_call 15; refine (zag_any _ _ (by assumption)).mono ?_; rintro e w1 ⟨rfl, rfl⟩)
      | (go_at_call 17; refine (key_any _ _ _ _ _ (by assumption) (by assumption) (by assumption) (by assumption)).mono ?_; rintro e w1 ⟨rfl, hb1⟩)
      | (go_at_call 19; refine (at_any _ _ (by assumption)).mono ?_; rintro e w1 ⟨rfl, hb1⟩)
      | (go_at_call 21; refine (wakes_any _).mono ?_; rintro e w1 ⟨rfl, hb1⟩))
  go_wp2
  go_ret
  exact ⟨rfl, fin7 (by assumption)⟩

end Go.Proofs.Yteilfoefjemjoaa

/-
  Numbers and places as numbers that can be held against each other, and back: the walk of the law CodeTells.
  Conditions: as each theorem states them.
-/
import Derived.Test.YteilfoefjemjoaaI
import Derived.Deep.RegionHeld3
namespace Go.Proofs.Yteilfoefjemjoaa
open Go.RowKit
set_option linter.unusedVariables false
set_option linter.unusedSimpArgs false

theorem start7 (w : World) (v u k a b c d : Int) : w.heap.size < ((w.alloc (.cells #[.int .i64 v, .int .u64 u, .int .u32 k, .int .u8 a, .int .u8 b, .int .u8 c, .int .u8 d] 27)).drew).heap.size ∧ Below w.heap.size w ((w.alloc (.cells #[.int .i64 v, .int .u64 u, .int .u32 k, .int .u8 a, .int .u8 b, .int .u8 c, .int .u8 d] 27)).drew) ∧ ((w.alloc (.cells #[.int .i64 v, .int .u64 u, .int .u32 k, .int .u8 a, .int .u8 b, .int .u8 c, .int .u8 d] 27)).drew).cell? ⟨w.heap.size, 0, none⟩ = some (.int .i64 v) ∧ ((w.alloc (.cells #[.int .i64 v, .int .u64 u, .int .u32 k, .int .u8 a, .int .u8 b, .int .u8 c, .int .u8 d] 27)).drew).cell? ⟨w.heap.size, 1, none⟩ = some (.int .u64 u) ∧ ((w.alloc (.cells #[.int .i64 v, .int .u64 u, .int .u32 k, .int .u8 a, .int .u8 b, .int .u8 c, .int .u8 d] 27)).drew).cell? ⟨w.heap.size, 2, none⟩ = some (.int .u32 k) ∧ ((w.alloc (.cells #[.int .i64 v, .int .u64 u, .int .u32 k, .int .u8 a, .int .u8 b, .int .u8 c, .int .u8 d] 27)).drew).cell? ⟨w.heap.size, 3, none⟩ = some (.int .u8 a) ∧ ((w.alloc (.cells #[.int .i64 v, .int .u64 u, .int .u32 k, .int .u8 a, .int .u8 b, .int .u8 c, .int .u8 d] 27)).drew).cell? ⟨w.heap.size, 4, none⟩ = some (.int .u8 b) ∧ ((w.alloc (.cells #[.int .i64 v, .int .u64 u, .int .u32 k, .int .u8 a, .int .u8 b, .int .u8 c, .int .u8 d] 27)).drew).cell? ⟨w.heap.size, 5, none⟩ = some (.int .u8 c) ∧ ((w.alloc (.cells #[.int .i64 v, .int .u64 u, .int .u32 k, .int .u8 a, .int .u8 b, .int .u8 c, .int .u8 d] 27)).drew).cell? ⟨w.heap.size, 6, none⟩ = some (.int .u8 d) := by
  refine ⟨by simp, ((Below.refl _ _).alloc (Nat.le_refl _) _).drew, ?_, ?_, ?_, ?_, ?_, ?_, ?_⟩ <;> simp [go_sem]
theorem keep7 {w W w' : World} {v u k a b c d : Int} (hb : Below W.heap.size W w') (h : w.heap.size < W.heap.size ∧ Below w.heap.size w W ∧ W.cell? ⟨w.heap.size, 0, none⟩ = some (.int .i64 v) ∧ W.cell? ⟨w.heap.size, 1, none⟩ = some (.int .u64 u) ∧ W.cell? ⟨w.heap.size, 2, none⟩ = some (.int .u32 k) ∧ W.cell? ⟨w.heap.size, 3, none⟩ = some (.int .u8 a) ∧ W.cell? ⟨w.heap.size, 4, none⟩ = some (.int .u8 b) ∧ W.cell? ⟨w.heap.size, 5, none⟩ = some (.int .u8 c) ∧ W.cell? ⟨w.heap.size, 6, none⟩ = some (.int .u8 d)) : w.heap.size < w'.heap.size ∧ Below w.heap.size w w' ∧ w'.cell? ⟨w.heap.size, 0, none⟩ = some (.int .i64 v) ∧ w'.cell? ⟨w.heap.size, 1, none⟩ = some (.int .u64 u) ∧ w'.cell? ⟨w.heap.size, 2, none⟩ = some (.int .u32 k) ∧ w'.cell? ⟨w.heap.size, 3, none⟩ = some (.int .u8 a) ∧ w'.cell? ⟨w.heap.size, 4, none⟩ = some (.int .u8 b) ∧ w'.cell? ⟨w.heap.size, 5, none⟩ = some (.int .u8 c) ∧ w'.cell? ⟨w.heap.size, 6, none⟩ = some (.int .u8 d) := by
  obtain ⟨h0, h1, h2, h3, h4, h5, h6, h7, h8⟩ := h
  obtain ⟨hc, hf⟩ := bcell hb
  exact ⟨Nat.lt_of_lt_of_le h0 hb.size, bt h1 hb, (hc _ _ h0).trans h2, (hc _ _ h0).trans h3, (hc _ _ h0).trans h4, (hc _ _ h0).trans h5, (hc _ _ h0).trans h6, (hc _ _ h0).trans h7, (hc _ _ h0).trans h8⟩
theorem fin7 {w w' : World} {v u k a b c d : Int} (h : w.heap.size < w'.heap.size ∧ Below w.heap.size w w' ∧ w'.cell? ⟨w.heap.size, 0, none⟩ = some (.int .i64 v) ∧ w'.cell? ⟨w.heap.size, 1, none⟩ = some (.int .u64 u) ∧ w'.cell? ⟨w.heap.size, 2, none⟩ = some (.int .u32 k) ∧ w'.cell? ⟨w.heap.size, 3, none⟩ = some (.int .u8 a) ∧ w'.cell? ⟨w.heap.size, 4, none⟩ = some (.int .u8 b) ∧ w'.cell? ⟨w.heap.size, 5, none⟩ = some (.int .u8 c) ∧ w'.cell? ⟨w.heap.size, 6, none⟩ = some (.int .u8 d)) : Below w.heap.size w w' := h.2.1

set_option maxHeartbeats 4000000 in
theorem tells_walk (v u k a b c d : Int) (w : World) (hv : I64 v) (hu : U64 u) (hk : U32 k) (ha : U8 a) (hb : U8 b) (hc : U8 c) (hd : U8 d) :
    Calls Try.prog 3 #[.agg #[.int .i64 v, .int .u64 u, .int .u32 k, .int .u8 a, .int .u8 b, .int .u8 c, .int .u8 d]] w fun e w' => e = .returned (.bool true) ∧ Below w.heap.size w w' := by
  have eqC := eq25_same (b1 k) (b2 k) (b3 k) (b4 k)
  go_enter Try.func3, Try.ntmps3
  go_wp2
  go_region_held3 (fun w' => w.heap.size < w'.heap.size ∧ Below w.heap.size w w' ∧ w'.cell? ⟨w.heap.size, 0, none⟩ = some (.int .i64 v) ∧ w'.cell? ⟨w.heap.size, 1, none⟩ = some (.int .u64 u) ∧ w'.cell? ⟨w.heap.size, 2, none⟩ = some (.int .u32 k) ∧ w'.cell? ⟨w.heap.size, 3, none⟩ = some (.int .u8 a) ∧ w'.cell? ⟨w.heap.size, 4, none⟩ = some (.int .u8 b) ∧ w'.cell? ⟨w.heap.size, 5, none⟩ = some (.int .u8 c) ∧ w'.cell? ⟨w.heap.size, 6, none⟩ = some (.int .u8 d))
    (first | exact start7 w v u k a b c d | exact keep7 (by assumption) (by assumption))
    (first
      | (go_at_call 9; refine (flip_any _ _ hv).mono ?_; rintro e w1 ⟨rfl, rfl⟩)
      | (go_at_call 10; refine (rflip_any _ _ hv).mono ?_; rintro e w1 ⟨rfl, rfl⟩)
      | (go_at_call 11; refine (back_any _ _ hu).mono ?_; rintro e w1 ⟨rfl, rfl⟩)
      | (go_at_call 12; refine (rback_any _ _ hu).mono ?_; rintro e w1 ⟨rfl, rfl⟩)
      | (go_at_call 13; refine (zig_any _ _ hv).mono ?_; rintro e w1 ⟨rfl, rfl⟩)
      | (go_at_call 14; refine (rzig_any _ _ hv).mono ?_; rintro e w1 ⟨rfl, rfl⟩)
      | (go_at_call 15; refine (zag_any _ _ hu).mono ?_; rintro e w1 ⟨rfl, rfl⟩)
      | (go_at_call 16; refine (rzag_any _ _ hu).mono ?_; rintro e w1 ⟨rfl, rfl⟩)
      | (go_at_call 17; refine (key_any _ _ _ _ _ ha hb hc hd).mono ?_; rintro e w1 ⟨rfl, hb1⟩)
      | (go_at_call 18; refine (rkey_any _ _ _ _ _ ha hb hc hd).mono ?_; rintro e w1 ⟨rfl, hb1⟩)
      | (go_at_call 19; refine (at_any _ _ hk).mono ?_; rintro e w1 ⟨rfl, hb1⟩)
      | (go_at_call 20; refine (rat_any _ _ hk).mono ?_; rintro e w1 ⟨rfl, hb1⟩)
      | (go_at_call 21; refine (wakes_any _).mono ?_; rintro e w1 ⟨rfl, hb1⟩))
  go_wp2
  go_ret
  exact ⟨rfl, fin7 (by assumption)⟩

end Go.Proofs.Yteilfoefjemjoaa

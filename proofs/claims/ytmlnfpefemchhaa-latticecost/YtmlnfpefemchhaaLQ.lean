/-
  All of any catalog, as a slice; how many there are.
  Conditions: as each theorem states them.
-/
import Derived.Test.YtmlnfpefemchhaaLO
namespace Go.Proofs.Ytmlnfpefemchhaa
open Go.ChangeShapes Go.WideShapes Go.ChangeAt Go.RowKit
set_option linter.unusedVariables false
set_option linter.unusedSimpArgs false

set_option maxHeartbeats 4000000 in
theorem all_bad (a : Option Addr) (n c : Nat) (ds : Dims) (M : Int) (w : World) (hc : Cat w a n c ds) (hM : I64 M) (hg : goodC ds M = false) :
    Calls Try.prog 36 #[.agg #[.slice a n c, .int .i64 M]] w fun e w' => e = .returned (.slice none 0 0) ∧ Below w.heap.size w w' := by
  have HC : Hid (Cat w a n c ds) := hc
  have HM : Hid (I64 M) := hM
  have bx : Below w.heap.size w (w.alloc (.cells #[.slice a n c, .int .i64 M] 25)) := (Below.refl _ _).alloc (Nat.le_refl _) _
  clear hc hM
  go_enter Try.func36, Try.ntmps36
  go_wp2_with (go_at_call 52; refine (top_any _ _ _ _ _ _ (HC.out.below bx) HM.out).mono ?_; rintro e w1 ⟨rfl, hb⟩)
  go_ret
  exact ⟨rfl, (bx.trans (hb.mono (by simp))).alloc (by have := hb.size; simp at this; omega) _⟩
theorem all_row (a : Option Addr) (n c : Nat) (ds : Dims) (M : Int) (w : World) (hc : Cat w a n c ds) (hM : I64 M) :
    Calls Try.prog 36 #[.agg #[.slice a n c, .int .i64 M]] w fun e w' => (∃ a' n' c', e = .returned (.slice a' n' c') ∧ NRow w' a' n' c' (allL ds M)) ∧ Below w.heap.size w w' := by
  cases hg : goodC ds M with
  | false =>
    refine (all_bad a n c ds M w hc hM hg).mono ?_
    rintro e w' ⟨rfl, hb⟩
    refine ⟨⟨_, _, _, rfl, ?_⟩, hb⟩
    unfold allL; rw [hg]; exact nrow_nil _
  | true =>
    refine (all_any a n c ds M w hc hM (tN ds 0) (tN ds 1) (tN ds 2) (tN ds 3) hg (tN_tp hg 0) (tN_tp hg 1) (tN_tp hg 2) (tN_tp hg 3)).mono ?_
    rintro e w' ⟨⟨v, rfl, ho⟩, hb⟩
    obtain ⟨a', c', rfl, hr⟩ := nrow_own ho
    refine ⟨⟨_, _, _, rfl, ?_⟩, hb⟩
    unfold allL; rw [if_pos hg]; exact hr
theorem cnt_len (ds : Dims) (M : Int) : cnt ds M = ((allL ds M).length : Int) := by
  unfold cnt allL
  cases hg : goodC ds M with
  | false => rfl
  | true =>
    rw [if_pos rfl, if_pos rfl, allN_len, tN_tp hg 0, tN_tp hg 1, tN_tp hg 2, tN_tp hg 3]
    simp only [Int.natCast_mul, Int.natCast_add]
    rw [Int.mul_assoc, Int.mul_assoc, ← Int.mul_assoc ((tN ds 1 : Int) + 1)]
    simp [Int.mul_assoc]
theorem covers_row (a : Option Addr) (n c : Nat) (ds : Dims) (M v0 v1 v2 v3 : Int) (w : World) (hc : Cat w a n c ds) (hM : I64 M) (hV : ∀ x ∈ [v0, v1, v2, v3], U8 x) :
    Calls Try.prog 31 #[.agg #[.slice a n c, .int .i64 M], .agg #[.int .u8 v0, .int .u8 v1, .int .u8 v2, .int .u8 v3]] w fun e w' => (∃ a' n' c', e = .returned (.slice a' n' c') ∧ NRow w' a' n' c' (covL ds M v0 v1 v2 v3)) ∧ Below w.heap.size w w' := by
  refine (covers_any a n c ds M v0 v1 v2 v3 w hc hM hV).mono ?_
  rintro e w' ⟨⟨v, rfl, ho⟩, hb⟩
  obtain ⟨a', c', rfl, hr⟩ := nrow_own ho
  exact ⟨⟨_, _, _, rfl, hr⟩, hb⟩
theorem rcovers_row (a : Option Addr) (n c : Nat) (ds : Dims) (M v0 v1 v2 v3 : Int) (w : World) (hc : Cat w a n c ds) (hM : I64 M) (hV : ∀ x ∈ [v0, v1, v2, v3], U8 x) :
    Calls Try.prog 32 #[.agg #[.slice a n c, .int .i64 M], .agg #[.int .u8 v0, .int .u8 v1, .int .u8 v2, .int .u8 v3]] w fun e w' => (∃ a' n' c', e = .returned (.slice a' n' c') ∧ NRow w' a' n' c' (covL ds M v0 v1 v2 v3)) ∧ Below w.heap.size w w' := by
  refine (rcovers_any a n c ds M v0 v1 v2 v3 w hc hM hV).mono ?_
  rintro e w' ⟨⟨v, rfl, ho⟩, hb⟩
  obtain ⟨a', c', rfl, hr⟩ := nrow_own ho
  exact ⟨⟨_, _, _, rfl, hr⟩, hb⟩

end Go.Proofs.Ytmlnfpefemchhaa

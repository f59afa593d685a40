/-
  The chapter's examples: what the law's own wakes returns.
  Conditions: as each theorem states them.
-/
import Derived.Test.YtmlnfpefemchhaaST
import Derived.Deep.Cut
import Derived.Deep.DeepCutAuto
import Derived.Deep.CutRange
namespace Go.Proofs.Ytmlnfpefemchhaa
open Go.ChangeShapes Go.WideShapes Go.ChangeAt Go.RowKit
set_option linter.unusedVariables false
set_option linter.unusedSimpArgs false

theorem row8_5n (w : World) (N : Nat) (hN : w.heap.size = N) : code.Row8 (w.alloc (.cells #[.int .u8 1, .int .u8 1, .int .u8 1, .int .u8 3, .int .u8 0] 5)) (some ⟨N, 0, none⟩) 5 5 [1, 1, 1, 3, 0] := by subst hN; exact row8_5 w
set_option maxHeartbeats 400000 in
set_option maxRecDepth 100000 in
theorem wakes_any (w : World) : Calls Try.prog 10 #[] w fun e w' => e = .returned (.bool true) ∧ Below w.heap.size w w' := by
  have X0 : Hid (B0 w (((w.alloc (.cells #[.int .i64 3] 3)).alloc (.cells #[.slice (some ⟨w.heap.size, 0, none⟩) 1 1, .slice none 0 0] 59)).alloc (.cells #[.slice (some ⟨w.heap.size + 1, 0, none⟩) 1 1, .int .i64 1] 25))) := b0_new w
  have t1 : True := trivial
  have t2 : True := trivial
  go_enter Try.func10, Try.ntmps10
  go_wp2_with (first
    | (go_at_call 41; refine (sbytes_any _ _ _ D0 1 _ X0.out.2.2.2.2 i64_1).mono ?_; rintro e w1 ⟨⟨ab, nb, cb, rfl, hrb⟩, hb1⟩; rw [bytes_D0] at hrb; have HRB : Hid (code.Row8 w1 ab nb cb [1, 1, 1, 3]) := hrb; have X1 : Hid (B0 w w1) := X0.out.step hb1; clear hrb)
    | (go_at_call 12; clear t1; refine (read_m _ _ _ _ D0 1 true _ (row8_4 w1) rd0).mono ?_; rintro e w2 ⟨⟨a2, n2, c2, rfl, hc2⟩, hb2⟩; have HB2 : Hid (Below w1.heap.size w1 w2) := bt1 (Below.refl _ _) (Nat.le_refl _) hb2; have X2 : Hid (B0 w w2) := X1.out.step HB2.out; have HC2 : Hid (Cat w2 a2 n2 c2 D0) := hc2; have Y2 : Hid (Bx w2 (w2.alloc (.cells #[.slice a2 n2 c2, .int .i64 1] 25)) (.slice a2 n2 c2) (.int .i64 1)) := bx_new _ _ _ _; clear hc2)
    | (go_at_call 12; refine (read_m _ _ _ _ [] 0 false _ (row8_5n (w2.alloc (.cells #[.slice a2 n2 c2, .int .i64 1] 25)) (w2.heap.size + 1) (by simp)) rd1).mono ?_; rintro e w3 ⟨⟨a3, n3, c3, rfl, hc3⟩, hb3⟩; have HB3 : Hid (Below (w2.alloc (.cells #[.slice a2 n2 c2, .int .i64 1] 25)).heap.size (w2.alloc (.cells #[.slice a2 n2 c2, .int .i64 1] 25)) (w3.alloc (.cells #[.slice a3 n3 c3, .int .i64 0] 25))) := (bt1 (Below.refl _ _) (Nat.le_refl _) hb3).alloc (by have := hb3.size; simp at this ⊢; omega) _; have Y3 : Hid (Bx w2 (w3.alloc (.cells #[.slice a3 n3 c3, .int .i64 0] 25)) (.slice a2 n2 c2) (.int .i64 1)) := Y2.out.step HB3.out; have X3 : Hid (B0 w (w3.alloc (.cells #[.slice a3 n3 c3, .int .i64 0] 25))) := X2.out.step (bt Y2.out.2.1 HB3.out); have HB13 : Hid (Below w1.heap.size w1 (w3.alloc (.cells #[.slice a3 n3 c3, .int .i64 0] 25))) := bt HB2.out (bt Y2.out.2.1 HB3.out); obtain ⟨_, _, x0, x1, _⟩ := X3.out)
    | (go_at_call 42; refine (good_m _ _ _ D0 1 true _ X3.out.2.2.2.2 i64_1 good_D0).mono ?_; rintro e w4 ⟨rfl, hb4⟩; have X4 : Hid (B0 w w4) := X3.out.step hb4; have Y4 : Hid (Bx w2 w4 (.slice a2 n2 c2) (.int .i64 1)) := Y3.out.step hb4; obtain ⟨_, _, x2, x3, _⟩ := X4.out; obtain ⟨_, _, y2, y3⟩ := Y4.out; have cv := conv8 (HRB.out.below (bt HB13.out hb4)); rw [txt_D0] at cv)
    | (go_at_call 43; refine (ssame_m _ _ _ _ _ _ D0 D0 1 1 true _ X4.out.2.2.2.2 (HC2.out.below Y4.out.2.1) same0).mono ?_; rintro e w5 ⟨rfl, hb5⟩; have X5 : Hid (B0 w w5) := X4.out.step hb5; obtain ⟨_, _, x4, x5, _⟩ := X5.out)
    | (go_at_call 44; refine (levels_m _ _ _ D0 1 0 2 _ X5.out.2.2.2.2 i64_1 i64_0 lev0).mono ?_; rintro e w6 ⟨rfl, hb6⟩; have X6 : Hid (B0 w w6) := X5.out.step hb6; obtain ⟨_, _, x6, x7, _⟩ := X6.out)
    | (go_at_call 45; clear t2; refine (right_m _ _ _ D0 1 1 0 0 0 0 0 0 0 true _ X6.out.2.2.2.2 i64_1 u8_1000 u8_0000 right0).mono ?_; rintro e w7 ⟨rfl, hb7⟩; have X7 : Hid (B0 w w7) := X6.out.step hb7; obtain ⟨_, _, x8, x9, _⟩ := X7.out)
    | (go_at_call 45; refine (right_m _ _ _ D0 1 0 0 0 0 3 0 0 0 false _ X7.out.2.2.2.2 i64_1 u8_0000 u8_3000 right1).mono ?_; rintro e w8 ⟨rfl, hb8⟩))
  go_ret
  exact ⟨rfl, bt X7.out.2.1 hb8⟩

end Go.Proofs.Ytmlnfpefemchhaa

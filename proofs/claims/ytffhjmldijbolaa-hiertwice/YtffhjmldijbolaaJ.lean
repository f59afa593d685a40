/-
  The chapter's examples: what the law's own wakes returns.
  Conditions: none.
-/
import Derived.Test.YtffhjmldijbolaaI
namespace Go.Proofs.Ytffhjmldijbolaa
open Go.ChangeShapes Go.WideShapes Go.ChangeAt Go.RowKit
set_option linter.unusedVariables false
set_option linter.unusedSimpArgs false

set_option maxHeartbeats 4000000 in
theorem wakes_any (w : World) :
    Calls Try.prog 9 #[] w fun e w' => e = .returned (.bool true) ∧ Below w.heap.size w w' := by
  go_enter Try.func9, Try.ntmps9
  have tok : True := trivial
  go_wp2_with (first
    | (go_at_call 20; refine (some_any _).mono ?_; rintro e w1 ⟨⟨sa, ua, rfl, hd⟩, hb1⟩; have HD : Hid (Dim w1 sa 2 2 ua 1 1 S0 U0) := hd; clear hd; have BX : Hid (Bx w1 (w1.alloc (.cells #[.slice sa 2 2, .slice ua 1 1] 25)) (.slice sa 2 2) (.slice ua 1 1)) := bx_new _ _ _ _)
    | (go_at_call 15; refine (lift0 _ _ _ (HD.out.below BX.out.2.1)).mono ?_; rintro e w2 ⟨rfl, hb2⟩; have BX2 : Hid (Bx w1 w2 (.slice sa 2 2) (.slice ua 1 1)) := BX.out.step hb2; have c2 := BX2.out.2.2.1; have c3 := BX2.out.2.2.2)
    | (go_at_call 16; refine (under0 _ _ _ (HD.out.below BX2.out.2.1)).mono ?_; rintro e w3 ⟨⟨b3, off3, cap3, rfl, hb3, d0, d1⟩, hbb3⟩; have BX3 : Hid (Bx w1 w3 (.slice sa 2 2) (.slice ua 1 1)) := BX2.out.step hbb3; have c4 := BX3.out.2.2.1; have c5 := BX3.out.2.2.2)
    | (go_at_call 17; refine (kids0 _ _ _ (HD.out.below BX3.out.2.1)).mono ?_; rintro e w4 ⟨⟨b4, off4, cap4, rfl, hb4, d2, d3⟩, hbb4⟩; have BX4 : Hid (Bx w1 w4 (.slice sa 2 2) (.slice ua 1 1)) := BX3.out.step hbb4; have c6 := BX4.out.2.2.1; have c7 := BX4.out.2.2.2)
    | (go_at_call 18; clear tok; refine (good0 _ _ _ (HD.out.below BX4.out.2.1)).mono ?_; rintro e w5 ⟨rfl, hb5⟩; have BX5 : Hid (Bx w1 w5 (.slice sa 2 2) (.slice ua 1 1)) := BX4.out.step hb5; have c8 := BX5.out.2.2.1; have c9 := BX5.out.2.2.2; have q0 := ((bcell (bt hbb4 hb5)).1 _ _ hb3).trans d0; have q1 := ((bcell (bt hbb4 hb5)).1 _ _ hb3).trans d1; have q3 := ((bcell hb5).1 _ _ hb4).trans d3)
    | (go_at_call 19; refine (size0 _ _ _ (HD.out.below BX5.out.2.1)).mono ?_; rintro e w6 ⟨rfl, hb6⟩)
    | (go_at_call 18; refine (goodN _).mono ?_; rintro e w7 ⟨rfl, hb7⟩))
  go_ret
  exact ⟨rfl, bt (bt (bt hb1 BX5.out.2.1) hb6) hb7⟩

end Go.Proofs.Ytffhjmldijbolaa

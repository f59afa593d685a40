/-
  A place with one member more, a node with one level more, or something beyond the dimensions in either: the walk of the law SchemaPlaces.
  Conditions: as each theorem states them.
-/
import Derived.Test.YtcccfaeclefcoaaTC0
import Derived.Test.YtcccfaeclefcoaaTC1
import Derived.Test.YtcccfaeclefcoaaTC2
import Derived.Test.YtcccfaeclefcoaaTC3
namespace Go.Proofs.Ytcccfaeclefcoaa
open Go.ChangeShapes Go.WideShapes Go.ChangeAt Go.RowKit
set_option linter.unusedVariables false
set_option linter.unusedSimpArgs false

set_option maxHeartbeats 1000000 in
theorem places_none (a : Option Addr) (n c : Nat) (ds : Dims) (M : Int) (v0 v1 v2 v3 x0 x1 x2 x3 dim y : Int) (w : World) (hc : Cat w a n c ds) (hM : I64 M) (hV : ∀ x ∈ [v0, v1, v2, v3], U8 x) (hA : ∀ x ∈ [x0, x1, x2, x3], U8 x) (hR : rightC ds M [v0, v1, v2, v3] [x0, x1, x2, x3] = false) :
    Calls Try.prog 7 #[.agg #[.slice a n c, .int .i64 M, .int .u8 v0, .int .u8 v1, .int .u8 v2, .int .u8 v3, .int .u8 x0, .int .u8 x1, .int .u8 x2, .int .u8 x3], .int .u8 dim, .int .u8 y] w fun e w' => e = .returned (.bool true) ∧ Below w.heap.size w w' := by
  have HC : Hid (Cat w a n c ds) := hc
  have HM : Hid (I64 M) := hM
  have HV : Hid (∀ x ∈ [v0, v1, v2, v3], U8 x) := hV
  have HA : Hid (∀ x ∈ [x0, x1, x2, x3], U8 x) := hA
  have HR0 : Hid (rightC ds M [v0, v1, v2, v3] [x0, x1, x2, x3] = false) := hR
  have HB0 : Hid (Below w.heap.size w (w.alloc (.cells #[.slice a n c, .int .i64 M, .int .u8 v0, .int .u8 v1, .int .u8 v2, .int .u8 v3, .int .u8 x0, .int .u8 x1, .int .u8 x2, .int .u8 x3] 48))) := (Below.refl _ _).alloc (Nat.le_refl _) _
  clear hc hM hV hA hR
  go_enter Try.func7, Try.ntmps7
  go_wp2_with (first
    | (go_at_call 15; refine (rright_m _ _ _ ds M _ _ _ _ _ _ _ _ false _ (HC.out.below HB0.out) HM.out HV.out HA.out HR0.out).mono ?_; rintro e w1 ⟨rfl, hb1⟩)
    | (go_at_call 9; refine (wakes_any _).mono ?_; rintro e w9 ⟨rfl, hb9⟩))
  go_ret
  exact ⟨rfl, bt (bt HB0.out hb1) hb9⟩
theorem places_walk (a : Option Addr) (n c : Nat) (ds : Dims) (M : Int) (v0 v1 v2 v3 x0 x1 x2 x3 dim y : Int) (w : World) (hc : Cat w a n c ds) (hM : I64 M) (hV : ∀ x ∈ [v0, v1, v2, v3], U8 x) (hA : ∀ x ∈ [x0, x1, x2, x3], U8 x) (hd : U8 dim) (hy : U8 y) :
    Calls Try.prog 7 #[.agg #[.slice a n c, .int .i64 M, .int .u8 v0, .int .u8 v1, .int .u8 v2, .int .u8 v3, .int .u8 x0, .int .u8 x1, .int .u8 x2, .int .u8 x3], .int .u8 dim, .int .u8 y] w fun e w' => e = .returned (.bool true) ∧ Below w.heap.size w w' := by
  cases hR : rightC ds M [v0, v1, v2, v3] [x0, x1, x2, x3] with
  | false => exact places_none a n c ds M v0 v1 v2 v3 x0 x1 x2 x3 dim y w hc hM hV hA hR
  | true =>
    have hk : dim.tmod 4 = 0 ∨ dim.tmod 4 = 1 ∨ dim.tmod 4 = 2 ∨ dim.tmod 4 = 3 := by
      rw [Int.tmod_eq_emod_of_nonneg hd.1]; omega
    rcases hk with hk | hk | hk | hk
    · exact places_0 a n c ds M v0 v1 v2 v3 x0 x1 x2 x3 dim y w hc hM hV hA hd hy hR hk
    · exact places_1 a n c ds M v0 v1 v2 v3 x0 x1 x2 x3 dim y w hc hM hV hA hd hy hR hk
    · exact places_2 a n c ds M v0 v1 v2 v3 x0 x1 x2 x3 dim y w hc hM hV hA hd hy hR hk
    · exact places_3 a n c ds M v0 v1 v2 v3 x0 x1 x2 x3 dim y w hc hM hV hA hd hy hR hk

end Go.Proofs.Ytcccfaeclefcoaa

/-
  Of any catalog, any node, any place: the walk of the law SchemaTells.
  Conditions: as each theorem states them.
-/
import Derived.Test.YtcccfaeclefcoaaSV
import Derived.Test.YtcccfaeclefcoaaSG
import Derived.Test.YtcccfaeclefcoaaSK
import Derived.Test.YtcccfaeclefcoaaSD
import Derived.Deep.RegionHeld
import Derived.Deep.Cut
import Derived.Deep.DeepCutAuto
import Derived.Deep.CutRange
namespace Go.Proofs.Ytcccfaeclefcoaa
open Go.ChangeShapes Go.WideShapes Go.ChangeAt Go.RowKit
set_option linter.unusedVariables false
set_option linter.unusedSimpArgs false

theorem r3_cells {w wr : World} {s u : Value} {v0 v1 v2 v3 x0 x1 x2 x3 : Int} (h : R3 w wr s u [v0, v1, v2, v3] [x0, x1, x2, x3]) :
    wr.cell? ⟨w.heap.size, 0, none⟩ = some s ∧ wr.cell? ⟨w.heap.size, 1, none⟩ = some u ∧ wr.cell? ⟨w.heap.size + 1, 0, none⟩ = some (.int .u8 v0) ∧ wr.cell? ⟨w.heap.size + 1, 1, none⟩ = some (.int .u8 v1) ∧ wr.cell? ⟨w.heap.size + 1, 2, none⟩ = some (.int .u8 v2) ∧ wr.cell? ⟨w.heap.size + 1, 3, none⟩ = some (.int .u8 v3) ∧
      wr.cell? ⟨w.heap.size + 2, 0, none⟩ = some (.int .u8 x0) ∧ wr.cell? ⟨w.heap.size + 2, 1, none⟩ = some (.int .u8 x1) ∧ wr.cell? ⟨w.heap.size + 2, 2, none⟩ = some (.int .u8 x2) ∧ wr.cell? ⟨w.heap.size + 2, 3, none⟩ = some (.int .u8 x3) := by
  obtain ⟨h0, h1, h2, h3, h4, h5⟩ := h
  exact ⟨h2, h3, h4 0 (by decide), h4 1 (by decide), h4 2 (by decide), h4 3 (by decide), h5 0 (by decide), h5 1 (by decide), h5 2 (by decide), h5 3 (by decide)⟩
theorem keep_undrew {wr : World} {Q : World → Prop} {w' : World} (hb : Below wr.heap.size wr w') (K : Hid (∀ x, Below wr.heap.size wr x → Q x)) : Q w' := K.out _ hb

set_option maxHeartbeats 8000000 in
set_option maxRecDepth 100000 in
theorem tells_walk (a : Option Addr) (n c : Nat) (ds : Dims) (M : Int) (v0 v1 v2 v3 x0 x1 x2 x3 : Int) (w : World) (hc : Cat w a n c ds) (hM : I64 M) (hV : ∀ x ∈ [v0, v1, v2, v3], U8 x) (hA : ∀ x ∈ [x0, x1, x2, x3], U8 x) :
    Calls Try.prog 3 #[.agg #[.slice a n c, .int .i64 M], .agg #[.int .u8 v0, .int .u8 v1, .int .u8 v2, .int .u8 v3], .agg #[.int .u8 x0, .int .u8 x1, .int .u8 x2, .int .u8 x3]] w fun e w' => e = .returned (.bool true) ∧ Below w.heap.size w w' := by
  have HC : Hid (Cat w a n c ds) := hc
  have HM : Hid (I64 M) := hM
  have HV : Hid (∀ x ∈ [v0, v1, v2, v3], U8 x) := hV
  have HA : Hid (∀ x ∈ [x0, x1, x2, x3], U8 x) := hA
  have RX : Hid (R3 w (((w.alloc (.cells #[.slice a n c, .int .i64 M] 24)).alloc (.cells #[.int .u8 v0, .int .u8 v1, .int .u8 v2, .int .u8 v3] 26)).alloc (.cells #[.int .u8 x0, .int .u8 x1, .int .u8 x2, .int .u8 x3] 27)) (.slice a n c) (.int .i64 M) [v0, v1, v2, v3] [x0, x1, x2, x3]) := r3_new _ _ _ _ _ _ _ _ _ _ _ _ _ _
  clear hc hM hV hA
  go_enter Try.func3, Try.ntmps3
  go_upto_if 10 with (first
    | (go_at_call 8; refine (lightC_any _ _ _ ds M _ (HC.out.below RX.out.2.1)).mono ?_; rintro e w1 ⟨⟨v, rfl, _⟩, hb1⟩; have RX1 : Hid (R3 w w1 (.slice a n c) (.int .i64 M) [v0, v1, v2, v3] [x0, x1, x2, x3]) := RX.out.step hb1; clear hb1))
  cases v with
  | false =>
    go_wp2_with (go_at_call 9; refine (wakes_any _).mono ?_; rintro e w9 ⟨rfl, hb9⟩)
    go_ret
    exact ⟨rfl, bt RX1.out.2.1 hb9⟩
  | true =>
    go_wp2
    go_loopw [7] (fun i wr => ∃ z : Int, -1 ≤ z ∧ z ≤ 9 ∧ i = .int .i64 z ∧ Hid (R3 w wr (.slice a n c) (.int .i64 M) [v0, v1, v2, v3] [x0, x1, x2, x3])) (fun i _ => (9 - intOf i).toNat)
    case atStart => exact ⟨-1, by omega, by omega, rfl, RX1⟩
    case round =>
      obtain ⟨z, z1, z2, rfl, RX2⟩ := hrel
      obtain ⟨q0, q1, q2, q3, q4, q5, q6, q7, q8, q9⟩ := r3_cells RX2.out
      have hsz := RX2.out.1
      by_cases hz : z ≤ 8
      · obtain ⟨lv, hlv⟩ : ∃ lv, levC ds M z = lv := ⟨_, rfl⟩
        have HLV : Hid (levC ds M z = lv) := hlv
        have HZ : Hid (I64 z) := by show I64 z; unfold I64; omega
        clear hlv
        have KS : Hid (∀ w', Below wr.heap.size wr w' → Below wr.heap.size wr w' ∧ w'.cell? ⟨w.heap.size, 0, none⟩ = some (.slice a n c) ∧ w'.cell? ⟨w.heap.size, 1, none⟩ = some (.int .i64 M)) :=
          hid fun w' hB => ⟨hB, ((bcell hB).1 _ _ (by omega)).trans q0, ((bcell hB).1 _ _ (by omega)).trans q1⟩
        have HB2 : Hid (Below w.heap.size w wr) := RX2.out.2.1
        go_wp2
        go_region_held3 (fun w' => Below wr.heap.size wr w' ∧ w'.cell? ⟨w.heap.size, 0, none⟩ = some (.slice a n c) ∧ w'.cell? ⟨w.heap.size, 1, none⟩ = some (.int .i64 M))
          (first | assumption | exact keep_drew KS | exact keep_step (by assumption) (by assumption) KS)
          (first
            | (go_at_call 10; refine (levels_m _ _ _ ds M z lv _ (HC.out.below (bt HB2.out (And.left (by assumption)))) HM.out HZ.out HLV.out).mono ?_; rintro e w5 ⟨rfl, hb5⟩)
            | (go_at_call 11; refine (rlevels_m _ _ _ ds M z lv _ (HC.out.below (bt HB2.out (And.left (by assumption)))) HM.out HZ.out HLV.out).mono ?_; rintro e w6 ⟨rfl, hb6⟩))
        all_goals
          go_wp2
          go_roundw
          case rel => exact ⟨z + 1, by omega, by omega, by go_num, RX2.out.step (And.left (by assumption))⟩
          case measure => simp [intOf]; omega
      · obtain rfl : z = 9 := by omega
        clear hz z1 z2
        obtain ⟨g, hg⟩ : ∃ g, goodC ds M = g := ⟨_, rfl⟩
        obtain ⟨rr, hrr⟩ : ∃ r, rightC ds M [v0, v1, v2, v3] [x0, x1, x2, x3] = r := ⟨_, rfl⟩
        have HG : Hid (goodC ds M = g) := hg
        have HRR : Hid (rightC ds M [v0, v1, v2, v3] [x0, x1, x2, x3] = rr) := hrr
        have HSM : Hid (sameC ds M ds M = true) := sameC_yes rfl rfl
        have HB2 : Hid (Below w.heap.size w wr) := RX2.out.2.1
        clear hg hrr
        have KS : Hid (∀ w', Below wr.heap.size wr w' → Below wr.heap.size wr w' ∧ w'.cell? ⟨w.heap.size, 0, none⟩ = some (.slice a n c) ∧ w'.cell? ⟨w.heap.size, 1, none⟩ = some (.int .i64 M) ∧ w'.cell? ⟨w.heap.size + 1, 0, none⟩ = some (.int .u8 v0) ∧ w'.cell? ⟨w.heap.size + 1, 1, none⟩ = some (.int .u8 v1) ∧ w'.cell? ⟨w.heap.size + 1, 2, none⟩ = some (.int .u8 v2) ∧ w'.cell? ⟨w.heap.size + 1, 3, none⟩ = some (.int .u8 v3) ∧ w'.cell? ⟨w.heap.size + 2, 0, none⟩ = some (.int .u8 x0) ∧ w'.cell? ⟨w.heap.size + 2, 1, none⟩ = some (.int .u8 x1) ∧ w'.cell? ⟨w.heap.size + 2, 2, none⟩ = some (.int .u8 x2) ∧ w'.cell? ⟨w.heap.size + 2, 3, none⟩ = some (.int .u8 x3)) :=
          hid fun w' hB => ⟨hB, ((bcell hB).1 _ _ (by omega)).trans q0, ((bcell hB).1 _ _ (by omega)).trans q1, ((bcell hB).1 _ _ (by omega)).trans q2, ((bcell hB).1 _ _ (by omega)).trans q3, ((bcell hB).1 _ _ (by omega)).trans q4, ((bcell hB).1 _ _ (by omega)).trans q5, ((bcell hB).1 _ _ (by omega)).trans q6, ((bcell hB).1 _ _ (by omega)).trans q7, ((bcell hB).1 _ _ (by omega)).trans q8, ((bcell hB).1 _ _ (by omega)).trans q9⟩
        go_wp2
        go_region_held (fun w' => Below wr.heap.size wr w' ∧ w'.cell? ⟨w.heap.size, 0, none⟩ = some (.slice a n c) ∧ w'.cell? ⟨w.heap.size, 1, none⟩ = some (.int .i64 M) ∧ w'.cell? ⟨w.heap.size + 1, 0, none⟩ = some (.int .u8 v0) ∧ w'.cell? ⟨w.heap.size + 1, 1, none⟩ = some (.int .u8 v1) ∧ w'.cell? ⟨w.heap.size + 1, 2, none⟩ = some (.int .u8 v2) ∧ w'.cell? ⟨w.heap.size + 1, 3, none⟩ = some (.int .u8 v3) ∧ w'.cell? ⟨w.heap.size + 2, 0, none⟩ = some (.int .u8 x0) ∧ w'.cell? ⟨w.heap.size + 2, 1, none⟩ = some (.int .u8 x1) ∧ w'.cell? ⟨w.heap.size + 2, 2, none⟩ = some (.int .u8 x2) ∧ w'.cell? ⟨w.heap.size + 2, 3, none⟩ = some (.int .u8 x3))
          (first | assumption | exact keep_drew KS | exact keep_step (by assumption) (by assumption) KS)
          (first
            | (go_at_call 12; refine (good_m _ _ _ ds M g _ (HC.out.below (bt HB2.out (And.left (by assumption)))) HM.out HG.out).mono ?_; rintro e w5 ⟨rfl, hb5⟩)
            | (go_at_call 13; refine (rgood_m _ _ _ ds M g _ (HC.out.below (bt HB2.out (And.left (by assumption)))) HM.out HG.out).mono ?_; rintro e w6 ⟨rfl, hb6⟩)
            | (go_at_call 14; refine (right_m _ _ _ ds M _ _ _ _ _ _ _ _ rr _ (HC.out.below (bt HB2.out (And.left (by assumption)))) HM.out HV.out HA.out HRR.out).mono ?_; rintro e w7 ⟨rfl, hb7⟩)
            | (go_at_call 15; refine (rright_m _ _ _ ds M _ _ _ _ _ _ _ _ rr _ (HC.out.below (bt HB2.out (And.left (by assumption)))) HM.out HV.out HA.out HRR.out).mono ?_; rintro e w8 ⟨rfl, hb8⟩)
            | (go_at_call 16; refine (ssame_m _ _ _ _ _ _ ds ds M M true _ (HC.out.below (bt HB2.out (And.left (by assumption)))) (HC.out.below (bt HB2.out (And.left (by assumption)))) HSM).mono ?_; rintro e w9 ⟨rfl, hb9⟩)
            | (go_at_call 17; refine (sbytes_any _ _ _ ds M _ (HC.out.below (bt HB2.out (And.left (by assumption)))) HM.out).mono ?_; rintro e w10 ⟨⟨ab, nb, cb, rfl, hrb⟩, hb10⟩; have HRB : Hid (code.Row8 w10 ab nb cb (bytesC ds M)) := hrb; clear hrb; have cv := conv8 HRB.out)
            | (go_at_call 18; refine (rbytes_row _ _ _ ds M _ (HC.out.below (bt HB2.out (And.left (by assumption)))) HM.out).mono ?_; rintro e w11 ⟨⟨ab2, nb2, cb2, rfl, hrb2⟩, hb11⟩; have cv2 := conv8 (HRB.out.below hb11); have cv3 := conv8 hrb2; clear hrb2)
            | (go_at_call 9; refine (wakes_any _).mono ?_; rintro e w12 ⟨rfl, hb12⟩))
        all_goals
          go_wp2
          go_ret
          exact ⟨rfl, bt HB2.out (And.left (by assumption))⟩

end Go.Proofs.Ytcccfaeclefcoaa

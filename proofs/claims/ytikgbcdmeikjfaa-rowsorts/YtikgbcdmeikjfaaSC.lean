/-
  What schema.Right returns: is it a place of a node.
  Conditions: as each theorem states them.
-/
import Derived.Test.YtikgbcdmeikjfaaSB
namespace Go.Proofs.Ytikgbcdmeikjfaa
open Go.ChangeShapes Go.WideShapes Go.ChangeAt Go.RowKit
set_option linter.unusedVariables false
set_option linter.unusedSimpArgs false
set_option maxRecDepth 100000

set_option maxHeartbeats 4000000 in
theorem sright_any (a : Option Addr) (n c : Nat) (ds : Dims) (M : Int) (v0 v1 v2 v3 x0 x1 x2 x3 : Int) (w : World) (hc : Cat w a n c ds) (hM : I64 M) (hV : ∀ x ∈ [v0, v1, v2, v3], U8 x) (hA : ∀ x ∈ [x0, x1, x2, x3], U8 x) :
    Calls Try.prog 27 #[.agg #[.slice a n c, .int .i64 M], .agg #[.int .u8 v0, .int .u8 v1, .int .u8 v2, .int .u8 v3], .agg #[.int .u8 x0, .int .u8 x1, .int .u8 x2, .int .u8 x3]] w fun e w' => e = .returned (.bool (rightC ds M [v0, v1, v2, v3] [x0, x1, x2, x3])) ∧ Below w.heap.size w w' := by
  have HC : Hid (Cat w a n c ds) := hc
  have HM : Hid (I64 M) := hM
  have HV : Hid (∀ x ∈ [v0, v1, v2, v3], U8 x) := hV
  have HA : Hid (∀ x ∈ [x0, x1, x2, x3], U8 x) := hA
  have RX : Hid (R3 w (((w.alloc (.cells #[.slice a n c, .int .i64 M] 24)).alloc (.cells #[.int .u8 v0, .int .u8 v1, .int .u8 v2, .int .u8 v3] 65)).alloc (.cells #[.int .u8 x0, .int .u8 x1, .int .u8 x2, .int .u8 x3] 30)) (.slice a n c) (.int .i64 M) [v0, v1, v2, v3] [x0, x1, x2, x3]) := r3_new _ _ _ _ _ _ _ _ _ _ _ _ _ _
  clear hc hM hV hA
  cases hg : goodC ds M with
  | false =>
    have HG : Hid (goodC ds M = false) := hg
    go_enter Try.func27, Try.ntmps27
    go_wp2_with (go_at_call 50; refine (sgood_any _ _ _ _ _ _ (HC.out.below RX.out.2.1) HM.out).mono ?_; rintro e w1 ⟨rfl, hb⟩)
    go_ret
    exact ⟨ret_right (rightC_bad HG.out), bt RX.out.2.1 hb⟩
  | true =>
    have HG : Hid (goodC ds M = true) := hg
    go_enter Try.func27, Try.ntmps27
    go_wp2_with (go_at_call 50; refine (sgood_any _ _ _ _ _ _ (HC.out.below RX.out.2.1) HM.out).mono ?_; rintro e w1 ⟨rfl, hb⟩)
    have RX1 : Hid (R3 w w1 (.slice a n c) (.int .i64 M) [v0, v1, v2, v3] [x0, x1, x2, x3]) := RX.out.step hb
    obtain ⟨V, hVV⟩ : ∃ V, [v0, v1, v2, v3] = V := ⟨_, rfl⟩
    obtain ⟨A, hAA⟩ : ∃ A, [x0, x1, x2, x3] = A := ⟨_, rfl⟩
    have HVV : Hid ([v0, v1, v2, v3] = V) := hVV
    have HAA : Hid ([x0, x1, x2, x3] = A) := hAA
    rw [hVV] at HV
    rw [hAA] at HA
    rw [hVV, hAA] at RX1
    clear hVV hAA RX hb
    go_loopw [11] (fun i wr => ∃ k : Nat, k ≤ 4 ∧ i = .int .i64 k ∧ Hid (∀ j, j < k → A.getD j 0 < memC ds j (V.getD j 0)) ∧ Hid (R3 w wr (.slice a n c) (.int .i64 M) V A)) (fun i _ => 4 - (intOf i).toNat)
    case atStart => exact ⟨0, by omega, rfl, hid fun j hj => by omega, RX1⟩
    case round =>
      obtain ⟨k, hk, rfl, hall, RX2⟩ := hrel
      by_cases hlt : k < 4
      · have hkn : (k : Int) < 4 := by omega
        obtain ⟨s0, s1, s2, s3, s4, s5⟩ := RX2.out
        have q1 := s4 k hlt
        have q2 := s5 k hlt
        have b1 := u8_at HV.out k
        have b2 := u8_at HA.out k
        have mb := memC_bd ds k (V.getD k 0)
        obtain ⟨m, hm⟩ : ∃ m, memC ds k (V.getD k 0) = m := ⟨_, rfl⟩
        rw [hm] at mb
        have HMm : Hid (memC ds k (V.getD k 0) = m) := hm
        obtain ⟨v, hv⟩ : ∃ v, V.getD k 0 = v := ⟨_, rfl⟩
        obtain ⟨x, hx⟩ : ∃ x, A.getD k 0 = x := ⟨_, rfl⟩
        rw [hv] at q1 b1
        rw [hx] at q2 b2
        have HMv : Hid (memC ds k v = m) := by show _ = _; rw [← hv]; exact hm
        have HX : Hid (A.getD k 0 = x) := hx
        have JV : Hid (I64 v) := by show I64 v; unfold I64; omega
        have wv : IntKind.i64.wrap v = v := IntWalk.i64_in _ (by omega)
        have wx : IntKind.i64.wrap x = x := IntWalk.i64_in _ (by omega)
        clear s4 s5 hm hv hx
        by_cases hcmp : m ≤ x
        · have hcd : decide (m ≤ x) = true := decide_eq_true hcmp
          go_wp2
          go_region_held3 (fun w' => w.heap.size + 2 < w'.heap.size ∧ Below w.heap.size w w' ∧ w'.cell? ⟨w.heap.size, 0, none⟩ = some (.slice a n c) ∧ w'.cell? ⟨w.heap.size, 1, none⟩ = some (.int .i64 M) ∧ w'.cell? ⟨w.heap.size + 1, k, none⟩ = some (.int .u8 v) ∧ w'.cell? ⟨w.heap.size + 2, k, none⟩ = some (.int .u8 x))
            (first | assumption | exact cur4_drew (by assumption) (by assumption) (by assumption) (by assumption) (by assumption) (by assumption) | exact cur4 (by assumption) (by assumption))
            (first
              | (go_at_call 51; refine (smembers_any _ _ _ ds _ _ _ m _ (HC.out.below (cur4_bel (by assumption))) hlt JV.out HMv).mono ?_; rintro e w5 ⟨rfl, hb5⟩))
          go_wp2
          go_ret
          exact ⟨ret_right (by rw [HVV.out, HAA.out]; exact rightC_no hlt (by rw [HMm.out, HX.out]; exact hcmp)), bt s1 (undrew hb5)⟩
        · have hcd : decide (m ≤ x) = false := decide_eq_false hcmp
          go_wp2
          go_region_held3 (fun w' => w.heap.size + 2 < w'.heap.size ∧ Below w.heap.size w w' ∧ w'.cell? ⟨w.heap.size, 0, none⟩ = some (.slice a n c) ∧ w'.cell? ⟨w.heap.size, 1, none⟩ = some (.int .i64 M) ∧ w'.cell? ⟨w.heap.size + 1, k, none⟩ = some (.int .u8 v) ∧ w'.cell? ⟨w.heap.size + 2, k, none⟩ = some (.int .u8 x))
            (first | assumption | exact cur4_drew (by assumption) (by assumption) (by assumption) (by assumption) (by assumption) (by assumption) | exact cur4 (by assumption) (by assumption))
            (first
              | (go_at_call 51; refine (smembers_any _ _ _ ds _ _ _ m _ (HC.out.below (cur4_bel (by assumption))) hlt JV.out HMv).mono ?_; rintro e w5 ⟨rfl, hb5⟩))
          go_wp2
          go_roundw
          case rel =>
            refine ⟨k + 1, by omega, by go_num, hid fun j hj => ?_, RX2.out.step (undrew hb5)⟩
            by_cases e : j = k
            · subst e; rw [HMm.out, HX.out]; omega
            · exact hall.out j (by omega)
          case measure => simp [intOf]; omega
      · obtain rfl : k = 4 := by omega
        have hgo := RX2.out.2.1
        go_wp2
        go_ret
        exact ⟨ret_right (by rw [HVV.out, HAA.out]; exact rightC_yes HG.out hall.out), hgo⟩

end Go.Proofs.Ytikgbcdmeikjfaa

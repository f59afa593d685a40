/-
  What the document's own Right returns: is it a place of a node.
  Conditions: as each theorem states them.
-/
import Derived.Test.YtikgbcdmeikjfaaSC
namespace Go.Proofs.Ytikgbcdmeikjfaa
open Go.ChangeShapes Go.WideShapes Go.ChangeAt Go.RowKit
set_option linter.unusedVariables false
set_option linter.unusedSimpArgs false
set_option maxRecDepth 100000

/-- What a region bears, over one call more. -/
theorem keep_step {wr w' w'' : World} {Q : World → Prop} {R : Prop} (hb : Below w'.heap.size w' w'') (h : Below wr.heap.size wr w' ∧ R) (K : Hid (∀ x, Below wr.heap.size wr x → Q x)) : Q w'' := K.out _ (bt h.1 hb)
theorem keep_drew {wr : World} {Q : World → Prop} (K : Hid (∀ x, Below wr.heap.size wr x → Q x)) : Q wr.drew := K.out _ (Below.refl _ _).drew
theorem rsize_m (sa : Option Addr) (sl sc : Nat) (ua : Option Addr) (ul uc : Nat) (S : List Int) (U : List (List Int)) (f m : Int) (w : World) (hd : Dim w sa sl sc ua ul uc S U) (hf : I64 f) (hm : Hid (size S U f = m)) :
    Calls Try.prog 53 #[.agg #[.slice sa sl sc, .slice ua ul uc], .int .i64 f] w fun e w' => e = .returned (.int .i64 m) ∧ Below w.heap.size w w' := by
  have := rsize_any sa sl sc ua ul uc S U f w hd hf
  rw [hm.out] at this
  exact this

set_option maxHeartbeats 4000000 in
theorem rright_any (a : Option Addr) (n c : Nat) (ds : Dims) (M : Int) (v0 v1 v2 v3 x0 x1 x2 x3 : Int) (w : World) (hc : Cat w a n c ds) (hM : I64 M) (hV : ∀ x ∈ [v0, v1, v2, v3], U8 x) (hA : ∀ x ∈ [x0, x1, x2, x3], U8 x) :
    Calls Try.prog 29 #[.agg #[.slice a n c, .int .i64 M], .agg #[.int .u8 v0, .int .u8 v1, .int .u8 v2, .int .u8 v3], .agg #[.int .u8 x0, .int .u8 x1, .int .u8 x2, .int .u8 x3]] w fun e w' => e = .returned (.bool (rightC ds M [v0, v1, v2, v3] [x0, x1, x2, x3])) ∧ Below w.heap.size w w' := by
  obtain ⟨e1, e2⟩ := hc.lens
  have E1 : Hid (n = ds.length) := e1
  have HC : Hid (Cat w a n c ds) := hc
  have HM : Hid (I64 M) := hM
  have HV : Hid (∀ x ∈ [v0, v1, v2, v3], U8 x) := hV
  have HA : Hid (∀ x ∈ [x0, x1, x2, x3], U8 x) := hA
  have RX : Hid (R3 w (((w.alloc (.cells #[.slice a n c, .int .i64 M] 24)).alloc (.cells #[.int .u8 v0, .int .u8 v1, .int .u8 v2, .int .u8 v3] 65)).alloc (.cells #[.int .u8 x0, .int .u8 x1, .int .u8 x2, .int .u8 x3] 30)) (.slice a n c) (.int .i64 M) [v0, v1, v2, v3] [x0, x1, x2, x3]) := r3_new _ _ _ _ _ _ _ _ _ _ _ _ _ _
  clear hc hM hV hA e1
  cases hg : goodC ds M with
  | false =>
    have HG : Hid (goodC ds M = false) := hg
    go_enter Try.func29, Try.ntmps29
    go_wp2_with (go_at_call 52; refine (rgoodC_any _ _ _ _ _ _ (HC.out.below RX.out.2.1) HM.out).mono ?_; rintro e w1 ⟨rfl, hb⟩)
    go_ret
    exact ⟨ret_right (rightC_bad HG.out), bt RX.out.2.1 hb⟩
  | true =>
    have HG : Hid (goodC ds M = true) := hg
    go_enter Try.func29, Try.ntmps29
    go_wp2_with (go_at_call 52; refine (rgoodC_any _ _ _ _ _ _ (HC.out.below RX.out.2.1) HM.out).mono ?_; rintro e w1 ⟨rfl, hb⟩)
    have RX1 : Hid (R3 w w1 (.slice a n c) (.int .i64 M) [v0, v1, v2, v3] [x0, x1, x2, x3]) := RX.out.step hb
    obtain ⟨V, hVV⟩ : ∃ V, [v0, v1, v2, v3] = V := ⟨_, rfl⟩
    obtain ⟨A, hAA⟩ : ∃ A, [x0, x1, x2, x3] = A := ⟨_, rfl⟩
    have HVV : Hid ([v0, v1, v2, v3] = V) := hVV
    have HAA : Hid ([x0, x1, x2, x3] = A) := hAA
    rw [hVV] at HV
    rw [hAA] at HA
    rw [hVV, hAA] at RX1
    clear hVV hAA RX hb
    go_loopw [7] (fun i wr => ∃ k : Nat, k ≤ 4 ∧ i = .int .i64 k ∧ Hid (∀ j, j < k → A.getD j 0 < memC ds j (V.getD j 0)) ∧ Hid (R3 w wr (.slice a n c) (.int .i64 M) V A)) (fun i _ => 4 - (intOf i).toNat)
    case atStart => exact ⟨0, by omega, rfl, hid fun j hj => by omega, RX1⟩
    case round =>
      obtain ⟨k, hk, rfl, hall, RX2⟩ := hrel
      by_cases hlt : k < 4
      · have hkn : (k : Int) < 4 := by omega
        obtain ⟨s0, s1, s2, s3, s4, s5⟩ := RX2.out
        have q1 := s4 k hlt
        have q2 := s5 k hlt
        have b1 := u8_at HV.out k
        have b2 := u8_at HA.out k
        obtain ⟨v, hv⟩ : ∃ v, V.getD k 0 = v := ⟨_, rfl⟩
        obtain ⟨x, hx⟩ : ∃ x, A.getD k 0 = x := ⟨_, rfl⟩
        rw [hv] at q1 b1
        rw [hx] at q2 b2
        have HX : Hid (A.getD k 0 = x) := hx
        have HVk : Hid (V.getD k 0 = v) := hv
        have JV : Hid (I64 v) := by show I64 v; unfold I64; omega
        have wv : IntKind.i64.wrap v = v := IntWalk.i64_in _ (by omega)
        have wx : IntKind.i64.wrap x = x := IntWalk.i64_in _ (by omega)
        clear s4 s5 hx hv
        by_cases hn : k < n
        · have hnf : decide ((n : Int) ≤ (k : Int)) = false := decide_eq_false (by omega)
          have hnk : (k : Int) < (n : Int) := by omega
          obtain ⟨b, off, rfl, hb0, sa, sl, sc, ua, ul, uc, S, U, f1, f2, HDm, HSU⟩ := HC.out.get s1 hn
          have mb := size_bd S U v
          obtain ⟨m, hm⟩ : ∃ m, size S U v = m := ⟨_, rfl⟩
          rw [hm] at mb
          have HMv : Hid (size S U v = m) := hm
          have HMm : Hid (memC ds k (V.getD k 0) = m) := by show _ = _; rw [HVk.out, memC_at (by rw [← E1.out]; exact hn) HSU.out]; exact hm
          clear hm
          have hb0' : b < wr.heap.size := Nat.lt_of_lt_of_le hb0 s1.size
          have KS : Hid (∀ x', Below wr.heap.size wr x' → Below wr.heap.size wr x' ∧ x'.cell? ⟨w.heap.size, 0, none⟩ = some (.slice (some ⟨b, off, none⟩) n c) ∧ x'.cell? ⟨b, off + k * 2, none⟩ = some (.slice sa sl sc) ∧ x'.cell? ⟨b, off + k * 2 + 1, none⟩ = some (.slice ua ul uc) ∧ x'.cell? ⟨w.heap.size + 1, k, none⟩ = some (.int .u8 v) ∧ x'.cell? ⟨w.heap.size + 2, k, none⟩ = some (.int .u8 x)) :=
            hid fun x' hB => ⟨hB, ((bcell hB).1 _ _ (by omega)).trans s2, ((bcell hB).1 _ _ hb0').trans f1, ((bcell hB).1 _ _ hb0').trans f2, ((bcell hB).1 _ _ (by omega)).trans q1, ((bcell hB).1 _ _ (by omega)).trans q2⟩
          by_cases hcmp : m ≤ x
          · have hcd : decide (m ≤ x) = true := decide_eq_true hcmp
            go_wp2
            go_region_held3 (fun w' => Below wr.heap.size wr w' ∧ w'.cell? ⟨w.heap.size, 0, none⟩ = some (.slice (some ⟨b, off, none⟩) n c) ∧ w'.cell? ⟨b, off + k * 2, none⟩ = some (.slice sa sl sc) ∧ w'.cell? ⟨b, off + k * 2 + 1, none⟩ = some (.slice ua ul uc) ∧ w'.cell? ⟨w.heap.size + 1, k, none⟩ = some (.int .u8 v) ∧ w'.cell? ⟨w.heap.size + 2, k, none⟩ = some (.int .u8 x))
              (first | assumption | exact keep_drew KS | exact keep_step (by assumption) (by assumption) KS)
              (first
                | (go_at_call 53; refine (rsize_m _ _ _ _ _ _ S U _ m _ (HDm.out.below (And.left (by assumption))) JV.out HMv).mono ?_; rintro e w5 ⟨rfl, hb5⟩))
            go_wp2
            go_ret
            exact ⟨ret_right (by rw [HVV.out, HAA.out]; exact rightC_no hlt (by rw [HMm.out, HX.out]; exact hcmp)), bt s1 (undrew hb5)⟩
          · have hcd : decide (m ≤ x) = false := decide_eq_false hcmp
            go_wp2
            go_region_held3 (fun w' => Below wr.heap.size wr w' ∧ w'.cell? ⟨w.heap.size, 0, none⟩ = some (.slice (some ⟨b, off, none⟩) n c) ∧ w'.cell? ⟨b, off + k * 2, none⟩ = some (.slice sa sl sc) ∧ w'.cell? ⟨b, off + k * 2 + 1, none⟩ = some (.slice ua ul uc) ∧ w'.cell? ⟨w.heap.size + 1, k, none⟩ = some (.int .u8 v) ∧ w'.cell? ⟨w.heap.size + 2, k, none⟩ = some (.int .u8 x))
              (first | assumption | exact keep_drew KS | exact keep_step (by assumption) (by assumption) KS)
              (first
                | (go_at_call 53; refine (rsize_m _ _ _ _ _ _ S U _ m _ (HDm.out.below (And.left (by assumption))) JV.out HMv).mono ?_; rintro e w5 ⟨rfl, hb5⟩))
            go_wp2
            go_roundw
            case rel =>
              refine ⟨k + 1, by omega, by go_num, hid fun j hj => ?_, RX2.out.step (undrew hb5)⟩
              by_cases e : j = k
              · subst e; rw [HMm.out, HX.out]; omega
              · exact hall.out j (by omega)
            case measure => simp [intOf]; omega
        · have hnf : decide ((n : Int) ≤ (k : Int)) = true := decide_eq_true (by omega)
          have hd : ¬ k < ds.length := by rw [← E1.out]; exact hn
          by_cases hv0 : v = 0
          · have hv1 : (v != 0) = false := by simp [hv0]
            have HV0 : Hid (v = 0) := hv0
            clear hv0
            by_cases hx0 : x = 0
            · have hx1 : (x != 0) = false := by simp [hx0]
              have HX0 : Hid (x = 0) := hx0
              clear hx0
              go_wp2
              go_roundw
              case rel =>
                refine ⟨k + 1, by omega, by go_num, hid fun j hj => ?_, RX2⟩
                by_cases e : j = k
                · subst e; rw [HVk.out, HX.out, memC_0 hd HV0.out, HX0.out]; decide
                · exact hall.out j (by omega)
              case measure => simp [intOf]; omega
            · have hx1 : (x != 0) = true := by simp [hx0]
              go_wp2
              go_ret
              exact ⟨ret_right (by rw [HVV.out, HAA.out]; exact rightC_no hlt (by rw [HVk.out, HX.out, memC_0 hd HV0.out]; omega)), s1⟩
          · have hv1 : (v != 0) = true := by simp [hv0]
            go_wp2
            go_ret
            exact ⟨ret_right (by rw [HVV.out, HAA.out]; exact rightC_no hlt (by rw [HVk.out, HX.out, memC_1 hd hv0]; omega)), s1⟩
      · obtain rfl : k = 4 := by omega
        have hgo := RX2.out.2.1
        go_wp2
        go_ret
        exact ⟨ret_right (by rw [HVV.out, HAA.out]; exact rightC_yes HG.out hall.out), hgo⟩

end Go.Proofs.Ytikgbcdmeikjfaa

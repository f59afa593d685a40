/-
  What the document's Read returns.
  Conditions: as each theorem states them.
-/
import Derived.Test.YtikgbcdmeikjfaaRJ
namespace Go.Proofs.Ytikgbcdmeikjfaa
open Go.ChangeShapes Go.WideShapes Go.ChangeAt Go.RowKit
set_option linter.unusedVariables false
set_option linter.unusedSimpArgs false
set_option maxRecDepth 100000

theorem getN_no {l : List Int} (h : code.getB l = false) : code.getN l = 0 := by unfold code.getN; rw [h]; rfl

theorem r2_new2 (w : World) (X : Array Value) : R2 w ((w.alloc (.cells z6 33)).alloc (.cells X 33)) X := by
  refine ⟨((Below.refl _ _).alloc (Nat.le_refl _) _).alloc (by simp) _, ?_, ?_⟩
  · rw [Below.heap_alloc _ _ _ (by simp)]; exact heap_alloc_new _ _
  · have := heap_alloc_new (w.alloc (.cells z6 33)) (.cells X 33); simpa using this

set_option maxHeartbeats 16000000 in
theorem rread_m (a : Option Addr) (n c : Nat) (l : List Int) (X0 X1 X2 X3 M0 M1 N : Int) (w : World) (hr : code.Row8 w a n c l) (hR : Hid (rdR l = (X0, X1, X2, X3, M0, M1))) (hN : Hid (rdN l = N)) :
    Calls Try.prog 25 #[.slice a n c] w fun e w' => e = .returned (.tuple #[.agg #[.int .u8 X0, .int .u8 X1, .int .u8 X2, .int .u8 X3, .int .i64 M0, .int .i64 M1], .int .i64 N]) ∧ Below w.heap.size w w' := by
  have HR := hid hr
  have hlen := hr.1
  have hnc := hr.2.1
  have hcm := hr.2.2.1
  unfold maxLen at hcm
  have XX := hid (r2_new w)
  have hu8 := hid hr.2.2.2.1
  have EL := hid hlen
  by_cases h4 : n < 4
  · have hKf : rdB l = false := by unfold rdB; rw [decide_eq_false (by have := EL.out; omega)]; rfl
    have eN : N = 0 := by rw [← hN.out]; unfold rdN; rw [hKf]; rfl
    have eR : (0, 0, 0, 0, 0, 0) = (X0, X1, X2, X3, M0, M1) := by rw [← hR.out]; unfold rdR; rw [hKf]; rfl
    cases eR
    subst eN
    have hdl : decide ((n : Int) < 4) = true := decide_eq_true (by omega)
    have hni : (n : Int) < 4 := by omega
    have hB : Hid (Below w.heap.size w (w.alloc (.cells z6 33)) ∧ (w.alloc (.cells z6 33)).heap[w.heap.size]? = some (.cells z6 33)) := hid ⟨(Below.refl _ _).alloc (Nat.le_refl _) _, heap_alloc_new _ _⟩
    clear hR hN hKf hr hlen
    go_enter Try.func25, Try.ntmps25
    go_wp2
    obtain ⟨r0, r1, r2, r3, r4, r5⟩ := box6 hB.out.2
    exact bodyPost_ret (v := .tuple #[.agg z6, .int .i64 0]) (by simp [results, Try.results25, go_sem, r0, r1, r2, r3, r4, r5]) rfl ⟨rfl, hB.out.1⟩
  · have hL4 : 4 ≤ l.length := by have := EL.out; omega
    have hdl : decide ((n : Int) < 4) = false := decide_eq_false (by omega)
    obtain ⟨b, off, rfl, hb, hl⟩ := hr.2.2.2.2.2 (by omega)
    obtain ⟨q0, hq0⟩ : ∃ y, l.getD 0 0 = y := ⟨_, rfl⟩
    obtain ⟨q1, hq1⟩ : ∃ y, l.getD 1 0 = y := ⟨_, rfl⟩
    obtain ⟨q2, hq2⟩ : ∃ y, l.getD 2 0 = y := ⟨_, rfl⟩
    obtain ⟨q3, hq3⟩ : ∃ y, l.getD 3 0 = y := ⟨_, rfl⟩
    have L0 := hl 0 (by omega); have L1 := hl 1 (by omega); have L2 := hl 2 (by omega); have L3 := hl 3 (by omega)
    rw [hq0] at L0; rw [hq1] at L1; rw [hq2] at L2; rw [hq3] at L3
    rw [Nat.add_zero] at L0
    have HQ := hid (And.intro hq0 (And.intro hq1 (And.intro hq2 hq3)))
    have hb1 : ¬ b = w.heap.size := by omega
    have hb2 : ¬ b = w.heap.size + 1 := by omega
    have n1 : (1 : Int) < (n : Int) := by omega
    have n2 : (2 : Int) < (n : Int) := by omega
    have n3 : (3 : Int) < (n : Int) := by omega
    have n0 : (0 : Int) < (n : Int) := by omega
    clear hq0 hq1 hq2 hq3 hl hr hlen
    have RX := hid (r2_new2 w #[.int .u8 q0, .int .u8 q1, .int .u8 q2, .int .u8 q3, .int .i64 0, .int .i64 0])
    obtain ⟨A4, hs4', hr4⟩ := rest8 HR.out 4 (by omega)
    have hs4 : ∀ w', (Instr.slice 52 (.slice (some ⟨b, off, none⟩) n c) (some (.int .i64 4)) none none).run Try.prog w' = .ok (.slice A4 (n - 4) (c - 4)) w' := hs4'
    clear hs4'
    have R4 := hid hr4
    have h4n : (4 : Int) ≤ (n : Int) := by omega
    obtain ⟨V0, eV0⟩ : ∃ y, code.getV (l.drop 4) = y := ⟨_, rfl⟩
    obtain ⟨N0, eN0⟩ : ∃ y, code.getN (l.drop 4) = y := ⟨_, rfl⟩
    have EV0 := hid eV0
    have EN0 := hid eN0
    have UV0 : Hid (U64 V0) := hid (eV0 ▸ getV_u64 _ hr4.2.2.2.1)
    clear hr4
    cases hB0 : code.getB (l.drop 4) with
    | false =>
      have hKf : rdB l = false := by unfold rdB; rw [hB0]; simp
      have eN : N = 0 := by rw [← hN.out]; unfold rdN; rw [hKf]; rfl
      have eR : (0, 0, 0, 0, 0, 0) = (X0, X1, X2, X3, M0, M1) := by rw [← hR.out]; unfold rdR; rw [hKf]; rfl
      have e00 : N0 = 0 := by rw [← eN0]; exact getN_no hB0
      cases eR
      subst eN e00
      clear hR hN hKf eV0 eN0 hB0
      go_enter Try.func25, Try.ntmps25
      go_wp2
      refine wp_loop_rounds 5 ?_
      rw [rounds_succ]; go_wp2
      rw [rounds_succ]; go_wp2
      rw [rounds_succ]; go_wp2
      rw [rounds_succ]; go_wp2
      rw [rounds_succ]; go_wp2
      generalize ((w.alloc (.cells z6 33)).alloc (.cells #[.int .u8 q0, .int .u8 q1, .int .u8 q2, .int .u8 q3, .int .i64 0, .int .i64 0] 33)) = w3 at RX ⊢
      obtain ⟨c0, c1, c2, c3, c4, c5⟩ := box6 RX.out.2.1
      obtain ⟨f0, f1, f2, f3, f4, f5⟩ := froz6 RX.out.2.1
      refine wp_loop_rounds 1 ?_
      rw [rounds_succ]; go_wp2_with (first
        | (go_at_call 48; refine (rget_m A4 (n - 4) (c - 4) (l.drop 4) _ V0 0 (R4.out.below RX.out.1) EV0 EN0).mono ?_; rintro e w5 ⟨rfl, hw⟩; have hw2 := hw.symm; clear hw; subst hw2))
      obtain ⟨r0, r1, r2, r3, r4, r5⟩ := box6 (six_store RX.out.2.1 (.int .u8 0) (.int .u8 0) (.int .u8 0) (.int .u8 0) (.int .i64 0) (.int .i64 0))
      exact bodyPost_ret (v := .tuple #[.agg z6, .int .i64 0]) (by simp [results, Try.results25, go_sem, r0, r1, r2, r3, r4, r5]) rfl ⟨rfl, below6 RX.out.1 (Nat.le_refl _) _ _ _ _ _ _⟩
    | true =>
      have bd0 := getB_bd hB0
      rw [eN0] at bd0
      obtain ⟨b01, b02, b03⟩ := bd0
      rw [List.length_drop] at b03
      have eP : rdP l = 4 + N0.toNat := by unfold rdP; rw [eN0]
      obtain ⟨A5, hs5', hr5⟩ := rest8 HR.out (4 + N0.toNat) (by have := EL.out; omega)
      obtain ⟨P0, eP0⟩ : ∃ y, 4 + N0.toNat = y := ⟨_, rfl⟩
      rw [eP0] at eP hs5' hr5
      have hP : (P0 : Int) = 4 + N0 := by omega
      have hs5 : ∀ w', (Instr.slice 52 (.slice (some ⟨b, off, none⟩) n c) (some (.int .i64 (4 + N0))) none none).run Try.prog w' = .ok (.slice A5 (n - P0) (c - P0)) w' := by rw [← hP]; exact hs5'
      have hPn : 4 + N0 ≤ (n : Int) := by have := EL.out; omega
      have wP : IntKind.i64.wrap (4 + N0) = 4 + N0 := IntWalk.i64_in _ (by omega)
      have z0 : (N0 == 0) = false := by simp; omega
      have R5 := hid hr5
      obtain ⟨V1, eV1⟩ : ∃ y, code.getV (l.drop P0) = y := ⟨_, rfl⟩
      obtain ⟨N1, eN1⟩ : ∃ y, code.getN (l.drop P0) = y := ⟨_, rfl⟩
      have EV1 := hid eV1
      have EN1 := hid eN1
      have UV1 : Hid (U64 V1) := hid (eV1 ▸ getV_u64 _ hr5.2.2.2.1)
      obtain ⟨Z0, eZ0⟩ : ∃ y, code.zag V0 = y := ⟨_, rfl⟩
      obtain ⟨Z1, eZ1⟩ : ∃ y, code.zag V1 = y := ⟨_, rfl⟩
      have EZ0 := hid eZ0
      have EZ1 := hid eZ1
      cases hB1 : code.getB (l.drop P0) with
      | false =>
        have hKf : rdB l = false := by unfold rdB; rw [eP, hB1]; simp
        have eN : N = 0 := by rw [← hN.out]; unfold rdN; rw [hKf]; rfl
        have eR : (0, 0, 0, 0, 0, 0) = (X0, X1, X2, X3, M0, M1) := by rw [← hR.out]; unfold rdR; rw [hKf]; rfl
        have e01 : N1 = 0 := by rw [← eN1]; exact getN_no hB1
        cases eR
        subst eN e01
        clear hR hN hKf eV0 eN0 hB0 eV1 eN1 hB1 eZ0 eZ1 eP hs5' hr5 eP0 hP b01 b02 b03
        go_enter Try.func25, Try.ntmps25
        go_wp2
        refine wp_loop_rounds 5 ?_
        rw [rounds_succ]; go_wp2
        rw [rounds_succ]; go_wp2
        rw [rounds_succ]; go_wp2
        rw [rounds_succ]; go_wp2
        rw [rounds_succ]; go_wp2
        generalize ((w.alloc (.cells z6 33)).alloc (.cells #[.int .u8 q0, .int .u8 q1, .int .u8 q2, .int .u8 q3, .int .i64 0, .int .i64 0] 33)) = w3 at RX ⊢
        obtain ⟨c0, c1, c2, c3, c4, c5⟩ := box6 RX.out.2.2
        obtain ⟨f0, f1, f2, f3, f4, f5⟩ := froz6 RX.out.2.2
        refine wp_loop_rounds 2 ?_
        rw [rounds_succ]; go_wp2_with (first
          | (go_at_call 48; refine (rget_m A4 (n - 4) (c - 4) (l.drop 4) _ V0 N0 (R4.out.below RX.out.1) EV0 EN0).mono ?_; rintro e w5 ⟨rfl, hw⟩; have hw2 := hw.symm; clear hw; subst hw2)
          | (go_at_call 49; refine (rzag_m V0 Z0 _ UV0 EZ0).mono ?_; rintro e w5 ⟨rfl, hw⟩; have hw2 := hw.symm; clear hw; subst hw2))
        have RY := hid (RX.out.put 4 (.int .i64 Z0))
        generalize w3.setCell ⟨w.heap.size + 1, 4, none⟩ (.int .i64 Z0) = W4 at RY ⊢
        obtain ⟨d0, d1, d2, d3, d4, d5⟩ := box6 RY.out.2.1
        obtain ⟨k0, k1, k2, k3, k4, k5⟩ := froz6 RY.out.2.1
        rw [rounds_succ]; go_wp2_with (first
          | (go_at_call 48; refine (rget_m A5 (n - P0) (c - P0) (l.drop P0) _ V1 0 (R5.out.below RY.out.1) EV1 EN1).mono ?_; rintro e w5 ⟨rfl, hw⟩; have hw2 := hw.symm; clear hw; subst hw2))
        obtain ⟨r0, r1, r2, r3, r4, r5⟩ := box6 (six_store RY.out.2.1 (.int .u8 0) (.int .u8 0) (.int .u8 0) (.int .u8 0) (.int .i64 0) (.int .i64 0))
        exact bodyPost_ret (v := .tuple #[.agg z6, .int .i64 0]) (by simp [results, Try.results25, go_sem, r0, r1, r2, r3, r4, r5]) rfl ⟨rfl, below6 RY.out.1 (Nat.le_refl _) _ _ _ _ _ _⟩
      | true =>
        have bd1 := getB_bd hB1
        rw [eN1] at bd1
        obtain ⟨b11, b12, b13⟩ := bd1
        rw [List.length_drop] at b13
        have z1 : (N1 == 0) = false := by simp; omega
        have hKt : rdB l = true := by unfold rdB; rw [eP, hB0, hB1, decide_eq_true hL4]; rfl
        have eN : N = 4 + N0 + N1 := by rw [← hN.out]; unfold rdN; rw [hKt, eP, eN0, eN1]; rfl
        have eR : (q0, q1, q2, q3, Z0, Z1) = (X0, X1, X2, X3, M0, M1) := by
          rw [← hR.out, ← HQ.out.1, ← HQ.out.2.1, ← HQ.out.2.2.1, ← HQ.out.2.2.2]; unfold rdR; rw [hKt, eP, eV0, eV1, eZ0, eZ1]; rfl
        simp only [Prod.mk.injEq] at eR
        obtain ⟨y0, y1, y2, y3, y4, y5⟩ := eR
        subst y0 y1 y2 y3 y4 y5
        have wN : IntKind.i64.wrap (4 + N0 + N1) = N := by rw [← eN]; exact IntWalk.i64_in _ (by have := EL.out; omega)
        clear hR hN hKt eV0 eN0 hB0 eV1 eN1 hB1 eZ0 eZ1 eP hs5' hr5 eP0 hP b01 b02 b03 b11 b12 b13 eN
        go_enter Try.func25, Try.ntmps25
        go_wp2
        refine wp_loop_rounds 5 ?_
        rw [rounds_succ]; go_wp2
        rw [rounds_succ]; go_wp2
        rw [rounds_succ]; go_wp2
        rw [rounds_succ]; go_wp2
        rw [rounds_succ]; go_wp2
        generalize ((w.alloc (.cells z6 33)).alloc (.cells #[.int .u8 q0, .int .u8 q1, .int .u8 q2, .int .u8 q3, .int .i64 0, .int .i64 0] 33)) = w3 at RX ⊢
        obtain ⟨c0, c1, c2, c3, c4, c5⟩ := box6 RX.out.2.2
        obtain ⟨f0, f1, f2, f3, f4, f5⟩ := froz6 RX.out.2.2
        refine wp_loop_rounds 3 ?_
        rw [rounds_succ]; go_wp2_with (first
          | (go_at_call 48; refine (rget_m A4 (n - 4) (c - 4) (l.drop 4) _ V0 N0 (R4.out.below RX.out.1) EV0 EN0).mono ?_; rintro e w5 ⟨rfl, hw⟩; have hw2 := hw.symm; clear hw; subst hw2)
          | (go_at_call 49; refine (rzag_m V0 Z0 _ UV0 EZ0).mono ?_; rintro e w5 ⟨rfl, hw⟩; have hw2 := hw.symm; clear hw; subst hw2))
        have RY := hid (RX.out.put 4 (.int .i64 Z0))
        generalize w3.setCell ⟨w.heap.size + 1, 4, none⟩ (.int .i64 Z0) = W4 at RY ⊢
        obtain ⟨d0, d1, d2, d3, d4, d5⟩ := box6 RY.out.2.2
        obtain ⟨k0, k1, k2, k3, k4, k5⟩ := froz6 RY.out.2.2
        rw [rounds_succ]; go_wp2_with (first
          | (go_at_call 48; refine (rget_m A5 (n - P0) (c - P0) (l.drop P0) _ V1 N1 (R5.out.below RY.out.1) EV1 EN1).mono ?_; rintro e w5 ⟨rfl, hw⟩; have hw2 := hw.symm; clear hw; subst hw2)
          | (go_at_call 49; refine (rzag_m V1 Z1 _ UV1 EZ1).mono ?_; rintro e w5 ⟨rfl, hw⟩; have hw2 := hw.symm; clear hw; subst hw2))
        have RZ := hid (RY.out.put 5 (.int .i64 Z1))
        generalize W4.setCell ⟨w.heap.size + 1, 5, none⟩ (.int .i64 Z1) = W5 at RZ ⊢
        obtain ⟨g0, g1, g2, g3, g4, g5⟩ := box6 RZ.out.2.2
        obtain ⟨j0, j1, j2, j3, j4, j5⟩ := box6 RZ.out.2.1
        obtain ⟨p0, p1, p2, p3, p4, p5⟩ := froz6 RZ.out.2.1
        rw [rounds_succ]; go_wp2
        obtain ⟨r0, r1, r2, r3, r4, r5⟩ := box6 (six_store RZ.out.2.1 (.int .u8 q0) (.int .u8 q1) (.int .u8 q2) (.int .u8 q3) (.int .i64 Z0) (.int .i64 Z1))
        exact bodyPost_ret (v := .tuple #[.agg #[.int .u8 q0, .int .u8 q1, .int .u8 q2, .int .u8 q3, .int .i64 Z0, .int .i64 Z1], .int .i64 N]) (by simp [results, Try.results25, go_sem, r0, r1, r2, r3, r4, r5]) rfl ⟨rfl, below6 RZ.out.1 (Nat.le_refl _) _ _ _ _ _ _⟩

end Go.Proofs.Ytikgbcdmeikjfaa

/-
  What row.Read returns.
  Conditions: as each theorem states them.
-/
import Derived.Test.YtikgbcdmeikjfaaRI
namespace Go.Proofs.Ytikgbcdmeikjfaa
open Go.ChangeShapes Go.WideShapes Go.ChangeAt Go.RowKit
set_option linter.unusedVariables false
set_option linter.unusedSimpArgs false
set_option maxRecDepth 100000

theorem splice_four {l : List Int} (h : 4 ≤ l.length) : (splice z6.toList 0 (code.vals (l.take 4))).toArray = #[.int .u8 (l.getD 0 0), .int .u8 (l.getD 1 0), .int .u8 (l.getD 2 0), .int .u8 (l.getD 3 0), .int .i64 0, .int .i64 0] := by
  rw [take_four h]; rfl
/-- Fewer than four are copied: the row's first four are some. -/
theorem splice_few {l : List Int} (h : l.length < 4) : ∃ a b c d : Value, (splice z6.toList 0 (code.vals (l.take 4))).toArray = #[a, b, c, d, .int .i64 0, .int .i64 0] := by
  match l, h with
  | [], _ => exact ⟨_, _, _, _, rfl⟩
  | [a], _ => exact ⟨_, _, _, _, rfl⟩
  | [a, b], _ => exact ⟨_, _, _, _, rfl⟩
  | [a, b, c], _ => exact ⟨_, _, _, _, rfl⟩
theorem vals_take_len (l : List Int) : (code.vals (l.take 4)).length = Nat.min l.length 4 := by
  rw [code.vals_len, List.length_take]; simp [Nat.min_comm]
theorem copy_src {w : World} {a : Option Addr} {n c : Nat} {l : List Int} (h : code.Row8 w a n c l) : 0 < (code.vals (l.take 4)).length → ∃ ad, a = some ad ∧ ∀ j v, (code.vals (l.take 4))[j]? = some v → w.cell? (ad.add j) = some v := by
  intro h0
  obtain ⟨h1, h2, h3, h4, h5, h6⟩ := h
  rw [code.vals_len, List.length_take] at h0
  obtain ⟨b, off, rfl, hb, hl⟩ := h6 (by omega)
  refine ⟨_, rfl, fun j v hj => ?_⟩
  refine code.lies_cells hl j v ?_
  rw [code.vals, List.map_take, List.getElem?_take] at hj
  by_cases h : j < 4
  · rw [if_pos h] at hj; exact hj
  · rw [if_neg h] at hj; cases hj

theorem r2_copy {w w3 : World} {X : Array Value} (hb : Below (w.heap.size + 1) ((w.alloc (.cells z6 33)).alloc (.cells z6 33)) w3) (h : R2 w ((w.alloc (.cells z6 33)).alloc (.cells z6 33)) z6) (hg : w3.heap[w.heap.size + 1]? = some (.cells X 33)) : R2 w w3 X := by
  refine ⟨h.1.trans (hb.mono (by omega)), ?_, hg⟩
  rw [hb.block _ (by omega)]; exact h.2.1

set_option maxHeartbeats 16000000 in
theorem read_m (a : Option Addr) (n c : Nat) (l : List Int) (X0 X1 X2 X3 M0 M1 N : Int) (K : Bool) (w : World) (hr : code.Row8 w a n c l) (hR : Hid (rdR l = (X0, X1, X2, X3, M0, M1))) (hN : Hid (rdN l = N)) (hK : Hid (rdB l = K)) :
    Calls Try.prog 24 #[.slice a n c] w fun e w' => e = .returned (.tuple #[.agg #[.int .u8 X0, .int .u8 X1, .int .u8 X2, .int .u8 X3, .int .i64 M0, .int .i64 M1], .int .i64 N, .bool K]) ∧ Below w.heap.size w w' := by
  have HR := hid hr
  have hlen := hr.1
  have hnc := hr.2.1
  have hcm := hr.2.2.1
  unfold maxLen at hcm
  have XX := hid (r2_new w)
  have HC : Hid (0 < (code.vals (l.take 4)).length → (some (⟨w.heap.size + 1, 0, none⟩ : Addr)) = some ⟨w.heap.size + 1, 0, none⟩ ∧ ∃ ad, a = some ad ∧ ∀ j v, (code.vals (l.take 4))[j]? = some v → ((w.alloc (.cells z6 33)).alloc (.cells z6 33)).cell? (ad.add j) = some v) := hid fun h0 => ⟨rfl, copy_src (hr.below XX.out.1) h0⟩
  have hu8 := hid hr.2.2.2.1
  have EL := hid hlen
  have hvl : (code.vals (l.take 4)).length = Nat.min n 4 := by rw [vals_take_len, hlen]
  have HVL := hid hvl
  have HFT : Hid (0 + (code.vals (l.take 4)).length ≤ z6.toList.length) := hid (by rw [hvl]; show 0 + min n 4 ≤ 6; omega)
  clear hr hlen
  by_cases h4 : n < 4
  · have hKf : rdB l = false := by unfold rdB; rw [decide_eq_false (by have := EL.out; omega)]; rfl
    have eK : K = false := by rw [← hK.out]; exact hKf
    have eN : N = 0 := by rw [← hN.out]; unfold rdN; rw [hKf]; rfl
    have eR : (0, 0, 0, 0, 0, 0) = (X0, X1, X2, X3, M0, M1) := by rw [← hR.out]; unfold rdR; rw [hKf]; rfl
    cases eR
    subst eK eN
    have hm : Nat.min n 4 = n := Nat.min_eq_left (by omega)
    have hdl : decide ((n : Int) < 4) = true := decide_eq_true (by omega)
    have hni : (n : Int) < 4 := by omega
    rw [hm] at hvl
    obtain ⟨v0, v1, v2, v3, hsp⟩ := splice_few (l := l) (by have := EL.out; omega)
    have HSP := hid hsp
    clear hR hN hK hm hKf hsp
    go_enter Try.func24, Try.ntmps24
    go_wp2_with (first
      | (refine wpList_copy_splice rfl (.tmp 12) (.tmp 13) 52 52 rfl 5 Try.underlying52 (by kernel_rfl) (some ⟨w.heap.size + 1, 0, none⟩) a 4 4 n c rfl rfl (w.heap.size + 1) 0 z6.toList 33 XX.out.2.2 (code.vals (l.take 4)) HVL.out HC.out HFT.out (code.vals_one _) (w.heap.size + 1) ((w.alloc (.cells z6 33)).alloc (.cells z6 33)) (Below.refl _ _) (Nat.le_refl _) ?_; intro w3 hg3 hb3; have RX : Hid (R2 w w3 #[v0, v1, v2, v3, .int .i64 0, .int .i64 0]) := hid (r2_copy hb3 XX.out (HSP.out ▸ hg3.out)); clear hg3 hb3; obtain ⟨c0, c1, c2, c3, c4, c5⟩ := box6 RX.out.2.1; obtain ⟨f0, f1, f2, f3, f4, f5⟩ := froz6 RX.out.2.1))
    obtain ⟨r0, r1, r2, r3, r4, r5⟩ := box6 (six_store RX.out.2.1 (.int .u8 0) (.int .u8 0) (.int .u8 0) (.int .u8 0) (.int .i64 0) (.int .i64 0))
    exact bodyPost_ret (v := .tuple #[.agg z6, .int .i64 0, .bool false]) (by simp [results, Try.results24, go_sem, r0, r1, r2, r3, r4, r5]) rfl ⟨rfl, below6 RX.out.1 (Nat.le_refl _) _ _ _ _ _ _⟩
  · have hm : Nat.min n 4 = 4 := Nat.min_eq_right (by omega)
    rw [hm] at hvl
    have hL4 : 4 ≤ l.length := by have := EL.out; omega
    have HSP := hid (splice_four hL4)
    obtain ⟨A4, hs4', hr4⟩ := rest8 HR.out 4 (by omega)
    have hs4 : ∀ w', (Instr.slice 52 (.slice a n c) (some (.int .i64 4)) none none).run Try.prog w' = .ok (.slice A4 (n - 4) (c - 4)) w' := hs4'
    clear hs4'
    have R4 := hid hr4
    have h4n : (4 : Int) ≤ (n : Int) := by omega
    obtain ⟨V0, eV0⟩ : ∃ y, code.getV (l.drop 4) = y := ⟨_, rfl⟩
    obtain ⟨N0, eN0⟩ : ∃ y, code.getN (l.drop 4) = y := ⟨_, rfl⟩
    have EV0 := hid eV0
    have EN0 := hid eN0
    have UV0 : Hid (U64 V0) := hid (eV0 ▸ getV_u64 _ hr4.2.2.2.1)
    obtain ⟨B0, hb0, q0, q1, q2, q3, hq⟩ : ∃ (x : Array Value) (B0 : Unit) (q0 q1 q2 q3 : Int), x = #[.int .u8 q0, .int .u8 q1, .int .u8 q2, .int .u8 q3, .int .i64 0, .int .i64 0] ∧ q0 = l.getD 0 0 ∧ q1 = l.getD 1 0 ∧ q2 = l.getD 2 0 ∧ q3 = l.getD 3 0 := ⟨_, (), _, _, _, _, rfl, rfl, rfl, rfl, rfl⟩
    obtain ⟨rfl, hq0, hq1, hq2, hq3⟩ := hq
    rw [← hq0, ← hq1, ← hq2, ← hq3] at HSP
    have HQ := hid (And.intro hq0 (And.intro hq1 (And.intro hq2 hq3)))
    clear hq0 hq1 hq2 hq3 hm hb0 hr4
    cases hB0 : code.getB (l.drop 4) with
    | false =>
      have hKf : rdB l = false := by unfold rdB; rw [hB0]; simp
      have eK : K = false := by rw [← hK.out]; exact hKf
      have eN : N = 0 := by rw [← hN.out]; unfold rdN; rw [hKf]; rfl
      have eR : (0, 0, 0, 0, 0, 0) = (X0, X1, X2, X3, M0, M1) := by rw [← hR.out]; unfold rdR; rw [hKf]; rfl
      cases eR
      subst eK eN
      have EB0 := hid hB0
      clear hR hN hK hKf eV0 eN0 hB0
      go_enter Try.func24, Try.ntmps24
      go_wp2_with (first
        | (refine wpList_copy_splice rfl (.tmp 12) (.tmp 13) 52 52 rfl 5 Try.underlying52 (by kernel_rfl) (some ⟨w.heap.size + 1, 0, none⟩) a 4 4 n c rfl rfl (w.heap.size + 1) 0 z6.toList 33 XX.out.2.2 (code.vals (l.take 4)) HVL.out HC.out HFT.out (code.vals_one _) (w.heap.size + 1) ((w.alloc (.cells z6 33)).alloc (.cells z6 33)) (Below.refl _ _) (Nat.le_refl _) ?_; intro w3 hg3 hb3; have RX : Hid (R2 w w3 #[.int .u8 q0, .int .u8 q1, .int .u8 q2, .int .u8 q3, .int .i64 0, .int .i64 0]) := hid (r2_copy hb3 XX.out (HSP.out ▸ hg3.out)); clear hg3 hb3; obtain ⟨c0, c1, c2, c3, c4, c5⟩ := box6 RX.out.2.1; obtain ⟨f0, f1, f2, f3, f4, f5⟩ := froz6 RX.out.2.1))
      refine wp_loop_rounds 1 ?_
      rw [rounds_succ]; go_wp2_with (first
        | (go_at_call 46; refine (get_m A4 (n - 4) (c - 4) (l.drop 4) _ V0 N0 false (R4.out.below RX.out.1) EV0 EN0 EB0).mono ?_; rintro e w5 ⟨rfl, hw⟩; have hw2 := hw.symm; clear hw; subst hw2))
      obtain ⟨r0, r1, r2, r3, r4, r5⟩ := box6 (six_store RX.out.2.1 (.int .u8 0) (.int .u8 0) (.int .u8 0) (.int .u8 0) (.int .i64 0) (.int .i64 0))
      exact bodyPost_ret (v := .tuple #[.agg z6, .int .i64 0, .bool false]) (by simp [results, Try.results24, go_sem, r0, r1, r2, r3, r4, r5]) rfl ⟨rfl, below6 RX.out.1 (Nat.le_refl _) _ _ _ _ _ _⟩
    | true =>
      have bd0 := getB_bd hB0
      rw [eN0] at bd0
      obtain ⟨b01, b02, b03⟩ := bd0
      rw [List.length_drop] at b03
      have eP : rdP l = 4 + N0.toNat := by unfold rdP; rw [eN0]
      obtain ⟨A5, hs5', hr5⟩ := rest8 HR.out (4 + N0.toNat) (by have := EL.out; omega)
      obtain ⟨P0, eP0⟩ : ∃ y, 4 + N0.toNat = y := ⟨_, rfl⟩
      rw [eP0] at eP hs5' hr5
      have hP : (P0 : Int) = 4 + N0 := by omega
      have hs5 : ∀ w', (Instr.slice 52 (.slice a n c) (some (.int .i64 (4 + N0))) none none).run Try.prog w' = .ok (.slice A5 (n - P0) (c - P0)) w' := by rw [← hP]; exact hs5'
      have hPn : 4 + N0 ≤ (n : Int) := by have := EL.out; omega
      have wP : IntKind.i64.wrap (4 + N0) = 4 + N0 := IntWalk.i64_in _ (by omega)
      have R5 := hid hr5
      obtain ⟨V1, eV1⟩ : ∃ y, code.getV (l.drop P0) = y := ⟨_, rfl⟩
      obtain ⟨N1, eN1⟩ : ∃ y, code.getN (l.drop P0) = y := ⟨_, rfl⟩
      have EV1 := hid eV1
      have EN1 := hid eN1
      have UV1 : Hid (U64 V1) := hid (eV1 ▸ getV_u64 _ hr5.2.2.2.1)
      have EB0 := hid hB0
      obtain ⟨Z0, eZ0⟩ : ∃ y, code.zag V0 = y := ⟨_, rfl⟩
      obtain ⟨Z1, eZ1⟩ : ∃ y, code.zag V1 = y := ⟨_, rfl⟩
      have EZ0 := hid eZ0
      have EZ1 := hid eZ1
      cases hB1 : code.getB (l.drop P0) with
      | false =>
        have hKf : rdB l = false := by unfold rdB; rw [eP, hB1]; simp
        have eK : K = false := by rw [← hK.out]; exact hKf
        have eN : N = 0 := by rw [← hN.out]; unfold rdN; rw [hKf]; rfl
        have eR : (0, 0, 0, 0, 0, 0) = (X0, X1, X2, X3, M0, M1) := by rw [← hR.out]; unfold rdR; rw [hKf]; rfl
        cases eR
        subst eK eN
        have EB1 := hid hB1
        clear hR hN hK hKf eV0 eN0 hB0 eV1 eN1 hB1 eZ0 eZ1 eP hs5' hr5 eP0 hP b01 b02 b03
        go_enter Try.func24, Try.ntmps24
        go_wp2_with (first
          | (refine wpList_copy_splice rfl (.tmp 12) (.tmp 13) 52 52 rfl 5 Try.underlying52 (by kernel_rfl) (some ⟨w.heap.size + 1, 0, none⟩) a 4 4 n c rfl rfl (w.heap.size + 1) 0 z6.toList 33 XX.out.2.2 (code.vals (l.take 4)) HVL.out HC.out HFT.out (code.vals_one _) (w.heap.size + 1) ((w.alloc (.cells z6 33)).alloc (.cells z6 33)) (Below.refl _ _) (Nat.le_refl _) ?_; intro w3 hg3 hb3; have RX : Hid (R2 w w3 #[.int .u8 q0, .int .u8 q1, .int .u8 q2, .int .u8 q3, .int .i64 0, .int .i64 0]) := hid (r2_copy hb3 XX.out (HSP.out ▸ hg3.out)); clear hg3 hb3; obtain ⟨c0, c1, c2, c3, c4, c5⟩ := box6 RX.out.2.2; obtain ⟨f0, f1, f2, f3, f4, f5⟩ := froz6 RX.out.2.2))
        refine wp_loop_rounds 2 ?_
        rw [rounds_succ]; go_wp2_with (first
          | (go_at_call 46; refine (get_m A4 (n - 4) (c - 4) (l.drop 4) _ V0 N0 true (R4.out.below RX.out.1) EV0 EN0 EB0).mono ?_; rintro e w5 ⟨rfl, hw⟩; have hw2 := hw.symm; clear hw; subst hw2)
          | (go_at_call 47; refine (zag_m V0 Z0 _ UV0 EZ0).mono ?_; rintro e w5 ⟨rfl, hw⟩; have hw2 := hw.symm; clear hw; subst hw2))
        have RY := hid (RX.out.put 4 (.int .i64 Z0))
        generalize w3.setCell ⟨w.heap.size + 1, 4, none⟩ (.int .i64 Z0) = W4 at RY ⊢
        obtain ⟨d0, d1, d2, d3, d4, d5⟩ := box6 RY.out.2.1
        obtain ⟨k0, k1, k2, k3, k4, k5⟩ := froz6 RY.out.2.1
        rw [rounds_succ]; go_wp2_with (first
          | (go_at_call 46; refine (get_m A5 (n - P0) (c - P0) (l.drop P0) _ V1 N1 false (R5.out.below RY.out.1) EV1 EN1 EB1).mono ?_; rintro e w5 ⟨rfl, hw⟩; have hw2 := hw.symm; clear hw; subst hw2))
        obtain ⟨r0, r1, r2, r3, r4, r5⟩ := box6 (six_store RY.out.2.1 (.int .u8 0) (.int .u8 0) (.int .u8 0) (.int .u8 0) (.int .i64 0) (.int .i64 0))
        exact bodyPost_ret (v := .tuple #[.agg z6, .int .i64 0, .bool false]) (by simp [results, Try.results24, go_sem, r0, r1, r2, r3, r4, r5]) rfl ⟨rfl, below6 RY.out.1 (Nat.le_refl _) _ _ _ _ _ _⟩
      | true =>
        have bd1 := getB_bd hB1
        rw [eN1] at bd1
        obtain ⟨b11, b12, b13⟩ := bd1
        rw [List.length_drop] at b13
        have hKt : rdB l = true := by unfold rdB; rw [eP, hB0, hB1, decide_eq_true hL4]; rfl
        have eK : K = true := by rw [← hK.out]; exact hKt
        have eN : N = 4 + N0 + N1 := by rw [← hN.out]; unfold rdN; rw [hKt, eP, eN0, eN1]; rfl
        have eR : (q0, q1, q2, q3, Z0, Z1) = (X0, X1, X2, X3, M0, M1) := by
          rw [← hR.out, HQ.out.1, HQ.out.2.1, HQ.out.2.2.1, HQ.out.2.2.2]; unfold rdR; rw [hKt, eP, eV0, eV1, eZ0, eZ1]; rfl
        simp only [Prod.mk.injEq] at eR
        obtain ⟨y0, y1, y2, y3, y4, y5⟩ := eR
        subst y0 y1 y2 y3 y4 y5
        subst eK
        have wN : IntKind.i64.wrap (4 + N0 + N1) = N := by rw [← eN]; exact IntWalk.i64_in _ (by have := EL.out; omega)
        have EB1 := hid hB1
        clear hR hN hK hKt eV0 eN0 hB0 eV1 eN1 hB1 eZ0 eZ1 eP hs5' hr5 eP0 hP b01 b02 b03 b11 b12 b13 eN
        go_enter Try.func24, Try.ntmps24
        go_wp2_with (first
          | (refine wpList_copy_splice rfl (.tmp 12) (.tmp 13) 52 52 rfl 5 Try.underlying52 (by kernel_rfl) (some ⟨w.heap.size + 1, 0, none⟩) a 4 4 n c rfl rfl (w.heap.size + 1) 0 z6.toList 33 XX.out.2.2 (code.vals (l.take 4)) HVL.out HC.out HFT.out (code.vals_one _) (w.heap.size + 1) ((w.alloc (.cells z6 33)).alloc (.cells z6 33)) (Below.refl _ _) (Nat.le_refl _) ?_; intro w3 hg3 hb3; have RX : Hid (R2 w w3 #[.int .u8 q0, .int .u8 q1, .int .u8 q2, .int .u8 q3, .int .i64 0, .int .i64 0]) := hid (r2_copy hb3 XX.out (HSP.out ▸ hg3.out)); clear hg3 hb3; obtain ⟨c0, c1, c2, c3, c4, c5⟩ := box6 RX.out.2.2; obtain ⟨f0, f1, f2, f3, f4, f5⟩ := froz6 RX.out.2.2))
        refine wp_loop_rounds 3 ?_
        rw [rounds_succ]; go_wp2_with (first
          | (go_at_call 46; refine (get_m A4 (n - 4) (c - 4) (l.drop 4) _ V0 N0 true (R4.out.below RX.out.1) EV0 EN0 EB0).mono ?_; rintro e w5 ⟨rfl, hw⟩; have hw2 := hw.symm; clear hw; subst hw2)
          | (go_at_call 47; refine (zag_m V0 Z0 _ UV0 EZ0).mono ?_; rintro e w5 ⟨rfl, hw⟩; have hw2 := hw.symm; clear hw; subst hw2))
        have RY := hid (RX.out.put 4 (.int .i64 Z0))
        generalize w3.setCell ⟨w.heap.size + 1, 4, none⟩ (.int .i64 Z0) = W4 at RY ⊢
        obtain ⟨d0, d1, d2, d3, d4, d5⟩ := box6 RY.out.2.2
        obtain ⟨k0, k1, k2, k3, k4, k5⟩ := froz6 RY.out.2.2
        rw [rounds_succ]; go_wp2_with (first
          | (go_at_call 46; refine (get_m A5 (n - P0) (c - P0) (l.drop P0) _ V1 N1 true (R5.out.below RY.out.1) EV1 EN1 EB1).mono ?_; rintro e w5 ⟨rfl, hw⟩; have hw2 := hw.symm; clear hw; subst hw2)
          | (go_at_call 47; refine (zag_m V1 Z1 _ UV1 EZ1).mono ?_; rintro e w5 ⟨rfl, hw⟩; have hw2 := hw.symm; clear hw; subst hw2))
        have RZ := hid (RY.out.put 5 (.int .i64 Z1))
        generalize W4.setCell ⟨w.heap.size + 1, 5, none⟩ (.int .i64 Z1) = W5 at RZ ⊢
        obtain ⟨g0, g1, g2, g3, g4, g5⟩ := box6 RZ.out.2.2
        obtain ⟨j0, j1, j2, j3, j4, j5⟩ := box6 RZ.out.2.1
        obtain ⟨p0, p1, p2, p3, p4, p5⟩ := froz6 RZ.out.2.1
        rw [rounds_succ]; go_wp2
        obtain ⟨r0, r1, r2, r3, r4, r5⟩ := box6 (six_store RZ.out.2.1 (.int .u8 q0) (.int .u8 q1) (.int .u8 q2) (.int .u8 q3) (.int .i64 Z0) (.int .i64 Z1))
        exact bodyPost_ret (v := .tuple #[.agg #[.int .u8 q0, .int .u8 q1, .int .u8 q2, .int .u8 q3, .int .i64 Z0, .int .i64 Z1], .int .i64 N, .bool true]) (by simp [results, Try.results24, go_sem, r0, r1, r2, r3, r4, r5]) rfl ⟨rfl, below6 RZ.out.1 (Nat.le_refl _) _ _ _ _ _ _⟩

end Go.Proofs.Ytikgbcdmeikjfaa

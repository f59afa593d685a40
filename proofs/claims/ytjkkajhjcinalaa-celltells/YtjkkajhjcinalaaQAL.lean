/-
  -
  Conditions: as each theorem states them.
-/
import Derived.Test.YtjkkajhjcinalaaQAK
namespace Go.Proofs.Ytjkkajhjcinalaa
open Go.ChangeShapes Go.WideShapes Go.ChangeAt Go.RowKit
set_option linter.unusedVariables false
set_option linter.unusedSimpArgs false
set_option maxRecDepth 100000

set_option maxHeartbeats 64000000 in
theorem tells_walk (m x0 x1 x2 x3 : Int) (cA : Cl) (a0 : Option Addr) (p0 k0 : Nat) (a1 : Option Addr) (p1 k1 : Nat) (cB : Cl) (b0 : Option Addr) (q0 j0 : Nat) (b1 : Option Addr) (q1 j1 : Nat) (a : Option Addr) (n c : Nat) (l : List Rw) (w : World)
    (hA : CW w a0 p0 k0 a1 p1 k1 cA) (hB : CW w b0 q0 j0 b1 q1 j1 cB) (okA : okc cA) (okB : okc cB) (hl : RRow w a n c l) (hkl : ∀ r ∈ l, rok r) :
    Calls Try.prog 3 #[.agg #[.int .i64 m, .int .i64 cA.n, .int .i64 cA.s0, .int .i64 cA.s1, .slice a0 p0 k0, .slice a1 p1 k1, .int .i64 cB.n, .int .i64 cB.s0, .int .i64 cB.s1, .slice b0 q0 j0, .slice b1 q1 j1, .int .u8 x0, .int .u8 x1, .int .u8 x2, .int .u8 x3], .slice a n c] w fun e w' => e = .returned (.bool true) ∧ Below w.heap.size w w' := by
  have HA := hid hA
  have HB := hid hB
  have OA := hid okA
  have OB := hid okB
  have HL := hid hl
  have KL := hid hkl
  obtain ⟨l1, l2⟩ := hl.lens
  have EL := hid l1
  have eql := eqL3
  have ba0 : p0 ≤ 9223372036854775807 := by have h1 := HA.out.1.2.1; have h2 := HA.out.1.2.2.1; unfold maxLen at h2; omega
  have ba1 : p1 ≤ 9223372036854775807 := by have h1 := HA.out.2.2.1; have h2 := HA.out.2.2.2.1; unfold maxLen at h2; omega
  have bb0 : q0 ≤ 9223372036854775807 := by have h1 := HB.out.1.2.1; have h2 := HB.out.1.2.2.1; unfold maxLen at h2; omega
  have bb1 : q1 ≤ 9223372036854775807 := by have h1 := HB.out.2.2.1; have h2 := HB.out.2.2.2.1; unfold maxLen at h2; omega
  have KX := hid (kp_new w (.cells #[.int .i64 m, .int .i64 cA.n, .int .i64 cA.s0, .int .i64 cA.s1, .slice a0 p0 k0, .slice a1 p1 k1, .int .i64 cB.n, .int .i64 cB.s0, .int .i64 cB.s1, .slice b0 q0 j0, .slice b1 q1 j1, .int .u8 x0, .int .u8 x1, .int .u8 x2, .int .u8 x3] 30))
  have tkA : True := trivial
  clear hl hkl l1 hA hB okA okB
  by_cases hLA : p0 ≤ 60 ∧ p1 ≤ 60
  · have HLA : Hid (decide (p0 ≤ 60 ∧ p1 ≤ 60) = true) := hid (decide_eq_true hLA)
    by_cases hLB : q0 ≤ 60 ∧ q1 ≤ 60
    · have HLB : Hid (decide (q0 ≤ 60 ∧ q1 ≤ 60) = true) := hid (decide_eq_true hLB)
      by_cases hbig : 40 < n
      · have PA := hid hLA
        have PB := hid hLB
        clear hLA hLB
        as_aux_lemma =>
        have hd1 : decide ((40 : Int) < (n : Int)) = true := decide_eq_true (by omega)
        have hi1 : (40 : Int) < (n : Int) := by omega
        go_enter Try.func3, Try.ntmps3
        go_upto_region 1 with fail
        generalize w.alloc (.cells #[.int .i64 m, .int .i64 cA.n, .int .i64 cA.s0, .int .i64 cA.s1, .slice a0 p0 k0, .slice a1 p1 k1, .int .i64 cB.n, .int .i64 cB.s0, .int .i64 cB.s1, .slice b0 q0 j0, .slice b1 q1 j1, .int .u8 x0, .int .u8 x1, .int .u8 x2, .int .u8 x3] 30) = W1 at KX ⊢
        obtain ⟨f0, f1, f2, f3, f4, f5, f6, f7, f8, f9, f10, f11, f12, f13, f14⟩ := box_15 KX.out.2.2
        go_wp2_with (first
          | (go_at_call 14; clear tkA; refine (light_m cA _ _ _ _ _ _ true _ ba0 ba1 HLA).mono ?_; rintro e w1 ⟨rfl, hb⟩; replace KX := hid (KX.out.step hb); clear hb f0 f1 f2 f3 f4 f5 f6 f7 f8 f9 f10 f11 f12 f13 f14; obtain ⟨f0, f1, f2, f3, f4, f5, f6, f7, f8, f9, f10, f11, f12, f13, f14⟩ := box_15 KX.out.2.2)
          | (go_at_call 14; refine (light_m cB _ _ _ _ _ _ true _ bb0 bb1 HLB).mono ?_; rintro e w1 ⟨rfl, hb⟩; replace KX := hid (KX.out.step hb); clear hb f0 f1 f2 f3 f4 f5 f6 f7 f8 f9 f10 f11 f12 f13 f14; obtain ⟨f0, f1, f2, f3, f4, f5, f6, f7, f8, f9, f10, f11, f12, f13, f14⟩ := box_15 KX.out.2.2)
          | (go_at_call 15; refine (wakes_any _).mono ?_; rintro e wW ⟨rfl, hb⟩; replace KX := hid (KX.out.step hb); clear hb))
        go_ret
        exact ⟨rfl, KX.out.1⟩
      · have hd1 : decide ((40 : Int) < (n : Int)) = false := decide_eq_false (by omega)
        have hi1 : (n : Int) ≤ 40 := by omega
        have PA := hid hLA
        have PB := hid hLB
        have n1 : n ≤ 1000 := by omega
        obtain ⟨hn, hhn⟩ : ∃ y, n / 2 = y := ⟨_, rfl⟩
        have hhn2 : hn ≤ n := by omega
        have n2 : hn ≤ 1000 := by omega
        have hq1 : (n : Int) / 2 = (hn : Int) := by omega
        have hq2 : (n : Int).tdiv 2 = (hn : Int) := by rw [Int.tdiv_eq_ediv_of_nonneg (by omega)]; omega
        have hq3 : IntKind.i64.wrap (hn : Int) = (hn : Int) := IntWalk.i64_in _ (by omega)
        have hq0 : (0 : Int) ≤ (hn : Int) := by omega
        obtain ⟨hrun, hrow⟩ := firstR HL.out hn hhn2
        have HL2 := hid hrow
        have KL2 : Hid (∀ r ∈ l.take hn, rok r) := hid (fun r hr => KL.out r (List.mem_of_mem_take hr))
        have EL2 : Hid ((l.take hn).length ≤ 40) := hid (by rw [List.length_take]; have := EL.out; omega)
        clear hLA hLB hbig hrow hhn
        go_enter Try.func3, Try.ntmps3
        go_upto_region 1 with fail
        generalize w.alloc (.cells #[.int .i64 m, .int .i64 cA.n, .int .i64 cA.s0, .int .i64 cA.s1, .slice a0 p0 k0, .slice a1 p1 k1, .int .i64 cB.n, .int .i64 cB.s0, .int .i64 cB.s1, .slice b0 q0 j0, .slice b1 q1 j1, .int .u8 x0, .int .u8 x1, .int .u8 x2, .int .u8 x3] 30) = W1 at KX ⊢
        obtain ⟨f0, f1, f2, f3, f4, f5, f6, f7, f8, f9, f10, f11, f12, f13, f14⟩ := box_15 KX.out.2.2
        go_upto_region 5 with (first
          | (go_at_call 14; clear tkA; refine (light_m cA _ _ _ _ _ _ true _ ba0 ba1 HLA).mono ?_; rintro e w1 ⟨rfl, hb⟩; replace KX := hid (KX.out.step hb); clear hb f0 f1 f2 f3 f4 f5 f6 f7 f8 f9 f10 f11 f12 f13 f14; obtain ⟨f0, f1, f2, f3, f4, f5, f6, f7, f8, f9, f10, f11, f12, f13, f14⟩ := box_15 KX.out.2.2)
          | (go_at_call 14; refine (light_m cB _ _ _ _ _ _ true _ bb0 bb1 HLB).mono ?_; rintro e w1 ⟨rfl, hb⟩; replace KX := hid (KX.out.step hb); clear hb f0 f1 f2 f3 f4 f5 f6 f7 f8 f9 f10 f11 f12 f13 f14; obtain ⟨f0, f1, f2, f3, f4, f5, f6, f7, f8, f9, f10, f11, f12, f13, f14⟩ := box_15 KX.out.2.2))
        clear f0 f1 f2 f3 f4 f5 f6 f7 f8 f9 f10 f11 f12 f13 f14
        rename World => W2
        have KF : Hid (Kp w (W2.alloc (.cells #[.int .i64 m, .int .i64 1, .int .i64 2] 3)) W2.heap.size (.cells #[.int .i64 m, .int .i64 1, .int .i64 2] 3)) := hid (kp_new2 KX.out.1 _ _ rfl)
        replace KX := hid (kp_alloc KX.out (.cells #[.int .i64 m, .int .i64 1, .int .i64 2] 3))
        generalize W2.alloc (.cells #[.int .i64 m, .int .i64 1, .int .i64 2] 3) = W3 at KX KF ⊢
        generalize W2.heap.size = NF at KF ⊢
        go_loopw [43] (fun j wr => ∃ (q : Nat), q ≤ 3 ∧ j = .int .i64 q ∧ Hid (Kp w wr w.heap.size (.cells #[.int .i64 m, .int .i64 cA.n, .int .i64 cA.s0, .int .i64 cA.s1, .slice a0 p0 k0, .slice a1 p1 k1, .int .i64 cB.n, .int .i64 cB.s0, .int .i64 cB.s1, .slice b0 q0 j0, .slice b1 q1 j1, .int .u8 x0, .int .u8 x1, .int .u8 x2, .int .u8 x3] 30)) ∧ Hid (Kp w wr NF (.cells #[.int .i64 m, .int .i64 1, .int .i64 2] 3))) (fun j _ => 3 - (intOf j).toNat)
        case atStart => exact ⟨0, by omega, rfl, KX, KF⟩
        case round =>
          obtain ⟨q, hq3', rfl, KX, KF⟩ := hrel
          have hqz : (0 : Int) ≤ (q : Int) := by omega
          by_cases hlt : q < 3
          · have hqi : (q : Int) < 3 := by omega
            have hqd : decide ((q : Int) < 3) = true := decide_eq_true hqi
            obtain ⟨m', hm'⟩ := three_pick KF.out.2.2 hlt
            obtain ⟨C1, hC1⟩ : ∃ y, ofC m' l = y := ⟨_, rfl⟩
            obtain ⟨C2, hC2⟩ : ∃ y, ofC m' (l.take hn) = y := ⟨_, rfl⟩
            obtain ⟨v1, hv1⟩ : ∃ y, ofB m' l = y := ⟨_, rfl⟩
            obtain ⟨v2, hv2⟩ : ∃ y, ofB m' (l.take hn) = y := ⟨_, rfl⟩
            have E1 := hid hC1
            have E2 := hid hC2
            have G1 := hid hv1
            have G2 := hid hv2
            have PC1w : Hid (Pos C1.b0 ∧ Pos C1.b1) := hid (by rw [← hC1]; exact ofC_pos (by have := EL.out; omega))
            have PC2w : Hid (Pos C2.b0 ∧ Pos C2.b1) := hid (by rw [← hC2]; exact ofC_pos (by have := EL2.out; omega))
            clear hC1 hC2 hv1 hv2
            go_upto_region 7 with fail
            clear hm'
            go_cut [8, 9] (fun p q wx => ∃ (N8 N9 : Nat) (r0 : Option Addr) (r1 r2 : Nat) (r3 : Option Addr) (r4 r5 : Nat) (s0 : Option Addr) (s1 s2 : Nat) (s3 : Option Addr) (s4 s5 : Nat), p = .pointer (some ⟨N8, 0, none⟩) ∧ q = .pointer (some ⟨N9, 0, none⟩) ∧ Hid (Kp w wx w.heap.size (.cells #[.int .i64 m, .int .i64 cA.n, .int .i64 cA.s0, .int .i64 cA.s1, .slice a0 p0 k0, .slice a1 p1 k1, .int .i64 cB.n, .int .i64 cB.s0, .int .i64 cB.s1, .slice b0 q0 j0, .slice b1 q1 j1, .int .u8 x0, .int .u8 x1, .int .u8 x2, .int .u8 x3] 30)) ∧ Hid (Kp w wx NF (.cells #[.int .i64 m, .int .i64 1, .int .i64 2] 3)) ∧ Hid (Kp w wx N8 (.cells #[.int .i64 C1.n, .int .i64 C1.s0, .int .i64 C1.s1, .slice r0 r1 r2, .slice r3 r4 r5, .bool v1] 36)) ∧ Hid (Kp w wx N9 (.cells #[.int .i64 C2.n, .int .i64 C2.s0, .int .i64 C2.s1, .slice s0 s1 s2, .slice s3 s4 s5, .bool v2] 36)) ∧ Hid (CW wx r0 r1 r2 r3 r4 r5 C1) ∧ Hid (CW wx s0 s1 s2 s3 s4 s5 C2))
            case first =>
                refine wp_region_noPanic ?_
                refine wp_region_held_drew (S := fun _ => True) (by kernel_rfl) (trivial) (fun hHeld => ?_)
                replace KX := hid (KX.out.step (bdrew (Below.refl _ _)))
                replace KF := hid (KF.out.step (bdrew (Below.refl _ _)))
                generalize wr.drew = wd at KX KF ⊢
                refine tk 0 (v := ?_) ?_ ?_
                rotate_left
                · intro w hSw; (try dsimp only at hSw); go_simp; (try with_reducible rfl)
                try simp only [Act.put, List.setIfInBounds_toArray, List.set_cons_zero, List.set_cons_succ]
                refine tk 1 (v := ?_) ?_ ?_
                rotate_left
                · intro w hSw; (try dsimp only at hSw); go_simp; (try with_reducible rfl)
                try simp only [Act.put, List.setIfInBounds_toArray, List.set_cons_zero, List.set_cons_succ]
                refine tk 3 (v := ?_) ?_ ?_
                rotate_left
                · intro w hSw; (try dsimp only at hSw); go_simp; (try with_reducible rfl)
                try simp only [Act.put, List.setIfInBounds_toArray, List.set_cons_zero, List.set_cons_succ]
                refine tk 4 (v := ?_) ?_ ?_
                rotate_left
                · intro w hSw; (try dsimp only at hSw); go_simp; (try with_reducible rfl)
                try simp only [Act.put, List.setIfInBounds_toArray, List.set_cons_zero, List.set_cons_succ]
                refine tk 5 (v := ?_) ?_ ?_
                rotate_left
                · intro w hSw; (try dsimp only at hSw); go_simp; (try with_reducible rfl)
                try simp only [Act.put, List.setIfInBounds_toArray, List.set_cons_zero, List.set_cons_succ]
                refine tk 6 (v := ?_) ?_ ?_
                rotate_left
                · intro w hSw; (try dsimp only at hSw); go_simp; (try with_reducible rfl)
                try simp only [Act.put, List.setIfInBounds_toArray, List.set_cons_zero, List.set_cons_succ]
                refine wpAnyH_ready (rs := [2, 8, 9]) (by kernel_rfl) (by simp) ?_
                refine (rdc (fun K hK => ?_) (rdc (fun K hK => ?_) (rdc (fun K hK => ?_) AllReadyH.nil)))
                · go_simp
                  go_at_call 16; refine (crof_m m' _ _ _ l C1 v1 _ (HL.out.below KX.out.1) KL.out n1 E1 G1).mono ?_; rintro e w_1 ⟨⟨r0, r1, r2, r3, r4, r5, rfl, hcw⟩, hb⟩
                  refine hK.out _ _ trivial (fun hHeld2 => ?_)
                  clear hK K hHeld2
                  have C1w := hid hcw
                  replace KX := hid (KX.out.step hb)
                  replace KF := hid (KF.out.step hb)
                  clear hcw hb
                  try simp only [Act.put, List.setIfInBounds_toArray, List.set_cons_zero, List.set_cons_succ]
                  refine wpAnyH_ready (rs := [7, 8, 9]) (by kernel_rfl) (by simp) ?_
                  refine (rdc (fun K hK => ?_) (rdc (fun K hK => ?_) (rdc (fun K hK => ?_) AllReadyH.nil)))
                  · go_simp
                    go_at_call 16; refine (crof_m m' _ _ _ (l.take hn) C2 v2 _ (HL2.out.below KX.out.1) KL2.out n2 E2 G2).mono ?_; rintro e w_2 ⟨⟨s0, s1, s2, s3, s4, s5, rfl, hcw⟩, hb⟩
                    refine hK.out _ _ trivial (fun hHeld2 => ?_)
                    clear hK K hHeld2
                    have C2w := hid hcw
                    replace KX := hid (KX.out.step hb)
                    replace KF := hid (KF.out.step hb)
                    replace C1w := hid (C1w.out.below hb)
                    clear hcw hb
                    try simp only [Act.put, List.setIfInBounds_toArray, List.set_cons_zero, List.set_cons_succ]
                    refine wpAnyH_ready (rs := [8, 9]) (by kernel_rfl) (by simp) ?_
                    refine (rdc (fun K hK => ?_) (rdc (fun K hK => ?_) AllReadyH.nil))
                    · go_simp
                      refine hK.out _ _ trivial (fun hHeld2 => ?_)
                      clear hK K hHeld2
                      have K8 : Hid (Kp w (w_2.alloc (.cells #[.int .i64 0, .int .i64 0, .int .i64 0, .slice none 0 0, .slice none 0 0, .bool false] 36)) w_2.heap.size (.cells #[.int .i64 0, .int .i64 0, .int .i64 0, .slice none 0 0, .slice none 0 0, .bool false] 36)) := hid (kp_new2 KX.out.1 _ _ rfl)
                      have l1 := heap_lt KX.out.2.2
                      have l2 := heap_lt KF.out.2.2
                      replace KX := hid (kp_alloc KX.out (.cells #[.int .i64 0, .int .i64 0, .int .i64 0, .slice none 0 0, .slice none 0 0, .bool false] 36))
                      replace KF := hid (kp_alloc KF.out (.cells #[.int .i64 0, .int .i64 0, .int .i64 0, .slice none 0 0, .slice none 0 0, .bool false] 36))
                      replace C1w := hid (C1w.out.below (b1alloc w_2 (.cells #[.int .i64 0, .int .i64 0, .int .i64 0, .slice none 0 0, .slice none 0 0, .bool false] 36)))
                      replace C2w := hid (C2w.out.below (b1alloc w_2 (.cells #[.int .i64 0, .int .i64 0, .int .i64 0, .slice none 0 0, .slice none 0 0, .bool false] 36)))
                      have DK8 := hid (And.intro l1 l2)
                      clear l1 l2
                      generalize w_2.alloc (.cells #[.int .i64 0, .int .i64 0, .int .i64 0, .slice none 0 0, .slice none 0 0, .bool false] 36) = w_3 at KX KF C1w C2w K8 ⊢
                      generalize w_2.heap.size = N8 at K8 DK8 ⊢
                      try simp only [Act.put, List.setIfInBounds_toArray, List.set_cons_zero, List.set_cons_succ]
                      refine rd1 9 (fun K hK => ?_)
                      go_simp
                      refine hK.out _ _ trivial (fun hHeld2 => ?_)
                      clear hK K hHeld2
                      have K9 : Hid (Kp w (w_3.alloc (.cells #[.int .i64 0, .int .i64 0, .int .i64 0, .slice none 0 0, .slice none 0 0, .bool false] 36)) w_3.heap.size (.cells #[.int .i64 0, .int .i64 0, .int .i64 0, .slice none 0 0, .slice none 0 0, .bool false] 36)) := hid (kp_new2 KX.out.1 _ _ rfl)
                      have l1 := heap_lt KX.out.2.2
                      have l2 := heap_lt KF.out.2.2
                      have l3 := heap_lt K8.out.2.2
                      replace KX := hid (kp_alloc KX.out (.cells #[.int .i64 0, .int .i64 0, .int .i64 0, .slice none 0 0, .slice none 0 0, .bool false] 36))
                      replace KF := hid (kp_alloc KF.out (.cells #[.int .i64 0, .int .i64 0, .int .i64 0, .slice none 0 0, .slice none 0 0, .bool false] 36))
                      replace K8 := hid (kp_alloc K8.out (.cells #[.int .i64 0, .int .i64 0, .int .i64 0, .slice none 0 0, .slice none 0 0, .bool false] 36))
                      replace C1w := hid (C1w.out.below (b1alloc w_3 (.cells #[.int .i64 0, .int .i64 0, .int .i64 0, .slice none 0 0, .slice none 0 0, .bool false] 36)))
                      replace C2w := hid (C2w.out.below (b1alloc w_3 (.cells #[.int .i64 0, .int .i64 0, .int .i64 0, .slice none 0 0, .slice none 0 0, .bool false] 36)))
                      have DK9 := hid (And.intro l1 l2)
                      have D89 := hid l3
                      clear l1 l2 l3
                      generalize w_3.alloc (.cells #[.int .i64 0, .int .i64 0, .int .i64 0, .slice none 0 0, .slice none 0 0, .bool false] 36) = w_4 at KX KF K8 C1w C2w K9 ⊢
                      generalize w_3.heap.size = N9 at K9 DK9 D89 ⊢
                      try simp only [Act.put, List.setIfInBounds_toArray, List.set_cons_zero, List.set_cons_succ]
                      refine rd1 10 (fun K hK => ?_)
                      refine ite_goz (by first | rfl | kernel_rfl) ?_
                      refine wp_store_wholez 36 (.tmp 8) (.tmp 49) rfl N8 (rcC C1.n C1.s0 C1.s1 r0 r1 r2 r3 r4 r5 v1) rfl rfl 36 _ K8.out.2.2 rfl (by show _ = some 6; exact size_rc) (rcC_one _ _ _ _ _ _ _ _ _ _) ?_
                      intro w_5 hp6 g6
                      refine hK.out _ _ trivial (fun hHeld2 => ?_)
                      clear hK K hHeld2
                      have nz := no_zr (fun _ h => by cases h) (fun _ h => by cases h) (fun _ h => by cases h) K8.out.2.2
                      replace KX := hid (kp_gr KX.out g6 (Nat.ne_of_lt DK8.out.1) (Nat.le_of_lt DK8.out.1))
                      replace KF := hid (kp_gr KF.out g6 (Nat.ne_of_lt DK8.out.2) (Nat.le_of_lt DK8.out.1))
                      replace K9 := hid (kp_gr K9.out g6 (by have := D89.out; omega) (Nat.le_of_lt DK8.out.1))
                      replace C1w := hid (cw_off C1w.out g6 nz PC1w.out)
                      replace C2w := hid (cw_off C2w.out g6 nz PC2w.out)
                      replace K8 := hid (kp_at K8.out g6 hp6)
                      clear g6 nz hp6
                      try simp only [Act.put, List.setIfInBounds_toArray, List.set_cons_zero, List.set_cons_succ]
                      refine rd1 11 (fun K hK => ?_)
                      refine ite_goz (by first | rfl | kernel_rfl) ?_
                      refine wp_store_wholez 36 (.tmp 9) (.tmp 54) rfl N9 (rcC C2.n C2.s0 C2.s1 s0 s1 s2 s3 s4 s5 v2) rfl rfl 36 _ K9.out.2.2 rfl (by show _ = some 6; exact size_rc) (rcC_one _ _ _ _ _ _ _ _ _ _) ?_
                      intro w_6 hp6 g6
                      refine hK.out _ _ trivial (fun hHeld2 => ?_)
                      clear hK K hHeld2
                      have nz := no_zr (fun _ h => by cases h) (fun _ h => by cases h) (fun _ h => by cases h) K9.out.2.2
                      replace KX := hid (kp_gr KX.out g6 (Nat.ne_of_lt DK9.out.1) (Nat.le_of_lt DK9.out.1))
                      replace KF := hid (kp_gr KF.out g6 (Nat.ne_of_lt DK9.out.2) (Nat.le_of_lt DK9.out.1))
                      replace K8 := hid (kp_gr K8.out g6 (by have := D89.out; omega) (Nat.le_of_lt DK9.out.1))
                      replace C1w := hid (cw_off C1w.out g6 nz PC1w.out)
                      replace C2w := hid (cw_off C2w.out g6 nz PC2w.out)
                      replace K9 := hid (kp_at K9.out g6 hp6)
                      clear g6 nz hp6
                      try simp only [Act.put, List.setIfInBounds_toArray, List.set_cons_zero, List.set_cons_succ]
                      refine wpAnyH_done (by kernel_rfl) ?_ _
                      refine NoPanic.normal ?_
                      try go_wp2_with fail
                      go_meet
                      exact ⟨N8, N9, r0, r1, r2, r3, r4, r5, s0, s1, s2, s3, s4, s5, rfl, rfl, KX, KF, K8, K9, C1w, C2w⟩
                    · go_simp
                      refine hK.out _ _ trivial (fun hHeld2 => ?_)
                      clear hK K hHeld2
                      have K9 : Hid (Kp w (w_2.alloc (.cells #[.int .i64 0, .int .i64 0, .int .i64 0, .slice none 0 0, .slice none 0 0, .bool false] 36)) w_2.heap.size (.cells #[.int .i64 0, .int .i64 0, .int .i64 0, .slice none 0 0, .slice none 0 0, .bool false] 36)) := hid (kp_new2 KX.out.1 _ _ rfl)
                      have l1 := heap_lt KX.out.2.2
                      have l2 := heap_lt KF.out.2.2
                      replace KX := hid (kp_alloc KX.out (.cells #[.int .i64 0, .int .i64 0, .int .i64 0, .slice none 0 0, .slice none 0 0, .bool false] 36))
                      replace KF := hid (kp_alloc KF.out (.cells #[.int .i64 0, .int .i64 0, .int .i64 0, .slice none 0 0, .slice none 0 0, .bool false] 36))
                      replace C1w := hid (C1w.out.below (b1alloc w_2 (.cells #[.int .i64 0, .int .i64 0, .int .i64 0, .slice none 0 0, .slice none 0 0, .bool false] 36)))
                      replace C2w := hid (C2w.out.below (b1alloc w_2 (.cells #[.int .i64 0, .int .i64 0, .int .i64 0, .slice none 0 0, .slice none 0 0, .bool false] 36)))
                      have DK9 := hid (And.intro l1 l2)
                      clear l1 l2
                      generalize w_2.alloc (.cells #[.int .i64 0, .int .i64 0, .int .i64 0, .slice none 0 0, .slice none 0 0, .bool false] 36) = w_3 at KX KF C1w C2w K9 ⊢
                      generalize w_2.heap.size = N9 at K9 DK9 ⊢
                      try simp only [Act.put, List.setIfInBounds_toArray, List.set_cons_zero, List.set_cons_succ]
                      refine rd1 8 (fun K hK => ?_)
                      go_simp
                      refine hK.out _ _ trivial (fun hHeld2 => ?_)
                      clear hK K hHeld2
                      have K8 : Hid (Kp w (w_3.alloc (.cells #[.int .i64 0, .int .i64 0, .int .i64 0, .slice none 0 0, .slice none 0 0, .bool false] 36)) w_3.heap.size (.cells #[.int .i64 0, .int .i64 0, .int .i64 0, .slice none 0 0, .slice none 0 0, .bool false] 36)) := hid (kp_new2 KX.out.1 _ _ rfl)
                      have l1 := heap_lt KX.out.2.2
                      have l2 := heap_lt KF.out.2.2
                      have l3 := heap_lt K9.out.2.2
                      replace KX := hid (kp_alloc KX.out (.cells #[.int .i64 0, .int .i64 0, .int .i64 0, .slice none 0 0, .slice none 0 0, .bool false] 36))
                      replace KF := hid (kp_alloc KF.out (.cells #[.int .i64 0, .int .i64 0, .int .i64 0, .slice none 0 0, .slice none 0 0, .bool false] 36))
                      replace K9 := hid (kp_alloc K9.out (.cells #[.int .i64 0, .int .i64 0, .int .i64 0, .slice none 0 0, .slice none 0 0, .bool false] 36))
                      replace C1w := hid (C1w.out.below (b1alloc w_3 (.cells #[.int .i64 0, .int .i64 0, .int .i64 0, .slice none 0 0, .slice none 0 0, .bool false] 36)))
                      replace C2w := hid (C2w.out.below (b1alloc w_3 (.cells #[.int .i64 0, .int .i64 0, .int .i64 0, .slice none 0 0, .slice none 0 0, .bool false] 36)))
                      have DK8 := hid (And.intro l1 l2)
                      have D89 := hid l3
                      clear l1 l2 l3
                      generalize w_3.alloc (.cells #[.int .i64 0, .int .i64 0, .int .i64 0, .slice none 0 0, .slice none 0 0, .bool false] 36) = w_4 at KX KF K9 C1w C2w K8 ⊢
                      generalize w_3.heap.size = N8 at K8 DK8 D89 ⊢
                      try simp only [Act.put, List.setIfInBounds_toArray, List.set_cons_zero, List.set_cons_succ]
                      refine rd1 10 (fun K hK => ?_)
                      refine ite_goz (by first | rfl | kernel_rfl) ?_
                      refine wp_store_wholez 36 (.tmp 8) (.tmp 49) rfl N8 (rcC C1.n C1.s0 C1.s1 r0 r1 r2 r3 r4 r5 v1) rfl rfl 36 _ K8.out.2.2 rfl (by show _ = some 6; exact size_rc) (rcC_one _ _ _ _ _ _ _ _ _ _) ?_
                      intro w_5 hp6 g6
                      refine hK.out _ _ trivial (fun hHeld2 => ?_)
                      clear hK K hHeld2
                      have nz := no_zr (fun _ h => by cases h) (fun _ h => by cases h) (fun _ h => by cases h) K8.out.2.2
                      replace KX := hid (kp_gr KX.out g6 (Nat.ne_of_lt DK8.out.1) (Nat.le_of_lt DK8.out.1))
                      replace KF := hid (kp_gr KF.out g6 (Nat.ne_of_lt DK8.out.2) (Nat.le_of_lt DK8.out.1))
                      replace K9 := hid (kp_gr K9.out g6 (by have := D89.out; omega) (Nat.le_of_lt DK8.out.1))
                      replace C1w := hid (cw_off C1w.out g6 nz PC1w.out)
                      replace C2w := hid (cw_off C2w.out g6 nz PC2w.out)
                      replace K8 := hid (kp_at K8.out g6 hp6)
                      clear g6 nz hp6
                      try simp only [Act.put, List.setIfInBounds_toArray, List.set_cons_zero, List.set_cons_succ]
                      refine rd1 11 (fun K hK => ?_)
                      refine ite_goz (by first | rfl | kernel_rfl) ?_
                      refine wp_store_wholez 36 (.tmp 9) (.tmp 54) rfl N9 (rcC C2.n C2.s0 C2.s1 s0 s1 s2 s3 s4 s5 v2) rfl rfl 36 _ K9.out.2.2 rfl (by show _ = some 6; exact size_rc) (rcC_one _ _ _ _ _ _ _ _ _ _) ?_
                      intro w_6 hp6 g6
                      refine hK.out _ _ trivial (fun hHeld2 => ?_)
                      clear hK K hHeld2
                      have nz := no_zr (fun _ h => by cases h) (fun _ h => by cases h) (fun _ h => by cases h) K9.out.2.2
                      replace KX := hid (kp_gr KX.out g6 (Nat.ne_of_lt DK9.out.1) (Nat.le_of_lt DK9.out.1))
                      replace KF := hid (kp_gr KF.out g6 (Nat.ne_of_lt DK9.out.2) (Nat.le_of_lt DK9.out.1))
                      replace K8 := hid (kp_gr K8.out g6 (by have := D89.out; omega) (Nat.le_of_lt DK9.out.1))
                      replace C1w := hid (cw_off C1w.out g6 nz PC1w.out)
                      replace C2w := hid (cw_off C2w.out g6 nz PC2w.out)
                      replace K9 := hid (kp_at K9.out g6 hp6)
                      clear g6 nz hp6
                      try simp only [Act.put, List.setIfInBounds_toArray, List.set_cons_zero, List.set_cons_succ]
                      refine wpAnyH_done (by kernel_rfl) ?_ _
                      refine NoPanic.normal ?_
                      try go_wp2_with fail
                      go_meet
                      exact ⟨N8, N9, r0, r1, r2, r3, r4, r5, s0, s1, s2, s3, s4, s5, rfl, rfl, KX, KF, K8, K9, C1w, C2w⟩
                  · go_simp
                    refine hK.out _ _ trivial (fun hHeld2 => ?_)
                    clear hK K hHeld2
                    have K8 : Hid (Kp w (w_1.alloc (.cells #[.int .i64 0, .int .i64 0, .int .i64 0, .slice none 0 0, .slice none 0 0, .bool false] 36)) w_1.heap.size (.cells #[.int .i64 0, .int .i64 0, .int .i64 0, .slice none 0 0, .slice none 0 0, .bool false] 36)) := hid (kp_new2 KX.out.1 _ _ rfl)
                    have l1 := heap_lt KX.out.2.2
                    have l2 := heap_lt KF.out.2.2
                    replace KX := hid (kp_alloc KX.out (.cells #[.int .i64 0, .int .i64 0, .int .i64 0, .slice none 0 0, .slice none 0 0, .bool false] 36))
                    replace KF := hid (kp_alloc KF.out (.cells #[.int .i64 0, .int .i64 0, .int .i64 0, .slice none 0 0, .slice none 0 0, .bool false] 36))
                    replace C1w := hid (C1w.out.below (b1alloc w_1 (.cells #[.int .i64 0, .int .i64 0, .int .i64 0, .slice none 0 0, .slice none 0 0, .bool false] 36)))
                    have DK8 := hid (And.intro l1 l2)
                    clear l1 l2
                    generalize w_1.alloc (.cells #[.int .i64 0, .int .i64 0, .int .i64 0, .slice none 0 0, .slice none 0 0, .bool false] 36) = w_2 at KX KF C1w K8 ⊢
                    generalize w_1.heap.size = N8 at K8 DK8 ⊢
                    try simp only [Act.put, List.setIfInBounds_toArray, List.set_cons_zero, List.set_cons_succ]
                    refine wpAnyH_ready (rs := [7, 9]) (by kernel_rfl) (by simp) ?_
                    refine (rdc (fun K hK => ?_) (rdc (fun K hK => ?_) AllReadyH.nil))
                    · go_simp
                      go_at_call 16; refine (crof_m m' _ _ _ (l.take hn) C2 v2 _ (HL2.out.below KX.out.1) KL2.out n2 E2 G2).mono ?_; rintro e w_3 ⟨⟨s0, s1, s2, s3, s4, s5, rfl, hcw⟩, hb⟩
                      refine hK.out _ _ trivial (fun hHeld2 => ?_)
                      clear hK K hHeld2
                      have C2w := hid hcw
                      replace KX := hid (KX.out.step hb)
                      replace KF := hid (KF.out.step hb)
                      replace K8 := hid (K8.out.step hb)
                      replace C1w := hid (C1w.out.below hb)
                      clear hcw hb
                      try simp only [Act.put, List.setIfInBounds_toArray, List.set_cons_zero, List.set_cons_succ]
                      refine rd1 9 (fun K hK => ?_)
                      go_simp
                      refine hK.out _ _ trivial (fun hHeld2 => ?_)
                      clear hK K hHeld2
                      have K9 : Hid (Kp w (w_3.alloc (.cells #[.int .i64 0, .int .i64 0, .int .i64 0, .slice none 0 0, .slice none 0 0, .bool false] 36)) w_3.heap.size (.cells #[.int .i64 0, .int .i64 0, .int .i64 0, .slice none 0 0, .slice none 0 0, .bool false] 36)) := hid (kp_new2 KX.out.1 _ _ rfl)
                      have l1 := heap_lt KX.out.2.2
                      have l2 := heap_lt KF.out.2.2
                      have l3 := heap_lt K8.out.2.2
                      replace KX := hid (kp_alloc KX.out (.cells #[.int .i64 0, .int .i64 0, .int .i64 0, .slice none 0 0, .slice none 0 0, .bool false] 36))
                      replace KF := hid (kp_alloc KF.out (.cells #[.int .i64 0, .int .i64 0, .int .i64 0, .slice none 0 0, .slice none 0 0, .bool false] 36))
                      replace K8 := hid (kp_alloc K8.out (.cells #[.int .i64 0, .int .i64 0, .int .i64 0, .slice none 0 0, .slice none 0 0, .bool false] 36))
                      replace C1w := hid (C1w.out.below (b1alloc w_3 (.cells #[.int .i64 0, .int .i64 0, .int .i64 0, .slice none 0 0, .slice none 0 0, .bool false] 36)))
                      replace C2w := hid (C2w.out.below (b1alloc w_3 (.cells #[.int .i64 0, .int .i64 0, .int .i64 0, .slice none 0 0, .slice none 0 0, .bool false] 36)))
                      have DK9 := hid (And.intro l1 l2)
                      have D89 := hid l3
                      clear l1 l2 l3
                      generalize w_3.alloc (.cells #[.int .i64 0, .int .i64 0, .int .i64 0, .slice none 0 0, .slice none 0 0, .bool false] 36) = w_4 at KX KF K8 C1w C2w K9 ⊢
                      generalize w_3.heap.size = N9 at K9 DK9 D89 ⊢
                      try simp only [Act.put, List.setIfInBounds_toArray, List.set_cons_zero, List.set_cons_succ]
                      refine rd1 10 (fun K hK => ?_)
                      refine ite_goz (by first | rfl | kernel_rfl) ?_
                      refine wp_store_wholez 36 (.tmp 8) (.tmp 49) rfl N8 (rcC C1.n C1.s0 C1.s1 r0 r1 r2 r3 r4 r5 v1) rfl rfl 36 _ K8.out.2.2 rfl (by show _ = some 6; exact size_rc) (rcC_one _ _ _ _ _ _ _ _ _ _) ?_
                      intro w_5 hp6 g6
                      refine hK.out _ _ trivial (fun hHeld2 => ?_)
                      clear hK K hHeld2
                      have nz := no_zr (fun _ h => by cases h) (fun _ h => by cases h) (fun _ h => by cases h) K8.out.2.2
                      replace KX := hid (kp_gr KX.out g6 (Nat.ne_of_lt DK8.out.1) (Nat.le_of_lt DK8.out.1))
                      replace KF := hid (kp_gr KF.out g6 (Nat.ne_of_lt DK8.out.2) (Nat.le_of_lt DK8.out.1))
                      replace K9 := hid (kp_gr K9.out g6 (by have := D89.out; omega) (Nat.le_of_lt DK8.out.1))
                      replace C1w := hid (cw_off C1w.out g6 nz PC1w.out)
                      replace C2w := hid (cw_off C2w.out g6 nz PC2w.out)
                      replace K8 := hid (kp_at K8.out g6 hp6)
                      clear g6 nz hp6
                      try simp only [Act.put, List.setIfInBounds_toArray, List.set_cons_zero, List.set_cons_succ]
                      refine rd1 11 (fun K hK => ?_)
                      refine ite_goz (by first | rfl | kernel_rfl) ?_
                      refine wp_store_wholez 36 (.tmp 9) (.tmp 54) rfl N9 (rcC C2.n C2.s0 C2.s1 s0 s1 s2 s3 s4 s5 v2) rfl rfl 36 _ K9.out.2.2 rfl (by show _ = some 6; exact size_rc) (rcC_one _ _ _ _ _ _ _ _ _ _) ?_
                      intro w_6 hp6 g6
                      refine hK.out _ _ trivial (fun hHeld2 => ?_)
                      clear hK K hHeld2
                      have nz := no_zr (fun _ h => by cases h) (fun _ h => by cases h) (fun _ h => by cases h) K9.out.2.2
                      replace KX := hid (kp_gr KX.out g6 (Nat.ne_of_lt DK9.out.1) (Nat.le_of_lt DK9.out.1))
                      replace KF := hid (kp_gr KF.out g6 (Nat.ne_of_lt DK9.out.2) (Nat.le_of_lt DK9.out.1))
                      replace K8 := hid (kp_gr K8.out g6 (by have := D89.out; omega) (Nat.le_of_lt DK9.out.1))
                      replace C1w := hid (cw_off C1w.out g6 nz PC1w.out)
                      replace C2w := hid (cw_off C2w.out g6 nz PC2w.out)
                      replace K9 := hid (kp_at K9.out g6 hp6)
                      clear g6 nz hp6
                      try simp only [Act.put, List.setIfInBounds_toArray, List.set_cons_zero, List.set_cons_succ]
                      refine wpAnyH_done (by kernel_rfl) ?_ _
                      refine NoPanic.normal ?_
                      try go_wp2_with fail
                      go_meet
                      exact ⟨N8, N9, r0, r1, r2, r3, r4, r5, s0, s1, s2, s3, s4, s5, rfl, rfl, KX, KF, K8, K9, C1w, C2w⟩
                    · go_simp
                      refine hK.out _ _ trivial (fun hHeld2 => ?_)
                      clear hK K hHeld2
                      have K9 : Hid (Kp w (w_2.alloc (.cells #[.int .i64 0, .int .i64 0, .int .i64 0, .slice none 0 0, .slice none 0 0, .bool false] 36)) w_2.heap.size (.cells #[.int .i64 0, .int .i64 0, .int .i64 0, .slice none 0 0, .slice none 0 0, .bool false] 36)) := hid (kp_new2 KX.out.1 _ _ rfl)
                      have l1 := heap_lt KX.out.2.2
                      have l2 := heap_lt KF.out.2.2
                      have l3 := heap_lt K8.out.2.2
                      replace KX := hid (kp_alloc KX.out (.cells #[.int .i64 0, .int .i64 0, .int .i64 0, .slice none 0 0, .slice none 0 0, .bool false] 36))
                      replace KF := hid (kp_alloc KF.out (.cells #[.int .i64 0, .int .i64 0, .int .i64 0, .slice none 0 0, .slice none 0 0, .bool false] 36))
                      replace K8 := hid (kp_alloc K8.out (.cells #[.int .i64 0, .int .i64 0, .int .i64 0, .slice none 0 0, .slice none 0 0, .bool false] 36))
                      replace C1w := hid (C1w.out.below (b1alloc w_2 (.cells #[.int .i64 0, .int .i64 0, .int .i64 0, .slice none 0 0, .slice none 0 0, .bool false] 36)))
                      have DK9 := hid (And.intro l1 l2)
                      have D89 := hid l3
                      clear l1 l2 l3
                      generalize w_2.alloc (.cells #[.int .i64 0, .int .i64 0, .int .i64 0, .slice none 0 0, .slice none 0 0, .bool false] 36) = w_3 at KX KF K8 C1w K9 ⊢
                      generalize w_2.heap.size = N9 at K9 DK9 D89 ⊢
                      try simp only [Act.put, List.setIfInBounds_toArray, List.set_cons_zero, List.set_cons_succ]
                      refine rd1 7 (fun K hK => ?_)
                      go_simp
                      go_at_call 16; refine (crof_m m' _ _ _ (l.take hn) C2 v2 _ (HL2.out.below KX.out.1) KL2.out n2 E2 G2).mono ?_; rintro e w_4 ⟨⟨s0, s1, s2, s3, s4, s5, rfl, hcw⟩, hb⟩
                      refine hK.out _ _ trivial (fun hHeld2 => ?_)
                      clear hK K hHeld2
                      have C2w := hid hcw
                      replace KX := hid (KX.out.step hb)
                      replace KF := hid (KF.out.step hb)
                      replace K8 := hid (K8.out.step hb)
                      replace K9 := hid (K9.out.step hb)
                      replace C1w := hid (C1w.out.below hb)
                      clear hcw hb
                      try simp only [Act.put, List.setIfInBounds_toArray, List.set_cons_zero, List.set_cons_succ]
                      refine rd1 10 (fun K hK => ?_)
                      refine ite_goz (by first | rfl | kernel_rfl) ?_
                      refine wp_store_wholez 36 (.tmp 8) (.tmp 49) rfl N8 (rcC C1.n C1.s0 C1.s1 r0 r1 r2 r3 r4 r5 v1) rfl rfl 36 _ K8.out.2.2 rfl (by show _ = some 6; exact size_rc) (rcC_one _ _ _ _ _ _ _ _ _ _) ?_
                      intro w_5 hp6 g6
                      refine hK.out _ _ trivial (fun hHeld2 => ?_)
                      clear hK K hHeld2
                      have nz := no_zr (fun _ h => by cases h) (fun _ h => by cases h) (fun _ h => by cases h) K8.out.2.2
                      replace KX := hid (kp_gr KX.out g6 (Nat.ne_of_lt DK8.out.1) (Nat.le_of_lt DK8.out.1))
                      replace KF := hid (kp_gr KF.out g6 (Nat.ne_of_lt DK8.out.2) (Nat.le_of_lt DK8.out.1))
                      replace K9 := hid (kp_gr K9.out g6 (by have := D89.out; omega) (Nat.le_of_lt DK8.out.1))
                      replace C1w := hid (cw_off C1w.out g6 nz PC1w.out)
                      replace C2w := hid (cw_off C2w.out g6 nz PC2w.out)
                      replace K8 := hid (kp_at K8.out g6 hp6)
                      clear g6 nz hp6
                      try simp only [Act.put, List.setIfInBounds_toArray, List.set_cons_zero, List.set_cons_succ]
                      refine rd1 11 (fun K hK => ?_)
                      refine ite_goz (by first | rfl | kernel_rfl) ?_
                      refine wp_store_wholez 36 (.tmp 9) (.tmp 54) rfl N9 (rcC C2.n C2.s0 C2.s1 s0 s1 s2 s3 s4 s5 v2) rfl rfl 36 _ K9.out.2.2 rfl (by show _ = some 6; exact size_rc) (rcC_one _ _ _ _ _ _ _ _ _ _) ?_
                      intro w_6 hp6 g6
                      refine hK.out _ _ trivial (fun hHeld2 => ?_)
                      clear hK K hHeld2
                      have nz := no_zr (fun _ h => by cases h) (fun _ h => by cases h) (fun _ h => by cases h) K9.out.2.2
                      replace KX := hid (kp_gr KX.out g6 (Nat.ne_of_lt DK9.out.1) (Nat.le_of_lt DK9.out.1))
                      replace KF := hid (kp_gr KF.out g6 (Nat.ne_of_lt DK9.out.2) (Nat.le_of_lt DK9.out.1))
                      replace K8 := hid (kp_gr K8.out g6 (by have := D89.out; omega) (Nat.le_of_lt DK9.out.1))
                      replace C1w := hid (cw_off C1w.out g6 nz PC1w.out)
                      replace C2w := hid (cw_off C2w.out g6 nz PC2w.out)
                      replace K9 := hid (kp_at K9.out g6 hp6)
                      clear g6 nz hp6
                      try simp only [Act.put, List.setIfInBounds_toArray, List.set_cons_zero, List.set_cons_succ]
                      refine wpAnyH_done (by kernel_rfl) ?_ _
                      refine NoPanic.normal ?_
                      try go_wp2_with fail
                      go_meet
                      exact ⟨N8, N9, r0, r1, r2, r3, r4, r5, s0, s1, s2, s3, s4, s5, rfl, rfl, KX, KF, K8, K9, C1w, C2w⟩
                  · go_simp
                    refine hK.out _ _ trivial (fun hHeld2 => ?_)
                    clear hK K hHeld2
                    have K9 : Hid (Kp w (w_1.alloc (.cells #[.int .i64 0, .int .i64 0, .int .i64 0, .slice none 0 0, .slice none 0 0, .bool false] 36)) w_1.heap.size (.cells #[.int .i64 0, .int .i64 0, .int .i64 0, .slice none 0 0, .slice none 0 0, .bool false] 36)) := hid (kp_new2 KX.out.1 _ _ rfl)
                    have l1 := heap_lt KX.out.2.2
                    have l2 := heap_lt KF.out.2.2
                    replace KX := hid (kp_alloc KX.out (.cells #[.int .i64 0, .int .i64 0, .int .i64 0, .slice none 0 0, .slice none 0 0, .bool false] 36))
                    replace KF := hid (kp_alloc KF.out (.cells #[.int .i64 0, .int .i64 0, .int .i64 0, .slice none 0 0, .slice none 0 0, .bool false] 36))
                    replace C1w := hid (C1w.out.below (b1alloc w_1 (.cells #[.int .i64 0, .int .i64 0, .int .i64 0, .slice none 0 0, .slice none 0 0, .bool false] 36)))
                    have DK9 := hid (And.intro l1 l2)
                    clear l1 l2
                    generalize w_1.alloc (.cells #[.int .i64 0, .int .i64 0, .int .i64 0, .slice none 0 0, .slice none 0 0, .bool false] 36) = w_2 at KX KF C1w K9 ⊢
                    generalize w_1.heap.size = N9 at K9 DK9 ⊢
                    try simp only [Act.put, List.setIfInBounds_toArray, List.set_cons_zero, List.set_cons_succ]
                    refine wpAnyH_ready (rs := [7, 8]) (by kernel_rfl) (by simp) ?_
                    refine (rdc (fun K hK => ?_) (rdc (fun K hK => ?_) AllReadyH.nil))
                    · go_simp
                      go_at_call 16; refine (crof_m m' _ _ _ (l.take hn) C2 v2 _ (HL2.out.below KX.out.1) KL2.out n2 E2 G2).mono ?_; rintro e w_3 ⟨⟨s0, s1, s2, s3, s4, s5, rfl, hcw⟩, hb⟩
                      refine hK.out _ _ trivial (fun hHeld2 => ?_)
                      clear hK K hHeld2
                      have C2w := hid hcw
                      replace KX := hid (KX.out.step hb)
                      replace KF := hid (KF.out.step hb)
                      replace K9 := hid (K9.out.step hb)
                      replace C1w := hid (C1w.out.below hb)
                      clear hcw hb
                      try simp only [Act.put, List.setIfInBounds_toArray, List.set_cons_zero, List.set_cons_succ]
                      refine rd1 8 (fun K hK => ?_)
                      go_simp
                      refine hK.out _ _ trivial (fun hHeld2 => ?_)
                      clear hK K hHeld2
                      have K8 : Hid (Kp w (w_3.alloc (.cells #[.int .i64 0, .int .i64 0, .int .i64 0, .slice none 0 0, .slice none 0 0, .bool false] 36)) w_3.heap.size (.cells #[.int .i64 0, .int .i64 0, .int .i64 0, .slice none 0 0, .slice none 0 0, .bool false] 36)) := hid (kp_new2 KX.out.1 _ _ rfl)
                      have l1 := heap_lt KX.out.2.2
                      have l2 := heap_lt KF.out.2.2
                      have l3 := heap_lt K9.out.2.2
                      replace KX := hid (kp_alloc KX.out (.cells #[.int .i64 0, .int .i64 0, .int .i64 0, .slice none 0 0, .slice none 0 0, .bool false] 36))
                      replace KF := hid (kp_alloc KF.out (.cells #[.int .i64 0, .int .i64 0, .int .i64 0, .slice none 0 0, .slice none 0 0, .bool false] 36))
                      replace K9 := hid (kp_alloc K9.out (.cells #[.int .i64 0, .int .i64 0, .int .i64 0, .slice none 0 0, .slice none 0 0, .bool false] 36))
                      replace C1w := hid (C1w.out.below (b1alloc w_3 (.cells #[.int .i64 0, .int .i64 0, .int .i64 0, .slice none 0 0, .slice none 0 0, .bool false] 36)))
                      replace C2w := hid (C2w.out.below (b1alloc w_3 (.cells #[.int .i64 0, .int .i64 0, .int .i64 0, .slice none 0 0, .slice none 0 0, .bool false] 36)))
                      have DK8 := hid (And.intro l1 l2)
                      have D89 := hid l3
                      clear l1 l2 l3
                      generalize w_3.alloc (.cells #[.int .i64 0, .int .i64 0, .int .i64 0, .slice none 0 0, .slice none 0 0, .bool false] 36) = w_4 at KX KF K9 C1w C2w K8 ⊢
                      generalize w_3.heap.size = N8 at K8 DK8 D89 ⊢
                      try simp only [Act.put, List.setIfInBounds_toArray, List.set_cons_zero, List.set_cons_succ]
                      refine rd1 10 (fun K hK => ?_)
                      refine ite_goz (by first | rfl | kernel_rfl) ?_
                      refine wp_store_wholez 36 (.tmp 8) (.tmp 49) rfl N8 (rcC C1.n C1.s0 C1.s1 r0 r1 r2 r3 r4 r5 v1) rfl rfl 36 _ K8.out.2.2 rfl (by show _ = some 6; exact size_rc) (rcC_one _ _ _ _ _ _ _ _ _ _) ?_
                      intro w_5 hp6 g6
                      refine hK.out _ _ trivial (fun hHeld2 => ?_)
                      clear hK K hHeld2
                      have nz := no_zr (fun _ h => by cases h) (fun _ h => by cases h) (fun _ h => by cases h) K8.out.2.2
                      replace KX := hid (kp_gr KX.out g6 (Nat.ne_of_lt DK8.out.1) (Nat.le_of_lt DK8.out.1))
                      replace KF := hid (kp_gr KF.out g6 (Nat.ne_of_lt DK8.out.2) (Nat.le_of_lt DK8.out.1))
                      replace K9 := hid (kp_gr K9.out g6 (by have := D89.out; omega) (Nat.le_of_lt DK8.out.1))
                      replace C1w := hid (cw_off C1w.out g6 nz PC1w.out)
                      replace C2w := hid (cw_off C2w.out g6 nz PC2w.out)
                      replace K8 := hid (kp_at K8.out g6 hp6)
                      clear g6 nz hp6
                      try simp only [Act.put, List.setIfInBounds_toArray, List.set_cons_zero, List.set_cons_succ]
                      refine rd1 11 (fun K hK => ?_)
                      refine ite_goz (by first | rfl | kernel_rfl) ?_
                      refine wp_store_wholez 36 (.tmp 9) (.tmp 54) rfl N9 (rcC C2.n C2.s0 C2.s1 s0 s1 s2 s3 s4 s5 v2) rfl rfl 36 _ K9.out.2.2 rfl (by show _ = some 6; exact size_rc) (rcC_one _ _ _ _ _ _ _ _ _ _) ?_
                      intro w_6 hp6 g6
                      refine hK.out _ _ trivial (fun hHeld2 => ?_)
                      clear hK K hHeld2
                      have nz := no_zr (fun _ h => by cases h) (fun _ h => by cases h) (fun _ h => by cases h) K9.out.2.2
                      replace KX := hid (kp_gr KX.out g6 (Nat.ne_of_lt DK9.out.1) (Nat.le_of_lt DK9.out.1))
                      replace KF := hid (kp_gr KF.out g6 (Nat.ne_of_lt DK9.out.2) (Nat.le_of_lt DK9.out.1))
                      replace K8 := hid (kp_gr K8.out g6 (by have := D89.out; omega) (Nat.le_of_lt DK9.out.1))
                      replace C1w := hid (cw_off C1w.out g6 nz PC1w.out)
                      replace C2w := hid (cw_off C2w.out g6 nz PC2w.out)
                      replace K9 := hid (kp_at K9.out g6 hp6)
                      clear g6 nz hp6
                      try simp only [Act.put, List.setIfInBounds_toArray, List.set_cons_zero, List.set_cons_succ]
                      refine wpAnyH_done (by kernel_rfl) ?_ _
                      refine NoPanic.normal ?_
                      try go_wp2_with fail
                      go_meet
                      exact ⟨N8, N9, r0, r1, r2, r3, r4, r5, s0, s1, s2, s3, s4, s5, rfl, rfl, KX, KF, K8, K9, C1w, C2w⟩
                    · go_simp
                      refine hK.out _ _ trivial (fun hHeld2 => ?_)
                      clear hK K hHeld2
                      have K8 : Hid (Kp w (w_2.alloc (.cells #[.int .i64 0, .int .i64 0, .int .i64 0, .slice none 0 0, .slice none 0 0, .bool false] 36)) w_2.heap.size (.cells #[.int .i64 0, .int .i64 0, .int .i64 0, .slice none 0 0, .slice none 0 0, .bool false] 36)) := hid (kp_new2 KX.out.1 _ _ rfl)
                      have l1 := heap_lt KX.out.2.2
                      have l2 := heap_lt KF.out.2.2
                      have l3 := heap_lt K9.out.2.2
                      replace KX := hid (kp_alloc KX.out (.cells #[.int .i64 0, .int .i64 0, .int .i64 0, .slice none 0 0, .slice none 0 0, .bool false] 36))
                      replace KF := hid (kp_alloc KF.out (.cells #[.int .i64 0, .int .i64 0, .int .i64 0, .slice none 0 0, .slice none 0 0, .bool false] 36))
                      replace K9 := hid (kp_alloc K9.out (.cells #[.int .i64 0, .int .i64 0, .int .i64 0, .slice none 0 0, .slice none 0 0, .bool false] 36))
                      replace C1w := hid (C1w.out.below (b1alloc w_2 (.cells #[.int .i64 0, .int .i64 0, .int .i64 0, .slice none 0 0, .slice none 0 0, .bool false] 36)))
                      have DK8 := hid (And.intro l1 l2)
                      have D89 := hid l3
                      clear l1 l2 l3
                      generalize w_2.alloc (.cells #[.int .i64 0, .int .i64 0, .int .i64 0, .slice none 0 0, .slice none 0 0, .bool false] 36) = w_3 at KX KF K9 C1w K8 ⊢
                      generalize w_2.heap.size = N8 at K8 DK8 D89 ⊢
                      try simp only [Act.put, List.setIfInBounds_toArray, List.set_cons_zero, List.set_cons_succ]
                      refine rd1 7 (fun K hK => ?_)
                      go_simp
                      go_at_call 16; refine (crof_m m' _ _ _ (l.take hn) C2 v2 _ (HL2.out.below KX.out.1) KL2.out n2 E2 G2).mono ?_; rintro e w_4 ⟨⟨s0, s1, s2, s3, s4, s5, rfl, hcw⟩, hb⟩
                      refine hK.out _ _ trivial (fun hHeld2 => ?_)
                      clear hK K hHeld2
                      have C2w := hid hcw
                      replace KX := hid (KX.out.step hb)
                      replace KF := hid (KF.out.step hb)
                      replace K8 := hid (K8.out.step hb)
                      replace K9 := hid (K9.out.step hb)
                      replace C1w := hid (C1w.out.below hb)
                      clear hcw hb
                      try simp only [Act.put, List.setIfInBounds_toArray, List.set_cons_zero, List.set_cons_succ]
                      refine rd1 10 (fun K hK => ?_)
                      refine ite_goz (by first | rfl | kernel_rfl) ?_
                      refine wp_store_wholez 36 (.tmp 8) (.tmp 49) rfl N8 (rcC C1.n C1.s0 C1.s1 r0 r1 r2 r3 r4 r5 v1) rfl rfl 36 _ K8.out.2.2 rfl (by show _ = some 6; exact size_rc) (rcC_one _ _ _ _ _ _ _ _ _ _) ?_
                      intro w_5 hp6 g6
                      refine hK.out _ _ trivial (fun hHeld2 => ?_)
                      clear hK K hHeld2
                      have nz := no_zr (fun _ h => by cases h) (fun _ h => by cases h) (fun _ h => by cases h) K8.out.2.2
                      replace KX := hid (kp_gr KX.out g6 (Nat.ne_of_lt DK8.out.1) (Nat.le_of_lt DK8.out.1))
                      replace KF := hid (kp_gr KF.out g6 (Nat.ne_of_lt DK8.out.2) (Nat.le_of_lt DK8.out.1))
                      replace K9 := hid (kp_gr K9.out g6 (by have := D89.out; omega) (Nat.le_of_lt DK8.out.1))
                      replace C1w := hid (cw_off C1w.out g6 nz PC1w.out)
                      replace C2w := hid (cw_off C2w.out g6 nz PC2w.out)
                      replace K8 := hid (kp_at K8.out g6 hp6)
                      clear g6 nz hp6
                      try simp only [Act.put, List.setIfInBounds_toArray, List.set_cons_zero, List.set_cons_succ]
                      refine rd1 11 (fun K hK => ?_)
                      refine ite_goz (by first | rfl | kernel_rfl) ?_
                      refine wp_store_wholez 36 (.tmp 9) (.tmp 54) rfl N9 (rcC C2.n C2.s0 C2.s1 s0 s1 s2 s3 s4 s5 v2) rfl rfl 36 _ K9.out.2.2 rfl (by show _ = some 6; exact size_rc) (rcC_one _ _ _ _ _ _ _ _ _ _) ?_
                      intro w_6 hp6 g6
                      refine hK.out _ _ trivial (fun hHeld2 => ?_)
                      clear hK K hHeld2
                      have nz := no_zr (fun _ h => by cases h) (fun _ h => by cases h) (fun _ h => by cases h) K9.out.2.2
                      replace KX := hid (kp_gr KX.out g6 (Nat.ne_of_lt DK9.out.1) (Nat.le_of_lt DK9.out.1))
                      replace KF := hid (kp_gr KF.out g6 (Nat.ne_of_lt DK9.out.2) (Nat.le_of_lt DK9.out.1))
                      replace K8 := hid (kp_gr K8.out g6 (by have := D89.out; omega) (Nat.le_of_lt DK9.out.1))
                      replace C1w := hid (cw_off C1w.out g6 nz PC1w.out)
                      replace C2w := hid (cw_off C2w.out g6 nz PC2w.out)
                      replace K9 := hid (kp_at K9.out g6 hp6)
                      clear g6 nz hp6
                      try simp only [Act.put, List.setIfInBounds_toArray, List.set_cons_zero, List.set_cons_succ]
                      refine wpAnyH_done (by kernel_rfl) ?_ _
                      refine NoPanic.normal ?_
                      try go_wp2_with fail
                      go_meet
                      exact ⟨N8, N9, r0, r1, r2, r3, r4, r5, s0, s1, s2, s3, s4, s5, rfl, rfl, KX, KF, K8, K9, C1w, C2w⟩
                · go_simp
                  refine hK.out _ _ trivial (fun hHeld2 => ?_)
                  clear hK K hHeld2
                  have K8 : Hid (Kp w (wd.alloc (.cells #[.int .i64 0, .int .i64 0, .int .i64 0, .slice none 0 0, .slice none 0 0, .bool false] 36)) wd.heap.size (.cells #[.int .i64 0, .int .i64 0, .int .i64 0, .slice none 0 0, .slice none 0 0, .bool false] 36)) := hid (kp_new2 KX.out.1 _ _ rfl)
                  have l1 := heap_lt KX.out.2.2
                  have l2 := heap_lt KF.out.2.2
                  replace KX := hid (kp_alloc KX.out (.cells #[.int .i64 0, .int .i64 0, .int .i64 0, .slice none 0 0, .slice none 0 0, .bool false] 36))
                  replace KF := hid (kp_alloc KF.out (.cells #[.int .i64 0, .int .i64 0, .int .i64 0, .slice none 0 0, .slice none 0 0, .bool false] 36))
                  have DK8 := hid (And.intro l1 l2)
                  clear l1 l2
                  generalize wd.alloc (.cells #[.int .i64 0, .int .i64 0, .int .i64 0, .slice none 0 0, .slice none 0 0, .bool false] 36) = w_1 at KX KF K8 ⊢
                  generalize wd.heap.size = N8 at K8 DK8 ⊢
                  try simp only [Act.put, List.setIfInBounds_toArray, List.set_cons_zero, List.set_cons_succ]
                  refine wpAnyH_ready (rs := [2, 9]) (by kernel_rfl) (by simp) ?_
                  refine (rdc (fun K hK => ?_) (rdc (fun K hK => ?_) AllReadyH.nil))
                  · go_simp
                    go_at_call 16; refine (crof_m m' _ _ _ l C1 v1 _ (HL.out.below KX.out.1) KL.out n1 E1 G1).mono ?_; rintro e w_2 ⟨⟨r0, r1, r2, r3, r4, r5, rfl, hcw⟩, hb⟩
                    refine hK.out _ _ trivial (fun hHeld2 => ?_)
                    clear hK K hHeld2
                    have C1w := hid hcw
                    replace KX := hid (KX.out.step hb)
                    replace KF := hid (KF.out.step hb)
                    replace K8 := hid (K8.out.step hb)
                    clear hcw hb
                    try simp only [Act.put, List.setIfInBounds_toArray, List.set_cons_zero, List.set_cons_succ]
                    refine wpAnyH_ready (rs := [7, 9]) (by kernel_rfl) (by simp) ?_
                    refine (rdc (fun K hK => ?_) (rdc (fun K hK => ?_) AllReadyH.nil))
                    · go_simp
                      go_at_call 16; refine (crof_m m' _ _ _ (l.take hn) C2 v2 _ (HL2.out.below KX.out.1) KL2.out n2 E2 G2).mono ?_; rintro e w_3 ⟨⟨s0, s1, s2, s3, s4, s5, rfl, hcw⟩, hb⟩
                      refine hK.out _ _ trivial (fun hHeld2 => ?_)
                      clear hK K hHeld2
                      have C2w := hid hcw
                      replace KX := hid (KX.out.step hb)
                      replace KF := hid (KF.out.step hb)
                      replace K8 := hid (K8.out.step hb)
                      replace C1w := hid (C1w.out.below hb)
                      clear hcw hb
                      try simp only [Act.put, List.setIfInBounds_toArray, List.set_cons_zero, List.set_cons_succ]
                      refine rd1 9 (fun K hK => ?_)
                      go_simp
                      refine hK.out _ _ trivial (fun hHeld2 => ?_)
                      clear hK K hHeld2
                      have K9 : Hid (Kp w (w_3.alloc (.cells #[.int .i64 0, .int .i64 0, .int .i64 0, .slice none 0 0, .slice none 0 0, .bool false] 36)) w_3.heap.size (.cells #[.int .i64 0, .int .i64 0, .int .i64 0, .slice none 0 0, .slice none 0 0, .bool false] 36)) := hid (kp_new2 KX.out.1 _ _ rfl)
                      have l1 := heap_lt KX.out.2.2
                      have l2 := heap_lt KF.out.2.2
                      have l3 := heap_lt K8.out.2.2
                      replace KX := hid (kp_alloc KX.out (.cells #[.int .i64 0, .int .i64 0, .int .i64 0, .slice none 0 0, .slice none 0 0, .bool false] 36))
                      replace KF := hid (kp_alloc KF.out (.cells #[.int .i64 0, .int .i64 0, .int .i64 0, .slice none 0 0, .slice none 0 0, .bool false] 36))
                      replace K8 := hid (kp_alloc K8.out (.cells #[.int .i64 0, .int .i64 0, .int .i64 0, .slice none 0 0, .slice none 0 0, .bool false] 36))
                      replace C1w := hid (C1w.out.below (b1alloc w_3 (.cells #[.int .i64 0, .int .i64 0, .int .i64 0, .slice none 0 0, .slice none 0 0, .bool false] 36)))
                      replace C2w := hid (C2w.out.below (b1alloc w_3 (.cells #[.int .i64 0, .int .i64 0, .int .i64 0, .slice none 0 0, .slice none 0 0, .bool false] 36)))
                      have DK9 := hid (And.intro l1 l2)
                      have D89 := hid l3
                      clear l1 l2 l3
                      generalize w_3.alloc (.cells #[.int .i64 0, .int .i64 0, .int .i64 0, .slice none 0 0, .slice none 0 0, .bool false] 36) = w_4 at KX KF K8 C1w C2w K9 ⊢
                      generalize w_3.heap.size = N9 at K9 DK9 D89 ⊢
                      try simp only [Act.put, List.setIfInBounds_toArray, List.set_cons_zero, List.set_cons_succ]
                      refine rd1 10 (fun K hK => ?_)
                      refine ite_goz (by first | rfl | kernel_rfl) ?_
                      refine wp_store_wholez 36 (.tmp 8) (.tmp 49) rfl N8 (rcC C1.n C1.s0 C1.s1 r0 r1 r2 r3 r4 r5 v1) rfl rfl 36 _ K8.out.2.2 rfl (by show _ = some 6; exact size_rc) (rcC_one _ _ _ _ _ _ _ _ _ _) ?_
                      intro w_5 hp6 g6
                      refine hK.out _ _ trivial (fun hHeld2 => ?_)
                      clear hK K hHeld2
                      have nz := no_zr (fun _ h => by cases h) (fun _ h => by cases h) (fun _ h => by cases h) K8.out.2.2
                      replace KX := hid (kp_gr KX.out g6 (Nat.ne_of_lt DK8.out.1) (Nat.le_of_lt DK8.out.1))
                      replace KF := hid (kp_gr KF.out g6 (Nat.ne_of_lt DK8.out.2) (Nat.le_of_lt DK8.out.1))
                      replace K9 := hid (kp_gr K9.out g6 (by have := D89.out; omega) (Nat.le_of_lt DK8.out.1))
                      replace C1w := hid (cw_off C1w.out g6 nz PC1w.out)
                      replace C2w := hid (cw_off C2w.out g6 nz PC2w.out)
                      replace K8 := hid (kp_at K8.out g6 hp6)
                      clear g6 nz hp6
                      try simp only [Act.put, List.setIfInBounds_toArray, List.set_cons_zero, List.set_cons_succ]
                      refine rd1 11 (fun K hK => ?_)
                      refine ite_goz (by first | rfl | kernel_rfl) ?_
                      refine wp_store_wholez 36 (.tmp 9) (.tmp 54) rfl N9 (rcC C2.n C2.s0 C2.s1 s0 s1 s2 s3 s4 s5 v2) rfl rfl 36 _ K9.out.2.2 rfl (by show _ = some 6; exact size_rc) (rcC_one _ _ _ _ _ _ _ _ _ _) ?_
                      intro w_6 hp6 g6
                      refine hK.out _ _ trivial (fun hHeld2 => ?_)
                      clear hK K hHeld2
                      have nz := no_zr (fun _ h => by cases h) (fun _ h => by cases h) (fun _ h => by cases h) K9.out.2.2
                      replace KX := hid (kp_gr KX.out g6 (Nat.ne_of_lt DK9.out.1) (Nat.le_of_lt DK9.out.1))
                      replace KF := hid (kp_gr KF.out g6 (Nat.ne_of_lt DK9.out.2) (Nat.le_of_lt DK9.out.1))
                      replace K8 := hid (kp_gr K8.out g6 (by have := D89.out; omega) (Nat.le_of_lt DK9.out.1))
                      replace C1w := hid (cw_off C1w.out g6 nz PC1w.out)
                      replace C2w := hid (cw_off C2w.out g6 nz PC2w.out)
                      replace K9 := hid (kp_at K9.out g6 hp6)
                      clear g6 nz hp6
                      try simp only [Act.put, List.setIfInBounds_toArray, List.set_cons_zero, List.set_cons_succ]
                      refine wpAnyH_done (by kernel_rfl) ?_ _
                      refine NoPanic.normal ?_
                      try go_wp2_with fail
                      go_meet
                      exact ⟨N8, N9, r0, r1, r2, r3, r4, r5, s0, s1, s2, s3, s4, s5, rfl, rfl, KX, KF, K8, K9, C1w, C2w⟩
                    · go_simp
                      refine hK.out _ _ trivial (fun hHeld2 => ?_)
                      clear hK K hHeld2
                      have K9 : Hid (Kp w (w_2.alloc (.cells #[.int .i64 0, .int .i64 0, .int .i64 0, .slice none 0 0, .slice none 0 0, .bool false] 36)) w_2.heap.size (.cells #[.int .i64 0, .int .i64 0, .int .i64 0, .slice none 0 0, .slice none 0 0, .bool false] 36)) := hid (kp_new2 KX.out.1 _ _ rfl)
                      have l1 := heap_lt KX.out.2.2
                      have l2 := heap_lt KF.out.2.2
                      have l3 := heap_lt K8.out.2.2
                      replace KX := hid (kp_alloc KX.out (.cells #[.int .i64 0, .int .i64 0, .int .i64 0, .slice none 0 0, .slice none 0 0, .bool false] 36))
                      replace KF := hid (kp_alloc KF.out (.cells #[.int .i64 0, .int .i64 0, .int .i64 0, .slice none 0 0, .slice none 0 0, .bool false] 36))
                      replace K8 := hid (kp_alloc K8.out (.cells #[.int .i64 0, .int .i64 0, .int .i64 0, .slice none 0 0, .slice none 0 0, .bool false] 36))
                      replace C1w := hid (C1w.out.below (b1alloc w_2 (.cells #[.int .i64 0, .int .i64 0, .int .i64 0, .slice none 0 0, .slice none 0 0, .bool false] 36)))
                      have DK9 := hid (And.intro l1 l2)
                      have D89 := hid l3
                      clear l1 l2 l3
                      generalize w_2.alloc (.cells #[.int .i64 0, .int .i64 0, .int .i64 0, .slice none 0 0, .slice none 0 0, .bool false] 36) = w_3 at KX KF K8 C1w K9 ⊢
                      generalize w_2.heap.size = N9 at K9 DK9 D89 ⊢
                      try simp only [Act.put, List.setIfInBounds_toArray, List.set_cons_zero, List.set_cons_succ]
                      refine rd1 7 (fun K hK => ?_)
                      go_simp
                      go_at_call 16; refine (crof_m m' _ _ _ (l.take hn) C2 v2 _ (HL2.out.below KX.out.1) KL2.out n2 E2 G2).mono ?_; rintro e w_4 ⟨⟨s0, s1, s2, s3, s4, s5, rfl, hcw⟩, hb⟩
                      refine hK.out _ _ trivial (fun hHeld2 => ?_)
                      clear hK K hHeld2
                      have C2w := hid hcw
                      replace KX := hid (KX.out.step hb)
                      replace KF := hid (KF.out.step hb)
                      replace K8 := hid (K8.out.step hb)
                      replace K9 := hid (K9.out.step hb)
                      replace C1w := hid (C1w.out.below hb)
                      clear hcw hb
                      try simp only [Act.put, List.setIfInBounds_toArray, List.set_cons_zero, List.set_cons_succ]
                      refine rd1 10 (fun K hK => ?_)
                      refine ite_goz (by first | rfl | kernel_rfl) ?_
                      refine wp_store_wholez 36 (.tmp 8) (.tmp 49) rfl N8 (rcC C1.n C1.s0 C1.s1 r0 r1 r2 r3 r4 r5 v1) rfl rfl 36 _ K8.out.2.2 rfl (by show _ = some 6; exact size_rc) (rcC_one _ _ _ _ _ _ _ _ _ _) ?_
                      intro w_5 hp6 g6
                      refine hK.out _ _ trivial (fun hHeld2 => ?_)
                      clear hK K hHeld2
                      have nz := no_zr (fun _ h => by cases h) (fun _ h => by cases h) (fun _ h => by cases h) K8.out.2.2
                      replace KX := hid (kp_gr KX.out g6 (Nat.ne_of_lt DK8.out.1) (Nat.le_of_lt DK8.out.1))
                      replace KF := hid (kp_gr KF.out g6 (Nat.ne_of_lt DK8.out.2) (Nat.le_of_lt DK8.out.1))
                      replace K9 := hid (kp_gr K9.out g6 (by have := D89.out; omega) (Nat.le_of_lt DK8.out.1))
                      replace C1w := hid (cw_off C1w.out g6 nz PC1w.out)
                      replace C2w := hid (cw_off C2w.out g6 nz PC2w.out)
                      replace K8 := hid (kp_at K8.out g6 hp6)
                      clear g6 nz hp6
                      try simp only [Act.put, List.setIfInBounds_toArray, List.set_cons_zero, List.set_cons_succ]
                      refine rd1 11 (fun K hK => ?_)
                      refine ite_goz (by first | rfl | kernel_rfl) ?_
                      refine wp_store_wholez 36 (.tmp 9) (.tmp 54) rfl N9 (rcC C2.n C2.s0 C2.s1 s0 s1 s2 s3 s4 s5 v2) rfl rfl 36 _ K9.out.2.2 rfl (by show _ = some 6; exact size_rc) (rcC_one _ _ _ _ _ _ _ _ _ _) ?_
                      intro w_6 hp6 g6
                      refine hK.out _ _ trivial (fun hHeld2 => ?_)
                      clear hK K hHeld2
                      have nz := no_zr (fun _ h => by cases h) (fun _ h => by cases h) (fun _ h => by cases h) K9.out.2.2
                      replace KX := hid (kp_gr KX.out g6 (Nat.ne_of_lt DK9.out.1) (Nat.le_of_lt DK9.out.1))
                      replace KF := hid (kp_gr KF.out g6 (Nat.ne_of_lt DK9.out.2) (Nat.le_of_lt DK9.out.1))
                      replace K8 := hid (kp_gr K8.out g6 (by have := D89.out; omega) (Nat.le_of_lt DK9.out.1))
                      replace C1w := hid (cw_off C1w.out g6 nz PC1w.out)
                      replace C2w := hid (cw_off C2w.out g6 nz PC2w.out)
                      replace K9 := hid (kp_at K9.out g6 hp6)
                      clear g6 nz hp6
                      try simp only [Act.put, List.setIfInBounds_toArray, List.set_cons_zero, List.set_cons_succ]
                      refine wpAnyH_done (by kernel_rfl) ?_ _
                      refine NoPanic.normal ?_
                      try go_wp2_with fail
                      go_meet
                      exact ⟨N8, N9, r0, r1, r2, r3, r4, r5, s0, s1, s2, s3, s4, s5, rfl, rfl, KX, KF, K8, K9, C1w, C2w⟩
                  · go_simp
                    refine hK.out _ _ trivial (fun hHeld2 => ?_)
                    clear hK K hHeld2
                    have K9 : Hid (Kp w (w_1.alloc (.cells #[.int .i64 0, .int .i64 0, .int .i64 0, .slice none 0 0, .slice none 0 0, .bool false] 36)) w_1.heap.size (.cells #[.int .i64 0, .int .i64 0, .int .i64 0, .slice none 0 0, .slice none 0 0, .bool false] 36)) := hid (kp_new2 KX.out.1 _ _ rfl)
                    have l1 := heap_lt KX.out.2.2
                    have l2 := heap_lt KF.out.2.2
                    have l3 := heap_lt K8.out.2.2
                    replace KX := hid (kp_alloc KX.out (.cells #[.int .i64 0, .int .i64 0, .int .i64 0, .slice none 0 0, .slice none 0 0, .bool false] 36))
                    replace KF := hid (kp_alloc KF.out (.cells #[.int .i64 0, .int .i64 0, .int .i64 0, .slice none 0 0, .slice none 0 0, .bool false] 36))
                    replace K8 := hid (kp_alloc K8.out (.cells #[.int .i64 0, .int .i64 0, .int .i64 0, .slice none 0 0, .slice none 0 0, .bool false] 36))
                    have DK9 := hid (And.intro l1 l2)
                    have D89 := hid l3
                    clear l1 l2 l3
                    generalize w_1.alloc (.cells #[.int .i64 0, .int .i64 0, .int .i64 0, .slice none 0 0, .slice none 0 0, .bool false] 36) = w_2 at KX KF K8 K9 ⊢
                    generalize w_1.heap.size = N9 at K9 DK9 D89 ⊢
                    try simp only [Act.put, List.setIfInBounds_toArray, List.set_cons_zero, List.set_cons_succ]
                    refine rd1 2 (fun K hK => ?_)
                    go_simp
                    go_at_call 16; refine (crof_m m' _ _ _ l C1 v1 _ (HL.out.below KX.out.1) KL.out n1 E1 G1).mono ?_; rintro e w_3 ⟨⟨r0, r1, r2, r3, r4, r5, rfl, hcw⟩, hb⟩
                    refine hK.out _ _ trivial (fun hHeld2 => ?_)
                    clear hK K hHeld2
                    have C1w := hid hcw
                    replace KX := hid (KX.out.step hb)
                    replace KF := hid (KF.out.step hb)
                    replace K8 := hid (K8.out.step hb)
                    replace K9 := hid (K9.out.step hb)
                    clear hcw hb
                    try simp only [Act.put, List.setIfInBounds_toArray, List.set_cons_zero, List.set_cons_succ]
                    refine rd1 7 (fun K hK => ?_)
                    go_simp
                    go_at_call 16; refine (crof_m m' _ _ _ (l.take hn) C2 v2 _ (HL2.out.below KX.out.1) KL2.out n2 E2 G2).mono ?_; rintro e w_4 ⟨⟨s0, s1, s2, s3, s4, s5, rfl, hcw⟩, hb⟩
                    refine hK.out _ _ trivial (fun hHeld2 => ?_)
                    clear hK K hHeld2
                    have C2w := hid hcw
                    replace KX := hid (KX.out.step hb)
                    replace KF := hid (KF.out.step hb)
                    replace K8 := hid (K8.out.step hb)
                    replace K9 := hid (K9.out.step hb)
                    replace C1w := hid (C1w.out.below hb)
                    clear hcw hb
                    try simp only [Act.put, List.setIfInBounds_toArray, List.set_cons_zero, List.set_cons_succ]
                    refine rd1 10 (fun K hK => ?_)
                    refine ite_goz (by first | rfl | kernel_rfl) ?_
                    refine wp_store_wholez 36 (.tmp 8) (.tmp 49) rfl N8 (rcC C1.n C1.s0 C1.s1 r0 r1 r2 r3 r4 r5 v1) rfl rfl 36 _ K8.out.2.2 rfl (by show _ = some 6; exact size_rc) (rcC_one _ _ _ _ _ _ _ _ _ _) ?_
                    intro w_5 hp6 g6
                    refine hK.out _ _ trivial (fun hHeld2 => ?_)
                    clear hK K hHeld2
                    have nz := no_zr (fun _ h => by cases h) (fun _ h => by cases h) (fun _ h => by cases h) K8.out.2.2
                    replace KX := hid (kp_gr KX.out g6 (Nat.ne_of_lt DK8.out.1) (Nat.le_of_lt DK8.out.1))
                    replace KF := hid (kp_gr KF.out g6 (Nat.ne_of_lt DK8.out.2) (Nat.le_of_lt DK8.out.1))
                    replace K9 := hid (kp_gr K9.out g6 (by have := D89.out; omega) (Nat.le_of_lt DK8.out.1))
                    replace C1w := hid (cw_off C1w.out g6 nz PC1w.out)
                    replace C2w := hid (cw_off C2w.out g6 nz PC2w.out)
                    replace K8 := hid (kp_at K8.out g6 hp6)
                    clear g6 nz hp6
                    try simp only [Act.put, List.setIfInBounds_toArray, List.set_cons_zero, List.set_cons_succ]
                    refine rd1 11 (fun K hK => ?_)
                    refine ite_goz (by first | rfl | kernel_rfl) ?_
                    refine wp_store_wholez 36 (.tmp 9) (.tmp 54) rfl N9 (rcC C2.n C2.s0 C2.s1 s0 s1 s2 s3 s4 s5 v2) rfl rfl 36 _ K9.out.2.2 rfl (by show _ = some 6; exact size_rc) (rcC_one _ _ _ _ _ _ _ _ _ _) ?_
                    intro w_6 hp6 g6
                    refine hK.out _ _ trivial (fun hHeld2 => ?_)
                    clear hK K hHeld2
                    have nz := no_zr (fun _ h => by cases h) (fun _ h => by cases h) (fun _ h => by cases h) K9.out.2.2
                    replace KX := hid (kp_gr KX.out g6 (Nat.ne_of_lt DK9.out.1) (Nat.le_of_lt DK9.out.1))
                    replace KF := hid (kp_gr KF.out g6 (Nat.ne_of_lt DK9.out.2) (Nat.le_of_lt DK9.out.1))
                    replace K8 := hid (kp_gr K8.out g6 (by have := D89.out; omega) (Nat.le_of_lt DK9.out.1))
                    replace C1w := hid (cw_off C1w.out g6 nz PC1w.out)
                    replace C2w := hid (cw_off C2w.out g6 nz PC2w.out)
                    replace K9 := hid (kp_at K9.out g6 hp6)
                    clear g6 nz hp6
                    try simp only [Act.put, List.setIfInBounds_toArray, List.set_cons_zero, List.set_cons_succ]
                    refine wpAnyH_done (by kernel_rfl) ?_ _
                    refine NoPanic.normal ?_
                    try go_wp2_with fail
                    go_meet
                    exact ⟨N8, N9, r0, r1, r2, r3, r4, r5, s0, s1, s2, s3, s4, s5, rfl, rfl, KX, KF, K8, K9, C1w, C2w⟩
                · go_simp
                  refine hK.out _ _ trivial (fun hHeld2 => ?_)
                  clear hK K hHeld2
                  have K9 : Hid (Kp w (wd.alloc (.cells #[.int .i64 0, .int .i64 0, .int .i64 0, .slice none 0 0, .slice none 0 0, .bool false] 36)) wd.heap.size (.cells #[.int .i64 0, .int .i64 0, .int .i64 0, .slice none 0 0, .slice none 0 0, .bool false] 36)) := hid (kp_new2 KX.out.1 _ _ rfl)
                  have l1 := heap_lt KX.out.2.2
                  have l2 := heap_lt KF.out.2.2
                  replace KX := hid (kp_alloc KX.out (.cells #[.int .i64 0, .int .i64 0, .int .i64 0, .slice none 0 0, .slice none 0 0, .bool false] 36))
                  replace KF := hid (kp_alloc KF.out (.cells #[.int .i64 0, .int .i64 0, .int .i64 0, .slice none 0 0, .slice none 0 0, .bool false] 36))
                  have DK9 := hid (And.intro l1 l2)
                  clear l1 l2
                  generalize wd.alloc (.cells #[.int .i64 0, .int .i64 0, .int .i64 0, .slice none 0 0, .slice none 0 0, .bool false] 36) = w_1 at KX KF K9 ⊢
                  generalize wd.heap.size = N9 at K9 DK9 ⊢
                  try simp only [Act.put, List.setIfInBounds_toArray, List.set_cons_zero, List.set_cons_succ]
                  refine wpAnyH_ready (rs := [2, 8]) (by kernel_rfl) (by simp) ?_
                  refine (rdc (fun K hK => ?_) (rdc (fun K hK => ?_) AllReadyH.nil))
                  · go_simp
                    go_at_call 16; refine (crof_m m' _ _ _ l C1 v1 _ (HL.out.below KX.out.1) KL.out n1 E1 G1).mono ?_; rintro e w_2 ⟨⟨r0, r1, r2, r3, r4, r5, rfl, hcw⟩, hb⟩
                    refine hK.out _ _ trivial (fun hHeld2 => ?_)
                    clear hK K hHeld2
                    have C1w := hid hcw
                    replace KX := hid (KX.out.step hb)
                    replace KF := hid (KF.out.step hb)
                    replace K9 := hid (K9.out.step hb)
                    clear hcw hb
                    try simp only [Act.put, List.setIfInBounds_toArray, List.set_cons_zero, List.set_cons_succ]
                    refine wpAnyH_ready (rs := [7, 8]) (by kernel_rfl) (by simp) ?_
                    refine (rdc (fun K hK => ?_) (rdc (fun K hK => ?_) AllReadyH.nil))
                    · go_simp
                      go_at_call 16; refine (crof_m m' _ _ _ (l.take hn) C2 v2 _ (HL2.out.below KX.out.1) KL2.out n2 E2 G2).mono ?_; rintro e w_3 ⟨⟨s0, s1, s2, s3, s4, s5, rfl, hcw⟩, hb⟩
                      refine hK.out _ _ trivial (fun hHeld2 => ?_)
                      clear hK K hHeld2
                      have C2w := hid hcw
                      replace KX := hid (KX.out.step hb)
                      replace KF := hid (KF.out.step hb)
                      replace K9 := hid (K9.out.step hb)
                      replace C1w := hid (C1w.out.below hb)
                      clear hcw hb
                      try simp only [Act.put, List.setIfInBounds_toArray, List.set_cons_zero, List.set_cons_succ]
                      refine rd1 8 (fun K hK => ?_)
                      go_simp
                      refine hK.out _ _ trivial (fun hHeld2 => ?_)
                      clear hK K hHeld2
                      have K8 : Hid (Kp w (w_3.alloc (.cells #[.int .i64 0, .int .i64 0, .int .i64 0, .slice none 0 0, .slice none 0 0, .bool false] 36)) w_3.heap.size (.cells #[.int .i64 0, .int .i64 0, .int .i64 0, .slice none 0 0, .slice none 0 0, .bool false] 36)) := hid (kp_new2 KX.out.1 _ _ rfl)
                      have l1 := heap_lt KX.out.2.2
                      have l2 := heap_lt KF.out.2.2
                      have l3 := heap_lt K9.out.2.2
                      replace KX := hid (kp_alloc KX.out (.cells #[.int .i64 0, .int .i64 0, .int .i64 0, .slice none 0 0, .slice none 0 0, .bool false] 36))
                      replace KF := hid (kp_alloc KF.out (.cells #[.int .i64 0, .int .i64 0, .int .i64 0, .slice none 0 0, .slice none 0 0, .bool false] 36))
                      replace K9 := hid (kp_alloc K9.out (.cells #[.int .i64 0, .int .i64 0, .int .i64 0, .slice none 0 0, .slice none 0 0, .bool false] 36))
                      replace C1w := hid (C1w.out.below (b1alloc w_3 (.cells #[.int .i64 0, .int .i64 0, .int .i64 0, .slice none 0 0, .slice none 0 0, .bool false] 36)))
                      replace C2w := hid (C2w.out.below (b1alloc w_3 (.cells #[.int .i64 0, .int .i64 0, .int .i64 0, .slice none 0 0, .slice none 0 0, .bool false] 36)))
                      have DK8 := hid (And.intro l1 l2)
                      have D89 := hid l3
                      clear l1 l2 l3
                      generalize w_3.alloc (.cells #[.int .i64 0, .int .i64 0, .int .i64 0, .slice none 0 0, .slice none 0 0, .bool false] 36) = w_4 at KX KF K9 C1w C2w K8 ⊢
                      generalize w_3.heap.size = N8 at K8 DK8 D89 ⊢
                      try simp only [Act.put, List.setIfInBounds_toArray, List.set_cons_zero, List.set_cons_succ]
                      refine rd1 10 (fun K hK => ?_)
                      refine ite_goz (by first | rfl | kernel_rfl) ?_
                      refine wp_store_wholez 36 (.tmp 8) (.tmp 49) rfl N8 (rcC C1.n C1.s0 C1.s1 r0 r1 r2 r3 r4 r5 v1) rfl rfl 36 _ K8.out.2.2 rfl (by show _ = some 6; exact size_rc) (rcC_one _ _ _ _ _ _ _ _ _ _) ?_
                      intro w_5 hp6 g6
                      refine hK.out _ _ trivial (fun hHeld2 => ?_)
                      clear hK K hHeld2
                      have nz := no_zr (fun _ h => by cases h) (fun _ h => by cases h) (fun _ h => by cases h) K8.out.2.2
                      replace KX := hid (kp_gr KX.out g6 (Nat.ne_of_lt DK8.out.1) (Nat.le_of_lt DK8.out.1))
                      replace KF := hid (kp_gr KF.out g6 (Nat.ne_of_lt DK8.out.2) (Nat.le_of_lt DK8.out.1))
                      replace K9 := hid (kp_gr K9.out g6 (by have := D89.out; omega) (Nat.le_of_lt DK8.out.1))
                      replace C1w := hid (cw_off C1w.out g6 nz PC1w.out)
                      replace C2w := hid (cw_off C2w.out g6 nz PC2w.out)
                      replace K8 := hid (kp_at K8.out g6 hp6)
                      clear g6 nz hp6
                      try simp only [Act.put, List.setIfInBounds_toArray, List.set_cons_zero, List.set_cons_succ]
                      refine rd1 11 (fun K hK => ?_)
                      refine ite_goz (by first | rfl | kernel_rfl) ?_
                      refine wp_store_wholez 36 (.tmp 9) (.tmp 54) rfl N9 (rcC C2.n C2.s0 C2.s1 s0 s1 s2 s3 s4 s5 v2) rfl rfl 36 _ K9.out.2.2 rfl (by show _ = some 6; exact size_rc) (rcC_one _ _ _ _ _ _ _ _ _ _) ?_
                      intro w_6 hp6 g6
                      refine hK.out _ _ trivial (fun hHeld2 => ?_)
                      clear hK K hHeld2
                      have nz := no_zr (fun _ h => by cases h) (fun _ h => by cases h) (fun _ h => by cases h) K9.out.2.2
                      replace KX := hid (kp_gr KX.out g6 (Nat.ne_of_lt DK9.out.1) (Nat.le_of_lt DK9.out.1))
                      replace KF := hid (kp_gr KF.out g6 (Nat.ne_of_lt DK9.out.2) (Nat.le_of_lt DK9.out.1))
                      replace K8 := hid (kp_gr K8.out g6 (by have := D89.out; omega) (Nat.le_of_lt DK9.out.1))
                      replace C1w := hid (cw_off C1w.out g6 nz PC1w.out)
                      replace C2w := hid (cw_off C2w.out g6 nz PC2w.out)
                      replace K9 := hid (kp_at K9.out g6 hp6)
                      clear g6 nz hp6
                      try simp only [Act.put, List.setIfInBounds_toArray, List.set_cons_zero, List.set_cons_succ]
                      refine wpAnyH_done (by kernel_rfl) ?_ _
                      refine NoPanic.normal ?_
                      try go_wp2_with fail
                      go_meet
                      exact ⟨N8, N9, r0, r1, r2, r3, r4, r5, s0, s1, s2, s3, s4, s5, rfl, rfl, KX, KF, K8, K9, C1w, C2w⟩
                    · go_simp
                      refine hK.out _ _ trivial (fun hHeld2 => ?_)
                      clear hK K hHeld2
                      have K8 : Hid (Kp w (w_2.alloc (.cells #[.int .i64 0, .int .i64 0, .int .i64 0, .slice none 0 0, .slice none 0 0, .bool false] 36)) w_2.heap.size (.cells #[.int .i64 0, .int .i64 0, .int .i64 0, .slice none 0 0, .slice none 0 0, .bool false] 36)) := hid (kp_new2 KX.out.1 _ _ rfl)
                      have l1 := heap_lt KX.out.2.2
                      have l2 := heap_lt KF.out.2.2
                      have l3 := heap_lt K9.out.2.2
                      replace KX := hid (kp_alloc KX.out (.cells #[.int .i64 0, .int .i64 0, .int .i64 0, .slice none 0 0, .slice none 0 0, .bool false] 36))
                      replace KF := hid (kp_alloc KF.out (.cells #[.int .i64 0, .int .i64 0, .int .i64 0, .slice none 0 0, .slice none 0 0, .bool false] 36))
                      replace K9 := hid (kp_alloc K9.out (.cells #[.int .i64 0, .int .i64 0, .int .i64 0, .slice none 0 0, .slice none 0 0, .bool false] 36))
                      replace C1w := hid (C1w.out.below (b1alloc w_2 (.cells #[.int .i64 0, .int .i64 0, .int .i64 0, .slice none 0 0, .slice none 0 0, .bool false] 36)))
                      have DK8 := hid (And.intro l1 l2)
                      have D89 := hid l3
                      clear l1 l2 l3
                      generalize w_2.alloc (.cells #[.int .i64 0, .int .i64 0, .int .i64 0, .slice none 0 0, .slice none 0 0, .bool false] 36) = w_3 at KX KF K9 C1w K8 ⊢
                      generalize w_2.heap.size = N8 at K8 DK8 D89 ⊢
                      try simp only [Act.put, List.setIfInBounds_toArray, List.set_cons_zero, List.set_cons_succ]
                      refine rd1 7 (fun K hK => ?_)
                      go_simp
                      go_at_call 16; refine (crof_m m' _ _ _ (l.take hn) C2 v2 _ (HL2.out.below KX.out.1) KL2.out n2 E2 G2).mono ?_; rintro e w_4 ⟨⟨s0, s1, s2, s3, s4, s5, rfl, hcw⟩, hb⟩
                      refine hK.out _ _ trivial (fun hHeld2 => ?_)
                      clear hK K hHeld2
                      have C2w := hid hcw
                      replace KX := hid (KX.out.step hb)
                      replace KF := hid (KF.out.step hb)
                      replace K8 := hid (K8.out.step hb)
                      replace K9 := hid (K9.out.step hb)
                      replace C1w := hid (C1w.out.below hb)
                      clear hcw hb
                      try simp only [Act.put, List.setIfInBounds_toArray, List.set_cons_zero, List.set_cons_succ]
                      refine rd1 10 (fun K hK => ?_)
                      refine ite_goz (by first | rfl | kernel_rfl) ?_
                      refine wp_store_wholez 36 (.tmp 8) (.tmp 49) rfl N8 (rcC C1.n C1.s0 C1.s1 r0 r1 r2 r3 r4 r5 v1) rfl rfl 36 _ K8.out.2.2 rfl (by show _ = some 6; exact size_rc) (rcC_one _ _ _ _ _ _ _ _ _ _) ?_
                      intro w_5 hp6 g6
                      refine hK.out _ _ trivial (fun hHeld2 => ?_)
                      clear hK K hHeld2
                      have nz := no_zr (fun _ h => by cases h) (fun _ h => by cases h) (fun _ h => by cases h) K8.out.2.2
                      replace KX := hid (kp_gr KX.out g6 (Nat.ne_of_lt DK8.out.1) (Nat.le_of_lt DK8.out.1))
                      replace KF := hid (kp_gr KF.out g6 (Nat.ne_of_lt DK8.out.2) (Nat.le_of_lt DK8.out.1))
                      replace K9 := hid (kp_gr K9.out g6 (by have := D89.out; omega) (Nat.le_of_lt DK8.out.1))
                      replace C1w := hid (cw_off C1w.out g6 nz PC1w.out)
                      replace C2w := hid (cw_off C2w.out g6 nz PC2w.out)
                      replace K8 := hid (kp_at K8.out g6 hp6)
                      clear g6 nz hp6
                      try simp only [Act.put, List.setIfInBounds_toArray, List.set_cons_zero, List.set_cons_succ]
                      refine rd1 11 (fun K hK => ?_)
                      refine ite_goz (by first | rfl | kernel_rfl) ?_
                      refine wp_store_wholez 36 (.tmp 9) (.tmp 54) rfl N9 (rcC C2.n C2.s0 C2.s1 s0 s1 s2 s3 s4 s5 v2) rfl rfl 36 _ K9.out.2.2 rfl (by show _ = some 6; exact size_rc) (rcC_one _ _ _ _ _ _ _ _ _ _) ?_
                      intro w_6 hp6 g6
                      refine hK.out _ _ trivial (fun hHeld2 => ?_)
                      clear hK K hHeld2
                      have nz := no_zr (fun _ h => by cases h) (fun _ h => by cases h) (fun _ h => by cases h) K9.out.2.2
                      replace KX := hid (kp_gr KX.out g6 (Nat.ne_of_lt DK9.out.1) (Nat.le_of_lt DK9.out.1))
                      replace KF := hid (kp_gr KF.out g6 (Nat.ne_of_lt DK9.out.2) (Nat.le_of_lt DK9.out.1))
                      replace K8 := hid (kp_gr K8.out g6 (by have := D89.out; omega) (Nat.le_of_lt DK9.out.1))
                      replace C1w := hid (cw_off C1w.out g6 nz PC1w.out)
                      replace C2w := hid (cw_off C2w.out g6 nz PC2w.out)
                      replace K9 := hid (kp_at K9.out g6 hp6)
                      clear g6 nz hp6
                      try simp only [Act.put, List.setIfInBounds_toArray, List.set_cons_zero, List.set_cons_succ]
                      refine wpAnyH_done (by kernel_rfl) ?_ _
                      refine NoPanic.normal ?_
                      try go_wp2_with fail
                      go_meet
                      exact ⟨N8, N9, r0, r1, r2, r3, r4, r5, s0, s1, s2, s3, s4, s5, rfl, rfl, KX, KF, K8, K9, C1w, C2w⟩
                  · go_simp
                    refine hK.out _ _ trivial (fun hHeld2 => ?_)
                    clear hK K hHeld2
                    have K8 : Hid (Kp w (w_1.alloc (.cells #[.int .i64 0, .int .i64 0, .int .i64 0, .slice none 0 0, .slice none 0 0, .bool false] 36)) w_1.heap.size (.cells #[.int .i64 0, .int .i64 0, .int .i64 0, .slice none 0 0, .slice none 0 0, .bool false] 36)) := hid (kp_new2 KX.out.1 _ _ rfl)
                    have l1 := heap_lt KX.out.2.2
                    have l2 := heap_lt KF.out.2.2
                    have l3 := heap_lt K9.out.2.2
                    replace KX := hid (kp_alloc KX.out (.cells #[.int .i64 0, .int .i64 0, .int .i64 0, .slice none 0 0, .slice none 0 0, .bool false] 36))
                    replace KF := hid (kp_alloc KF.out (.cells #[.int .i64 0, .int .i64 0, .int .i64 0, .slice none 0 0, .slice none 0 0, .bool false] 36))
                    replace K9 := hid (kp_alloc K9.out (.cells #[.int .i64 0, .int .i64 0, .int .i64 0, .slice none 0 0, .slice none 0 0, .bool false] 36))
                    have DK8 := hid (And.intro l1 l2)
                    have D89 := hid l3
                    clear l1 l2 l3
                    generalize w_1.alloc (.cells #[.int .i64 0, .int .i64 0, .int .i64 0, .slice none 0 0, .slice none 0 0, .bool false] 36) = w_2 at KX KF K9 K8 ⊢
                    generalize w_1.heap.size = N8 at K8 DK8 D89 ⊢
                    try simp only [Act.put, List.setIfInBounds_toArray, List.set_cons_zero, List.set_cons_succ]
                    refine rd1 2 (fun K hK => ?_)
                    go_simp
                    go_at_call 16; refine (crof_m m' _ _ _ l C1 v1 _ (HL.out.below KX.out.1) KL.out n1 E1 G1).mono ?_; rintro e w_3 ⟨⟨r0, r1, r2, r3, r4, r5, rfl, hcw⟩, hb⟩
                    refine hK.out _ _ trivial (fun hHeld2 => ?_)
                    clear hK K hHeld2
                    have C1w := hid hcw
                    replace KX := hid (KX.out.step hb)
                    replace KF := hid (KF.out.step hb)
                    replace K8 := hid (K8.out.step hb)
                    replace K9 := hid (K9.out.step hb)
                    clear hcw hb
                    try simp only [Act.put, List.setIfInBounds_toArray, List.set_cons_zero, List.set_cons_succ]
                    refine rd1 7 (fun K hK => ?_)
                    go_simp
                    go_at_call 16; refine (crof_m m' _ _ _ (l.take hn) C2 v2 _ (HL2.out.below KX.out.1) KL2.out n2 E2 G2).mono ?_; rintro e w_4 ⟨⟨s0, s1, s2, s3, s4, s5, rfl, hcw⟩, hb⟩
                    refine hK.out _ _ trivial (fun hHeld2 => ?_)
                    clear hK K hHeld2
                    have C2w := hid hcw
                    replace KX := hid (KX.out.step hb)
                    replace KF := hid (KF.out.step hb)
                    replace K8 := hid (K8.out.step hb)
                    replace K9 := hid (K9.out.step hb)
                    replace C1w := hid (C1w.out.below hb)
                    clear hcw hb
                    try simp only [Act.put, List.setIfInBounds_toArray, List.set_cons_zero, List.set_cons_succ]
                    refine rd1 10 (fun K hK => ?_)
                    refine ite_goz (by first | rfl | kernel_rfl) ?_
                    refine wp_store_wholez 36 (.tmp 8) (.tmp 49) rfl N8 (rcC C1.n C1.s0 C1.s1 r0 r1 r2 r3 r4 r5 v1) rfl rfl 36 _ K8.out.2.2 rfl (by show _ = some 6; exact size_rc) (rcC_one _ _ _ _ _ _ _ _ _ _) ?_
                    intro w_5 hp6 g6
                    refine hK.out _ _ trivial (fun hHeld2 => ?_)
                    clear hK K hHeld2
                    have nz := no_zr (fun _ h => by cases h) (fun _ h => by cases h) (fun _ h => by cases h) K8.out.2.2
                    replace KX := hid (kp_gr KX.out g6 (Nat.ne_of_lt DK8.out.1) (Nat.le_of_lt DK8.out.1))
                    replace KF := hid (kp_gr KF.out g6 (Nat.ne_of_lt DK8.out.2) (Nat.le_of_lt DK8.out.1))
                    replace K9 := hid (kp_gr K9.out g6 (by have := D89.out; omega) (Nat.le_of_lt DK8.out.1))
                    replace C1w := hid (cw_off C1w.out g6 nz PC1w.out)
                    replace C2w := hid (cw_off C2w.out g6 nz PC2w.out)
                    replace K8 := hid (kp_at K8.out g6 hp6)
                    clear g6 nz hp6
                    try simp only [Act.put, List.setIfInBounds_toArray, List.set_cons_zero, List.set_cons_succ]
                    refine rd1 11 (fun K hK => ?_)
                    refine ite_goz (by first | rfl | kernel_rfl) ?_
                    refine wp_store_wholez 36 (.tmp 9) (.tmp 54) rfl N9 (rcC C2.n C2.s0 C2.s1 s0 s1 s2 s3 s4 s5 v2) rfl rfl 36 _ K9.out.2.2 rfl (by show _ = some 6; exact size_rc) (rcC_one _ _ _ _ _ _ _ _ _ _) ?_
                    intro w_6 hp6 g6
                    refine hK.out _ _ trivial (fun hHeld2 => ?_)
                    clear hK K hHeld2
                    have nz := no_zr (fun _ h => by cases h) (fun _ h => by cases h) (fun _ h => by cases h) K9.out.2.2
                    replace KX := hid (kp_gr KX.out g6 (Nat.ne_of_lt DK9.out.1) (Nat.le_of_lt DK9.out.1))
                    replace KF := hid (kp_gr KF.out g6 (Nat.ne_of_lt DK9.out.2) (Nat.le_of_lt DK9.out.1))
                    replace K8 := hid (kp_gr K8.out g6 (by have := D89.out; omega) (Nat.le_of_lt DK9.out.1))
                    replace C1w := hid (cw_off C1w.out g6 nz PC1w.out)
                    replace C2w := hid (cw_off C2w.out g6 nz PC2w.out)
                    replace K9 := hid (kp_at K9.out g6 hp6)
                    clear g6 nz hp6
                    try simp only [Act.put, List.setIfInBounds_toArray, List.set_cons_zero, List.set_cons_succ]
                    refine wpAnyH_done (by kernel_rfl) ?_ _
                    refine NoPanic.normal ?_
                    try go_wp2_with fail
                    go_meet
                    exact ⟨N8, N9, r0, r1, r2, r3, r4, r5, s0, s1, s2, s3, s4, s5, rfl, rfl, KX, KF, K8, K9, C1w, C2w⟩
            case rest =>
              obtain ⟨N8, N9, r0, r1, r2, r3, r4, r5, s0, s1, s2, s3, s4, s5, rfl, rfl, KX, KF, K8, K9, C1w, C2w⟩ := hcut
              rename World => wc
              go_upto_region 9 with (go_at_call 17; refine (cof_m m' _ _ _ l C1 v1 _ (HL.out.below KX.out.1) KL.out n1 E1 G1).mono ?_; rintro e w5 ⟨⟨e0, e1, e2, e3, e4, e5, rfl, hcw⟩, hb⟩; have D1w := hid hcw; replace KX := hid (KX.out.step hb); replace KF := hid (KF.out.step hb); replace K8 := hid (K8.out.step hb); replace K9 := hid (K9.out.step hb); replace C1w := hid (C1w.out.below hb); replace C2w := hid (C2w.out.below hb); clear hcw hb)
              have K10 : Hid (Kp w (w5.alloc (.cells #[.int .i64 C1.n, .int .i64 C1.s0, .int .i64 C1.s1, .slice e0 e1 e2, .slice e3 e4 e5] 26)) w5.heap.size (.cells #[.int .i64 C1.n, .int .i64 C1.s0, .int .i64 C1.s1, .slice e0 e1 e2, .slice e3 e4 e5] 26)) := hid (kp_new2 KX.out.1 _ _ rfl)
              replace KX := hid (kp_alloc KX.out (.cells #[.int .i64 C1.n, .int .i64 C1.s0, .int .i64 C1.s1, .slice e0 e1 e2, .slice e3 e4 e5] 26))
              replace KF := hid (kp_alloc KF.out (.cells #[.int .i64 C1.n, .int .i64 C1.s0, .int .i64 C1.s1, .slice e0 e1 e2, .slice e3 e4 e5] 26))
              replace K8 := hid (kp_alloc K8.out (.cells #[.int .i64 C1.n, .int .i64 C1.s0, .int .i64 C1.s1, .slice e0 e1 e2, .slice e3 e4 e5] 26))
              replace K9 := hid (kp_alloc K9.out (.cells #[.int .i64 C1.n, .int .i64 C1.s0, .int .i64 C1.s1, .slice e0 e1 e2, .slice e3 e4 e5] 26))
              replace C1w := hid (C1w.out.below (b1alloc w5 (.cells #[.int .i64 C1.n, .int .i64 C1.s0, .int .i64 C1.s1, .slice e0 e1 e2, .slice e3 e4 e5] 26)))
              replace C2w := hid (C2w.out.below (b1alloc w5 (.cells #[.int .i64 C1.n, .int .i64 C1.s0, .int .i64 C1.s1, .slice e0 e1 e2, .slice e3 e4 e5] 26)))
              replace D1w := hid (D1w.out.below (b1alloc w5 (.cells #[.int .i64 C1.n, .int .i64 C1.s0, .int .i64 C1.s1, .slice e0 e1 e2, .slice e3 e4 e5] 26)))
              generalize w5.alloc (.cells #[.int .i64 C1.n, .int .i64 C1.s0, .int .i64 C1.s1, .slice e0 e1 e2, .slice e3 e4 e5] 26) = W5 at KX KF K8 K9 K10 C1w C2w D1w ⊢
              generalize w5.heap.size = N10 at K10 ⊢
              go_upto_region 10 with (go_at_call 17; refine (cof_m m' _ _ _ (l.take hn) C2 v2 _ (HL2.out.below KX.out.1) KL2.out n2 E2 G2).mono ?_; rintro e w6 ⟨⟨u0, u1, u2, u3, u4, u5, rfl, hcw⟩, hb⟩; have D2w := hid hcw; replace KX := hid (KX.out.step hb); replace KF := hid (KF.out.step hb); replace K8 := hid (K8.out.step hb); replace K9 := hid (K9.out.step hb); replace K10 := hid (K10.out.step hb); replace C1w := hid (C1w.out.below hb); replace C2w := hid (C2w.out.below hb); replace D1w := hid (D1w.out.below hb); clear hcw hb)
              have K12 : Hid (Kp w (w6.alloc (.cells #[.int .i64 C2.n, .int .i64 C2.s0, .int .i64 C2.s1, .slice u0 u1 u2, .slice u3 u4 u5] 26)) w6.heap.size (.cells #[.int .i64 C2.n, .int .i64 C2.s0, .int .i64 C2.s1, .slice u0 u1 u2, .slice u3 u4 u5] 26)) := hid (kp_new2 KX.out.1 _ _ rfl)
              replace KX := hid (kp_alloc KX.out (.cells #[.int .i64 C2.n, .int .i64 C2.s0, .int .i64 C2.s1, .slice u0 u1 u2, .slice u3 u4 u5] 26))
              replace KF := hid (kp_alloc KF.out (.cells #[.int .i64 C2.n, .int .i64 C2.s0, .int .i64 C2.s1, .slice u0 u1 u2, .slice u3 u4 u5] 26))
              replace K8 := hid (kp_alloc K8.out (.cells #[.int .i64 C2.n, .int .i64 C2.s0, .int .i64 C2.s1, .slice u0 u1 u2, .slice u3 u4 u5] 26))
              replace K9 := hid (kp_alloc K9.out (.cells #[.int .i64 C2.n, .int .i64 C2.s0, .int .i64 C2.s1, .slice u0 u1 u2, .slice u3 u4 u5] 26))
              replace K10 := hid (kp_alloc K10.out (.cells #[.int .i64 C2.n, .int .i64 C2.s0, .int .i64 C2.s1, .slice u0 u1 u2, .slice u3 u4 u5] 26))
              replace C1w := hid (C1w.out.below (b1alloc w6 (.cells #[.int .i64 C2.n, .int .i64 C2.s0, .int .i64 C2.s1, .slice u0 u1 u2, .slice u3 u4 u5] 26)))
              replace C2w := hid (C2w.out.below (b1alloc w6 (.cells #[.int .i64 C2.n, .int .i64 C2.s0, .int .i64 C2.s1, .slice u0 u1 u2, .slice u3 u4 u5] 26)))
              replace D1w := hid (D1w.out.below (b1alloc w6 (.cells #[.int .i64 C2.n, .int .i64 C2.s0, .int .i64 C2.s1, .slice u0 u1 u2, .slice u3 u4 u5] 26)))
              replace D2w := hid (D2w.out.below (b1alloc w6 (.cells #[.int .i64 C2.n, .int .i64 C2.s0, .int .i64 C2.s1, .slice u0 u1 u2, .slice u3 u4 u5] 26)))
              generalize w6.alloc (.cells #[.int .i64 C2.n, .int .i64 C2.s0, .int .i64 C2.s1, .slice u0 u1 u2, .slice u3 u4 u5] 26) = W6 at KX KF K8 K9 K10 K12 C1w C2w D1w D2w ⊢
              generalize w6.heap.size = N12 at K12 ⊢
              have e11 : (v1 != v1) = false := by simp
              have e22 : (v2 != v2) = false := by simp
              have tkB : True := trivial
              obtain ⟨g0, g1, g2, g3, g4, g5⟩ := box_6 K8.out.2.2; obtain ⟨h0, h1, h2, h3, h4, h5⟩ := box_6 K9.out.2.2; obtain ⟨c0, c1, c2, c3, c4⟩ := box_five K10.out.2.2; obtain ⟨d0, d1, d2, d3, d4⟩ := box_five K12.out.2.2
              go_upto_region 12 with (first
                | (go_at_call 18; clear tkB; refine (crsame_m C1 C1 _ _ _ _ _ _ _ _ _ _ _ _ true _ D1w.out C1w.out (hid (csm_self _))).mono ?_; rintro e w7 ⟨rfl, hb⟩; replace KX := hid (KX.out.step hb); replace KF := hid (KF.out.step hb); replace K8 := hid (K8.out.step hb); replace K9 := hid (K9.out.step hb); replace K10 := hid (K10.out.step hb); replace K12 := hid (K12.out.step hb); replace C1w := hid (C1w.out.below hb); replace C2w := hid (C2w.out.below hb); replace D1w := hid (D1w.out.below hb); replace D2w := hid (D2w.out.below hb); clear hb g0 g1 g2 g3 g4 g5 h0 h1 h2 h3 h4 h5 c0 c1 c2 c3 c4 d0 d1 d2 d3 d4; obtain ⟨g0, g1, g2, g3, g4, g5⟩ := box_6 K8.out.2.2; obtain ⟨h0, h1, h2, h3, h4, h5⟩ := box_6 K9.out.2.2; obtain ⟨c0, c1, c2, c3, c4⟩ := box_five K10.out.2.2; obtain ⟨d0, d1, d2, d3, d4⟩ := box_five K12.out.2.2)
                | (go_at_call 18; refine (crsame_m C2 C2 _ _ _ _ _ _ _ _ _ _ _ _ true _ D2w.out C2w.out (hid (csm_self _))).mono ?_; rintro e w8 ⟨rfl, hb⟩; replace KX := hid (KX.out.step hb); replace KF := hid (KF.out.step hb); replace K8 := hid (K8.out.step hb); replace K9 := hid (K9.out.step hb); replace K10 := hid (K10.out.step hb); replace K12 := hid (K12.out.step hb); replace C1w := hid (C1w.out.below hb); replace C2w := hid (C2w.out.below hb); replace D1w := hid (D1w.out.below hb); replace D2w := hid (D2w.out.below hb); clear hb g0 g1 g2 g3 g4 g5 h0 h1 h2 h3 h4 h5 c0 c1 c2 c3 c4 d0 d1 d2 d3 d4; obtain ⟨g0, g1, g2, g3, g4, g5⟩ := box_6 K8.out.2.2; obtain ⟨h0, h1, h2, h3, h4, h5⟩ := box_6 K9.out.2.2; obtain ⟨c0, c1, c2, c3, c4⟩ := box_five K10.out.2.2; obtain ⟨d0, d1, d2, d3, d4⟩ := box_five K12.out.2.2))
              rename World => W8
              clear c0 c1 c2 c3 c4 d0 d1 d2 d3 d4 e11 e22 K10 K12 D1w D2w
              obtain ⟨f0, f1, f2, f3, f4, f5, f6, f7, f8, f9, f10, f11, f12, f13, f14⟩ := box_15 KX.out.2.2
              go_upto_region 13 with fail
              clear f0 f1 f2 f3 f4 f5 f6 f7 f8 f9 f10 f11 f12 f13 f14 g0 g1 g2 g3 g4 g5 h0 h1 h2 h3 h4 h5
              have KQ : Hid (Kp w (W8.alloc (.cells #[.int .i64 cA.n, .int .i64 cA.s0, .int .i64 cA.s1, .slice a0 p0 k0, .slice a1 p1 k1, .int .i64 cB.n, .int .i64 cB.s0, .int .i64 cB.s1, .slice b0 q0 j0, .slice b1 q1 j1, .int .i64 C1.n, .int .i64 C1.s0, .int .i64 C1.s1, .slice r0 r1 r2, .slice r3 r4 r5, .int .i64 C2.n, .int .i64 C2.s0, .int .i64 C2.s1, .slice s0 s1 s2, .slice s3 s4 s5] 26)) W8.heap.size (.cells #[.int .i64 cA.n, .int .i64 cA.s0, .int .i64 cA.s1, .slice a0 p0 k0, .slice a1 p1 k1, .int .i64 cB.n, .int .i64 cB.s0, .int .i64 cB.s1, .slice b0 q0 j0, .slice b1 q1 j1, .int .i64 C1.n, .int .i64 C1.s0, .int .i64 C1.s1, .slice r0 r1 r2, .slice r3 r4 r5, .int .i64 C2.n, .int .i64 C2.s0, .int .i64 C2.s1, .slice s0 s1 s2, .slice s3 s4 s5] 26)) := hid (kp_new2 KX.out.1 _ _ rfl)
              replace KX := hid (kp_alloc KX.out (.cells #[.int .i64 cA.n, .int .i64 cA.s0, .int .i64 cA.s1, .slice a0 p0 k0, .slice a1 p1 k1, .int .i64 cB.n, .int .i64 cB.s0, .int .i64 cB.s1, .slice b0 q0 j0, .slice b1 q1 j1, .int .i64 C1.n, .int .i64 C1.s0, .int .i64 C1.s1, .slice r0 r1 r2, .slice r3 r4 r5, .int .i64 C2.n, .int .i64 C2.s0, .int .i64 C2.s1, .slice s0 s1 s2, .slice s3 s4 s5] 26))
              replace KF := hid (kp_alloc KF.out (.cells #[.int .i64 cA.n, .int .i64 cA.s0, .int .i64 cA.s1, .slice a0 p0 k0, .slice a1 p1 k1, .int .i64 cB.n, .int .i64 cB.s0, .int .i64 cB.s1, .slice b0 q0 j0, .slice b1 q1 j1, .int .i64 C1.n, .int .i64 C1.s0, .int .i64 C1.s1, .slice r0 r1 r2, .slice r3 r4 r5, .int .i64 C2.n, .int .i64 C2.s0, .int .i64 C2.s1, .slice s0 s1 s2, .slice s3 s4 s5] 26))
              replace C1w := hid (C1w.out.below (b1alloc W8 (.cells #[.int .i64 cA.n, .int .i64 cA.s0, .int .i64 cA.s1, .slice a0 p0 k0, .slice a1 p1 k1, .int .i64 cB.n, .int .i64 cB.s0, .int .i64 cB.s1, .slice b0 q0 j0, .slice b1 q1 j1, .int .i64 C1.n, .int .i64 C1.s0, .int .i64 C1.s1, .slice r0 r1 r2, .slice r3 r4 r5, .int .i64 C2.n, .int .i64 C2.s0, .int .i64 C2.s1, .slice s0 s1 s2, .slice s3 s4 s5] 26)))
              replace C2w := hid (C2w.out.below (b1alloc W8 (.cells #[.int .i64 cA.n, .int .i64 cA.s0, .int .i64 cA.s1, .slice a0 p0 k0, .slice a1 p1 k1, .int .i64 cB.n, .int .i64 cB.s0, .int .i64 cB.s1, .slice b0 q0 j0, .slice b1 q1 j1, .int .i64 C1.n, .int .i64 C1.s0, .int .i64 C1.s1, .slice r0 r1 r2, .slice r3 r4 r5, .int .i64 C2.n, .int .i64 C2.s0, .int .i64 C2.s1, .slice s0 s1 s2, .slice s3 s4 s5] 26)))
              generalize W8.alloc (.cells #[.int .i64 cA.n, .int .i64 cA.s0, .int .i64 cA.s1, .slice a0 p0 k0, .slice a1 p1 k1, .int .i64 cB.n, .int .i64 cB.s0, .int .i64 cB.s1, .slice b0 q0 j0, .slice b1 q1 j1, .int .i64 C1.n, .int .i64 C1.s0, .int .i64 C1.s1, .slice r0 r1 r2, .slice r3 r4 r5, .int .i64 C2.n, .int .i64 C2.s0, .int .i64 C2.s1, .slice s0 s1 s2, .slice s3 s4 s5] 26) = W9 at KX KF KQ C1w C2w ⊢
              generalize W8.heap.size = NQ at KQ ⊢
              clear K8 K9
              have OC1 : Hid (okc C1) := hid (by rw [← E1.out]; exact ofC_ok KL.out (by have := EL.out; omega))
              have OC2 : Hid (okc C2) := hid (by rw [← E2.out]; exact ofC_ok KL2.out (by have := EL2.out; omega))
              have LC1 : Hid (C1.b0.length ≤ 1000 ∧ C1.b1.length ≤ 1000) := hid (by rw [← E1.out]; have := ofC_len m' l; have := EL.out; omega)
              have LC2 : Hid (C2.b0.length ≤ 1000 ∧ C2.b1.length ≤ 1000) := hid (by rw [← E2.out]; have := ofC_len m' (l.take hn); have := EL2.out; omega)
              go_upto_region 14 with fail
              go_loopw [15] (fun j wr => ∃ (qq : Nat), qq ≤ 4 ∧ j = .int .i64 qq ∧ Hid (Kp w wr w.heap.size (.cells #[.int .i64 m, .int .i64 cA.n, .int .i64 cA.s0, .int .i64 cA.s1, .slice a0 p0 k0, .slice a1 p1 k1, .int .i64 cB.n, .int .i64 cB.s0, .int .i64 cB.s1, .slice b0 q0 j0, .slice b1 q1 j1, .int .u8 x0, .int .u8 x1, .int .u8 x2, .int .u8 x3] 30)) ∧ Hid (Kp w wr NF (.cells #[.int .i64 m, .int .i64 1, .int .i64 2] 3)) ∧ Hid (Kp w wr NQ (.cells #[.int .i64 cA.n, .int .i64 cA.s0, .int .i64 cA.s1, .slice a0 p0 k0, .slice a1 p1 k1, .int .i64 cB.n, .int .i64 cB.s0, .int .i64 cB.s1, .slice b0 q0 j0, .slice b1 q1 j1, .int .i64 C1.n, .int .i64 C1.s0, .int .i64 C1.s1, .slice r0 r1 r2, .slice r3 r4 r5, .int .i64 C2.n, .int .i64 C2.s0, .int .i64 C2.s1, .slice s0 s1 s2, .slice s3 s4 s5] 26)) ∧ Hid (CW wr r0 r1 r2 r3 r4 r5 C1) ∧ Hid (CW wr s0 s1 s2 s3 s4 s5 C2)) (fun j _ => 4 - (intOf j).toNat)
              case atStart => exact ⟨0, by omega, rfl, KX, KF, KQ, C1w, C2w⟩
              case round =>
                obtain ⟨qq, hqq, rfl, KX, KF, KQ, C1w, C2w⟩ := hrel
                have hz4 : (0 : Int) ≤ (qq : Int) := by omega
                by_cases hl4 : qq < 4
                · have hqi4 : (qq : Int) < 4 := by omega
                  have hqd4 : decide ((qq : Int) < 4) = true := decide_eq_true hqi4
                  as_aux_lemma =>
                  obtain ⟨cX, d0, d1, d2, d3, d4, d5, hat, hgd⟩ := four_pick KQ.out.2.2 ⟨HA.out.below KX.out.1, OA.out, by have := PA.out; omega, by have := PA.out; omega⟩ ⟨HB.out.below KX.out.1, OB.out, by have := PB.out; omega, by have := PB.out; omega⟩ ⟨C1w.out, OC1.out, by have := cw_len C1w.out; have := LC1.out; omega, by have := cw_len C1w.out; have := LC1.out; omega⟩ ⟨C2w.out, OC2.out, by have := cw_len C2w.out; have := LC2.out; omega, by have := cw_len C2w.out; have := LC2.out; omega⟩ hl4
                  have GX := hid hgd
                  have AT := hid hat
                  obtain ⟨vg, hvg⟩ : ∃ y, cg m' cX = y := ⟨_, rfl⟩
                  obtain ⟨t0, t1, t2, t3, t4, t5, t6, t7, t8, t9, t10, hVL⟩ := line_form m' x0 x1 x2 x3 cX
                  have HVG := hid hvg
                  have HVL := hid hVL
                  have egg : (vg != vg) = false := by simp
                  skip
                  clear hat hgd hvg hVL
                  have KS : Hid (∀ y, Below wr.heap.size wr y → (fun y => Below wr.heap.size wr y ∧ y.cell? ⟨NQ, qq * 5, none⟩ = some (.int .i64 cX.n) ∧ y.cell? ⟨NQ, qq * 5 + 1, none⟩ = some (.int .i64 cX.s0) ∧ y.cell? ⟨NQ, qq * 5 + 2, none⟩ = some (.int .i64 cX.s1) ∧ y.cell? ⟨NQ, qq * 5 + 3, none⟩ = some (.slice d0 d1 d2) ∧ y.cell? ⟨NQ, qq * 5 + 4, none⟩ = some (.slice d3 d4 d5) ∧ y.cell? ⟨w.heap.size, 11, none⟩ = some (.int .u8 x0) ∧ y.cell? ⟨w.heap.size, 12, none⟩ = some (.int .u8 x1) ∧ y.cell? ⟨w.heap.size, 13, none⟩ = some (.int .u8 x2) ∧ y.cell? ⟨w.heap.size, 14, none⟩ = some (.int .u8 x3)) y) := hid (fun y hb => by
                    obtain ⟨h0, h1, h2, h3, h4⟩ := AT.out
                    obtain ⟨f0, f1, f2, f3, f4, f5, f6, f7, f8, f9, f10, f11, f12, f13, f14⟩ := box_15 (KX.out.step hb).2.2
                    have hltQ := heap_lt KQ.out.2.2
                    exact ⟨hb, ((bcell hb).1 NQ _ hltQ).trans h0, ((bcell hb).1 NQ _ hltQ).trans h1, ((bcell hb).1 NQ _ hltQ).trans h2, ((bcell hb).1 NQ _ hltQ).trans h3, ((bcell hb).1 NQ _ hltQ).trans h4, f11, f12, f13, f14⟩)
                  go_upto_region 16 with fail
                  refine wp_region_noPanic ?_
                  refine wp_region_held_drew (S := fun y => Below wr.heap.size wr y ∧ y.cell? ⟨NQ, qq * 5, none⟩ = some (.int .i64 cX.n) ∧ y.cell? ⟨NQ, qq * 5 + 1, none⟩ = some (.int .i64 cX.s0) ∧ y.cell? ⟨NQ, qq * 5 + 2, none⟩ = some (.int .i64 cX.s1) ∧ y.cell? ⟨NQ, qq * 5 + 3, none⟩ = some (.slice d0 d1 d2) ∧ y.cell? ⟨NQ, qq * 5 + 4, none⟩ = some (.slice d3 d4 d5) ∧ y.cell? ⟨w.heap.size, 11, none⟩ = some (.int .u8 x0) ∧ y.cell? ⟨w.heap.size, 12, none⟩ = some (.int .u8 x1) ∧ y.cell? ⟨w.heap.size, 13, none⟩ = some (.int .u8 x2) ∧ y.cell? ⟨w.heap.size, 14, none⟩ = some (.int .u8 x3)) (by kernel_rfl) (KS.out _ (bdrew (Below.refl _ _))) (fun hHeld => ?_)
                  refine tk 0 (v := ?_) ?_ ?_
                  rotate_left
                  · intro w hSw; (try dsimp only at hSw); go_simp; (try with_reducible rfl)
                  try simp only [Act.put, List.setIfInBounds_toArray, List.set_cons_zero, List.set_cons_succ]
                  refine tk 1 (v := ?_) ?_ ?_
                  rotate_left
                  · intro w hSw; (try dsimp only at hSw); go_simp; (try with_reducible rfl)
                  try simp only [Act.put, List.setIfInBounds_toArray, List.set_cons_zero, List.set_cons_succ]
                  refine tk 2 (v := ?_) ?_ ?_
                  rotate_left
                  · intro w hSw; (try dsimp only at hSw); go_simp; (try with_reducible rfl)
                  try simp only [Act.put, List.setIfInBounds_toArray, List.set_cons_zero, List.set_cons_succ]
                  refine tk 3 (v := ?_) ?_ ?_
                  rotate_left
                  · intro w hSw; (try dsimp only at hSw); go_simp; (try with_reducible rfl)
                  try simp only [Act.put, List.setIfInBounds_toArray, List.set_cons_zero, List.set_cons_succ]
                  refine tk 4 (v := ?_) ?_ ?_
                  rotate_left
                  · intro w hSw; (try dsimp only at hSw); go_simp; (try with_reducible rfl)
                  try simp only [Act.put, List.setIfInBounds_toArray, List.set_cons_zero, List.set_cons_succ]
                  refine tk 6 (v := ?_) ?_ ?_
                  rotate_left
                  · intro w hSw; (try dsimp only at hSw); go_simp; (try with_reducible rfl)
                  try simp only [Act.put, List.setIfInBounds_toArray, List.set_cons_zero, List.set_cons_succ]
                  refine tk 7 (v := ?_) ?_ ?_
                  rotate_left
                  · intro w hSw; (try dsimp only at hSw); go_simp; (try with_reducible rfl)
                  try simp only [Act.put, List.setIfInBounds_toArray, List.set_cons_zero, List.set_cons_succ]
                  refine tk 8 (v := ?_) ?_ ?_
                  rotate_left
                  · intro w hSw; (try dsimp only at hSw); go_simp; (try with_reducible rfl)
                  try simp only [Act.put, List.setIfInBounds_toArray, List.set_cons_zero, List.set_cons_succ]
                  refine tk 9 (v := ?_) ?_ ?_
                  rotate_left
                  · intro w hSw; (try dsimp only at hSw); go_simp; (try with_reducible rfl)
                  try simp only [Act.put, List.setIfInBounds_toArray, List.set_cons_zero, List.set_cons_succ]
                  refine tk 10 (v := ?_) ?_ ?_
                  rotate_left
                  · intro w hSw; (try dsimp only at hSw); go_simp; (try with_reducible rfl)
                  try simp only [Act.put, List.setIfInBounds_toArray, List.set_cons_zero, List.set_cons_succ]
                  refine rd1 5 (fun K hK => ?_)
                  go_simp
                  go_at_call 19; refine (cgood_m m' cX _ _ _ _ _ _ vg _ (GX.out.1.below hHeld.1) GX.out.2.1 HVG).mono ?_; rintro e y1 ⟨rfl, hb1⟩
                  refine hK.out _ _ (KS.out _ (bt hHeld.1 hb1)) (fun hHeld2 => ?_)
                  clear hK K hHeld; have hHeld := hHeld2; clear hHeld2
                  try simp only [Act.put, List.setIfInBounds_toArray, List.set_cons_zero, List.set_cons_succ]
                  refine rd1 11 (fun K hK => ?_)
                  go_simp
                  go_at_call 20; refine (crgood_m m' cX _ _ _ _ _ _ vg _ (GX.out.1.below hHeld.1) GX.out.2.1 HVG).mono ?_; rintro e y2 ⟨rfl, hb2⟩
                  refine hK.out _ _ (KS.out _ (bt hHeld.1 hb2)) (fun hHeld2 => ?_)
                  clear hK K hHeld; have hHeld := hHeld2; clear hHeld2
                  try simp only [Act.put, List.setIfInBounds_toArray, List.set_cons_zero, List.set_cons_succ]
                  refine tk 12 (v := ?_) ?_ ?_
                  rotate_left
                  · intro w hSw; (try dsimp only at hSw); go_simp; (try with_reducible rfl)
                  try simp only [Act.put, List.setIfInBounds_toArray, List.set_cons_zero, List.set_cons_succ]
                  refine tk 13 (v := ?_) ?_ ?_
                  rotate_left
                  · intro w hSw; (try dsimp only at hSw); go_simp; (try with_reducible rfl)
                  try simp only [Act.put, List.setIfInBounds_toArray, List.set_cons_zero, List.set_cons_succ]
                  refine tk 14 (v := ?_) ?_ ?_
                  rotate_left
                  · intro w hSw; (try dsimp only at hSw); go_simp; (try with_reducible rfl)
                  try simp only [Act.put, List.setIfInBounds_toArray, List.set_cons_zero, List.set_cons_succ]
                  refine tk 15 (v := ?_) ?_ ?_
                  rotate_left
                  · intro w hSw; (try dsimp only at hSw); go_simp; (try with_reducible rfl)
                  try simp only [Act.put, List.setIfInBounds_toArray, List.set_cons_zero, List.set_cons_succ]
                  refine tk 16 (v := ?_) ?_ ?_
                  rotate_left
                  · intro w hSw; (try dsimp only at hSw); go_simp; (try with_reducible rfl)
                  try simp only [Act.put, List.setIfInBounds_toArray, List.set_cons_zero, List.set_cons_succ]
                  refine tk 17 (v := ?_) ?_ ?_
                  rotate_left
                  · intro w hSw; (try dsimp only at hSw); go_simp; (try with_reducible rfl)
                  try simp only [Act.put, List.setIfInBounds_toArray, List.set_cons_zero, List.set_cons_succ]
                  refine tk 18 (v := ?_) ?_ ?_
                  rotate_left
                  · intro w hSw; (try dsimp only at hSw); go_simp; (try with_reducible rfl)
                  try simp only [Act.put, List.setIfInBounds_toArray, List.set_cons_zero, List.set_cons_succ]
                  refine tk 19 (v := ?_) ?_ ?_
                  rotate_left
                  · intro w hSw; (try dsimp only at hSw); go_simp; (try with_reducible rfl)
                  try simp only [Act.put, List.setIfInBounds_toArray, List.set_cons_zero, List.set_cons_succ]
                  refine tk 20 (v := ?_) ?_ ?_
                  rotate_left
                  · intro w hSw; (try dsimp only at hSw); go_simp; (try with_reducible rfl)
                  try simp only [Act.put, List.setIfInBounds_toArray, List.set_cons_zero, List.set_cons_succ]
                  refine tk 22 (v := ?_) ?_ ?_
                  rotate_left
                  · intro w hSw; (try dsimp only at hSw); go_simp; (try with_reducible rfl)
                  try simp only [Act.put, List.setIfInBounds_toArray, List.set_cons_zero, List.set_cons_succ]
                  refine tk 23 (v := ?_) ?_ ?_
                  rotate_left
                  · intro w hSw; (try dsimp only at hSw); go_simp; (try with_reducible rfl)
                  try simp only [Act.put, List.setIfInBounds_toArray, List.set_cons_zero, List.set_cons_succ]
                  refine tk 24 (v := ?_) ?_ ?_
                  rotate_left
                  · intro w hSw; (try dsimp only at hSw); go_simp; (try with_reducible rfl)
                  try simp only [Act.put, List.setIfInBounds_toArray, List.set_cons_zero, List.set_cons_succ]
                  refine tk 25 (v := ?_) ?_ ?_
                  rotate_left
                  · intro w hSw; (try dsimp only at hSw); go_simp; (try with_reducible rfl)
                  try simp only [Act.put, List.setIfInBounds_toArray, List.set_cons_zero, List.set_cons_succ]
                  refine tk 26 (v := ?_) ?_ ?_
                  rotate_left
                  · intro w hSw; (try dsimp only at hSw); go_simp; (try with_reducible rfl)
                  try simp only [Act.put, List.setIfInBounds_toArray, List.set_cons_zero, List.set_cons_succ]
                  refine tk 27 (v := ?_) ?_ ?_
                  rotate_left
                  · intro w hSw; (try dsimp only at hSw); go_simp; (try with_reducible rfl)
                  try simp only [Act.put, List.setIfInBounds_toArray, List.set_cons_zero, List.set_cons_succ]
                  refine tk 28 (v := ?_) ?_ ?_
                  rotate_left
                  · intro w hSw; (try dsimp only at hSw); go_simp; (try with_reducible rfl)
                  try simp only [Act.put, List.setIfInBounds_toArray, List.set_cons_zero, List.set_cons_succ]
                  refine rd1 21 (fun K hK => ?_)
                  go_simp
                  go_at_call 21; refine (cline_m m' x0 x1 x2 x3 cX _ _ _ _ _ _ _ _ (GX.out.1.below hHeld.1) GX.out.2.1 HVL).mono ?_; rintro e y3 ⟨rfl, hb3⟩
                  refine hK.out _ _ (KS.out _ (bt hHeld.1 hb3)) (fun hHeld2 => ?_)
                  clear hK K hHeld; have hHeld := hHeld2; clear hHeld2
                  try simp only [Act.put, List.setIfInBounds_toArray, List.set_cons_zero, List.set_cons_succ]
                  refine rd1 29 (fun K hK => ?_)
                  go_simp
                  go_at_call 22; refine (crline_m m' x0 x1 x2 x3 cX _ _ _ _ _ _ _ _ (GX.out.1.below hHeld.1) GX.out.2.1 HVL).mono ?_; rintro e y4 ⟨rfl, hb4⟩
                  refine hK.out _ _ (KS.out _ (bt hHeld.1 hb4)) (fun hHeld2 => ?_)
                  clear hK K hHeld; have hHeld := hHeld2; clear hHeld2
                  try simp only [Act.put, List.setIfInBounds_toArray, List.set_cons_zero, List.set_cons_succ]
                  refine tk 30 (v := ?_) ?_ ?_
                  rotate_left
                  · intro w hSw; (try dsimp only at hSw); go_simp; (try with_reducible rfl)
                  try simp only [Act.put, List.setIfInBounds_toArray, List.set_cons_zero, List.set_cons_succ]
                  refine tk 31 (v := ?_) ?_ ?_
                  rotate_left
                  · intro w hSw; (try dsimp only at hSw); go_simp; (try with_reducible rfl)
                  try simp only [Act.put, List.setIfInBounds_toArray, List.set_cons_zero, List.set_cons_succ]
                  refine wpAnyH_done (by kernel_rfl) ?_ _
                  refine NoPanic.normal ?_
                  have hbb := hHeld.1
                  replace KX := hid (KX.out.step hbb)
                  replace KF := hid (KF.out.step hbb)
                  replace KQ := hid (KQ.out.step hbb)
                  replace C1w := hid (C1w.out.below hbb)
                  replace C2w := hid (C2w.out.below hbb)
                  have KAT : Hid (∀ y, Below wr.heap.size wr y → y.cell? ⟨NQ, qq * 5, none⟩ = some (.int .i64 cX.n) ∧ y.cell? ⟨NQ, qq * 5 + 1, none⟩ = some (.int .i64 cX.s0) ∧ y.cell? ⟨NQ, qq * 5 + 2, none⟩ = some (.int .i64 cX.s1) ∧ y.cell? ⟨NQ, qq * 5 + 3, none⟩ = some (.slice d0 d1 d2) ∧ y.cell? ⟨NQ, qq * 5 + 4, none⟩ = some (.slice d3 d4 d5)) := hid (fun y hb => by obtain ⟨h, h0, h1, h2, h3, h4, _⟩ := KS.out y hb; exact ⟨h0, h1, h2, h3, h4⟩)
                  have BW := hid hbb
                  clear hbb KS hHeld
                  go_upto_region 19 with fail
                  go_loopw [16] (fun j wz => ∃ (rr : Nat), rr ≤ 4 ∧ j = .int .i64 rr ∧ Hid (Kp w wz w.heap.size (.cells #[.int .i64 m, .int .i64 cA.n, .int .i64 cA.s0, .int .i64 cA.s1, .slice a0 p0 k0, .slice a1 p1 k1, .int .i64 cB.n, .int .i64 cB.s0, .int .i64 cB.s1, .slice b0 q0 j0, .slice b1 q1 j1, .int .u8 x0, .int .u8 x1, .int .u8 x2, .int .u8 x3] 30)) ∧ Hid (Kp w wz NF (.cells #[.int .i64 m, .int .i64 1, .int .i64 2] 3)) ∧ Hid (Kp w wz NQ (.cells #[.int .i64 cA.n, .int .i64 cA.s0, .int .i64 cA.s1, .slice a0 p0 k0, .slice a1 p1 k1, .int .i64 cB.n, .int .i64 cB.s0, .int .i64 cB.s1, .slice b0 q0 j0, .slice b1 q1 j1, .int .i64 C1.n, .int .i64 C1.s0, .int .i64 C1.s1, .slice r0 r1 r2, .slice r3 r4 r5, .int .i64 C2.n, .int .i64 C2.s0, .int .i64 C2.s1, .slice s0 s1 s2, .slice s3 s4 s5] 26)) ∧ Hid (CW wz r0 r1 r2 r3 r4 r5 C1) ∧ Hid (CW wz s0 s1 s2 s3 s4 s5 C2) ∧ Hid (Below wr.heap.size wr wz)) (fun j _ => 4 - (intOf j).toNat)
                  case atStart => exact ⟨0, by omega, rfl, KX, KF, KQ, C1w, C2w, BW⟩
                  case round =>
                    obtain ⟨rr, hrr, rfl, KX, KF, KQ, C1w, C2w, BW⟩ := hrel
                    have hz5 : (0 : Int) ≤ (rr : Int) := by omega
                    by_cases hl5 : rr < 4
                    · have hqi5 : (rr : Int) < 4 := by omega
                      have hqd5 : decide ((rr : Int) < 4) = true := decide_eq_true hqi5
                      as_aux_lemma =>
                      obtain ⟨cY, e0, e1, e2, e3, e4, e5, hat, hgd⟩ := four_pick KQ.out.2.2 ⟨HA.out.below KX.out.1, OA.out, by have := PA.out; omega, by have := PA.out; omega⟩ ⟨HB.out.below KX.out.1, OB.out, by have := PB.out; omega, by have := PB.out; omega⟩ ⟨C1w.out, OC1.out, by have := cw_len C1w.out; have := LC1.out; omega, by have := cw_len C1w.out; have := LC1.out; omega⟩ ⟨C2w.out, OC2.out, by have := cw_len C2w.out; have := LC2.out; omega, by have := cw_len C2w.out; have := LC2.out; omega⟩ hl5
                      have GY := hid hgd
                      have AT2 := hid hat
                      obtain ⟨J, hJ⟩ : ∃ y, cjC m' cX cY = y := ⟨_, rfl⟩
                      obtain ⟨vj, hvj⟩ : ∃ y, cjB m' cX cY = y := ⟨_, rfl⟩
                      obtain ⟨vs, hvs⟩ : ∃ y, csm cX cY = y := ⟨_, rfl⟩
                      have EJ := hid hJ
                      have EVJ := hid hvj
                      have EVS := hid hvs
                      have PJ : Hid (Pos J.b0 ∧ Pos J.b1) := hid (by rw [← hJ]; exact cjC_pos _ _ _)
                      have ejj : (vj != vj) = false := by simp
                      have ess : (vs != vs) = false := by simp
                      clear hat hgd hJ hvj hvs
                      have KS : Hid (∀ y, Below wr.heap.size wr y → y.cell? ⟨NQ, qq * 5, none⟩ = some (.int .i64 cX.n) ∧ y.cell? ⟨NQ, qq * 5 + 1, none⟩ = some (.int .i64 cX.s0) ∧ y.cell? ⟨NQ, qq * 5 + 2, none⟩ = some (.int .i64 cX.s1) ∧ y.cell? ⟨NQ, qq * 5 + 3, none⟩ = some (.slice d0 d1 d2) ∧ y.cell? ⟨NQ, qq * 5 + 4, none⟩ = some (.slice d3 d4 d5) ∧ y.cell? ⟨NQ, rr * 5, none⟩ = some (.int .i64 cY.n) ∧ y.cell? ⟨NQ, rr * 5 + 1, none⟩ = some (.int .i64 cY.s0) ∧ y.cell? ⟨NQ, rr * 5 + 2, none⟩ = some (.int .i64 cY.s1) ∧ y.cell? ⟨NQ, rr * 5 + 3, none⟩ = some (.slice e0 e1 e2) ∧ y.cell? ⟨NQ, rr * 5 + 4, none⟩ = some (.slice e3 e4 e5)) := hid (fun y hb => by
                        obtain ⟨h0, h1, h2, h3, h4⟩ := KAT.out y (bt BW.out hb)
                        obtain ⟨k0, k1, k2, k3, k4⟩ := AT2.out
                        have hltQ := heap_lt KQ.out.2.2
                        exact ⟨h0, h1, h2, h3, h4, ((bcell hb).1 NQ _ hltQ).trans k0, ((bcell hb).1 NQ _ hltQ).trans k1, ((bcell hb).1 NQ _ hltQ).trans k2, ((bcell hb).1 NQ _ hltQ).trans k3, ((bcell hb).1 NQ _ hltQ).trans k4⟩)
                      have BI : Hid (Below wr.heap.size wr wr) := hid (Below.refl _ _)
                      go_upto_region 21 with fail
                      go_cut [17, 18] (fun p q wx => ∃ (NJ : Nat) (j0 : Option Addr) (j1 j2 : Nat) (j3 : Option Addr) (j4 j5 : Nat), p = .pointer (some ⟨NJ, 0, none⟩) ∧ q = .bool vj ∧ Hid (Below wr.heap.size wr wx) ∧ Hid (Kp wr wx NJ (.cells #[.int .i64 J.n, .int .i64 J.s0, .int .i64 J.s1, .slice j0 j1 j2, .slice j3 j4 j5] 26)) ∧ Hid (CW wx j0 j1 j2 j3 j4 j5 J))
                      case first =>
                          refine wp_region_noPanic ?_
                          refine wp_region_held_drew (S := fun y => y.cell? ⟨NQ, qq * 5, none⟩ = some (.int .i64 cX.n) ∧ y.cell? ⟨NQ, qq * 5 + 1, none⟩ = some (.int .i64 cX.s0) ∧ y.cell? ⟨NQ, qq * 5 + 2, none⟩ = some (.int .i64 cX.s1) ∧ y.cell? ⟨NQ, qq * 5 + 3, none⟩ = some (.slice d0 d1 d2) ∧ y.cell? ⟨NQ, qq * 5 + 4, none⟩ = some (.slice d3 d4 d5) ∧ y.cell? ⟨NQ, rr * 5, none⟩ = some (.int .i64 cY.n) ∧ y.cell? ⟨NQ, rr * 5 + 1, none⟩ = some (.int .i64 cY.s0) ∧ y.cell? ⟨NQ, rr * 5 + 2, none⟩ = some (.int .i64 cY.s1) ∧ y.cell? ⟨NQ, rr * 5 + 3, none⟩ = some (.slice e0 e1 e2) ∧ y.cell? ⟨NQ, rr * 5 + 4, none⟩ = some (.slice e3 e4 e5)) (by kernel_rfl) (KS.out _ (bt BI.out (bdrew (Below.refl _ _)))) (fun hHeld => ?_)
                          replace BI := hid (bt BI.out (bdrew (Below.refl _ _)))
                          generalize wr.drew = wrd at BI hHeld ⊢
                          refine tk 0 (v := ?_) ?_ ?_
                          rotate_left
                          · intro w hSw; (try dsimp only at hSw); go_simp; (try with_reducible rfl)
                          try simp only [Act.put, List.setIfInBounds_toArray, List.set_cons_zero, List.set_cons_succ]
                          refine tk 1 (v := ?_) ?_ ?_
                          rotate_left
                          · intro w hSw; (try dsimp only at hSw); go_simp; (try with_reducible rfl)
                          try simp only [Act.put, List.setIfInBounds_toArray, List.set_cons_zero, List.set_cons_succ]
                          refine tk 2 (v := ?_) ?_ ?_
                          rotate_left
                          · intro w hSw; (try dsimp only at hSw); go_simp; (try with_reducible rfl)
                          try simp only [Act.put, List.setIfInBounds_toArray, List.set_cons_zero, List.set_cons_succ]
                          refine tk 3 (v := ?_) ?_ ?_
                          rotate_left
                          · intro w hSw; (try dsimp only at hSw); go_simp; (try with_reducible rfl)
                          try simp only [Act.put, List.setIfInBounds_toArray, List.set_cons_zero, List.set_cons_succ]
                          refine tk 4 (v := ?_) ?_ ?_
                          rotate_left
                          · intro w hSw; (try dsimp only at hSw); go_simp; (try with_reducible rfl)
                          try simp only [Act.put, List.setIfInBounds_toArray, List.set_cons_zero, List.set_cons_succ]
                          refine tk 5 (v := ?_) ?_ ?_
                          rotate_left
                          · intro w hSw; (try dsimp only at hSw); go_simp; (try with_reducible rfl)
                          try simp only [Act.put, List.setIfInBounds_toArray, List.set_cons_zero, List.set_cons_succ]
                          refine tk 6 (v := ?_) ?_ ?_
                          rotate_left
                          · intro w hSw; (try dsimp only at hSw); go_simp; (try with_reducible rfl)
                          try simp only [Act.put, List.setIfInBounds_toArray, List.set_cons_zero, List.set_cons_succ]
                          refine tk 7 (v := ?_) ?_ ?_
                          rotate_left
                          · intro w hSw; (try dsimp only at hSw); go_simp; (try with_reducible rfl)
                          try simp only [Act.put, List.setIfInBounds_toArray, List.set_cons_zero, List.set_cons_succ]
                          refine tk 8 (v := ?_) ?_ ?_
                          rotate_left
                          · intro w hSw; (try dsimp only at hSw); go_simp; (try with_reducible rfl)
                          try simp only [Act.put, List.setIfInBounds_toArray, List.set_cons_zero, List.set_cons_succ]
                          refine wpAnyH_ready (rs := [9, 13]) (by kernel_rfl) (by simp) ?_
                          refine (rdc (fun K hK => ?_) (rdc (fun K hK => ?_) AllReadyH.nil))
                          · go_simp
                            go_at_call 23; refine (cjoin_m m' cX cY _ _ _ _ _ _ _ _ _ _ _ _ J vj _ (GX.out.1.below (bt BW.out BI.out)) (GY.out.1.below BI.out) GX.out.2.1 GY.out.2.1 ⟨GX.out.2.2.1, GX.out.2.2.2, GY.out.2.2.1, GY.out.2.2.2⟩ EJ EVJ).mono ?_; rintro e NJw1 ⟨⟨j0, j1, j2, j3, j4, j5, rfl, hcw⟩, hb⟩
                            have JW := hid hcw
                            replace BI := hid (bt BI.out hb)
                            refine hK.out _ _ (KS.out _ BI.out) (fun hHeld2 => ?_)
                            clear hK K hHeld; have hHeld := hHeld2; clear hHeld2
                            clear hcw hb
                            try simp only [Act.put, List.setIfInBounds_toArray, List.set_cons_zero, List.set_cons_succ]
                            refine tk 10 (v := ?_) ?_ ?_
                            rotate_left
                            · intro w hSw; (try dsimp only at hSw); go_simp; (try with_reducible rfl)
                            try simp only [Act.put, List.setIfInBounds_toArray, List.set_cons_zero, List.set_cons_succ]
                            refine tk 11 (v := ?_) ?_ ?_
                            rotate_left
                            · intro w hSw; (try dsimp only at hSw); go_simp; (try with_reducible rfl)
                            try simp only [Act.put, List.setIfInBounds_toArray, List.set_cons_zero, List.set_cons_succ]
                            refine tk 12 (v := ?_) ?_ ?_
                            rotate_left
                            · intro w hSw; (try dsimp only at hSw); go_simp; (try with_reducible rfl)
                            try simp only [Act.put, List.setIfInBounds_toArray, List.set_cons_zero, List.set_cons_succ]
                            refine rd1 13 (fun K hK => ?_)
                            go_simp
                            have KJ : Hid (Kp wr (NJw1.alloc (.cells #[.int .i64 0, .int .i64 0, .int .i64 0, .slice none 0 0, .slice none 0 0] 26)) NJw1.heap.size (.cells #[.int .i64 0, .int .i64 0, .int .i64 0, .slice none 0 0, .slice none 0 0] 26)) := hid (kp_new2 BI.out _ _ rfl)
                            replace BI := hid (bt BI.out (b1alloc NJw1 (.cells #[.int .i64 0, .int .i64 0, .int .i64 0, .slice none 0 0, .slice none 0 0] 26)))
                            replace JW := hid (JW.out.below (b1alloc NJw1 (.cells #[.int .i64 0, .int .i64 0, .int .i64 0, .slice none 0 0, .slice none 0 0] 26)))
                            refine hK.out _ _ (KS.out _ BI.out) (fun hHeld2 => ?_)
                            clear hK K hHeld; have hHeld := hHeld2; clear hHeld2
                            generalize NJw1.alloc (.cells #[.int .i64 0, .int .i64 0, .int .i64 0, .slice none 0 0, .slice none 0 0] 26) = NJw2 at BI KJ JW hHeld ⊢
                            generalize NJw1.heap.size = NJ at KJ ⊢
                            try simp only [Act.put, List.setIfInBounds_toArray, List.set_cons_zero, List.set_cons_succ]
                            refine rd1 14 (fun K hK => ?_)
                            obtain ⟨z0, z1, z2, z3, z4⟩ := box_five KJ.out.2.2
                            have y0 := kp_froz KJ.out 0
                            have y1 := kp_froz KJ.out 1
                            have y2 := kp_froz KJ.out 2
                            have y3 := kp_froz KJ.out 3
                            have y4 := kp_froz KJ.out 4
                            go_simp
                            have g6 := set5_grown NJw2 NJ (.int .i64 J.n) (.int .i64 J.s0) (.int .i64 J.s1) (.slice j0 j1 j2) (.slice j3 j4 j5)
                            have nz := no_zr5 (fun _ h => by cases h) (fun _ h => by cases h) KJ.out.2.2
                            replace JW := hid (cw_off JW.out g6 nz PJ.out)
                            replace BI := hid (BI.out.trans (grow_below (base := wr.heap.size) g6 BI.out.size (fun j h => by cases h; exact KJ.out.2.1)))
                            replace KJ := hid (kp_set5 (.int .i64 J.n) (.int .i64 J.s0) (.int .i64 J.s1) (.slice j0 j1 j2) (.slice j3 j4 j5) KJ.out)
                            refine hK.out _ _ (KS.out _ BI.out) (fun hHeld2 => ?_)
                            clear hK K hHeld; have hHeld := hHeld2; clear hHeld2
                            clear g6 nz z0 y0 z1 y1 z2 y2 z3 y3 z4 y4
                            generalize (((((NJw2.setCell ⟨NJ, 0, none⟩ (.int .i64 J.n)).setCell ⟨NJ, 1, none⟩ (.int .i64 J.s0)).setCell ⟨NJ, 2, none⟩ (.int .i64 J.s1)).setCell ⟨NJ, 3, none⟩ (.slice j0 j1 j2)).setCell ⟨NJ, 4, none⟩ (.slice j3 j4 j5)) = NJw3 at BI KJ JW hHeld ⊢
                            try simp only [Act.put, List.setIfInBounds_toArray, List.set_cons_zero, List.set_cons_succ]
                            refine tk 15 (v := ?_) ?_ ?_
                            rotate_left
                            · intro w hSw; (try dsimp only at hSw); go_simp; (try with_reducible rfl)
                            try simp only [Act.put, List.setIfInBounds_toArray, List.set_cons_zero, List.set_cons_succ]
                            refine wpAnyH_done (by kernel_rfl) ?_ _
                            refine NoPanic.normal ?_
                            try go_wp2_with fail
                            go_meet
                            exact ⟨NJ, j0, j1, j2, j3, j4, j5, rfl, rfl, BI, KJ, JW⟩
                          · go_simp
                            have KJ : Hid (Kp wr (wrd.alloc (.cells #[.int .i64 0, .int .i64 0, .int .i64 0, .slice none 0 0, .slice none 0 0] 26)) wrd.heap.size (.cells #[.int .i64 0, .int .i64 0, .int .i64 0, .slice none 0 0, .slice none 0 0] 26)) := hid (kp_new2 BI.out _ _ rfl)
                            replace BI := hid (bt BI.out (b1alloc wrd (.cells #[.int .i64 0, .int .i64 0, .int .i64 0, .slice none 0 0, .slice none 0 0] 26)))
                            refine hK.out _ _ (KS.out _ BI.out) (fun hHeld2 => ?_)
                            clear hK K hHeld; have hHeld := hHeld2; clear hHeld2
                            generalize wrd.alloc (.cells #[.int .i64 0, .int .i64 0, .int .i64 0, .slice none 0 0, .slice none 0 0] 26) = NJw1 at BI KJ hHeld ⊢
                            generalize wrd.heap.size = NJ at KJ ⊢
                            try simp only [Act.put, List.setIfInBounds_toArray, List.set_cons_zero, List.set_cons_succ]
                            refine rd1 9 (fun K hK => ?_)
                            go_simp
                            go_at_call 23; refine (cjoin_m m' cX cY _ _ _ _ _ _ _ _ _ _ _ _ J vj _ (GX.out.1.below (bt BW.out BI.out)) (GY.out.1.below BI.out) GX.out.2.1 GY.out.2.1 ⟨GX.out.2.2.1, GX.out.2.2.2, GY.out.2.2.1, GY.out.2.2.2⟩ EJ EVJ).mono ?_; rintro e NJw2 ⟨⟨j0, j1, j2, j3, j4, j5, rfl, hcw⟩, hb⟩
                            have JW := hid hcw
                            replace BI := hid (bt BI.out hb)
                            replace KJ := hid (KJ.out.step hb)
                            refine hK.out _ _ (KS.out _ BI.out) (fun hHeld2 => ?_)
                            clear hK K hHeld; have hHeld := hHeld2; clear hHeld2
                            clear hcw hb
                            try simp only [Act.put, List.setIfInBounds_toArray, List.set_cons_zero, List.set_cons_succ]
                            refine tk 10 (v := ?_) ?_ ?_
                            rotate_left
                            · intro w hSw; (try dsimp only at hSw); go_simp; (try with_reducible rfl)
                            try simp only [Act.put, List.setIfInBounds_toArray, List.set_cons_zero, List.set_cons_succ]
                            refine tk 11 (v := ?_) ?_ ?_
                            rotate_left
                            · intro w hSw; (try dsimp only at hSw); go_simp; (try with_reducible rfl)
                            try simp only [Act.put, List.setIfInBounds_toArray, List.set_cons_zero, List.set_cons_succ]
                            refine tk 12 (v := ?_) ?_ ?_
                            rotate_left
                            · intro w hSw; (try dsimp only at hSw); go_simp; (try with_reducible rfl)
                            try simp only [Act.put, List.setIfInBounds_toArray, List.set_cons_zero, List.set_cons_succ]
                            refine rd1 14 (fun K hK => ?_)
                            obtain ⟨z0, z1, z2, z3, z4⟩ := box_five KJ.out.2.2
                            have y0 := kp_froz KJ.out 0
                            have y1 := kp_froz KJ.out 1
                            have y2 := kp_froz KJ.out 2
                            have y3 := kp_froz KJ.out 3
                            have y4 := kp_froz KJ.out 4
                            go_simp
                            have g6 := set5_grown NJw2 NJ (.int .i64 J.n) (.int .i64 J.s0) (.int .i64 J.s1) (.slice j0 j1 j2) (.slice j3 j4 j5)
                            have nz := no_zr5 (fun _ h => by cases h) (fun _ h => by cases h) KJ.out.2.2
                            replace JW := hid (cw_off JW.out g6 nz PJ.out)
                            replace BI := hid (BI.out.trans (grow_below (base := wr.heap.size) g6 BI.out.size (fun j h => by cases h; exact KJ.out.2.1)))
                            replace KJ := hid (kp_set5 (.int .i64 J.n) (.int .i64 J.s0) (.int .i64 J.s1) (.slice j0 j1 j2) (.slice j3 j4 j5) KJ.out)
                            refine hK.out _ _ (KS.out _ BI.out) (fun hHeld2 => ?_)
                            clear hK K hHeld; have hHeld := hHeld2; clear hHeld2
                            clear g6 nz z0 y0 z1 y1 z2 y2 z3 y3 z4 y4
                            generalize (((((NJw2.setCell ⟨NJ, 0, none⟩ (.int .i64 J.n)).setCell ⟨NJ, 1, none⟩ (.int .i64 J.s0)).setCell ⟨NJ, 2, none⟩ (.int .i64 J.s1)).setCell ⟨NJ, 3, none⟩ (.slice j0 j1 j2)).setCell ⟨NJ, 4, none⟩ (.slice j3 j4 j5)) = NJw3 at BI KJ JW hHeld ⊢
                            try simp only [Act.put, List.setIfInBounds_toArray, List.set_cons_zero, List.set_cons_succ]
                            refine tk 15 (v := ?_) ?_ ?_
                            rotate_left
                            · intro w hSw; (try dsimp only at hSw); go_simp; (try with_reducible rfl)
                            try simp only [Act.put, List.setIfInBounds_toArray, List.set_cons_zero, List.set_cons_succ]
                            refine wpAnyH_done (by kernel_rfl) ?_ _
                            refine NoPanic.normal ?_
                            try go_wp2_with fail
                            go_meet
                            exact ⟨NJ, j0, j1, j2, j3, j4, j5, rfl, rfl, BI, KJ, JW⟩
                      case rest =>
                      obtain ⟨NJ, j0, j1, j2, j3, j4, j5, rfl, rfl, BI, KJ, JW⟩ := hcut
                      rename World => wa
                      go_upto_region 22 with fail
                      go_cut [19] (fun p wx => ∃ (NR : Nat) (i0 : Option Addr) (i1 i2 : Nat) (i3 : Option Addr) (i4 i5 : Nat), p = .pointer (some ⟨NR, 0, none⟩) ∧ Hid (Below wr.heap.size wr wx) ∧ Hid (Kp wr wx NR (.cells #[.int .i64 J.n, .int .i64 J.s0, .int .i64 J.s1, .slice i0 i1 i2, .slice i3 i4 i5, .bool vj] 36)) ∧ Hid (CW wx i0 i1 i2 i3 i4 i5 J) ∧ Hid (Kp wr wx NJ (.cells #[.int .i64 J.n, .int .i64 J.s0, .int .i64 J.s1, .slice j0 j1 j2, .slice j3 j4 j5] 26)) ∧ Hid (CW wx j0 j1 j2 j3 j4 j5 J))
                      case first =>
                          refine wp_region_noPanic ?_
                          refine wp_region_held_drew (S := fun y => y.cell? ⟨NQ, qq * 5, none⟩ = some (.int .i64 cX.n) ∧ y.cell? ⟨NQ, qq * 5 + 1, none⟩ = some (.int .i64 cX.s0) ∧ y.cell? ⟨NQ, qq * 5 + 2, none⟩ = some (.int .i64 cX.s1) ∧ y.cell? ⟨NQ, qq * 5 + 3, none⟩ = some (.slice d0 d1 d2) ∧ y.cell? ⟨NQ, qq * 5 + 4, none⟩ = some (.slice d3 d4 d5) ∧ y.cell? ⟨NQ, rr * 5, none⟩ = some (.int .i64 cY.n) ∧ y.cell? ⟨NQ, rr * 5 + 1, none⟩ = some (.int .i64 cY.s0) ∧ y.cell? ⟨NQ, rr * 5 + 2, none⟩ = some (.int .i64 cY.s1) ∧ y.cell? ⟨NQ, rr * 5 + 3, none⟩ = some (.slice e0 e1 e2) ∧ y.cell? ⟨NQ, rr * 5 + 4, none⟩ = some (.slice e3 e4 e5)) (by kernel_rfl) (KS.out _ (bt BI.out (bdrew (Below.refl _ _)))) (fun hHeld => ?_)
                          replace BI := hid (bt BI.out (bdrew (Below.refl _ _)))
                          replace KJ := hid (KJ.out.step (bdrew (Below.refl _ _)))
                          replace JW := hid (JW.out.below (bdrew (Below.refl _ _)))
                          generalize wa.drew = wad at BI KJ JW hHeld ⊢
                          refine tk 0 (v := ?_) ?_ ?_
                          rotate_left
                          · intro w hSw; (try dsimp only at hSw); go_simp; (try with_reducible rfl)
                          try simp only [Act.put, List.setIfInBounds_toArray, List.set_cons_zero, List.set_cons_succ]
                          refine tk 1 (v := ?_) ?_ ?_
                          rotate_left
                          · intro w hSw; (try dsimp only at hSw); go_simp; (try with_reducible rfl)
                          try simp only [Act.put, List.setIfInBounds_toArray, List.set_cons_zero, List.set_cons_succ]
                          refine tk 2 (v := ?_) ?_ ?_
                          rotate_left
                          · intro w hSw; (try dsimp only at hSw); go_simp; (try with_reducible rfl)
                          try simp only [Act.put, List.setIfInBounds_toArray, List.set_cons_zero, List.set_cons_succ]
                          refine tk 3 (v := ?_) ?_ ?_
                          rotate_left
                          · intro w hSw; (try dsimp only at hSw); go_simp; (try with_reducible rfl)
                          try simp only [Act.put, List.setIfInBounds_toArray, List.set_cons_zero, List.set_cons_succ]
                          refine tk 4 (v := ?_) ?_ ?_
                          rotate_left
                          · intro w hSw; (try dsimp only at hSw); go_simp; (try with_reducible rfl)
                          try simp only [Act.put, List.setIfInBounds_toArray, List.set_cons_zero, List.set_cons_succ]
                          refine tk 5 (v := ?_) ?_ ?_
                          rotate_left
                          · intro w hSw; (try dsimp only at hSw); go_simp; (try with_reducible rfl)
                          try simp only [Act.put, List.setIfInBounds_toArray, List.set_cons_zero, List.set_cons_succ]
                          refine tk 6 (v := ?_) ?_ ?_
                          rotate_left
                          · intro w hSw; (try dsimp only at hSw); go_simp; (try with_reducible rfl)
                          try simp only [Act.put, List.setIfInBounds_toArray, List.set_cons_zero, List.set_cons_succ]
                          refine tk 7 (v := ?_) ?_ ?_
                          rotate_left
                          · intro w hSw; (try dsimp only at hSw); go_simp; (try with_reducible rfl)
                          try simp only [Act.put, List.setIfInBounds_toArray, List.set_cons_zero, List.set_cons_succ]
                          refine tk 8 (v := ?_) ?_ ?_
                          rotate_left
                          · intro w hSw; (try dsimp only at hSw); go_simp; (try with_reducible rfl)
                          try simp only [Act.put, List.setIfInBounds_toArray, List.set_cons_zero, List.set_cons_succ]
                          refine wpAnyH_ready (rs := [9, 10]) (by kernel_rfl) (by simp) ?_
                          refine (rdc (fun K hK => ?_) (rdc (fun K hK => ?_) AllReadyH.nil))
                          · go_simp
                            go_at_call 24; refine (crjoin_m m' cX cY _ _ _ _ _ _ _ _ _ _ _ _ J vj _ (GX.out.1.below (bt BW.out BI.out)) (GY.out.1.below BI.out) GX.out.2.1 GY.out.2.1 ⟨GX.out.2.2.1, GX.out.2.2.2, GY.out.2.2.1, GY.out.2.2.2⟩ EJ EVJ).mono ?_; rintro e NRw1 ⟨⟨i0, i1, i2, i3, i4, i5, rfl, hcw⟩, hb⟩
                            have IW := hid hcw
                            replace BI := hid (bt BI.out hb)
                            replace KJ := hid (KJ.out.step hb)
                            replace JW := hid (JW.out.below hb)
                            refine hK.out _ _ (KS.out _ BI.out) (fun hHeld2 => ?_)
                            clear hK K hHeld; have hHeld := hHeld2; clear hHeld2
                            clear hcw hb
                            try simp only [Act.put, List.setIfInBounds_toArray, List.set_cons_zero, List.set_cons_succ]
                            refine rd1 10 (fun K hK => ?_)
                            go_simp
                            have KR : Hid (Kp wr (NRw1.alloc (.cells #[.int .i64 0, .int .i64 0, .int .i64 0, .slice none 0 0, .slice none 0 0, .bool false] 36)) NRw1.heap.size (.cells #[.int .i64 0, .int .i64 0, .int .i64 0, .slice none 0 0, .slice none 0 0, .bool false] 36)) := hid (kp_new2 BI.out _ _ rfl)
                            have LNR := hid (heap_lt KJ.out.2.2)
                            replace BI := hid (bt BI.out (b1alloc NRw1 (.cells #[.int .i64 0, .int .i64 0, .int .i64 0, .slice none 0 0, .slice none 0 0, .bool false] 36)))
                            replace KJ := hid (KJ.out.step (b1alloc NRw1 (.cells #[.int .i64 0, .int .i64 0, .int .i64 0, .slice none 0 0, .slice none 0 0, .bool false] 36)))
                            replace JW := hid (JW.out.below (b1alloc NRw1 (.cells #[.int .i64 0, .int .i64 0, .int .i64 0, .slice none 0 0, .slice none 0 0, .bool false] 36)))
                            replace IW := hid (IW.out.below (b1alloc NRw1 (.cells #[.int .i64 0, .int .i64 0, .int .i64 0, .slice none 0 0, .slice none 0 0, .bool false] 36)))
                            refine hK.out _ _ (KS.out _ BI.out) (fun hHeld2 => ?_)
                            clear hK K hHeld; have hHeld := hHeld2; clear hHeld2
                            generalize NRw1.alloc (.cells #[.int .i64 0, .int .i64 0, .int .i64 0, .slice none 0 0, .slice none 0 0, .bool false] 36) = NRw2 at BI KR KJ JW IW hHeld ⊢
                            generalize NRw1.heap.size = NR at KR LNR ⊢
                            try simp only [Act.put, List.setIfInBounds_toArray, List.set_cons_zero, List.set_cons_succ]
                            refine rd1 11 (fun K hK => ?_)
                            obtain ⟨z0, z1, z2, z3, z4, z5⟩ := box_6 KR.out.2.2
                            have y0 := kp_froz KR.out 0
                            have y1 := kp_froz KR.out 1
                            have y2 := kp_froz KR.out 2
                            have y3 := kp_froz KR.out 3
                            have y4 := kp_froz KR.out 4
                            have y5 := kp_froz KR.out 5
                            go_simp
                            have g6 := set6_grown NRw2 NR (.int .i64 J.n) (.int .i64 J.s0) (.int .i64 J.s1) (.slice i0 i1 i2) (.slice i3 i4 i5) (.bool vj)
                            have nz := no_zr (fun _ h => by cases h) (fun _ h => by cases h) (fun _ h => by cases h) KR.out.2.2
                            replace IW := hid (cw_off IW.out g6 nz PJ.out)
                            replace KJ := hid (kp_gr KJ.out g6 (by have := LNR.out; omega) (KR.out.2.1))
                            replace JW := hid (cw_off JW.out g6 nz PJ.out)
                            replace BI := hid (BI.out.trans (grow_below (base := wr.heap.size) g6 BI.out.size (fun j h => by cases h; exact KR.out.2.1)))
                            replace KR := hid (kp_set6 (.int .i64 J.n) (.int .i64 J.s0) (.int .i64 J.s1) (.slice i0 i1 i2) (.slice i3 i4 i5) (.bool vj) KR.out)
                            refine hK.out _ _ (KS.out _ BI.out) (fun hHeld2 => ?_)
                            clear hK K hHeld; have hHeld := hHeld2; clear hHeld2
                            clear g6 nz z0 y0 z1 y1 z2 y2 z3 y3 z4 y4 z5 y5
                            generalize ((((((NRw2.setCell ⟨NR, 0, none⟩ (.int .i64 J.n)).setCell ⟨NR, 1, none⟩ (.int .i64 J.s0)).setCell ⟨NR, 2, none⟩ (.int .i64 J.s1)).setCell ⟨NR, 3, none⟩ (.slice i0 i1 i2)).setCell ⟨NR, 4, none⟩ (.slice i3 i4 i5)).setCell ⟨NR, 5, none⟩ (.bool vj)) = NRw3 at BI KR IW KJ JW hHeld ⊢
                            try simp only [Act.put, List.setIfInBounds_toArray, List.set_cons_zero, List.set_cons_succ]
                            refine wpAnyH_done (by kernel_rfl) ?_ _
                            refine NoPanic.normal ?_
                            try go_wp2_with fail
                            go_meet
                            exact ⟨NR, i0, i1, i2, i3, i4, i5, rfl, BI, KR, IW, KJ, JW⟩
                          · go_simp
                            have KR : Hid (Kp wr (wad.alloc (.cells #[.int .i64 0, .int .i64 0, .int .i64 0, .slice none 0 0, .slice none 0 0, .bool false] 36)) wad.heap.size (.cells #[.int .i64 0, .int .i64 0, .int .i64 0, .slice none 0 0, .slice none 0 0, .bool false] 36)) := hid (kp_new2 BI.out _ _ rfl)
                            have LNR := hid (heap_lt KJ.out.2.2)
                            replace BI := hid (bt BI.out (b1alloc wad (.cells #[.int .i64 0, .int .i64 0, .int .i64 0, .slice none 0 0, .slice none 0 0, .bool false] 36)))
                            replace KJ := hid (KJ.out.step (b1alloc wad (.cells #[.int .i64 0, .int .i64 0, .int .i64 0, .slice none 0 0, .slice none 0 0, .bool false] 36)))
                            replace JW := hid (JW.out.below (b1alloc wad (.cells #[.int .i64 0, .int .i64 0, .int .i64 0, .slice none 0 0, .slice none 0 0, .bool false] 36)))
                            refine hK.out _ _ (KS.out _ BI.out) (fun hHeld2 => ?_)
                            clear hK K hHeld; have hHeld := hHeld2; clear hHeld2
                            generalize wad.alloc (.cells #[.int .i64 0, .int .i64 0, .int .i64 0, .slice none 0 0, .slice none 0 0, .bool false] 36) = NRw1 at BI KR KJ JW hHeld ⊢
                            generalize wad.heap.size = NR at KR LNR ⊢
                            try simp only [Act.put, List.setIfInBounds_toArray, List.set_cons_zero, List.set_cons_succ]
                            refine rd1 9 (fun K hK => ?_)
                            go_simp
                            go_at_call 24; refine (crjoin_m m' cX cY _ _ _ _ _ _ _ _ _ _ _ _ J vj _ (GX.out.1.below (bt BW.out BI.out)) (GY.out.1.below BI.out) GX.out.2.1 GY.out.2.1 ⟨GX.out.2.2.1, GX.out.2.2.2, GY.out.2.2.1, GY.out.2.2.2⟩ EJ EVJ).mono ?_; rintro e NRw2 ⟨⟨i0, i1, i2, i3, i4, i5, rfl, hcw⟩, hb⟩
                            have IW := hid hcw
                            replace BI := hid (bt BI.out hb)
                            replace KJ := hid (KJ.out.step hb)
                            replace JW := hid (JW.out.below hb)
                            replace KR := hid (KR.out.step hb)
                            refine hK.out _ _ (KS.out _ BI.out) (fun hHeld2 => ?_)
                            clear hK K hHeld; have hHeld := hHeld2; clear hHeld2
                            clear hcw hb
                            try simp only [Act.put, List.setIfInBounds_toArray, List.set_cons_zero, List.set_cons_succ]
                            refine rd1 11 (fun K hK => ?_)
                            obtain ⟨z0, z1, z2, z3, z4, z5⟩ := box_6 KR.out.2.2
                            have y0 := kp_froz KR.out 0
                            have y1 := kp_froz KR.out 1
                            have y2 := kp_froz KR.out 2
                            have y3 := kp_froz KR.out 3
                            have y4 := kp_froz KR.out 4
                            have y5 := kp_froz KR.out 5
                            go_simp
                            have g6 := set6_grown NRw2 NR (.int .i64 J.n) (.int .i64 J.s0) (.int .i64 J.s1) (.slice i0 i1 i2) (.slice i3 i4 i5) (.bool vj)
                            have nz := no_zr (fun _ h => by cases h) (fun _ h => by cases h) (fun _ h => by cases h) KR.out.2.2
                            replace IW := hid (cw_off IW.out g6 nz PJ.out)
                            replace KJ := hid (kp_gr KJ.out g6 (by have := LNR.out; omega) (KR.out.2.1))
                            replace JW := hid (cw_off JW.out g6 nz PJ.out)
                            replace BI := hid (BI.out.trans (grow_below (base := wr.heap.size) g6 BI.out.size (fun j h => by cases h; exact KR.out.2.1)))
                            replace KR := hid (kp_set6 (.int .i64 J.n) (.int .i64 J.s0) (.int .i64 J.s1) (.slice i0 i1 i2) (.slice i3 i4 i5) (.bool vj) KR.out)
                            refine hK.out _ _ (KS.out _ BI.out) (fun hHeld2 => ?_)
                            clear hK K hHeld; have hHeld := hHeld2; clear hHeld2
                            clear g6 nz z0 y0 z1 y1 z2 y2 z3 y3 z4 y4 z5 y5
                            generalize ((((((NRw2.setCell ⟨NR, 0, none⟩ (.int .i64 J.n)).setCell ⟨NR, 1, none⟩ (.int .i64 J.s0)).setCell ⟨NR, 2, none⟩ (.int .i64 J.s1)).setCell ⟨NR, 3, none⟩ (.slice i0 i1 i2)).setCell ⟨NR, 4, none⟩ (.slice i3 i4 i5)).setCell ⟨NR, 5, none⟩ (.bool vj)) = NRw3 at BI KR IW KJ JW hHeld ⊢
                            try simp only [Act.put, List.setIfInBounds_toArray, List.set_cons_zero, List.set_cons_succ]
                            refine wpAnyH_done (by kernel_rfl) ?_ _
                            refine NoPanic.normal ?_
                            try go_wp2_with fail
                            go_meet
                            exact ⟨NR, i0, i1, i2, i3, i4, i5, rfl, BI, KR, IW, KJ, JW⟩
                      case rest =>
                      obtain ⟨NR, i0, i1, i2, i3, i4, i5, rfl, BI, KR, IW, KJ, JW⟩ := hcut
                      rename World => wb
                      go_upto_region 23 with fail
                      have KT : Hid (∀ y, Below wb.heap.size wb y → (fun y => Below wb.heap.size wb y ∧ y.cell? ⟨NQ, qq * 5, none⟩ = some (.int .i64 cX.n) ∧ y.cell? ⟨NQ, qq * 5 + 1, none⟩ = some (.int .i64 cX.s0) ∧ y.cell? ⟨NQ, qq * 5 + 2, none⟩ = some (.int .i64 cX.s1) ∧ y.cell? ⟨NQ, qq * 5 + 3, none⟩ = some (.slice d0 d1 d2) ∧ y.cell? ⟨NQ, qq * 5 + 4, none⟩ = some (.slice d3 d4 d5) ∧ y.cell? ⟨NQ, rr * 5, none⟩ = some (.int .i64 cY.n) ∧ y.cell? ⟨NQ, rr * 5 + 1, none⟩ = some (.int .i64 cY.s0) ∧ y.cell? ⟨NQ, rr * 5 + 2, none⟩ = some (.int .i64 cY.s1) ∧ y.cell? ⟨NQ, rr * 5 + 3, none⟩ = some (.slice e0 e1 e2) ∧ y.cell? ⟨NQ, rr * 5 + 4, none⟩ = some (.slice e3 e4 e5) ∧ y.cell? ⟨NJ, 0, none⟩ = some (.int .i64 J.n) ∧ y.cell? ⟨NJ, 1, none⟩ = some (.int .i64 J.s0) ∧ y.cell? ⟨NJ, 2, none⟩ = some (.int .i64 J.s1) ∧ y.cell? ⟨NJ, 3, none⟩ = some (.slice j0 j1 j2) ∧ y.cell? ⟨NJ, 4, none⟩ = some (.slice j3 j4 j5) ∧ y.cell? ⟨NR, 0, none⟩ = some (.int .i64 J.n) ∧ y.cell? ⟨NR, 1, none⟩ = some (.int .i64 J.s0) ∧ y.cell? ⟨NR, 2, none⟩ = some (.int .i64 J.s1) ∧ y.cell? ⟨NR, 3, none⟩ = some (.slice i0 i1 i2) ∧ y.cell? ⟨NR, 4, none⟩ = some (.slice i3 i4 i5) ∧ y.cell? ⟨NR, 5, none⟩ = some (.bool vj)) y) := hid (fun y hb => by obtain ⟨h0, h1, h2, h3, h4, h5, h6, h7, h8, h9⟩ := KS.out y (bt BI.out hb); obtain ⟨f0, f1, f2, f3, f4⟩ := box_five (KJ.out.step hb).2.2; obtain ⟨u0, u1, u2, u3, u4, u5⟩ := box_6 (KR.out.step hb).2.2; exact ⟨hb, h0, h1, h2, h3, h4, h5, h6, h7, h8, h9, f0, f1, f2, f3, f4, u0, u1, u2, u3, u4, u5⟩)
                      refine wp_region_noPanic ?_
                      refine wp_region_held_drew (S := fun y => Below wb.heap.size wb y ∧ y.cell? ⟨NQ, qq * 5, none⟩ = some (.int .i64 cX.n) ∧ y.cell? ⟨NQ, qq * 5 + 1, none⟩ = some (.int .i64 cX.s0) ∧ y.cell? ⟨NQ, qq * 5 + 2, none⟩ = some (.int .i64 cX.s1) ∧ y.cell? ⟨NQ, qq * 5 + 3, none⟩ = some (.slice d0 d1 d2) ∧ y.cell? ⟨NQ, qq * 5 + 4, none⟩ = some (.slice d3 d4 d5) ∧ y.cell? ⟨NQ, rr * 5, none⟩ = some (.int .i64 cY.n) ∧ y.cell? ⟨NQ, rr * 5 + 1, none⟩ = some (.int .i64 cY.s0) ∧ y.cell? ⟨NQ, rr * 5 + 2, none⟩ = some (.int .i64 cY.s1) ∧ y.cell? ⟨NQ, rr * 5 + 3, none⟩ = some (.slice e0 e1 e2) ∧ y.cell? ⟨NQ, rr * 5 + 4, none⟩ = some (.slice e3 e4 e5) ∧ y.cell? ⟨NJ, 0, none⟩ = some (.int .i64 J.n) ∧ y.cell? ⟨NJ, 1, none⟩ = some (.int .i64 J.s0) ∧ y.cell? ⟨NJ, 2, none⟩ = some (.int .i64 J.s1) ∧ y.cell? ⟨NJ, 3, none⟩ = some (.slice j0 j1 j2) ∧ y.cell? ⟨NJ, 4, none⟩ = some (.slice j3 j4 j5) ∧ y.cell? ⟨NR, 0, none⟩ = some (.int .i64 J.n) ∧ y.cell? ⟨NR, 1, none⟩ = some (.int .i64 J.s0) ∧ y.cell? ⟨NR, 2, none⟩ = some (.int .i64 J.s1) ∧ y.cell? ⟨NR, 3, none⟩ = some (.slice i0 i1 i2) ∧ y.cell? ⟨NR, 4, none⟩ = some (.slice i3 i4 i5) ∧ y.cell? ⟨NR, 5, none⟩ = some (.bool vj)) (by kernel_rfl) (KT.out _ (bdrew (Below.refl _ _))) (fun hHeld => ?_)
                      refine tk 0 (v := ?_) ?_ ?_
                      rotate_left
                      · intro w hSw; (try dsimp only at hSw); go_simp; (try with_reducible rfl)
                      try simp only [Act.put, List.setIfInBounds_toArray, List.set_cons_zero, List.set_cons_succ]
                      refine tk 1 (v := ?_) ?_ ?_
                      rotate_left
                      · intro w hSw; (try dsimp only at hSw); go_simp; (try with_reducible rfl)
                      try simp only [Act.put, List.setIfInBounds_toArray, List.set_cons_zero, List.set_cons_succ]
                      refine tk 2 (v := ?_) ?_ ?_
                      rotate_left
                      · intro w hSw; (try dsimp only at hSw); go_simp; (try with_reducible rfl)
                      try simp only [Act.put, List.setIfInBounds_toArray, List.set_cons_zero, List.set_cons_succ]
                      refine tk 3 (v := ?_) ?_ ?_
                      rotate_left
                      · intro w hSw; (try dsimp only at hSw); go_simp; (try with_reducible rfl)
                      try simp only [Act.put, List.setIfInBounds_toArray, List.set_cons_zero, List.set_cons_succ]
                      refine tk 4 (v := ?_) ?_ ?_
                      rotate_left
                      · intro w hSw; (try dsimp only at hSw); go_simp; (try with_reducible rfl)
                      try simp only [Act.put, List.setIfInBounds_toArray, List.set_cons_zero, List.set_cons_succ]
                      refine tk 5 (v := ?_) ?_ ?_
                      rotate_left
                      · intro w hSw; (try dsimp only at hSw); go_simp; (try with_reducible rfl)
                      try simp only [Act.put, List.setIfInBounds_toArray, List.set_cons_zero, List.set_cons_succ]
                      refine tk 6 (v := ?_) ?_ ?_
                      rotate_left
                      · intro w hSw; (try dsimp only at hSw); go_simp; (try with_reducible rfl)
                      try simp only [Act.put, List.setIfInBounds_toArray, List.set_cons_zero, List.set_cons_succ]
                      refine tk 7 (v := ?_) ?_ ?_
                      rotate_left
                      · intro w hSw; (try dsimp only at hSw); go_simp; (try with_reducible rfl)
                      try simp only [Act.put, List.setIfInBounds_toArray, List.set_cons_zero, List.set_cons_succ]
                      refine rd1 8 (fun K hK => ?_)
                      go_simp
                      go_at_call 18; refine (crsame_m J J _ _ _ _ _ _ _ _ _ _ _ _ true _ (JW.out.below hHeld.1) (IW.out.below hHeld.1) (hid (csm_self _))).mono ?_; rintro e x1' ⟨rfl, hbx⟩
                      refine hK.out _ _ (KT.out _ (bt hHeld.1 hbx)) (fun hHeld2 => ?_)
                      clear hK K hHeld; have hHeld := hHeld2; clear hHeld2
                      try simp only [Act.put, List.setIfInBounds_toArray, List.set_cons_zero, List.set_cons_succ]
                      refine tk 9 (v := ?_) ?_ ?_
                      rotate_left
                      · intro w hSw; (try dsimp only at hSw); go_simp; (try with_reducible rfl)
                      try simp only [Act.put, List.setIfInBounds_toArray, List.set_cons_zero, List.set_cons_succ]
                      refine tk 10 (v := ?_) ?_ ?_
                      rotate_left
                      · intro w hSw; (try dsimp only at hSw); go_simp; (try with_reducible rfl)
                      try simp only [Act.put, List.setIfInBounds_toArray, List.set_cons_zero, List.set_cons_succ]
                      refine tk 11 (v := ?_) ?_ ?_
                      rotate_left
                      · intro w hSw; (try dsimp only at hSw); go_simp; (try with_reducible rfl)
                      try simp only [Act.put, List.setIfInBounds_toArray, List.set_cons_zero, List.set_cons_succ]
                      refine tk 12 (v := ?_) ?_ ?_
                      rotate_left
                      · intro w hSw; (try dsimp only at hSw); go_simp; (try with_reducible rfl)
                      try simp only [Act.put, List.setIfInBounds_toArray, List.set_cons_zero, List.set_cons_succ]
                      refine tk 13 (v := ?_) ?_ ?_
                      rotate_left
                      · intro w hSw; (try dsimp only at hSw); go_simp; (try with_reducible rfl)
                      try simp only [Act.put, List.setIfInBounds_toArray, List.set_cons_zero, List.set_cons_succ]
                      refine tk 14 (v := ?_) ?_ ?_
                      rotate_left
                      · intro w hSw; (try dsimp only at hSw); go_simp; (try with_reducible rfl)
                      try simp only [Act.put, List.setIfInBounds_toArray, List.set_cons_zero, List.set_cons_succ]
                      refine tk 15 (v := ?_) ?_ ?_
                      rotate_left
                      · intro w hSw; (try dsimp only at hSw); go_simp; (try with_reducible rfl)
                      try simp only [Act.put, List.setIfInBounds_toArray, List.set_cons_zero, List.set_cons_succ]
                      refine tk 16 (v := ?_) ?_ ?_
                      rotate_left
                      · intro w hSw; (try dsimp only at hSw); go_simp; (try with_reducible rfl)
                      try simp only [Act.put, List.setIfInBounds_toArray, List.set_cons_zero, List.set_cons_succ]
                      refine tk 17 (v := ?_) ?_ ?_
                      rotate_left
                      · intro w hSw; (try dsimp only at hSw); go_simp; (try with_reducible rfl)
                      try simp only [Act.put, List.setIfInBounds_toArray, List.set_cons_zero, List.set_cons_succ]
                      refine tk 18 (v := ?_) ?_ ?_
                      rotate_left
                      · intro w hSw; (try dsimp only at hSw); go_simp; (try with_reducible rfl)
                      try simp only [Act.put, List.setIfInBounds_toArray, List.set_cons_zero, List.set_cons_succ]
                      refine tk 19 (v := ?_) ?_ ?_
                      rotate_left
                      · intro w hSw; (try dsimp only at hSw); go_simp; (try with_reducible rfl)
                      try simp only [Act.put, List.setIfInBounds_toArray, List.set_cons_zero, List.set_cons_succ]
                      refine tk 21 (v := ?_) ?_ ?_
                      rotate_left
                      · intro w hSw; (try dsimp only at hSw); go_simp; (try with_reducible rfl)
                      try simp only [Act.put, List.setIfInBounds_toArray, List.set_cons_zero, List.set_cons_succ]
                      refine tk 22 (v := ?_) ?_ ?_
                      rotate_left
                      · intro w hSw; (try dsimp only at hSw); go_simp; (try with_reducible rfl)
                      try simp only [Act.put, List.setIfInBounds_toArray, List.set_cons_zero, List.set_cons_succ]
                      refine tk 23 (v := ?_) ?_ ?_
                      rotate_left
                      · intro w hSw; (try dsimp only at hSw); go_simp; (try with_reducible rfl)
                      try simp only [Act.put, List.setIfInBounds_toArray, List.set_cons_zero, List.set_cons_succ]
                      refine tk 24 (v := ?_) ?_ ?_
                      rotate_left
                      · intro w hSw; (try dsimp only at hSw); go_simp; (try with_reducible rfl)
                      try simp only [Act.put, List.setIfInBounds_toArray, List.set_cons_zero, List.set_cons_succ]
                      refine tk 25 (v := ?_) ?_ ?_
                      rotate_left
                      · intro w hSw; (try dsimp only at hSw); go_simp; (try with_reducible rfl)
                      try simp only [Act.put, List.setIfInBounds_toArray, List.set_cons_zero, List.set_cons_succ]
                      refine tk 26 (v := ?_) ?_ ?_
                      rotate_left
                      · intro w hSw; (try dsimp only at hSw); go_simp; (try with_reducible rfl)
                      try simp only [Act.put, List.setIfInBounds_toArray, List.set_cons_zero, List.set_cons_succ]
                      refine tk 27 (v := ?_) ?_ ?_
                      rotate_left
                      · intro w hSw; (try dsimp only at hSw); go_simp; (try with_reducible rfl)
                      try simp only [Act.put, List.setIfInBounds_toArray, List.set_cons_zero, List.set_cons_succ]
                      refine tk 28 (v := ?_) ?_ ?_
                      rotate_left
                      · intro w hSw; (try dsimp only at hSw); go_simp; (try with_reducible rfl)
                      try simp only [Act.put, List.setIfInBounds_toArray, List.set_cons_zero, List.set_cons_succ]
                      refine rd1 20 (fun K hK => ?_)
                      go_simp
                      go_at_call 25; refine (csame_m cX cY _ _ _ _ _ _ _ _ _ _ _ _ vs _ (GX.out.1.below (bt BW.out (bt BI.out hHeld.1))) (GY.out.1.below (bt BI.out hHeld.1)) EVS).mono ?_; rintro e x2' ⟨rfl, hby⟩
                      refine hK.out _ _ (KT.out _ (bt hHeld.1 hby)) (fun hHeld2 => ?_)
                      clear hK K hHeld; have hHeld := hHeld2; clear hHeld2
                      try simp only [Act.put, List.setIfInBounds_toArray, List.set_cons_zero, List.set_cons_succ]
                      refine rd1 29 (fun K hK => ?_)
                      go_simp
                      go_at_call 18; refine (crsame_m cX cY _ _ _ _ _ _ _ _ _ _ _ _ vs _ (GX.out.1.below (bt BW.out (bt BI.out hHeld.1))) (GY.out.1.below (bt BI.out hHeld.1)) EVS).mono ?_; rintro e x3' ⟨rfl, hbz⟩
                      refine hK.out _ _ (KT.out _ (bt hHeld.1 hbz)) (fun hHeld2 => ?_)
                      clear hK K hHeld; have hHeld := hHeld2; clear hHeld2
                      try simp only [Act.put, List.setIfInBounds_toArray, List.set_cons_zero, List.set_cons_succ]
                      refine tk 30 (v := ?_) ?_ ?_
                      rotate_left
                      · intro w hSw; (try dsimp only at hSw); go_simp; (try with_reducible rfl)
                      try simp only [Act.put, List.setIfInBounds_toArray, List.set_cons_zero, List.set_cons_succ]
                      refine tk 31 (v := ?_) ?_ ?_
                      rotate_left
                      · intro w hSw; (try dsimp only at hSw); go_simp; (try with_reducible rfl)
                      try simp only [Act.put, List.setIfInBounds_toArray, List.set_cons_zero, List.set_cons_succ]
                      refine wpAnyH_done (by kernel_rfl) ?_ _
                      refine NoPanic.normal ?_
                      replace BI := hid (bt BI.out hHeld.1)
                      clear hHeld KT
                      go_wp2
                      go_roundw
                      case rel => exact ⟨rr + 1, by omega, by go_num, hid (KX.out.step BI.out), hid (KF.out.step BI.out), hid (KQ.out.step BI.out), hid (C1w.out.below BI.out), hid (C2w.out.below BI.out), hid (bt BW.out BI.out)⟩
                      case measure => simp [intOf]; omega
                    · have hqf5 : decide ((rr : Int) < 4) = false := decide_eq_false (by omega)
                      have hqi5 : ¬ (rr : Int) < 4 := by omega
                      go_wp2
                      go_roundw
                      case rel => exact ⟨qq + 1, by omega, by go_num, KX, KF, KQ, C1w, C2w⟩
                      case measure => simp [intOf]; omega
                · have hqf4 : decide ((qq : Int) < 4) = false := decide_eq_false (by omega)
                  have hqi4 : ¬ (qq : Int) < 4 := by omega
                  go_wp2
                  go_roundw
                  case rel => exact ⟨q + 1, by omega, by go_num, KX, KF⟩
                  case measure => simp [intOf]; omega
          · have hqf : decide ((q : Int) < 3) = false := decide_eq_false (by omega)
            have hqi : ¬ (q : Int) < 3 := by omega
            go_wp2_with (go_at_call 15; refine (wakes_any _).mono ?_; rintro e wW ⟨rfl, hb⟩; replace KX := hid (KX.out.step hb); clear hb)
            go_ret
            exact ⟨rfl, KX.out.1⟩
    · have HLB : Hid (decide (q0 ≤ 60 ∧ q1 ≤ 60) = false) := hid (decide_eq_false hLB)
      clear hLA hLB
      as_aux_lemma =>
      skip
      go_enter Try.func3, Try.ntmps3
      go_upto_region 1 with fail
      generalize w.alloc (.cells #[.int .i64 m, .int .i64 cA.n, .int .i64 cA.s0, .int .i64 cA.s1, .slice a0 p0 k0, .slice a1 p1 k1, .int .i64 cB.n, .int .i64 cB.s0, .int .i64 cB.s1, .slice b0 q0 j0, .slice b1 q1 j1, .int .u8 x0, .int .u8 x1, .int .u8 x2, .int .u8 x3] 30) = W1 at KX ⊢
      obtain ⟨f0, f1, f2, f3, f4, f5, f6, f7, f8, f9, f10, f11, f12, f13, f14⟩ := box_15 KX.out.2.2
      go_wp2_with (first
        | (go_at_call 14; clear tkA; refine (light_m cA _ _ _ _ _ _ true _ ba0 ba1 HLA).mono ?_; rintro e w1 ⟨rfl, hb⟩; replace KX := hid (KX.out.step hb); clear hb f0 f1 f2 f3 f4 f5 f6 f7 f8 f9 f10 f11 f12 f13 f14; obtain ⟨f0, f1, f2, f3, f4, f5, f6, f7, f8, f9, f10, f11, f12, f13, f14⟩ := box_15 KX.out.2.2)
        | (go_at_call 14; refine (light_m cB _ _ _ _ _ _ false _ bb0 bb1 HLB).mono ?_; rintro e w1 ⟨rfl, hb⟩; replace KX := hid (KX.out.step hb); clear hb f0 f1 f2 f3 f4 f5 f6 f7 f8 f9 f10 f11 f12 f13 f14; obtain ⟨f0, f1, f2, f3, f4, f5, f6, f7, f8, f9, f10, f11, f12, f13, f14⟩ := box_15 KX.out.2.2)
        | (go_at_call 15; refine (wakes_any _).mono ?_; rintro e wW ⟨rfl, hb⟩; replace KX := hid (KX.out.step hb); clear hb))
      go_ret
      exact ⟨rfl, KX.out.1⟩
  · have HLA : Hid (decide (p0 ≤ 60 ∧ p1 ≤ 60) = false) := hid (decide_eq_false hLA)
    clear hLA
    as_aux_lemma =>
    skip
    go_enter Try.func3, Try.ntmps3
    go_upto_region 1 with fail
    generalize w.alloc (.cells #[.int .i64 m, .int .i64 cA.n, .int .i64 cA.s0, .int .i64 cA.s1, .slice a0 p0 k0, .slice a1 p1 k1, .int .i64 cB.n, .int .i64 cB.s0, .int .i64 cB.s1, .slice b0 q0 j0, .slice b1 q1 j1, .int .u8 x0, .int .u8 x1, .int .u8 x2, .int .u8 x3] 30) = W1 at KX ⊢
    obtain ⟨f0, f1, f2, f3, f4, f5, f6, f7, f8, f9, f10, f11, f12, f13, f14⟩ := box_15 KX.out.2.2
    go_wp2_with (first
      | (go_at_call 14; clear tkA; refine (light_m cA _ _ _ _ _ _ false _ ba0 ba1 HLA).mono ?_; rintro e w1 ⟨rfl, hb⟩; replace KX := hid (KX.out.step hb); clear hb f0 f1 f2 f3 f4 f5 f6 f7 f8 f9 f10 f11 f12 f13 f14; obtain ⟨f0, f1, f2, f3, f4, f5, f6, f7, f8, f9, f10, f11, f12, f13, f14⟩ := box_15 KX.out.2.2)
      | (go_at_call 15; refine (wakes_any _).mono ?_; rintro e wW ⟨rfl, hb⟩; replace KX := hid (KX.out.step hb); clear hb))
    go_ret
    exact ⟨rfl, KX.out.1⟩


end Go.Proofs.Ytjkkajhjcinalaa

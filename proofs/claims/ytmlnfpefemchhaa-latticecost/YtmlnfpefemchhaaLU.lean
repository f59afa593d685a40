/-
  A node has as many places as there are; those of two nodes, of their Meet and their Join: the walk of the law LatticeCost.
  Conditions: as each theorem states them.
-/
import Derived.Test.YtmlnfpefemchhaaLV
import Derived.Test.YtmlnfpefemchhaaLR
import Derived.Test.YtmlnfpefemchhaaLP0
namespace Go.Proofs.Ytmlnfpefemchhaa
open Go.ChangeShapes Go.WideShapes Go.ChangeAt Go.RowKit
set_option linter.unusedVariables false
set_option linter.unusedSimpArgs false

set_option maxHeartbeats 16000000 in
set_option maxRecDepth 100000 in
theorem cost5_walk (a : Option Addr) (n c : Nat) (ds : Dims) (M : Int) (v0 v1 v2 v3 y0 y1 y2 y3 : Int) (w : World) (hc : Cat w a n c ds) (hM : I64 M) (hV : ∀ x ∈ [v0, v1, v2, v3], U8 x) (hY : ∀ x ∈ [y0, y1, y2, y3], U8 x) :
    Calls Try.prog 8 #[.agg #[.slice a n c, .int .i64 M], .agg #[.int .u8 v0, .int .u8 v1, .int .u8 v2, .int .u8 v3], .agg #[.int .u8 y0, .int .u8 y1, .int .u8 y2, .int .u8 y3]] w fun e w' => e = .returned (.bool true) ∧ Below w.heap.size w w' := by
  have HC : Hid (Cat w a n c ds) := hc
  have HM : Hid (I64 M) := hM
  have HV : Hid (∀ x ∈ [v0, v1, v2, v3], U8 x) := hV
  have HY : Hid (∀ x ∈ [y0, y1, y2, y3], U8 x) := hY
  have RX : Hid (R3 w (((w.alloc (.cells #[.slice a n c, .int .i64 M] 25)).alloc (.cells #[.int .u8 v0, .int .u8 v1, .int .u8 v2, .int .u8 v3] 36)).alloc (.cells #[.int .u8 y0, .int .u8 y1, .int .u8 y2, .int .u8 y3] 36)) (.slice a n c) (.int .i64 M) [v0, v1, v2, v3] [y0, y1, y2, y3]) := r3_new _ _ _ _ _ _ _ _ _ _ _ _ _ _
  clear hc hM hV hY
  cases hn : nodeC ds M v0 v1 v2 v3 with
  | false =>
    go_enter Try.func8, Try.ntmps8
    go_wp2_with (first
      | (go_at_call 27; refine (rlgood_any _ _ _ _ _ _ _ _ _ _ (HC.out.below RX.out.2.1) HM.out HV.out).mono ?_; rintro e w1 ⟨rfl, hb1⟩)
      | (go_at_call 15; refine (wakes5 _).mono ?_; rintro e w9 ⟨rfl, hb9⟩))
    go_ret
    exact ⟨rfl, bt (bt RX.out.2.1 hb1) hb9⟩
  | true =>
    cases hny : nodeC ds M y0 y1 y2 y3 with
    | false =>
      have tok : True := trivial
      go_enter Try.func8, Try.ntmps8
      go_wp2_with (first
        | (go_at_call 27; clear tok; refine (rlgood_any _ _ _ _ _ _ _ _ _ _ (HC.out.below RX.out.2.1) HM.out HV.out).mono ?_; rintro e w1 ⟨rfl, hb1⟩; have RX1 := hid (RX.out.step hb1); obtain ⟨⟨i0, i1⟩, ⟨i2, i3, i4, i5⟩, i6, i7, i8, i9⟩ := r3_all RX1.out; clear hb1)
        | (go_at_call 27; refine (rlgood_any _ _ _ _ _ _ _ _ _ _ (HC.out.below RX1.out.2.1) HM.out HY.out).mono ?_; rintro e w2 ⟨rfl, hb2⟩)
        | (go_at_call 15; refine (wakes5 _).mono ?_; rintro e w9 ⟨rfl, hb9⟩))
      go_ret
      exact ⟨rfl, bt (bt RX1.out.2.1 hb2) hb9⟩
    | true =>
      have HN := hid hn
      have HNY := hid hny
      have tok : True := trivial
      go_enter Try.func8, Try.ntmps8
      go_wp2_with (first
        | (go_at_call 27; clear tok; refine (rlgood_any _ _ _ _ _ _ _ _ _ _ (HC.out.below RX.out.2.1) HM.out HV.out).mono ?_; rintro e w1 ⟨rfl, hb1⟩; have RX1 := hid (RX.out.step hb1); obtain ⟨⟨i0, i1⟩, ⟨i2, i3, i4, i5⟩, i6, i7, i8, i9⟩ := r3_all RX1.out; clear hb1)
        | (go_at_call 27; refine (rlgood_any _ _ _ _ _ _ _ _ _ _ (HC.out.below RX1.out.2.1) HM.out HY.out).mono ?_; rintro e w2 ⟨rfl, hb2⟩; have RX2 := hid (RX1.out.step hb2); obtain ⟨⟨j0, j1⟩, ⟨j2, j3, j4, j5⟩, _⟩ := r3_all RX2.out; clear hb2)
        | (go_at_call 38; refine (places_any _ _ _ _ _ _ _ _ _ _ (HC.out.below RX2.out.2.1) HM.out HV.out HN.out).mono ?_; rintro e w3 ⟨⟨a1, n1, c1, l1, rfl, nr1, hl1, hr1⟩, hb3⟩; have NRP := hid nr1; have HL1 := hid hl1; have HR1 := hid hr1; have hnl := (nr1.lens).2; have HNL := hid (nr1.lens).1; have RX3 := hid (RX2.out.step hb3); clear nr1 hl1 hr1 hb3))
      clear hn hny
      go_loopg [8] n1 (fun gk vi wr => ∃ k : Nat, vi = .int .i64 k ∧ Hid (gk + k = n1) ∧ Hid (Below w3.heap.size w3 wr))
      case atStart => exact ⟨0, rfl, hid (by omega), hid (Below.refl _ _)⟩
      case round =>
        obtain ⟨k, rfl, HK, HW⟩ := hrel
        by_cases hk : k < n1
        · have hkn : (k : Int) < (n1 : Int) := by omega
          obtain ⟨b', off', ea, hb0, x0, x1, x2, x3, hx, q0, q1, q2, q3⟩ := NRP.out.get HW.out hk
          subst ea
          have hb0w : b' < wr.heap.size := Nat.lt_of_lt_of_le hb0 HW.out.size
          have hxr := HR1.out _ _ _ _ (List.mem_of_getElem? hx)
          have HXR := hid hxr.1
          have HX8 := hid hxr.2
          have HCR := hid (HC.out.below (RX3.out.step HW.out).2.1)
          clear hx hxr
          have KS7 : Hid (∀ x, Below wr.heap.size wr x → Below wr.heap.size wr x ∧ x.cell? ⟨w.heap.size, 0, none⟩ = some (.slice a n c) ∧ x.cell? ⟨w.heap.size, 1, none⟩ = some (.int .i64 M) ∧ x.cell? ⟨w.heap.size + 1, 0, none⟩ = some (.int .u8 v0) ∧ x.cell? ⟨w.heap.size + 1, 1, none⟩ = some (.int .u8 v1) ∧ x.cell? ⟨w.heap.size + 1, 2, none⟩ = some (.int .u8 v2) ∧ x.cell? ⟨w.heap.size + 1, 3, none⟩ = some (.int .u8 v3) ∧ x.cell? ⟨b', off' + k * 4, none⟩ = some (.int .u8 x0) ∧ x.cell? ⟨b', off' + k * 4 + 1, none⟩ = some (.int .u8 x1) ∧ x.cell? ⟨b', off' + k * 4 + 2, none⟩ = some (.int .u8 x2) ∧ x.cell? ⟨b', off' + k * 4 + 3, none⟩ = some (.int .u8 x3)) := by
            refine hid fun x hX => ?_
            obtain ⟨⟨r0, r1⟩, ⟨s0, s1, s2, s3⟩, _⟩ := r3_all (RX3.out.step (bt HW.out hX))
            exact ⟨hX, r0, r1, s0, s1, s2, s3, ((bcell hX).1 _ _ hb0w).trans q0, ((bcell hX).1 _ _ hb0w).trans q1, ((bcell hX).1 _ _ hb0w).trans q2, ((bcell hX).1 _ _ hb0w).trans q3⟩
          go_wp2
          refine wp_region_noPanic ?_
          refine wp_region_held_drew (S := fun x => Below wr.heap.size wr x ∧ x.cell? ⟨w.heap.size, 0, none⟩ = some (.slice a n c) ∧ x.cell? ⟨w.heap.size, 1, none⟩ = some (.int .i64 M) ∧ x.cell? ⟨w.heap.size + 1, 0, none⟩ = some (.int .u8 v0) ∧ x.cell? ⟨w.heap.size + 1, 1, none⟩ = some (.int .u8 v1) ∧ x.cell? ⟨w.heap.size + 1, 2, none⟩ = some (.int .u8 v2) ∧ x.cell? ⟨w.heap.size + 1, 3, none⟩ = some (.int .u8 v3) ∧ x.cell? ⟨b', off' + k * 4, none⟩ = some (.int .u8 x0) ∧ x.cell? ⟨b', off' + k * 4 + 1, none⟩ = some (.int .u8 x1) ∧ x.cell? ⟨b', off' + k * 4 + 2, none⟩ = some (.int .u8 x2) ∧ x.cell? ⟨b', off' + k * 4 + 3, none⟩ = some (.int .u8 x3)) (by kernel_rfl) (keep_drew KS7) (fun hHeld => ?_)
          refine wpAnyH_take (i := 0) (v := ?_) (by simp only [List.getElem?_toArray, List.getElem?_cons_succ, List.getElem?_cons_zero]; exact rfl) (by kernel_rfl) (by kernel_rfl) (by kernel_rfl) (fun _ _ _ h => h) (Or.inl ⟨by rfl, ?_⟩) (by assumption) ?_
          rotate_left
          · intro w hSw
            try dsimp only at hSw
            go_simp
            try with_reducible rfl
          try simp only [Act.put, List.setIfInBounds_toArray, List.set_cons_zero, List.set_cons_succ]
          refine wpAnyH_take (i := 1) (v := ?_) (by simp only [List.getElem?_toArray, List.getElem?_cons_succ, List.getElem?_cons_zero]; exact rfl) (by kernel_rfl) (by kernel_rfl) (by kernel_rfl) (fun _ _ _ h => h) (Or.inl ⟨by rfl, ?_⟩) (by assumption) ?_
          rotate_left
          · intro w hSw
            try dsimp only at hSw
            go_simp
            try with_reducible rfl
          try simp only [Act.put, List.setIfInBounds_toArray, List.set_cons_zero, List.set_cons_succ]
          refine wpAnyH_take (i := 2) (v := ?_) (by simp only [List.getElem?_toArray, List.getElem?_cons_succ, List.getElem?_cons_zero]; exact rfl) (by kernel_rfl) (by kernel_rfl) (by kernel_rfl) (fun _ _ _ h => h) (Or.inl ⟨by rfl, ?_⟩) (by assumption) ?_
          rotate_left
          · intro w hSw
            try dsimp only at hSw
            go_simp
            try with_reducible rfl
          try simp only [Act.put, List.setIfInBounds_toArray, List.set_cons_zero, List.set_cons_succ]
          refine wpAnyH_take (i := 3) (v := ?_) (by simp only [List.getElem?_toArray, List.getElem?_cons_succ, List.getElem?_cons_zero]; exact rfl) (by kernel_rfl) (by kernel_rfl) (by kernel_rfl) (fun _ _ _ h => h) (Or.inl ⟨by rfl, ?_⟩) (by assumption) ?_
          rotate_left
          · intro w hSw
            try dsimp only at hSw
            go_simp
            try with_reducible rfl
          try simp only [Act.put, List.setIfInBounds_toArray, List.set_cons_zero, List.set_cons_succ]
          refine wpAnyH_take (i := 4) (v := ?_) (by simp only [List.getElem?_toArray, List.getElem?_cons_succ, List.getElem?_cons_zero]; exact rfl) (by kernel_rfl) (by kernel_rfl) (by kernel_rfl) (fun _ _ _ h => h) (Or.inl ⟨by rfl, ?_⟩) (by assumption) ?_
          rotate_left
          · intro w hSw
            try dsimp only at hSw
            go_simp
            try with_reducible rfl
          try simp only [Act.put, List.setIfInBounds_toArray, List.set_cons_zero, List.set_cons_succ]
          refine wpAnyH_take (i := 5) (v := ?_) (by simp only [List.getElem?_toArray, List.getElem?_cons_succ, List.getElem?_cons_zero]; exact rfl) (by kernel_rfl) (by kernel_rfl) (by kernel_rfl) (fun _ _ _ h => h) (Or.inl ⟨by rfl, ?_⟩) (by assumption) ?_
          rotate_left
          · intro w hSw
            try dsimp only at hSw
            go_simp
            try with_reducible rfl
          try simp only [Act.put, List.setIfInBounds_toArray, List.set_cons_zero, List.set_cons_succ]
          refine wpAnyH_ready (rs := [6]) (by kernel_rfl) (by simp) ?_
          refine AllReadyH.cons (by simp only [List.getElem?_toArray, List.getElem?_cons_succ, List.getElem?_cons_zero]; exact rfl) (fun K hK => ?_) AllReadyH.nil
          go_simp
          (go_at_call 39; refine (rright_m _ _ _ _ _ _ _ _ _ _ _ _ _ _ _ (HCR.out.below hHeld.1) HM.out HV.out HX8.out HXR.out).mono ?_; rintro e w5 ⟨rfl, hb5⟩)
          refine hK.out _ _ (keep_step hb5 hHeld KS7) (fun hHeld2 => ?_)
          clear hK K hHeld
          have hHeld := hHeld2
          clear hHeld2
          try simp only [Act.put, List.setIfInBounds_toArray, List.set_cons_zero, List.set_cons_succ]
          refine wpAnyH_take (i := 7) (v := ?_) (by simp only [List.getElem?_toArray, List.getElem?_cons_succ, List.getElem?_cons_zero]; exact rfl) (by kernel_rfl) (by kernel_rfl) (by kernel_rfl) (fun _ _ _ h => h) (Or.inl ⟨by rfl, ?_⟩) (by assumption) ?_
          rotate_left
          · intro w hSw
            try dsimp only at hSw
            go_simp
            try with_reducible rfl
          try simp only [Act.put, List.setIfInBounds_toArray, List.set_cons_zero, List.set_cons_succ]
          refine wpAnyH_done (by kernel_rfl) ?_ _
          refine NoPanic.normal ?_
          have HEND := hid (bt HW.out hHeld.1)
          clear hHeld KS7
          go_wp2
          go_roundg (n1 - (k + 1))
          case measure => have := HK.out; omega
          case rel => exact ⟨k + 1, by go_num, hid (by have := HK.out; omega), HEND⟩
        · have hkf : decide ((k : Int) < (n1 : Int)) = false := decide_eq_false (by omega)
          have RX4 := hid (RX3.out.step HW.out)
          obtain ⟨⟨i0, i1⟩, ⟨i2, i3, i4, i5⟩, i6, i7, i8, i9⟩ := r3_all RX4.out
          have hcp := cost_pos HN.out HV.out
          have cv := cost_bd ds M v0 v1 v2 v3
          have cy := cost_bd ds M y0 y1 y2 y3
          have hcm := HL1.out
          rw [← HNL.out] at hcm
          have h2 := cost_two HN.out HNY.out
          have hW := cost_whole (nodeC_good HN.out)
          have HM8 := hid (mn_u8 HV.out HY.out)
          have HJ8 := hid (mx_u8 HV.out HY.out)
          have HT8 : Hid (∀ x ∈ [tp ds M 0, tp ds M 1, tp ds M 2, tp ds M 3], U8 x) := by
            have tb0 := tp_bd ds M 0; have tb1 := tp_bd ds M 1; have tb2 := tp_bd ds M 2; have tb3 := tp_bd ds M 3
            exact hid (by intro x hx; simp at hx; unfold U8; omega)
          obtain ⟨C, hC⟩ : ∃ C, cost ds M v0 v1 v2 v3 = C := ⟨_, rfl⟩
          obtain ⟨D, hD⟩ : ∃ C, cost ds M y0 y1 y2 y3 = C := ⟨_, rfl⟩
          have hpb : 0 ≤ C * D ∧ C * D ≤ 2560000 * 2560000 := by
            rw [hC] at cv; rw [hD] at cy
            exact ⟨Int.mul_nonneg cv.1 cy.1, Int.mul_le_mul cv.2 cy.2 cy.1 (by omega)⟩
          obtain ⟨P, hP⟩ : ∃ P, C * D = P := ⟨_, rfl⟩
          rw [hP] at hpb
          have hw1 : IntKind.i64.wrap (C * D) = P := by rw [hP]; exact IntWalk.i64_in _ (by omega)
          rw [hC] at hcp cv hcm h2
          rw [hD] at cy h2
          rw [hP] at h2
          have hw2 : IntKind.i64.wrap (cost ds M (mn v0 y0) (mn v1 y1) (mn v2 y2) (mn v3 y3) * cost ds M (mx v0 y0) (mx v1 y1) (mx v2 y2) (mx v3 y3)) = P := by rw [h2]; exact IntWalk.i64_in _ (by omega)
          obtain ⟨cv1, cv2⟩ := cv
          have HCM := hid hcm
          clear hpb cy hcm
          have hc1 : decide (C < 1) = false := decide_eq_false (by omega)
          by_cases hbig : C ≤ 4000
          · skip
            have hnn : (C != (n1 : Int)) = false := by have := HCM.out; unfold many at this; rw [if_pos hbig] at this; simp; omega
            have hgt : decide (4000 < C) = false := decide_eq_false (by omega)
            go_wp2_with (go_at_call 28; refine (cost_any _ _ _ _ _ _ _ _ _ _ (HC.out.below RX4.out.2.1) HM.out HV.out).mono ?_; rintro e w4 ⟨rfl, hb4⟩; have RX5 := hid (RX4.out.step hb4); clear hb4)
            have HC4 := hid (HC.out.below RX5.out.2.1)
            have KS12 : Hid (∀ x, Below w4.heap.size w4 x → Below w4.heap.size w4 x ∧ x.cell? ⟨w.heap.size, 0, none⟩ = some (.slice a n c) ∧ x.cell? ⟨w.heap.size, 1, none⟩ = some (.int .i64 M) ∧ x.cell? ⟨w.heap.size + 1, 0, none⟩ = some (.int .u8 v0) ∧ x.cell? ⟨w.heap.size + 1, 1, none⟩ = some (.int .u8 v1) ∧ x.cell? ⟨w.heap.size + 1, 2, none⟩ = some (.int .u8 v2) ∧ x.cell? ⟨w.heap.size + 1, 3, none⟩ = some (.int .u8 v3) ∧ x.cell? ⟨w.heap.size + 2, 0, none⟩ = some (.int .u8 y0) ∧ x.cell? ⟨w.heap.size + 2, 1, none⟩ = some (.int .u8 y1) ∧ x.cell? ⟨w.heap.size + 2, 2, none⟩ = some (.int .u8 y2) ∧ x.cell? ⟨w.heap.size + 2, 3, none⟩ = some (.int .u8 y3)) := by
              refine hid fun x hX => ?_
              obtain ⟨⟨r0, r1⟩, ⟨s0, s1, s2, s3⟩, t0, t1, t2, t3⟩ := r3_all (RX5.out.step hX)
              exact ⟨hX, r0, r1, s0, s1, s2, s3, t0, t1, t2, t3⟩
            refine wp_region_noPanic ?_
            refine wp_region_held_drew (S := fun x => Below w4.heap.size w4 x ∧ x.cell? ⟨w.heap.size, 0, none⟩ = some (.slice a n c) ∧ x.cell? ⟨w.heap.size, 1, none⟩ = some (.int .i64 M) ∧ x.cell? ⟨w.heap.size + 1, 0, none⟩ = some (.int .u8 v0) ∧ x.cell? ⟨w.heap.size + 1, 1, none⟩ = some (.int .u8 v1) ∧ x.cell? ⟨w.heap.size + 1, 2, none⟩ = some (.int .u8 v2) ∧ x.cell? ⟨w.heap.size + 1, 3, none⟩ = some (.int .u8 v3) ∧ x.cell? ⟨w.heap.size + 2, 0, none⟩ = some (.int .u8 y0) ∧ x.cell? ⟨w.heap.size + 2, 1, none⟩ = some (.int .u8 y1) ∧ x.cell? ⟨w.heap.size + 2, 2, none⟩ = some (.int .u8 y2) ∧ x.cell? ⟨w.heap.size + 2, 3, none⟩ = some (.int .u8 y3)) (by kernel_rfl) (keep_drew KS12) (fun hHeld => ?_)
            refine wpAnyH_take (i := 0) (v := ?_) (by simp only [List.getElem?_toArray, List.getElem?_cons_succ, List.getElem?_cons_zero]; exact rfl) (by kernel_rfl) (by kernel_rfl) (by kernel_rfl) (fun _ _ _ h => h) (Or.inl ⟨by rfl, ?_⟩) (by assumption) ?_
            rotate_left
            · intro w hSw
              try dsimp only at hSw
              go_simp
              try with_reducible rfl
            try simp only [Act.put, List.setIfInBounds_toArray, List.set_cons_zero, List.set_cons_succ]
            refine wpAnyH_take (i := 1) (v := ?_) (by simp only [List.getElem?_toArray, List.getElem?_cons_succ, List.getElem?_cons_zero]; exact rfl) (by kernel_rfl) (by kernel_rfl) (by kernel_rfl) (fun _ _ _ h => h) (Or.inl ⟨by rfl, ?_⟩) (by assumption) ?_
            rotate_left
            · intro w hSw
              try dsimp only at hSw
              go_simp
              try with_reducible rfl
            try simp only [Act.put, List.setIfInBounds_toArray, List.set_cons_zero, List.set_cons_succ]
            refine wpAnyH_take (i := 2) (v := ?_) (by simp only [List.getElem?_toArray, List.getElem?_cons_succ, List.getElem?_cons_zero]; exact rfl) (by kernel_rfl) (by kernel_rfl) (by kernel_rfl) (fun _ _ _ h => h) (Or.inl ⟨by rfl, ?_⟩) (by assumption) ?_
            rotate_left
            · intro w hSw
              try dsimp only at hSw
              go_simp
              try with_reducible rfl
            try simp only [Act.put, List.setIfInBounds_toArray, List.set_cons_zero, List.set_cons_succ]
            refine wpAnyH_take (i := 5) (v := ?_) (by simp only [List.getElem?_toArray, List.getElem?_cons_succ, List.getElem?_cons_zero]; exact rfl) (by kernel_rfl) (by kernel_rfl) (by kernel_rfl) (fun _ _ _ h => h) (Or.inl ⟨by rfl, ?_⟩) (by assumption) ?_
            rotate_left
            · intro w hSw
              try dsimp only at hSw
              go_simp
              try with_reducible rfl
            try simp only [Act.put, List.setIfInBounds_toArray, List.set_cons_zero, List.set_cons_succ]
            refine wpAnyH_take (i := 6) (v := ?_) (by simp only [List.getElem?_toArray, List.getElem?_cons_succ, List.getElem?_cons_zero]; exact rfl) (by kernel_rfl) (by kernel_rfl) (by kernel_rfl) (fun _ _ _ h => h) (Or.inl ⟨by rfl, ?_⟩) (by assumption) ?_
            rotate_left
            · intro w hSw
              try dsimp only at hSw
              go_simp
              try with_reducible rfl
            try simp only [Act.put, List.setIfInBounds_toArray, List.set_cons_zero, List.set_cons_succ]
            refine wpAnyH_take (i := 7) (v := ?_) (by simp only [List.getElem?_toArray, List.getElem?_cons_succ, List.getElem?_cons_zero]; exact rfl) (by kernel_rfl) (by kernel_rfl) (by kernel_rfl) (fun _ _ _ h => h) (Or.inl ⟨by rfl, ?_⟩) (by assumption) ?_
            rotate_left
            · intro w hSw
              try dsimp only at hSw
              go_simp
              try with_reducible rfl
            try simp only [Act.put, List.setIfInBounds_toArray, List.set_cons_zero, List.set_cons_succ]
            refine wpAnyH_take (i := 11) (v := ?_) (by simp only [List.getElem?_toArray, List.getElem?_cons_succ, List.getElem?_cons_zero]; exact rfl) (by kernel_rfl) (by kernel_rfl) (by kernel_rfl) (fun _ _ _ h => h) (Or.inl ⟨by rfl, ?_⟩) (by assumption) ?_
            rotate_left
            · intro w hSw
              try dsimp only at hSw
              go_simp
              try with_reducible rfl
            try simp only [Act.put, List.setIfInBounds_toArray, List.set_cons_zero, List.set_cons_succ]
            refine wpAnyH_take (i := 12) (v := ?_) (by simp only [List.getElem?_toArray, List.getElem?_cons_succ, List.getElem?_cons_zero]; exact rfl) (by kernel_rfl) (by kernel_rfl) (by kernel_rfl) (fun _ _ _ h => h) (Or.inl ⟨by rfl, ?_⟩) (by assumption) ?_
            rotate_left
            · intro w hSw
              try dsimp only at hSw
              go_simp
              try with_reducible rfl
            try simp only [Act.put, List.setIfInBounds_toArray, List.set_cons_zero, List.set_cons_succ]
            refine wpAnyH_take (i := 13) (v := ?_) (by simp only [List.getElem?_toArray, List.getElem?_cons_succ, List.getElem?_cons_zero]; exact rfl) (by kernel_rfl) (by kernel_rfl) (by kernel_rfl) (fun _ _ _ h => h) (Or.inl ⟨by rfl, ?_⟩) (by assumption) ?_
            rotate_left
            · intro w hSw
              try dsimp only at hSw
              go_simp
              try with_reducible rfl
            try simp only [Act.put, List.setIfInBounds_toArray, List.set_cons_zero, List.set_cons_succ]
            refine wpAnyH_ready (rs := [3]) (by kernel_rfl) (by simp) ?_
            refine AllReadyH.cons (by simp only [List.getElem?_toArray, List.getElem?_cons_succ, List.getElem?_cons_zero]; exact rfl) (fun K hK => ?_) AllReadyH.nil
            go_simp
            (go_at_call 19; refine (meet_any _ _ _ _ _ _ _ _ _).mono ?_; rintro e w5 ⟨rfl, hb5⟩)
            refine hK.out _ _ (keep_step hb5 hHeld KS12) (fun hHeld2 => ?_)
            clear hK K hHeld
            have hHeld := hHeld2
            clear hHeld2
            try simp only [Act.put, List.setIfInBounds_toArray, List.set_cons_zero, List.set_cons_succ]
            refine wpAnyH_ready (rs := [4]) (by kernel_rfl) (by simp) ?_
            refine AllReadyH.cons (by simp only [List.getElem?_toArray, List.getElem?_cons_succ, List.getElem?_cons_zero]; exact rfl) (fun K hK => ?_) AllReadyH.nil
            go_simp
            (go_at_call 28; refine (cost_any _ _ _ _ _ _ _ _ _ _ (HC4.out.below hHeld.1) HM.out (by first | exact HY.out | exact HM8.out | exact HJ8.out | exact HT8.out)).mono ?_; rintro e w5 ⟨rfl, hb5⟩)
            refine hK.out _ _ (keep_step hb5 hHeld KS12) (fun hHeld2 => ?_)
            clear hK K hHeld
            have hHeld := hHeld2
            clear hHeld2
            try simp only [Act.put, List.setIfInBounds_toArray, List.set_cons_zero, List.set_cons_succ]
            refine wpAnyH_ready (rs := [8]) (by kernel_rfl) (by simp) ?_
            refine AllReadyH.cons (by simp only [List.getElem?_toArray, List.getElem?_cons_succ, List.getElem?_cons_zero]; exact rfl) (fun K hK => ?_) AllReadyH.nil
            go_simp
            (go_at_call 21; refine (join_any _ _ _ _ _ _ _ _ _).mono ?_; rintro e w5 ⟨rfl, hb5⟩)
            refine hK.out _ _ (keep_step hb5 hHeld KS12) (fun hHeld2 => ?_)
            clear hK K hHeld
            have hHeld := hHeld2
            clear hHeld2
            try simp only [Act.put, List.setIfInBounds_toArray, List.set_cons_zero, List.set_cons_succ]
            refine wpAnyH_ready (rs := [9]) (by kernel_rfl) (by simp) ?_
            refine AllReadyH.cons (by simp only [List.getElem?_toArray, List.getElem?_cons_succ, List.getElem?_cons_zero]; exact rfl) (fun K hK => ?_) AllReadyH.nil
            go_simp
            (go_at_call 28; refine (cost_any _ _ _ _ _ _ _ _ _ _ (HC4.out.below hHeld.1) HM.out (by first | exact HY.out | exact HM8.out | exact HJ8.out | exact HT8.out)).mono ?_; rintro e w5 ⟨rfl, hb5⟩)
            refine hK.out _ _ (keep_step hb5 hHeld KS12) (fun hHeld2 => ?_)
            clear hK K hHeld
            have hHeld := hHeld2
            clear hHeld2
            try simp only [Act.put, List.setIfInBounds_toArray, List.set_cons_zero, List.set_cons_succ]
            refine wpAnyH_take (i := 10) (v := ?_) (by simp only [List.getElem?_toArray, List.getElem?_cons_succ, List.getElem?_cons_zero]; exact rfl) (by kernel_rfl) (by kernel_rfl) (by kernel_rfl) (fun _ _ _ h => h) (Or.inl ⟨by rfl, ?_⟩) (by assumption) ?_
            rotate_left
            · intro w hSw
              try dsimp only at hSw
              go_simp
              try with_reducible rfl
            try simp only [Act.put, List.setIfInBounds_toArray, List.set_cons_zero, List.set_cons_succ]
            refine wpAnyH_ready (rs := [14]) (by kernel_rfl) (by simp) ?_
            refine AllReadyH.cons (by simp only [List.getElem?_toArray, List.getElem?_cons_succ, List.getElem?_cons_zero]; exact rfl) (fun K hK => ?_) AllReadyH.nil
            go_simp
            (go_at_call 28; refine (cost_any _ _ _ _ _ _ _ _ _ _ (HC4.out.below hHeld.1) HM.out (by first | exact HY.out | exact HM8.out | exact HJ8.out | exact HT8.out)).mono ?_; rintro e w5 ⟨rfl, hb5⟩)
            refine hK.out _ _ (keep_step hb5 hHeld KS12) (fun hHeld2 => ?_)
            clear hK K hHeld
            have hHeld := hHeld2
            clear hHeld2
            try simp only [Act.put, List.setIfInBounds_toArray, List.set_cons_zero, List.set_cons_succ]
            refine wpAnyH_take (i := 15) (v := ?_) (by simp only [List.getElem?_toArray, List.getElem?_cons_succ, List.getElem?_cons_zero]; exact rfl) (by kernel_rfl) (by kernel_rfl) (by kernel_rfl) (fun _ _ _ h => h) (Or.inl ⟨by rfl, ?_⟩) (by assumption) ?_
            rotate_left
            · intro w hSw
              try dsimp only at hSw
              go_simp
              try with_reducible rfl
            try simp only [Act.put, List.setIfInBounds_toArray, List.set_cons_zero, List.set_cons_succ]
            refine wpAnyH_take (i := 16) (v := ?_) (by simp only [List.getElem?_toArray, List.getElem?_cons_succ, List.getElem?_cons_zero]; exact rfl) (by kernel_rfl) (by kernel_rfl) (by kernel_rfl) (fun _ _ _ h => h) (Or.inl ⟨by rfl, ?_⟩) (by assumption) ?_
            rotate_left
            · intro w hSw
              try dsimp only at hSw
              go_simp
              try with_reducible rfl
            try simp only [Act.put, List.setIfInBounds_toArray, List.set_cons_zero, List.set_cons_succ]
            refine wpAnyH_take (i := 17) (v := ?_) (by simp only [List.getElem?_toArray, List.getElem?_cons_succ, List.getElem?_cons_zero]; exact rfl) (by kernel_rfl) (by kernel_rfl) (by kernel_rfl) (fun _ _ _ h => h) (Or.inl ⟨by rfl, ?_⟩) (by assumption) ?_
            rotate_left
            · intro w hSw
              try dsimp only at hSw
              go_simp
              try with_reducible rfl
            try simp only [Act.put, List.setIfInBounds_toArray, List.set_cons_zero, List.set_cons_succ]
            refine wpAnyH_take (i := 18) (v := ?_) (by simp only [List.getElem?_toArray, List.getElem?_cons_succ, List.getElem?_cons_zero]; exact rfl) (by kernel_rfl) (by kernel_rfl) (by kernel_rfl) (fun _ _ _ h => h) (Or.inl ⟨by rfl, ?_⟩) (by assumption) ?_
            rotate_left
            · intro w hSw
              try dsimp only at hSw
              go_simp
              try with_reducible rfl
            try simp only [Act.put, List.setIfInBounds_toArray, List.set_cons_zero, List.set_cons_succ]
            refine wpAnyH_take (i := 19) (v := ?_) (by simp only [List.getElem?_toArray, List.getElem?_cons_succ, List.getElem?_cons_zero]; exact rfl) (by kernel_rfl) (by kernel_rfl) (by kernel_rfl) (fun _ _ _ h => h) (Or.inl ⟨by rfl, ?_⟩) (by assumption) ?_
            rotate_left
            · intro w hSw
              try dsimp only at hSw
              go_simp
              try with_reducible rfl
            try simp only [Act.put, List.setIfInBounds_toArray, List.set_cons_zero, List.set_cons_succ]
            refine wpAnyH_ready (rs := [20]) (by kernel_rfl) (by simp) ?_
            refine AllReadyH.cons (by simp only [List.getElem?_toArray, List.getElem?_cons_succ, List.getElem?_cons_zero]; exact rfl) (fun K hK => ?_) AllReadyH.nil
            go_simp
            (go_at_call 34; refine (whole_any _ _ _ _ _ _ (HC4.out.below hHeld.1) HM.out).mono ?_; rintro e w5 ⟨rfl, hb5⟩)
            refine hK.out _ _ (keep_step hb5 hHeld KS12) (fun hHeld2 => ?_)
            clear hK K hHeld
            have hHeld := hHeld2
            clear hHeld2
            try simp only [Act.put, List.setIfInBounds_toArray, List.set_cons_zero, List.set_cons_succ]
            refine wpAnyH_ready (rs := [21]) (by kernel_rfl) (by simp) ?_
            refine AllReadyH.cons (by simp only [List.getElem?_toArray, List.getElem?_cons_succ, List.getElem?_cons_zero]; exact rfl) (fun K hK => ?_) AllReadyH.nil
            go_simp
            (go_at_call 28; refine (cost_any _ _ _ _ _ _ _ _ _ _ (HC4.out.below hHeld.1) HM.out (by first | exact HY.out | exact HM8.out | exact HJ8.out | exact HT8.out)).mono ?_; rintro e w5 ⟨rfl, hb5⟩)
            refine hK.out _ _ (keep_step hb5 hHeld KS12) (fun hHeld2 => ?_)
            clear hK K hHeld
            have hHeld := hHeld2
            clear hHeld2
            try simp only [Act.put, List.setIfInBounds_toArray, List.set_cons_zero, List.set_cons_succ]
            refine wpAnyH_take (i := 22) (v := ?_) (by simp only [List.getElem?_toArray, List.getElem?_cons_succ, List.getElem?_cons_zero]; exact rfl) (by kernel_rfl) (by kernel_rfl) (by kernel_rfl) (fun _ _ _ h => h) (Or.inl ⟨by rfl, ?_⟩) (by assumption) ?_
            rotate_left
            · intro w hSw
              try dsimp only at hSw
              go_simp
              try with_reducible rfl
            try simp only [Act.put, List.setIfInBounds_toArray, List.set_cons_zero, List.set_cons_succ]
            refine wpAnyH_take (i := 23) (v := ?_) (by simp only [List.getElem?_toArray, List.getElem?_cons_succ, List.getElem?_cons_zero]; exact rfl) (by kernel_rfl) (by kernel_rfl) (by kernel_rfl) (fun _ _ _ h => h) (Or.inl ⟨by rfl, ?_⟩) (by assumption) ?_
            rotate_left
            · intro w hSw
              try dsimp only at hSw
              go_simp
              try with_reducible rfl
            try simp only [Act.put, List.setIfInBounds_toArray, List.set_cons_zero, List.set_cons_succ]
            refine wpAnyH_take (i := 24) (v := ?_) (by simp only [List.getElem?_toArray, List.getElem?_cons_succ, List.getElem?_cons_zero]; exact rfl) (by kernel_rfl) (by kernel_rfl) (by kernel_rfl) (fun _ _ _ h => h) (Or.inl ⟨by rfl, ?_⟩) (by assumption) ?_
            rotate_left
            · intro w hSw
              try dsimp only at hSw
              go_simp
              try with_reducible rfl
            try simp only [Act.put, List.setIfInBounds_toArray, List.set_cons_zero, List.set_cons_succ]
            refine wpAnyH_ready (rs := [25]) (by kernel_rfl) (by simp) ?_
            refine AllReadyH.cons (by simp only [List.getElem?_toArray, List.getElem?_cons_succ, List.getElem?_cons_zero]; exact rfl) (fun K hK => ?_) AllReadyH.nil
            go_simp
            (go_at_call 15; refine (wakes5 _).mono ?_; rintro e w5 ⟨rfl, hb5⟩)
            refine hK.out _ _ (keep_step hb5 hHeld KS12) (fun hHeld2 => ?_)
            clear hK K hHeld
            have hHeld := hHeld2
            clear hHeld2
            try simp only [Act.put, List.setIfInBounds_toArray, List.set_cons_zero, List.set_cons_succ]
            refine wpAnyH_take (i := 26) (v := ?_) (by simp only [List.getElem?_toArray, List.getElem?_cons_succ, List.getElem?_cons_zero]; exact rfl) (by kernel_rfl) (by kernel_rfl) (by kernel_rfl) (fun _ _ _ h => h) (Or.inl ⟨by rfl, ?_⟩) (by assumption) ?_
            rotate_left
            · intro w hSw
              try dsimp only at hSw
              go_simp
              try with_reducible rfl
            try simp only [Act.put, List.setIfInBounds_toArray, List.set_cons_zero, List.set_cons_succ]
            refine wpAnyH_take (i := 27) (v := ?_) (by simp only [List.getElem?_toArray, List.getElem?_cons_succ, List.getElem?_cons_zero]; exact rfl) (by kernel_rfl) (by kernel_rfl) (by kernel_rfl) (fun _ _ _ h => h) (Or.inl ⟨by rfl, ?_⟩) (by assumption) ?_
            rotate_left
            · intro w hSw
              try dsimp only at hSw
              go_simp
              try with_reducible rfl
            try simp only [Act.put, List.setIfInBounds_toArray, List.set_cons_zero, List.set_cons_succ]
            refine wpAnyH_done (by kernel_rfl) ?_ _
            refine NoPanic.normal ?_
            go_wp2
            go_ret
            exact ⟨rfl, bt RX5.out.2.1 hHeld.1⟩
          · skip
            have hle : decide (C ≤ 4000) = false := decide_eq_false hbig
            have hgt : 4000 < C := by omega
            have hn0 : n1 = 0 := by have := HCM.out; unfold many at this; rw [if_neg hbig] at this; omega
            go_wp2_with (go_at_call 28; refine (cost_any _ _ _ _ _ _ _ _ _ _ (HC.out.below RX4.out.2.1) HM.out HV.out).mono ?_; rintro e w4 ⟨rfl, hb4⟩; have RX5 := hid (RX4.out.step hb4); clear hb4)
            have HC4 := hid (HC.out.below RX5.out.2.1)
            have KS12 : Hid (∀ x, Below w4.heap.size w4 x → Below w4.heap.size w4 x ∧ x.cell? ⟨w.heap.size, 0, none⟩ = some (.slice a n c) ∧ x.cell? ⟨w.heap.size, 1, none⟩ = some (.int .i64 M) ∧ x.cell? ⟨w.heap.size + 1, 0, none⟩ = some (.int .u8 v0) ∧ x.cell? ⟨w.heap.size + 1, 1, none⟩ = some (.int .u8 v1) ∧ x.cell? ⟨w.heap.size + 1, 2, none⟩ = some (.int .u8 v2) ∧ x.cell? ⟨w.heap.size + 1, 3, none⟩ = some (.int .u8 v3) ∧ x.cell? ⟨w.heap.size + 2, 0, none⟩ = some (.int .u8 y0) ∧ x.cell? ⟨w.heap.size + 2, 1, none⟩ = some (.int .u8 y1) ∧ x.cell? ⟨w.heap.size + 2, 2, none⟩ = some (.int .u8 y2) ∧ x.cell? ⟨w.heap.size + 2, 3, none⟩ = some (.int .u8 y3)) := by
              refine hid fun x hX => ?_
              obtain ⟨⟨r0, r1⟩, ⟨s0, s1, s2, s3⟩, t0, t1, t2, t3⟩ := r3_all (RX5.out.step hX)
              exact ⟨hX, r0, r1, s0, s1, s2, s3, t0, t1, t2, t3⟩
            refine wp_region_noPanic ?_
            refine wp_region_held_drew (S := fun x => Below w4.heap.size w4 x ∧ x.cell? ⟨w.heap.size, 0, none⟩ = some (.slice a n c) ∧ x.cell? ⟨w.heap.size, 1, none⟩ = some (.int .i64 M) ∧ x.cell? ⟨w.heap.size + 1, 0, none⟩ = some (.int .u8 v0) ∧ x.cell? ⟨w.heap.size + 1, 1, none⟩ = some (.int .u8 v1) ∧ x.cell? ⟨w.heap.size + 1, 2, none⟩ = some (.int .u8 v2) ∧ x.cell? ⟨w.heap.size + 1, 3, none⟩ = some (.int .u8 v3) ∧ x.cell? ⟨w.heap.size + 2, 0, none⟩ = some (.int .u8 y0) ∧ x.cell? ⟨w.heap.size + 2, 1, none⟩ = some (.int .u8 y1) ∧ x.cell? ⟨w.heap.size + 2, 2, none⟩ = some (.int .u8 y2) ∧ x.cell? ⟨w.heap.size + 2, 3, none⟩ = some (.int .u8 y3)) (by kernel_rfl) (keep_drew KS12) (fun hHeld => ?_)
            refine wpAnyH_take (i := 0) (v := ?_) (by simp only [List.getElem?_toArray, List.getElem?_cons_succ, List.getElem?_cons_zero]; exact rfl) (by kernel_rfl) (by kernel_rfl) (by kernel_rfl) (fun _ _ _ h => h) (Or.inl ⟨by rfl, ?_⟩) (by assumption) ?_
            rotate_left
            · intro w hSw
              try dsimp only at hSw
              go_simp
              try with_reducible rfl
            try simp only [Act.put, List.setIfInBounds_toArray, List.set_cons_zero, List.set_cons_succ]
            refine wpAnyH_take (i := 1) (v := ?_) (by simp only [List.getElem?_toArray, List.getElem?_cons_succ, List.getElem?_cons_zero]; exact rfl) (by kernel_rfl) (by kernel_rfl) (by kernel_rfl) (fun _ _ _ h => h) (Or.inl ⟨by rfl, ?_⟩) (by assumption) ?_
            rotate_left
            · intro w hSw
              try dsimp only at hSw
              go_simp
              try with_reducible rfl
            try simp only [Act.put, List.setIfInBounds_toArray, List.set_cons_zero, List.set_cons_succ]
            refine wpAnyH_take (i := 2) (v := ?_) (by simp only [List.getElem?_toArray, List.getElem?_cons_succ, List.getElem?_cons_zero]; exact rfl) (by kernel_rfl) (by kernel_rfl) (by kernel_rfl) (fun _ _ _ h => h) (Or.inl ⟨by rfl, ?_⟩) (by assumption) ?_
            rotate_left
            · intro w hSw
              try dsimp only at hSw
              go_simp
              try with_reducible rfl
            try simp only [Act.put, List.setIfInBounds_toArray, List.set_cons_zero, List.set_cons_succ]
            refine wpAnyH_take (i := 5) (v := ?_) (by simp only [List.getElem?_toArray, List.getElem?_cons_succ, List.getElem?_cons_zero]; exact rfl) (by kernel_rfl) (by kernel_rfl) (by kernel_rfl) (fun _ _ _ h => h) (Or.inl ⟨by rfl, ?_⟩) (by assumption) ?_
            rotate_left
            · intro w hSw
              try dsimp only at hSw
              go_simp
              try with_reducible rfl
            try simp only [Act.put, List.setIfInBounds_toArray, List.set_cons_zero, List.set_cons_succ]
            refine wpAnyH_take (i := 6) (v := ?_) (by simp only [List.getElem?_toArray, List.getElem?_cons_succ, List.getElem?_cons_zero]; exact rfl) (by kernel_rfl) (by kernel_rfl) (by kernel_rfl) (fun _ _ _ h => h) (Or.inl ⟨by rfl, ?_⟩) (by assumption) ?_
            rotate_left
            · intro w hSw
              try dsimp only at hSw
              go_simp
              try with_reducible rfl
            try simp only [Act.put, List.setIfInBounds_toArray, List.set_cons_zero, List.set_cons_succ]
            refine wpAnyH_take (i := 7) (v := ?_) (by simp only [List.getElem?_toArray, List.getElem?_cons_succ, List.getElem?_cons_zero]; exact rfl) (by kernel_rfl) (by kernel_rfl) (by kernel_rfl) (fun _ _ _ h => h) (Or.inl ⟨by rfl, ?_⟩) (by assumption) ?_
            rotate_left
            · intro w hSw
              try dsimp only at hSw
              go_simp
              try with_reducible rfl
            try simp only [Act.put, List.setIfInBounds_toArray, List.set_cons_zero, List.set_cons_succ]
            refine wpAnyH_take (i := 11) (v := ?_) (by simp only [List.getElem?_toArray, List.getElem?_cons_succ, List.getElem?_cons_zero]; exact rfl) (by kernel_rfl) (by kernel_rfl) (by kernel_rfl) (fun _ _ _ h => h) (Or.inl ⟨by rfl, ?_⟩) (by assumption) ?_
            rotate_left
            · intro w hSw
              try dsimp only at hSw
              go_simp
              try with_reducible rfl
            try simp only [Act.put, List.setIfInBounds_toArray, List.set_cons_zero, List.set_cons_succ]
            refine wpAnyH_take (i := 12) (v := ?_) (by simp only [List.getElem?_toArray, List.getElem?_cons_succ, List.getElem?_cons_zero]; exact rfl) (by kernel_rfl) (by kernel_rfl) (by kernel_rfl) (fun _ _ _ h => h) (Or.inl ⟨by rfl, ?_⟩) (by assumption) ?_
            rotate_left
            · intro w hSw
              try dsimp only at hSw
              go_simp
              try with_reducible rfl
            try simp only [Act.put, List.setIfInBounds_toArray, List.set_cons_zero, List.set_cons_succ]
            refine wpAnyH_take (i := 13) (v := ?_) (by simp only [List.getElem?_toArray, List.getElem?_cons_succ, List.getElem?_cons_zero]; exact rfl) (by kernel_rfl) (by kernel_rfl) (by kernel_rfl) (fun _ _ _ h => h) (Or.inl ⟨by rfl, ?_⟩) (by assumption) ?_
            rotate_left
            · intro w hSw
              try dsimp only at hSw
              go_simp
              try with_reducible rfl
            try simp only [Act.put, List.setIfInBounds_toArray, List.set_cons_zero, List.set_cons_succ]
            refine wpAnyH_ready (rs := [3]) (by kernel_rfl) (by simp) ?_
            refine AllReadyH.cons (by simp only [List.getElem?_toArray, List.getElem?_cons_succ, List.getElem?_cons_zero]; exact rfl) (fun K hK => ?_) AllReadyH.nil
            go_simp
            (go_at_call 19; refine (meet_any _ _ _ _ _ _ _ _ _).mono ?_; rintro e w5 ⟨rfl, hb5⟩)
            refine hK.out _ _ (keep_step hb5 hHeld KS12) (fun hHeld2 => ?_)
            clear hK K hHeld
            have hHeld := hHeld2
            clear hHeld2
            try simp only [Act.put, List.setIfInBounds_toArray, List.set_cons_zero, List.set_cons_succ]
            refine wpAnyH_ready (rs := [4]) (by kernel_rfl) (by simp) ?_
            refine AllReadyH.cons (by simp only [List.getElem?_toArray, List.getElem?_cons_succ, List.getElem?_cons_zero]; exact rfl) (fun K hK => ?_) AllReadyH.nil
            go_simp
            (go_at_call 28; refine (cost_any _ _ _ _ _ _ _ _ _ _ (HC4.out.below hHeld.1) HM.out (by first | exact HY.out | exact HM8.out | exact HJ8.out | exact HT8.out)).mono ?_; rintro e w5 ⟨rfl, hb5⟩)
            refine hK.out _ _ (keep_step hb5 hHeld KS12) (fun hHeld2 => ?_)
            clear hK K hHeld
            have hHeld := hHeld2
            clear hHeld2
            try simp only [Act.put, List.setIfInBounds_toArray, List.set_cons_zero, List.set_cons_succ]
            refine wpAnyH_ready (rs := [8]) (by kernel_rfl) (by simp) ?_
            refine AllReadyH.cons (by simp only [List.getElem?_toArray, List.getElem?_cons_succ, List.getElem?_cons_zero]; exact rfl) (fun K hK => ?_) AllReadyH.nil
            go_simp
            (go_at_call 21; refine (join_any _ _ _ _ _ _ _ _ _).mono ?_; rintro e w5 ⟨rfl, hb5⟩)
            refine hK.out _ _ (keep_step hb5 hHeld KS12) (fun hHeld2 => ?_)
            clear hK K hHeld
            have hHeld := hHeld2
            clear hHeld2
            try simp only [Act.put, List.setIfInBounds_toArray, List.set_cons_zero, List.set_cons_succ]
            refine wpAnyH_ready (rs := [9]) (by kernel_rfl) (by simp) ?_
            refine AllReadyH.cons (by simp only [List.getElem?_toArray, List.getElem?_cons_succ, List.getElem?_cons_zero]; exact rfl) (fun K hK => ?_) AllReadyH.nil
            go_simp
            (go_at_call 28; refine (cost_any _ _ _ _ _ _ _ _ _ _ (HC4.out.below hHeld.1) HM.out (by first | exact HY.out | exact HM8.out | exact HJ8.out | exact HT8.out)).mono ?_; rintro e w5 ⟨rfl, hb5⟩)
            refine hK.out _ _ (keep_step hb5 hHeld KS12) (fun hHeld2 => ?_)
            clear hK K hHeld
            have hHeld := hHeld2
            clear hHeld2
            try simp only [Act.put, List.setIfInBounds_toArray, List.set_cons_zero, List.set_cons_succ]
            refine wpAnyH_take (i := 10) (v := ?_) (by simp only [List.getElem?_toArray, List.getElem?_cons_succ, List.getElem?_cons_zero]; exact rfl) (by kernel_rfl) (by kernel_rfl) (by kernel_rfl) (fun _ _ _ h => h) (Or.inl ⟨by rfl, ?_⟩) (by assumption) ?_
            rotate_left
            · intro w hSw
              try dsimp only at hSw
              go_simp
              try with_reducible rfl
            try simp only [Act.put, List.setIfInBounds_toArray, List.set_cons_zero, List.set_cons_succ]
            refine wpAnyH_ready (rs := [14]) (by kernel_rfl) (by simp) ?_
            refine AllReadyH.cons (by simp only [List.getElem?_toArray, List.getElem?_cons_succ, List.getElem?_cons_zero]; exact rfl) (fun K hK => ?_) AllReadyH.nil
            go_simp
            (go_at_call 28; refine (cost_any _ _ _ _ _ _ _ _ _ _ (HC4.out.below hHeld.1) HM.out (by first | exact HY.out | exact HM8.out | exact HJ8.out | exact HT8.out)).mono ?_; rintro e w5 ⟨rfl, hb5⟩)
            refine hK.out _ _ (keep_step hb5 hHeld KS12) (fun hHeld2 => ?_)
            clear hK K hHeld
            have hHeld := hHeld2
            clear hHeld2
            try simp only [Act.put, List.setIfInBounds_toArray, List.set_cons_zero, List.set_cons_succ]
            refine wpAnyH_take (i := 15) (v := ?_) (by simp only [List.getElem?_toArray, List.getElem?_cons_succ, List.getElem?_cons_zero]; exact rfl) (by kernel_rfl) (by kernel_rfl) (by kernel_rfl) (fun _ _ _ h => h) (Or.inl ⟨by rfl, ?_⟩) (by assumption) ?_
            rotate_left
            · intro w hSw
              try dsimp only at hSw
              go_simp
              try with_reducible rfl
            try simp only [Act.put, List.setIfInBounds_toArray, List.set_cons_zero, List.set_cons_succ]
            refine wpAnyH_take (i := 16) (v := ?_) (by simp only [List.getElem?_toArray, List.getElem?_cons_succ, List.getElem?_cons_zero]; exact rfl) (by kernel_rfl) (by kernel_rfl) (by kernel_rfl) (fun _ _ _ h => h) (Or.inl ⟨by rfl, ?_⟩) (by assumption) ?_
            rotate_left
            · intro w hSw
              try dsimp only at hSw
              go_simp
              try with_reducible rfl
            try simp only [Act.put, List.setIfInBounds_toArray, List.set_cons_zero, List.set_cons_succ]
            refine wpAnyH_take (i := 17) (v := ?_) (by simp only [List.getElem?_toArray, List.getElem?_cons_succ, List.getElem?_cons_zero]; exact rfl) (by kernel_rfl) (by kernel_rfl) (by kernel_rfl) (fun _ _ _ h => h) (Or.inl ⟨by rfl, ?_⟩) (by assumption) ?_
            rotate_left
            · intro w hSw
              try dsimp only at hSw
              go_simp
              try with_reducible rfl
            try simp only [Act.put, List.setIfInBounds_toArray, List.set_cons_zero, List.set_cons_succ]
            refine wpAnyH_take (i := 18) (v := ?_) (by simp only [List.getElem?_toArray, List.getElem?_cons_succ, List.getElem?_cons_zero]; exact rfl) (by kernel_rfl) (by kernel_rfl) (by kernel_rfl) (fun _ _ _ h => h) (Or.inl ⟨by rfl, ?_⟩) (by assumption) ?_
            rotate_left
            · intro w hSw
              try dsimp only at hSw
              go_simp
              try with_reducible rfl
            try simp only [Act.put, List.setIfInBounds_toArray, List.set_cons_zero, List.set_cons_succ]
            refine wpAnyH_take (i := 19) (v := ?_) (by simp only [List.getElem?_toArray, List.getElem?_cons_succ, List.getElem?_cons_zero]; exact rfl) (by kernel_rfl) (by kernel_rfl) (by kernel_rfl) (fun _ _ _ h => h) (Or.inl ⟨by rfl, ?_⟩) (by assumption) ?_
            rotate_left
            · intro w hSw
              try dsimp only at hSw
              go_simp
              try with_reducible rfl
            try simp only [Act.put, List.setIfInBounds_toArray, List.set_cons_zero, List.set_cons_succ]
            refine wpAnyH_ready (rs := [20]) (by kernel_rfl) (by simp) ?_
            refine AllReadyH.cons (by simp only [List.getElem?_toArray, List.getElem?_cons_succ, List.getElem?_cons_zero]; exact rfl) (fun K hK => ?_) AllReadyH.nil
            go_simp
            (go_at_call 34; refine (whole_any _ _ _ _ _ _ (HC4.out.below hHeld.1) HM.out).mono ?_; rintro e w5 ⟨rfl, hb5⟩)
            refine hK.out _ _ (keep_step hb5 hHeld KS12) (fun hHeld2 => ?_)
            clear hK K hHeld
            have hHeld := hHeld2
            clear hHeld2
            try simp only [Act.put, List.setIfInBounds_toArray, List.set_cons_zero, List.set_cons_succ]
            refine wpAnyH_ready (rs := [21]) (by kernel_rfl) (by simp) ?_
            refine AllReadyH.cons (by simp only [List.getElem?_toArray, List.getElem?_cons_succ, List.getElem?_cons_zero]; exact rfl) (fun K hK => ?_) AllReadyH.nil
            go_simp
            (go_at_call 28; refine (cost_any _ _ _ _ _ _ _ _ _ _ (HC4.out.below hHeld.1) HM.out (by first | exact HY.out | exact HM8.out | exact HJ8.out | exact HT8.out)).mono ?_; rintro e w5 ⟨rfl, hb5⟩)
            refine hK.out _ _ (keep_step hb5 hHeld KS12) (fun hHeld2 => ?_)
            clear hK K hHeld
            have hHeld := hHeld2
            clear hHeld2
            try simp only [Act.put, List.setIfInBounds_toArray, List.set_cons_zero, List.set_cons_succ]
            refine wpAnyH_take (i := 22) (v := ?_) (by simp only [List.getElem?_toArray, List.getElem?_cons_succ, List.getElem?_cons_zero]; exact rfl) (by kernel_rfl) (by kernel_rfl) (by kernel_rfl) (fun _ _ _ h => h) (Or.inl ⟨by rfl, ?_⟩) (by assumption) ?_
            rotate_left
            · intro w hSw
              try dsimp only at hSw
              go_simp
              try with_reducible rfl
            try simp only [Act.put, List.setIfInBounds_toArray, List.set_cons_zero, List.set_cons_succ]
            refine wpAnyH_take (i := 23) (v := ?_) (by simp only [List.getElem?_toArray, List.getElem?_cons_succ, List.getElem?_cons_zero]; exact rfl) (by kernel_rfl) (by kernel_rfl) (by kernel_rfl) (fun _ _ _ h => h) (Or.inl ⟨by rfl, ?_⟩) (by assumption) ?_
            rotate_left
            · intro w hSw
              try dsimp only at hSw
              go_simp
              try with_reducible rfl
            try simp only [Act.put, List.setIfInBounds_toArray, List.set_cons_zero, List.set_cons_succ]
            refine wpAnyH_take (i := 24) (v := ?_) (by simp only [List.getElem?_toArray, List.getElem?_cons_succ, List.getElem?_cons_zero]; exact rfl) (by kernel_rfl) (by kernel_rfl) (by kernel_rfl) (fun _ _ _ h => h) (Or.inl ⟨by rfl, ?_⟩) (by assumption) ?_
            rotate_left
            · intro w hSw
              try dsimp only at hSw
              go_simp
              try with_reducible rfl
            try simp only [Act.put, List.setIfInBounds_toArray, List.set_cons_zero, List.set_cons_succ]
            refine wpAnyH_ready (rs := [25]) (by kernel_rfl) (by simp) ?_
            refine AllReadyH.cons (by simp only [List.getElem?_toArray, List.getElem?_cons_succ, List.getElem?_cons_zero]; exact rfl) (fun K hK => ?_) AllReadyH.nil
            go_simp
            (go_at_call 15; refine (wakes5 _).mono ?_; rintro e w5 ⟨rfl, hb5⟩)
            refine hK.out _ _ (keep_step hb5 hHeld KS12) (fun hHeld2 => ?_)
            clear hK K hHeld
            have hHeld := hHeld2
            clear hHeld2
            try simp only [Act.put, List.setIfInBounds_toArray, List.set_cons_zero, List.set_cons_succ]
            refine wpAnyH_take (i := 26) (v := ?_) (by simp only [List.getElem?_toArray, List.getElem?_cons_succ, List.getElem?_cons_zero]; exact rfl) (by kernel_rfl) (by kernel_rfl) (by kernel_rfl) (fun _ _ _ h => h) (Or.inl ⟨by rfl, ?_⟩) (by assumption) ?_
            rotate_left
            · intro w hSw
              try dsimp only at hSw
              go_simp
              try with_reducible rfl
            try simp only [Act.put, List.setIfInBounds_toArray, List.set_cons_zero, List.set_cons_succ]
            refine wpAnyH_take (i := 27) (v := ?_) (by simp only [List.getElem?_toArray, List.getElem?_cons_succ, List.getElem?_cons_zero]; exact rfl) (by kernel_rfl) (by kernel_rfl) (by kernel_rfl) (fun _ _ _ h => h) (Or.inl ⟨by rfl, ?_⟩) (by assumption) ?_
            rotate_left
            · intro w hSw
              try dsimp only at hSw
              go_simp
              try with_reducible rfl
            try simp only [Act.put, List.setIfInBounds_toArray, List.set_cons_zero, List.set_cons_succ]
            refine wpAnyH_done (by kernel_rfl) ?_ _
            refine NoPanic.normal ?_
            go_wp2
            go_ret
            exact ⟨rfl, bt RX5.out.2.1 hHeld.1⟩

end Go.Proofs.Ytmlnfpefemchhaa

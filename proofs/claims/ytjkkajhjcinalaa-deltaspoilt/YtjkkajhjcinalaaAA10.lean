/-
  A spoilt delta may not be: the walk of the law DeltaSpoilt.
  Conditions: as each theorem states them.
-/
import Derived.Test.YtjkkajhjcinalaaV10
import Derived.Test.YtjkkajhjcinalaaS10
import Derived.Deep.CutBlock
namespace Go.Proofs.Ytjkkajhjcinalaa
open Go.ChangeShapes Go.WideShapes Go.ChangeAt Go.RowKit
set_option linter.unusedVariables false
set_option linter.unusedSimpArgs false
set_option maxRecDepth 100000

set_option maxHeartbeats 64000000 in
theorem spoilt_dwalk (t : Bool) (D : Dl) (d0 : Option Addr) (d1 d2 : Nat) (d3 : Option Addr) (d4 d5 : Nat) (d6 : Option Addr) (d7 d8 : Nat) (d9 : Option Addr) (d10 d11 : Nat) (h b : Int) (w : World) (hD : DW w d0 d1 d2 d3 d4 d5 d6 d7 d8 d9 d10 d11 D ∧ okd D) (hh : U8 h) (hb0 : I64 b) :
    Calls Try.prog 13 #[.bool t, (.agg #[.int .i64 D.n, .int .i64 D.s0, .int .i64 D.s1, .slice d0 d1 d2, .slice d3 d4 d5, .slice d6 d7 d8, .slice d9 d10 d11]), .agg #[.int .u8 h, .int .i64 b]] w fun e w' => e = .returned (.bool true) ∧ Below w.heap.size w w' := by
  have HD := hid hD
  have HB := hid hb0
  have HH := hid hh
  have K0 := hid (kq_new w (.cells #[.int .i64 D.n, .int .i64 D.s0, .int .i64 D.s1, .slice d0 d1 d2, .slice d3 d4 d5, .slice d6 d7 d8, .slice d9 d10 d11] 68) (.cells #[.int .u8 h, .int .i64 b] 108))
  obtain ⟨M, hM⟩ : ∃ y, (if t then 2 else 1 : Int) = y := ⟨_, rfl⟩
  have HM := hid hM
  have HM2 := hid (many_12d t M hM)
  obtain ⟨g, hg⟩ : ∃ y, dg M D = y := ⟨_, rfl⟩
  have GV := hid hg
  clear hD hM hg hh hb0
  by_cases hL : ((d1 ≤ 60 ∧ d4 ≤ 60) ∧ d7 ≤ 60 ∧ d10 ≤ 60)
  · have HLD := (hid (decide_eq_true hL) : Hid (decide ((d1 ≤ 60 ∧ d4 ≤ 60) ∧ d7 ≤ 60 ∧ d10 ≤ 60) = true))
    have SD : Hid (shn 60 D) := hid (by have h := dw_len HD.out.1; unfold shn; omega)
    clear hL
    cases g with
    | false =>
      go_enter Try.func13, Try.ntmps13
      go_upto_region 1 with fail
      generalize (w.alloc (.cells #[.int .i64 D.n, .int .i64 D.s0, .int .i64 D.s1, .slice d0 d1 d2, .slice d3 d4 d5, .slice d6 d7 d8, .slice d9 d10 d11] 68)).alloc (.cells #[.int .u8 h, .int .i64 b] 108) = W at K0 ⊢
      have KX := hid K0.out.1
      have KS := hid K0.out.2
      clear K0
      obtain ⟨N0, hN0⟩ : ∃ y, w.heap.size = y := ⟨_, rfl⟩
      obtain ⟨N1, hN1⟩ : ∃ y, w.heap.size + 1 = y := ⟨_, rfl⟩
      rw [hN1] at KS ⊢
      rw [hN0] at KX ⊢
      have HN : Hid (w.heap.size = N0) := hid hN0
      clear hN0 hN1
      obtain ⟨f0, f1, f2, f3, f4, f5, f6⟩ := box_seven KX.out.2.2
      go_wp2_with (first
        | (go_at_call 51; refine (dmany_m t M _ HM).mono ?_; rintro e wm ⟨rfl, hw⟩; have hw2 := hw.symm; clear hw; subst hw2)
        | (go_at_call 30; refine (dlight_m D d0 d1 d2 d3 d4 d5 d6 d7 d8 d9 d10 d11 true _ (HD.out.1.below KX.out.1) HLD).mono ?_; rintro e wD ⟨rfl, hb⟩; replace KX := hid (KX.out.step hb); clear hb f0 f1 f2 f3 f4 f5 f6; obtain ⟨f0, f1, f2, f3, f4, f5, f6⟩ := box_seven KX.out.2.2)
        | (go_at_call 39; refine (rdgood_m M D d0 d1 d2 d3 d4 d5 d6 d7 d8 d9 d10 d11 false _ (HD.out.1.below KX.out.1) HD.out.2 GV).mono ?_; rintro e wG ⟨rfl, hb⟩; replace KX := hid (KX.out.step hb); clear hb)
        | (go_at_call 31; refine (dwakes_any _).mono ?_; rintro e wW ⟨rfl, hb⟩; replace KX := hid (KX.out.step hb); clear hb))
      go_ret
      exact ⟨rfl, KX.out.1⟩
    | true =>
      go_enter Try.func13, Try.ntmps13
      go_upto_region 1 with fail
      generalize (w.alloc (.cells #[.int .i64 D.n, .int .i64 D.s0, .int .i64 D.s1, .slice d0 d1 d2, .slice d3 d4 d5, .slice d6 d7 d8, .slice d9 d10 d11] 68)).alloc (.cells #[.int .u8 h, .int .i64 b] 108) = W at K0 ⊢
      have KX := hid K0.out.1
      have KS := hid K0.out.2
      clear K0
      obtain ⟨N0, hN0⟩ : ∃ y, w.heap.size = y := ⟨_, rfl⟩
      obtain ⟨N1, hN1⟩ : ∃ y, w.heap.size + 1 = y := ⟨_, rfl⟩
      rw [hN1] at KS ⊢
      rw [hN0] at KX ⊢
      have HN : Hid (w.heap.size = N0) := hid hN0
      clear hN0 hN1
      obtain ⟨f0, f1, f2, f3, f4, f5, f6⟩ := box_seven KX.out.2.2
      go_upto_region 4 with (first
        | (go_at_call 51; refine (dmany_m t M _ HM).mono ?_; rintro e wm ⟨rfl, hw⟩; have hw2 := hw.symm; clear hw; subst hw2)
        | (go_at_call 30; refine (dlight_m D d0 d1 d2 d3 d4 d5 d6 d7 d8 d9 d10 d11 true _ (HD.out.1.below KX.out.1) HLD).mono ?_; rintro e wD ⟨rfl, hb⟩; replace KX := hid (KX.out.step hb); replace KS := hid (KS.out.step hb); clear hb f0 f1 f2 f3 f4 f5 f6; obtain ⟨f0, f1, f2, f3, f4, f5, f6⟩ := box_seven KX.out.2.2)
        | (go_at_call 39; refine (rdgood_m M D d0 d1 d2 d3 d4 d5 d6 d7 d8 d9 d10 d11 true _ (HD.out.1.below KX.out.1) HD.out.2 GV).mono ?_; rintro e wG ⟨rfl, hb⟩; replace KX := hid (KX.out.step hb); replace KS := hid (KS.out.step hb); clear hb))
      rename World => W6
      clear f0 f1 f2 f3 f4 f5 f6
      obtain ⟨f0, f1, f2, f3, f4, f5, f6⟩ := box_seven KX.out.2.2
      go_upto_region 5 with fail
      clear f0 f1 f2 f3 f4 f5 f6
      have KY : Hid (Kp w (W6.alloc (.cells #[.int .i64 D.n, .int .i64 D.s0, .int .i64 D.s1, .slice d0 d1 d2, .slice d3 d4 d5, .slice d6 d7 d8, .slice d9 d10 d11] 68)) W6.heap.size (.cells #[.int .i64 D.n, .int .i64 D.s0, .int .i64 D.s1, .slice d0 d1 d2, .slice d3 d4 d5, .slice d6 d7 d8, .slice d9 d10 d11] 68)) := hid (kp_new2 KX.out.1 _ _ rfl)
      have KX6 := KX
      have KS6 := KS
      have LX := hid (heap_lt KX.out.2.2)
      have LS := hid (heap_lt KS.out.2.2)
      have hsp := kp_alloc KS.out (.cells #[.int .i64 D.n, .int .i64 D.s0, .int .i64 D.s1, .slice d0 d1 d2, .slice d3 d4 d5, .slice d6 d7 d8, .slice d9 d10 d11] 68)
      obtain ⟨sp0', sp1'⟩ := box_two hsp.2.2
      have B67 := hid (b1alloc W6 (.cells #[.int .i64 D.n, .int .i64 D.s0, .int .i64 D.s1, .slice d0 d1 d2, .slice d3 d4 d5, .slice d6 d7 d8, .slice d9 d10 d11] 68))
      clear KX KS hsp
      generalize W6.alloc (.cells #[.int .i64 D.n, .int .i64 D.s0, .int .i64 D.s1, .slice d0 d1 d2, .slice d3 d4 d5, .slice d6 d7 d8, .slice d9 d10 d11] 68) = W7 at KY B67 sp0' sp1' ⊢
      obtain ⟨NY, hNY⟩ : ∃ y, W6.heap.size = y := ⟨_, rfl⟩
      rw [hNY] at KY LX LS B67 ⊢
      have HNY := hid hNY
      clear hNY
      have GD := hid (dg_iff.1 GV.out)
      have nb := dg_n GD.out
      obtain ⟨nb1, nb2⟩ := nb
      have hh := HH.out
      obtain ⟨hh0, hh1⟩ := hh
      obtain ⟨k, hk⟩ : ∃ k : Nat, h % 5 = k ∧ k < 5 := ⟨(h % 5).toNat, by omega⟩
      obtain ⟨hmod, hk5⟩ := hk
      have hk' : k = 0 ∨ k = 1 ∨ k = 2 ∨ k = 3 ∨ k = 4 := by omega
      clear hk5
      have HMOD := hid hmod
      clear hmod
      go_upto_block 0 with fail
      generalize hz : h % 5 = z
      rw [hz] at HMOD
      clear hz
      go_cut [8] (fun p wx => ∃ (Y : Dl) (y0 : Option Addr) (y1 y2 : Nat) (y3 : Option Addr) (y4 y5 : Nat) (y6 : Option Addr) (y7 y8 : Nat) (y9 : Option Addr) (y10 y11 : Nat), p = .pointer (some ⟨NY, 0, none⟩) ∧ Hid (Kp w wx N0 (.cells #[.int .i64 D.n, .int .i64 D.s0, .int .i64 D.s1, .slice d0 d1 d2, .slice d3 d4 d5, .slice d6 d7 d8, .slice d9 d10 d11] 68)) ∧ Hid (Kp w wx NY (.cells #[.int .i64 Y.n, .int .i64 Y.s0, .int .i64 Y.s1, .slice y0 y1 y2, .slice y3 y4 y5, .slice y6 y7 y8, .slice y9 y10 y11] 68)) ∧ Hid (DW wx y0 y1 y2 y3 y4 y5 y6 y7 y8 y9 y10 y11 Y) ∧ Hid (okd Y) ∧ Hid (dg M Y = false) ∧ Hid (shn 70 Y))
      case first =>
        rcases hk' with rfl | rfl | rfl | rfl | rfl
        · have HZ := hid HMOD.out
          have z0 : (z == 0) = true := by rw [HZ.out]; rfl
          have hwn : IntKind.i64.wrap (D.n + 1) = D.n + 1 := IntWalk.i64_in _ (by omega)
          have cz := kp_cell (j := 0) (v := .int .i64 D.n) KY.out rfl
          have fz := kp_froz KY.out 0
          go_wp2
          have BC : Hid (Below W6.heap.size W6 (W7.setCell ⟨NY, 0, none⟩ (.int .i64 (D.n + 1)))) := hid (by have h9 := B67.out; rw [← HNY.out] at h9 ⊢; exact h9.setCell (p := ⟨W6.heap.size, 0, none⟩) (Nat.le_refl _) (.int .i64 (D.n + 1)))
          have KZ : Hid (Kp w (W7.setCell ⟨NY, 0, none⟩ (.int .i64 (D.n + 1))) NY (.cells #[.int .i64 (D.n + 1), .int .i64 D.s0, .int .i64 D.s1, .slice d0 d1 d2, .slice d3 d4 d5, .slice d6 d7 d8, .slice d9 d10 d11] 68)) := hid (kp_set (j := 0) (v := .int .i64 (D.n + 1)) KY.out)
          have SH := SD.out
          clear cz fz
          have DX := hid (HD.out.1.below (KX6.out.step BC.out).1)
          go_meet
          exact ⟨⟨D.n + 1, D.s0, D.s1, D.i0, D.i1, D.o0, D.o1⟩, d0, d1, d2, d3, d4, d5, d6, d7, d8, d9, d10, d11, rfl, hid (KX6.out.step BC.out), KZ, hid (DX.out), hid ⟨⟨by show I64 (D.n + 1); unfold I64; omega, HD.out.2.1.2⟩, HD.out.2.2⟩, hid (dq0 GD.out), hid ⟨⟨by have := SD.out.1.1; simp only; omega, by have := SD.out.1.2; simp only; omega⟩, by have := SD.out.2.1; simp only; omega, by have := SD.out.2.2; simp only; omega⟩⟩
        · have HZ := hid HMOD.out
          have z0 : (z == 0) = false := by rw [HZ.out]; rfl
          have z1 : (z == 1) = true := by rw [HZ.out]; rfl
          obtain ⟨O, hO⟩ : ∃ y, bits .or .i64 b 1 = y := ⟨_, rfl⟩
          obtain ⟨Z, hZ⟩ : ∃ y, bits .xor .i64 D.s0 O = y := ⟨_, rfl⟩
          have HO := hid hO
          have HZ := hid hZ
          have cz := kp_cell (j := 1) (v := .int .i64 D.s0) KY.out rfl
          have fz := kp_froz KY.out 1
          go_wp2
          have BC : Hid (Below W6.heap.size W6 (W7.setCell ⟨NY, 1, none⟩ (.int .i64 Z))) := hid (by have h9 := B67.out; rw [← HNY.out] at h9 ⊢; exact h9.setCell (p := ⟨W6.heap.size, 1, none⟩) (Nat.le_refl _) (.int .i64 Z))
          have KZ : Hid (Kp w (W7.setCell ⟨NY, 1, none⟩ (.int .i64 Z)) NY (.cells #[.int .i64 D.n, .int .i64 Z, .int .i64 D.s1, .slice d0 d1 d2, .slice d3 d4 d5, .slice d6 d7 d8, .slice d9 d10 d11] 68)) := hid (kp_set (j := 1) (v := .int .i64 Z) KY.out)
          have SH := SD.out
          clear cz fz
          have DX := hid (HD.out.1.below (KX6.out.step BC.out).1)
          go_meet
          exact ⟨⟨D.n, Z, D.s1, D.i0, D.i1, D.o0, D.o1⟩, d0, d1, d2, d3, d4, d5, d6, d7, d8, d9, d10, d11, rfl, hid (KX6.out.step BC.out), KZ, hid (DX.out), hid ⟨⟨HD.out.2.1.1, by show I64 Z; rw [← HZ.out]; exact xor_i64_d _ _, HD.out.2.1.2.2⟩, HD.out.2.2⟩, hid (dq1 GD.out (by rw [← HZ.out]; exact xor_nz_d (by rw [← HO.out]; exact or_bit_d b))), hid ⟨⟨by have := SD.out.1.1; simp only; omega, by have := SD.out.1.2; simp only; omega⟩, by have := SD.out.2.1; simp only; omega, by have := SD.out.2.2; simp only; omega⟩⟩
        · have HZ := hid HMOD.out
          have z0 : (z == 0) = false := by rw [HZ.out]; rfl
          have z1 : (z == 1) = false := by rw [HZ.out]; rfl
          have z2 : (z == 2) = true := by rw [HZ.out]; rfl
          obtain ⟨M0, hM0⟩ : ∃ y, lay b 1 D.i0 = y := ⟨_, rfl⟩
          obtain ⟨M1, hM1⟩ : ∃ y, lay b 1 D.o0 = y := ⟨_, rfl⟩
          have FM0 := hid hM0
          have FM1 := hid hM1
          clear hM0 hM1
          have Z0 : Hid (Nz D.i0) := hid (bag_nz GD.out.1.1)
          have Z1 : Hid (Nz D.o0) := hid (bag_nz GD.out.1.2.1)
          have L0 : Hid (∀ r ∈ D.i0, -1099511627776 ≤ r.2 ∧ r.2 ≤ 1099511627776) := hid (fun r hr => by have h1 := GD.out.1.1.2.1 r hr; have h2 := cn_le (v := r.1) GD.out.1.1.2.1; have h3 := cn_srt_eq GD.out.1.1.1 hr; have h4 := GD.out.1.1.2.2; omega)
          have L1 : Hid (∀ r ∈ D.o0, -1099511627776 ≤ r.2 ∧ r.2 ≤ 1099511627776) := hid (fun r hr => by have h1 := GD.out.1.2.1.2.1 r hr; have h2 := cn_le (v := r.1) GD.out.1.2.1.2.1; have h3 := cn_srt_eq GD.out.1.2.1.1 hr; have h4 := GD.out.1.2.1.2.2; omega)
          have bd1 : d1 ≤ 1000000 := by have h1 := (dw_len HD.out.1).1.1; have h2 := SD.out.1.1; omega
          have bd2 : d7 ≤ 1000000 := by have h1 := (dw_len HD.out.1).2.1; have h2 := SD.out.2.1; omega
          have KS : Hid (∀ y, Below W6.heap.size W6 y → (fun y => Below W6.heap.size W6 y ∧ y.cell? ⟨N0, 3, none⟩ = some (.slice d0 d1 d2) ∧ y.cell? ⟨N0, 5, none⟩ = some (.slice d6 d7 d8) ∧ y.cell? ⟨N1, 1, none⟩ = some (.int .i64 b)) y) := hid (fun y hb => ⟨hb, kp_cell (j := 3) (v := .slice d0 d1 d2) (KX6.out.step hb) rfl, kp_cell (j := 5) (v := .slice d6 d7 d8) (KX6.out.step hb) rfl, kp_cell (j := 1) (v := .int .i64 b) (KS6.out.step hb) rfl⟩)
          have LY := hid (heap_lt KY.out.2.2)
          have BWc : Hid (Below W6.heap.size W6 W7.drew) := hid (bdrew (by have h9 := B67.out; rw [← HNY.out] at h9; exact h9))
          replace KY := hid (KY.out.step (bdrew (Below.refl _ _)))
          go_upto_region 12 with fail
          refine wp_region_noPanic ?_
          refine wp_region_held_drew (S := fun y => Below W6.heap.size W6 y ∧ y.cell? ⟨N0, 3, none⟩ = some (.slice d0 d1 d2) ∧ y.cell? ⟨N0, 5, none⟩ = some (.slice d6 d7 d8) ∧ y.cell? ⟨N1, 1, none⟩ = some (.int .i64 b)) (by kernel_rfl) (KS.out _ BWc.out) (fun hHeld => ?_)
          refine wpAnyH_take (i := 0) (v := ?_) (by simp only [List.getElem?_toArray, List.getElem?_cons_succ, List.getElem?_cons_zero]; exact rfl) (by kernel_rfl) (by kernel_rfl) (by kernel_rfl) (fun _ _ _ h => h) (Or.inl ⟨by rfl, ?_⟩) (by assumption) ?_
          rotate_left
          · intro w hSw
            try dsimp only at hSw
            go_simp
            try with_reducible rfl
          try simp only [Act.put, List.setIfInBounds_toArray, List.set_cons_zero, List.set_cons_succ]
          refine wpAnyH_take (i := 1) (v := ?_) (by simp only [List.getElem?_toArray, List.getElem?_cons_succ, List.getElem?_cons_zero]; exact rfl) (by kernel_rfl) (by kernel_rfl) (by kernel_rfl) (fun _ _ _ h => h) (Or.inl ⟨by rfl, ?_⟩) (by assumption) ?_
          rotate_left
          · intro w hSw
            try dsimp only at hSw
            go_simp
            try with_reducible rfl
          try simp only [Act.put, List.setIfInBounds_toArray, List.set_cons_zero, List.set_cons_succ]
          refine wpAnyH_take (i := 2) (v := ?_) (by simp only [List.getElem?_toArray, List.getElem?_cons_succ, List.getElem?_cons_zero]; exact rfl) (by kernel_rfl) (by kernel_rfl) (by kernel_rfl) (fun _ _ _ h => h) (Or.inl ⟨by rfl, ?_⟩) (by assumption) ?_
          rotate_left
          · intro w hSw
            try dsimp only at hSw
            go_simp
            try with_reducible rfl
          try simp only [Act.put, List.setIfInBounds_toArray, List.set_cons_zero, List.set_cons_succ]
          refine wpAnyH_take (i := 3) (v := ?_) (by simp only [List.getElem?_toArray, List.getElem?_cons_succ, List.getElem?_cons_zero]; exact rfl) (by kernel_rfl) (by kernel_rfl) (by kernel_rfl) (fun _ _ _ h => h) (Or.inl ⟨by rfl, ?_⟩) (by assumption) ?_
          rotate_left
          · intro w hSw
            try dsimp only at hSw
            go_simp
            try with_reducible rfl
          try simp only [Act.put, List.setIfInBounds_toArray, List.set_cons_zero, List.set_cons_succ]
          refine wpAnyH_take (i := 4) (v := ?_) (by simp only [List.getElem?_toArray, List.getElem?_cons_succ, List.getElem?_cons_zero]; exact rfl) (by kernel_rfl) (by kernel_rfl) (by kernel_rfl) (fun _ _ _ h => h) (Or.inl ⟨by rfl, ?_⟩) (by assumption) ?_
          rotate_left
          · intro w hSw
            try dsimp only at hSw
            go_simp
            try with_reducible rfl
          try simp only [Act.put, List.setIfInBounds_toArray, List.set_cons_zero, List.set_cons_succ]
          refine wpAnyH_take (i := 6) (v := ?_) (by simp only [List.getElem?_toArray, List.getElem?_cons_succ, List.getElem?_cons_zero]; exact rfl) (by kernel_rfl) (by kernel_rfl) (by kernel_rfl) (fun _ _ _ h => h) (Or.inl ⟨by rfl, ?_⟩) (by assumption) ?_
          rotate_left
          · intro w hSw
            try dsimp only at hSw
            go_simp
            try with_reducible rfl
          try simp only [Act.put, List.setIfInBounds_toArray, List.set_cons_zero, List.set_cons_succ]
          refine wpAnyH_take (i := 7) (v := ?_) (by simp only [List.getElem?_toArray, List.getElem?_cons_succ, List.getElem?_cons_zero]; exact rfl) (by kernel_rfl) (by kernel_rfl) (by kernel_rfl) (fun _ _ _ h => h) (Or.inl ⟨by rfl, ?_⟩) (by assumption) ?_
          rotate_left
          · intro w hSw
            try dsimp only at hSw
            go_simp
            try with_reducible rfl
          try simp only [Act.put, List.setIfInBounds_toArray, List.set_cons_zero, List.set_cons_succ]
          refine wpAnyH_take (i := 8) (v := ?_) (by simp only [List.getElem?_toArray, List.getElem?_cons_succ, List.getElem?_cons_zero]; exact rfl) (by kernel_rfl) (by kernel_rfl) (by kernel_rfl) (fun _ _ _ h => h) (Or.inl ⟨by rfl, ?_⟩) (by assumption) ?_
          rotate_left
          · intro w hSw
            try dsimp only at hSw
            go_simp
            try with_reducible rfl
          try simp only [Act.put, List.setIfInBounds_toArray, List.set_cons_zero, List.set_cons_succ]
          refine wpAnyH_take (i := 9) (v := ?_) (by simp only [List.getElem?_toArray, List.getElem?_cons_succ, List.getElem?_cons_zero]; exact rfl) (by kernel_rfl) (by kernel_rfl) (by kernel_rfl) (fun _ _ _ h => h) (Or.inl ⟨by rfl, ?_⟩) (by assumption) ?_
          rotate_left
          · intro w hSw
            try dsimp only at hSw
            go_simp
            try with_reducible rfl
          try simp only [Act.put, List.setIfInBounds_toArray, List.set_cons_zero, List.set_cons_succ]
          refine wpAnyH_take (i := 10) (v := ?_) (by simp only [List.getElem?_toArray, List.getElem?_cons_succ, List.getElem?_cons_zero]; exact rfl) (by kernel_rfl) (by kernel_rfl) (by kernel_rfl) (fun _ _ _ h => h) (Or.inl ⟨by rfl, ?_⟩) (by assumption) ?_
          rotate_left
          · intro w hSw
            try dsimp only at hSw
            go_simp
            try with_reducible rfl
          try simp only [Act.put, List.setIfInBounds_toArray, List.set_cons_zero, List.set_cons_succ]
          refine wpAnyH_take (i := 12) (v := ?_) (by simp only [List.getElem?_toArray, List.getElem?_cons_succ, List.getElem?_cons_zero]; exact rfl) (by kernel_rfl) (by kernel_rfl) (by kernel_rfl) (fun _ _ _ h => h) (Or.inl ⟨by rfl, ?_⟩) (by assumption) ?_
          rotate_left
          · intro w hSw
            try dsimp only at hSw
            go_simp
            try with_reducible rfl
          try simp only [Act.put, List.setIfInBounds_toArray, List.set_cons_zero, List.set_cons_succ]
          refine wpAnyH_take (i := 15) (v := ?_) (by simp only [List.getElem?_toArray, List.getElem?_cons_succ, List.getElem?_cons_zero]; exact rfl) (by kernel_rfl) (by kernel_rfl) (by kernel_rfl) (fun _ _ _ h => h) (Or.inl ⟨by rfl, ?_⟩) (by assumption) ?_
          rotate_left
          · intro w hSw
            try dsimp only at hSw
            go_simp
            try with_reducible rfl
          try simp only [Act.put, List.setIfInBounds_toArray, List.set_cons_zero, List.set_cons_succ]
          refine wpAnyH_ready (rs := [5]) (by kernel_rfl) (by simp) ?_
          refine (AllReadyH.cons (by simp only [List.getElem?_toArray, List.getElem?_cons_succ, List.getElem?_cons_zero]; exact rfl) (fun K hK => ?_) AllReadyH.nil)
          go_simp
          go_at_call 52; refine (lay_m _ _ _ D.i0 b 1 M0 _ (HD.out.1.1.1.below (bt KX6.out.1 BWc.out)) Z0 L0 (by decide) bd1 FM0).mono ?_; rintro e w1 ⟨⟨A0, cp0, rfl, hn0, hf0⟩, hb1⟩
          have R0 := hid hn0
          have F0 := hid hf0
          have LY0 := hid (heap_lt KY.out.2.2)
          replace BWc := hid (bt BWc.out hb1)
          replace KY := hid (KY.out.step hb1)
          refine hK.out _ _ (KS.out _ BWc.out) (fun hHeld2 => ?_)
          clear hK K hHeld
          have hHeld := hHeld2
          clear hHeld2
          clear hn0 hf0 hb1
          try simp only [Act.put, List.setIfInBounds_toArray, List.set_cons_zero, List.set_cons_succ]
          refine wpAnyH_take (i := 13) (v := ?_) (by simp only [List.getElem?_toArray, List.getElem?_cons_succ, List.getElem?_cons_zero]; exact rfl) (by kernel_rfl) (by kernel_rfl) (by kernel_rfl) (fun _ _ _ h => h) (Or.inl ⟨by rfl, ?_⟩) (by assumption) ?_
          rotate_left
          · intro w hSw
            try dsimp only at hSw
            go_simp
            try with_reducible rfl
          try simp only [Act.put, List.setIfInBounds_toArray, List.set_cons_zero, List.set_cons_succ]
          refine wpAnyH_ready (rs := [11]) (by kernel_rfl) (by simp) ?_
          refine (AllReadyH.cons (by simp only [List.getElem?_toArray, List.getElem?_cons_succ, List.getElem?_cons_zero]; exact rfl) (fun K hK => ?_) AllReadyH.nil)
          go_simp
          go_at_call 52; refine (lay_m _ _ _ D.o0 b 1 M1 _ (HD.out.1.2.1.below (bt KX6.out.1 BWc.out)) Z1 L1 (by decide) bd2 FM1).mono ?_; rintro e w2 ⟨⟨A1, cp1, rfl, hn1, hf1⟩, hb1⟩
          have R1 := hid hn1
          replace R0 := hid (R0.out.below hb1)
          have F1 := hid hf1
          have LY1 := hid (heap_lt KY.out.2.2)
          replace BWc := hid (bt BWc.out hb1)
          replace KY := hid (KY.out.step hb1)
          refine hK.out _ _ (KS.out _ BWc.out) (fun hHeld2 => ?_)
          clear hK K hHeld
          have hHeld := hHeld2
          clear hHeld2
          clear hn1 hf1 hb1
          have cz := kp_cell (j := 3) (v := .slice d0 d1 d2) KY.out rfl
          have fz := kp_froz KY.out 3
          try simp only [Act.put, List.setIfInBounds_toArray, List.set_cons_zero, List.set_cons_succ]
          refine wpAnyH_ready (rs := [14]) (by kernel_rfl) (by simp) ?_
          refine (AllReadyH.cons (by simp only [List.getElem?_toArray, List.getElem?_cons_succ, List.getElem?_cons_zero]; exact rfl) (fun K hK => ?_) AllReadyH.nil)
          go_simp
          replace BWc : Hid (Below W6.heap.size W6 (w2.setCell ⟨NY, 3, none⟩ (.slice A0 M0.length cp0))) := hid (by have h9 := BWc.out; rw [← HNY.out]; exact h9.setCell (p := ⟨W6.heap.size, 3, none⟩) (Nat.le_refl _) (.slice A0 M0.length cp0))
          have g9 := set_grown w2 NY 3 (.slice A0 M0.length cp0)
          replace R0 := hid (R0.out.apart g9 (fun _ b' o' e => by have := F0.out b' o' e; have := LY0.out; omega))
          replace R1 := hid (R1.out.apart g9 (fun _ b' o' e => by have := F1.out b' o' e; have := LY1.out; omega))
          replace KY : Hid (Kp w (w2.setCell ⟨NY, 3, none⟩ (.slice A0 M0.length cp0)) NY (.cells #[.int .i64 D.n, .int .i64 D.s0, .int .i64 D.s1, .slice A0 M0.length cp0, .slice d3 d4 d5, .slice d6 d7 d8, .slice d9 d10 d11] 68)) := hid (kp_set (j := 3) (v := .slice A0 M0.length cp0) KY.out)
          refine hK.out _ _ (KS.out _ BWc.out) (fun hHeld2 => ?_)
          clear hK K hHeld
          have hHeld := hHeld2
          clear hHeld2
          clear g9 cz fz
          generalize w2.setCell ⟨NY, 3, none⟩ (.slice A0 M0.length cp0) = w3 at BWc R0 R1 KY hHeld ⊢
          have cz := kp_cell (j := 5) (v := .slice d6 d7 d8) KY.out rfl
          have fz := kp_froz KY.out 5
          try simp only [Act.put, List.setIfInBounds_toArray, List.set_cons_zero, List.set_cons_succ]
          refine wpAnyH_take (i := 16) (v := ?_) (by simp only [List.getElem?_toArray, List.getElem?_cons_succ, List.getElem?_cons_zero]; exact rfl) (by kernel_rfl) (by kernel_rfl) (by kernel_rfl) (fun _ _ _ h => h) (Or.inl ⟨by rfl, ?_⟩) (by assumption) ?_
          rotate_left
          · intro w hSw
            try dsimp only at hSw
            go_simp
            try with_reducible rfl
          try simp only [Act.put, List.setIfInBounds_toArray, List.set_cons_zero, List.set_cons_succ]
          refine wpAnyH_ready (rs := [17]) (by kernel_rfl) (by simp) ?_
          refine (AllReadyH.cons (by simp only [List.getElem?_toArray, List.getElem?_cons_succ, List.getElem?_cons_zero]; exact rfl) (fun K hK => ?_) AllReadyH.nil)
          go_simp
          replace BWc : Hid (Below W6.heap.size W6 (w3.setCell ⟨NY, 5, none⟩ (.slice A1 M1.length cp1))) := hid (by have h9 := BWc.out; rw [← HNY.out]; exact h9.setCell (p := ⟨W6.heap.size, 5, none⟩) (Nat.le_refl _) (.slice A1 M1.length cp1))
          have g9 := set_grown w3 NY 5 (.slice A1 M1.length cp1)
          replace R0 := hid (R0.out.apart g9 (fun _ b' o' e => by have := F0.out b' o' e; have := LY0.out; omega))
          replace R1 := hid (R1.out.apart g9 (fun _ b' o' e => by have := F1.out b' o' e; have := LY1.out; omega))
          replace KY : Hid (Kp w (w3.setCell ⟨NY, 5, none⟩ (.slice A1 M1.length cp1)) NY (.cells #[.int .i64 D.n, .int .i64 D.s0, .int .i64 D.s1, .slice A0 M0.length cp0, .slice d3 d4 d5, .slice A1 M1.length cp1, .slice d9 d10 d11] 68)) := hid (kp_set (j := 5) (v := .slice A1 M1.length cp1) KY.out)
          refine hK.out _ _ (KS.out _ BWc.out) (fun hHeld2 => ?_)
          clear hK K hHeld
          have hHeld := hHeld2
          clear hHeld2
          clear g9 cz fz
          generalize w3.setCell ⟨NY, 5, none⟩ (.slice A1 M1.length cp1) = w4 at BWc R0 R1 KY hHeld ⊢
          try simp only [Act.put, List.setIfInBounds_toArray, List.set_cons_zero, List.set_cons_succ]
          refine wpAnyH_done (by kernel_rfl) ?_ _
          refine NoPanic.normal ?_
          try go_wp2_with fail
          have DX := hid (HD.out.1.below (KX6.out.step BWc.out).1)
          go_meet
          exact ⟨⟨D.n, D.s0, D.s1, M0, D.i1, M1, D.o1⟩, A0, M0.length, cp0, d3, d4, d5, A1, M1.length, cp1, d9, d10, d11, rfl, hid (KX6.out.step BWc.out), KY, hid ⟨⟨R0.out, DX.out.1.2⟩, R1.out, DX.out.2.2⟩, hid ⟨HD.out.2.1, ⟨by rw [← FM0.out]; exact lay_nok HB.out GD.out.1.1 HD.out.2.2.1.1, HD.out.2.2.1.2⟩, by rw [← FM1.out]; exact lay_nok HB.out GD.out.1.2.1 HD.out.2.2.2.1, HD.out.2.2.2.2⟩, hid (by rw [← FM0.out, ← FM1.out]; exact dq2 GD.out), hid ⟨⟨by have := lay_len (v := b) (n := 1) (l := D.i0); rw [FM0.out] at this; have := SD.out.1.1; simp only; omega, by have := SD.out.1.2; simp only; omega⟩, by have := lay_len (v := b) (n := 1) (l := D.o0); rw [FM1.out] at this; have := SD.out.2.1; simp only; omega, by have := SD.out.2.2; simp only; omega⟩⟩
        · have HZ := hid HMOD.out
          have z0 : (z == 0) = false := by rw [HZ.out]; rfl
          have z1 : (z == 1) = false := by rw [HZ.out]; rfl
          have z2 : (z == 2) = false := by rw [HZ.out]; rfl
          have z3 : (z == 3) = true := by rw [HZ.out]; rfl
          have lpn : d7 = D.o0.length := by have h1 := dw_len HD.out.1; omega
          have HNN0 := SD.out
          obtain ⟨NN, hNN⟩ : ∃ y, d7 + 1 = y := ⟨_, rfl⟩
          have HNN := hid hNN
          have bdn : d7 ≤ 1000 := by have h2 := SD.out.1; have h3 := SD.out.2; omega
          clear lpn hNN HNN0
          have KS : Hid (∀ y, Below W6.heap.size W6 y → (fun y => Below W6.heap.size W6 y ∧ y.cell? ⟨N0, 5, none⟩ = some (.slice d6 d7 d8) ∧ y.cell? ⟨N1, 1, none⟩ = some (.int .i64 b)) y) := hid (fun y hb => ⟨hb, kp_cell (j := 5) (v := .slice d6 d7 d8) (KX6.out.step hb) rfl, kp_cell (j := 1) (v := .int .i64 b) (KS6.out.step hb) rfl⟩)
          have LY := hid (heap_lt KY.out.2.2)
          have LY7 : Hid (W6.heap.size ≤ W7.heap.size) := hid (by have := LY.out; have := HNY.out; omega)
          have BWc : Hid (Below W6.heap.size W6 W7.drew) := hid (bdrew (by have h9 := B67.out; rw [← HNY.out] at h9; exact h9))
          have BV : Hid (Below W7.heap.size W7 W7.drew) := hid (bdrew (Below.refl _ _))
          go_upto_region 14 with fail
          refine wp_region_noPanic ?_
          refine wp_region_held_drew (S := fun y => Below W6.heap.size W6 y ∧ y.cell? ⟨N0, 5, none⟩ = some (.slice d6 d7 d8) ∧ y.cell? ⟨N1, 1, none⟩ = some (.int .i64 b)) (by kernel_rfl) (KS.out _ BWc.out) (fun hHeld => ?_)
          refine wpAnyH_take (i := 1) (v := ?_) (by simp only [List.getElem?_toArray, List.getElem?_cons_succ, List.getElem?_cons_zero]; exact rfl) (by kernel_rfl) (by kernel_rfl) (by kernel_rfl) (fun _ _ _ h => h) (Or.inl ⟨by rfl, ?_⟩) (by assumption) ?_
          rotate_left
          · intro w hSw
            try dsimp only at hSw
            go_simp
            try with_reducible rfl
          try simp only [Act.put, List.setIfInBounds_toArray, List.set_cons_zero, List.set_cons_succ]
          refine wpAnyH_take (i := 2) (v := ?_) (by simp only [List.getElem?_toArray, List.getElem?_cons_succ, List.getElem?_cons_zero]; exact rfl) (by kernel_rfl) (by kernel_rfl) (by kernel_rfl) (fun _ _ _ h => h) (Or.inl ⟨by rfl, ?_⟩) (by assumption) ?_
          rotate_left
          · intro w hSw
            try dsimp only at hSw
            go_simp
            try with_reducible rfl
          try simp only [Act.put, List.setIfInBounds_toArray, List.set_cons_zero, List.set_cons_succ]
          refine wpAnyH_take (i := 3) (v := ?_) (by simp only [List.getElem?_toArray, List.getElem?_cons_succ, List.getElem?_cons_zero]; exact rfl) (by kernel_rfl) (by kernel_rfl) (by kernel_rfl) (fun _ _ _ h => h) (Or.inl ⟨by rfl, ?_⟩) (by assumption) ?_
          rotate_left
          · intro w hSw
            try dsimp only at hSw
            go_simp
            try with_reducible rfl
          try simp only [Act.put, List.setIfInBounds_toArray, List.set_cons_zero, List.set_cons_succ]
          refine wpAnyH_take (i := 5) (v := ?_) (by simp only [List.getElem?_toArray, List.getElem?_cons_succ, List.getElem?_cons_zero]; exact rfl) (by kernel_rfl) (by kernel_rfl) (by kernel_rfl) (fun _ _ _ h => h) (Or.inl ⟨by rfl, ?_⟩) (by assumption) ?_
          rotate_left
          · intro w hSw
            try dsimp only at hSw
            go_simp
            try with_reducible rfl
          try simp only [Act.put, List.setIfInBounds_toArray, List.set_cons_zero, List.set_cons_succ]
          refine wpAnyH_take (i := 6) (v := ?_) (by simp only [List.getElem?_toArray, List.getElem?_cons_succ, List.getElem?_cons_zero]; exact rfl) (by kernel_rfl) (by kernel_rfl) (by kernel_rfl) (fun _ _ _ h => h) (Or.inl ⟨by rfl, ?_⟩) (by assumption) ?_
          rotate_left
          · intro w hSw
            try dsimp only at hSw
            go_simp
            try with_reducible rfl
          try simp only [Act.put, List.setIfInBounds_toArray, List.set_cons_zero, List.set_cons_succ]
          refine wpAnyH_take (i := 7) (v := ?_) (by simp only [List.getElem?_toArray, List.getElem?_cons_succ, List.getElem?_cons_zero]; exact rfl) (by kernel_rfl) (by kernel_rfl) (by kernel_rfl) (fun _ _ _ h => h) (Or.inl ⟨by rfl, ?_⟩) (by assumption) ?_
          rotate_left
          · intro w hSw
            try dsimp only at hSw
            go_simp
            try with_reducible rfl
          try simp only [Act.put, List.setIfInBounds_toArray, List.set_cons_zero, List.set_cons_succ]
          refine wpAnyH_take (i := 10) (v := ?_) (by simp only [List.getElem?_toArray, List.getElem?_cons_succ, List.getElem?_cons_zero]; exact rfl) (by kernel_rfl) (by kernel_rfl) (by kernel_rfl) (fun _ _ _ h => h) (Or.inl ⟨by rfl, ?_⟩) (by assumption) ?_
          rotate_left
          · intro w hSw
            try dsimp only at hSw
            go_simp
            try with_reducible rfl
          try simp only [Act.put, List.setIfInBounds_toArray, List.set_cons_zero, List.set_cons_succ]
          refine wpAnyH_ready (rs := [0, 8]) (by kernel_rfl) (by simp) ?_
          refine (AllReadyH.cons (by simp only [List.getElem?_toArray, List.getElem?_cons_succ, List.getElem?_cons_zero]; exact rfl) (fun K hK => ?_) (AllReadyH.cons (by simp only [List.getElem?_toArray, List.getElem?_cons_succ, List.getElem?_cons_zero]; exact rfl) (fun K hK => ?_) AllReadyH.nil))
          · go_simp
            replace BWc : Hid (Below W6.heap.size W6 (W7.drew.alloc (.cells #[] 65))) := hid (bt BWc.out (b1alloc _ _))
            replace BV : Hid (Below W7.heap.size W7 (W7.drew.alloc (.cells #[] 65))) := hid (bt BV.out (b1alloc _ _))
            refine hK.out _ _ (KS.out _ BWc.out) (fun hHeld2 => ?_)
            clear hK K hHeld
            have hHeld := hHeld2
            clear hHeld2
            try simp only [Act.put, List.setIfInBounds_toArray, List.set_cons_zero, List.set_cons_succ]
            refine wpAnyH_ready (rs := [4, 8]) (by kernel_rfl) (by simp) ?_
            refine (AllReadyH.cons (by simp only [List.getElem?_toArray, List.getElem?_cons_succ, List.getElem?_cons_zero]; exact rfl) (fun K hK => ?_) (AllReadyH.cons (by simp only [List.getElem?_toArray, List.getElem?_cons_succ, List.getElem?_cons_zero]; exact rfl) (fun K hK => ?_) AllReadyH.nil))
            · refine step_append_ne (W7.drew.alloc (.cells #[] 65)) (by rfl) (.tmp 84) (.tmp 87) (by rfl) W7.heap.size W7.heap.size 0 0 [] (by rfl) (nown_at_d W7.drew W7.heap.size W7.heap.size rfl (Nat.le_refl _)) d6 d7 d8 D.o0 (by rfl) (HD.out.1.2.1.below (bt KX6.out.1 BWc.out)) (by omega) BV.out.size d7 D.o0 (by omega) (by simp) ?_
              intro g8 c8 w8 ho8 hg8
              have O8 := hid ho8
              have b8 := grow_below (base := W7.heap.size) hg8 BV.out.size (fun k hk => by cases hk; first | exact Nat.le_refl _ | omega)
              replace BWc : Hid (Below W6.heap.size W6 w8) := hid (BWc.out.trans (grow_below (base := W6.heap.size) hg8 BWc.out.size (fun k hk => by cases hk; have h9 := LY7.out; first | exact h9 | omega)))
              replace BV : Hid (Below W7.heap.size W7 w8) := hid (BV.out.trans b8)
              refine hK.out _ _ (KS.out _ BWc.out) (fun hHeld2 => ?_)
              clear hK K hHeld
              have hHeld := hHeld2
              clear hHeld2
              clear ho8 hg8 b8
              try simp only [Act.put, List.setIfInBounds_toArray, List.set_cons_zero, List.set_cons_succ]
              refine wpAnyH_ready (rs := [8]) (by kernel_rfl) (by simp) ?_
              refine (AllReadyH.cons (by simp only [List.getElem?_toArray, List.getElem?_cons_succ, List.getElem?_cons_zero]; exact rfl) (fun K hK => ?_) AllReadyH.nil)
              go_simp
              have HRB : Hid (NRun (w8.alloc (.cells #[.int .i64 b, .int .i64 0] 65)) (some ⟨w8.heap.size, 0, none⟩) 1 1 [(b, 0)]) := hid (nrun_1_d (w8) (w8.heap.size) (b) (0) _ (by simp))
              replace BWc : Hid (Below W6.heap.size W6 (w8.alloc (.cells #[.int .i64 b, .int .i64 0] 65))) := hid (bt BWc.out (b1alloc _ _))
              replace BV : Hid (Below W7.heap.size W7 (w8.alloc (.cells #[.int .i64 b, .int .i64 0] 65))) := hid (bt BV.out (b1alloc _ _))
              replace O8 := hid (O8.out.alloc (.cells #[.int .i64 b, .int .i64 0] 65))
              refine hK.out _ _ (KS.out _ BWc.out) (fun hHeld2 => ?_)
              clear hK K hHeld
              have hHeld := hHeld2
              clear hHeld2
              try simp only [Act.put, List.setIfInBounds_toArray, List.set_cons_zero, List.set_cons_succ]
              refine wpAnyH_ready (rs := [9]) (by kernel_rfl) (by simp) ?_
              refine (AllReadyH.cons (by simp only [List.getElem?_toArray, List.getElem?_cons_succ, List.getElem?_cons_zero]; exact rfl) (fun K hK => ?_) AllReadyH.nil)
              refine step_append_ne (w8.alloc (.cells #[.int .i64 b, .int .i64 0] 65)) (by rfl) (.tmp 88) (.tmp 92) (by rfl) W7.heap.size g8 d7 c8 D.o0 (by rfl) O8.out (some ⟨w8.heap.size, 0, none⟩) 1 1 [(b, 0)] (by rfl) HRB.out (by omega) BV.out.size NN (D.o0 ++ [(b, 0)]) HNN.out rfl ?_
              intro g9 c9 w9 ho9 hg9
              have O9 := hid ho9
              have b9 := grow_below (base := W7.heap.size) hg9 BV.out.size (fun k hk => by cases hk; exact (O8.out.lt g8 rfl).1)
              replace BWc : Hid (Below W6.heap.size W6 w9) := hid (BWc.out.trans (grow_below (base := W6.heap.size) hg9 BWc.out.size (fun k hk => by cases hk; have h8 := (O8.out.lt g8 rfl).1; have h9 := LY7.out; omega)))
              replace BV : Hid (Below W7.heap.size W7 w9) := hid (BV.out.trans b9)
              refine hK.out _ _ (KS.out _ BWc.out) (fun hHeld2 => ?_)
              clear hK K hHeld
              have hHeld := hHeld2
              clear hHeld2
              clear ho9 hg9 b9
              replace KY := hid (KY.out.step BV.out)
              have cz := kp_cell (j := 5) (v := .slice d6 d7 d8) KY.out rfl
              have fz := kp_froz KY.out 5
              try simp only [Act.put, List.setIfInBounds_toArray, List.set_cons_zero, List.set_cons_succ]
              refine wpAnyH_take (i := 11) (v := ?_) (by simp only [List.getElem?_toArray, List.getElem?_cons_succ, List.getElem?_cons_zero]; exact rfl) (by kernel_rfl) (by kernel_rfl) (by kernel_rfl) (fun _ _ _ h => h) (Or.inl ⟨by rfl, ?_⟩) (by assumption) ?_
              rotate_left
              · intro w hSw
                try dsimp only at hSw
                go_simp
                try with_reducible rfl
              try simp only [Act.put, List.setIfInBounds_toArray, List.set_cons_zero, List.set_cons_succ]
              refine wpAnyH_ready (rs := [12]) (by kernel_rfl) (by simp) ?_
              refine (AllReadyH.cons (by simp only [List.getElem?_toArray, List.getElem?_cons_succ, List.getElem?_cons_zero]; exact rfl) (fun K hK => ?_) AllReadyH.nil)
              go_simp
              replace BWc : Hid (Below W6.heap.size W6 (w9.setCell ⟨NY, 5, none⟩ (.slice (some ⟨g9, 0, none⟩) NN c9))) := hid (by have h9 := BWc.out; rw [← HNY.out]; exact h9.setCell (p := ⟨W6.heap.size, 5, none⟩) (Nat.le_refl _) (.slice (some ⟨g9, 0, none⟩) NN c9))
              have g7 := set_grown w9 NY 5 (.slice (some ⟨g9, 0, none⟩) NN c9)
              have R9 := hid ((own_nrun (l := D.o0 ++ [(b, 0)]) O9.out).apart g7 (fun _ b' o' e => by cases e; have := (O9.out.lt g9 rfl).1; have := LY.out; omega))
              replace KY : Hid (Kp w (w9.setCell ⟨NY, 5, none⟩ (.slice (some ⟨g9, 0, none⟩) NN c9)) NY (.cells #[.int .i64 D.n, .int .i64 D.s0, .int .i64 D.s1, .slice d0 d1 d2, .slice d3 d4 d5, .slice (some ⟨g9, 0, none⟩) NN c9, .slice d9 d10 d11] 68)) := hid (kp_set (j := 5) (v := .slice (some ⟨g9, 0, none⟩) NN c9) KY.out)
              refine hK.out _ _ (KS.out _ BWc.out) (fun hHeld2 => ?_)
              clear hK K hHeld
              have hHeld := hHeld2
              clear hHeld2
              clear g7 cz fz
              generalize w9.setCell ⟨NY, 5, none⟩ (.slice (some ⟨g9, 0, none⟩) NN c9) = w4 at BWc R9 KY hHeld ⊢
              try simp only [Act.put, List.setIfInBounds_toArray, List.set_cons_zero, List.set_cons_succ]
              refine wpAnyH_done (by kernel_rfl) ?_ _
              refine NoPanic.normal ?_
              try go_wp2_with fail
              have DX := hid (HD.out.1.below (KX6.out.step BWc.out).1)
              go_meet
              exact ⟨⟨D.n, D.s0, D.s1, D.i0, D.i1, D.o0 ++ [(b, 0)], D.o1⟩, d0, d1, d2, d3, d4, d5, (some ⟨g9, 0, none⟩), NN, c9, d9, d10, d11, rfl, hid (KX6.out.step BWc.out), KY, hid ⟨DX.out.1, R9.out, DX.out.2.2⟩, hid ⟨HD.out.2.1, HD.out.2.2.1, (fun r hr => by rcases List.mem_append.1 hr with hr | hr; exact HD.out.2.2.2.1 r hr; simp at hr; subst hr; exact ⟨HB.out, calc.i64_0⟩), HD.out.2.2.2.2⟩, hid dq3, hid ⟨⟨by have := SD.out.1.1; simp only; omega, by have := SD.out.1.2; simp only [List.length_append, List.length_cons, List.length_nil]; omega⟩, by have := SD.out.2.1; simp only [List.length_append, List.length_cons, List.length_nil]; omega, by have := SD.out.2.2; simp only; omega⟩⟩
            · go_simp
              have HRB : Hid (NRun ((W7.drew.alloc (.cells #[] 65)).alloc (.cells #[.int .i64 b, .int .i64 0] 65)) (some ⟨(W7.heap.size + 1), 0, none⟩) 1 1 [(b, 0)]) := hid (nrun_1_d ((W7.drew.alloc (.cells #[] 65))) ((W7.heap.size + 1)) (b) (0) _ (by simp))
              replace BWc : Hid (Below W6.heap.size W6 ((W7.drew.alloc (.cells #[] 65)).alloc (.cells #[.int .i64 b, .int .i64 0] 65))) := hid (bt BWc.out (b1alloc _ _))
              replace BV : Hid (Below W7.heap.size W7 ((W7.drew.alloc (.cells #[] 65)).alloc (.cells #[.int .i64 b, .int .i64 0] 65))) := hid (bt BV.out (b1alloc _ _))
              refine hK.out _ _ (KS.out _ BWc.out) (fun hHeld2 => ?_)
              clear hK K hHeld
              have hHeld := hHeld2
              clear hHeld2
              try simp only [Act.put, List.setIfInBounds_toArray, List.set_cons_zero, List.set_cons_succ]
              refine wpAnyH_ready (rs := [4]) (by kernel_rfl) (by simp) ?_
              refine (AllReadyH.cons (by simp only [List.getElem?_toArray, List.getElem?_cons_succ, List.getElem?_cons_zero]; exact rfl) (fun K hK => ?_) AllReadyH.nil)
              refine step_append_ne ((W7.drew.alloc (.cells #[] 65)).alloc (.cells #[.int .i64 b, .int .i64 0] 65)) (by rfl) (.tmp 84) (.tmp 87) (by rfl) W7.heap.size W7.heap.size 0 0 [] (by rfl) ((nown_at_d W7.drew W7.heap.size W7.heap.size rfl (Nat.le_refl _)).alloc _) d6 d7 d8 D.o0 (by rfl) (HD.out.1.2.1.below (bt KX6.out.1 BWc.out)) (by omega) BV.out.size d7 D.o0 (by omega) (by simp) ?_
              intro g8 c8 w8 ho8 hg8
              have O8 := hid ho8
              have b8 := grow_below (base := W7.heap.size) hg8 BV.out.size (fun k hk => by cases hk; first | exact Nat.le_refl _ | omega)
              replace BWc : Hid (Below W6.heap.size W6 w8) := hid (BWc.out.trans (grow_below (base := W6.heap.size) hg8 BWc.out.size (fun k hk => by cases hk; have h9 := LY7.out; first | exact h9 | omega)))
              replace BV : Hid (Below W7.heap.size W7 w8) := hid (BV.out.trans b8)
              refine hK.out _ _ (KS.out _ BWc.out) (fun hHeld2 => ?_)
              clear hK K hHeld
              have hHeld := hHeld2
              clear hHeld2
              replace HRB := hid (HRB.out.apart hg8 (fun _ b' o' e => by cases e; omega))
              clear ho8 hg8 b8
              try simp only [Act.put, List.setIfInBounds_toArray, List.set_cons_zero, List.set_cons_succ]
              refine wpAnyH_ready (rs := [9]) (by kernel_rfl) (by simp) ?_
              refine (AllReadyH.cons (by simp only [List.getElem?_toArray, List.getElem?_cons_succ, List.getElem?_cons_zero]; exact rfl) (fun K hK => ?_) AllReadyH.nil)
              refine step_append_ne w8 (by rfl) (.tmp 88) (.tmp 92) (by rfl) W7.heap.size g8 d7 c8 D.o0 (by rfl) O8.out (some ⟨(W7.heap.size + 1), 0, none⟩) 1 1 [(b, 0)] (by rfl) HRB.out (by omega) BV.out.size NN (D.o0 ++ [(b, 0)]) HNN.out rfl ?_
              intro g9 c9 w9 ho9 hg9
              have O9 := hid ho9
              have b9 := grow_below (base := W7.heap.size) hg9 BV.out.size (fun k hk => by cases hk; exact (O8.out.lt g8 rfl).1)
              replace BWc : Hid (Below W6.heap.size W6 w9) := hid (BWc.out.trans (grow_below (base := W6.heap.size) hg9 BWc.out.size (fun k hk => by cases hk; have h8 := (O8.out.lt g8 rfl).1; have h9 := LY7.out; omega)))
              replace BV : Hid (Below W7.heap.size W7 w9) := hid (BV.out.trans b9)
              refine hK.out _ _ (KS.out _ BWc.out) (fun hHeld2 => ?_)
              clear hK K hHeld
              have hHeld := hHeld2
              clear hHeld2
              clear ho9 hg9 b9
              replace KY := hid (KY.out.step BV.out)
              have cz := kp_cell (j := 5) (v := .slice d6 d7 d8) KY.out rfl
              have fz := kp_froz KY.out 5
              try simp only [Act.put, List.setIfInBounds_toArray, List.set_cons_zero, List.set_cons_succ]
              refine wpAnyH_take (i := 11) (v := ?_) (by simp only [List.getElem?_toArray, List.getElem?_cons_succ, List.getElem?_cons_zero]; exact rfl) (by kernel_rfl) (by kernel_rfl) (by kernel_rfl) (fun _ _ _ h => h) (Or.inl ⟨by rfl, ?_⟩) (by assumption) ?_
              rotate_left
              · intro w hSw
                try dsimp only at hSw
                go_simp
                try with_reducible rfl
              try simp only [Act.put, List.setIfInBounds_toArray, List.set_cons_zero, List.set_cons_succ]
              refine wpAnyH_ready (rs := [12]) (by kernel_rfl) (by simp) ?_
              refine (AllReadyH.cons (by simp only [List.getElem?_toArray, List.getElem?_cons_succ, List.getElem?_cons_zero]; exact rfl) (fun K hK => ?_) AllReadyH.nil)
              go_simp
              replace BWc : Hid (Below W6.heap.size W6 (w9.setCell ⟨NY, 5, none⟩ (.slice (some ⟨g9, 0, none⟩) NN c9))) := hid (by have h9 := BWc.out; rw [← HNY.out]; exact h9.setCell (p := ⟨W6.heap.size, 5, none⟩) (Nat.le_refl _) (.slice (some ⟨g9, 0, none⟩) NN c9))
              have g7 := set_grown w9 NY 5 (.slice (some ⟨g9, 0, none⟩) NN c9)
              have R9 := hid ((own_nrun (l := D.o0 ++ [(b, 0)]) O9.out).apart g7 (fun _ b' o' e => by cases e; have := (O9.out.lt g9 rfl).1; have := LY.out; omega))
              replace KY : Hid (Kp w (w9.setCell ⟨NY, 5, none⟩ (.slice (some ⟨g9, 0, none⟩) NN c9)) NY (.cells #[.int .i64 D.n, .int .i64 D.s0, .int .i64 D.s1, .slice d0 d1 d2, .slice d3 d4 d5, .slice (some ⟨g9, 0, none⟩) NN c9, .slice d9 d10 d11] 68)) := hid (kp_set (j := 5) (v := .slice (some ⟨g9, 0, none⟩) NN c9) KY.out)
              refine hK.out _ _ (KS.out _ BWc.out) (fun hHeld2 => ?_)
              clear hK K hHeld
              have hHeld := hHeld2
              clear hHeld2
              clear g7 cz fz
              generalize w9.setCell ⟨NY, 5, none⟩ (.slice (some ⟨g9, 0, none⟩) NN c9) = w4 at BWc R9 KY hHeld ⊢
              try simp only [Act.put, List.setIfInBounds_toArray, List.set_cons_zero, List.set_cons_succ]
              refine wpAnyH_done (by kernel_rfl) ?_ _
              refine NoPanic.normal ?_
              try go_wp2_with fail
              have DX := hid (HD.out.1.below (KX6.out.step BWc.out).1)
              go_meet
              exact ⟨⟨D.n, D.s0, D.s1, D.i0, D.i1, D.o0 ++ [(b, 0)], D.o1⟩, d0, d1, d2, d3, d4, d5, (some ⟨g9, 0, none⟩), NN, c9, d9, d10, d11, rfl, hid (KX6.out.step BWc.out), KY, hid ⟨DX.out.1, R9.out, DX.out.2.2⟩, hid ⟨HD.out.2.1, HD.out.2.2.1, (fun r hr => by rcases List.mem_append.1 hr with hr | hr; exact HD.out.2.2.2.1 r hr; simp at hr; subst hr; exact ⟨HB.out, calc.i64_0⟩), HD.out.2.2.2.2⟩, hid dq3, hid ⟨⟨by have := SD.out.1.1; simp only; omega, by have := SD.out.1.2; simp only [List.length_append, List.length_cons, List.length_nil]; omega⟩, by have := SD.out.2.1; simp only [List.length_append, List.length_cons, List.length_nil]; omega, by have := SD.out.2.2; simp only; omega⟩⟩
          · go_simp
            have HRB : Hid (NRun (W7.drew.alloc (.cells #[.int .i64 b, .int .i64 0] 65)) (some ⟨W7.heap.size, 0, none⟩) 1 1 [(b, 0)]) := hid (nrun_1_d (W7.drew) (W7.heap.size) (b) (0) _ (by simp))
            replace BWc : Hid (Below W6.heap.size W6 (W7.drew.alloc (.cells #[.int .i64 b, .int .i64 0] 65))) := hid (bt BWc.out (b1alloc _ _))
            replace BV : Hid (Below W7.heap.size W7 (W7.drew.alloc (.cells #[.int .i64 b, .int .i64 0] 65))) := hid (bt BV.out (b1alloc _ _))
            refine hK.out _ _ (KS.out _ BWc.out) (fun hHeld2 => ?_)
            clear hK K hHeld
            have hHeld := hHeld2
            clear hHeld2
            try simp only [Act.put, List.setIfInBounds_toArray, List.set_cons_zero, List.set_cons_succ]
            refine wpAnyH_ready (rs := [0]) (by kernel_rfl) (by simp) ?_
            refine (AllReadyH.cons (by simp only [List.getElem?_toArray, List.getElem?_cons_succ, List.getElem?_cons_zero]; exact rfl) (fun K hK => ?_) AllReadyH.nil)
            go_simp
            replace HRB := hid (HRB.out.below (b1alloc _ (.cells #[] 65)))
            replace BWc : Hid (Below W6.heap.size W6 ((W7.drew.alloc (.cells #[.int .i64 b, .int .i64 0] 65)).alloc (.cells #[] 65))) := hid (bt BWc.out (b1alloc _ _))
            replace BV : Hid (Below W7.heap.size W7 ((W7.drew.alloc (.cells #[.int .i64 b, .int .i64 0] 65)).alloc (.cells #[] 65))) := hid (bt BV.out (b1alloc _ _))
            refine hK.out _ _ (KS.out _ BWc.out) (fun hHeld2 => ?_)
            clear hK K hHeld
            have hHeld := hHeld2
            clear hHeld2
            try simp only [Act.put, List.setIfInBounds_toArray, List.set_cons_zero, List.set_cons_succ]
            refine wpAnyH_ready (rs := [4]) (by kernel_rfl) (by simp) ?_
            refine (AllReadyH.cons (by simp only [List.getElem?_toArray, List.getElem?_cons_succ, List.getElem?_cons_zero]; exact rfl) (fun K hK => ?_) AllReadyH.nil)
            refine step_append_ne ((W7.drew.alloc (.cells #[.int .i64 b, .int .i64 0] 65)).alloc (.cells #[] 65)) (by rfl) (.tmp 84) (.tmp 87) (by rfl) W7.heap.size (W7.heap.size + 1) 0 0 [] (by rfl) (nown_at_d (W7.drew.alloc (.cells #[.int .i64 b, .int .i64 0] 65)) W7.heap.size (W7.heap.size + 1) (by simp) (by simp)) d6 d7 d8 D.o0 (by rfl) (HD.out.1.2.1.below (bt KX6.out.1 BWc.out)) (by omega) BV.out.size d7 D.o0 (by omega) (by simp) ?_
            intro g8 c8 w8 ho8 hg8
            have O8 := hid ho8
            have b8 := grow_below (base := W7.heap.size) hg8 BV.out.size (fun k hk => by cases hk; first | exact Nat.le_refl _ | omega)
            replace BWc : Hid (Below W6.heap.size W6 w8) := hid (BWc.out.trans (grow_below (base := W6.heap.size) hg8 BWc.out.size (fun k hk => by cases hk; have h9 := LY7.out; first | exact h9 | omega)))
            replace BV : Hid (Below W7.heap.size W7 w8) := hid (BV.out.trans b8)
            refine hK.out _ _ (KS.out _ BWc.out) (fun hHeld2 => ?_)
            clear hK K hHeld
            have hHeld := hHeld2
            clear hHeld2
            replace HRB := hid (HRB.out.apart hg8 (fun _ b' o' e => by cases e; omega))
            clear ho8 hg8 b8
            try simp only [Act.put, List.setIfInBounds_toArray, List.set_cons_zero, List.set_cons_succ]
            refine wpAnyH_ready (rs := [9]) (by kernel_rfl) (by simp) ?_
            refine (AllReadyH.cons (by simp only [List.getElem?_toArray, List.getElem?_cons_succ, List.getElem?_cons_zero]; exact rfl) (fun K hK => ?_) AllReadyH.nil)
            refine step_append_ne w8 (by rfl) (.tmp 88) (.tmp 92) (by rfl) W7.heap.size g8 d7 c8 D.o0 (by rfl) O8.out (some ⟨W7.heap.size, 0, none⟩) 1 1 [(b, 0)] (by rfl) HRB.out (by omega) BV.out.size NN (D.o0 ++ [(b, 0)]) HNN.out rfl ?_
            intro g9 c9 w9 ho9 hg9
            have O9 := hid ho9
            have b9 := grow_below (base := W7.heap.size) hg9 BV.out.size (fun k hk => by cases hk; exact (O8.out.lt g8 rfl).1)
            replace BWc : Hid (Below W6.heap.size W6 w9) := hid (BWc.out.trans (grow_below (base := W6.heap.size) hg9 BWc.out.size (fun k hk => by cases hk; have h8 := (O8.out.lt g8 rfl).1; have h9 := LY7.out; omega)))
            replace BV : Hid (Below W7.heap.size W7 w9) := hid (BV.out.trans b9)
            refine hK.out _ _ (KS.out _ BWc.out) (fun hHeld2 => ?_)
            clear hK K hHeld
            have hHeld := hHeld2
            clear hHeld2
            clear ho9 hg9 b9
            replace KY := hid (KY.out.step BV.out)
            have cz := kp_cell (j := 5) (v := .slice d6 d7 d8) KY.out rfl
            have fz := kp_froz KY.out 5
            try simp only [Act.put, List.setIfInBounds_toArray, List.set_cons_zero, List.set_cons_succ]
            refine wpAnyH_take (i := 11) (v := ?_) (by simp only [List.getElem?_toArray, List.getElem?_cons_succ, List.getElem?_cons_zero]; exact rfl) (by kernel_rfl) (by kernel_rfl) (by kernel_rfl) (fun _ _ _ h => h) (Or.inl ⟨by rfl, ?_⟩) (by assumption) ?_
            rotate_left
            · intro w hSw
              try dsimp only at hSw
              go_simp
              try with_reducible rfl
            try simp only [Act.put, List.setIfInBounds_toArray, List.set_cons_zero, List.set_cons_succ]
            refine wpAnyH_ready (rs := [12]) (by kernel_rfl) (by simp) ?_
            refine (AllReadyH.cons (by simp only [List.getElem?_toArray, List.getElem?_cons_succ, List.getElem?_cons_zero]; exact rfl) (fun K hK => ?_) AllReadyH.nil)
            go_simp
            replace BWc : Hid (Below W6.heap.size W6 (w9.setCell ⟨NY, 5, none⟩ (.slice (some ⟨g9, 0, none⟩) NN c9))) := hid (by have h9 := BWc.out; rw [← HNY.out]; exact h9.setCell (p := ⟨W6.heap.size, 5, none⟩) (Nat.le_refl _) (.slice (some ⟨g9, 0, none⟩) NN c9))
            have g7 := set_grown w9 NY 5 (.slice (some ⟨g9, 0, none⟩) NN c9)
            have R9 := hid ((own_nrun (l := D.o0 ++ [(b, 0)]) O9.out).apart g7 (fun _ b' o' e => by cases e; have := (O9.out.lt g9 rfl).1; have := LY.out; omega))
            replace KY : Hid (Kp w (w9.setCell ⟨NY, 5, none⟩ (.slice (some ⟨g9, 0, none⟩) NN c9)) NY (.cells #[.int .i64 D.n, .int .i64 D.s0, .int .i64 D.s1, .slice d0 d1 d2, .slice d3 d4 d5, .slice (some ⟨g9, 0, none⟩) NN c9, .slice d9 d10 d11] 68)) := hid (kp_set (j := 5) (v := .slice (some ⟨g9, 0, none⟩) NN c9) KY.out)
            refine hK.out _ _ (KS.out _ BWc.out) (fun hHeld2 => ?_)
            clear hK K hHeld
            have hHeld := hHeld2
            clear hHeld2
            clear g7 cz fz
            generalize w9.setCell ⟨NY, 5, none⟩ (.slice (some ⟨g9, 0, none⟩) NN c9) = w4 at BWc R9 KY hHeld ⊢
            try simp only [Act.put, List.setIfInBounds_toArray, List.set_cons_zero, List.set_cons_succ]
            refine wpAnyH_done (by kernel_rfl) ?_ _
            refine NoPanic.normal ?_
            try go_wp2_with fail
            have DX := hid (HD.out.1.below (KX6.out.step BWc.out).1)
            go_meet
            exact ⟨⟨D.n, D.s0, D.s1, D.i0, D.i1, D.o0 ++ [(b, 0)], D.o1⟩, d0, d1, d2, d3, d4, d5, (some ⟨g9, 0, none⟩), NN, c9, d9, d10, d11, rfl, hid (KX6.out.step BWc.out), KY, hid ⟨DX.out.1, R9.out, DX.out.2.2⟩, hid ⟨HD.out.2.1, HD.out.2.2.1, (fun r hr => by rcases List.mem_append.1 hr with hr | hr; exact HD.out.2.2.2.1 r hr; simp at hr; subst hr; exact ⟨HB.out, calc.i64_0⟩), HD.out.2.2.2.2⟩, hid dq3, hid ⟨⟨by have := SD.out.1.1; simp only; omega, by have := SD.out.1.2; simp only [List.length_append, List.length_cons, List.length_nil]; omega⟩, by have := SD.out.2.1; simp only [List.length_append, List.length_cons, List.length_nil]; omega, by have := SD.out.2.2; simp only; omega⟩⟩
        · have HZ := hid HMOD.out
          have z0 : (z == 0) = false := by rw [HZ.out]; rfl
          have z1 : (z == 1) = false := by rw [HZ.out]; rfl
          have z2 : (z == 2) = false := by rw [HZ.out]; rfl
          have z3 : (z == 3) = false := by rw [HZ.out]; rfl
          have lpn : d4 = D.i1.length := by have h1 := dw_len HD.out.1; omega
          have HNN0 := SD.out
          obtain ⟨NN, hNN⟩ : ∃ y, d4 + 2 = y := ⟨_, rfl⟩
          have HNN := hid hNN
          have bdn : d4 ≤ 1000 := by have h2 := SD.out.1; have h3 := SD.out.2; omega
          clear lpn hNN HNN0
          have KS : Hid (∀ y, Below W6.heap.size W6 y → (fun y => Below W6.heap.size W6 y ∧ y.cell? ⟨N0, 4, none⟩ = some (.slice d3 d4 d5) ∧ y.cell? ⟨N1, 1, none⟩ = some (.int .i64 b)) y) := hid (fun y hb => ⟨hb, kp_cell (j := 4) (v := .slice d3 d4 d5) (KX6.out.step hb) rfl, kp_cell (j := 1) (v := .int .i64 b) (KS6.out.step hb) rfl⟩)
          have LY := hid (heap_lt KY.out.2.2)
          have LY7 : Hid (W6.heap.size ≤ W7.heap.size) := hid (by have := LY.out; have := HNY.out; omega)
          have BWc : Hid (Below W6.heap.size W6 W7.drew) := hid (bdrew (by have h9 := B67.out; rw [← HNY.out] at h9; exact h9))
          have BV : Hid (Below W7.heap.size W7 W7.drew) := hid (bdrew (Below.refl _ _))
          go_upto_region 6 with fail
          refine wp_region_noPanic ?_
          refine wp_region_held_drew (S := fun y => Below W6.heap.size W6 y ∧ y.cell? ⟨N0, 4, none⟩ = some (.slice d3 d4 d5) ∧ y.cell? ⟨N1, 1, none⟩ = some (.int .i64 b)) (by kernel_rfl) (KS.out _ BWc.out) (fun hHeld => ?_)
          refine wpAnyH_take (i := 1) (v := ?_) (by simp only [List.getElem?_toArray, List.getElem?_cons_succ, List.getElem?_cons_zero]; exact rfl) (by kernel_rfl) (by kernel_rfl) (by kernel_rfl) (fun _ _ _ h => h) (Or.inl ⟨by rfl, ?_⟩) (by assumption) ?_
          rotate_left
          · intro w hSw
            try dsimp only at hSw
            go_simp
            try with_reducible rfl
          try simp only [Act.put, List.setIfInBounds_toArray, List.set_cons_zero, List.set_cons_succ]
          refine wpAnyH_take (i := 2) (v := ?_) (by simp only [List.getElem?_toArray, List.getElem?_cons_succ, List.getElem?_cons_zero]; exact rfl) (by kernel_rfl) (by kernel_rfl) (by kernel_rfl) (fun _ _ _ h => h) (Or.inl ⟨by rfl, ?_⟩) (by assumption) ?_
          rotate_left
          · intro w hSw
            try dsimp only at hSw
            go_simp
            try with_reducible rfl
          try simp only [Act.put, List.setIfInBounds_toArray, List.set_cons_zero, List.set_cons_succ]
          refine wpAnyH_take (i := 3) (v := ?_) (by simp only [List.getElem?_toArray, List.getElem?_cons_succ, List.getElem?_cons_zero]; exact rfl) (by kernel_rfl) (by kernel_rfl) (by kernel_rfl) (fun _ _ _ h => h) (Or.inl ⟨by rfl, ?_⟩) (by assumption) ?_
          rotate_left
          · intro w hSw
            try dsimp only at hSw
            go_simp
            try with_reducible rfl
          try simp only [Act.put, List.setIfInBounds_toArray, List.set_cons_zero, List.set_cons_succ]
          refine wpAnyH_take (i := 5) (v := ?_) (by simp only [List.getElem?_toArray, List.getElem?_cons_succ, List.getElem?_cons_zero]; exact rfl) (by kernel_rfl) (by kernel_rfl) (by kernel_rfl) (fun _ _ _ h => h) (Or.inl ⟨by rfl, ?_⟩) (by assumption) ?_
          rotate_left
          · intro w hSw
            try dsimp only at hSw
            go_simp
            try with_reducible rfl
          try simp only [Act.put, List.setIfInBounds_toArray, List.set_cons_zero, List.set_cons_succ]
          refine wpAnyH_take (i := 6) (v := ?_) (by simp only [List.getElem?_toArray, List.getElem?_cons_succ, List.getElem?_cons_zero]; exact rfl) (by kernel_rfl) (by kernel_rfl) (by kernel_rfl) (fun _ _ _ h => h) (Or.inl ⟨by rfl, ?_⟩) (by assumption) ?_
          rotate_left
          · intro w hSw
            try dsimp only at hSw
            go_simp
            try with_reducible rfl
          try simp only [Act.put, List.setIfInBounds_toArray, List.set_cons_zero, List.set_cons_succ]
          refine wpAnyH_take (i := 7) (v := ?_) (by simp only [List.getElem?_toArray, List.getElem?_cons_succ, List.getElem?_cons_zero]; exact rfl) (by kernel_rfl) (by kernel_rfl) (by kernel_rfl) (fun _ _ _ h => h) (Or.inl ⟨by rfl, ?_⟩) (by assumption) ?_
          rotate_left
          · intro w hSw
            try dsimp only at hSw
            go_simp
            try with_reducible rfl
          try simp only [Act.put, List.setIfInBounds_toArray, List.set_cons_zero, List.set_cons_succ]
          refine wpAnyH_take (i := 8) (v := ?_) (by simp only [List.getElem?_toArray, List.getElem?_cons_succ, List.getElem?_cons_zero]; exact rfl) (by kernel_rfl) (by kernel_rfl) (by kernel_rfl) (fun _ _ _ h => h) (Or.inl ⟨by rfl, ?_⟩) (by assumption) ?_
          rotate_left
          · intro w hSw
            try dsimp only at hSw
            go_simp
            try with_reducible rfl
          try simp only [Act.put, List.setIfInBounds_toArray, List.set_cons_zero, List.set_cons_succ]
          refine wpAnyH_take (i := 9) (v := ?_) (by simp only [List.getElem?_toArray, List.getElem?_cons_succ, List.getElem?_cons_zero]; exact rfl) (by kernel_rfl) (by kernel_rfl) (by kernel_rfl) (fun _ _ _ h => h) (Or.inl ⟨by rfl, ?_⟩) (by assumption) ?_
          rotate_left
          · intro w hSw
            try dsimp only at hSw
            go_simp
            try with_reducible rfl
          try simp only [Act.put, List.setIfInBounds_toArray, List.set_cons_zero, List.set_cons_succ]
          refine wpAnyH_take (i := 10) (v := ?_) (by simp only [List.getElem?_toArray, List.getElem?_cons_succ, List.getElem?_cons_zero]; exact rfl) (by kernel_rfl) (by kernel_rfl) (by kernel_rfl) (fun _ _ _ h => h) (Or.inl ⟨by rfl, ?_⟩) (by assumption) ?_
          rotate_left
          · intro w hSw
            try dsimp only at hSw
            go_simp
            try with_reducible rfl
          try simp only [Act.put, List.setIfInBounds_toArray, List.set_cons_zero, List.set_cons_succ]
          refine wpAnyH_take (i := 13) (v := ?_) (by simp only [List.getElem?_toArray, List.getElem?_cons_succ, List.getElem?_cons_zero]; exact rfl) (by kernel_rfl) (by kernel_rfl) (by kernel_rfl) (fun _ _ _ h => h) (Or.inl ⟨by rfl, ?_⟩) (by assumption) ?_
          rotate_left
          · intro w hSw
            try dsimp only at hSw
            go_simp
            try with_reducible rfl
          try simp only [Act.put, List.setIfInBounds_toArray, List.set_cons_zero, List.set_cons_succ]
          refine wpAnyH_ready (rs := [0, 11]) (by kernel_rfl) (by simp) ?_
          refine (AllReadyH.cons (by simp only [List.getElem?_toArray, List.getElem?_cons_succ, List.getElem?_cons_zero]; exact rfl) (fun K hK => ?_) (AllReadyH.cons (by simp only [List.getElem?_toArray, List.getElem?_cons_succ, List.getElem?_cons_zero]; exact rfl) (fun K hK => ?_) AllReadyH.nil))
          · go_simp
            replace BWc : Hid (Below W6.heap.size W6 (W7.drew.alloc (.cells #[] 65))) := hid (bt BWc.out (b1alloc _ _))
            replace BV : Hid (Below W7.heap.size W7 (W7.drew.alloc (.cells #[] 65))) := hid (bt BV.out (b1alloc _ _))
            refine hK.out _ _ (KS.out _ BWc.out) (fun hHeld2 => ?_)
            clear hK K hHeld
            have hHeld := hHeld2
            clear hHeld2
            try simp only [Act.put, List.setIfInBounds_toArray, List.set_cons_zero, List.set_cons_succ]
            refine wpAnyH_ready (rs := [4, 11]) (by kernel_rfl) (by simp) ?_
            refine (AllReadyH.cons (by simp only [List.getElem?_toArray, List.getElem?_cons_succ, List.getElem?_cons_zero]; exact rfl) (fun K hK => ?_) (AllReadyH.cons (by simp only [List.getElem?_toArray, List.getElem?_cons_succ, List.getElem?_cons_zero]; exact rfl) (fun K hK => ?_) AllReadyH.nil))
            · refine step_append_ne (W7.drew.alloc (.cells #[] 65)) (by rfl) (.tmp 32) (.tmp 35) (by rfl) W7.heap.size W7.heap.size 0 0 [] (by rfl) (nown_at_d W7.drew W7.heap.size W7.heap.size rfl (Nat.le_refl _)) d3 d4 d5 D.i1 (by rfl) (HD.out.1.1.2.below (bt KX6.out.1 BWc.out)) (by omega) BV.out.size d4 D.i1 (by omega) (by simp) ?_
              intro g8 c8 w8 ho8 hg8
              have O8 := hid ho8
              have b8 := grow_below (base := W7.heap.size) hg8 BV.out.size (fun k hk => by cases hk; first | exact Nat.le_refl _ | omega)
              replace BWc : Hid (Below W6.heap.size W6 w8) := hid (BWc.out.trans (grow_below (base := W6.heap.size) hg8 BWc.out.size (fun k hk => by cases hk; have h9 := LY7.out; first | exact h9 | omega)))
              replace BV : Hid (Below W7.heap.size W7 w8) := hid (BV.out.trans b8)
              refine hK.out _ _ (KS.out _ BWc.out) (fun hHeld2 => ?_)
              clear hK K hHeld
              have hHeld := hHeld2
              clear hHeld2
              clear ho8 hg8 b8
              try simp only [Act.put, List.setIfInBounds_toArray, List.set_cons_zero, List.set_cons_succ]
              refine wpAnyH_ready (rs := [11]) (by kernel_rfl) (by simp) ?_
              refine (AllReadyH.cons (by simp only [List.getElem?_toArray, List.getElem?_cons_succ, List.getElem?_cons_zero]; exact rfl) (fun K hK => ?_) AllReadyH.nil)
              go_simp
              have HRB : Hid (NRun (w8.alloc (.cells #[.int .i64 b, .int .i64 1, .int .i64 b, .int .i64 1] 65)) (some ⟨w8.heap.size, 0, none⟩) 2 2 [(b, 1), (b, 1)]) := hid (nrun_2_d (w8) (w8.heap.size) (b) (1) (b) (1) _ (by simp))
              replace BWc : Hid (Below W6.heap.size W6 (w8.alloc (.cells #[.int .i64 b, .int .i64 1, .int .i64 b, .int .i64 1] 65))) := hid (bt BWc.out (b1alloc _ _))
              replace BV : Hid (Below W7.heap.size W7 (w8.alloc (.cells #[.int .i64 b, .int .i64 1, .int .i64 b, .int .i64 1] 65))) := hid (bt BV.out (b1alloc _ _))
              replace O8 := hid (O8.out.alloc (.cells #[.int .i64 b, .int .i64 1, .int .i64 b, .int .i64 1] 65))
              refine hK.out _ _ (KS.out _ BWc.out) (fun hHeld2 => ?_)
              clear hK K hHeld
              have hHeld := hHeld2
              clear hHeld2
              try simp only [Act.put, List.setIfInBounds_toArray, List.set_cons_zero, List.set_cons_succ]
              refine wpAnyH_ready (rs := [12]) (by kernel_rfl) (by simp) ?_
              refine (AllReadyH.cons (by simp only [List.getElem?_toArray, List.getElem?_cons_succ, List.getElem?_cons_zero]; exact rfl) (fun K hK => ?_) AllReadyH.nil)
              refine step_append_ne (w8.alloc (.cells #[.int .i64 b, .int .i64 1, .int .i64 b, .int .i64 1] 65)) (by rfl) (.tmp 36) (.tmp 43) (by rfl) W7.heap.size g8 d4 c8 D.i1 (by rfl) O8.out (some ⟨w8.heap.size, 0, none⟩) 2 2 [(b, 1), (b, 1)] (by rfl) HRB.out (by omega) BV.out.size NN (D.i1 ++ [(b, 1), (b, 1)]) HNN.out rfl ?_
              intro g9 c9 w9 ho9 hg9
              have O9 := hid ho9
              have b9 := grow_below (base := W7.heap.size) hg9 BV.out.size (fun k hk => by cases hk; exact (O8.out.lt g8 rfl).1)
              replace BWc : Hid (Below W6.heap.size W6 w9) := hid (BWc.out.trans (grow_below (base := W6.heap.size) hg9 BWc.out.size (fun k hk => by cases hk; have h8 := (O8.out.lt g8 rfl).1; have h9 := LY7.out; omega)))
              replace BV : Hid (Below W7.heap.size W7 w9) := hid (BV.out.trans b9)
              refine hK.out _ _ (KS.out _ BWc.out) (fun hHeld2 => ?_)
              clear hK K hHeld
              have hHeld := hHeld2
              clear hHeld2
              clear ho9 hg9 b9
              replace KY := hid (KY.out.step BV.out)
              have cz := kp_cell (j := 4) (v := .slice d3 d4 d5) KY.out rfl
              have fz := kp_froz KY.out 4
              try simp only [Act.put, List.setIfInBounds_toArray, List.set_cons_zero, List.set_cons_succ]
              refine wpAnyH_take (i := 14) (v := ?_) (by simp only [List.getElem?_toArray, List.getElem?_cons_succ, List.getElem?_cons_zero]; exact rfl) (by kernel_rfl) (by kernel_rfl) (by kernel_rfl) (fun _ _ _ h => h) (Or.inl ⟨by rfl, ?_⟩) (by assumption) ?_
              rotate_left
              · intro w hSw
                try dsimp only at hSw
                go_simp
                try with_reducible rfl
              try simp only [Act.put, List.setIfInBounds_toArray, List.set_cons_zero, List.set_cons_succ]
              refine wpAnyH_ready (rs := [15]) (by kernel_rfl) (by simp) ?_
              refine (AllReadyH.cons (by simp only [List.getElem?_toArray, List.getElem?_cons_succ, List.getElem?_cons_zero]; exact rfl) (fun K hK => ?_) AllReadyH.nil)
              go_simp
              replace BWc : Hid (Below W6.heap.size W6 (w9.setCell ⟨NY, 4, none⟩ (.slice (some ⟨g9, 0, none⟩) NN c9))) := hid (by have h9 := BWc.out; rw [← HNY.out]; exact h9.setCell (p := ⟨W6.heap.size, 4, none⟩) (Nat.le_refl _) (.slice (some ⟨g9, 0, none⟩) NN c9))
              have g7 := set_grown w9 NY 4 (.slice (some ⟨g9, 0, none⟩) NN c9)
              have R9 := hid ((own_nrun (l := D.i1 ++ [(b, 1), (b, 1)]) O9.out).apart g7 (fun _ b' o' e => by cases e; have := (O9.out.lt g9 rfl).1; have := LY.out; omega))
              replace KY : Hid (Kp w (w9.setCell ⟨NY, 4, none⟩ (.slice (some ⟨g9, 0, none⟩) NN c9)) NY (.cells #[.int .i64 D.n, .int .i64 D.s0, .int .i64 D.s1, .slice d0 d1 d2, .slice (some ⟨g9, 0, none⟩) NN c9, .slice d6 d7 d8, .slice d9 d10 d11] 68)) := hid (kp_set (j := 4) (v := .slice (some ⟨g9, 0, none⟩) NN c9) KY.out)
              refine hK.out _ _ (KS.out _ BWc.out) (fun hHeld2 => ?_)
              clear hK K hHeld
              have hHeld := hHeld2
              clear hHeld2
              clear g7 cz fz
              generalize w9.setCell ⟨NY, 4, none⟩ (.slice (some ⟨g9, 0, none⟩) NN c9) = w4 at BWc R9 KY hHeld ⊢
              try simp only [Act.put, List.setIfInBounds_toArray, List.set_cons_zero, List.set_cons_succ]
              refine wpAnyH_done (by kernel_rfl) ?_ _
              refine NoPanic.normal ?_
              try go_wp2_with fail
              have DX := hid (HD.out.1.below (KX6.out.step BWc.out).1)
              go_meet
              exact ⟨⟨D.n, D.s0, D.s1, D.i0, D.i1 ++ [(b, 1), (b, 1)], D.o0, D.o1⟩, d0, d1, d2, (some ⟨g9, 0, none⟩), NN, c9, d6, d7, d8, d9, d10, d11, rfl, hid (KX6.out.step BWc.out), KY, hid ⟨⟨DX.out.1.1, R9.out⟩, DX.out.2⟩, hid ⟨HD.out.2.1, ⟨HD.out.2.2.1.1, (fun r hr => by rcases List.mem_append.1 hr with hr | hr; exact HD.out.2.2.1.2 r hr; simp at hr; subst hr; exact ⟨HB.out, by show I64 1; unfold I64; decide⟩)⟩, HD.out.2.2.2⟩, hid dq4, hid ⟨⟨by have := SD.out.1.1; simp only; omega, by have := SD.out.1.2; simp only [List.length_append, List.length_cons, List.length_nil]; omega⟩, by have := SD.out.2.1; simp only [List.length_append, List.length_cons, List.length_nil]; omega, by have := SD.out.2.2; simp only; omega⟩⟩
            · go_simp
              have HRB : Hid (NRun ((W7.drew.alloc (.cells #[] 65)).alloc (.cells #[.int .i64 b, .int .i64 1, .int .i64 b, .int .i64 1] 65)) (some ⟨(W7.heap.size + 1), 0, none⟩) 2 2 [(b, 1), (b, 1)]) := hid (nrun_2_d ((W7.drew.alloc (.cells #[] 65))) ((W7.heap.size + 1)) (b) (1) (b) (1) _ (by simp))
              replace BWc : Hid (Below W6.heap.size W6 ((W7.drew.alloc (.cells #[] 65)).alloc (.cells #[.int .i64 b, .int .i64 1, .int .i64 b, .int .i64 1] 65))) := hid (bt BWc.out (b1alloc _ _))
              replace BV : Hid (Below W7.heap.size W7 ((W7.drew.alloc (.cells #[] 65)).alloc (.cells #[.int .i64 b, .int .i64 1, .int .i64 b, .int .i64 1] 65))) := hid (bt BV.out (b1alloc _ _))
              refine hK.out _ _ (KS.out _ BWc.out) (fun hHeld2 => ?_)
              clear hK K hHeld
              have hHeld := hHeld2
              clear hHeld2
              try simp only [Act.put, List.setIfInBounds_toArray, List.set_cons_zero, List.set_cons_succ]
              refine wpAnyH_ready (rs := [4]) (by kernel_rfl) (by simp) ?_
              refine (AllReadyH.cons (by simp only [List.getElem?_toArray, List.getElem?_cons_succ, List.getElem?_cons_zero]; exact rfl) (fun K hK => ?_) AllReadyH.nil)
              refine step_append_ne ((W7.drew.alloc (.cells #[] 65)).alloc (.cells #[.int .i64 b, .int .i64 1, .int .i64 b, .int .i64 1] 65)) (by rfl) (.tmp 32) (.tmp 35) (by rfl) W7.heap.size W7.heap.size 0 0 [] (by rfl) ((nown_at_d W7.drew W7.heap.size W7.heap.size rfl (Nat.le_refl _)).alloc _) d3 d4 d5 D.i1 (by rfl) (HD.out.1.1.2.below (bt KX6.out.1 BWc.out)) (by omega) BV.out.size d4 D.i1 (by omega) (by simp) ?_
              intro g8 c8 w8 ho8 hg8
              have O8 := hid ho8
              have b8 := grow_below (base := W7.heap.size) hg8 BV.out.size (fun k hk => by cases hk; first | exact Nat.le_refl _ | omega)
              replace BWc : Hid (Below W6.heap.size W6 w8) := hid (BWc.out.trans (grow_below (base := W6.heap.size) hg8 BWc.out.size (fun k hk => by cases hk; have h9 := LY7.out; first | exact h9 | omega)))
              replace BV : Hid (Below W7.heap.size W7 w8) := hid (BV.out.trans b8)
              refine hK.out _ _ (KS.out _ BWc.out) (fun hHeld2 => ?_)
              clear hK K hHeld
              have hHeld := hHeld2
              clear hHeld2
              replace HRB := hid (HRB.out.apart hg8 (fun _ b' o' e => by cases e; omega))
              clear ho8 hg8 b8
              try simp only [Act.put, List.setIfInBounds_toArray, List.set_cons_zero, List.set_cons_succ]
              refine wpAnyH_ready (rs := [12]) (by kernel_rfl) (by simp) ?_
              refine (AllReadyH.cons (by simp only [List.getElem?_toArray, List.getElem?_cons_succ, List.getElem?_cons_zero]; exact rfl) (fun K hK => ?_) AllReadyH.nil)
              refine step_append_ne w8 (by rfl) (.tmp 36) (.tmp 43) (by rfl) W7.heap.size g8 d4 c8 D.i1 (by rfl) O8.out (some ⟨(W7.heap.size + 1), 0, none⟩) 2 2 [(b, 1), (b, 1)] (by rfl) HRB.out (by omega) BV.out.size NN (D.i1 ++ [(b, 1), (b, 1)]) HNN.out rfl ?_
              intro g9 c9 w9 ho9 hg9
              have O9 := hid ho9
              have b9 := grow_below (base := W7.heap.size) hg9 BV.out.size (fun k hk => by cases hk; exact (O8.out.lt g8 rfl).1)
              replace BWc : Hid (Below W6.heap.size W6 w9) := hid (BWc.out.trans (grow_below (base := W6.heap.size) hg9 BWc.out.size (fun k hk => by cases hk; have h8 := (O8.out.lt g8 rfl).1; have h9 := LY7.out; omega)))
              replace BV : Hid (Below W7.heap.size W7 w9) := hid (BV.out.trans b9)
              refine hK.out _ _ (KS.out _ BWc.out) (fun hHeld2 => ?_)
              clear hK K hHeld
              have hHeld := hHeld2
              clear hHeld2
              clear ho9 hg9 b9
              replace KY := hid (KY.out.step BV.out)
              have cz := kp_cell (j := 4) (v := .slice d3 d4 d5) KY.out rfl
              have fz := kp_froz KY.out 4
              try simp only [Act.put, List.setIfInBounds_toArray, List.set_cons_zero, List.set_cons_succ]
              refine wpAnyH_take (i := 14) (v := ?_) (by simp only [List.getElem?_toArray, List.getElem?_cons_succ, List.getElem?_cons_zero]; exact rfl) (by kernel_rfl) (by kernel_rfl) (by kernel_rfl) (fun _ _ _ h => h) (Or.inl ⟨by rfl, ?_⟩) (by assumption) ?_
              rotate_left
              · intro w hSw
                try dsimp only at hSw
                go_simp
                try with_reducible rfl
              try simp only [Act.put, List.setIfInBounds_toArray, List.set_cons_zero, List.set_cons_succ]
              refine wpAnyH_ready (rs := [15]) (by kernel_rfl) (by simp) ?_
              refine (AllReadyH.cons (by simp only [List.getElem?_toArray, List.getElem?_cons_succ, List.getElem?_cons_zero]; exact rfl) (fun K hK => ?_) AllReadyH.nil)
              go_simp
              replace BWc : Hid (Below W6.heap.size W6 (w9.setCell ⟨NY, 4, none⟩ (.slice (some ⟨g9, 0, none⟩) NN c9))) := hid (by have h9 := BWc.out; rw [← HNY.out]; exact h9.setCell (p := ⟨W6.heap.size, 4, none⟩) (Nat.le_refl _) (.slice (some ⟨g9, 0, none⟩) NN c9))
              have g7 := set_grown w9 NY 4 (.slice (some ⟨g9, 0, none⟩) NN c9)
              have R9 := hid ((own_nrun (l := D.i1 ++ [(b, 1), (b, 1)]) O9.out).apart g7 (fun _ b' o' e => by cases e; have := (O9.out.lt g9 rfl).1; have := LY.out; omega))
              replace KY : Hid (Kp w (w9.setCell ⟨NY, 4, none⟩ (.slice (some ⟨g9, 0, none⟩) NN c9)) NY (.cells #[.int .i64 D.n, .int .i64 D.s0, .int .i64 D.s1, .slice d0 d1 d2, .slice (some ⟨g9, 0, none⟩) NN c9, .slice d6 d7 d8, .slice d9 d10 d11] 68)) := hid (kp_set (j := 4) (v := .slice (some ⟨g9, 0, none⟩) NN c9) KY.out)
              refine hK.out _ _ (KS.out _ BWc.out) (fun hHeld2 => ?_)
              clear hK K hHeld
              have hHeld := hHeld2
              clear hHeld2
              clear g7 cz fz
              generalize w9.setCell ⟨NY, 4, none⟩ (.slice (some ⟨g9, 0, none⟩) NN c9) = w4 at BWc R9 KY hHeld ⊢
              try simp only [Act.put, List.setIfInBounds_toArray, List.set_cons_zero, List.set_cons_succ]
              refine wpAnyH_done (by kernel_rfl) ?_ _
              refine NoPanic.normal ?_
              try go_wp2_with fail
              have DX := hid (HD.out.1.below (KX6.out.step BWc.out).1)
              go_meet
              exact ⟨⟨D.n, D.s0, D.s1, D.i0, D.i1 ++ [(b, 1), (b, 1)], D.o0, D.o1⟩, d0, d1, d2, (some ⟨g9, 0, none⟩), NN, c9, d6, d7, d8, d9, d10, d11, rfl, hid (KX6.out.step BWc.out), KY, hid ⟨⟨DX.out.1.1, R9.out⟩, DX.out.2⟩, hid ⟨HD.out.2.1, ⟨HD.out.2.2.1.1, (fun r hr => by rcases List.mem_append.1 hr with hr | hr; exact HD.out.2.2.1.2 r hr; simp at hr; subst hr; exact ⟨HB.out, by show I64 1; unfold I64; decide⟩)⟩, HD.out.2.2.2⟩, hid dq4, hid ⟨⟨by have := SD.out.1.1; simp only; omega, by have := SD.out.1.2; simp only [List.length_append, List.length_cons, List.length_nil]; omega⟩, by have := SD.out.2.1; simp only [List.length_append, List.length_cons, List.length_nil]; omega, by have := SD.out.2.2; simp only; omega⟩⟩
          · go_simp
            have HRB : Hid (NRun (W7.drew.alloc (.cells #[.int .i64 b, .int .i64 1, .int .i64 b, .int .i64 1] 65)) (some ⟨W7.heap.size, 0, none⟩) 2 2 [(b, 1), (b, 1)]) := hid (nrun_2_d (W7.drew) (W7.heap.size) (b) (1) (b) (1) _ (by simp))
            replace BWc : Hid (Below W6.heap.size W6 (W7.drew.alloc (.cells #[.int .i64 b, .int .i64 1, .int .i64 b, .int .i64 1] 65))) := hid (bt BWc.out (b1alloc _ _))
            replace BV : Hid (Below W7.heap.size W7 (W7.drew.alloc (.cells #[.int .i64 b, .int .i64 1, .int .i64 b, .int .i64 1] 65))) := hid (bt BV.out (b1alloc _ _))
            refine hK.out _ _ (KS.out _ BWc.out) (fun hHeld2 => ?_)
            clear hK K hHeld
            have hHeld := hHeld2
            clear hHeld2
            try simp only [Act.put, List.setIfInBounds_toArray, List.set_cons_zero, List.set_cons_succ]
            refine wpAnyH_ready (rs := [0]) (by kernel_rfl) (by simp) ?_
            refine (AllReadyH.cons (by simp only [List.getElem?_toArray, List.getElem?_cons_succ, List.getElem?_cons_zero]; exact rfl) (fun K hK => ?_) AllReadyH.nil)
            go_simp
            replace HRB := hid (HRB.out.below (b1alloc _ (.cells #[] 65)))
            replace BWc : Hid (Below W6.heap.size W6 ((W7.drew.alloc (.cells #[.int .i64 b, .int .i64 1, .int .i64 b, .int .i64 1] 65)).alloc (.cells #[] 65))) := hid (bt BWc.out (b1alloc _ _))
            replace BV : Hid (Below W7.heap.size W7 ((W7.drew.alloc (.cells #[.int .i64 b, .int .i64 1, .int .i64 b, .int .i64 1] 65)).alloc (.cells #[] 65))) := hid (bt BV.out (b1alloc _ _))
            refine hK.out _ _ (KS.out _ BWc.out) (fun hHeld2 => ?_)
            clear hK K hHeld
            have hHeld := hHeld2
            clear hHeld2
            try simp only [Act.put, List.setIfInBounds_toArray, List.set_cons_zero, List.set_cons_succ]
            refine wpAnyH_ready (rs := [4]) (by kernel_rfl) (by simp) ?_
            refine (AllReadyH.cons (by simp only [List.getElem?_toArray, List.getElem?_cons_succ, List.getElem?_cons_zero]; exact rfl) (fun K hK => ?_) AllReadyH.nil)
            refine step_append_ne ((W7.drew.alloc (.cells #[.int .i64 b, .int .i64 1, .int .i64 b, .int .i64 1] 65)).alloc (.cells #[] 65)) (by rfl) (.tmp 32) (.tmp 35) (by rfl) W7.heap.size (W7.heap.size + 1) 0 0 [] (by rfl) (nown_at_d (W7.drew.alloc (.cells #[.int .i64 b, .int .i64 1, .int .i64 b, .int .i64 1] 65)) W7.heap.size (W7.heap.size + 1) (by simp) (by simp)) d3 d4 d5 D.i1 (by rfl) (HD.out.1.1.2.below (bt KX6.out.1 BWc.out)) (by omega) BV.out.size d4 D.i1 (by omega) (by simp) ?_
            intro g8 c8 w8 ho8 hg8
            have O8 := hid ho8
            have b8 := grow_below (base := W7.heap.size) hg8 BV.out.size (fun k hk => by cases hk; first | exact Nat.le_refl _ | omega)
            replace BWc : Hid (Below W6.heap.size W6 w8) := hid (BWc.out.trans (grow_below (base := W6.heap.size) hg8 BWc.out.size (fun k hk => by cases hk; have h9 := LY7.out; first | exact h9 | omega)))
            replace BV : Hid (Below W7.heap.size W7 w8) := hid (BV.out.trans b8)
            refine hK.out _ _ (KS.out _ BWc.out) (fun hHeld2 => ?_)
            clear hK K hHeld
            have hHeld := hHeld2
            clear hHeld2
            replace HRB := hid (HRB.out.apart hg8 (fun _ b' o' e => by cases e; omega))
            clear ho8 hg8 b8
            try simp only [Act.put, List.setIfInBounds_toArray, List.set_cons_zero, List.set_cons_succ]
            refine wpAnyH_ready (rs := [12]) (by kernel_rfl) (by simp) ?_
            refine (AllReadyH.cons (by simp only [List.getElem?_toArray, List.getElem?_cons_succ, List.getElem?_cons_zero]; exact rfl) (fun K hK => ?_) AllReadyH.nil)
            refine step_append_ne w8 (by rfl) (.tmp 36) (.tmp 43) (by rfl) W7.heap.size g8 d4 c8 D.i1 (by rfl) O8.out (some ⟨W7.heap.size, 0, none⟩) 2 2 [(b, 1), (b, 1)] (by rfl) HRB.out (by omega) BV.out.size NN (D.i1 ++ [(b, 1), (b, 1)]) HNN.out rfl ?_
            intro g9 c9 w9 ho9 hg9
            have O9 := hid ho9
            have b9 := grow_below (base := W7.heap.size) hg9 BV.out.size (fun k hk => by cases hk; exact (O8.out.lt g8 rfl).1)
            replace BWc : Hid (Below W6.heap.size W6 w9) := hid (BWc.out.trans (grow_below (base := W6.heap.size) hg9 BWc.out.size (fun k hk => by cases hk; have h8 := (O8.out.lt g8 rfl).1; have h9 := LY7.out; omega)))
            replace BV : Hid (Below W7.heap.size W7 w9) := hid (BV.out.trans b9)
            refine hK.out _ _ (KS.out _ BWc.out) (fun hHeld2 => ?_)
            clear hK K hHeld
            have hHeld := hHeld2
            clear hHeld2
            clear ho9 hg9 b9
            replace KY := hid (KY.out.step BV.out)
            have cz := kp_cell (j := 4) (v := .slice d3 d4 d5) KY.out rfl
            have fz := kp_froz KY.out 4
            try simp only [Act.put, List.setIfInBounds_toArray, List.set_cons_zero, List.set_cons_succ]
            refine wpAnyH_take (i := 14) (v := ?_) (by simp only [List.getElem?_toArray, List.getElem?_cons_succ, List.getElem?_cons_zero]; exact rfl) (by kernel_rfl) (by kernel_rfl) (by kernel_rfl) (fun _ _ _ h => h) (Or.inl ⟨by rfl, ?_⟩) (by assumption) ?_
            rotate_left
            · intro w hSw
              try dsimp only at hSw
              go_simp
              try with_reducible rfl
            try simp only [Act.put, List.setIfInBounds_toArray, List.set_cons_zero, List.set_cons_succ]
            refine wpAnyH_ready (rs := [15]) (by kernel_rfl) (by simp) ?_
            refine (AllReadyH.cons (by simp only [List.getElem?_toArray, List.getElem?_cons_succ, List.getElem?_cons_zero]; exact rfl) (fun K hK => ?_) AllReadyH.nil)
            go_simp
            replace BWc : Hid (Below W6.heap.size W6 (w9.setCell ⟨NY, 4, none⟩ (.slice (some ⟨g9, 0, none⟩) NN c9))) := hid (by have h9 := BWc.out; rw [← HNY.out]; exact h9.setCell (p := ⟨W6.heap.size, 4, none⟩) (Nat.le_refl _) (.slice (some ⟨g9, 0, none⟩) NN c9))
            have g7 := set_grown w9 NY 4 (.slice (some ⟨g9, 0, none⟩) NN c9)
            have R9 := hid ((own_nrun (l := D.i1 ++ [(b, 1), (b, 1)]) O9.out).apart g7 (fun _ b' o' e => by cases e; have := (O9.out.lt g9 rfl).1; have := LY.out; omega))
            replace KY : Hid (Kp w (w9.setCell ⟨NY, 4, none⟩ (.slice (some ⟨g9, 0, none⟩) NN c9)) NY (.cells #[.int .i64 D.n, .int .i64 D.s0, .int .i64 D.s1, .slice d0 d1 d2, .slice (some ⟨g9, 0, none⟩) NN c9, .slice d6 d7 d8, .slice d9 d10 d11] 68)) := hid (kp_set (j := 4) (v := .slice (some ⟨g9, 0, none⟩) NN c9) KY.out)
            refine hK.out _ _ (KS.out _ BWc.out) (fun hHeld2 => ?_)
            clear hK K hHeld
            have hHeld := hHeld2
            clear hHeld2
            clear g7 cz fz
            generalize w9.setCell ⟨NY, 4, none⟩ (.slice (some ⟨g9, 0, none⟩) NN c9) = w4 at BWc R9 KY hHeld ⊢
            try simp only [Act.put, List.setIfInBounds_toArray, List.set_cons_zero, List.set_cons_succ]
            refine wpAnyH_done (by kernel_rfl) ?_ _
            refine NoPanic.normal ?_
            try go_wp2_with fail
            have DX := hid (HD.out.1.below (KX6.out.step BWc.out).1)
            go_meet
            exact ⟨⟨D.n, D.s0, D.s1, D.i0, D.i1 ++ [(b, 1), (b, 1)], D.o0, D.o1⟩, d0, d1, d2, (some ⟨g9, 0, none⟩), NN, c9, d6, d7, d8, d9, d10, d11, rfl, hid (KX6.out.step BWc.out), KY, hid ⟨⟨DX.out.1.1, R9.out⟩, DX.out.2⟩, hid ⟨HD.out.2.1, ⟨HD.out.2.2.1.1, (fun r hr => by rcases List.mem_append.1 hr with hr | hr; exact HD.out.2.2.1.2 r hr; simp at hr; subst hr; exact ⟨HB.out, by show I64 1; unfold I64; decide⟩)⟩, HD.out.2.2.2⟩, hid dq4, hid ⟨⟨by have := SD.out.1.1; simp only; omega, by have := SD.out.1.2; simp only [List.length_append, List.length_cons, List.length_nil]; omega⟩, by have := SD.out.2.1; simp only [List.length_append, List.length_cons, List.length_nil]; omega, by have := SD.out.2.2; simp only; omega⟩⟩
      case rest =>
        obtain ⟨Y, y0, y1, y2, y3, y4, y5, y6, y7, y8, y9, y10, y11, rfl, KX, KY, DY, OY, GY, SY⟩ := hcut
        rename World => wc
        clear sp0' sp1' HMOD hk' B67 KX6 KS6 LX LS HNY
        have NE : Hid (dsm D Y = false) := hid (dsm_gd GV.out GY.out)
        have ID : Hid (did M Y = false) := hid (did_no GY.out)
        have FB : Hid (djB M D Y = false) := hid (dj_no2 GY.out)
        obtain ⟨P, hP⟩ : ∃ y, djC M D Y = y := ⟨_, rfl⟩
        have FP := hid hP
        have FN : Hid (dnB M Y = false) := hid (dn_no2 GY.out)
        obtain ⟨Q, hQ⟩ : ∃ y, dnC M Y = y := ⟨_, rfl⟩
        have FQ := hid hQ
        have FA : Hid (daB M cl0 false Y = false) := hid (da_no2 GY.out)
        have FI : Hid (daI M cl0 false Y = false) := hid (da_no3 FA.out).1
        obtain ⟨R, hR⟩ : ∃ y, daC M cl0 false Y = y := ⟨_, rfl⟩
        have FR := hid hR
        have G0 : Hid (dg 0 D = false) := hid (dg_not D (by omega))
        have G3 : Hid (dg 3 D = false) := hid (dg_not D (by omega))
        clear hP hQ hR
        obtain ⟨f0, f1, f2, f3, f4, f5, f6⟩ := box_seven KX.out.2.2
        obtain ⟨g0, g1, g2, g3, g4, g5, g6⟩ := box_seven KY.out.2.2
        go_upto_region 16 with (first
          | (go_at_call 42; refine (djoin_m M D Y d0 d1 d2 d3 d4 d5 d6 d7 d8 d9 d10 d11 y0 y1 y2 y3 y4 y5 y6 y7 y8 y9 y10 y11 P false _ (HD.out.1.below KX.out.1) DY.out HD.out.2 OY.out (shn_5 SD.out (by omega)) (shn_5 SY.out (by omega)) FP FB).mono ?_; rintro e v1 ⟨⟨x0, x1, x2, x3, x4, x5, x6, x7, x8, x9, x10, x11, rfl, hd, _⟩, hb⟩; replace KX := hid (KX.out.step hb); replace KY := hid (KY.out.step hb); replace DY := hid (DY.out.below hb); clear hd hb)
          | (have KZ : Hid (Kp w (v1.alloc (.cells #[.int .i64 0, .int .i64 0, .int .i64 0, .slice none 0 0, .slice none 0 0, .slice none 0 0, .slice none 0 0] 68)) v1.heap.size (.cells #[.int .i64 0, .int .i64 0, .int .i64 0, .slice none 0 0, .slice none 0 0, .slice none 0 0, .slice none 0 0] 68)) := hid (kp_new2 KX.out.1 _ _ rfl); refine wpList_store_whole rfl 68 (.tmp 9) (.tmp 101) rfl v1.heap.size (dlC P.n P.s0 P.s1 x0 x1 x2 x3 x4 x5 x6 x7 x8 x9 x10 x11) rfl rfl 68 _ KZ.out.2.2 rfl (by show _ = some 7; exact size_dl) (dlC_one _ _ _ _ _ _ _ _ _ _ _ _ _ _ _) ?_; intro w9 hp9 hg9; replace KX := hid (kp_new_gr KX.out hg9); replace KY := hid (kp_new_gr KY.out hg9); replace DY := hid (dw_new_gr DY.out hg9); clear hp9 hg9 KZ))
        clear f0 f1 f2 f3 f4 f5 f6 g0 g1 g2 g3 g4 g5 g6; obtain ⟨f0, f1, f2, f3, f4, f5, f6⟩ := box_seven KX.out.2.2; obtain ⟨g0, g1, g2, g3, g4, g5, g6⟩ := box_seven KY.out.2.2
        go_upto_region 17 with (first
          | (go_at_call 36; refine (dneg_m M Y y0 y1 y2 y3 y4 y5 y6 y7 y8 y9 y10 y11 Q false _ DY.out OY.out (sh5_shd (shn_5 SY.out (by omega))) FQ FN).mono ?_; rintro e v2 ⟨⟨u0, u1, u2, u3, u4, u5, u6, u7, u8, u9, u10, u11, rfl, hd, _⟩, hb⟩; replace KX := hid (KX.out.step hb); replace KY := hid (KY.out.step hb); replace DY := hid (DY.out.below hb); clear hd hb)
          | (have KZ : Hid (Kp w (v2.alloc (.cells #[.int .i64 0, .int .i64 0, .int .i64 0, .slice none 0 0, .slice none 0 0, .slice none 0 0, .slice none 0 0] 68)) v2.heap.size (.cells #[.int .i64 0, .int .i64 0, .int .i64 0, .slice none 0 0, .slice none 0 0, .slice none 0 0, .slice none 0 0] 68)) := hid (kp_new2 KX.out.1 _ _ rfl); refine wpList_store_whole rfl 68 (.tmp 11) (.tmp 107) rfl v2.heap.size (dlC Q.n Q.s0 Q.s1 u0 u1 u2 u3 u4 u5 u6 u7 u8 u9 u10 u11) rfl rfl 68 _ KZ.out.2.2 rfl (by show _ = some 7; exact size_dl) (dlC_one _ _ _ _ _ _ _ _ _ _ _ _ _ _ _) ?_; intro w9 hp9 hg9; replace KX := hid (kp_new_gr KX.out hg9); replace KY := hid (kp_new_gr KY.out hg9); replace DY := hid (dw_new_gr DY.out hg9); clear hp9 hg9 KZ))
        clear f0 f1 f2 f3 f4 f5 f6 g0 g1 g2 g3 g4 g5 g6; obtain ⟨f0, f1, f2, f3, f4, f5, f6⟩ := box_seven KX.out.2.2; obtain ⟨g0, g1, g2, g3, g4, g5, g6⟩ := box_seven KY.out.2.2
        go_upto_region 18 with (first
          | (go_at_call 49; refine (dapply_m M cl0 none 0 0 none 0 0 false Y y0 y1 y2 y3 y4 y5 y6 y7 y8 y9 y10 y11 R false false _ (cw_nil _) DY.out okc_0d OY.out (by decide) (shn_5 SY.out (by omega)) FR FI FA).mono ?_; rintro e v3 ⟨⟨r0, r1, r2, r3, r4, r5, rfl, hd, _⟩, hb⟩; replace KX := hid (KX.out.step hb); replace KY := hid (KY.out.step hb); replace DY := hid (DY.out.below hb); clear hd hb)
          | (have KZ : Hid (Kp w (v3.alloc (.cells #[.int .i64 0, .int .i64 0, .int .i64 0, .slice none 0 0, .slice none 0 0] 26)) v3.heap.size (.cells #[.int .i64 0, .int .i64 0, .int .i64 0, .slice none 0 0, .slice none 0 0] 26)) := hid (kp_new2 KX.out.1 _ _ rfl); refine wpList_store_whole rfl 26 (.tmp 13) (.tmp 114) rfl v3.heap.size (clC R.n R.s0 R.s1 r0 r1 r2 r3 r4 r5) rfl rfl 26 _ KZ.out.2.2 rfl (by show _ = some 5; exact size_cl) (clC_one _ _ _ _ _ _ _ _ _) ?_; intro w9 hp9 hg9; replace KX := hid (kp_new_gr KX.out hg9); replace KY := hid (kp_new_gr KY.out hg9); replace DY := hid (dw_new_gr DY.out hg9); clear hp9 hg9 KZ))
        clear f0 f1 f2 f3 f4 f5 f6 g0 g1 g2 g3 g4 g5 g6; obtain ⟨f0, f1, f2, f3, f4, f5, f6⟩ := box_seven KX.out.2.2; obtain ⟨g0, g1, g2, g3, g4, g5, g6⟩ := box_seven KY.out.2.2
        have tk1 : True := trivial
        have tk2 : True := trivial
        have tk3 : True := trivial
        go_wp2_with (first
          | (go_at_call 38; clear tk1; refine (dgood_m M D _ _ _ _ _ _ _ _ _ _ _ _ true _ (HD.out.1.below KX.out.1) HD.out.2 (sh5_shd (shn_5 SD.out (by omega))) GV).mono ?_; rintro e q1 ⟨rfl, hb⟩; replace KX := hid (KX.out.step hb); replace KY := hid (KY.out.step hb); replace DY := hid (DY.out.below hb); clear hb; clear f0 f1 f2 f3 f4 f5 f6 g0 g1 g2 g3 g4 g5 g6; obtain ⟨f0, f1, f2, f3, f4, f5, f6⟩ := box_seven KX.out.2.2; obtain ⟨g0, g1, g2, g3, g4, g5, g6⟩ := box_seven KY.out.2.2)
          | (go_at_call 38; clear tk2; refine (dgood_m M Y _ _ _ _ _ _ _ _ _ _ _ _ false _ DY.out OY.out (sh5_shd (shn_5 SY.out (by omega))) GY).mono ?_; rintro e q2 ⟨rfl, hb⟩; replace KX := hid (KX.out.step hb); replace KY := hid (KY.out.step hb); replace DY := hid (DY.out.below hb); clear hb; clear f0 f1 f2 f3 f4 f5 f6 g0 g1 g2 g3 g4 g5 g6; obtain ⟨f0, f1, f2, f3, f4, f5, f6⟩ := box_seven KX.out.2.2; obtain ⟨g0, g1, g2, g3, g4, g5, g6⟩ := box_seven KY.out.2.2)
          | (go_at_call 40; refine (didle_m M Y _ _ _ _ _ _ _ _ _ _ _ _ false _ DY.out OY.out (sh5_shd (shn_5 SY.out (by omega))) ID).mono ?_; rintro e q3 ⟨rfl, hb⟩; replace KX := hid (KX.out.step hb); replace KY := hid (KY.out.step hb); replace DY := hid (DY.out.below hb); clear hb; clear f0 f1 f2 f3 f4 f5 f6 g0 g1 g2 g3 g4 g5 g6; obtain ⟨f0, f1, f2, f3, f4, f5, f6⟩ := box_seven KX.out.2.2; obtain ⟨g0, g1, g2, g3, g4, g5, g6⟩ := box_seven KY.out.2.2)
          | (go_at_call 44; refine (dsame_m D Y _ _ _ _ _ _ _ _ _ _ _ _ _ _ _ _ _ _ _ _ _ _ _ _ false _ (HD.out.1.below KX.out.1) DY.out NE).mono ?_; rintro e q4 ⟨rfl, hb⟩; replace KX := hid (KX.out.step hb); replace KY := hid (KY.out.step hb); replace DY := hid (DY.out.below hb); clear hb; clear f0 f1 f2 f3 f4 f5 f6 g0 g1 g2 g3 g4 g5 g6; obtain ⟨f0, f1, f2, f3, f4, f5, f6⟩ := box_seven KX.out.2.2; obtain ⟨g0, g1, g2, g3, g4, g5, g6⟩ := box_seven KY.out.2.2)
          | (go_at_call 38; clear tk3; refine (dgood_m 0 D _ _ _ _ _ _ _ _ _ _ _ _ false _ (HD.out.1.below KX.out.1) HD.out.2 (sh5_shd (shn_5 SD.out (by omega))) G0).mono ?_; rintro e q5 ⟨rfl, hb⟩; replace KX := hid (KX.out.step hb); replace KY := hid (KY.out.step hb); replace DY := hid (DY.out.below hb); clear hb; clear f0 f1 f2 f3 f4 f5 f6 g0 g1 g2 g3 g4 g5 g6; obtain ⟨f0, f1, f2, f3, f4, f5, f6⟩ := box_seven KX.out.2.2; obtain ⟨g0, g1, g2, g3, g4, g5, g6⟩ := box_seven KY.out.2.2)
          | (go_at_call 38; refine (dgood_m 3 D _ _ _ _ _ _ _ _ _ _ _ _ false _ (HD.out.1.below KX.out.1) HD.out.2 (sh5_shd (shn_5 SD.out (by omega))) G3).mono ?_; rintro e q6 ⟨rfl, hb⟩; replace KX := hid (KX.out.step hb); replace KY := hid (KY.out.step hb); replace DY := hid (DY.out.below hb); clear hb)
          | (go_at_call 31; refine (dwakes_any _).mono ?_; rintro e wW ⟨rfl, hb⟩; replace KX := hid (KX.out.step hb); replace KY := hid (KY.out.step hb); replace DY := hid (DY.out.below hb); clear hb))
        go_ret
        exact ⟨rfl, KX.out.1⟩
  · have HLD := (hid (decide_eq_false hL) : Hid (decide ((d1 ≤ 60 ∧ d4 ≤ 60) ∧ d7 ≤ 60 ∧ d10 ≤ 60) = false))
    clear hL
    go_enter Try.func13, Try.ntmps13
    go_upto_region 1 with fail
    generalize (w.alloc (.cells #[.int .i64 D.n, .int .i64 D.s0, .int .i64 D.s1, .slice d0 d1 d2, .slice d3 d4 d5, .slice d6 d7 d8, .slice d9 d10 d11] 68)).alloc (.cells #[.int .u8 h, .int .i64 b] 108) = W at K0 ⊢
    have KX := hid K0.out.1
    have KS := hid K0.out.2
    clear K0
    obtain ⟨N0, hN0⟩ : ∃ y, w.heap.size = y := ⟨_, rfl⟩
    obtain ⟨N1, hN1⟩ : ∃ y, w.heap.size + 1 = y := ⟨_, rfl⟩
    rw [hN1] at KS ⊢
    rw [hN0] at KX ⊢
    have HN : Hid (w.heap.size = N0) := hid hN0
    clear hN0 hN1
    obtain ⟨f0, f1, f2, f3, f4, f5, f6⟩ := box_seven KX.out.2.2
    go_wp2_with (first
      | (go_at_call 51; refine (dmany_m t M _ HM).mono ?_; rintro e wm ⟨rfl, hw⟩; have hw2 := hw.symm; clear hw; subst hw2)
      | (go_at_call 30; refine (dlight_m D d0 d1 d2 d3 d4 d5 d6 d7 d8 d9 d10 d11 false _ (HD.out.1.below KX.out.1) HLD).mono ?_; rintro e wD ⟨rfl, hb⟩; replace KX := hid (KX.out.step hb); clear hb f0 f1 f2 f3 f4 f5 f6; obtain ⟨f0, f1, f2, f3, f4, f5, f6⟩ := box_seven KX.out.2.2)
      | (go_at_call 31; refine (dwakes_any _).mono ?_; rintro e wW ⟨rfl, hb⟩; replace KX := hid (KX.out.step hb); clear hb))
    go_ret
    exact ⟨rfl, KX.out.1⟩

end Go.Proofs.Ytjkkajhjcinalaa

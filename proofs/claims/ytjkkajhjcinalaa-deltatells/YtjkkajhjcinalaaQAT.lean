/-
  -
  Conditions: as each theorem states them.
-/
import Derived.Test.YtjkkajhjcinalaaQAS
namespace Go.Proofs.Ytjkkajhjcinalaa
open Go.ChangeShapes Go.WideShapes Go.ChangeAt Go.RowKit
set_option linter.unusedVariables false
set_option linter.unusedSimpArgs false
set_option maxRecDepth 100000

set_option maxHeartbeats 64000000 in
theorem tells_dwalk (m : Int) (dA : Dl) (a0 : Option Addr) (a1 a2 : Nat) (a3 : Option Addr) (a4 a5 : Nat) (a6 : Option Addr) (a7 a8 : Nat) (a9 : Option Addr) (a10 a11 : Nat) (dB : Dl) (b0 : Option Addr) (b1 b2 : Nat) (b3 : Option Addr) (b4 b5 : Nat) (b6 : Option Addr) (b7 b8 : Nat) (b9 : Option Addr) (b10 b11 : Nat) (g : Option Addr) (n c : Nat) (l : List Ch) (w : World) (hA : DW w a0 a1 a2 a3 a4 a5 a6 a7 a8 a9 a10 a11 dA ∧ okd dA) (hB : DW w b0 b1 b2 b3 b4 b5 b6 b7 b8 b9 b10 b11 dB ∧ okd dB) (hl : CRow w g n c l) (hkl : ∀ r ∈ l, cok r) :
    Calls Try.prog 9 #[(.agg #[.int .i64 m, .int .i64 dA.n, .int .i64 dA.s0, .int .i64 dA.s1, .slice a0 a1 a2, .slice a3 a4 a5, .slice a6 a7 a8, .slice a9 a10 a11, .int .i64 dB.n, .int .i64 dB.s0, .int .i64 dB.s1, .slice b0 b1 b2, .slice b3 b4 b5, .slice b6 b7 b8, .slice b9 b10 b11]), .slice g n c] w fun e w' => e = .returned (.bool true) ∧ Below w.heap.size w w' := by
  have HA := hid hA
  have HB := hid hB
  have HL := hid hl
  have KL := hid hkl
  have KX := hid (kp_new w (.cells #[.int .i64 m, .int .i64 dA.n, .int .i64 dA.s0, .int .i64 dA.s1, .slice a0 a1 a2, .slice a3 a4 a5, .slice a6 a7 a8, .slice a9 a10 a11, .int .i64 dB.n, .int .i64 dB.s0, .int .i64 dB.s1, .slice b0 b1 b2, .slice b3 b4 b5, .slice b6 b7 b8, .slice b9 b10 b11] 70))
  have tkA : True := trivial
  have EL := hid hl.lens.1
  clear hA hB hl hkl
  by_cases hLA : ((a1 ≤ 60 ∧ a4 ≤ 60) ∧ a7 ≤ 60 ∧ a10 ≤ 60)
  · have HLA : Hid (decide ((a1 ≤ 60 ∧ a4 ≤ 60) ∧ a7 ≤ 60 ∧ a10 ≤ 60) = true) := hid (decide_eq_true hLA)
    by_cases hLB : ((b1 ≤ 60 ∧ b4 ≤ 60) ∧ b7 ≤ 60 ∧ b10 ≤ 60)
    · have HLB : Hid (decide ((b1 ≤ 60 ∧ b4 ≤ 60) ∧ b7 ≤ 60 ∧ b10 ≤ 60) = true) := hid (decide_eq_true hLB)
      by_cases hbig : 30 < n
      · clear hLA hLB
        as_aux_lemma =>
        have hd1 : decide ((30 : Int) < (n : Int)) = true := decide_eq_true (by omega)
        have hi1 : (30 : Int) < (n : Int) := by omega
        go_enter Try.func9, Try.ntmps9
        go_upto_region 1 with fail
        generalize w.alloc (.cells #[.int .i64 m, .int .i64 dA.n, .int .i64 dA.s0, .int .i64 dA.s1, .slice a0 a1 a2, .slice a3 a4 a5, .slice a6 a7 a8, .slice a9 a10 a11, .int .i64 dB.n, .int .i64 dB.s0, .int .i64 dB.s1, .slice b0 b1 b2, .slice b3 b4 b5, .slice b6 b7 b8, .slice b9 b10 b11] 70) = W at KX ⊢
        obtain ⟨f0, f1, f2, f3, f4, f5, f6, f7, f8, f9, f10, f11, f12, f13, f14⟩ := box_15d KX.out.2.2
        go_wp2_with (first
          | (go_at_call 30; clear tkA; refine (dlight_m dA a0 a1 a2 a3 a4 a5 a6 a7 a8 a9 a10 a11 true _ (HA.out.1.below KX.out.1) HLA).mono ?_; rintro e wl ⟨rfl, hb⟩; replace KX := hid (KX.out.step hb); clear hb f0 f1 f2 f3 f4 f5 f6 f7 f8 f9 f10 f11 f12 f13 f14; obtain ⟨f0, f1, f2, f3, f4, f5, f6, f7, f8, f9, f10, f11, f12, f13, f14⟩ := box_15d KX.out.2.2)
          | (go_at_call 30; refine (dlight_m dB b0 b1 b2 b3 b4 b5 b6 b7 b8 b9 b10 b11 true _ (HB.out.1.below KX.out.1) HLB).mono ?_; rintro e wl ⟨rfl, hb⟩; replace KX := hid (KX.out.step hb); clear hb f0 f1 f2 f3 f4 f5 f6 f7 f8 f9 f10 f11 f12 f13 f14; obtain ⟨f0, f1, f2, f3, f4, f5, f6, f7, f8, f9, f10, f11, f12, f13, f14⟩ := box_15d KX.out.2.2)
          | (go_at_call 31; refine (dwakes_any _).mono ?_; rintro e wW ⟨rfl, hb⟩; replace KX := hid (KX.out.step hb); clear hb))
        go_ret
        exact ⟨rfl, KX.out.1⟩
      · have hd1 : decide ((30 : Int) < (n : Int)) = false := decide_eq_false (by omega)
        have hi1 : (n : Int) ≤ 30 := by omega
        have n1 : n ≤ 30 := by omega
        have SA : Hid (shn 60 dA) := hid (by have h := dw_len HA.out.1; unfold shn; omega)
        have SB : Hid (shn 60 dB) := hid (by have h := dw_len HB.out.1; unfold shn; omega)
        obtain ⟨hn, hhn⟩ : ∃ y, n / 2 = y := ⟨_, rfl⟩
        have hhn2 : hn ≤ n := by omega
        have hq1 : (n : Int) / 2 = (hn : Int) := by omega
        have hq2 : (n : Int).tdiv 2 = (hn : Int) := by rw [Int.tdiv_eq_ediv_of_nonneg (by omega)]; omega
        have hq3 : IntKind.i64.wrap (hn : Int) = (hn : Int) := IntWalk.i64_in _ (by omega)
        have hq0 : (0 : Int) ≤ (hn : Int) := by omega
        obtain ⟨hrun, hrow⟩ := firstC HL.out hn hhn2
        have HL2 := hid hrow
        have KL2 : Hid (∀ r ∈ l.take hn, cok r) := hid (fun r hr => KL.out r (List.mem_of_mem_take hr))
        clear hLA hLB hbig hrow hhn
        go_enter Try.func9, Try.ntmps9
        go_upto_region 1 with fail
        generalize w.alloc (.cells #[.int .i64 m, .int .i64 dA.n, .int .i64 dA.s0, .int .i64 dA.s1, .slice a0 a1 a2, .slice a3 a4 a5, .slice a6 a7 a8, .slice a9 a10 a11, .int .i64 dB.n, .int .i64 dB.s0, .int .i64 dB.s1, .slice b0 b1 b2, .slice b3 b4 b5, .slice b6 b7 b8, .slice b9 b10 b11] 70) = W1 at KX ⊢
        obtain ⟨f0, f1, f2, f3, f4, f5, f6, f7, f8, f9, f10, f11, f12, f13, f14⟩ := box_15d KX.out.2.2
        go_upto_region 4 with (first
          | (go_at_call 30; clear tkA; refine (dlight_m dA a0 a1 a2 a3 a4 a5 a6 a7 a8 a9 a10 a11 true _ (HA.out.1.below KX.out.1) HLA).mono ?_; rintro e wl ⟨rfl, hb⟩; replace KX := hid (KX.out.step hb); clear hb f0 f1 f2 f3 f4 f5 f6 f7 f8 f9 f10 f11 f12 f13 f14; obtain ⟨f0, f1, f2, f3, f4, f5, f6, f7, f8, f9, f10, f11, f12, f13, f14⟩ := box_15d KX.out.2.2)
          | (go_at_call 30; refine (dlight_m dB b0 b1 b2 b3 b4 b5 b6 b7 b8 b9 b10 b11 true _ (HB.out.1.below KX.out.1) HLB).mono ?_; rintro e wl ⟨rfl, hb⟩; replace KX := hid (KX.out.step hb); clear hb f0 f1 f2 f3 f4 f5 f6 f7 f8 f9 f10 f11 f12 f13 f14; obtain ⟨f0, f1, f2, f3, f4, f5, f6, f7, f8, f9, f10, f11, f12, f13, f14⟩ := box_15d KX.out.2.2))
        rename World => W2
        have KF : Hid (Kp w (W2.alloc (.cells #[.int .i64 m, .int .i64 1, .int .i64 2] 3)) W2.heap.size (.cells #[.int .i64 m, .int .i64 1, .int .i64 2] 3)) := hid (kp_new2 KX.out.1 _ _ rfl)
        replace KX := hid (kp_alloc KX.out (.cells #[.int .i64 m, .int .i64 1, .int .i64 2] 3))
        go_upto_region 5 with fail
        clear f0 f1 f2 f3 f4 f5 f6 f7 f8 f9 f10 f11 f12 f13 f14
        generalize W2.alloc (.cells #[.int .i64 m, .int .i64 1, .int .i64 2] 3) = W3 at KX KF ⊢
        generalize W2.heap.size = NF at KF ⊢
        go_loopw [44] (fun j wr => ∃ (q : Nat), q ≤ 3 ∧ j = .int .i64 q ∧ Hid (Kp w wr w.heap.size (.cells #[.int .i64 m, .int .i64 dA.n, .int .i64 dA.s0, .int .i64 dA.s1, .slice a0 a1 a2, .slice a3 a4 a5, .slice a6 a7 a8, .slice a9 a10 a11, .int .i64 dB.n, .int .i64 dB.s0, .int .i64 dB.s1, .slice b0 b1 b2, .slice b3 b4 b5, .slice b6 b7 b8, .slice b9 b10 b11] 70)) ∧ Hid (Kp w wr NF (.cells #[.int .i64 m, .int .i64 1, .int .i64 2] 3))) (fun j _ => 3 - (intOf j).toNat)
        case atStart => exact ⟨0, by omega, rfl, KX, KF⟩
        case round =>
          obtain ⟨q, hq3', rfl, KX, KF⟩ := hrel
          have hqz : (0 : Int) ≤ (q : Int) := by omega
          by_cases hlt : q < 3
          · have hqi : (q : Int) < 3 := by omega
            have hqd : decide ((q : Int) < 3) = true := decide_eq_true hqi
            obtain ⟨m', hm'⟩ := three_pick_d KF.out.2.2 hlt
            go_upto_region 7 with fail
            clear hm'
            go_upto_region 8 with fail
            have wl0 : True := trivial
            go_loopw [8] (fun j wr => ∃ (i : Nat), i ≤ n ∧ j = .int .i64 i ∧ Hid (Kp w wr w.heap.size (.cells #[.int .i64 m, .int .i64 dA.n, .int .i64 dA.s0, .int .i64 dA.s1, .slice a0 a1 a2, .slice a3 a4 a5, .slice a6 a7 a8, .slice a9 a10 a11, .int .i64 dB.n, .int .i64 dB.s0, .int .i64 dB.s1, .slice b0 b1 b2, .slice b3 b4 b5, .slice b6 b7 b8, .slice b9 b10 b11] 70)) ∧ Hid (Kp w wr NF (.cells #[.int .i64 m, .int .i64 1, .int .i64 2] 3))) (fun j _ => n - (intOf j).toNat)
            case atStart => exact ⟨0, by omega, rfl, KX, KF⟩
            case round =>
              obtain ⟨i, hin, rfl, KX, KF⟩ := hrel
              have hiz : (0 : Int) ≤ (i : Int) := by omega
              by_cases hl8 : i < n
              · have hii : (i : Int) < (n : Int) := by omega
                have hid8 : decide ((i : Int) < (n : Int)) = true := decide_eq_true hii
                as_aux_lemma =>
                obtain ⟨cb, off, xr, del, x0, x1, x2, x3, m0, m1, rfl, ex, hr, p0, p1, p2, p3, p4, p5, p6⟩ := HL.out.pick KX.out.1 hl8
                have HR := KL.out xr (List.mem_of_getElem? hr)
                subst ex
                have H0 := hid HR.2.1
                have H1 := hid HR.2.2
                clear hr HR
                obtain ⟨D, hD⟩ : ∃ y, ofdC m' m0 m1 del = y := ⟨_, rfl⟩
                obtain ⟨v, hv⟩ : ∃ y, ofdB m' m0 m1 del = y := ⟨_, rfl⟩
                have FD1 := hid hD
                have FV1 := hid hv
                have evv : (v != v) = false := by simp
                clear hD hv
                have BR := hid (Below.refl wr.heap.size wr)
                go_upto_region 10 with fail
                go_upto_region 11 with (first
                  | (go_at_call 32; refine (dof_m m' m0 m1 x0 x1 x2 x3 del D v _ H0.out H1.out FD1 FV1).mono ?_; rintro e v1 ⟨⟨y0, y1, y2, y3, y4, y5, y6, y7, y8, y9, y10, y11, rfl, hd, hf⟩, hb⟩; have DX := hid hd; have B1 := hid hb; clear hd hf hb)
                  | (have KZ : Hid (Kp wr (v1.alloc (.cells #[.int .i64 0, .int .i64 0, .int .i64 0, .slice none 0 0, .slice none 0 0, .slice none 0 0, .slice none 0 0] 68)) v1.heap.size (.cells #[.int .i64 0, .int .i64 0, .int .i64 0, .slice none 0 0, .slice none 0 0, .slice none 0 0, .slice none 0 0] 68)) := hid (kp_new2 B1.out _ _ rfl); refine wpList_store_whole rfl 68 (.tmp 9) (.tmp 61) rfl v1.heap.size (dlC D.n D.s0 D.s1 y0 y1 y2 y3 y4 y5 y6 y7 y8 y9 y10 y11) rfl rfl 68 _ KZ.out.2.2 rfl (by show _ = some 7; exact size_dl) (dlC_one _ _ _ _ _ _ _ _ _ _ _ _ _ _ _) ?_; intro w9 hp9 hg9; have KD := hid (kp_at KZ.out hg9 hp9); replace DX := hid (dw_new_gr DX.out hg9); clear B1; clear hp9 hg9 KZ))
                generalize v1.heap.size = ND at KD ⊢
                have QC : Hid (∀ y, Below wr.heap.size wr y → y.cell? ⟨cb, off + i * 7, none⟩ = some (.bool del) ∧ y.cell? ⟨cb, off + i * 7 + 1, none⟩ = some (.int .u8 x0) ∧ y.cell? ⟨cb, off + i * 7 + 2, none⟩ = some (.int .u8 x1) ∧ y.cell? ⟨cb, off + i * 7 + 3, none⟩ = some (.int .u8 x2) ∧ y.cell? ⟨cb, off + i * 7 + 4, none⟩ = some (.int .u8 x3) ∧ y.cell? ⟨cb, off + i * 7 + 5, none⟩ = some (.int .i64 m0) ∧ y.cell? ⟨cb, off + i * 7 + 6, none⟩ = some (.int .i64 m1)) := hid (fun y hb => by
                  have hcb := cell_ltd p0
                  exact ⟨((bcell hb).1 cb _ hcb).trans p0, ((bcell hb).1 cb _ hcb).trans p1, ((bcell hb).1 cb _ hcb).trans p2, ((bcell hb).1 cb _ hcb).trans p3, ((bcell hb).1 cb _ hcb).trans p4, ((bcell hb).1 cb _ hcb).trans p5, ((bcell hb).1 cb _ hcb).trans p6⟩)
                clear p0 p1 p2 p3 p4 p5 p6
                obtain ⟨p0, p1, p2, p3, p4, p5, p6⟩ := QC.out _ KD.out.1
                go_upto_region 12 with (first
                  | (go_at_call 33; refine (rdof_m m' m0 m1 x0 x1 x2 x3 del D v _ H0.out H1.out FD1 FV1).mono ?_; rintro e v2 ⟨⟨z0, z1, z2, z3, z4, z5, z6, z7, z8, z9, z10, z11, rfl, hd, hf⟩, hb⟩; have DT := hid hd; replace KD := hid (KD.out.step hb); replace DX := hid (DX.out.below hb); clear hd hf hb p0 p1 p2 p3 p4 p5 p6)
                  | (have KZ : Hid (Kp wr (v2.alloc (.cells #[.int .i64 0, .int .i64 0, .int .i64 0, .slice none 0 0, .slice none 0 0, .slice none 0 0, .slice none 0 0, .bool false] 78)) v2.heap.size (.cells #[.int .i64 0, .int .i64 0, .int .i64 0, .slice none 0 0, .slice none 0 0, .slice none 0 0, .slice none 0 0, .bool false] 78)) := hid (kp_new2 KD.out.1 _ _ rfl); refine wpList_store_whole rfl 78 (.tmp 11) (.tmp 68) rfl v2.heap.size (rdC D.n D.s0 D.s1 z0 z1 z2 z3 z4 z5 z6 z7 z8 z9 z10 z11 v) rfl rfl 78 _ KZ.out.2.2 rfl (by show _ = some 8; exact size_rd) (rdC_one _ _ _ _ _ _ _ _ _ _ _ _ _ _ _ _) ?_; intro w9 hp9 hg9; have KT := hid (kp_at KZ.out hg9 hp9); replace KD := hid (kp_new_gr KD.out hg9); replace DX := hid (dw_new_gr DX.out hg9); replace DT := hid (dw_new_gr DT.out hg9); clear hp9 hg9 KZ))
                generalize v2.heap.size = NT at KT ⊢
                obtain ⟨q0, q1, q2, q3, q4, q5, q6⟩ := box_seven KD.out.2.2
                obtain ⟨t0, t1, t2, t3, t4, t5, t6, t7⟩ := box_oct KT.out.2.2
                go_wp2_with (go_at_call 34; refine (rdsame_m D D _ _ _ _ _ _ _ _ _ _ _ _ _ _ _ _ _ _ _ _ _ _ _ _ true _ DX.out DT.out (hid (dsm_self _))).mono ?_; rintro e v3 ⟨rfl, hb⟩; replace KT := hid (KT.out.step hb); clear hb)
                go_roundw
                case rel => exact ⟨i + 1, by omega, by go_num, hid (KX.out.step KT.out.1), hid (KF.out.step KT.out.1)⟩
                case measure => simp [intOf]; omega
              · have hif : decide ((i : Int) < (n : Int)) = false := decide_eq_false (by omega)
                have hii : ¬ (i : Int) < (n : Int) := by omega
                go_upto_region 14 with fail
                have K14 : Hid (∀ y, Below wr.heap.size wr y → (fun y => Below wr.heap.size wr y ∧ y.cell? ⟨w.heap.size, 1, none⟩ = some (.int .i64 dA.n) ∧ y.cell? ⟨w.heap.size, 2, none⟩ = some (.int .i64 dA.s0) ∧ y.cell? ⟨w.heap.size, 3, none⟩ = some (.int .i64 dA.s1) ∧ y.cell? ⟨w.heap.size, 4, none⟩ = some (.slice a0 a1 a2) ∧ y.cell? ⟨w.heap.size, 5, none⟩ = some (.slice a3 a4 a5) ∧ y.cell? ⟨w.heap.size, 6, none⟩ = some (.slice a6 a7 a8) ∧ y.cell? ⟨w.heap.size, 7, none⟩ = some (.slice a9 a10 a11) ∧ y.cell? ⟨w.heap.size, 8, none⟩ = some (.int .i64 dB.n) ∧ y.cell? ⟨w.heap.size, 9, none⟩ = some (.int .i64 dB.s0) ∧ y.cell? ⟨w.heap.size, 10, none⟩ = some (.int .i64 dB.s1) ∧ y.cell? ⟨w.heap.size, 11, none⟩ = some (.slice b0 b1 b2) ∧ y.cell? ⟨w.heap.size, 12, none⟩ = some (.slice b3 b4 b5) ∧ y.cell? ⟨w.heap.size, 13, none⟩ = some (.slice b6 b7 b8) ∧ y.cell? ⟨w.heap.size, 14, none⟩ = some (.slice b9 b10 b11)) y) := hid (fun y hb => by obtain ⟨f0, f1, f2, f3, f4, f5, f6, f7, f8, f9, f10, f11, f12, f13, f14⟩ := box_15d (KX.out.step hb).2.2; exact ⟨hb, f1, f2, f3, f4, f5, f6, f7, f8, f9, f10, f11, f12, f13, f14⟩)
                refine wp_region_noPanic ?_
                refine wp_region_held_drew (S := fun y => Below wr.heap.size wr y ∧ y.cell? ⟨w.heap.size, 1, none⟩ = some (.int .i64 dA.n) ∧ y.cell? ⟨w.heap.size, 2, none⟩ = some (.int .i64 dA.s0) ∧ y.cell? ⟨w.heap.size, 3, none⟩ = some (.int .i64 dA.s1) ∧ y.cell? ⟨w.heap.size, 4, none⟩ = some (.slice a0 a1 a2) ∧ y.cell? ⟨w.heap.size, 5, none⟩ = some (.slice a3 a4 a5) ∧ y.cell? ⟨w.heap.size, 6, none⟩ = some (.slice a6 a7 a8) ∧ y.cell? ⟨w.heap.size, 7, none⟩ = some (.slice a9 a10 a11) ∧ y.cell? ⟨w.heap.size, 8, none⟩ = some (.int .i64 dB.n) ∧ y.cell? ⟨w.heap.size, 9, none⟩ = some (.int .i64 dB.s0) ∧ y.cell? ⟨w.heap.size, 10, none⟩ = some (.int .i64 dB.s1) ∧ y.cell? ⟨w.heap.size, 11, none⟩ = some (.slice b0 b1 b2) ∧ y.cell? ⟨w.heap.size, 12, none⟩ = some (.slice b3 b4 b5) ∧ y.cell? ⟨w.heap.size, 13, none⟩ = some (.slice b6 b7 b8) ∧ y.cell? ⟨w.heap.size, 14, none⟩ = some (.slice b9 b10 b11)) (by kernel_rfl) (K14.out _ (bdrew (Below.refl _ _))) (fun hHeld => ?_)
                refine tk 0 (v := ?_) ?_ ?_
                rotate_left
                · intro w hSw; (try dsimp only at hSw); go_simp; (try with_reducible rfl)
                try simp only [Act.put, List.setIfInBounds_toArray, List.set_cons_zero, List.set_cons_succ]
                refine tk 1 (v := ?_) ?_ ?_
                rotate_left
                · intro w hSw; (try dsimp only at hSw); go_simp; (try with_reducible rfl)
                try simp only [Act.put, List.setIfInBounds_toArray, List.set_cons_zero, List.set_cons_succ]
                refine tk 2 (v := ?_) ?_ ?_
                rotate_left
                · intro w hSw; (try dsimp only at hSw); go_simp; (try with_reducible rfl)
                try simp only [Act.put, List.setIfInBounds_toArray, List.set_cons_zero, List.set_cons_succ]
                refine tk 3 (v := ?_) ?_ ?_
                rotate_left
                · intro w hSw; (try dsimp only at hSw); go_simp; (try with_reducible rfl)
                try simp only [Act.put, List.setIfInBounds_toArray, List.set_cons_zero, List.set_cons_succ]
                refine tk 4 (v := ?_) ?_ ?_
                rotate_left
                · intro w hSw; (try dsimp only at hSw); go_simp; (try with_reducible rfl)
                try simp only [Act.put, List.setIfInBounds_toArray, List.set_cons_zero, List.set_cons_succ]
                refine tk 5 (v := ?_) ?_ ?_
                rotate_left
                · intro w hSw; (try dsimp only at hSw); go_simp; (try with_reducible rfl)
                try simp only [Act.put, List.setIfInBounds_toArray, List.set_cons_zero, List.set_cons_succ]
                refine tk 8 (v := ?_) ?_ ?_
                rotate_left
                · intro w hSw; (try dsimp only at hSw); go_simp; (try with_reducible rfl)
                try simp only [Act.put, List.setIfInBounds_toArray, List.set_cons_zero, List.set_cons_succ]
                refine tk 9 (v := ?_) ?_ ?_
                rotate_left
                · intro w hSw; (try dsimp only at hSw); go_simp; (try with_reducible rfl)
                try simp only [Act.put, List.setIfInBounds_toArray, List.set_cons_zero, List.set_cons_succ]
                refine tk 10 (v := ?_) ?_ ?_
                rotate_left
                · intro w hSw; (try dsimp only at hSw); go_simp; (try with_reducible rfl)
                try simp only [Act.put, List.setIfInBounds_toArray, List.set_cons_zero, List.set_cons_succ]
                refine tk 11 (v := ?_) ?_ ?_
                rotate_left
                · intro w hSw; (try dsimp only at hSw); go_simp; (try with_reducible rfl)
                try simp only [Act.put, List.setIfInBounds_toArray, List.set_cons_zero, List.set_cons_succ]
                refine rd1 6 (fun K hK => ?_)
                go_simp
                go_at_call 35; refine (dsum_m m' _ _ _ l _ (HL.out.below (bt KX.out.1 hHeld.1)) KL.out (by omega)).mono ?_; rintro e w6 ⟨⟨S, v6, s0, s1, s2, s3, s4, s5, s6, s7, s8, s9, s10, s11, rfl, hd, hok, hsh⟩, hb1⟩; have WS := hid hd; have OS := hid hok; have SS := hid hsh; have fe1 := field_rd S.n S.s0 S.s1 s0 s1 s2 s3 s4 s5 s6 s7 s8 s9 s10 s11 v6; clear hd hok hsh
                refine hK.out _ _ (K14.out _ (bt hHeld.1 hb1)) (fun hHeld2 => ?_)
                clear hK K hHeld; have hHeld := hHeld2; clear hHeld2
                try simp only [Act.put, List.setIfInBounds_toArray, List.set_cons_zero, List.set_cons_succ]
                refine tk 7 (v := ?_) ?_ ?_
                rotate_left
                · intro w hSw; (try dsimp only at hSw); go_simp; (try with_reducible rfl)
                try simp only [Act.put, List.setIfInBounds_toArray, List.set_cons_zero, List.set_cons_succ]
                refine rd1 12 (fun K hK => ?_)
                go_simp
                go_at_call 35; refine (dsum_m m' _ _ _ (l.take hn) _ (HL2.out.below (bt KX.out.1 hHeld.1)) KL2.out (by omega)).mono ?_; rintro e wS ⟨⟨R, v7, r0, r1, r2, r3, r4, r5, r6, r7, r8, r9, r10, r11, rfl, hd, hok, hsh⟩, hb2⟩; have WR := hid hd; have OR := hid hok; have SR := hid hsh; have fe2 := field_rd R.n R.s0 R.s1 r0 r1 r2 r3 r4 r5 r6 r7 r8 r9 r10 r11 v7; clear hd hok hsh
                replace WS := hid (WS.out.below hb2)
                refine hK.out _ _ (K14.out _ (bt hHeld.1 hb2)) (fun hHeld2 => ?_)
                clear hK K hHeld; have hHeld := hHeld2; clear hHeld2
                try simp only [Act.put, List.setIfInBounds_toArray, List.set_cons_zero, List.set_cons_succ]
                refine tk 13 (v := ?_) ?_ ?_
                rotate_left
                · intro w hSw; (try dsimp only at hSw); go_simp; (try with_reducible rfl)
                try simp only [Act.put, List.setIfInBounds_toArray, List.set_cons_zero, List.set_cons_succ]
                refine rd1 14 (fun K hK => ?_)
                go_simp
                have KQ := hid (kp_new wS (.cells #[.int .i64 dA.n, .int .i64 dA.s0, .int .i64 dA.s1, .slice a0 a1 a2, .slice a3 a4 a5, .slice a6 a7 a8, .slice a9 a10 a11, .int .i64 dB.n, .int .i64 dB.s0, .int .i64 dB.s1, .slice b0 b1 b2, .slice b3 b4 b5, .slice b6 b7 b8, .slice b9 b10 b11, .int .i64 S.n, .int .i64 S.s0, .int .i64 S.s1, .slice s0 s1 s2, .slice s3 s4 s5, .slice s6 s7 s8, .slice s9 s10 s11, .int .i64 R.n, .int .i64 R.s0, .int .i64 R.s1, .slice r0 r1 r2, .slice r3 r4 r5, .slice r6 r7 r8, .slice r9 r10 r11] 68))
                refine hK.out _ _ (K14.out _ (bt hHeld.1 (b1alloc wS (.cells #[.int .i64 dA.n, .int .i64 dA.s0, .int .i64 dA.s1, .slice a0 a1 a2, .slice a3 a4 a5, .slice a6 a7 a8, .slice a9 a10 a11, .int .i64 dB.n, .int .i64 dB.s0, .int .i64 dB.s1, .slice b0 b1 b2, .slice b3 b4 b5, .slice b6 b7 b8, .slice b9 b10 b11, .int .i64 S.n, .int .i64 S.s0, .int .i64 S.s1, .slice s0 s1 s2, .slice s3 s4 s5, .slice s6 s7 s8, .slice s9 s10 s11, .int .i64 R.n, .int .i64 R.s0, .int .i64 R.s1, .slice r0 r1 r2, .slice r3 r4 r5, .slice r6 r7 r8, .slice r9 r10 r11] 68)))) (fun hHeld2 => ?_)
                clear hK K hHeld; have hHeld := hHeld2; clear hHeld2
                try simp only [Act.put, List.setIfInBounds_toArray, List.set_cons_zero, List.set_cons_succ]
                refine tk 15 (v := ?_) ?_ ?_
                rotate_left
                · intro w hSw; (try dsimp only at hSw); go_simp; (try with_reducible rfl)
                try simp only [Act.put, List.setIfInBounds_toArray, List.set_cons_zero, List.set_cons_succ]
                refine wpAnyH_done (by kernel_rfl) ?_ _
                refine NoPanic.normal ?_
                have BS : Hid (Below wr.heap.size wr wS) := hid (bt (bt (bdrew (Below.refl _ _)) hb1) hb2)
                clear hHeld K14 hb1 hb2 fe1 fe2
                replace KX := hid (KX.out.step BS.out)
                replace KF := hid (KF.out.step BS.out)
                clear BS
                generalize wS.alloc (.cells #[.int .i64 dA.n, .int .i64 dA.s0, .int .i64 dA.s1, .slice a0 a1 a2, .slice a3 a4 a5, .slice a6 a7 a8, .slice a9 a10 a11, .int .i64 dB.n, .int .i64 dB.s0, .int .i64 dB.s1, .slice b0 b1 b2, .slice b3 b4 b5, .slice b6 b7 b8, .slice b9 b10 b11, .int .i64 S.n, .int .i64 S.s0, .int .i64 S.s1, .slice s0 s1 s2, .slice s3 s4 s5, .slice s6 s7 s8, .slice s9 s10 s11, .int .i64 R.n, .int .i64 R.s0, .int .i64 R.s1, .slice r0 r1 r2, .slice r3 r4 r5, .slice r6 r7 r8, .slice r9 r10 r11] 68) = W4 at KQ ⊢
                generalize wS.heap.size = NQ at KQ ⊢
                have G0 : Hid (good7 wS a0 a1 a2 a3 a4 a5 a6 a7 a8 a9 a10 a11 dA) := hid ⟨HA.out.1.below KX.out.1, HA.out.2, SA.out⟩
                have G1 : Hid (good7 wS b0 b1 b2 b3 b4 b5 b6 b7 b8 b9 b10 b11 dB) := hid ⟨HB.out.1.below KX.out.1, HB.out.2, SB.out⟩
                have G2 : Hid (good7 wS s0 s1 s2 s3 s4 s5 s6 s7 s8 s9 s10 s11 S) := hid ⟨WS.out, OS.out, shn_up SS.out (by omega)⟩
                have G3 : Hid (good7 wS r0 r1 r2 r3 r4 r5 r6 r7 r8 r9 r10 r11 R) := hid ⟨WR.out, OR.out, shn_up SR.out (by omega)⟩
                clear WS OS SS WR OR SR
                go_upto_region 16 with fail
                go_loopw [13] (fun j wr => ∃ (qq : Nat), qq ≤ 4 ∧ j = .int .i64 qq ∧ Hid (Kp wS wr NQ (.cells #[.int .i64 dA.n, .int .i64 dA.s0, .int .i64 dA.s1, .slice a0 a1 a2, .slice a3 a4 a5, .slice a6 a7 a8, .slice a9 a10 a11, .int .i64 dB.n, .int .i64 dB.s0, .int .i64 dB.s1, .slice b0 b1 b2, .slice b3 b4 b5, .slice b6 b7 b8, .slice b9 b10 b11, .int .i64 S.n, .int .i64 S.s0, .int .i64 S.s1, .slice s0 s1 s2, .slice s3 s4 s5, .slice s6 s7 s8, .slice s9 s10 s11, .int .i64 R.n, .int .i64 R.s0, .int .i64 R.s1, .slice r0 r1 r2, .slice r3 r4 r5, .slice r6 r7 r8, .slice r9 r10 r11] 68))) (fun j _ => 4 - (intOf j).toNat)
                case atStart => exact ⟨0, by omega, rfl, KQ⟩
                case round =>
                  obtain ⟨qq, hqq, rfl, KQ⟩ := hrel
                  have hz4 : (0 : Int) ≤ (qq : Int) := by omega
                  by_cases hl4 : qq < 4
                  · have hqi4 : (qq : Int) < 4 := by omega
                    have hqd4 : decide ((qq : Int) < 4) = true := decide_eq_true hqi4
                    as_aux_lemma =>
                    obtain ⟨X, d0, d1, d2, d3, d4, d5, d6, d7, d8, d9, d10, d11, hat, hgd⟩ := four_pick7 KQ.out.2.2 (good7_below G0.out KQ.out.1) (good7_below G1.out KQ.out.1) (good7_below G2.out KQ.out.1) (good7_below G3.out KQ.out.1) hl4
                    have GX := hid hgd
                    have AT := hid hat
                    obtain ⟨N, hN⟩ : ∃ y, dnC m' X = y := ⟨_, rfl⟩
                    obtain ⟨vn, hvn⟩ : ∃ y, dnB m' X = y := ⟨_, rfl⟩
                    obtain ⟨vg, hvg⟩ : ∃ y, dg m' X = y := ⟨_, rfl⟩
                    obtain ⟨vi, hvi⟩ : ∃ y, did m' X = y := ⟨_, rfl⟩
                    have EN := hid hN
                    have EVN := hid hvn
                    have HVG := hid hvg
                    have HVI := hid hvi
                    have enn : (vn != vn) = false := by simp
                    have egg : (vg != vg) = false := by simp
                    have eii : (vi != vi) = false := by simp
                    clear hat hgd hN hvn hvg hvi
                    have KAT : Hid (∀ y, Below wr.heap.size wr y → at7 y NQ qq d0 d1 d2 d3 d4 d5 d6 d7 d8 d9 d10 d11 X) := hid (fun y hb => at7_below AT.out (heap_lt KQ.out.2.2) hb)
                    obtain ⟨p0, p1, p2, p3, p4, p5, p6⟩ := AT.out
                    go_upto_region 18 with fail
                    go_upto_region 19 with (first
                      | (go_at_call 36; refine (dneg_m m' X d0 d1 d2 d3 d4 d5 d6 d7 d8 d9 d10 d11 N vn _ GX.out.1 GX.out.2.1 (shn_d GX.out.2.2 (by omega)) EN EVN).mono ?_; rintro e v1 ⟨⟨y0, y1, y2, y3, y4, y5, y6, y7, y8, y9, y10, y11, rfl, hd, hf⟩, hb⟩; have DN := hid hd; have B1 := hid hb; clear hd hf hb p0 p1 p2 p3 p4 p5 p6)
                      | (have KZ : Hid (Kp wr (v1.alloc (.cells #[.int .i64 0, .int .i64 0, .int .i64 0, .slice none 0 0, .slice none 0 0, .slice none 0 0, .slice none 0 0] 68)) v1.heap.size (.cells #[.int .i64 0, .int .i64 0, .int .i64 0, .slice none 0 0, .slice none 0 0, .slice none 0 0, .slice none 0 0] 68)) := hid (kp_new2 B1.out _ _ rfl); refine wpList_store_whole rfl 68 (.tmp 14) (.tmp 108) rfl v1.heap.size (dlC N.n N.s0 N.s1 y0 y1 y2 y3 y4 y5 y6 y7 y8 y9 y10 y11) rfl rfl 68 _ KZ.out.2.2 rfl (by show _ = some 7; exact size_dl) (dlC_one _ _ _ _ _ _ _ _ _ _ _ _ _ _ _) ?_; intro w9 hp9 hg9; have KN := hid (kp_at KZ.out hg9 hp9); replace DN := hid (dw_new_gr DN.out hg9); clear B1; clear hp9 hg9 KZ))
                    generalize v1.heap.size = NN at KN ⊢
                    obtain ⟨p0, p1, p2, p3, p4, p5, p6⟩ := KAT.out _ KN.out.1
                    go_upto_region 20 with (first
                      | (go_at_call 37; refine (rdneg_m m' X d0 d1 d2 d3 d4 d5 d6 d7 d8 d9 d10 d11 N vn _ (GX.out.1.below KN.out.1) GX.out.2.1 (shn_d GX.out.2.2 (by omega)) EN EVN).mono ?_; rintro e v3 ⟨⟨z0, z1, z2, z3, z4, z5, z6, z7, z8, z9, z10, z11, rfl, hd, hf⟩, hb⟩; have DT := hid hd; replace KN := hid (KN.out.step hb); replace DN := hid (DN.out.below hb); clear hd hf hb p0 p1 p2 p3 p4 p5 p6)
                      | (have KZ : Hid (Kp wr (v3.alloc (.cells #[.int .i64 0, .int .i64 0, .int .i64 0, .slice none 0 0, .slice none 0 0, .slice none 0 0, .slice none 0 0, .bool false] 78)) v3.heap.size (.cells #[.int .i64 0, .int .i64 0, .int .i64 0, .slice none 0 0, .slice none 0 0, .slice none 0 0, .slice none 0 0, .bool false] 78)) := hid (kp_new2 KN.out.1 _ _ rfl); refine wpList_store_whole rfl 78 (.tmp 16) (.tmp 115) rfl v3.heap.size (rdC N.n N.s0 N.s1 z0 z1 z2 z3 z4 z5 z6 z7 z8 z9 z10 z11 vn) rfl rfl 78 _ KZ.out.2.2 rfl (by show _ = some 8; exact size_rd) (rdC_one _ _ _ _ _ _ _ _ _ _ _ _ _ _ _ _) ?_; intro w9 hp9 hg9; have KT := hid (kp_at KZ.out hg9 hp9); replace KN := hid (kp_new_gr KN.out hg9); replace DN := hid (dw_new_gr DN.out hg9); replace DT := hid (dw_new_gr DT.out hg9); clear hp9 hg9 KZ))
                    generalize v3.heap.size = NT at KT ⊢
                    rename World => v4
                    have K20 : Hid (∀ y, Below v4.heap.size v4 y → (fun y => Below v4.heap.size v4 y ∧ y.cell? ⟨NQ, qq * 7, none⟩ = some (.int .i64 X.n) ∧ y.cell? ⟨NQ, qq * 7 + 1, none⟩ = some (.int .i64 X.s0) ∧ y.cell? ⟨NQ, qq * 7 + 2, none⟩ = some (.int .i64 X.s1) ∧ y.cell? ⟨NQ, qq * 7 + 3, none⟩ = some (.slice d0 d1 d2) ∧ y.cell? ⟨NQ, qq * 7 + 4, none⟩ = some (.slice d3 d4 d5) ∧ y.cell? ⟨NQ, qq * 7 + 5, none⟩ = some (.slice d6 d7 d8) ∧ y.cell? ⟨NQ, qq * 7 + 6, none⟩ = some (.slice d9 d10 d11) ∧ y.cell? ⟨NN, 0, none⟩ = some (.int .i64 N.n) ∧ y.cell? ⟨NN, 1, none⟩ = some (.int .i64 N.s0) ∧ y.cell? ⟨NN, 2, none⟩ = some (.int .i64 N.s1) ∧ y.cell? ⟨NN, 3, none⟩ = some (.slice y0 y1 y2) ∧ y.cell? ⟨NN, 4, none⟩ = some (.slice y3 y4 y5) ∧ y.cell? ⟨NN, 5, none⟩ = some (.slice y6 y7 y8) ∧ y.cell? ⟨NN, 6, none⟩ = some (.slice y9 y10 y11) ∧ y.cell? ⟨NT, 0, none⟩ = some (.int .i64 N.n) ∧ y.cell? ⟨NT, 1, none⟩ = some (.int .i64 N.s0) ∧ y.cell? ⟨NT, 2, none⟩ = some (.int .i64 N.s1) ∧ y.cell? ⟨NT, 3, none⟩ = some (.slice z0 z1 z2) ∧ y.cell? ⟨NT, 4, none⟩ = some (.slice z3 z4 z5) ∧ y.cell? ⟨NT, 5, none⟩ = some (.slice z6 z7 z8) ∧ y.cell? ⟨NT, 6, none⟩ = some (.slice z9 z10 z11) ∧ y.cell? ⟨NT, 7, none⟩ = some (.bool vn)) y) := hid (fun y hb => by obtain ⟨h0, h1, h2, h3, h4, h5, h6⟩ := KAT.out y (bt KT.out.1 hb); obtain ⟨q0, q1, q2, q3, q4, q5, q6⟩ := box_seven (KN.out.step hb).2.2; obtain ⟨t0, t1, t2, t3, t4, t5, t6, t7⟩ := box_oct (KT.out.step hb).2.2; exact ⟨hb, h0, h1, h2, h3, h4, h5, h6, q0, q1, q2, q3, q4, q5, q6, t0, t1, t2, t3, t4, t5, t6, t7⟩)
                    refine wp_region_noPanic ?_
                    refine wp_region_held_drew (S := fun y => Below v4.heap.size v4 y ∧ y.cell? ⟨NQ, qq * 7, none⟩ = some (.int .i64 X.n) ∧ y.cell? ⟨NQ, qq * 7 + 1, none⟩ = some (.int .i64 X.s0) ∧ y.cell? ⟨NQ, qq * 7 + 2, none⟩ = some (.int .i64 X.s1) ∧ y.cell? ⟨NQ, qq * 7 + 3, none⟩ = some (.slice d0 d1 d2) ∧ y.cell? ⟨NQ, qq * 7 + 4, none⟩ = some (.slice d3 d4 d5) ∧ y.cell? ⟨NQ, qq * 7 + 5, none⟩ = some (.slice d6 d7 d8) ∧ y.cell? ⟨NQ, qq * 7 + 6, none⟩ = some (.slice d9 d10 d11) ∧ y.cell? ⟨NN, 0, none⟩ = some (.int .i64 N.n) ∧ y.cell? ⟨NN, 1, none⟩ = some (.int .i64 N.s0) ∧ y.cell? ⟨NN, 2, none⟩ = some (.int .i64 N.s1) ∧ y.cell? ⟨NN, 3, none⟩ = some (.slice y0 y1 y2) ∧ y.cell? ⟨NN, 4, none⟩ = some (.slice y3 y4 y5) ∧ y.cell? ⟨NN, 5, none⟩ = some (.slice y6 y7 y8) ∧ y.cell? ⟨NN, 6, none⟩ = some (.slice y9 y10 y11) ∧ y.cell? ⟨NT, 0, none⟩ = some (.int .i64 N.n) ∧ y.cell? ⟨NT, 1, none⟩ = some (.int .i64 N.s0) ∧ y.cell? ⟨NT, 2, none⟩ = some (.int .i64 N.s1) ∧ y.cell? ⟨NT, 3, none⟩ = some (.slice z0 z1 z2) ∧ y.cell? ⟨NT, 4, none⟩ = some (.slice z3 z4 z5) ∧ y.cell? ⟨NT, 5, none⟩ = some (.slice z6 z7 z8) ∧ y.cell? ⟨NT, 6, none⟩ = some (.slice z9 z10 z11) ∧ y.cell? ⟨NT, 7, none⟩ = some (.bool vn)) (by kernel_rfl) (K20.out _ (bdrew (Below.refl _ _))) (fun hHeld => ?_)
                    refine tk 0 (v := ?_) ?_ ?_
                    rotate_left
                    · intro w hSw; (try dsimp only at hSw); go_simp; (try with_reducible rfl)
                    try simp only [Act.put, List.setIfInBounds_toArray, List.set_cons_zero, List.set_cons_succ]
                    refine tk 1 (v := ?_) ?_ ?_
                    rotate_left
                    · intro w hSw; (try dsimp only at hSw); go_simp; (try with_reducible rfl)
                    try simp only [Act.put, List.setIfInBounds_toArray, List.set_cons_zero, List.set_cons_succ]
                    refine tk 2 (v := ?_) ?_ ?_
                    rotate_left
                    · intro w hSw; (try dsimp only at hSw); go_simp; (try with_reducible rfl)
                    try simp only [Act.put, List.setIfInBounds_toArray, List.set_cons_zero, List.set_cons_succ]
                    refine tk 3 (v := ?_) ?_ ?_
                    rotate_left
                    · intro w hSw; (try dsimp only at hSw); go_simp; (try with_reducible rfl)
                    try simp only [Act.put, List.setIfInBounds_toArray, List.set_cons_zero, List.set_cons_succ]
                    refine tk 4 (v := ?_) ?_ ?_
                    rotate_left
                    · intro w hSw; (try dsimp only at hSw); go_simp; (try with_reducible rfl)
                    try simp only [Act.put, List.setIfInBounds_toArray, List.set_cons_zero, List.set_cons_succ]
                    refine tk 6 (v := ?_) ?_ ?_
                    rotate_left
                    · intro w hSw; (try dsimp only at hSw); go_simp; (try with_reducible rfl)
                    try simp only [Act.put, List.setIfInBounds_toArray, List.set_cons_zero, List.set_cons_succ]
                    refine tk 7 (v := ?_) ?_ ?_
                    rotate_left
                    · intro w hSw; (try dsimp only at hSw); go_simp; (try with_reducible rfl)
                    try simp only [Act.put, List.setIfInBounds_toArray, List.set_cons_zero, List.set_cons_succ]
                    refine tk 8 (v := ?_) ?_ ?_
                    rotate_left
                    · intro w hSw; (try dsimp only at hSw); go_simp; (try with_reducible rfl)
                    try simp only [Act.put, List.setIfInBounds_toArray, List.set_cons_zero, List.set_cons_succ]
                    refine tk 9 (v := ?_) ?_ ?_
                    rotate_left
                    · intro w hSw; (try dsimp only at hSw); go_simp; (try with_reducible rfl)
                    try simp only [Act.put, List.setIfInBounds_toArray, List.set_cons_zero, List.set_cons_succ]
                    refine tk 10 (v := ?_) ?_ ?_
                    rotate_left
                    · intro w hSw; (try dsimp only at hSw); go_simp; (try with_reducible rfl)
                    try simp only [Act.put, List.setIfInBounds_toArray, List.set_cons_zero, List.set_cons_succ]
                    refine rd1 5 (fun K hK => ?_)
                    go_simp
                    go_at_call 38; refine (dgood_m m' X d0 d1 d2 d3 d4 d5 d6 d7 d8 d9 d10 d11 vg _ (GX.out.1.below (bt KT.out.1 hHeld.1)) GX.out.2.1 (shn_d GX.out.2.2 (by omega)) HVG).mono ?_; rintro e u1 ⟨rfl, hu1⟩
                    refine hK.out _ _ (K20.out _ (bt hHeld.1 hu1)) (fun hHeld2 => ?_)
                    clear hK K hHeld; have hHeld := hHeld2; clear hHeld2
                    try simp only [Act.put, List.setIfInBounds_toArray, List.set_cons_zero, List.set_cons_succ]
                    refine rd1 11 (fun K hK => ?_)
                    go_simp
                    go_at_call 39; refine (rdgood_m m' X d0 d1 d2 d3 d4 d5 d6 d7 d8 d9 d10 d11 vg _ (GX.out.1.below (bt KT.out.1 hHeld.1)) GX.out.2.1 HVG).mono ?_; rintro e u2 ⟨rfl, hu2⟩
                    refine hK.out _ _ (K20.out _ (bt hHeld.1 hu2)) (fun hHeld2 => ?_)
                    clear hK K hHeld; have hHeld := hHeld2; clear hHeld2
                    try simp only [Act.put, List.setIfInBounds_toArray, List.set_cons_zero, List.set_cons_succ]
                    refine tk 12 (v := ?_) ?_ ?_
                    rotate_left
                    · intro w hSw; (try dsimp only at hSw); go_simp; (try with_reducible rfl)
                    try simp only [Act.put, List.setIfInBounds_toArray, List.set_cons_zero, List.set_cons_succ]
                    refine tk 13 (v := ?_) ?_ ?_
                    rotate_left
                    · intro w hSw; (try dsimp only at hSw); go_simp; (try with_reducible rfl)
                    try simp only [Act.put, List.setIfInBounds_toArray, List.set_cons_zero, List.set_cons_succ]
                    refine tk 14 (v := ?_) ?_ ?_
                    rotate_left
                    · intro w hSw; (try dsimp only at hSw); go_simp; (try with_reducible rfl)
                    try simp only [Act.put, List.setIfInBounds_toArray, List.set_cons_zero, List.set_cons_succ]
                    refine tk 15 (v := ?_) ?_ ?_
                    rotate_left
                    · intro w hSw; (try dsimp only at hSw); go_simp; (try with_reducible rfl)
                    try simp only [Act.put, List.setIfInBounds_toArray, List.set_cons_zero, List.set_cons_succ]
                    refine tk 16 (v := ?_) ?_ ?_
                    rotate_left
                    · intro w hSw; (try dsimp only at hSw); go_simp; (try with_reducible rfl)
                    try simp only [Act.put, List.setIfInBounds_toArray, List.set_cons_zero, List.set_cons_succ]
                    refine tk 17 (v := ?_) ?_ ?_
                    rotate_left
                    · intro w hSw; (try dsimp only at hSw); go_simp; (try with_reducible rfl)
                    try simp only [Act.put, List.setIfInBounds_toArray, List.set_cons_zero, List.set_cons_succ]
                    refine tk 18 (v := ?_) ?_ ?_
                    rotate_left
                    · intro w hSw; (try dsimp only at hSw); go_simp; (try with_reducible rfl)
                    try simp only [Act.put, List.setIfInBounds_toArray, List.set_cons_zero, List.set_cons_succ]
                    refine tk 20 (v := ?_) ?_ ?_
                    rotate_left
                    · intro w hSw; (try dsimp only at hSw); go_simp; (try with_reducible rfl)
                    try simp only [Act.put, List.setIfInBounds_toArray, List.set_cons_zero, List.set_cons_succ]
                    refine tk 21 (v := ?_) ?_ ?_
                    rotate_left
                    · intro w hSw; (try dsimp only at hSw); go_simp; (try with_reducible rfl)
                    try simp only [Act.put, List.setIfInBounds_toArray, List.set_cons_zero, List.set_cons_succ]
                    refine tk 22 (v := ?_) ?_ ?_
                    rotate_left
                    · intro w hSw; (try dsimp only at hSw); go_simp; (try with_reducible rfl)
                    try simp only [Act.put, List.setIfInBounds_toArray, List.set_cons_zero, List.set_cons_succ]
                    refine tk 23 (v := ?_) ?_ ?_
                    rotate_left
                    · intro w hSw; (try dsimp only at hSw); go_simp; (try with_reducible rfl)
                    try simp only [Act.put, List.setIfInBounds_toArray, List.set_cons_zero, List.set_cons_succ]
                    refine tk 24 (v := ?_) ?_ ?_
                    rotate_left
                    · intro w hSw; (try dsimp only at hSw); go_simp; (try with_reducible rfl)
                    try simp only [Act.put, List.setIfInBounds_toArray, List.set_cons_zero, List.set_cons_succ]
                    refine rd1 19 (fun K hK => ?_)
                    go_simp
                    go_at_call 40; refine (didle_m m' X d0 d1 d2 d3 d4 d5 d6 d7 d8 d9 d10 d11 vi _ (GX.out.1.below (bt KT.out.1 hHeld.1)) GX.out.2.1 (shn_d GX.out.2.2 (by omega)) HVI).mono ?_; rintro e u3 ⟨rfl, hu3⟩
                    refine hK.out _ _ (K20.out _ (bt hHeld.1 hu3)) (fun hHeld2 => ?_)
                    clear hK K hHeld; have hHeld := hHeld2; clear hHeld2
                    try simp only [Act.put, List.setIfInBounds_toArray, List.set_cons_zero, List.set_cons_succ]
                    refine rd1 25 (fun K hK => ?_)
                    go_simp
                    go_at_call 41; refine (rdidle_m m' X d0 d1 d2 d3 d4 d5 d6 d7 d8 d9 d10 d11 vi _ (GX.out.1.below (bt KT.out.1 hHeld.1)) GX.out.2.1 HVI).mono ?_; rintro e u4 ⟨rfl, hu4⟩
                    refine hK.out _ _ (K20.out _ (bt hHeld.1 hu4)) (fun hHeld2 => ?_)
                    clear hK K hHeld; have hHeld := hHeld2; clear hHeld2
                    try simp only [Act.put, List.setIfInBounds_toArray, List.set_cons_zero, List.set_cons_succ]
                    refine tk 26 (v := ?_) ?_ ?_
                    rotate_left
                    · intro w hSw; (try dsimp only at hSw); go_simp; (try with_reducible rfl)
                    try simp only [Act.put, List.setIfInBounds_toArray, List.set_cons_zero, List.set_cons_succ]
                    refine tk 27 (v := ?_) ?_ ?_
                    rotate_left
                    · intro w hSw; (try dsimp only at hSw); go_simp; (try with_reducible rfl)
                    try simp only [Act.put, List.setIfInBounds_toArray, List.set_cons_zero, List.set_cons_succ]
                    refine tk 28 (v := ?_) ?_ ?_
                    rotate_left
                    · intro w hSw; (try dsimp only at hSw); go_simp; (try with_reducible rfl)
                    try simp only [Act.put, List.setIfInBounds_toArray, List.set_cons_zero, List.set_cons_succ]
                    refine tk 29 (v := ?_) ?_ ?_
                    rotate_left
                    · intro w hSw; (try dsimp only at hSw); go_simp; (try with_reducible rfl)
                    try simp only [Act.put, List.setIfInBounds_toArray, List.set_cons_zero, List.set_cons_succ]
                    refine tk 30 (v := ?_) ?_ ?_
                    rotate_left
                    · intro w hSw; (try dsimp only at hSw); go_simp; (try with_reducible rfl)
                    try simp only [Act.put, List.setIfInBounds_toArray, List.set_cons_zero, List.set_cons_succ]
                    refine tk 31 (v := ?_) ?_ ?_
                    rotate_left
                    · intro w hSw; (try dsimp only at hSw); go_simp; (try with_reducible rfl)
                    try simp only [Act.put, List.setIfInBounds_toArray, List.set_cons_zero, List.set_cons_succ]
                    refine tk 32 (v := ?_) ?_ ?_
                    rotate_left
                    · intro w hSw; (try dsimp only at hSw); go_simp; (try with_reducible rfl)
                    try simp only [Act.put, List.setIfInBounds_toArray, List.set_cons_zero, List.set_cons_succ]
                    refine tk 33 (v := ?_) ?_ ?_
                    rotate_left
                    · intro w hSw; (try dsimp only at hSw); go_simp; (try with_reducible rfl)
                    try simp only [Act.put, List.setIfInBounds_toArray, List.set_cons_zero, List.set_cons_succ]
                    refine tk 34 (v := ?_) ?_ ?_
                    rotate_left
                    · intro w hSw; (try dsimp only at hSw); go_simp; (try with_reducible rfl)
                    try simp only [Act.put, List.setIfInBounds_toArray, List.set_cons_zero, List.set_cons_succ]
                    refine tk 35 (v := ?_) ?_ ?_
                    rotate_left
                    · intro w hSw; (try dsimp only at hSw); go_simp; (try with_reducible rfl)
                    try simp only [Act.put, List.setIfInBounds_toArray, List.set_cons_zero, List.set_cons_succ]
                    refine tk 36 (v := ?_) ?_ ?_
                    rotate_left
                    · intro w hSw; (try dsimp only at hSw); go_simp; (try with_reducible rfl)
                    try simp only [Act.put, List.setIfInBounds_toArray, List.set_cons_zero, List.set_cons_succ]
                    refine tk 37 (v := ?_) ?_ ?_
                    rotate_left
                    · intro w hSw; (try dsimp only at hSw); go_simp; (try with_reducible rfl)
                    try simp only [Act.put, List.setIfInBounds_toArray, List.set_cons_zero, List.set_cons_succ]
                    refine rd1 38 (fun K hK => ?_)
                    go_simp
                    go_at_call 34; refine (rdsame_m N N _ _ _ _ _ _ _ _ _ _ _ _ _ _ _ _ _ _ _ _ _ _ _ _ true _ (DN.out.below hHeld.1) (DT.out.below hHeld.1) (hid (dsm_self _))).mono ?_; rintro e u5 ⟨rfl, hu5⟩
                    refine hK.out _ _ (K20.out _ (bt hHeld.1 hu5)) (fun hHeld2 => ?_)
                    clear hK K hHeld; have hHeld := hHeld2; clear hHeld2
                    try simp only [Act.put, List.setIfInBounds_toArray, List.set_cons_zero, List.set_cons_succ]
                    refine tk 39 (v := ?_) ?_ ?_
                    rotate_left
                    · intro w hSw; (try dsimp only at hSw); go_simp; (try with_reducible rfl)
                    try simp only [Act.put, List.setIfInBounds_toArray, List.set_cons_zero, List.set_cons_succ]
                    refine tk 40 (v := ?_) ?_ ?_
                    rotate_left
                    · intro w hSw; (try dsimp only at hSw); go_simp; (try with_reducible rfl)
                    try simp only [Act.put, List.setIfInBounds_toArray, List.set_cons_zero, List.set_cons_succ]
                    refine wpAnyH_done (by kernel_rfl) ?_ _
                    refine NoPanic.normal ?_
                    replace KT := hid (KT.out.step hHeld.1)
                    clear hHeld K20 DN DT KN
                    have BW := hid KT.out.1
                    replace KQ := hid (KQ.out.step BW.out)
                    clear KT
                    go_upto_region 23 with fail
                    go_loopw [17] (fun j wz => ∃ (rr : Nat), rr ≤ 4 ∧ j = .int .i64 rr ∧ Hid (Kp wS wz NQ (.cells #[.int .i64 dA.n, .int .i64 dA.s0, .int .i64 dA.s1, .slice a0 a1 a2, .slice a3 a4 a5, .slice a6 a7 a8, .slice a9 a10 a11, .int .i64 dB.n, .int .i64 dB.s0, .int .i64 dB.s1, .slice b0 b1 b2, .slice b3 b4 b5, .slice b6 b7 b8, .slice b9 b10 b11, .int .i64 S.n, .int .i64 S.s0, .int .i64 S.s1, .slice s0 s1 s2, .slice s3 s4 s5, .slice s6 s7 s8, .slice s9 s10 s11, .int .i64 R.n, .int .i64 R.s0, .int .i64 R.s1, .slice r0 r1 r2, .slice r3 r4 r5, .slice r6 r7 r8, .slice r9 r10 r11] 68)) ∧ Hid (Below wr.heap.size wr wz)) (fun j _ => 4 - (intOf j).toNat)
                    case atStart => exact ⟨0, by omega, rfl, KQ, BW⟩
                    case round =>
                        obtain ⟨rr, hrr, rfl, KQ, BW⟩ := hrel
                        have hz5 : (0 : Int) ≤ (rr : Int) := by omega
                        by_cases hl5 : rr < 4
                        · have hqi5 : (rr : Int) < 4 := by omega
                          have hqd5 : decide ((rr : Int) < 4) = true := decide_eq_true hqi5
                          as_aux_lemma =>
                            obtain ⟨Y, e0, e1, e2, e3, e4, e5, e6, e7, e8, e9, e10, e11, hat, hgd⟩ := four_pick7 KQ.out.2.2 (good7_below G0.out KQ.out.1) (good7_below G1.out KQ.out.1) (good7_below G2.out KQ.out.1) (good7_below G3.out KQ.out.1) hl5
                            have GY := hid hgd
                            have ATY := hid hat
                            replace GX := hid (good7_below GX.out BW.out)
                            obtain ⟨J, hJ⟩ : ∃ y, djC m' X Y = y := ⟨_, rfl⟩
                            obtain ⟨vj, hvj⟩ : ∃ y, djB m' X Y = y := ⟨_, rfl⟩
                            obtain ⟨vs, hvs⟩ : ∃ y, dsm X Y = y := ⟨_, rfl⟩
                            have EJ := hid hJ
                            have EVJ := hid hvj
                            have EVS := hid hvs
                            have ejj : (vj != vj) = false := by simp
                            have ess : (vs != vs) = false := by simp
                            clear hat hgd hJ hvj hvs
                            have KS : Hid (∀ y, Below wr.heap.size wr y → y.cell? ⟨NQ, qq * 7, none⟩ = some (.int .i64 X.n) ∧ y.cell? ⟨NQ, qq * 7 + 1, none⟩ = some (.int .i64 X.s0) ∧ y.cell? ⟨NQ, qq * 7 + 2, none⟩ = some (.int .i64 X.s1) ∧ y.cell? ⟨NQ, qq * 7 + 3, none⟩ = some (.slice d0 d1 d2) ∧ y.cell? ⟨NQ, qq * 7 + 4, none⟩ = some (.slice d3 d4 d5) ∧ y.cell? ⟨NQ, qq * 7 + 5, none⟩ = some (.slice d6 d7 d8) ∧ y.cell? ⟨NQ, qq * 7 + 6, none⟩ = some (.slice d9 d10 d11) ∧ y.cell? ⟨NQ, rr * 7, none⟩ = some (.int .i64 Y.n) ∧ y.cell? ⟨NQ, rr * 7 + 1, none⟩ = some (.int .i64 Y.s0) ∧ y.cell? ⟨NQ, rr * 7 + 2, none⟩ = some (.int .i64 Y.s1) ∧ y.cell? ⟨NQ, rr * 7 + 3, none⟩ = some (.slice e0 e1 e2) ∧ y.cell? ⟨NQ, rr * 7 + 4, none⟩ = some (.slice e3 e4 e5) ∧ y.cell? ⟨NQ, rr * 7 + 5, none⟩ = some (.slice e6 e7 e8) ∧ y.cell? ⟨NQ, rr * 7 + 6, none⟩ = some (.slice e9 e10 e11)) := hid (fun y hb => by
                              obtain ⟨h0, h1, h2, h3, h4, h5, h6⟩ := KAT.out y (bt BW.out hb)
                              obtain ⟨k0, k1, k2, k3, k4, k5, k6⟩ := at7_below ATY.out (heap_lt KQ.out.2.2) hb
                              exact ⟨h0, h1, h2, h3, h4, h5, h6, k0, k1, k2, k3, k4, k5, k6⟩)
                            go_upto_region 25 with fail
                            go_cut [18, 19] (fun p q wx => ∃ (NJ : Nat) (j0 : Option Addr) (j1 j2 : Nat) (j3 : Option Addr) (j4 j5 : Nat) (j6 : Option Addr) (j7 j8 : Nat) (j9 : Option Addr) (j10 j11 : Nat), p = .pointer (some ⟨NJ, 0, none⟩) ∧ q = .bool vj ∧ Hid (Kp wr wx NJ (.cells #[.int .i64 J.n, .int .i64 J.s0, .int .i64 J.s1, .slice j0 j1 j2, .slice j3 j4 j5, .slice j6 j7 j8, .slice j9 j10 j11] 68)) ∧ Hid (DW wx j0 j1 j2 j3 j4 j5 j6 j7 j8 j9 j10 j11 J))
                            case first =>
                              refine wp_region_noPanic ?_
                              refine wp_region_held_drew (S := fun y => y.cell? ⟨NQ, qq * 7, none⟩ = some (.int .i64 X.n) ∧ y.cell? ⟨NQ, qq * 7 + 1, none⟩ = some (.int .i64 X.s0) ∧ y.cell? ⟨NQ, qq * 7 + 2, none⟩ = some (.int .i64 X.s1) ∧ y.cell? ⟨NQ, qq * 7 + 3, none⟩ = some (.slice d0 d1 d2) ∧ y.cell? ⟨NQ, qq * 7 + 4, none⟩ = some (.slice d3 d4 d5) ∧ y.cell? ⟨NQ, qq * 7 + 5, none⟩ = some (.slice d6 d7 d8) ∧ y.cell? ⟨NQ, qq * 7 + 6, none⟩ = some (.slice d9 d10 d11) ∧ y.cell? ⟨NQ, rr * 7, none⟩ = some (.int .i64 Y.n) ∧ y.cell? ⟨NQ, rr * 7 + 1, none⟩ = some (.int .i64 Y.s0) ∧ y.cell? ⟨NQ, rr * 7 + 2, none⟩ = some (.int .i64 Y.s1) ∧ y.cell? ⟨NQ, rr * 7 + 3, none⟩ = some (.slice e0 e1 e2) ∧ y.cell? ⟨NQ, rr * 7 + 4, none⟩ = some (.slice e3 e4 e5) ∧ y.cell? ⟨NQ, rr * 7 + 5, none⟩ = some (.slice e6 e7 e8) ∧ y.cell? ⟨NQ, rr * 7 + 6, none⟩ = some (.slice e9 e10 e11)) (by kernel_rfl) (KS.out _ (bdrew (Below.refl _ _))) (fun hHeld => ?_)
                              have BI : Hid (Below wr.heap.size wr wr.drew) := hid (bdrew (Below.refl _ _))
                              generalize wr.drew = wrd at BI hHeld ⊢
                              refine tk 0 (v := ?_) ?_ ?_
                              rotate_left
                              · intro w hSw; (try dsimp only at hSw); go_simp; (try with_reducible rfl)
                              try simp only [Act.put, List.setIfInBounds_toArray, List.set_cons_zero, List.set_cons_succ]
                              refine tk 1 (v := ?_) ?_ ?_
                              rotate_left
                              · intro w hSw; (try dsimp only at hSw); go_simp; (try with_reducible rfl)
                              try simp only [Act.put, List.setIfInBounds_toArray, List.set_cons_zero, List.set_cons_succ]
                              refine tk 2 (v := ?_) ?_ ?_
                              rotate_left
                              · intro w hSw; (try dsimp only at hSw); go_simp; (try with_reducible rfl)
                              try simp only [Act.put, List.setIfInBounds_toArray, List.set_cons_zero, List.set_cons_succ]
                              refine tk 3 (v := ?_) ?_ ?_
                              rotate_left
                              · intro w hSw; (try dsimp only at hSw); go_simp; (try with_reducible rfl)
                              try simp only [Act.put, List.setIfInBounds_toArray, List.set_cons_zero, List.set_cons_succ]
                              refine tk 4 (v := ?_) ?_ ?_
                              rotate_left
                              · intro w hSw; (try dsimp only at hSw); go_simp; (try with_reducible rfl)
                              try simp only [Act.put, List.setIfInBounds_toArray, List.set_cons_zero, List.set_cons_succ]
                              refine tk 5 (v := ?_) ?_ ?_
                              rotate_left
                              · intro w hSw; (try dsimp only at hSw); go_simp; (try with_reducible rfl)
                              try simp only [Act.put, List.setIfInBounds_toArray, List.set_cons_zero, List.set_cons_succ]
                              refine tk 6 (v := ?_) ?_ ?_
                              rotate_left
                              · intro w hSw; (try dsimp only at hSw); go_simp; (try with_reducible rfl)
                              try simp only [Act.put, List.setIfInBounds_toArray, List.set_cons_zero, List.set_cons_succ]
                              refine tk 7 (v := ?_) ?_ ?_
                              rotate_left
                              · intro w hSw; (try dsimp only at hSw); go_simp; (try with_reducible rfl)
                              try simp only [Act.put, List.setIfInBounds_toArray, List.set_cons_zero, List.set_cons_succ]
                              refine tk 8 (v := ?_) ?_ ?_
                              rotate_left
                              · intro w hSw; (try dsimp only at hSw); go_simp; (try with_reducible rfl)
                              try simp only [Act.put, List.setIfInBounds_toArray, List.set_cons_zero, List.set_cons_succ]
                              refine wpAnyH_ready (rs := [9, 13]) (by kernel_rfl) (by simp) ?_
                              refine (rdc (fun K hK => ?_) (rdc (fun K hK => ?_) AllReadyH.nil))
                              · go_simp
                                go_at_call 42; refine (djoin_m m' X Y d0 d1 d2 d3 d4 d5 d6 d7 d8 d9 d10 d11 e0 e1 e2 e3 e4 e5 e6 e7 e8 e9 e10 e11 J vj _ (GX.out.1.below BI.out) (GY.out.1.below BI.out) GX.out.2.1 GY.out.2.1 (shn_5 GX.out.2.2 (by omega)) (shn_5 GY.out.2.2 (by omega)) EJ EVJ).mono ?_; rintro e NJw1 ⟨⟨j0, j1, j2, j3, j4, j5, j6, j7, j8, j9, j10, j11, rfl, hd, hf⟩, hb⟩
                                have JW := hid hd
                                have FF := hid (fd_df hf)
                                replace BI := hid (bt BI.out hb)
                                refine hK.out _ _ (KS.out _ BI.out) (fun hHeld2 => ?_)
                                clear hK K hHeld; have hHeld := hHeld2; clear hHeld2
                                clear hd hf hb
                                try simp only [Act.put, List.setIfInBounds_toArray, List.set_cons_zero, List.set_cons_succ]
                                refine tk 10 (v := ?_) ?_ ?_
                                rotate_left
                                · intro w hSw; (try dsimp only at hSw); go_simp; (try with_reducible rfl)
                                try simp only [Act.put, List.setIfInBounds_toArray, List.set_cons_zero, List.set_cons_succ]
                                refine tk 11 (v := ?_) ?_ ?_
                                rotate_left
                                · intro w hSw; (try dsimp only at hSw); go_simp; (try with_reducible rfl)
                                try simp only [Act.put, List.setIfInBounds_toArray, List.set_cons_zero, List.set_cons_succ]
                                refine tk 12 (v := ?_) ?_ ?_
                                rotate_left
                                · intro w hSw; (try dsimp only at hSw); go_simp; (try with_reducible rfl)
                                try simp only [Act.put, List.setIfInBounds_toArray, List.set_cons_zero, List.set_cons_succ]
                                refine rd1 13 (fun K hK => ?_)
                                go_simp
                                have KJ : Hid (Kp wr (NJw1.alloc (.cells #[.int .i64 0, .int .i64 0, .int .i64 0, .slice none 0 0, .slice none 0 0, .slice none 0 0, .slice none 0 0] 68)) NJw1.heap.size (.cells #[.int .i64 0, .int .i64 0, .int .i64 0, .slice none 0 0, .slice none 0 0, .slice none 0 0, .slice none 0 0] 68)) := hid (kp_new2 BI.out _ _ rfl)
                                have K1 : Hid (Kp NJw1 (NJw1.alloc (.cells #[.int .i64 0, .int .i64 0, .int .i64 0, .slice none 0 0, .slice none 0 0, .slice none 0 0, .slice none 0 0] 68)) NJw1.heap.size (.cells #[.int .i64 0, .int .i64 0, .int .i64 0, .slice none 0 0, .slice none 0 0, .slice none 0 0, .slice none 0 0] 68)) := hid (kp_new _ _)
                                replace BI := hid (bt BI.out (b1alloc NJw1 (.cells #[.int .i64 0, .int .i64 0, .int .i64 0, .slice none 0 0, .slice none 0 0, .slice none 0 0, .slice none 0 0] 68)))
                                refine hK.out _ _ (KS.out _ BI.out) (fun hHeld2 => ?_)
                                clear hK K hHeld; have hHeld := hHeld2; clear hHeld2
                                generalize NJw1.alloc (.cells #[.int .i64 0, .int .i64 0, .int .i64 0, .slice none 0 0, .slice none 0 0, .slice none 0 0, .slice none 0 0] 68) = NJw2 at BI KJ K1 hHeld ⊢
                                generalize NJw1.heap.size = NJ at KJ K1 ⊢
                                try simp only [Act.put, List.setIfInBounds_toArray, List.set_cons_zero, List.set_cons_succ]
                                refine rd1 14 (fun K hK => ?_)
                                refine ite_go (by first | rfl | kernel_rfl) ?_
                                refine wp_store_whole 68 (.tmp 18) (.tmp 174) rfl NJ (dlC J.n J.s0 J.s1 j0 j1 j2 j3 j4 j5 j6 j7 j8 j9 j10 j11) rfl rfl 68 _ KJ.out.2.2 rfl (by show _ = some 7; exact size_dl) (dlC_one _ _ _ _ _ _ _ _ _ _ _ _ _ _ _) ?_
                                intro NJw3 hp9 hg9
                                replace K1 := hid (kp_at K1.out hg9 hp9)
                                replace JW := hid (JW.out.below K1.out.1)
                                clear K1
                                replace KJ := hid (kp_at KJ.out hg9 hp9)
                                replace BI := hid KJ.out.1
                                refine hK.out _ _ (KS.out _ BI.out) (fun hHeld2 => ?_)
                                clear hK K hHeld; have hHeld := hHeld2; clear hHeld2
                                clear hp9 hg9
                                try simp only [Act.put, List.setIfInBounds_toArray, List.set_cons_zero, List.set_cons_succ]
                                refine tk 15 (v := ?_) ?_ ?_
                                rotate_left
                                · intro w hSw; (try dsimp only at hSw); go_simp; (try with_reducible rfl)
                                try simp only [Act.put, List.setIfInBounds_toArray, List.set_cons_zero, List.set_cons_succ]
                                refine wpAnyH_done (by kernel_rfl) ?_ _
                                refine NoPanic.normal ?_
                                try go_wp2_with fail
                                go_meet
                                exact ⟨NJ, j0, j1, j2, j3, j4, j5, j6, j7, j8, j9, j10, j11, rfl, rfl, KJ, JW⟩
                              · go_simp
                                have KJ : Hid (Kp wr (wrd.alloc (.cells #[.int .i64 0, .int .i64 0, .int .i64 0, .slice none 0 0, .slice none 0 0, .slice none 0 0, .slice none 0 0] 68)) wrd.heap.size (.cells #[.int .i64 0, .int .i64 0, .int .i64 0, .slice none 0 0, .slice none 0 0, .slice none 0 0, .slice none 0 0] 68)) := hid (kp_new2 BI.out _ _ rfl)
                                have LJ := hid (heap_lt KJ.out.2.2)
                                replace BI := hid (bt BI.out (b1alloc wrd (.cells #[.int .i64 0, .int .i64 0, .int .i64 0, .slice none 0 0, .slice none 0 0, .slice none 0 0, .slice none 0 0] 68)))
                                refine hK.out _ _ (KS.out _ BI.out) (fun hHeld2 => ?_)
                                clear hK K hHeld; have hHeld := hHeld2; clear hHeld2
                                generalize wrd.alloc (.cells #[.int .i64 0, .int .i64 0, .int .i64 0, .slice none 0 0, .slice none 0 0, .slice none 0 0, .slice none 0 0] 68) = NJw1 at BI KJ LJ hHeld ⊢
                                generalize wrd.heap.size = NJ at KJ LJ ⊢
                                try simp only [Act.put, List.setIfInBounds_toArray, List.set_cons_zero, List.set_cons_succ]
                                refine rd1 9 (fun K hK => ?_)
                                go_simp
                                go_at_call 42; refine (djoin_m m' X Y d0 d1 d2 d3 d4 d5 d6 d7 d8 d9 d10 d11 e0 e1 e2 e3 e4 e5 e6 e7 e8 e9 e10 e11 J vj _ (GX.out.1.below BI.out) (GY.out.1.below BI.out) GX.out.2.1 GY.out.2.1 (shn_5 GX.out.2.2 (by omega)) (shn_5 GY.out.2.2 (by omega)) EJ EVJ).mono ?_; rintro e NJw2 ⟨⟨j0, j1, j2, j3, j4, j5, j6, j7, j8, j9, j10, j11, rfl, hd, hf⟩, hb⟩
                                have JW := hid hd
                                have FF := hid (fd_df hf)
                                replace BI := hid (bt BI.out hb)
                                replace KJ := hid (KJ.out.step hb)
                                refine hK.out _ _ (KS.out _ BI.out) (fun hHeld2 => ?_)
                                clear hK K hHeld; have hHeld := hHeld2; clear hHeld2
                                clear hd hf hb
                                try simp only [Act.put, List.setIfInBounds_toArray, List.set_cons_zero, List.set_cons_succ]
                                refine tk 10 (v := ?_) ?_ ?_
                                rotate_left
                                · intro w hSw; (try dsimp only at hSw); go_simp; (try with_reducible rfl)
                                try simp only [Act.put, List.setIfInBounds_toArray, List.set_cons_zero, List.set_cons_succ]
                                refine tk 11 (v := ?_) ?_ ?_
                                rotate_left
                                · intro w hSw; (try dsimp only at hSw); go_simp; (try with_reducible rfl)
                                try simp only [Act.put, List.setIfInBounds_toArray, List.set_cons_zero, List.set_cons_succ]
                                refine tk 12 (v := ?_) ?_ ?_
                                rotate_left
                                · intro w hSw; (try dsimp only at hSw); go_simp; (try with_reducible rfl)
                                try simp only [Act.put, List.setIfInBounds_toArray, List.set_cons_zero, List.set_cons_succ]
                                refine rd1 14 (fun K hK => ?_)
                                refine ite_go (by first | rfl | kernel_rfl) ?_
                                refine wp_store_whole 68 (.tmp 18) (.tmp 174) rfl NJ (dlC J.n J.s0 J.s1 j0 j1 j2 j3 j4 j5 j6 j7 j8 j9 j10 j11) rfl rfl 68 _ KJ.out.2.2 rfl (by show _ = some 7; exact size_dl) (dlC_one _ _ _ _ _ _ _ _ _ _ _ _ _ _ _) ?_
                                intro NJw3 hp9 hg9
                                replace JW := hid (dw_apart JW.out FF.out hg9 LJ.out)
                                replace KJ := hid (kp_at KJ.out hg9 hp9)
                                replace BI := hid KJ.out.1
                                refine hK.out _ _ (KS.out _ BI.out) (fun hHeld2 => ?_)
                                clear hK K hHeld; have hHeld := hHeld2; clear hHeld2
                                clear hp9 hg9
                                try simp only [Act.put, List.setIfInBounds_toArray, List.set_cons_zero, List.set_cons_succ]
                                refine tk 15 (v := ?_) ?_ ?_
                                rotate_left
                                · intro w hSw; (try dsimp only at hSw); go_simp; (try with_reducible rfl)
                                try simp only [Act.put, List.setIfInBounds_toArray, List.set_cons_zero, List.set_cons_succ]
                                refine wpAnyH_done (by kernel_rfl) ?_ _
                                refine NoPanic.normal ?_
                                try go_wp2_with fail
                                go_meet
                                exact ⟨NJ, j0, j1, j2, j3, j4, j5, j6, j7, j8, j9, j10, j11, rfl, rfl, KJ, JW⟩
                            case rest =>
                            obtain ⟨NJ, j0, j1, j2, j3, j4, j5, j6, j7, j8, j9, j10, j11, rfl, rfl, KJ, JW⟩ := hcut
                            rename World => wa
                            go_upto_region 26 with fail
                            go_cut [20] (fun p wx => ∃ (NR : Nat) (i0 : Option Addr) (i1 i2 : Nat) (i3 : Option Addr) (i4 i5 : Nat) (i6 : Option Addr) (i7 i8 : Nat) (i9 : Option Addr) (i10 i11 : Nat), p = .pointer (some ⟨NR, 0, none⟩) ∧ Hid (Kp wa wx NR (.cells #[.int .i64 J.n, .int .i64 J.s0, .int .i64 J.s1, .slice i0 i1 i2, .slice i3 i4 i5, .slice i6 i7 i8, .slice i9 i10 i11, .bool vj] 78)) ∧ Hid (DW wx i0 i1 i2 i3 i4 i5 i6 i7 i8 i9 i10 i11 J))
                            case first =>
                              refine wp_region_noPanic ?_
                              refine wp_region_held_drew (S := fun y => y.cell? ⟨NQ, qq * 7, none⟩ = some (.int .i64 X.n) ∧ y.cell? ⟨NQ, qq * 7 + 1, none⟩ = some (.int .i64 X.s0) ∧ y.cell? ⟨NQ, qq * 7 + 2, none⟩ = some (.int .i64 X.s1) ∧ y.cell? ⟨NQ, qq * 7 + 3, none⟩ = some (.slice d0 d1 d2) ∧ y.cell? ⟨NQ, qq * 7 + 4, none⟩ = some (.slice d3 d4 d5) ∧ y.cell? ⟨NQ, qq * 7 + 5, none⟩ = some (.slice d6 d7 d8) ∧ y.cell? ⟨NQ, qq * 7 + 6, none⟩ = some (.slice d9 d10 d11) ∧ y.cell? ⟨NQ, rr * 7, none⟩ = some (.int .i64 Y.n) ∧ y.cell? ⟨NQ, rr * 7 + 1, none⟩ = some (.int .i64 Y.s0) ∧ y.cell? ⟨NQ, rr * 7 + 2, none⟩ = some (.int .i64 Y.s1) ∧ y.cell? ⟨NQ, rr * 7 + 3, none⟩ = some (.slice e0 e1 e2) ∧ y.cell? ⟨NQ, rr * 7 + 4, none⟩ = some (.slice e3 e4 e5) ∧ y.cell? ⟨NQ, rr * 7 + 5, none⟩ = some (.slice e6 e7 e8) ∧ y.cell? ⟨NQ, rr * 7 + 6, none⟩ = some (.slice e9 e10 e11)) (by kernel_rfl) (KS.out _ (bt KJ.out.1 (bdrew (Below.refl _ _)))) (fun hHeld => ?_)
                              have BI : Hid (Below wa.heap.size wa wa.drew) := hid (bdrew (Below.refl _ _))
                              generalize wa.drew = wad at BI hHeld ⊢
                              refine tk 0 (v := ?_) ?_ ?_
                              rotate_left
                              · intro w hSw; (try dsimp only at hSw); go_simp; (try with_reducible rfl)
                              try simp only [Act.put, List.setIfInBounds_toArray, List.set_cons_zero, List.set_cons_succ]
                              refine tk 1 (v := ?_) ?_ ?_
                              rotate_left
                              · intro w hSw; (try dsimp only at hSw); go_simp; (try with_reducible rfl)
                              try simp only [Act.put, List.setIfInBounds_toArray, List.set_cons_zero, List.set_cons_succ]
                              refine tk 2 (v := ?_) ?_ ?_
                              rotate_left
                              · intro w hSw; (try dsimp only at hSw); go_simp; (try with_reducible rfl)
                              try simp only [Act.put, List.setIfInBounds_toArray, List.set_cons_zero, List.set_cons_succ]
                              refine tk 3 (v := ?_) ?_ ?_
                              rotate_left
                              · intro w hSw; (try dsimp only at hSw); go_simp; (try with_reducible rfl)
                              try simp only [Act.put, List.setIfInBounds_toArray, List.set_cons_zero, List.set_cons_succ]
                              refine tk 4 (v := ?_) ?_ ?_
                              rotate_left
                              · intro w hSw; (try dsimp only at hSw); go_simp; (try with_reducible rfl)
                              try simp only [Act.put, List.setIfInBounds_toArray, List.set_cons_zero, List.set_cons_succ]
                              refine tk 5 (v := ?_) ?_ ?_
                              rotate_left
                              · intro w hSw; (try dsimp only at hSw); go_simp; (try with_reducible rfl)
                              try simp only [Act.put, List.setIfInBounds_toArray, List.set_cons_zero, List.set_cons_succ]
                              refine tk 6 (v := ?_) ?_ ?_
                              rotate_left
                              · intro w hSw; (try dsimp only at hSw); go_simp; (try with_reducible rfl)
                              try simp only [Act.put, List.setIfInBounds_toArray, List.set_cons_zero, List.set_cons_succ]
                              refine tk 7 (v := ?_) ?_ ?_
                              rotate_left
                              · intro w hSw; (try dsimp only at hSw); go_simp; (try with_reducible rfl)
                              try simp only [Act.put, List.setIfInBounds_toArray, List.set_cons_zero, List.set_cons_succ]
                              refine tk 8 (v := ?_) ?_ ?_
                              rotate_left
                              · intro w hSw; (try dsimp only at hSw); go_simp; (try with_reducible rfl)
                              try simp only [Act.put, List.setIfInBounds_toArray, List.set_cons_zero, List.set_cons_succ]
                              refine wpAnyH_ready (rs := [9, 10]) (by kernel_rfl) (by simp) ?_
                              refine (rdc (fun K hK => ?_) (rdc (fun K hK => ?_) AllReadyH.nil))
                              · go_simp
                                go_at_call 43; refine (rdjoin_m m' X Y d0 d1 d2 d3 d4 d5 d6 d7 d8 d9 d10 d11 e0 e1 e2 e3 e4 e5 e6 e7 e8 e9 e10 e11 J vj _ (GX.out.1.below (bt KJ.out.1 BI.out)) (GY.out.1.below (bt KJ.out.1 BI.out)) GX.out.2.1 GY.out.2.1 (shn_5 GX.out.2.2 (by omega)) (shn_5 GY.out.2.2 (by omega)) EJ EVJ).mono ?_; rintro e NRw1 ⟨⟨i0, i1, i2, i3, i4, i5, i6, i7, i8, i9, i10, i11, rfl, hd, hf⟩, hb⟩
                                have IW := hid hd
                                have FF := hid hf
                                replace BI := hid (bt BI.out hb)
                                refine hK.out _ _ (KS.out _ (bt KJ.out.1 BI.out)) (fun hHeld2 => ?_)
                                clear hK K hHeld; have hHeld := hHeld2; clear hHeld2
                                clear hd hf hb
                                try simp only [Act.put, List.setIfInBounds_toArray, List.set_cons_zero, List.set_cons_succ]
                                refine rd1 10 (fun K hK => ?_)
                                go_simp
                                have KR : Hid (Kp wa (NRw1.alloc (.cells #[.int .i64 0, .int .i64 0, .int .i64 0, .slice none 0 0, .slice none 0 0, .slice none 0 0, .slice none 0 0, .bool false] 78)) NRw1.heap.size (.cells #[.int .i64 0, .int .i64 0, .int .i64 0, .slice none 0 0, .slice none 0 0, .slice none 0 0, .slice none 0 0, .bool false] 78)) := hid (kp_new2 BI.out _ _ rfl)
                                have K1 : Hid (Kp NRw1 (NRw1.alloc (.cells #[.int .i64 0, .int .i64 0, .int .i64 0, .slice none 0 0, .slice none 0 0, .slice none 0 0, .slice none 0 0, .bool false] 78)) NRw1.heap.size (.cells #[.int .i64 0, .int .i64 0, .int .i64 0, .slice none 0 0, .slice none 0 0, .slice none 0 0, .slice none 0 0, .bool false] 78)) := hid (kp_new _ _)
                                replace BI := hid (bt BI.out (b1alloc NRw1 (.cells #[.int .i64 0, .int .i64 0, .int .i64 0, .slice none 0 0, .slice none 0 0, .slice none 0 0, .slice none 0 0, .bool false] 78)))
                                refine hK.out _ _ (KS.out _ (bt KJ.out.1 BI.out)) (fun hHeld2 => ?_)
                                clear hK K hHeld; have hHeld := hHeld2; clear hHeld2
                                generalize NRw1.alloc (.cells #[.int .i64 0, .int .i64 0, .int .i64 0, .slice none 0 0, .slice none 0 0, .slice none 0 0, .slice none 0 0, .bool false] 78) = NRw2 at BI KR K1 hHeld ⊢
                                generalize NRw1.heap.size = NR at KR K1 ⊢
                                try simp only [Act.put, List.setIfInBounds_toArray, List.set_cons_zero, List.set_cons_succ]
                                refine rd1 11 (fun K hK => ?_)
                                refine ite_go (by first | rfl | kernel_rfl) ?_
                                refine wp_store_whole 78 (.tmp 20) (.tmp 185) rfl NR (rdC J.n J.s0 J.s1 i0 i1 i2 i3 i4 i5 i6 i7 i8 i9 i10 i11 vj) rfl rfl 78 _ KR.out.2.2 rfl (by show _ = some 8; exact size_rd) (rdC_one _ _ _ _ _ _ _ _ _ _ _ _ _ _ _ _) ?_
                                intro NRw3 hp9 hg9
                                replace K1 := hid (kp_at K1.out hg9 hp9)
                                replace IW := hid (IW.out.below K1.out.1)
                                clear K1
                                replace KR := hid (kp_at KR.out hg9 hp9)
                                replace BI := hid KR.out.1
                                refine hK.out _ _ (KS.out _ (bt KJ.out.1 BI.out)) (fun hHeld2 => ?_)
                                clear hK K hHeld; have hHeld := hHeld2; clear hHeld2
                                clear hp9 hg9
                                try simp only [Act.put, List.setIfInBounds_toArray, List.set_cons_zero, List.set_cons_succ]
                                refine wpAnyH_done (by kernel_rfl) ?_ _
                                refine NoPanic.normal ?_
                                try go_wp2_with fail
                                go_meet
                                exact ⟨NR, i0, i1, i2, i3, i4, i5, i6, i7, i8, i9, i10, i11, rfl, KR, IW⟩
                              · go_simp
                                have KR : Hid (Kp wa (wad.alloc (.cells #[.int .i64 0, .int .i64 0, .int .i64 0, .slice none 0 0, .slice none 0 0, .slice none 0 0, .slice none 0 0, .bool false] 78)) wad.heap.size (.cells #[.int .i64 0, .int .i64 0, .int .i64 0, .slice none 0 0, .slice none 0 0, .slice none 0 0, .slice none 0 0, .bool false] 78)) := hid (kp_new2 BI.out _ _ rfl)
                                have LJ := hid (heap_lt KR.out.2.2)
                                replace BI := hid (bt BI.out (b1alloc wad (.cells #[.int .i64 0, .int .i64 0, .int .i64 0, .slice none 0 0, .slice none 0 0, .slice none 0 0, .slice none 0 0, .bool false] 78)))
                                refine hK.out _ _ (KS.out _ (bt KJ.out.1 BI.out)) (fun hHeld2 => ?_)
                                clear hK K hHeld; have hHeld := hHeld2; clear hHeld2
                                generalize wad.alloc (.cells #[.int .i64 0, .int .i64 0, .int .i64 0, .slice none 0 0, .slice none 0 0, .slice none 0 0, .slice none 0 0, .bool false] 78) = NRw1 at BI KR LJ hHeld ⊢
                                generalize wad.heap.size = NR at KR LJ ⊢
                                try simp only [Act.put, List.setIfInBounds_toArray, List.set_cons_zero, List.set_cons_succ]
                                refine rd1 9 (fun K hK => ?_)
                                go_simp
                                go_at_call 43; refine (rdjoin_m m' X Y d0 d1 d2 d3 d4 d5 d6 d7 d8 d9 d10 d11 e0 e1 e2 e3 e4 e5 e6 e7 e8 e9 e10 e11 J vj _ (GX.out.1.below (bt KJ.out.1 BI.out)) (GY.out.1.below (bt KJ.out.1 BI.out)) GX.out.2.1 GY.out.2.1 (shn_5 GX.out.2.2 (by omega)) (shn_5 GY.out.2.2 (by omega)) EJ EVJ).mono ?_; rintro e NRw2 ⟨⟨i0, i1, i2, i3, i4, i5, i6, i7, i8, i9, i10, i11, rfl, hd, hf⟩, hb⟩
                                have IW := hid hd
                                have FF := hid hf
                                replace BI := hid (bt BI.out hb)
                                replace KR := hid (KR.out.step hb)
                                refine hK.out _ _ (KS.out _ (bt KJ.out.1 BI.out)) (fun hHeld2 => ?_)
                                clear hK K hHeld; have hHeld := hHeld2; clear hHeld2
                                clear hd hf hb
                                try simp only [Act.put, List.setIfInBounds_toArray, List.set_cons_zero, List.set_cons_succ]
                                refine rd1 11 (fun K hK => ?_)
                                refine ite_go (by first | rfl | kernel_rfl) ?_
                                refine wp_store_whole 78 (.tmp 20) (.tmp 185) rfl NR (rdC J.n J.s0 J.s1 i0 i1 i2 i3 i4 i5 i6 i7 i8 i9 i10 i11 vj) rfl rfl 78 _ KR.out.2.2 rfl (by show _ = some 8; exact size_rd) (rdC_one _ _ _ _ _ _ _ _ _ _ _ _ _ _ _ _) ?_
                                intro NRw3 hp9 hg9
                                replace IW := hid (dw_apart IW.out FF.out hg9 LJ.out)
                                replace KR := hid (kp_at KR.out hg9 hp9)
                                replace BI := hid KR.out.1
                                refine hK.out _ _ (KS.out _ (bt KJ.out.1 BI.out)) (fun hHeld2 => ?_)
                                clear hK K hHeld; have hHeld := hHeld2; clear hHeld2
                                clear hp9 hg9
                                try simp only [Act.put, List.setIfInBounds_toArray, List.set_cons_zero, List.set_cons_succ]
                                refine wpAnyH_done (by kernel_rfl) ?_ _
                                refine NoPanic.normal ?_
                                try go_wp2_with fail
                                go_meet
                                exact ⟨NR, i0, i1, i2, i3, i4, i5, i6, i7, i8, i9, i10, i11, rfl, KR, IW⟩
                            case rest =>
                            obtain ⟨NR, i0, i1, i2, i3, i4, i5, i6, i7, i8, i9, i10, i11, rfl, KR, IW⟩ := hcut
                            rename World => wb
                            have BB : Hid (Below wr.heap.size wr wb) := hid (bt KJ.out.1 KR.out.1)
                            replace JW := hid (JW.out.below KR.out.1)
                            replace KJ := hid (KJ.out.step KR.out.1)
                            go_upto_region 27 with fail
                            have K27 : Hid (∀ y, Below wb.heap.size wb y → (fun y => Below wb.heap.size wb y ∧ y.cell? ⟨NQ, qq * 7, none⟩ = some (.int .i64 X.n) ∧ y.cell? ⟨NQ, qq * 7 + 1, none⟩ = some (.int .i64 X.s0) ∧ y.cell? ⟨NQ, qq * 7 + 2, none⟩ = some (.int .i64 X.s1) ∧ y.cell? ⟨NQ, qq * 7 + 3, none⟩ = some (.slice d0 d1 d2) ∧ y.cell? ⟨NQ, qq * 7 + 4, none⟩ = some (.slice d3 d4 d5) ∧ y.cell? ⟨NQ, qq * 7 + 5, none⟩ = some (.slice d6 d7 d8) ∧ y.cell? ⟨NQ, qq * 7 + 6, none⟩ = some (.slice d9 d10 d11) ∧ y.cell? ⟨NQ, rr * 7, none⟩ = some (.int .i64 Y.n) ∧ y.cell? ⟨NQ, rr * 7 + 1, none⟩ = some (.int .i64 Y.s0) ∧ y.cell? ⟨NQ, rr * 7 + 2, none⟩ = some (.int .i64 Y.s1) ∧ y.cell? ⟨NQ, rr * 7 + 3, none⟩ = some (.slice e0 e1 e2) ∧ y.cell? ⟨NQ, rr * 7 + 4, none⟩ = some (.slice e3 e4 e5) ∧ y.cell? ⟨NQ, rr * 7 + 5, none⟩ = some (.slice e6 e7 e8) ∧ y.cell? ⟨NQ, rr * 7 + 6, none⟩ = some (.slice e9 e10 e11) ∧ y.cell? ⟨NJ, 0, none⟩ = some (.int .i64 J.n) ∧ y.cell? ⟨NJ, 1, none⟩ = some (.int .i64 J.s0) ∧ y.cell? ⟨NJ, 2, none⟩ = some (.int .i64 J.s1) ∧ y.cell? ⟨NJ, 3, none⟩ = some (.slice j0 j1 j2) ∧ y.cell? ⟨NJ, 4, none⟩ = some (.slice j3 j4 j5) ∧ y.cell? ⟨NJ, 5, none⟩ = some (.slice j6 j7 j8) ∧ y.cell? ⟨NJ, 6, none⟩ = some (.slice j9 j10 j11) ∧ y.cell? ⟨NR, 0, none⟩ = some (.int .i64 J.n) ∧ y.cell? ⟨NR, 1, none⟩ = some (.int .i64 J.s0) ∧ y.cell? ⟨NR, 2, none⟩ = some (.int .i64 J.s1) ∧ y.cell? ⟨NR, 3, none⟩ = some (.slice i0 i1 i2) ∧ y.cell? ⟨NR, 4, none⟩ = some (.slice i3 i4 i5) ∧ y.cell? ⟨NR, 5, none⟩ = some (.slice i6 i7 i8) ∧ y.cell? ⟨NR, 6, none⟩ = some (.slice i9 i10 i11) ∧ y.cell? ⟨NR, 7, none⟩ = some (.bool vj)) y) := hid (fun y hb => by obtain ⟨h0, h1, h2, h3, h4, h5, h6, h7, h8, h9, h10, h11, h12, h13⟩ := KS.out y (bt BB.out hb); obtain ⟨q0, q1, q2, q3, q4, q5, q6⟩ := box_seven (KJ.out.step hb).2.2; obtain ⟨t0, t1, t2, t3, t4, t5, t6, t7⟩ := box_oct (KR.out.step hb).2.2; exact ⟨hb, h0, h1, h2, h3, h4, h5, h6, h7, h8, h9, h10, h11, h12, h13, q0, q1, q2, q3, q4, q5, q6, t0, t1, t2, t3, t4, t5, t6, t7⟩)
                            refine wp_region_noPanic ?_
                            refine wp_region_held_drew (S := fun y => Below wb.heap.size wb y ∧ y.cell? ⟨NQ, qq * 7, none⟩ = some (.int .i64 X.n) ∧ y.cell? ⟨NQ, qq * 7 + 1, none⟩ = some (.int .i64 X.s0) ∧ y.cell? ⟨NQ, qq * 7 + 2, none⟩ = some (.int .i64 X.s1) ∧ y.cell? ⟨NQ, qq * 7 + 3, none⟩ = some (.slice d0 d1 d2) ∧ y.cell? ⟨NQ, qq * 7 + 4, none⟩ = some (.slice d3 d4 d5) ∧ y.cell? ⟨NQ, qq * 7 + 5, none⟩ = some (.slice d6 d7 d8) ∧ y.cell? ⟨NQ, qq * 7 + 6, none⟩ = some (.slice d9 d10 d11) ∧ y.cell? ⟨NQ, rr * 7, none⟩ = some (.int .i64 Y.n) ∧ y.cell? ⟨NQ, rr * 7 + 1, none⟩ = some (.int .i64 Y.s0) ∧ y.cell? ⟨NQ, rr * 7 + 2, none⟩ = some (.int .i64 Y.s1) ∧ y.cell? ⟨NQ, rr * 7 + 3, none⟩ = some (.slice e0 e1 e2) ∧ y.cell? ⟨NQ, rr * 7 + 4, none⟩ = some (.slice e3 e4 e5) ∧ y.cell? ⟨NQ, rr * 7 + 5, none⟩ = some (.slice e6 e7 e8) ∧ y.cell? ⟨NQ, rr * 7 + 6, none⟩ = some (.slice e9 e10 e11) ∧ y.cell? ⟨NJ, 0, none⟩ = some (.int .i64 J.n) ∧ y.cell? ⟨NJ, 1, none⟩ = some (.int .i64 J.s0) ∧ y.cell? ⟨NJ, 2, none⟩ = some (.int .i64 J.s1) ∧ y.cell? ⟨NJ, 3, none⟩ = some (.slice j0 j1 j2) ∧ y.cell? ⟨NJ, 4, none⟩ = some (.slice j3 j4 j5) ∧ y.cell? ⟨NJ, 5, none⟩ = some (.slice j6 j7 j8) ∧ y.cell? ⟨NJ, 6, none⟩ = some (.slice j9 j10 j11) ∧ y.cell? ⟨NR, 0, none⟩ = some (.int .i64 J.n) ∧ y.cell? ⟨NR, 1, none⟩ = some (.int .i64 J.s0) ∧ y.cell? ⟨NR, 2, none⟩ = some (.int .i64 J.s1) ∧ y.cell? ⟨NR, 3, none⟩ = some (.slice i0 i1 i2) ∧ y.cell? ⟨NR, 4, none⟩ = some (.slice i3 i4 i5) ∧ y.cell? ⟨NR, 5, none⟩ = some (.slice i6 i7 i8) ∧ y.cell? ⟨NR, 6, none⟩ = some (.slice i9 i10 i11) ∧ y.cell? ⟨NR, 7, none⟩ = some (.bool vj)) (by kernel_rfl) (K27.out _ (bdrew (Below.refl _ _))) (fun hHeld => ?_)
                            refine tk 0 (v := ?_) ?_ ?_
                            rotate_left
                            · intro w hSw; (try dsimp only at hSw); go_simp; (try with_reducible rfl)
                            try simp only [Act.put, List.setIfInBounds_toArray, List.set_cons_zero, List.set_cons_succ]
                            refine tk 1 (v := ?_) ?_ ?_
                            rotate_left
                            · intro w hSw; (try dsimp only at hSw); go_simp; (try with_reducible rfl)
                            try simp only [Act.put, List.setIfInBounds_toArray, List.set_cons_zero, List.set_cons_succ]
                            refine tk 2 (v := ?_) ?_ ?_
                            rotate_left
                            · intro w hSw; (try dsimp only at hSw); go_simp; (try with_reducible rfl)
                            try simp only [Act.put, List.setIfInBounds_toArray, List.set_cons_zero, List.set_cons_succ]
                            refine tk 3 (v := ?_) ?_ ?_
                            rotate_left
                            · intro w hSw; (try dsimp only at hSw); go_simp; (try with_reducible rfl)
                            try simp only [Act.put, List.setIfInBounds_toArray, List.set_cons_zero, List.set_cons_succ]
                            refine tk 4 (v := ?_) ?_ ?_
                            rotate_left
                            · intro w hSw; (try dsimp only at hSw); go_simp; (try with_reducible rfl)
                            try simp only [Act.put, List.setIfInBounds_toArray, List.set_cons_zero, List.set_cons_succ]
                            refine tk 5 (v := ?_) ?_ ?_
                            rotate_left
                            · intro w hSw; (try dsimp only at hSw); go_simp; (try with_reducible rfl)
                            try simp only [Act.put, List.setIfInBounds_toArray, List.set_cons_zero, List.set_cons_succ]
                            refine tk 6 (v := ?_) ?_ ?_
                            rotate_left
                            · intro w hSw; (try dsimp only at hSw); go_simp; (try with_reducible rfl)
                            try simp only [Act.put, List.setIfInBounds_toArray, List.set_cons_zero, List.set_cons_succ]
                            refine tk 7 (v := ?_) ?_ ?_
                            rotate_left
                            · intro w hSw; (try dsimp only at hSw); go_simp; (try with_reducible rfl)
                            try simp only [Act.put, List.setIfInBounds_toArray, List.set_cons_zero, List.set_cons_succ]
                            refine rd1 8 (fun K hK => ?_)
                            go_simp
                            go_at_call 34; refine (rdsame_m J J _ _ _ _ _ _ _ _ _ _ _ _ _ _ _ _ _ _ _ _ _ _ _ _ true _ (JW.out.below hHeld.1) (IW.out.below hHeld.1) (hid (dsm_self _))).mono ?_; rintro e u1 ⟨rfl, hu1⟩
                            refine hK.out _ _ (K27.out _ (bt hHeld.1 hu1)) (fun hHeld2 => ?_)
                            clear hK K hHeld; have hHeld := hHeld2; clear hHeld2
                            try simp only [Act.put, List.setIfInBounds_toArray, List.set_cons_zero, List.set_cons_succ]
                            refine tk 9 (v := ?_) ?_ ?_
                            rotate_left
                            · intro w hSw; (try dsimp only at hSw); go_simp; (try with_reducible rfl)
                            try simp only [Act.put, List.setIfInBounds_toArray, List.set_cons_zero, List.set_cons_succ]
                            refine tk 10 (v := ?_) ?_ ?_
                            rotate_left
                            · intro w hSw; (try dsimp only at hSw); go_simp; (try with_reducible rfl)
                            try simp only [Act.put, List.setIfInBounds_toArray, List.set_cons_zero, List.set_cons_succ]
                            refine tk 11 (v := ?_) ?_ ?_
                            rotate_left
                            · intro w hSw; (try dsimp only at hSw); go_simp; (try with_reducible rfl)
                            try simp only [Act.put, List.setIfInBounds_toArray, List.set_cons_zero, List.set_cons_succ]
                            refine tk 12 (v := ?_) ?_ ?_
                            rotate_left
                            · intro w hSw; (try dsimp only at hSw); go_simp; (try with_reducible rfl)
                            try simp only [Act.put, List.setIfInBounds_toArray, List.set_cons_zero, List.set_cons_succ]
                            refine tk 13 (v := ?_) ?_ ?_
                            rotate_left
                            · intro w hSw; (try dsimp only at hSw); go_simp; (try with_reducible rfl)
                            try simp only [Act.put, List.setIfInBounds_toArray, List.set_cons_zero, List.set_cons_succ]
                            refine tk 14 (v := ?_) ?_ ?_
                            rotate_left
                            · intro w hSw; (try dsimp only at hSw); go_simp; (try with_reducible rfl)
                            try simp only [Act.put, List.setIfInBounds_toArray, List.set_cons_zero, List.set_cons_succ]
                            refine tk 15 (v := ?_) ?_ ?_
                            rotate_left
                            · intro w hSw; (try dsimp only at hSw); go_simp; (try with_reducible rfl)
                            try simp only [Act.put, List.setIfInBounds_toArray, List.set_cons_zero, List.set_cons_succ]
                            refine tk 16 (v := ?_) ?_ ?_
                            rotate_left
                            · intro w hSw; (try dsimp only at hSw); go_simp; (try with_reducible rfl)
                            try simp only [Act.put, List.setIfInBounds_toArray, List.set_cons_zero, List.set_cons_succ]
                            refine tk 17 (v := ?_) ?_ ?_
                            rotate_left
                            · intro w hSw; (try dsimp only at hSw); go_simp; (try with_reducible rfl)
                            try simp only [Act.put, List.setIfInBounds_toArray, List.set_cons_zero, List.set_cons_succ]
                            refine tk 18 (v := ?_) ?_ ?_
                            rotate_left
                            · intro w hSw; (try dsimp only at hSw); go_simp; (try with_reducible rfl)
                            try simp only [Act.put, List.setIfInBounds_toArray, List.set_cons_zero, List.set_cons_succ]
                            refine tk 19 (v := ?_) ?_ ?_
                            rotate_left
                            · intro w hSw; (try dsimp only at hSw); go_simp; (try with_reducible rfl)
                            try simp only [Act.put, List.setIfInBounds_toArray, List.set_cons_zero, List.set_cons_succ]
                            refine tk 21 (v := ?_) ?_ ?_
                            rotate_left
                            · intro w hSw; (try dsimp only at hSw); go_simp; (try with_reducible rfl)
                            try simp only [Act.put, List.setIfInBounds_toArray, List.set_cons_zero, List.set_cons_succ]
                            refine tk 22 (v := ?_) ?_ ?_
                            rotate_left
                            · intro w hSw; (try dsimp only at hSw); go_simp; (try with_reducible rfl)
                            try simp only [Act.put, List.setIfInBounds_toArray, List.set_cons_zero, List.set_cons_succ]
                            refine tk 23 (v := ?_) ?_ ?_
                            rotate_left
                            · intro w hSw; (try dsimp only at hSw); go_simp; (try with_reducible rfl)
                            try simp only [Act.put, List.setIfInBounds_toArray, List.set_cons_zero, List.set_cons_succ]
                            refine tk 24 (v := ?_) ?_ ?_
                            rotate_left
                            · intro w hSw; (try dsimp only at hSw); go_simp; (try with_reducible rfl)
                            try simp only [Act.put, List.setIfInBounds_toArray, List.set_cons_zero, List.set_cons_succ]
                            refine tk 25 (v := ?_) ?_ ?_
                            rotate_left
                            · intro w hSw; (try dsimp only at hSw); go_simp; (try with_reducible rfl)
                            try simp only [Act.put, List.setIfInBounds_toArray, List.set_cons_zero, List.set_cons_succ]
                            refine tk 26 (v := ?_) ?_ ?_
                            rotate_left
                            · intro w hSw; (try dsimp only at hSw); go_simp; (try with_reducible rfl)
                            try simp only [Act.put, List.setIfInBounds_toArray, List.set_cons_zero, List.set_cons_succ]
                            refine tk 27 (v := ?_) ?_ ?_
                            rotate_left
                            · intro w hSw; (try dsimp only at hSw); go_simp; (try with_reducible rfl)
                            try simp only [Act.put, List.setIfInBounds_toArray, List.set_cons_zero, List.set_cons_succ]
                            refine tk 28 (v := ?_) ?_ ?_
                            rotate_left
                            · intro w hSw; (try dsimp only at hSw); go_simp; (try with_reducible rfl)
                            try simp only [Act.put, List.setIfInBounds_toArray, List.set_cons_zero, List.set_cons_succ]
                            refine rd1 20 (fun K hK => ?_)
                            go_simp
                            go_at_call 44; refine (dsame_m X Y _ _ _ _ _ _ _ _ _ _ _ _ _ _ _ _ _ _ _ _ _ _ _ _ vs _ (GX.out.1.below (bt BB.out hHeld.1)) (GY.out.1.below (bt BB.out hHeld.1)) EVS).mono ?_; rintro e u2 ⟨rfl, hu2⟩
                            refine hK.out _ _ (K27.out _ (bt hHeld.1 hu2)) (fun hHeld2 => ?_)
                            clear hK K hHeld; have hHeld := hHeld2; clear hHeld2
                            try simp only [Act.put, List.setIfInBounds_toArray, List.set_cons_zero, List.set_cons_succ]
                            refine rd1 29 (fun K hK => ?_)
                            go_simp
                            go_at_call 34; refine (rdsame_m X Y _ _ _ _ _ _ _ _ _ _ _ _ _ _ _ _ _ _ _ _ _ _ _ _ vs _ (GX.out.1.below (bt BB.out hHeld.1)) (GY.out.1.below (bt BB.out hHeld.1)) EVS).mono ?_; rintro e u3 ⟨rfl, hu3⟩
                            refine hK.out _ _ (K27.out _ (bt hHeld.1 hu3)) (fun hHeld2 => ?_)
                            clear hK K hHeld; have hHeld := hHeld2; clear hHeld2
                            try simp only [Act.put, List.setIfInBounds_toArray, List.set_cons_zero, List.set_cons_succ]
                            refine tk 30 (v := ?_) ?_ ?_
                            rotate_left
                            · intro w hSw; (try dsimp only at hSw); go_simp; (try with_reducible rfl)
                            try simp only [Act.put, List.setIfInBounds_toArray, List.set_cons_zero, List.set_cons_succ]
                            refine tk 31 (v := ?_) ?_ ?_
                            rotate_left
                            · intro w hSw; (try dsimp only at hSw); go_simp; (try with_reducible rfl)
                            try simp only [Act.put, List.setIfInBounds_toArray, List.set_cons_zero, List.set_cons_succ]
                            refine wpAnyH_done (by kernel_rfl) ?_ _
                            refine NoPanic.normal ?_
                            replace BB := hid (bt BB.out hHeld.1)
                            clear hHeld K27
                            go_wp2
                            go_roundw
                            case rel => exact ⟨rr + 1, by omega, by go_num, hid (KQ.out.step BB.out), hid (bt BW.out BB.out)⟩
                            case measure => simp [intOf]; omega
                        · have hqf5 : decide ((rr : Int) < 4) = false := decide_eq_false (by omega)
                          have hqi5 : ¬ (rr : Int) < 4 := by omega
                          go_wp2
                          go_roundw
                          case rel => exact ⟨qq + 1, by omega, by go_num, KQ⟩
                          case measure => simp [intOf]; omega
                  · have hqf4 : decide ((qq : Int) < 4) = false := decide_eq_false (by omega)
                    have hqi4 : ¬ (qq : Int) < 4 := by omega
                    go_wp2
                    go_roundw
                    case rel => exact ⟨q + 1, by omega, by go_num, hid (KX.out.step KQ.out.1), hid (KF.out.step KQ.out.1)⟩
                    case measure => simp [intOf]; omega
          · have hqf : decide ((q : Int) < 3) = false := decide_eq_false (by omega)
            have hqi : ¬ (q : Int) < 3 := by omega
            go_wp2_with (go_at_call 31; refine (dwakes_any _).mono ?_; rintro e wW ⟨rfl, hb⟩; replace KX := hid (KX.out.step hb); clear hb)
            go_ret
            exact ⟨rfl, KX.out.1⟩
    · have HLB : Hid (decide ((b1 ≤ 60 ∧ b4 ≤ 60) ∧ b7 ≤ 60 ∧ b10 ≤ 60) = false) := hid (decide_eq_false hLB)
      clear hLA hLB
      as_aux_lemma =>
      skip
      go_enter Try.func9, Try.ntmps9
      go_upto_region 1 with fail
      generalize w.alloc (.cells #[.int .i64 m, .int .i64 dA.n, .int .i64 dA.s0, .int .i64 dA.s1, .slice a0 a1 a2, .slice a3 a4 a5, .slice a6 a7 a8, .slice a9 a10 a11, .int .i64 dB.n, .int .i64 dB.s0, .int .i64 dB.s1, .slice b0 b1 b2, .slice b3 b4 b5, .slice b6 b7 b8, .slice b9 b10 b11] 70) = W at KX ⊢
      obtain ⟨f0, f1, f2, f3, f4, f5, f6, f7, f8, f9, f10, f11, f12, f13, f14⟩ := box_15d KX.out.2.2
      go_wp2_with (first
        | (go_at_call 30; clear tkA; refine (dlight_m dA a0 a1 a2 a3 a4 a5 a6 a7 a8 a9 a10 a11 true _ (HA.out.1.below KX.out.1) HLA).mono ?_; rintro e wl ⟨rfl, hb⟩; replace KX := hid (KX.out.step hb); clear hb f0 f1 f2 f3 f4 f5 f6 f7 f8 f9 f10 f11 f12 f13 f14; obtain ⟨f0, f1, f2, f3, f4, f5, f6, f7, f8, f9, f10, f11, f12, f13, f14⟩ := box_15d KX.out.2.2)
        | (go_at_call 30; refine (dlight_m dB b0 b1 b2 b3 b4 b5 b6 b7 b8 b9 b10 b11 false _ (HB.out.1.below KX.out.1) HLB).mono ?_; rintro e wl ⟨rfl, hb⟩; replace KX := hid (KX.out.step hb); clear hb f0 f1 f2 f3 f4 f5 f6 f7 f8 f9 f10 f11 f12 f13 f14; obtain ⟨f0, f1, f2, f3, f4, f5, f6, f7, f8, f9, f10, f11, f12, f13, f14⟩ := box_15d KX.out.2.2)
        | (go_at_call 31; refine (dwakes_any _).mono ?_; rintro e wW ⟨rfl, hb⟩; replace KX := hid (KX.out.step hb); clear hb))
      go_ret
      exact ⟨rfl, KX.out.1⟩
  · have HLA : Hid (decide ((a1 ≤ 60 ∧ a4 ≤ 60) ∧ a7 ≤ 60 ∧ a10 ≤ 60) = false) := hid (decide_eq_false hLA)
    clear hLA
    as_aux_lemma =>
    skip
    go_enter Try.func9, Try.ntmps9
    go_upto_region 1 with fail
    generalize w.alloc (.cells #[.int .i64 m, .int .i64 dA.n, .int .i64 dA.s0, .int .i64 dA.s1, .slice a0 a1 a2, .slice a3 a4 a5, .slice a6 a7 a8, .slice a9 a10 a11, .int .i64 dB.n, .int .i64 dB.s0, .int .i64 dB.s1, .slice b0 b1 b2, .slice b3 b4 b5, .slice b6 b7 b8, .slice b9 b10 b11] 70) = W at KX ⊢
    obtain ⟨f0, f1, f2, f3, f4, f5, f6, f7, f8, f9, f10, f11, f12, f13, f14⟩ := box_15d KX.out.2.2
    go_wp2_with (first
      | (go_at_call 30; clear tkA; refine (dlight_m dA a0 a1 a2 a3 a4 a5 a6 a7 a8 a9 a10 a11 false _ (HA.out.1.below KX.out.1) HLA).mono ?_; rintro e wl ⟨rfl, hb⟩; replace KX := hid (KX.out.step hb); clear hb f0 f1 f2 f3 f4 f5 f6 f7 f8 f9 f10 f11 f12 f13 f14; obtain ⟨f0, f1, f2, f3, f4, f5, f6, f7, f8, f9, f10, f11, f12, f13, f14⟩ := box_15d KX.out.2.2)
      | (go_at_call 31; refine (dwakes_any _).mono ?_; rintro e wW ⟨rfl, hb⟩; replace KX := hid (KX.out.step hb); clear hb))
    go_ret
    exact ⟨rfl, KX.out.1⟩


end Go.Proofs.Ytjkkajhjcinalaa

/-
  Deltas joined in any order, and by parts: the walk of the law DeltaJoins.
  Conditions: as each theorem states them.
-/
import Derived.Test.YtjkkajhjcinalaaG6
namespace Go.Proofs.Ytjkkajhjcinalaa
open Go.ChangeShapes Go.WideShapes Go.ChangeAt Go.RowKit
set_option linter.unusedVariables false
set_option linter.unusedSimpArgs false
set_option maxRecDepth 100000

theorem box_21 {w : World} {D : Nat} {t : TypeId} {c0 c1 c2 c3 c4 c5 c6 c7 c8 c9 c10 c11 c12 c13 c14 c15 c16 c17 c18 c19 c20 : Value} (hD : w.heap[D]? = some (.cells #[c0, c1, c2, c3, c4, c5, c6, c7, c8, c9, c10, c11, c12, c13, c14, c15, c16, c17, c18, c19, c20] t)) : w.cell? ⟨D, 0, none⟩ = some c0 ∧ w.cell? ⟨D, 1, none⟩ = some c1 ∧ w.cell? ⟨D, 2, none⟩ = some c2 ∧ w.cell? ⟨D, 3, none⟩ = some c3 ∧ w.cell? ⟨D, 4, none⟩ = some c4 ∧ w.cell? ⟨D, 5, none⟩ = some c5 ∧ w.cell? ⟨D, 6, none⟩ = some c6 ∧ w.cell? ⟨D, 7, none⟩ = some c7 ∧ w.cell? ⟨D, 8, none⟩ = some c8 ∧ w.cell? ⟨D, 9, none⟩ = some c9 ∧ w.cell? ⟨D, 10, none⟩ = some c10 ∧ w.cell? ⟨D, 11, none⟩ = some c11 ∧ w.cell? ⟨D, 12, none⟩ = some c12 ∧ w.cell? ⟨D, 13, none⟩ = some c13 ∧ w.cell? ⟨D, 14, none⟩ = some c14 ∧ w.cell? ⟨D, 15, none⟩ = some c15 ∧ w.cell? ⟨D, 16, none⟩ = some c16 ∧ w.cell? ⟨D, 17, none⟩ = some c17 ∧ w.cell? ⟨D, 18, none⟩ = some c18 ∧ w.cell? ⟨D, 19, none⟩ = some c19 ∧ w.cell? ⟨D, 20, none⟩ = some c20 := by
  refine ⟨?_, ?_, ?_, ?_, ?_, ?_, ?_, ?_, ?_, ?_, ?_, ?_, ?_, ?_, ?_, ?_, ?_, ?_, ?_, ?_, ?_⟩ <;> simp [World.cell?, hD]

set_option maxHeartbeats 64000000 in
theorem joins_dwalk (t : Bool) (A : Dl) (a0 : Option Addr) (a1 a2 : Nat) (a3 : Option Addr) (a4 a5 : Nat) (a6 : Option Addr) (a7 a8 : Nat) (a9 : Option Addr) (a10 a11 : Nat) (B : Dl) (b0 : Option Addr) (b1 b2 : Nat) (b3 : Option Addr) (b4 b5 : Nat) (b6 : Option Addr) (b7 b8 : Nat) (b9 : Option Addr) (b10 b11 : Nat) (C : Dl) (c0 : Option Addr) (c1 c2 : Nat) (c3 : Option Addr) (c4 c5 : Nat) (c6 : Option Addr) (c7 c8 : Nat) (c9 : Option Addr) (c10 c11 : Nat) (w : World) (hA : DW w a0 a1 a2 a3 a4 a5 a6 a7 a8 a9 a10 a11 A ∧ okd A) (hB : DW w b0 b1 b2 b3 b4 b5 b6 b7 b8 b9 b10 b11 B ∧ okd B) (hC : DW w c0 c1 c2 c3 c4 c5 c6 c7 c8 c9 c10 c11 C ∧ okd C) :
    Calls Try.prog 12 #[.bool t, (.agg #[.int .i64 A.n, .int .i64 A.s0, .int .i64 A.s1, .slice a0 a1 a2, .slice a3 a4 a5, .slice a6 a7 a8, .slice a9 a10 a11, .int .i64 B.n, .int .i64 B.s0, .int .i64 B.s1, .slice b0 b1 b2, .slice b3 b4 b5, .slice b6 b7 b8, .slice b9 b10 b11, .int .i64 C.n, .int .i64 C.s0, .int .i64 C.s1, .slice c0 c1 c2, .slice c3 c4 c5, .slice c6 c7 c8, .slice c9 c10 c11])] w fun e w' => e = .returned (.bool true) ∧ Below w.heap.size w w' := by
  have HA := hid hA
  have HB := hid hB
  have HC := hid hC
  have KX := hid (kp_new w (.cells #[.int .i64 A.n, .int .i64 A.s0, .int .i64 A.s1, .slice a0 a1 a2, .slice a3 a4 a5, .slice a6 a7 a8, .slice a9 a10 a11, .int .i64 B.n, .int .i64 B.s0, .int .i64 B.s1, .slice b0 b1 b2, .slice b3 b4 b5, .slice b6 b7 b8, .slice b9 b10 b11, .int .i64 C.n, .int .i64 C.s0, .int .i64 C.s1, .slice c0 c1 c2, .slice c3 c4 c5, .slice c6 c7 c8, .slice c9 c10 c11] 106))
  have tkA : True := trivial
  have tkB : True := trivial
  clear hA hB hC
  by_cases hA : ((a1 ≤ 60 ∧ a4 ≤ 60) ∧ a7 ≤ 60 ∧ a10 ≤ 60)
  · have HLA := (hid (decide_eq_true hA) : Hid (decide ((a1 ≤ 60 ∧ a4 ≤ 60) ∧ a7 ≤ 60 ∧ a10 ≤ 60) = true))
    by_cases hB : ((b1 ≤ 60 ∧ b4 ≤ 60) ∧ b7 ≤ 60 ∧ b10 ≤ 60)
    · have HLB := (hid (decide_eq_true hB) : Hid (decide ((b1 ≤ 60 ∧ b4 ≤ 60) ∧ b7 ≤ 60 ∧ b10 ≤ 60) = true))
      by_cases hC : ((c1 ≤ 60 ∧ c4 ≤ 60) ∧ c7 ≤ 60 ∧ c10 ≤ 60)
      · have HLC := (hid (decide_eq_true hC) : Hid (decide ((c1 ≤ 60 ∧ c4 ≤ 60) ∧ c7 ≤ 60 ∧ c10 ≤ 60) = true))
        have SA : Hid (shn 60 A) := hid (by have h := dw_len HA.out.1; unfold shn; omega)
        have SB : Hid (shn 60 B) := hid (by have h := dw_len HB.out.1; unfold shn; omega)
        have SC : Hid (shn 60 C) := hid (by have h := dw_len HC.out.1; unfold shn; omega)
        clear hA hB hC
        obtain ⟨M, hM⟩ : ∃ y, (if t then 2 else 1 : Int) = y := ⟨_, rfl⟩
        have HM := hid hM
        have HM2 := hid (many_12d t M hM)
        clear hM
        obtain ⟨X, hX⟩ : ∃ y, djC M A B = y := ⟨_, rfl⟩
        have FX := hid hX
        clear hX
        obtain ⟨P, hP⟩ : ∃ y, djB M A B = y := ⟨_, rfl⟩
        have FP := hid hP
        clear hP
        have FX2 : Hid (djC M B A = X) := hid (by rw [djC_comm]; exact FX.out)
        have FP2 : Hid (djB M B A = P) := hid (by rw [djB_comm]; exact FP.out)
        have OX : Hid (okd X) := hid (by rw [← FX.out]; exact djC_ok HA.out.2 HB.out.2)
        have SX : Hid (shn 120 X) := hid (by rw [← FX.out]; exact djC_sh SA.out SB.out)
        obtain ⟨U, hU⟩ : ∃ y, djC M X C = y := ⟨_, rfl⟩
        have FU := hid hU
        clear hU
        obtain ⟨R, hR⟩ : ∃ y, djB M X C = y := ⟨_, rfl⟩
        have FR := hid hR
        clear hR
        obtain ⟨V, hV⟩ : ∃ y, djC M B C = y := ⟨_, rfl⟩
        have FV := hid hV
        clear hV
        obtain ⟨Sv, hSv⟩ : ∃ y, djB M B C = y := ⟨_, rfl⟩
        have FSv := hid hSv
        clear hSv
        have OV : Hid (okd V) := hid (by rw [← FV.out]; exact djC_ok HB.out.2 HC.out.2)
        have SV : Hid (shn 120 V) := hid (by rw [← FV.out]; exact djC_sh SB.out SC.out)
        obtain ⟨Z, hZ⟩ : ∃ y, djC M A V = y := ⟨_, rfl⟩
        have FZ := hid hZ
        clear hZ
        obtain ⟨T, hT⟩ : ∃ y, djB M A V = y := ⟨_, rfl⟩
        have FT := hid hT
        clear hT
        have UZ : Hid (P = true → R = true → Sv = true → T = true → U = Z) := hid (fun h1 h2 h3 h4 => by
          have q1 := FP.out
          have q2 := FR.out
          have q3 := FSv.out
          have q4 := FT.out
          rw [← FX.out] at q2
          rw [← FV.out] at q4
          rw [h1] at q1
          rw [h2] at q2
          rw [h3] at q3
          rw [h4] at q4
          have e := djR_assoc q1 q2 q3 q4
          rw [FX.out, FV.out] at e
          rw [← FU.out, ← FZ.out]
          exact e)
        have epp : (P != P) = false := by simp
        obtain ⟨f, hf⟩ : ∃ y, dnB M A = y := ⟨_, rfl⟩
        have Ff := hid hf
        clear hf
        obtain ⟨n, hn⟩ : ∃ y, dnC M A = y := ⟨_, rfl⟩
        have Fn := hid hn
        clear hn
        have On : Hid (okd n) := hid (by rw [← Fn.out]; exact dnC_ok HA.out.2)
        have Sn : Hid (shn 60 n) := hid (by rw [← Fn.out]; exact dnC_sh SA.out)
        go_enter Try.func12, Try.ntmps12
        go_upto_region 1 with fail
        generalize w.alloc (.cells #[.int .i64 A.n, .int .i64 A.s0, .int .i64 A.s1, .slice a0 a1 a2, .slice a3 a4 a5, .slice a6 a7 a8, .slice a9 a10 a11, .int .i64 B.n, .int .i64 B.s0, .int .i64 B.s1, .slice b0 b1 b2, .slice b3 b4 b5, .slice b6 b7 b8, .slice b9 b10 b11, .int .i64 C.n, .int .i64 C.s0, .int .i64 C.s1, .slice c0 c1 c2, .slice c3 c4 c5, .slice c6 c7 c8, .slice c9 c10 c11] 106) = W at KX ⊢
        obtain ⟨g0, g1, g2, g3, g4, g5, g6, g7, g8, g9, g10, g11, g12, g13, g14, g15, g16, g17, g18, g19, g20⟩ := box_21 KX.out.2.2
        go_upto_region 4 with (first
          | (go_at_call 30; clear tkA; refine (dlight_m A a0 a1 a2 a3 a4 a5 a6 a7 a8 a9 a10 a11 true _ (HA.out.1.below KX.out.1) HLA).mono ?_; rintro e wA ⟨rfl, hb⟩; replace KX := hid (KX.out.step hb); clear hb; clear g0 g1 g2 g3 g4 g5 g6 g7 g8 g9 g10 g11 g12 g13 g14 g15 g16 g17 g18 g19 g20; obtain ⟨g0, g1, g2, g3, g4, g5, g6, g7, g8, g9, g10, g11, g12, g13, g14, g15, g16, g17, g18, g19, g20⟩ := box_21 KX.out.2.2)
          | (go_at_call 30; clear tkB; refine (dlight_m B b0 b1 b2 b3 b4 b5 b6 b7 b8 b9 b10 b11 true _ (HB.out.1.below KX.out.1) HLB).mono ?_; rintro e wB ⟨rfl, hb⟩; replace KX := hid (KX.out.step hb); clear hb; clear g0 g1 g2 g3 g4 g5 g6 g7 g8 g9 g10 g11 g12 g13 g14 g15 g16 g17 g18 g19 g20; obtain ⟨g0, g1, g2, g3, g4, g5, g6, g7, g8, g9, g10, g11, g12, g13, g14, g15, g16, g17, g18, g19, g20⟩ := box_21 KX.out.2.2)
          | (go_at_call 30; refine (dlight_m C c0 c1 c2 c3 c4 c5 c6 c7 c8 c9 c10 c11 true _ (HC.out.1.below KX.out.1) HLC).mono ?_; rintro e wC ⟨rfl, hb⟩; replace KX := hid (KX.out.step hb); clear hb; clear g0 g1 g2 g3 g4 g5 g6 g7 g8 g9 g10 g11 g12 g13 g14 g15 g16 g17 g18 g19 g20; obtain ⟨g0, g1, g2, g3, g4, g5, g6, g7, g8, g9, g10, g11, g12, g13, g14, g15, g16, g17, g18, g19, g20⟩ := box_21 KX.out.2.2)
          | (go_at_call 51; refine (dmany_m t M _ HM).mono ?_; rintro e wm ⟨rfl, hw⟩; have hw2 := hw.symm; clear hw; subst hw2))
        go_upto_region 5 with (first
          | (go_at_call 42; refine (djoin_m M A B a0 a1 a2 a3 a4 a5 a6 a7 a8 a9 a10 a11 b0 b1 b2 b3 b4 b5 b6 b7 b8 b9 b10 b11 X P _ (HA.out.1.below KX.out.1) (HB.out.1.below KX.out.1) HA.out.2 HB.out.2 (shn_5 SA.out (by omega)) (shn_5 SB.out (by omega)) FX FP).mono ?_; rintro e v1 ⟨⟨x0, x1, x2, x3, x4, x5, x6, x7, x8, x9, x10, x11, rfl, hd, _⟩, hb⟩; replace KX := hid (KX.out.step hb); have DX := hid hd; clear hd hb g0 g1 g2 g3 g4 g5 g6 g7 g8 g9 g10 g11 g12 g13 g14 g15 g16 g17 g18 g19 g20)
          | (have KZ : Hid (Kp w (v1.alloc (.cells #[.int .i64 0, .int .i64 0, .int .i64 0, .slice none 0 0, .slice none 0 0, .slice none 0 0, .slice none 0 0] 68)) v1.heap.size (.cells #[.int .i64 0, .int .i64 0, .int .i64 0, .slice none 0 0, .slice none 0 0, .slice none 0 0, .slice none 0 0] 68)) := hid (kp_new2 KX.out.1 _ _ rfl); refine wpList_store_whole rfl 68 (.tmp 6) (.tmp 48) rfl v1.heap.size (dlC X.n X.s0 X.s1 x0 x1 x2 x3 x4 x5 x6 x7 x8 x9 x10 x11) rfl rfl 68 _ KZ.out.2.2 rfl (by show _ = some 7; exact size_dl) (dlC_one _ _ _ _ _ _ _ _ _ _ _ _ _ _ _) ?_; intro w9 hp9 hg9; have K6 := hid (kp_at KZ.out hg9 hp9); replace KX := hid (kp_new_gr KX.out hg9); replace DX := hid (dw_new_gr DX.out hg9); clear hp9 hg9 KZ))
        generalize v1.heap.size = N6 at K6 ⊢
        obtain ⟨g0, g1, g2, g3, g4, g5, g6, g7, g8, g9, g10, g11, g12, g13, g14, g15, g16, g17, g18, g19, g20⟩ := box_21 KX.out.2.2
        go_upto_region 6 with (first
          | (go_at_call 42; refine (djoin_m M B A b0 b1 b2 b3 b4 b5 b6 b7 b8 b9 b10 b11 a0 a1 a2 a3 a4 a5 a6 a7 a8 a9 a10 a11 X P _ (HB.out.1.below KX.out.1) (HA.out.1.below KX.out.1) HB.out.2 HA.out.2 (shn_5 SB.out (by omega)) (shn_5 SA.out (by omega)) FX2 FP2).mono ?_; rintro e v2 ⟨⟨y0, y1, y2, y3, y4, y5, y6, y7, y8, y9, y10, y11, rfl, hd, _⟩, hb⟩; replace KX := hid (KX.out.step hb); replace DX := hid (DX.out.below hb); replace K6 := hid (K6.out.step hb); have DY := hid hd; clear hd hb g0 g1 g2 g3 g4 g5 g6 g7 g8 g9 g10 g11 g12 g13 g14 g15 g16 g17 g18 g19 g20)
          | (have KZ : Hid (Kp w (v2.alloc (.cells #[.int .i64 0, .int .i64 0, .int .i64 0, .slice none 0 0, .slice none 0 0, .slice none 0 0, .slice none 0 0] 68)) v2.heap.size (.cells #[.int .i64 0, .int .i64 0, .int .i64 0, .slice none 0 0, .slice none 0 0, .slice none 0 0, .slice none 0 0] 68)) := hid (kp_new2 KX.out.1 _ _ rfl); refine wpList_store_whole rfl 68 (.tmp 8) (.tmp 57) rfl v2.heap.size (dlC X.n X.s0 X.s1 y0 y1 y2 y3 y4 y5 y6 y7 y8 y9 y10 y11) rfl rfl 68 _ KZ.out.2.2 rfl (by show _ = some 7; exact size_dl) (dlC_one _ _ _ _ _ _ _ _ _ _ _ _ _ _ _) ?_; intro w9 hp9 hg9; have K8 := hid (kp_at KZ.out hg9 hp9); replace KX := hid (kp_new_gr KX.out hg9); replace DX := hid (dw_new_gr DX.out hg9); replace K6 := hid (kp_new_gr K6.out hg9); replace DY := hid (dw_new_gr DY.out hg9); clear hp9 hg9 KZ))
        generalize v2.heap.size = N8 at K8 ⊢
        obtain ⟨p0, p1, p2, p3, p4, p5, p6⟩ := box_seven K6.out.2.2
        obtain ⟨q0, q1, q2, q3, q4, q5, q6⟩ := box_seven K8.out.2.2
        obtain ⟨g0, g1, g2, g3, g4, g5, g6, g7, g8, g9, g10, g11, g12, g13, g14, g15, g16, g17, g18, g19, g20⟩ := box_21 KX.out.2.2
        go_upto_region 8 with (go_at_call 44; refine (dsame_m X X _ _ _ _ _ _ _ _ _ _ _ _ _ _ _ _ _ _ _ _ _ _ _ _ true _ DX.out DY.out (hid (dsm_self _))).mono ?_; rintro e v3 ⟨rfl, hb⟩; replace KX := hid (KX.out.step hb); replace DX := hid (DX.out.below hb); replace K6 := hid (K6.out.step hb); replace DY := hid (DY.out.below hb); replace K8 := hid (K8.out.step hb); clear hb p0 p1 p2 p3 p4 p5 p6 q0 q1 q2 q3 q4 q5 q6 g0 g1 g2 g3 g4 g5 g6 g7 g8 g9 g10 g11 g12 g13 g14 g15 g16 g17 g18 g19 g20)
        clear K8 DY
        obtain ⟨p0, p1, p2, p3, p4, p5, p6⟩ := box_seven K6.out.2.2
        obtain ⟨g0, g1, g2, g3, g4, g5, g6, g7, g8, g9, g10, g11, g12, g13, g14, g15, g16, g17, g18, g19, g20⟩ := box_21 KX.out.2.2
        go_upto_region 9 with (first
          | (go_at_call 42; refine (djoin_m M X C x0 x1 x2 x3 x4 x5 x6 x7 x8 x9 x10 x11 c0 c1 c2 c3 c4 c5 c6 c7 c8 c9 c10 c11 U R _ DX.out (HC.out.1.below KX.out.1) OX.out HC.out.2 (shn_5 SX.out (by omega)) (shn_5 SC.out (by omega)) FU FR).mono ?_; rintro e v4 ⟨⟨u0, u1, u2, u3, u4, u5, u6, u7, u8, u9, u10, u11, rfl, hd, _⟩, hb⟩; replace KX := hid (KX.out.step hb); replace DX := hid (DX.out.below hb); replace K6 := hid (K6.out.step hb); have DU := hid hd; clear hd hb g0 g1 g2 g3 g4 g5 g6 g7 g8 g9 g10 g11 g12 g13 g14 g15 g16 g17 g18 g19 g20 p0 p1 p2 p3 p4 p5 p6)
          | (have KZ : Hid (Kp w (v4.alloc (.cells #[.int .i64 0, .int .i64 0, .int .i64 0, .slice none 0 0, .slice none 0 0, .slice none 0 0, .slice none 0 0] 68)) v4.heap.size (.cells #[.int .i64 0, .int .i64 0, .int .i64 0, .slice none 0 0, .slice none 0 0, .slice none 0 0, .slice none 0 0] 68)) := hid (kp_new2 KX.out.1 _ _ rfl); refine wpList_store_whole rfl 68 (.tmp 10) (.tmp 74) rfl v4.heap.size (dlC U.n U.s0 U.s1 u0 u1 u2 u3 u4 u5 u6 u7 u8 u9 u10 u11) rfl rfl 68 _ KZ.out.2.2 rfl (by show _ = some 7; exact size_dl) (dlC_one _ _ _ _ _ _ _ _ _ _ _ _ _ _ _) ?_; intro w9 hp9 hg9; have K10 := hid (kp_at KZ.out hg9 hp9); replace KX := hid (kp_new_gr KX.out hg9); replace DX := hid (dw_new_gr DX.out hg9); replace K6 := hid (kp_new_gr K6.out hg9); replace DU := hid (dw_new_gr DU.out hg9); clear hp9 hg9 KZ))
        generalize v4.heap.size = N10 at K10 ⊢
        obtain ⟨g0, g1, g2, g3, g4, g5, g6, g7, g8, g9, g10, g11, g12, g13, g14, g15, g16, g17, g18, g19, g20⟩ := box_21 KX.out.2.2
        go_upto_region 10 with (first
          | (go_at_call 42; refine (djoin_m M B C b0 b1 b2 b3 b4 b5 b6 b7 b8 b9 b10 b11 c0 c1 c2 c3 c4 c5 c6 c7 c8 c9 c10 c11 V Sv _ (HB.out.1.below KX.out.1) (HC.out.1.below KX.out.1) HB.out.2 HC.out.2 (shn_5 SB.out (by omega)) (shn_5 SC.out (by omega)) FV FSv).mono ?_; rintro e v5 ⟨⟨o0, o1, o2, o3, o4, o5, o6, o7, o8, o9, o10, o11, rfl, hd, _⟩, hb⟩; replace KX := hid (KX.out.step hb); replace DX := hid (DX.out.below hb); replace K6 := hid (K6.out.step hb); replace DU := hid (DU.out.below hb); replace K10 := hid (K10.out.step hb); have DV := hid hd; clear hd hb g0 g1 g2 g3 g4 g5 g6 g7 g8 g9 g10 g11 g12 g13 g14 g15 g16 g17 g18 g19 g20)
          | (have KZ : Hid (Kp w (v5.alloc (.cells #[.int .i64 0, .int .i64 0, .int .i64 0, .slice none 0 0, .slice none 0 0, .slice none 0 0, .slice none 0 0] 68)) v5.heap.size (.cells #[.int .i64 0, .int .i64 0, .int .i64 0, .slice none 0 0, .slice none 0 0, .slice none 0 0, .slice none 0 0] 68)) := hid (kp_new2 KX.out.1 _ _ rfl); refine wpList_store_whole rfl 68 (.tmp 12) (.tmp 83) rfl v5.heap.size (dlC V.n V.s0 V.s1 o0 o1 o2 o3 o4 o5 o6 o7 o8 o9 o10 o11) rfl rfl 68 _ KZ.out.2.2 rfl (by show _ = some 7; exact size_dl) (dlC_one _ _ _ _ _ _ _ _ _ _ _ _ _ _ _) ?_; intro w9 hp9 hg9; have K12 := hid (kp_at KZ.out hg9 hp9); replace KX := hid (kp_new_gr KX.out hg9); replace DX := hid (dw_new_gr DX.out hg9); replace K6 := hid (kp_new_gr K6.out hg9); replace DU := hid (dw_new_gr DU.out hg9); replace K10 := hid (kp_new_gr K10.out hg9); replace DV := hid (dw_new_gr DV.out hg9); clear hp9 hg9 KZ))
        generalize v5.heap.size = N12 at K12 ⊢
        obtain ⟨p0, p1, p2, p3, p4, p5, p6⟩ := box_seven K12.out.2.2
        obtain ⟨g0, g1, g2, g3, g4, g5, g6, g7, g8, g9, g10, g11, g12, g13, g14, g15, g16, g17, g18, g19, g20⟩ := box_21 KX.out.2.2
        go_upto_region 11 with (first
          | (go_at_call 42; refine (djoin_m M A V a0 a1 a2 a3 a4 a5 a6 a7 a8 a9 a10 a11 o0 o1 o2 o3 o4 o5 o6 o7 o8 o9 o10 o11 Z T _ (HA.out.1.below KX.out.1) DV.out HA.out.2 OV.out (shn_5 SA.out (by omega)) (shn_5 SV.out (by omega)) FZ FT).mono ?_; rintro e v6 ⟨⟨z0, z1, z2, z3, z4, z5, z6, z7, z8, z9, z10, z11, rfl, hd, _⟩, hb⟩; replace KX := hid (KX.out.step hb); replace DX := hid (DX.out.below hb); replace K6 := hid (K6.out.step hb); replace DU := hid (DU.out.below hb); replace K10 := hid (K10.out.step hb); replace DV := hid (DV.out.below hb); replace K12 := hid (K12.out.step hb); have DZ := hid hd; clear hd hb g0 g1 g2 g3 g4 g5 g6 g7 g8 g9 g10 g11 g12 g13 g14 g15 g16 g17 g18 g19 g20 p0 p1 p2 p3 p4 p5 p6)
          | (have KZ : Hid (Kp w (v6.alloc (.cells #[.int .i64 0, .int .i64 0, .int .i64 0, .slice none 0 0, .slice none 0 0, .slice none 0 0, .slice none 0 0] 68)) v6.heap.size (.cells #[.int .i64 0, .int .i64 0, .int .i64 0, .slice none 0 0, .slice none 0 0, .slice none 0 0, .slice none 0 0] 68)) := hid (kp_new2 KX.out.1 _ _ rfl); refine wpList_store_whole rfl 68 (.tmp 14) (.tmp 91) rfl v6.heap.size (dlC Z.n Z.s0 Z.s1 z0 z1 z2 z3 z4 z5 z6 z7 z8 z9 z10 z11) rfl rfl 68 _ KZ.out.2.2 rfl (by show _ = some 7; exact size_dl) (dlC_one _ _ _ _ _ _ _ _ _ _ _ _ _ _ _) ?_; intro w9 hp9 hg9; have K14 := hid (kp_at KZ.out hg9 hp9); replace KX := hid (kp_new_gr KX.out hg9); replace DX := hid (dw_new_gr DX.out hg9); replace K6 := hid (kp_new_gr K6.out hg9); replace DU := hid (dw_new_gr DU.out hg9); replace K10 := hid (kp_new_gr K10.out hg9); replace DV := hid (dw_new_gr DV.out hg9); replace K12 := hid (kp_new_gr K12.out hg9); replace DZ := hid (dw_new_gr DZ.out hg9); clear hp9 hg9 KZ))
        generalize v6.heap.size = N14 at K14 ⊢
        clear K6 DX K12 DV
        rename World => wq
        go_cut [108] (fun p wx => p = .bool false ∧ Hid (Kp w wx w.heap.size (.cells #[.int .i64 A.n, .int .i64 A.s0, .int .i64 A.s1, .slice a0 a1 a2, .slice a3 a4 a5, .slice a6 a7 a8, .slice a9 a10 a11, .int .i64 B.n, .int .i64 B.s0, .int .i64 B.s1, .slice b0 b1 b2, .slice b3 b4 b5, .slice b6 b7 b8, .slice b9 b10 b11, .int .i64 C.n, .int .i64 C.s0, .int .i64 C.s1, .slice c0 c1 c2, .slice c3 c4 c5, .slice c6 c7 c8, .slice c9 c10 c11] 106)))
        case first =>
          cases P with
          | false =>
            go_wp2
            go_meet
            exact ⟨rfl, KX⟩
          | true =>
          cases R with
          | false =>
            go_wp2
            go_meet
            exact ⟨rfl, KX⟩
          | true =>
          cases Sv with
          | false =>
            go_wp2
            go_meet
            exact ⟨rfl, KX⟩
          | true =>
          cases T with
          | false =>
            go_wp2
            go_meet
            exact ⟨rfl, KX⟩
          | true =>
            have e := UZ.out rfl rfl rfl rfl
            have SS : Hid (dsm U Z = true) := hid (by rw [e]; exact dsm_self _)
            clear e
            obtain ⟨p0, p1, p2, p3, p4, p5, p6⟩ := box_seven K10.out.2.2
            obtain ⟨q0, q1, q2, q3, q4, q5, q6⟩ := box_seven K14.out.2.2
            go_wp2_with (go_at_call 44; refine (dsame_m U Z _ _ _ _ _ _ _ _ _ _ _ _ _ _ _ _ _ _ _ _ _ _ _ _ true _ DU.out DZ.out SS).mono ?_; rintro e v7 ⟨rfl, hb⟩; replace KX := hid (KX.out.step hb); clear hb)
            go_meet
            exact ⟨rfl, KX⟩
        case rest =>
          obtain ⟨rfl, KX⟩ := hcut
          clear K10 DU K14 DZ UZ
          rename World => wr
          obtain ⟨g0, g1, g2, g3, g4, g5, g6, g7, g8, g9, g10, g11, g12, g13, g14, g15, g16, g17, g18, g19, g20⟩ := box_21 KX.out.2.2
          cases f with
          | false =>
            go_wp2_with (first
              | (go_at_call 36; refine (dneg_m M A a0 a1 a2 a3 a4 a5 a6 a7 a8 a9 a10 a11 n false _ (HA.out.1.below KX.out.1) HA.out.2 (sh5_shd (shn_5 SA.out (by omega))) Fn Ff).mono ?_; rintro e v8 ⟨⟨n0, n1, n2, n3, n4, n5, n6, n7, n8, n9, n10, n11, rfl, hd, _⟩, hb⟩; replace KX := hid (KX.out.step hb); have DN := hid hd; clear hd hb g0 g1 g2 g3 g4 g5 g6 g7 g8 g9 g10 g11 g12 g13 g14 g15 g16 g17 g18 g19 g20)
              | (have KZ : Hid (Kp w (v8.alloc (.cells #[.int .i64 0, .int .i64 0, .int .i64 0, .slice none 0 0, .slice none 0 0, .slice none 0 0, .slice none 0 0] 68)) v8.heap.size (.cells #[.int .i64 0, .int .i64 0, .int .i64 0, .slice none 0 0, .slice none 0 0, .slice none 0 0, .slice none 0 0] 68)) := hid (kp_new2 KX.out.1 _ _ rfl); refine wpList_store_whole rfl 68 (.tmp 16) (.tmp 114) rfl v8.heap.size (dlC n.n n.s0 n.s1 n0 n1 n2 n3 n4 n5 n6 n7 n8 n9 n10 n11) rfl rfl 68 _ KZ.out.2.2 rfl (by show _ = some 7; exact size_dl) (dlC_one _ _ _ _ _ _ _ _ _ _ _ _ _ _ _) ?_; intro w9 hp9 hg9; have K16 := hid (kp_at KZ.out hg9 hp9); replace KX := hid (kp_new_gr KX.out hg9); replace DN := hid (dw_new_gr DN.out hg9); clear hp9 hg9 KZ)
              | (go_at_call 31; refine (dwakes_any _).mono ?_; rintro e wW ⟨rfl, hb⟩; replace KX := hid (KX.out.step hb); clear hb))
            go_ret
            exact ⟨rfl, KX.out.1⟩
          | true =>
          have TW := hid (dn_twice Ff.out HA.out.2)
          have TA : Hid (dnC M n = A) := hid (by rw [← Fn.out]; exact TW.out.2)
          have TB : Hid (dnB M n = true) := hid (by rw [← Fn.out]; exact TW.out.1)
          go_upto_region 15 with (first
            | (go_at_call 36; refine (dneg_m M A a0 a1 a2 a3 a4 a5 a6 a7 a8 a9 a10 a11 n true _ (HA.out.1.below KX.out.1) HA.out.2 (sh5_shd (shn_5 SA.out (by omega))) Fn Ff).mono ?_; rintro e v8 ⟨⟨n0, n1, n2, n3, n4, n5, n6, n7, n8, n9, n10, n11, rfl, hd, _⟩, hb⟩; replace KX := hid (KX.out.step hb); have DN := hid hd; clear hd hb g0 g1 g2 g3 g4 g5 g6 g7 g8 g9 g10 g11 g12 g13 g14 g15 g16 g17 g18 g19 g20)
            | (have KZ : Hid (Kp w (v8.alloc (.cells #[.int .i64 0, .int .i64 0, .int .i64 0, .slice none 0 0, .slice none 0 0, .slice none 0 0, .slice none 0 0] 68)) v8.heap.size (.cells #[.int .i64 0, .int .i64 0, .int .i64 0, .slice none 0 0, .slice none 0 0, .slice none 0 0, .slice none 0 0] 68)) := hid (kp_new2 KX.out.1 _ _ rfl); refine wpList_store_whole rfl 68 (.tmp 16) (.tmp 114) rfl v8.heap.size (dlC n.n n.s0 n.s1 n0 n1 n2 n3 n4 n5 n6 n7 n8 n9 n10 n11) rfl rfl 68 _ KZ.out.2.2 rfl (by show _ = some 7; exact size_dl) (dlC_one _ _ _ _ _ _ _ _ _ _ _ _ _ _ _) ?_; intro w9 hp9 hg9; have K16 := hid (kp_at KZ.out hg9 hp9); replace KX := hid (kp_new_gr KX.out hg9); replace DN := hid (dw_new_gr DN.out hg9); clear hp9 hg9 KZ))
          generalize v8.heap.size = N16 at K16 ⊢
          obtain ⟨p0, p1, p2, p3, p4, p5, p6⟩ := box_seven K16.out.2.2
          go_upto_region 16 with (first
            | (go_at_call 36; refine (dneg_m M n n0 n1 n2 n3 n4 n5 n6 n7 n8 n9 n10 n11 A true _ DN.out On.out (sh5_shd (shn_5 Sn.out (by omega))) TA TB).mono ?_; rintro e q1 ⟨⟨k0, k1, k2, k3, k4, k5, k6, k7, k8, k9, k10, k11, rfl, hd, _⟩, hb⟩; replace KX := hid (KX.out.step hb); replace DN := hid (DN.out.below hb); replace K16 := hid (K16.out.step hb); have DK := hid hd; clear hd hb p0 p1 p2 p3 p4 p5 p6)
            | (have KZ : Hid (Kp w (q1.alloc (.cells #[.int .i64 0, .int .i64 0, .int .i64 0, .slice none 0 0, .slice none 0 0, .slice none 0 0, .slice none 0 0] 68)) q1.heap.size (.cells #[.int .i64 0, .int .i64 0, .int .i64 0, .slice none 0 0, .slice none 0 0, .slice none 0 0, .slice none 0 0] 68)) := hid (kp_new2 KX.out.1 _ _ rfl); refine wpList_store_whole rfl 68 (.tmp 18) (.tmp 121) rfl q1.heap.size (dlC A.n A.s0 A.s1 k0 k1 k2 k3 k4 k5 k6 k7 k8 k9 k10 k11) rfl rfl 68 _ KZ.out.2.2 rfl (by show _ = some 7; exact size_dl) (dlC_one _ _ _ _ _ _ _ _ _ _ _ _ _ _ _) ?_; intro w9 hp9 hg9; have K18 := hid (kp_at KZ.out hg9 hp9); replace KX := hid (kp_new_gr KX.out hg9); replace DN := hid (dw_new_gr DN.out hg9); replace K16 := hid (kp_new_gr K16.out hg9); replace DK := hid (dw_new_gr DK.out hg9); clear hp9 hg9 KZ))
          generalize q1.heap.size = N18 at K18 ⊢
          obtain ⟨p0, p1, p2, p3, p4, p5, p6⟩ := box_seven K18.out.2.2
          obtain ⟨g0, g1, g2, g3, g4, g5, g6, g7, g8, g9, g10, g11, g12, g13, g14, g15, g16, g17, g18, g19, g20⟩ := box_21 KX.out.2.2
          go_upto_region 18 with (go_at_call 44; refine (dsame_m A A _ _ _ _ _ _ _ _ _ _ _ _ _ _ _ _ _ _ _ _ _ _ _ _ true _ DK.out (HA.out.1.below KX.out.1) (hid (dsm_self _))).mono ?_; rintro e q2 ⟨rfl, hb⟩; replace KX := hid (KX.out.step hb); replace DN := hid (DN.out.below hb); replace K16 := hid (K16.out.step hb); replace DK := hid (DK.out.below hb); replace K18 := hid (K18.out.step hb); clear hb p0 p1 p2 p3 p4 p5 p6 g0 g1 g2 g3 g4 g5 g6 g7 g8 g9 g10 g11 g12 g13 g14 g15 g16 g17 g18 g19 g20)
          clear K18 DK
          obtain ⟨Y, hY⟩ : ∃ y, djC M n A = y := ⟨_, rfl⟩
          have FY := hid hY
          obtain ⟨h, hh⟩ : ∃ y, djB M n A = y := ⟨_, rfl⟩
          have Fh := hid hh
          clear hY hh
          have Y0 : Hid (h = true → Y = dl0) := hid (fun e => by
            have h1 := Fh.out
            rw [e, ← Fn.out] at h1
            have h2 := dn_join Ff.out h1
            rw [Fn.out, FY.out] at h2
            exact h2)
          obtain ⟨p0, p1, p2, p3, p4, p5, p6⟩ := box_seven K16.out.2.2
          obtain ⟨g0, g1, g2, g3, g4, g5, g6, g7, g8, g9, g10, g11, g12, g13, g14, g15, g16, g17, g18, g19, g20⟩ := box_21 KX.out.2.2
          go_upto_region 19 with (first
            | (go_at_call 42; refine (djoin_m M n A n0 n1 n2 n3 n4 n5 n6 n7 n8 n9 n10 n11 a0 a1 a2 a3 a4 a5 a6 a7 a8 a9 a10 a11 Y h _ DN.out (HA.out.1.below KX.out.1) On.out HA.out.2 (shn_5 Sn.out (by omega)) (shn_5 SA.out (by omega)) FY Fh).mono ?_; rintro e q3 ⟨⟨y0, y1, y2, y3, y4, y5, y6, y7, y8, y9, y10, y11, rfl, hd, _⟩, hb⟩; replace KX := hid (KX.out.step hb); replace DN := hid (DN.out.below hb); replace K16 := hid (K16.out.step hb); have DY := hid hd; clear hd hb g0 g1 g2 g3 g4 g5 g6 g7 g8 g9 g10 g11 g12 g13 g14 g15 g16 g17 g18 g19 g20 p0 p1 p2 p3 p4 p5 p6)
            | (have KZ : Hid (Kp w (q3.alloc (.cells #[.int .i64 0, .int .i64 0, .int .i64 0, .slice none 0 0, .slice none 0 0, .slice none 0 0, .slice none 0 0] 68)) q3.heap.size (.cells #[.int .i64 0, .int .i64 0, .int .i64 0, .slice none 0 0, .slice none 0 0, .slice none 0 0, .slice none 0 0] 68)) := hid (kp_new2 KX.out.1 _ _ rfl); refine wpList_store_whole rfl 68 (.tmp 20) (.tmp 138) rfl q3.heap.size (dlC Y.n Y.s0 Y.s1 y0 y1 y2 y3 y4 y5 y6 y7 y8 y9 y10 y11) rfl rfl 68 _ KZ.out.2.2 rfl (by show _ = some 7; exact size_dl) (dlC_one _ _ _ _ _ _ _ _ _ _ _ _ _ _ _) ?_; intro w9 hp9 hg9; have K20 := hid (kp_at KZ.out hg9 hp9); replace KX := hid (kp_new_gr KX.out hg9); replace DN := hid (dw_new_gr DN.out hg9); replace K16 := hid (kp_new_gr K16.out hg9); replace DY := hid (dw_new_gr DY.out hg9); clear hp9 hg9 KZ))
          generalize q3.heap.size = N20 at K20 ⊢
          cases h with
          | false =>
            go_wp2_with (go_at_call 31; refine (dwakes_any _).mono ?_; rintro e wW ⟨rfl, hb⟩; replace KX := hid (KX.out.step hb); clear hb)
            go_ret
            exact ⟨rfl, KX.out.1⟩
          | true =>
            have e := Y0.out rfl
            subst e
            have ID := hid (did_0 HM2.out)
            obtain ⟨p0, p1, p2, p3, p4, p5, p6⟩ := box_seven K20.out.2.2
            go_wp2_with (first
              | (go_at_call 40; refine (didle_m M dl0 _ _ _ _ _ _ _ _ _ _ _ _ true _ DY.out dl0_ok (sh5_shd dl0_sh) ID).mono ?_; rintro e q4 ⟨rfl, hb⟩; replace KX := hid (KX.out.step hb); replace DN := hid (DN.out.below hb); replace K16 := hid (K16.out.step hb); replace DY := hid (DY.out.below hb); replace K20 := hid (K20.out.step hb); clear hb p0 p1 p2 p3 p4 p5 p6; obtain ⟨p0, p1, p2, p3, p4, p5, p6⟩ := box_seven K20.out.2.2)
              | (go_at_call 44; refine (dsame_m dl0 dl0 _ _ _ _ _ _ _ _ _ _ _ _ _ _ _ _ _ _ _ _ _ _ _ _ true _ DY.out (dw_0 _) (hid (dsm_self _))).mono ?_; rintro e q5 ⟨rfl, hb⟩; replace KX := hid (KX.out.step hb); replace DN := hid (DN.out.below hb); replace K16 := hid (K16.out.step hb); replace DY := hid (DY.out.below hb); replace K20 := hid (K20.out.step hb); clear hb p0 p1 p2 p3 p4 p5 p6)
              | (go_at_call 31; refine (dwakes_any _).mono ?_; rintro e wW ⟨rfl, hb⟩; replace KX := hid (KX.out.step hb); clear hb))
            go_ret
            exact ⟨rfl, KX.out.1⟩
      · have HLC := (hid (decide_eq_false hC) : Hid (decide ((c1 ≤ 60 ∧ c4 ≤ 60) ∧ c7 ≤ 60 ∧ c10 ≤ 60) = false))
        clear hA hB hC
        go_enter Try.func12, Try.ntmps12
        go_upto_region 1 with fail
        generalize w.alloc (.cells #[.int .i64 A.n, .int .i64 A.s0, .int .i64 A.s1, .slice a0 a1 a2, .slice a3 a4 a5, .slice a6 a7 a8, .slice a9 a10 a11, .int .i64 B.n, .int .i64 B.s0, .int .i64 B.s1, .slice b0 b1 b2, .slice b3 b4 b5, .slice b6 b7 b8, .slice b9 b10 b11, .int .i64 C.n, .int .i64 C.s0, .int .i64 C.s1, .slice c0 c1 c2, .slice c3 c4 c5, .slice c6 c7 c8, .slice c9 c10 c11] 106) = W at KX ⊢
        obtain ⟨g0, g1, g2, g3, g4, g5, g6, g7, g8, g9, g10, g11, g12, g13, g14, g15, g16, g17, g18, g19, g20⟩ := box_21 KX.out.2.2
        go_wp2_with (first
          | (go_at_call 30; clear tkA; refine (dlight_m A a0 a1 a2 a3 a4 a5 a6 a7 a8 a9 a10 a11 true _ (HA.out.1.below KX.out.1) HLA).mono ?_; rintro e wA ⟨rfl, hb⟩; replace KX := hid (KX.out.step hb); clear hb; clear g0 g1 g2 g3 g4 g5 g6 g7 g8 g9 g10 g11 g12 g13 g14 g15 g16 g17 g18 g19 g20; obtain ⟨g0, g1, g2, g3, g4, g5, g6, g7, g8, g9, g10, g11, g12, g13, g14, g15, g16, g17, g18, g19, g20⟩ := box_21 KX.out.2.2)
          | (go_at_call 30; clear tkB; refine (dlight_m B b0 b1 b2 b3 b4 b5 b6 b7 b8 b9 b10 b11 true _ (HB.out.1.below KX.out.1) HLB).mono ?_; rintro e wB ⟨rfl, hb⟩; replace KX := hid (KX.out.step hb); clear hb; clear g0 g1 g2 g3 g4 g5 g6 g7 g8 g9 g10 g11 g12 g13 g14 g15 g16 g17 g18 g19 g20; obtain ⟨g0, g1, g2, g3, g4, g5, g6, g7, g8, g9, g10, g11, g12, g13, g14, g15, g16, g17, g18, g19, g20⟩ := box_21 KX.out.2.2)
          | (go_at_call 30; refine (dlight_m C c0 c1 c2 c3 c4 c5 c6 c7 c8 c9 c10 c11 false _ (HC.out.1.below KX.out.1) HLC).mono ?_; rintro e wC ⟨rfl, hb⟩; replace KX := hid (KX.out.step hb); clear hb; clear g0 g1 g2 g3 g4 g5 g6 g7 g8 g9 g10 g11 g12 g13 g14 g15 g16 g17 g18 g19 g20; obtain ⟨g0, g1, g2, g3, g4, g5, g6, g7, g8, g9, g10, g11, g12, g13, g14, g15, g16, g17, g18, g19, g20⟩ := box_21 KX.out.2.2)
          | (go_at_call 31; refine (dwakes_any _).mono ?_; rintro e wW ⟨rfl, hb⟩; replace KX := hid (KX.out.step hb); clear hb))
        go_ret
        exact ⟨rfl, KX.out.1⟩
    · have HLB := (hid (decide_eq_false hB) : Hid (decide ((b1 ≤ 60 ∧ b4 ≤ 60) ∧ b7 ≤ 60 ∧ b10 ≤ 60) = false))
      clear hA hB
      go_enter Try.func12, Try.ntmps12
      go_upto_region 1 with fail
      generalize w.alloc (.cells #[.int .i64 A.n, .int .i64 A.s0, .int .i64 A.s1, .slice a0 a1 a2, .slice a3 a4 a5, .slice a6 a7 a8, .slice a9 a10 a11, .int .i64 B.n, .int .i64 B.s0, .int .i64 B.s1, .slice b0 b1 b2, .slice b3 b4 b5, .slice b6 b7 b8, .slice b9 b10 b11, .int .i64 C.n, .int .i64 C.s0, .int .i64 C.s1, .slice c0 c1 c2, .slice c3 c4 c5, .slice c6 c7 c8, .slice c9 c10 c11] 106) = W at KX ⊢
      obtain ⟨g0, g1, g2, g3, g4, g5, g6, g7, g8, g9, g10, g11, g12, g13, g14, g15, g16, g17, g18, g19, g20⟩ := box_21 KX.out.2.2
      go_wp2_with (first
        | (go_at_call 30; clear tkA; refine (dlight_m A a0 a1 a2 a3 a4 a5 a6 a7 a8 a9 a10 a11 true _ (HA.out.1.below KX.out.1) HLA).mono ?_; rintro e wA ⟨rfl, hb⟩; replace KX := hid (KX.out.step hb); clear hb; clear g0 g1 g2 g3 g4 g5 g6 g7 g8 g9 g10 g11 g12 g13 g14 g15 g16 g17 g18 g19 g20; obtain ⟨g0, g1, g2, g3, g4, g5, g6, g7, g8, g9, g10, g11, g12, g13, g14, g15, g16, g17, g18, g19, g20⟩ := box_21 KX.out.2.2)
        | (go_at_call 30; refine (dlight_m B b0 b1 b2 b3 b4 b5 b6 b7 b8 b9 b10 b11 false _ (HB.out.1.below KX.out.1) HLB).mono ?_; rintro e wB ⟨rfl, hb⟩; replace KX := hid (KX.out.step hb); clear hb; clear g0 g1 g2 g3 g4 g5 g6 g7 g8 g9 g10 g11 g12 g13 g14 g15 g16 g17 g18 g19 g20; obtain ⟨g0, g1, g2, g3, g4, g5, g6, g7, g8, g9, g10, g11, g12, g13, g14, g15, g16, g17, g18, g19, g20⟩ := box_21 KX.out.2.2)
        | (go_at_call 31; refine (dwakes_any _).mono ?_; rintro e wW ⟨rfl, hb⟩; replace KX := hid (KX.out.step hb); clear hb))
      go_ret
      exact ⟨rfl, KX.out.1⟩
  · have HLA := (hid (decide_eq_false hA) : Hid (decide ((a1 ≤ 60 ∧ a4 ≤ 60) ∧ a7 ≤ 60 ∧ a10 ≤ 60) = false))
    clear hA
    go_enter Try.func12, Try.ntmps12
    go_upto_region 1 with fail
    generalize w.alloc (.cells #[.int .i64 A.n, .int .i64 A.s0, .int .i64 A.s1, .slice a0 a1 a2, .slice a3 a4 a5, .slice a6 a7 a8, .slice a9 a10 a11, .int .i64 B.n, .int .i64 B.s0, .int .i64 B.s1, .slice b0 b1 b2, .slice b3 b4 b5, .slice b6 b7 b8, .slice b9 b10 b11, .int .i64 C.n, .int .i64 C.s0, .int .i64 C.s1, .slice c0 c1 c2, .slice c3 c4 c5, .slice c6 c7 c8, .slice c9 c10 c11] 106) = W at KX ⊢
    obtain ⟨g0, g1, g2, g3, g4, g5, g6, g7, g8, g9, g10, g11, g12, g13, g14, g15, g16, g17, g18, g19, g20⟩ := box_21 KX.out.2.2
    go_wp2_with (first
      | (go_at_call 30; refine (dlight_m A a0 a1 a2 a3 a4 a5 a6 a7 a8 a9 a10 a11 false _ (HA.out.1.below KX.out.1) HLA).mono ?_; rintro e wA ⟨rfl, hb⟩; replace KX := hid (KX.out.step hb); clear hb; clear g0 g1 g2 g3 g4 g5 g6 g7 g8 g9 g10 g11 g12 g13 g14 g15 g16 g17 g18 g19 g20; obtain ⟨g0, g1, g2, g3, g4, g5, g6, g7, g8, g9, g10, g11, g12, g13, g14, g15, g16, g17, g18, g19, g20⟩ := box_21 KX.out.2.2)
      | (go_at_call 31; refine (dwakes_any _).mono ?_; rintro e wW ⟨rfl, hb⟩; replace KX := hid (KX.out.step hb); clear hb))
    go_ret
    exact ⟨rfl, KX.out.1⟩

end Go.Proofs.Ytjkkajhjcinalaa

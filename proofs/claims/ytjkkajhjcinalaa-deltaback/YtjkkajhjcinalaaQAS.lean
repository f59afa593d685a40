/-
  -
  Conditions: as each theorem states them.
-/
import Derived.Test.YtjkkajhjcinalaaQAR
namespace Go.Proofs.Ytjkkajhjcinalaa
open Go.ChangeShapes Go.WideShapes Go.ChangeAt Go.RowKit
set_option linter.unusedVariables false
set_option linter.unusedSimpArgs false
set_option maxRecDepth 100000

theorem field_rd (n s0 s1 : Int) (x0 : Option Addr) (x1 x2 : Nat) (x3 : Option Addr) (x4 x5 : Nat) (x6 : Option Addr) (x7 x8 : Nat) (x9 : Option Addr) (x10 x11 : Nat) (v : Bool) : ∀ w, (Instr.field 78 (.agg #[.int .i64 n, .int .i64 s0, .int .i64 s1, .slice x0 x1 x2, .slice x3 x4 x5, .slice x6 x7 x8, .slice x9 x10 x11, .bool v]) 0).run Try.prog w = .ok (.agg #[.int .i64 n, .int .i64 s0, .int .i64 s1, .slice x0 x1 x2, .slice x3 x4 x5, .slice x6 x7 x8, .slice x9 x10 x11]) w := fun w => by kernel_rfl
theorem box_sixd {w : World} {D : Nat} {t : TypeId} {a b c d e f : Value} (hD : w.heap[D]? = some (.cells #[a, b, c, d, e, f] t)) : w.cell? ⟨D, 0, none⟩ = some a ∧ w.cell? ⟨D, 1, none⟩ = some b ∧ w.cell? ⟨D, 2, none⟩ = some c ∧ w.cell? ⟨D, 3, none⟩ = some d ∧ w.cell? ⟨D, 4, none⟩ = some e ∧ w.cell? ⟨D, 5, none⟩ = some f := by
  refine ⟨?_, ?_, ?_, ?_, ?_, ?_⟩ <;> simp [World.cell?, hD]
set_option maxHeartbeats 64000000 in
theorem back_dwalk (m : Int) (C : Cl) (a0 : Option Addr) (a1 a2 : Nat) (a3 : Option Addr) (a4 a5 : Nat) (is : Bool) (D : Dl) (b0 : Option Addr) (b1 b2 : Nat) (b3 : Option Addr) (b4 b5 : Nat) (b6 : Option Addr) (b7 b8 : Nat) (b9 : Option Addr) (b10 b11 : Nat) (x : Option Addr) (n c : Nat) (l : List Rw) (y : Option Addr) (k f : Nat) (u : List Ch) (w : World) (hC : CW w a0 a1 a2 a3 a4 a5 C ∧ okc C) (hD : DW w b0 b1 b2 b3 b4 b5 b6 b7 b8 b9 b10 b11 D ∧ okd D) (hl : RRow w x n c l) (hkl : ∀ r ∈ l, rok r) (hu : CRow w y k f u) (hku : ∀ r ∈ u, cok r) :
    Calls Try.prog 10 #[(.agg #[.int .i64 m, .int .i64 C.n, .int .i64 C.s0, .int .i64 C.s1, .slice a0 a1 a2, .slice a3 a4 a5, .bool is, .int .i64 D.n, .int .i64 D.s0, .int .i64 D.s1, .slice b0 b1 b2, .slice b3 b4 b5, .slice b6 b7 b8, .slice b9 b10 b11]), .slice x n c, .slice y k f] w fun e w' => e = .returned (.bool true) ∧ Below w.heap.size w w' := by
  have HC := hid hC
  have HD := hid hD
  have HL := hid hl
  have HU := hid hu
  have KL := hid hkl
  have KU := hid hku
  have KX := hid (kp_new w (.cells #[.int .i64 m, .int .i64 C.n, .int .i64 C.s0, .int .i64 C.s1, .slice a0 a1 a2, .slice a3 a4 a5, .bool is, .int .i64 D.n, .int .i64 D.s0, .int .i64 D.s1, .slice b0 b1 b2, .slice b3 b4 b5, .slice b6 b7 b8, .slice b9 b10 b11] 90))
  clear hC hD hl hkl hu hku
  by_cases hlt : ((a1 ≤ 60 ∧ a4 ≤ 60) ∧ ((b1 ≤ 60 ∧ b4 ≤ 60) ∧ b7 ≤ 60 ∧ b10 ≤ 60) ∧ n ≤ 30 ∧ k ≤ 30)
  · have HLT : Hid (decide ((a1 ≤ 60 ∧ a4 ≤ 60) ∧ ((b1 ≤ 60 ∧ b4 ≤ 60) ∧ b7 ≤ 60 ∧ b10 ≤ 60) ∧ n ≤ 30 ∧ k ≤ 30) = true) := hid (decide_eq_true hlt)
    have n1 : n ≤ 30 := hlt.2.2.1
    have k1 : k ≤ 30 := hlt.2.2.2
    have LCC : Hid (C.b0.length ≤ 60 ∧ C.b1.length ≤ 60) := hid (by have := cw_lend HC.out.1; have := hlt.1; omega)
    have SD : Hid (shn 60 D) := hid (by have h := dw_len HD.out.1; have h2 := hlt.2.1; unfold shn; omega)
    have EL := hid HL.out.lens.1
    have EU := hid HU.out.lens
    clear hlt
    go_enter Try.func10, Try.ntmps10
    go_upto_region 1 with fail
    generalize w.alloc (.cells #[.int .i64 m, .int .i64 C.n, .int .i64 C.s0, .int .i64 C.s1, .slice a0 a1 a2, .slice a3 a4 a5, .bool is, .int .i64 D.n, .int .i64 D.s0, .int .i64 D.s1, .slice b0 b1 b2, .slice b3 b4 b5, .slice b6 b7 b8, .slice b9 b10 b11] 90) = W at KX ⊢
    obtain ⟨g0, g1, g2, g3, g4, g5, g6, g7, g8, g9, g10, g11, g12, g13⟩ := box_14 KX.out.2.2
    go_upto_region 3 with (go_at_call 45; refine (dlightB_m m C a0 a1 a2 a3 a4 a5 is D b0 b1 b2 b3 b4 b5 b6 b7 b8 b9 b10 b11 x n c l y k f u true _ (HC.out.1.below KX.out.1) (HD.out.1.below KX.out.1) (HL.out.below KX.out.1) (HU.out.below KX.out.1) HLT).mono ?_; rintro e wL ⟨rfl, hb⟩; replace KX := hid (KX.out.step hb); clear hb g0 g1 g2 g3 g4 g5 g6 g7 g8 g9 g10 g11 g12 g13; obtain ⟨g0, g1, g2, g3, g4, g5, g6, g7, g8, g9, g10, g11, g12, g13⟩ := box_14 KX.out.2.2)
    rename World => W2
    have KF : Hid (Kp w (W2.alloc (.cells #[.int .i64 m, .int .i64 1, .int .i64 2] 3)) W2.heap.size (.cells #[.int .i64 m, .int .i64 1, .int .i64 2] 3)) := hid (kp_new2 KX.out.1 _ _ rfl)
    replace KX := hid (kp_alloc KX.out (.cells #[.int .i64 m, .int .i64 1, .int .i64 2] 3))
    go_upto_region 4 with fail
    clear g0 g1 g2 g3 g4 g5 g6 g7 g8 g9 g10 g11 g12 g13
    generalize W2.alloc (.cells #[.int .i64 m, .int .i64 1, .int .i64 2] 3) = W3 at KX KF ⊢
    generalize W2.heap.size = NF at KF ⊢
    go_loopw [21] (fun j wr => ∃ (q : Nat), q ≤ 3 ∧ j = .int .i64 q ∧ Hid (Kp w wr w.heap.size (.cells #[.int .i64 m, .int .i64 C.n, .int .i64 C.s0, .int .i64 C.s1, .slice a0 a1 a2, .slice a3 a4 a5, .bool is, .int .i64 D.n, .int .i64 D.s0, .int .i64 D.s1, .slice b0 b1 b2, .slice b3 b4 b5, .slice b6 b7 b8, .slice b9 b10 b11] 90)) ∧ Hid (Kp w wr NF (.cells #[.int .i64 m, .int .i64 1, .int .i64 2] 3))) (fun j _ => 3 - (intOf j).toNat)
    case atStart => exact ⟨0, by omega, rfl, KX, KF⟩
    case round =>
      obtain ⟨q, hq3', rfl, KX, KF⟩ := hrel
      have hqz : (0 : Int) ≤ (q : Int) := by omega
      by_cases hlt : q < 3
      · have hqi : (q : Int) < 3 := by omega
        have hqd : decide ((q : Int) < 3) = true := decide_eq_true hqi
        obtain ⟨m', hm'⟩ := three_pick_d KF.out.2.2 hlt
        obtain ⟨C1, hC1⟩ : ∃ y, ofC m' l = y := ⟨_, rfl⟩
        obtain ⟨v1, hv1⟩ : ∃ y, ofB m' l = y := ⟨_, rfl⟩
        have E1 := hid hC1
        have G1 := hid hv1
        have OC : Hid (okc C1) := hid (by rw [← hC1]; exact ofC_okd KL.out (by have := EL.out; omega))
        have L1 : Hid (C1.b0.length ≤ 100 ∧ C1.b1.length ≤ 100) := hid (by rw [← hC1]; have := ofC_lend m' l; have := EL.out; omega)
        clear hC1 hv1
        go_upto_region 6 with fail
        clear hm'
        go_upto_region 7 with (first
          | (go_at_call 16; refine (crof_m m' _ _ _ l C1 v1 _ (HL.out.below KX.out.1) KL.out (by omega) E1 G1).mono ?_; rintro e w1 ⟨⟨r0, r1, r2, r3, r4, r5, rfl, hcw⟩, hb⟩; replace KX := hid (KX.out.step hb); replace KF := hid (KF.out.step hb); have CC := hid hcw; clear hcw hb)
          | (have KZ : Hid (Kp w (w1.alloc (.cells #[.int .i64 0, .int .i64 0, .int .i64 0, .slice none 0 0, .slice none 0 0, .bool false] 36)) w1.heap.size (.cells #[.int .i64 0, .int .i64 0, .int .i64 0, .slice none 0 0, .slice none 0 0, .bool false] 36)) := hid (kp_new2 KX.out.1 _ _ rfl); refine wpList_store_whole rfl 36 (.tmp 9) (.tmp 27) rfl w1.heap.size (rcC C1.n C1.s0 C1.s1 r0 r1 r2 r3 r4 r5 v1) rfl rfl 36 _ KZ.out.2.2 rfl (by show _ = some 6; exact size_rc) (rcC_one _ _ _ _ _ _ _ _ _ _) ?_; intro w9 hp9 hg9; have KC := hid (kp_at KZ.out hg9 hp9); replace KX := hid (kp_new_gr KX.out hg9); replace KF := hid (kp_new_gr KF.out hg9); replace CC := hid (cw_new_gr CC.out hg9); clear hp9 hg9 KZ))
        generalize w1.heap.size = NC at KC ⊢
        go_upto_region 8 with (first
          | (go_at_call 35; refine (dsum_m m' _ _ _ u _ (HU.out.below KX.out.1) KU.out (by omega)).mono ?_; rintro e w2 ⟨⟨S, vs, s0, s1, s2, s3, s4, s5, s6, s7, s8, s9, s10, s11, rfl, hd, hok, hsh⟩, hb⟩; replace KX := hid (KX.out.step hb); replace KF := hid (KF.out.step hb); replace CC := hid (CC.out.below hb); replace KC := hid (KC.out.step hb); have DS := hid hd; have OS := hid hok; have SS := hid hsh; have fe := field_rd S.n S.s0 S.s1 s0 s1 s2 s3 s4 s5 s6 s7 s8 s9 s10 s11 vs; clear hd hok hsh hb)
          | (have KZ : Hid (Kp w (w2.alloc (.cells #[.int .i64 0, .int .i64 0, .int .i64 0, .slice none 0 0, .slice none 0 0, .slice none 0 0, .slice none 0 0] 68)) w2.heap.size (.cells #[.int .i64 0, .int .i64 0, .int .i64 0, .slice none 0 0, .slice none 0 0, .slice none 0 0, .slice none 0 0] 68)) := hid (kp_new2 KX.out.1 _ _ rfl); refine wpList_store_whole rfl 68 (.tmp 10) (.tmp 31) rfl w2.heap.size (dlC S.n S.s0 S.s1 s0 s1 s2 s3 s4 s5 s6 s7 s8 s9 s10 s11) rfl rfl 68 _ KZ.out.2.2 rfl (by show _ = some 7; exact size_dl) (dlC_one _ _ _ _ _ _ _ _ _ _ _ _ _ _ _) ?_; intro w9 hp9 hg9; have KS := hid (kp_at KZ.out hg9 hp9); replace KX := hid (kp_new_gr KX.out hg9); replace KF := hid (kp_new_gr KF.out hg9); replace CC := hid (cw_new_gr CC.out hg9); replace KC := hid (kp_new_gr KC.out hg9); replace DS := hid (dw_new_gr DS.out hg9); clear hp9 hg9 KZ))
        generalize w2.heap.size = NS at KS ⊢
        have SHD : Hid (shn 100 D) := hid (by obtain ⟨⟨h1, h2⟩, h3, h4⟩ := SD.out; exact ⟨⟨by omega, by omega⟩, by omega, by omega⟩)
        have SHS : Hid (shn 100 S) := hid (by obtain ⟨⟨h1, h2⟩, h3, h4⟩ := SS.out; exact ⟨⟨by omega, by omega⟩, by omega, by omega⟩)
        have tk1 : True := trivial
        have tk2 : True := trivial
        have tk3 : True := trivial
        have tk4 : True := trivial
        obtain ⟨g0, g1, g2, g3, g4, g5, g6, g7, g8, g9, g10, g11, g12, g13⟩ := box_14 KX.out.2.2
        obtain ⟨h0, h1, h2, h3, h4, h5⟩ := box_sixd KC.out.2.2
        obtain ⟨t0, t1, t2, t3, t4, t5, t6⟩ := box_seven KS.out.2.2
        go_wp2_with (first
          | (go_at_call 46; clear tk1; refine (dback_m m' C a0 a1 a2 a3 a4 a5 is D b0 b1 b2 b3 b4 b5 b6 b7 b8 b9 b10 b11 _ (HC.out.1.below KX.out.1) (HD.out.1.below KX.out.1) HC.out.2 HD.out.2 (by have := LCC.out; omega) SHD.out).mono ?_; rintro e wb1 ⟨rfl, hb⟩; replace KX := hid (KX.out.step hb); replace KF := hid (KF.out.step hb); replace CC := hid (CC.out.below hb); replace KC := hid (KC.out.step hb); replace DS := hid (DS.out.below hb); replace KS := hid (KS.out.step hb); clear hb; clear g0 g1 g2 g3 g4 g5 g6 g7 g8 g9 g10 g11 g12 g13 h0 h1 h2 h3 h4 h5 t0 t1 t2 t3 t4 t5 t6; obtain ⟨g0, g1, g2, g3, g4, g5, g6, g7, g8, g9, g10, g11, g12, g13⟩ := box_14 KX.out.2.2; obtain ⟨h0, h1, h2, h3, h4, h5⟩ := box_sixd KC.out.2.2; obtain ⟨t0, t1, t2, t3, t4, t5, t6⟩ := box_seven KS.out.2.2)
          | (go_at_call 46; clear tk2; refine (dback_m m' C1 r0 r1 r2 r3 r4 r5 v1 S s0 s1 s2 s3 s4 s5 s6 s7 s8 s9 s10 s11 _ CC.out DS.out OC.out OS.out L1.out SHS.out).mono ?_; rintro e wb2 ⟨rfl, hb⟩; replace KX := hid (KX.out.step hb); replace KF := hid (KF.out.step hb); replace CC := hid (CC.out.below hb); replace KC := hid (KC.out.step hb); replace DS := hid (DS.out.below hb); replace KS := hid (KS.out.step hb); clear hb; clear g0 g1 g2 g3 g4 g5 g6 g7 g8 g9 g10 g11 g12 g13 h0 h1 h2 h3 h4 h5 t0 t1 t2 t3 t4 t5 t6; obtain ⟨g0, g1, g2, g3, g4, g5, g6, g7, g8, g9, g10, g11, g12, g13⟩ := box_14 KX.out.2.2; obtain ⟨h0, h1, h2, h3, h4, h5⟩ := box_sixd KC.out.2.2; obtain ⟨t0, t1, t2, t3, t4, t5, t6⟩ := box_seven KS.out.2.2)
          | (go_at_call 46; clear tk3; refine (dback_m m' C a0 a1 a2 a3 a4 a5 is S s0 s1 s2 s3 s4 s5 s6 s7 s8 s9 s10 s11 _ (HC.out.1.below KX.out.1) DS.out HC.out.2 OS.out (by have := LCC.out; omega) SHS.out).mono ?_; rintro e wb3 ⟨rfl, hb⟩; replace KX := hid (KX.out.step hb); replace KF := hid (KF.out.step hb); replace CC := hid (CC.out.below hb); replace KC := hid (KC.out.step hb); replace DS := hid (DS.out.below hb); replace KS := hid (KS.out.step hb); clear hb; clear g0 g1 g2 g3 g4 g5 g6 g7 g8 g9 g10 g11 g12 g13 h0 h1 h2 h3 h4 h5 t0 t1 t2 t3 t4 t5 t6; obtain ⟨g0, g1, g2, g3, g4, g5, g6, g7, g8, g9, g10, g11, g12, g13⟩ := box_14 KX.out.2.2; obtain ⟨h0, h1, h2, h3, h4, h5⟩ := box_sixd KC.out.2.2; obtain ⟨t0, t1, t2, t3, t4, t5, t6⟩ := box_seven KS.out.2.2)
          | (go_at_call 46; clear tk4; refine (dback_m m' C1 r0 r1 r2 r3 r4 r5 v1 D b0 b1 b2 b3 b4 b5 b6 b7 b8 b9 b10 b11 _ CC.out (HD.out.1.below KX.out.1) OC.out HD.out.2 L1.out SHD.out).mono ?_; rintro e wb4 ⟨rfl, hb⟩; replace KX := hid (KX.out.step hb); replace KF := hid (KF.out.step hb); replace CC := hid (CC.out.below hb); replace KC := hid (KC.out.step hb); replace DS := hid (DS.out.below hb); replace KS := hid (KS.out.step hb); clear hb; clear g0 g1 g2 g3 g4 g5 g6 g7 g8 g9 g10 g11 g12 g13 h0 h1 h2 h3 h4 h5 t0 t1 t2 t3 t4 t5 t6; obtain ⟨g0, g1, g2, g3, g4, g5, g6, g7, g8, g9, g10, g11, g12, g13⟩ := box_14 KX.out.2.2; obtain ⟨h0, h1, h2, h3, h4, h5⟩ := box_sixd KC.out.2.2; obtain ⟨t0, t1, t2, t3, t4, t5, t6⟩ := box_seven KS.out.2.2)
          | (go_at_call 46; refine (dback_m m' cl0 none 0 0 none 0 0 false S s0 s1 s2 s3 s4 s5 s6 s7 s8 s9 s10 s11 _ (cw_nil _) DS.out okc_0d OS.out (by decide) SHS.out).mono ?_; rintro e wb5 ⟨rfl, hb⟩; replace KX := hid (KX.out.step hb); replace KF := hid (KF.out.step hb); replace CC := hid (CC.out.below hb); replace KC := hid (KC.out.step hb); replace DS := hid (DS.out.below hb); replace KS := hid (KS.out.step hb); clear hb; clear g0 g1 g2 g3 g4 g5 g6 g7 g8 g9 g10 g11 g12 g13 h0 h1 h2 h3 h4 h5 t0 t1 t2 t3 t4 t5 t6; obtain ⟨g0, g1, g2, g3, g4, g5, g6, g7, g8, g9, g10, g11, g12, g13⟩ := box_14 KX.out.2.2; obtain ⟨h0, h1, h2, h3, h4, h5⟩ := box_sixd KC.out.2.2; obtain ⟨t0, t1, t2, t3, t4, t5, t6⟩ := box_seven KS.out.2.2))
        go_roundw
        case rel => exact ⟨q + 1, by omega, by go_num, KX, KF⟩
        case measure => simp [intOf]; omega
      · have hqf : decide ((q : Int) < 3) = false := decide_eq_false (by omega)
        have hqi : ¬ (q : Int) < 3 := by omega
        go_wp2_with (go_at_call 31; refine (dwakes_any _).mono ?_; rintro e wW ⟨rfl, hb⟩; replace KX := hid (KX.out.step hb); clear hb)
        go_ret
        exact ⟨rfl, KX.out.1⟩
  · have HLT : Hid (decide ((a1 ≤ 60 ∧ a4 ≤ 60) ∧ ((b1 ≤ 60 ∧ b4 ≤ 60) ∧ b7 ≤ 60 ∧ b10 ≤ 60) ∧ n ≤ 30 ∧ k ≤ 30) = false) := hid (decide_eq_false hlt)
    clear hlt
    go_enter Try.func10, Try.ntmps10
    go_upto_region 1 with fail
    generalize w.alloc (.cells #[.int .i64 m, .int .i64 C.n, .int .i64 C.s0, .int .i64 C.s1, .slice a0 a1 a2, .slice a3 a4 a5, .bool is, .int .i64 D.n, .int .i64 D.s0, .int .i64 D.s1, .slice b0 b1 b2, .slice b3 b4 b5, .slice b6 b7 b8, .slice b9 b10 b11] 90) = W at KX ⊢
    obtain ⟨g0, g1, g2, g3, g4, g5, g6, g7, g8, g9, g10, g11, g12, g13⟩ := box_14 KX.out.2.2
    go_wp2_with (first
      | (go_at_call 45; refine (dlightB_m m C a0 a1 a2 a3 a4 a5 is D b0 b1 b2 b3 b4 b5 b6 b7 b8 b9 b10 b11 x n c l y k f u false _ (HC.out.1.below KX.out.1) (HD.out.1.below KX.out.1) (HL.out.below KX.out.1) (HU.out.below KX.out.1) HLT).mono ?_; rintro e wL ⟨rfl, hb⟩; replace KX := hid (KX.out.step hb); clear hb g0 g1 g2 g3 g4 g5 g6 g7 g8 g9 g10 g11 g12 g13; obtain ⟨g0, g1, g2, g3, g4, g5, g6, g7, g8, g9, g10, g11, g12, g13⟩ := box_14 KX.out.2.2)
      | (go_at_call 31; refine (dwakes_any _).mono ?_; rintro e wW ⟨rfl, hb⟩; replace KX := hid (KX.out.step hb); clear hb))
    go_ret
    exact ⟨rfl, KX.out.1⟩

end Go.Proofs.Ytjkkajhjcinalaa

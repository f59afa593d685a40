/-
  The other way round, and of a change, as the document has it: what Neg and Of of ref return.
  Conditions: as each theorem states them.
-/
import Derived.Test.YtjkkajhjcinalaaAC10
namespace Go.Proofs.Ytjkkajhjcinalaa
open Go.ChangeShapes Go.WideShapes Go.ChangeAt Go.RowKit
set_option linter.unusedVariables false
set_option linter.unusedSimpArgs false
set_option maxRecDepth 100000

set_option maxHeartbeats 16000000 in
theorem rdneg_m (m : Int) (d : Dl) (a0 : Option Addr) (a1 a2 : Nat) (a3 : Option Addr) (a4 a5 : Nat) (a6 : Option Addr) (a7 a8 : Nat) (a9 : Option Addr) (a10 a11 : Nat) (D : Dl) (v : Bool) (w : World) (hw : DW w a0 a1 a2 a3 a4 a5 a6 a7 a8 a9 a10 a11 d) (hk : okd d) (hp : shd d) (hC : Hid (dnC m d = D)) (hv : Hid (dnB m d = v)) :
    Calls Try.prog 37 #[.int .i64 m, (.agg #[.int .i64 d.n, .int .i64 d.s0, .int .i64 d.s1, .slice a0 a1 a2, .slice a3 a4 a5, .slice a6 a7 a8, .slice a9 a10 a11])] w fun e w' => (∃ r0 r1 r2 r3 r4 r5 r6 r7 r8 r9 r10 r11, e = .returned (.agg #[.int .i64 D.n, .int .i64 D.s0, .int .i64 D.s1, .slice r0 r1 r2, .slice r3 r4 r5, .slice r6 r7 r8, .slice r9 r10 r11, .bool v]) ∧ DW w' r0 r1 r2 r3 r4 r5 r6 r7 r8 r9 r10 r11 D ∧ FD w r0 r1 r3 r4 r6 r7 r9 r10) ∧ Below w.heap.size w w' := by
  have HW := hid hw
  have HK := hid hk
  have HP := hid hp
  have KA := hid (kp_alloc (kp_new w (.cells #[.int .i64 d.n, .int .i64 d.s0, .int .i64 d.s1, .slice a0 a1 a2, .slice a3 a4 a5, .slice a6 a7 a8, .slice a9 a10 a11] 68)) (.cells #[.int .i64 0, .int .i64 0, .int .i64 0, .slice none 0 0, .slice none 0 0, .slice none 0 0, .slice none 0 0, .bool false] 78))
  have KR := hid (kp_new2 (b1alloc w (.cells #[.int .i64 d.n, .int .i64 d.s0, .int .i64 d.s1, .slice a0 a1 a2, .slice a3 a4 a5, .slice a6 a7 a8, .slice a9 a10 a11] 68)) (.cells #[.int .i64 0, .int .i64 0, .int .i64 0, .slice none 0 0, .slice none 0 0, .slice none 0 0, .slice none 0 0, .bool false] 78) (w.heap.size + 1) (by simp))
  obtain ⟨N1, hN1⟩ : ∃ y, w.heap.size + 1 = y := ⟨_, rfl⟩
  rw [hN1] at KR
  obtain ⟨g, hg⟩ : ∃ y, dg m d = y := ⟨_, rfl⟩
  have GV := hid hg
  clear hw hk hp hg
  cases g with
  | false =>
    have e0 := hid (dn_a GV.out)
    have HZ := hid (And.intro (hC.out.symm.trans (dnC_no e0.out)) (hv.out.symm.trans e0.out))
    go_enter Try.func37, Try.ntmps37
    go_upto_region 1 with fail
    generalize (w.alloc (.cells #[.int .i64 d.n, .int .i64 d.s0, .int .i64 d.s1, .slice a0 a1 a2, .slice a3 a4 a5, .slice a6 a7 a8, .slice a9 a10 a11] 68)).alloc (.cells #[.int .i64 0, .int .i64 0, .int .i64 0, .slice none 0 0, .slice none 0 0, .slice none 0 0, .slice none 0 0, .bool false] 78) = W at KA KR ⊢
    (try rw [hN1])
    clear hN1
    obtain ⟨p0, p1, p2, p3, p4, p5, p6⟩ := box_seven KA.out.2.2
    go_wp2_with (first
      | (go_at_call 39; refine (rdgood_m m d a0 a1 a2 a3 a4 a5 a6 a7 a8 a9 a10 a11 false _ (HW.out.below KA.out.1) HK.out GV).mono ?_; rintro e w1 ⟨rfl, hb⟩; replace KA := hid (KA.out.step hb); replace KR := hid (KR.out.step hb); clear hb p0 p1 p2 p3 p4 p5 p6; obtain ⟨p0, p1, p2, p3, p4, p5, p6⟩ := box_seven KA.out.2.2)
      | (refine wpList_store_whole rfl 78 (.tmp 4) (.tmp 9) rfl N1 (rdC 0 0 0 none 0 0 none 0 0 none 0 0 none 0 0 false) rfl rfl 78 _ KR.out.2.2 rfl (by show _ = some 8; exact size_rd) (rdC_one _ _ _ _ _ _ _ _ _ _ _ _ _ _ _ _) ?_; intro w9 hp9 hg9; have KR9 := hid (kp_at KR.out hg9 hp9); clear hp9 hg9))
    (try simp only [Exit.inBlock, Exit.then])
    show bodyPost Try.prog Try.f37 _ _ _ _
    refine bodyPost_ret (results_cell_row (p := 4) rfl _ _ N1 _ (rdC 0 0 0 none 0 0 none 0 0 none 0 0 none 0 0 false) (0, 0) _ rfl KR9.out.2.2 Try.underlying78 rfl (by kernel_rfl)) rfl ?_
    obtain ⟨z1, z2⟩ := HZ.out
    subst z1
    subst z2
    exact ⟨⟨none, 0, 0, none, 0, 0, none, 0, 0, none, 0, 0, rfl, dw_0 _, fd_0 _⟩, KR9.out.1⟩
  | true =>
    have GD := hid (dg_iff.1 GV.out)
    have XE := hid (xd_neg GD.out)
    have XC : Hid (xdC m (-d.n) d.o0 d.o1 d.i0 d.i1 = D) := hid (XE.out.2.trans hC.out)
    have XB : Hid (xdB m (-d.n) d.o0 d.o1 d.i0 d.i1 = v) := hid (XE.out.1.trans hv.out)
    have BB := hid (dg_bags GD.out)
    have hm := dg_m GV.out
    have HM := hid hm
    have nb := dg_n GD.out
    obtain ⟨nb1, nb2⟩ := nb
    have hwn : IntKind.i64.wrap (-d.n) = -d.n := IntWalk.i64_in _ (by omega)
    have OX : Hid (okd ⟨-d.n, 0, 0, d.o0, d.o1, d.i0, d.i1⟩) := hid ⟨⟨by show I64 (-d.n); unfold I64; omega, calc.i64_0, calc.i64_0⟩, HK.out.2.2, HK.out.2.1⟩
    clear hm
    go_enter Try.func37, Try.ntmps37
    go_upto_region 1 with fail
    generalize (w.alloc (.cells #[.int .i64 d.n, .int .i64 d.s0, .int .i64 d.s1, .slice a0 a1 a2, .slice a3 a4 a5, .slice a6 a7 a8, .slice a9 a10 a11] 68)).alloc (.cells #[.int .i64 0, .int .i64 0, .int .i64 0, .slice none 0 0, .slice none 0 0, .slice none 0 0, .slice none 0 0, .bool false] 78) = W at KA KR ⊢
    (try rw [hN1])
    clear hN1
    obtain ⟨p0, p1, p2, p3, p4, p5, p6⟩ := box_seven KA.out.2.2
    go_upto_region 3 with (go_at_call 39; refine (rdgood_m m d a0 a1 a2 a3 a4 a5 a6 a7 a8 a9 a10 a11 true _ (HW.out.below KA.out.1) HK.out GV).mono ?_; rintro e w1 ⟨rfl, hb⟩; replace KA := hid (KA.out.step hb); replace KR := hid (KR.out.step hb); clear hb p0 p1 p2 p3 p4 p5 p6; obtain ⟨p0, p1, p2, p3, p4, p5, p6⟩ := box_seven KA.out.2.2)
    have LT := hid (heap_lt KR.out.2.2)
    have SZ := hid KA.out.1.size
    go_wp2_with (first
      | (go_at_call 76; refine (rmade_m m ⟨-d.n, 0, 0, d.o0, d.o1, d.i0, d.i1⟩ a6 a7 a8 a9 a10 a11 a0 a1 a2 a3 a4 a5 D v _ ⟨(HW.out.below KA.out.1).2, (HW.out.below KA.out.1).1⟩ OX.out ⟨⟨BB.out.1.2, BB.out.1.1⟩, BB.out.2.2, BB.out.2.1⟩ ⟨HP.out.2, HP.out.1⟩ HM.out XC XB).mono ?_; rintro e w2 ⟨⟨r0, r1, r2, r3, r4, r5, r6, r7, r8, r9, r10, r11, rfl, hd, hf⟩, hb⟩; have DD := hid hd; have FF := hid hf; replace KA := hid (KA.out.step hb); replace KR := hid (KR.out.step hb); clear hd hf hb p0 p1 p2 p3 p4 p5 p6)
      | (refine wpList_store_whole rfl 78 (.tmp 4) (.tmp 18) rfl N1 (rdC D.n D.s0 D.s1 r0 r1 r2 r3 r4 r5 r6 r7 r8 r9 r10 r11 v) rfl rfl 78 _ KR.out.2.2 rfl (by show _ = some 8; exact size_rd) (rdC_one _ _ _ _ _ _ _ _ _ _ _ _ _ _ _ _) ?_; intro w9 hp9 hg9; have KR9 := hid (kp_at KR.out hg9 hp9); have D9 := hid (dw_apart DD.out FF.out hg9 LT.out); clear hp9 hg9))
    (try simp only [Exit.inBlock, Exit.then])
    show bodyPost Try.prog Try.f37 _ _ _ _
    refine bodyPost_ret (results_cell_row (p := 4) rfl _ _ N1 _ (rdC D.n D.s0 D.s1 r0 r1 r2 r3 r4 r5 r6 r7 r8 r9 r10 r11 v) (0, 0) _ rfl KR9.out.2.2 Try.underlying78 rfl (by kernel_rfl)) rfl ?_
    exact ⟨⟨r0, r1, r2, r3, r4, r5, r6, r7, r8, r9, r10, r11, rfl, D9.out, FF.out.mono SZ.out⟩, KR9.out.1⟩

set_option maxHeartbeats 32000000 in
theorem rdof_m (m m0 m1 x0 x1 x2 x3 : Int) (del : Bool) (D : Dl) (v : Bool) (w : World) (i0 : I64 m0) (i1 : I64 m1) (hC : Hid (ofdC m m0 m1 del = D)) (hv : Hid (ofdB m m0 m1 del = v)) :
    Calls Try.prog 33 #[.int .i64 m, .agg #[.bool del, .int .u8 x0, .int .u8 x1, .int .u8 x2, .int .u8 x3, .int .i64 m0, .int .i64 m1]] w fun e w' => (∃ r0 r1 r2 r3 r4 r5 r6 r7 r8 r9 r10 r11, e = .returned (.agg #[.int .i64 D.n, .int .i64 D.s0, .int .i64 D.s1, .slice r0 r1 r2, .slice r3 r4 r5, .slice r6 r7 r8, .slice r9 r10 r11, .bool v]) ∧ DW w' r0 r1 r2 r3 r4 r5 r6 r7 r8 r9 r10 r11 D ∧ FD w r0 r1 r3 r4 r6 r7 r9 r10) ∧ Below w.heap.size w w' := by
  have H0 := hid i0
  have H1 := hid i1
  have KA := hid (kp_alloc (kp_new w (.cells #[.bool del, .int .u8 x0, .int .u8 x1, .int .u8 x2, .int .u8 x3, .int .i64 m0, .int .i64 m1] 76)) (.cells #[.int .i64 0, .int .i64 0, .int .i64 0, .slice none 0 0, .slice none 0 0, .slice none 0 0, .slice none 0 0, .bool false] 78))
  have KR := hid (kp_new2 (b1alloc w (.cells #[.bool del, .int .u8 x0, .int .u8 x1, .int .u8 x2, .int .u8 x3, .int .i64 m0, .int .i64 m1] 76)) (.cells #[.int .i64 0, .int .i64 0, .int .i64 0, .slice none 0 0, .slice none 0 0, .slice none 0 0, .slice none 0 0, .bool false] 78) (w.heap.size + 1) (by simp))
  obtain ⟨N0, hN0⟩ : ∃ y, w.heap.size = y := ⟨_, rfl⟩
  obtain ⟨N1, hN1⟩ : ∃ y, w.heap.size + 1 = y := ⟨_, rfl⟩
  rw [hN1] at KR
  clear i0 i1
  by_cases hm : m = 1 ∨ m = 2
  · have q1 : decide (m < 1) = false := decide_eq_false (by omega)
    have q2 : decide (2 < m) = false := decide_eq_false (by omega)
    have m0d : decide ((0 : Int) < m) = true := decide_eq_true (by omega)
    have m0i : (0 : Int) < m := by omega
    have HM := hid hm
    rw [hN0] at KA
    have HN0 := hid hN0
    have LN := hid (show N0 < N1 by omega)
    rw [hN0] at hN1
    go_enter Try.func33, Try.ntmps33
    go_upto_region 1 with fail
    generalize (w.alloc (.cells #[.bool del, .int .u8 x0, .int .u8 x1, .int .u8 x2, .int .u8 x3, .int .i64 m0, .int .i64 m1] 76)).alloc (.cells #[.int .i64 0, .int .i64 0, .int .i64 0, .slice none 0 0, .slice none 0 0, .slice none 0 0, .slice none 0 0, .bool false] 78) = W at KA KR ⊢
    (try rw [hN1])
    clear hN1
    (try rw [hN0])
    clear hN0
    go_upto_region 3 with fail
    have LR := hid (heap_lt KR.out.2.2)
    have SZ0 := hid KA.out.1.size
    have KI := hid (kp_alloc (kp_new2 KA.out.1 (.cells #[.slice none 0 0, .slice none 0 0] 24) W.heap.size rfl) (.cells #[.slice none 0 0, .slice none 0 0] 24))
    have KO := hid (kp_new2 (bt KA.out.1 (b1alloc W (.cells #[.slice none 0 0, .slice none 0 0] 24))) (.cells #[.slice none 0 0, .slice none 0 0] 24) (W.heap.size + 1) (by simp))
    replace KA := hid (kp_alloc (kp_alloc KA.out (.cells #[.slice none 0 0, .slice none 0 0] 24)) (.cells #[.slice none 0 0, .slice none 0 0] 24))
    replace KR := hid (kp_alloc (kp_alloc KR.out (.cells #[.slice none 0 0, .slice none 0 0] 24)) (.cells #[.slice none 0 0, .slice none 0 0] 24))
    go_upto_region 4 with fail
    generalize (W.alloc (.cells #[.slice none 0 0, .slice none 0 0] 24)).alloc (.cells #[.slice none 0 0, .slice none 0 0] 24) = W2 at KI KO KA KR ⊢
    obtain ⟨N2, hN2⟩ : ∃ y, W.heap.size = y := ⟨_, rfl⟩
    obtain ⟨N3, hN3⟩ : ∃ y, N2 + 1 = y := ⟨_, rfl⟩
    rw [hN2] at KI KO LR SZ0
    rw [hN3] at KO
    (try rw [hN2]); (try rw [hN3])
    have HN : Hid (N0 < N1 ∧ N1 < N2 ∧ N2 < N3) := hid ⟨LN.out, LR.out, by omega⟩
    clear hN2 hN3
    go_upto_region 5 with fail
    cases del with
    | false =>
      go_upto_region 6 with fail
      refine wp_loop_rounds 3 ?_
      rw [rounds_succ]
      have cm := kp_cell (j := 5) (v := .int .i64 m0) KA.out rfl
      have cd := kp_cell (j := 0) (v := .bool false) KA.out rfl
      go_upto_region 9 with fail
      clear cm cd
      have LB0 := hid (heap_lt KO.out.2.2)
      have R0 : Hid (NRun (W2.alloc (.cells #[.int .i64 m0, .int .i64 1] 65)) (some ⟨W2.heap.size, 0, none⟩) 1 1 [(m0, 1)]) := hid (nrun_heap (l := [(m0, 1)]) (t := 65) (hnew rfl) (by simp))
      replace KA := hid (kp_alloc KA.out (.cells #[.int .i64 m0, .int .i64 1] 65))
      replace KR := hid (kp_alloc KR.out (.cells #[.int .i64 m0, .int .i64 1] 65))
      replace KI := hid (kp_alloc KI.out (.cells #[.int .i64 m0, .int .i64 1] 65))
      replace KO := hid (kp_alloc KO.out (.cells #[.int .i64 m0, .int .i64 1] 65))
      generalize W2.alloc (.cells #[.int .i64 m0, .int .i64 1] 65) = V0 at KA KR KI KO R0 ⊢
      obtain ⟨B0, hB0⟩ : ∃ y, W2.heap.size = y := ⟨_, rfl⟩
      rw [hB0] at R0 LB0
      (try rw [hB0])
      clear hB0
      have cd := kp_cell (j := 0) (v := .bool false) KA.out rfl
      go_upto_region 12 with fail
      clear cd
      have cz := kp_cell (j := 0) (v := .slice none 0 0) KI.out rfl
      have fz := kp_froz KI.out 0
      go_upto_region 7 with fail
      clear cz fz
      have g9 := set_grown V0 N2 0 (.slice (some ⟨B0, 0, none⟩) 1 1)
      replace KA := hid (kp_gr KA.out g9 (by have := HN.out; have := HN0.out; have := SZ0.out; omega) (by have := HN.out; have := HN0.out; have := SZ0.out; omega))
      replace KR := hid (kp_gr KR.out g9 (by have := HN.out; have := HN0.out; have := SZ0.out; omega) (by have := HN.out; have := HN0.out; have := SZ0.out; omega))
      replace KO := hid (kp_gr KO.out g9 (by have := HN.out; have := HN0.out; have := SZ0.out; omega) (by have := HN.out; have := HN0.out; have := SZ0.out; omega))
      replace R0 := hid (R0.out.apart g9 (fun _ b' o' e => by cases e; have := LB0.out; have := HN.out; omega))
      replace KI : Hid (Kp w (V0.setCell ⟨N2, 0, none⟩ (.slice (some ⟨B0, 0, none⟩) 1 1)) N2 (.cells #[.slice (some ⟨B0, 0, none⟩) 1 1, .slice none 0 0] 24)) := hid (kp_set (j := 0) (v := .slice (some ⟨B0, 0, none⟩) 1 1) KI.out)
      clear g9
      generalize V0.setCell ⟨N2, 0, none⟩ (.slice (some ⟨B0, 0, none⟩) 1 1) = U0 at KA KR KI KO R0 ⊢
      go_wp2
      rw [rounds_succ]
      rcases hm with rfl | rfl
      · skip
        have XE := xd_come (m := 1) (m0 := m0) (m1 := m1) (.inl rfl) H0.out H1.out
        have XB : Hid (xdB 1 1 [(m0, 1)] [] [] [] = v) := hid (XE.1.trans hv.out)
        have XC : Hid (xdC 1 1 [(m0, 1)] [] [] [] = D) := hid (XE.2.trans hC.out)
        clear XE
        obtain ⟨y0, y1⟩ := box_two KI.out.2.2
        obtain ⟨y2, y3⟩ := box_two KO.out.2.2
        have LT := hid (heap_lt KR.out.2.2)
        have SZ := hid KA.out.1.size
        go_wp2_with (first
          | (go_at_call 76; refine (rmade_m 1 ⟨1, 0, 0, [(m0, 1)], [], [], []⟩ (some ⟨B0, 0, none⟩) 1 1 none 0 0 none 0 0 none 0 0 D v _ ⟨⟨R0.out, nrun_nil _⟩, nrun_nil _, nrun_nil _⟩ ⟨⟨by show I64 1; unfold I64; decide, calc.i64_0, calc.i64_0⟩, ⟨one_nok H0.out, nok_nild⟩, nok_nild, nok_nild⟩ ⟨⟨one_bag m0, bag_nil⟩, bag_nil, bag_nil⟩ ⟨⟨by simp, by simp⟩, by simp, by simp⟩ (.inl rfl) XC XB).mono ?_; rintro e w2 ⟨⟨r0, r1, r2, r3, r4, r5, r6, r7, r8, r9, r10, r11, rfl, hd, hf⟩, hb⟩; have DD := hid hd; have FF := hid hf; replace KA := hid (KA.out.step hb); replace KR := hid (KR.out.step hb); clear hd hf hb y0 y1 y2 y3)
          | (refine wpList_store_whole rfl 78 (.tmp 4) (.tmp 41) rfl N1 (rdC D.n D.s0 D.s1 r0 r1 r2 r3 r4 r5 r6 r7 r8 r9 r10 r11 v) rfl rfl 78 _ KR.out.2.2 rfl (by show _ = some 8; exact size_rd) (rdC_one _ _ _ _ _ _ _ _ _ _ _ _ _ _ _ _) ?_; intro w9 hp9 hg9; have KR9 := hid (kp_at KR.out hg9 hp9); have D9 := hid (dw_apart DD.out FF.out hg9 LT.out); clear hp9 hg9))
        (try simp only [Exit.inBlock, Exit.then])
        show bodyPost Try.prog Try.f33 _ _ _ _
        refine bodyPost_ret (results_cell_row (p := 4) rfl _ _ N1 _ (rdC D.n D.s0 D.s1 r0 r1 r2 r3 r4 r5 r6 r7 r8 r9 r10 r11 v) (0, 0) _ rfl KR9.out.2.2 Try.underlying78 rfl (by kernel_rfl)) rfl ?_
        exact ⟨⟨r0, r1, r2, r3, r4, r5, r6, r7, r8, r9, r10, r11, rfl, D9.out, FF.out.mono SZ.out⟩, KR9.out.1⟩
      · skip
        have cm := kp_cell (j := 6) (v := .int .i64 m1) KA.out rfl
        have cd := kp_cell (j := 0) (v := .bool false) KA.out rfl
        go_upto_region 9 with fail
        clear cm cd
        have LB1 := hid (heap_lt KO.out.2.2)
        have R1 : Hid (NRun (U0.alloc (.cells #[.int .i64 m1, .int .i64 1] 65)) (some ⟨U0.heap.size, 0, none⟩) 1 1 [(m1, 1)]) := hid (nrun_heap (l := [(m1, 1)]) (t := 65) (hnew rfl) (by simp))
        replace KA := hid (kp_alloc KA.out (.cells #[.int .i64 m1, .int .i64 1] 65))
        replace KR := hid (kp_alloc KR.out (.cells #[.int .i64 m1, .int .i64 1] 65))
        replace KI := hid (kp_alloc KI.out (.cells #[.int .i64 m1, .int .i64 1] 65))
        replace KO := hid (kp_alloc KO.out (.cells #[.int .i64 m1, .int .i64 1] 65))
        replace R0 := hid (R0.out.below (b1alloc U0 (.cells #[.int .i64 m1, .int .i64 1] 65)))
        generalize U0.alloc (.cells #[.int .i64 m1, .int .i64 1] 65) = V1 at KA KR KI KO R0 R1 ⊢
        obtain ⟨B1, hB1⟩ : ∃ y, U0.heap.size = y := ⟨_, rfl⟩
        rw [hB1] at R1 LB1
        (try rw [hB1])
        clear hB1
        have cd := kp_cell (j := 0) (v := .bool false) KA.out rfl
        go_upto_region 12 with fail
        clear cd
        have cz := kp_cell (j := 1) (v := .slice none 0 0) KI.out rfl
        have fz := kp_froz KI.out 1
        go_upto_region 7 with fail
        clear cz fz
        have g9 := set_grown V1 N2 1 (.slice (some ⟨B1, 0, none⟩) 1 1)
        replace KA := hid (kp_gr KA.out g9 (by have := HN.out; have := HN0.out; have := SZ0.out; omega) (by have := HN.out; have := HN0.out; have := SZ0.out; omega))
        replace KR := hid (kp_gr KR.out g9 (by have := HN.out; have := HN0.out; have := SZ0.out; omega) (by have := HN.out; have := HN0.out; have := SZ0.out; omega))
        replace KO := hid (kp_gr KO.out g9 (by have := HN.out; have := HN0.out; have := SZ0.out; omega) (by have := HN.out; have := HN0.out; have := SZ0.out; omega))
        replace R0 := hid (R0.out.apart g9 (fun _ b' o' e => by cases e; have := LB0.out; have := HN.out; omega))
        replace R1 := hid (R1.out.apart g9 (fun _ b' o' e => by cases e; have := LB1.out; have := HN.out; omega))
        replace KI : Hid (Kp w (V1.setCell ⟨N2, 1, none⟩ (.slice (some ⟨B1, 0, none⟩) 1 1)) N2 (.cells #[.slice (some ⟨B0, 0, none⟩) 1 1, .slice (some ⟨B1, 0, none⟩) 1 1] 24)) := hid (kp_set (j := 1) (v := .slice (some ⟨B1, 0, none⟩) 1 1) KI.out)
        clear g9
        generalize V1.setCell ⟨N2, 1, none⟩ (.slice (some ⟨B1, 0, none⟩) 1 1) = U1 at KA KR KI KO R0 R1 ⊢
        go_wp2
        rw [rounds_succ]
        have XE := xd_come (m := 2) (m0 := m0) (m1 := m1) (.inr rfl) H0.out H1.out
        have XB : Hid (xdB 2 1 [(m0, 1)] [(m1, 1)] [] [] = v) := hid (XE.1.trans hv.out)
        have XC : Hid (xdC 2 1 [(m0, 1)] [(m1, 1)] [] [] = D) := hid (XE.2.trans hC.out)
        clear XE
        obtain ⟨y0, y1⟩ := box_two KI.out.2.2
        obtain ⟨y2, y3⟩ := box_two KO.out.2.2
        have LT := hid (heap_lt KR.out.2.2)
        have SZ := hid KA.out.1.size
        go_wp2_with (first
          | (go_at_call 76; refine (rmade_m 2 ⟨1, 0, 0, [(m0, 1)], [(m1, 1)], [], []⟩ (some ⟨B0, 0, none⟩) 1 1 (some ⟨B1, 0, none⟩) 1 1 none 0 0 none 0 0 D v _ ⟨⟨R0.out, R1.out⟩, nrun_nil _, nrun_nil _⟩ ⟨⟨by show I64 1; unfold I64; decide, calc.i64_0, calc.i64_0⟩, ⟨one_nok H0.out, one_nok H1.out⟩, nok_nild, nok_nild⟩ ⟨⟨one_bag m0, bag_nil⟩, one_bag m1, bag_nil⟩ ⟨⟨by simp, by simp⟩, by simp, by simp⟩ (.inr rfl) XC XB).mono ?_; rintro e w2 ⟨⟨r0, r1, r2, r3, r4, r5, r6, r7, r8, r9, r10, r11, rfl, hd, hf⟩, hb⟩; have DD := hid hd; have FF := hid hf; replace KA := hid (KA.out.step hb); replace KR := hid (KR.out.step hb); clear hd hf hb y0 y1 y2 y3)
          | (refine wpList_store_whole rfl 78 (.tmp 4) (.tmp 41) rfl N1 (rdC D.n D.s0 D.s1 r0 r1 r2 r3 r4 r5 r6 r7 r8 r9 r10 r11 v) rfl rfl 78 _ KR.out.2.2 rfl (by show _ = some 8; exact size_rd) (rdC_one _ _ _ _ _ _ _ _ _ _ _ _ _ _ _ _) ?_; intro w9 hp9 hg9; have KR9 := hid (kp_at KR.out hg9 hp9); have D9 := hid (dw_apart DD.out FF.out hg9 LT.out); clear hp9 hg9))
        (try simp only [Exit.inBlock, Exit.then])
        show bodyPost Try.prog Try.f33 _ _ _ _
        refine bodyPost_ret (results_cell_row (p := 4) rfl _ _ N1 _ (rdC D.n D.s0 D.s1 r0 r1 r2 r3 r4 r5 r6 r7 r8 r9 r10 r11 v) (0, 0) _ rfl KR9.out.2.2 Try.underlying78 rfl (by kernel_rfl)) rfl ?_
        exact ⟨⟨r0, r1, r2, r3, r4, r5, r6, r7, r8, r9, r10, r11, rfl, D9.out, FF.out.mono SZ.out⟩, KR9.out.1⟩
    | true =>
      go_upto_region 6 with fail
      refine wp_loop_rounds 3 ?_
      rw [rounds_succ]
      have cm := kp_cell (j := 5) (v := .int .i64 m0) KA.out rfl
      have cd := kp_cell (j := 0) (v := .bool true) KA.out rfl
      go_upto_region 9 with fail
      clear cm cd
      have LB0 := hid (heap_lt KO.out.2.2)
      have R0 : Hid (NRun (W2.alloc (.cells #[.int .i64 m0, .int .i64 1] 65)) (some ⟨W2.heap.size, 0, none⟩) 1 1 [(m0, 1)]) := hid (nrun_heap (l := [(m0, 1)]) (t := 65) (hnew rfl) (by simp))
      replace KA := hid (kp_alloc KA.out (.cells #[.int .i64 m0, .int .i64 1] 65))
      replace KR := hid (kp_alloc KR.out (.cells #[.int .i64 m0, .int .i64 1] 65))
      replace KI := hid (kp_alloc KI.out (.cells #[.int .i64 m0, .int .i64 1] 65))
      replace KO := hid (kp_alloc KO.out (.cells #[.int .i64 m0, .int .i64 1] 65))
      generalize W2.alloc (.cells #[.int .i64 m0, .int .i64 1] 65) = V0 at KA KR KI KO R0 ⊢
      obtain ⟨B0, hB0⟩ : ∃ y, W2.heap.size = y := ⟨_, rfl⟩
      rw [hB0] at R0 LB0
      (try rw [hB0])
      clear hB0
      have cd := kp_cell (j := 0) (v := .bool true) KA.out rfl
      go_upto_region 10 with fail
      clear cd
      have cz := kp_cell (j := 0) (v := .slice none 0 0) KO.out rfl
      have fz := kp_froz KO.out 0
      go_upto_region 7 with fail
      clear cz fz
      have g9 := set_grown V0 N3 0 (.slice (some ⟨B0, 0, none⟩) 1 1)
      replace KA := hid (kp_gr KA.out g9 (by have := HN.out; have := HN0.out; have := SZ0.out; omega) (by have := HN.out; have := HN0.out; have := SZ0.out; omega))
      replace KR := hid (kp_gr KR.out g9 (by have := HN.out; have := HN0.out; have := SZ0.out; omega) (by have := HN.out; have := HN0.out; have := SZ0.out; omega))
      replace KI := hid (kp_gr KI.out g9 (by have := HN.out; have := HN0.out; have := SZ0.out; omega) (by have := HN.out; have := HN0.out; have := SZ0.out; omega))
      replace R0 := hid (R0.out.apart g9 (fun _ b' o' e => by cases e; have := LB0.out; have := HN.out; omega))
      replace KO : Hid (Kp w (V0.setCell ⟨N3, 0, none⟩ (.slice (some ⟨B0, 0, none⟩) 1 1)) N3 (.cells #[.slice (some ⟨B0, 0, none⟩) 1 1, .slice none 0 0] 24)) := hid (kp_set (j := 0) (v := .slice (some ⟨B0, 0, none⟩) 1 1) KO.out)
      clear g9
      generalize V0.setCell ⟨N3, 0, none⟩ (.slice (some ⟨B0, 0, none⟩) 1 1) = U0 at KA KR KI KO R0 ⊢
      go_wp2
      rw [rounds_succ]
      rcases hm with rfl | rfl
      · skip
        have XE := xd_go (m := 1) (m0 := m0) (m1 := m1) (.inl rfl) H0.out H1.out
        have XB : Hid (xdB 1 (-1) [] [] [(m0, 1)] [] = v) := hid (XE.1.trans hv.out)
        have XC : Hid (xdC 1 (-1) [] [] [(m0, 1)] [] = D) := hid (XE.2.trans hC.out)
        clear XE
        obtain ⟨y0, y1⟩ := box_two KI.out.2.2
        obtain ⟨y2, y3⟩ := box_two KO.out.2.2
        have LT := hid (heap_lt KR.out.2.2)
        have SZ := hid KA.out.1.size
        go_wp2_with (first
          | (go_at_call 76; refine (rmade_m 1 ⟨-1, 0, 0, [], [], [(m0, 1)], []⟩ none 0 0 none 0 0 (some ⟨B0, 0, none⟩) 1 1 none 0 0 D v _ ⟨⟨nrun_nil _, nrun_nil _⟩, R0.out, nrun_nil _⟩ ⟨⟨by show I64 (-1); unfold I64; decide, calc.i64_0, calc.i64_0⟩, ⟨nok_nild, nok_nild⟩, one_nok H0.out, nok_nild⟩ ⟨⟨bag_nil, one_bag m0⟩, bag_nil, bag_nil⟩ ⟨⟨by simp, by simp⟩, by simp, by simp⟩ (.inl rfl) XC XB).mono ?_; rintro e w2 ⟨⟨r0, r1, r2, r3, r4, r5, r6, r7, r8, r9, r10, r11, rfl, hd, hf⟩, hb⟩; have DD := hid hd; have FF := hid hf; replace KA := hid (KA.out.step hb); replace KR := hid (KR.out.step hb); clear hd hf hb y0 y1 y2 y3)
          | (refine wpList_store_whole rfl 78 (.tmp 4) (.tmp 41) rfl N1 (rdC D.n D.s0 D.s1 r0 r1 r2 r3 r4 r5 r6 r7 r8 r9 r10 r11 v) rfl rfl 78 _ KR.out.2.2 rfl (by show _ = some 8; exact size_rd) (rdC_one _ _ _ _ _ _ _ _ _ _ _ _ _ _ _ _) ?_; intro w9 hp9 hg9; have KR9 := hid (kp_at KR.out hg9 hp9); have D9 := hid (dw_apart DD.out FF.out hg9 LT.out); clear hp9 hg9))
        (try simp only [Exit.inBlock, Exit.then])
        show bodyPost Try.prog Try.f33 _ _ _ _
        refine bodyPost_ret (results_cell_row (p := 4) rfl _ _ N1 _ (rdC D.n D.s0 D.s1 r0 r1 r2 r3 r4 r5 r6 r7 r8 r9 r10 r11 v) (0, 0) _ rfl KR9.out.2.2 Try.underlying78 rfl (by kernel_rfl)) rfl ?_
        exact ⟨⟨r0, r1, r2, r3, r4, r5, r6, r7, r8, r9, r10, r11, rfl, D9.out, FF.out.mono SZ.out⟩, KR9.out.1⟩
      · skip
        have cm := kp_cell (j := 6) (v := .int .i64 m1) KA.out rfl
        have cd := kp_cell (j := 0) (v := .bool true) KA.out rfl
        go_upto_region 9 with fail
        clear cm cd
        have LB1 := hid (heap_lt KO.out.2.2)
        have R1 : Hid (NRun (U0.alloc (.cells #[.int .i64 m1, .int .i64 1] 65)) (some ⟨U0.heap.size, 0, none⟩) 1 1 [(m1, 1)]) := hid (nrun_heap (l := [(m1, 1)]) (t := 65) (hnew rfl) (by simp))
        replace KA := hid (kp_alloc KA.out (.cells #[.int .i64 m1, .int .i64 1] 65))
        replace KR := hid (kp_alloc KR.out (.cells #[.int .i64 m1, .int .i64 1] 65))
        replace KI := hid (kp_alloc KI.out (.cells #[.int .i64 m1, .int .i64 1] 65))
        replace KO := hid (kp_alloc KO.out (.cells #[.int .i64 m1, .int .i64 1] 65))
        replace R0 := hid (R0.out.below (b1alloc U0 (.cells #[.int .i64 m1, .int .i64 1] 65)))
        generalize U0.alloc (.cells #[.int .i64 m1, .int .i64 1] 65) = V1 at KA KR KI KO R0 R1 ⊢
        obtain ⟨B1, hB1⟩ : ∃ y, U0.heap.size = y := ⟨_, rfl⟩
        rw [hB1] at R1 LB1
        (try rw [hB1])
        clear hB1
        have cd := kp_cell (j := 0) (v := .bool true) KA.out rfl
        go_upto_region 10 with fail
        clear cd
        have cz := kp_cell (j := 1) (v := .slice none 0 0) KO.out rfl
        have fz := kp_froz KO.out 1
        go_upto_region 7 with fail
        clear cz fz
        have g9 := set_grown V1 N3 1 (.slice (some ⟨B1, 0, none⟩) 1 1)
        replace KA := hid (kp_gr KA.out g9 (by have := HN.out; have := HN0.out; have := SZ0.out; omega) (by have := HN.out; have := HN0.out; have := SZ0.out; omega))
        replace KR := hid (kp_gr KR.out g9 (by have := HN.out; have := HN0.out; have := SZ0.out; omega) (by have := HN.out; have := HN0.out; have := SZ0.out; omega))
        replace KI := hid (kp_gr KI.out g9 (by have := HN.out; have := HN0.out; have := SZ0.out; omega) (by have := HN.out; have := HN0.out; have := SZ0.out; omega))
        replace R0 := hid (R0.out.apart g9 (fun _ b' o' e => by cases e; have := LB0.out; have := HN.out; omega))
        replace R1 := hid (R1.out.apart g9 (fun _ b' o' e => by cases e; have := LB1.out; have := HN.out; omega))
        replace KO : Hid (Kp w (V1.setCell ⟨N3, 1, none⟩ (.slice (some ⟨B1, 0, none⟩) 1 1)) N3 (.cells #[.slice (some ⟨B0, 0, none⟩) 1 1, .slice (some ⟨B1, 0, none⟩) 1 1] 24)) := hid (kp_set (j := 1) (v := .slice (some ⟨B1, 0, none⟩) 1 1) KO.out)
        clear g9
        generalize V1.setCell ⟨N3, 1, none⟩ (.slice (some ⟨B1, 0, none⟩) 1 1) = U1 at KA KR KI KO R0 R1 ⊢
        go_wp2
        rw [rounds_succ]
        have XE := xd_go (m := 2) (m0 := m0) (m1 := m1) (.inr rfl) H0.out H1.out
        have XB : Hid (xdB 2 (-1) [] [] [(m0, 1)] [(m1, 1)] = v) := hid (XE.1.trans hv.out)
        have XC : Hid (xdC 2 (-1) [] [] [(m0, 1)] [(m1, 1)] = D) := hid (XE.2.trans hC.out)
        clear XE
        obtain ⟨y0, y1⟩ := box_two KI.out.2.2
        obtain ⟨y2, y3⟩ := box_two KO.out.2.2
        have LT := hid (heap_lt KR.out.2.2)
        have SZ := hid KA.out.1.size
        go_wp2_with (first
          | (go_at_call 76; refine (rmade_m 2 ⟨-1, 0, 0, [], [], [(m0, 1)], [(m1, 1)]⟩ none 0 0 none 0 0 (some ⟨B0, 0, none⟩) 1 1 (some ⟨B1, 0, none⟩) 1 1 D v _ ⟨⟨nrun_nil _, nrun_nil _⟩, R0.out, R1.out⟩ ⟨⟨by show I64 (-1); unfold I64; decide, calc.i64_0, calc.i64_0⟩, ⟨nok_nild, nok_nild⟩, one_nok H0.out, one_nok H1.out⟩ ⟨⟨bag_nil, one_bag m0⟩, bag_nil, one_bag m1⟩ ⟨⟨by simp, by simp⟩, by simp, by simp⟩ (.inr rfl) XC XB).mono ?_; rintro e w2 ⟨⟨r0, r1, r2, r3, r4, r5, r6, r7, r8, r9, r10, r11, rfl, hd, hf⟩, hb⟩; have DD := hid hd; have FF := hid hf; replace KA := hid (KA.out.step hb); replace KR := hid (KR.out.step hb); clear hd hf hb y0 y1 y2 y3)
          | (refine wpList_store_whole rfl 78 (.tmp 4) (.tmp 41) rfl N1 (rdC D.n D.s0 D.s1 r0 r1 r2 r3 r4 r5 r6 r7 r8 r9 r10 r11 v) rfl rfl 78 _ KR.out.2.2 rfl (by show _ = some 8; exact size_rd) (rdC_one _ _ _ _ _ _ _ _ _ _ _ _ _ _ _ _) ?_; intro w9 hp9 hg9; have KR9 := hid (kp_at KR.out hg9 hp9); have D9 := hid (dw_apart DD.out FF.out hg9 LT.out); clear hp9 hg9))
        (try simp only [Exit.inBlock, Exit.then])
        show bodyPost Try.prog Try.f33 _ _ _ _
        refine bodyPost_ret (results_cell_row (p := 4) rfl _ _ N1 _ (rdC D.n D.s0 D.s1 r0 r1 r2 r3 r4 r5 r6 r7 r8 r9 r10 r11 v) (0, 0) _ rfl KR9.out.2.2 Try.underlying78 rfl (by kernel_rfl)) rfl ?_
        exact ⟨⟨r0, r1, r2, r3, r4, r5, r6, r7, r8, r9, r10, r11, rfl, D9.out, FF.out.mono SZ.out⟩, KR9.out.1⟩
  · have e0 : ofdB m m0 m1 del = false := ofd_no (by simp only [Bool.or_eq_false_iff, decide_eq_false_iff_not]; omega)
    have HZ := hid (And.intro (hC.out.symm.trans (ofdC_no e0)) (hv.out.symm.trans e0))
    clear e0
    by_cases h1 : m < 1
    · have q1 : decide (m < 1) = true := decide_eq_true h1
      clear hN0
      go_enter Try.func33, Try.ntmps33
      go_upto_region 1 with fail
      generalize (w.alloc (.cells #[.bool del, .int .u8 x0, .int .u8 x1, .int .u8 x2, .int .u8 x3, .int .i64 m0, .int .i64 m1] 76)).alloc (.cells #[.int .i64 0, .int .i64 0, .int .i64 0, .slice none 0 0, .slice none 0 0, .slice none 0 0, .slice none 0 0, .bool false] 78) = W at KA KR ⊢
      (try rw [hN1])
      clear hN1
      go_wp2_with (refine wpList_store_whole rfl 78 (.tmp 4) (.tmp 16) rfl N1 (rdC 0 0 0 none 0 0 none 0 0 none 0 0 none 0 0 false) rfl rfl 78 _ KR.out.2.2 rfl (by show _ = some 8; exact size_rd) (rdC_one _ _ _ _ _ _ _ _ _ _ _ _ _ _ _ _) ?_; intro w9 hp9 hg9; have KR9 := hid (kp_at KR.out hg9 hp9); clear hp9 hg9)
      (try simp only [Exit.inBlock, Exit.then])
      show bodyPost Try.prog Try.f33 _ _ _ _
      refine bodyPost_ret (results_cell_row (p := 4) rfl _ _ N1 _ (rdC 0 0 0 none 0 0 none 0 0 none 0 0 none 0 0 false) (0, 0) _ rfl KR9.out.2.2 Try.underlying78 rfl (by kernel_rfl)) rfl ?_
      obtain ⟨z1, z2⟩ := HZ.out
      subst z1
      subst z2
      exact ⟨⟨none, 0, 0, none, 0, 0, none, 0, 0, none, 0, 0, rfl, dw_0 _, fd_0 _⟩, KR9.out.1⟩
    · have q1 : decide (m < 1) = false := decide_eq_false h1
      have q2 : decide (2 < m) = true := decide_eq_true (by omega)
      clear hN0
      go_enter Try.func33, Try.ntmps33
      go_upto_region 1 with fail
      generalize (w.alloc (.cells #[.bool del, .int .u8 x0, .int .u8 x1, .int .u8 x2, .int .u8 x3, .int .i64 m0, .int .i64 m1] 76)).alloc (.cells #[.int .i64 0, .int .i64 0, .int .i64 0, .slice none 0 0, .slice none 0 0, .slice none 0 0, .slice none 0 0, .bool false] 78) = W at KA KR ⊢
      (try rw [hN1])
      clear hN1
      go_wp2_with (refine wpList_store_whole rfl 78 (.tmp 4) (.tmp 16) rfl N1 (rdC 0 0 0 none 0 0 none 0 0 none 0 0 none 0 0 false) rfl rfl 78 _ KR.out.2.2 rfl (by show _ = some 8; exact size_rd) (rdC_one _ _ _ _ _ _ _ _ _ _ _ _ _ _ _ _) ?_; intro w9 hp9 hg9; have KR9 := hid (kp_at KR.out hg9 hp9); clear hp9 hg9)
      (try simp only [Exit.inBlock, Exit.then])
      show bodyPost Try.prog Try.f33 _ _ _ _
      refine bodyPost_ret (results_cell_row (p := 4) rfl _ _ N1 _ (rdC 0 0 0 none 0 0 none 0 0 none 0 0 none 0 0 false) (0, 0) _ rfl KR9.out.2.2 Try.underlying78 rfl (by kernel_rfl)) rfl ?_
      obtain ⟨z1, z2⟩ := HZ.out
      subst z1
      subst z2
      exact ⟨⟨none, 0, 0, none, 0, 0, none, 0, 0, none, 0, 0, rfl, dw_0 _, fd_0 _⟩, KR9.out.1⟩

end Go.Proofs.Ytjkkajhjcinalaa

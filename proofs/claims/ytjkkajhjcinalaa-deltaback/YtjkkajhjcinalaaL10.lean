/-
  What parts two cells: what Between of delta returns.
  Conditions: as each theorem states them.
-/
import Derived.Test.YtjkkajhjcinalaaK10
namespace Go.Proofs.Ytjkkajhjcinalaa
open Go.ChangeShapes Go.WideShapes Go.ChangeAt Go.RowKit
set_option linter.unusedVariables false
set_option linter.unusedSimpArgs false
set_option maxRecDepth 100000

theorem bwC_no {m : Int} {a b : Cl} {was is : Bool} (h : bwB m a was b is = false) : bwC m a was b is = dl0 := by unfold bwC; rw [h]; rfl
theorem bwC_yes {m : Int} {a b : Cl} {was is : Bool} (h : bwB m a was b is = true) : bwC m a was b is = bwR a b := by unfold bwC; rw [h]; rfl
theorem bw_a {m : Int} {a b : Cl} {was is : Bool} (h : stB m a was = false ∨ stB m b is = false) : bwB m a was b is = false := by
  unfold bwB
  rcases h with h | h <;> rw [h] <;> simp
theorem bw_eq {m : Int} {a b : Cl} {was is : Bool} (h : stB m a was = true) (h' : stB m b is = true) : bwB m a was b is = (calc.fitB (b.s0 - a.s0) && calc.fitB (b.s1 - a.s1)) := by
  unfold bwB
  rw [h, h']
  rfl
set_option maxHeartbeats 32000000 in
theorem dbetween_m (m : Int) (x : Cl) (a0 : Option Addr) (a1 a2 : Nat) (a3 : Option Addr) (a4 a5 : Nat) (was : Bool) (y : Cl) (b0 : Option Addr) (b1 b2 : Nat) (b3 : Option Addr) (b4 b5 : Nat) (is : Bool) (D : Dl) (v : Bool) (w : World) (hw : CW w a0 a1 a2 a3 a4 a5 x) (hz : CW w b0 b1 b2 b3 b4 b5 y) (hk : okc x) (hk' : okc y) (hp : x.b0.length ≤ 1000 ∧ x.b1.length ≤ 1000) (hp' : y.b0.length ≤ 1000 ∧ y.b1.length ≤ 1000) (hC : Hid (bwC m x was y is = D)) (hv : Hid (bwB m x was y is = v)) :
    Calls Try.prog 50 #[.int .i64 m, (.agg #[.int .i64 x.n, .int .i64 x.s0, .int .i64 x.s1, .slice a0 a1 a2, .slice a3 a4 a5]), .bool was, (.agg #[.int .i64 y.n, .int .i64 y.s0, .int .i64 y.s1, .slice b0 b1 b2, .slice b3 b4 b5]), .bool is] w fun e w' => (∃ r0 r1 r2 r3 r4 r5 r6 r7 r8 r9 r10 r11, e = .returned (.tuple #[(.agg #[.int .i64 D.n, .int .i64 D.s0, .int .i64 D.s1, .slice r0 r1 r2, .slice r3 r4 r5, .slice r6 r7 r8, .slice r9 r10 r11]), .bool v]) ∧ DW w' r0 r1 r2 r3 r4 r5 r6 r7 r8 r9 r10 r11 D ∧ DF w r0 r1 r2 r3 r4 r5 r6 r7 r8 r9 r10 r11) ∧ Below w.heap.size w w' := by
  have HW := hid hw
  have HV := hid hz
  have HK := hid hk
  have HK2 := hid hk'
  have HP := hid hp
  have HP2 := hid hp'
  clear hw hz hk hk' hp hp'
  have KK := hid (three_new w (.cells #[.int .i64 x.n, .int .i64 x.s0, .int .i64 x.s1, .slice a0 a1 a2, .slice a3 a4 a5] 26) (.cells #[.int .i64 y.n, .int .i64 y.s0, .int .i64 y.s1, .slice b0 b1 b2, .slice b3 b4 b5] 26) (.cells #[.int .i64 0, .int .i64 0, .int .i64 0, .slice none 0 0, .slice none 0 0, .slice none 0 0, .slice none 0 0] 68))
  have tkA : True := trivial
  cases ga : stB m x was with
  | false =>
    have GA := hid ga
    have HZ := hid (And.intro (hC.out.symm.trans (bwC_no (bw_a (.inl ga)))) (hv.out.symm.trans (bw_a (.inl ga))))
    clear ga
    go_enter Try.func50, Try.ntmps50
    go_upto_region 1 with fail
    generalize ((w.alloc (.cells #[.int .i64 x.n, .int .i64 x.s0, .int .i64 x.s1, .slice a0 a1 a2, .slice a3 a4 a5] 26)).alloc (.cells #[.int .i64 y.n, .int .i64 y.s0, .int .i64 y.s1, .slice b0 b1 b2, .slice b3 b4 b5] 26)).alloc (.cells #[.int .i64 0, .int .i64 0, .int .i64 0, .slice none 0 0, .slice none 0 0, .slice none 0 0, .slice none 0 0] 68) = W at KK ⊢
    obtain ⟨N0, hN0⟩ : ∃ y, w.heap.size = y := ⟨_, rfl⟩
    obtain ⟨N1, hN1⟩ : ∃ y, N0 + 1 = y := ⟨_, rfl⟩
    obtain ⟨N2, hN2⟩ : ∃ y, N1 + 1 = y := ⟨_, rfl⟩
    rw [hN0, hN1, hN2] at KK
    (try rw [hN0]); (try rw [hN1]); (try rw [hN2])
    have HO : Hid (w.heap.size = N0 ∧ N0 < N1 ∧ N1 < N2) := hid (by omega)
    clear hN0 hN1 hN2
    have KA := hid KK.out.1
    have KB := hid KK.out.2.1
    have KR := hid KK.out.2.2
    clear KK
    obtain ⟨p0, p1, p2, p3, p4⟩ := box_five KA.out.2.2
    obtain ⟨q0, q1, q2, q3, q4⟩ := box_five KB.out.2.2
    go_upto_region 2 with (go_at_call 90; refine (stands_m _ x a0 a1 a2 a3 a4 a5 was false _ (HW.out.below KA.out.1) HK.out GA).mono ?_; rintro e w1 ⟨rfl, hb⟩; replace KA := hid (KA.out.step hb); replace KB := hid (KB.out.step hb); replace KR := hid (KR.out.step hb); clear hb p0 p1 p2 p3 p4 q0 q1 q2 q3 q4; obtain ⟨p0, p1, p2, p3, p4⟩ := box_five KA.out.2.2; obtain ⟨q0, q1, q2, q3, q4⟩ := box_five KB.out.2.2)
    go_wp2_with (refine wpList_store_whole rfl 68 (.tmp 10) (.tmp 27) rfl N2 (dlC 0 0 0 none 0 0 none 0 0 none 0 0 none 0 0) rfl rfl 68 _ KR.out.2.2 rfl (by show _ = some 7; exact size_dl) (dlC_one _ _ _ _ _ _ _ _ _ _ _ _ _ _ _) ?_; intro w9 hp9 hg9; have KR9 := hid (kp_at KR.out hg9 hp9); clear hp9 hg9)
    (try simp only [Exit.inBlock, Exit.then])
    show bodyPost Try.prog Try.f50 _ _ _ _
    refine bodyPost_ret (results_cell_slot (p := 10) (u := 11) rfl _ _ N2 _ (dlC 0 0 0 none 0 0 none 0 0 none 0 0 none 0 0) (0, 0) _ (.bool false) rfl rfl KR9.out.2.2 Try.underlying68 rfl (by kernel_rfl)) rfl ?_
    obtain ⟨q1, q2⟩ := HZ.out
    subst q1
    subst q2
    exact ⟨⟨none, 0, 0, none, 0, 0, none, 0, 0, none, 0, 0, rfl, dw_0 _, df_0 _⟩, KR9.out.1⟩
  | true =>
    have GA := hid ga
    cases gb : stB m y is with
    | false =>
      have GB := hid gb
      have HZ := hid (And.intro (hC.out.symm.trans (bwC_no (bw_a (.inr gb)))) (hv.out.symm.trans (bw_a (.inr gb))))
      clear ga gb
      go_enter Try.func50, Try.ntmps50
      go_upto_region 1 with fail
      generalize ((w.alloc (.cells #[.int .i64 x.n, .int .i64 x.s0, .int .i64 x.s1, .slice a0 a1 a2, .slice a3 a4 a5] 26)).alloc (.cells #[.int .i64 y.n, .int .i64 y.s0, .int .i64 y.s1, .slice b0 b1 b2, .slice b3 b4 b5] 26)).alloc (.cells #[.int .i64 0, .int .i64 0, .int .i64 0, .slice none 0 0, .slice none 0 0, .slice none 0 0, .slice none 0 0] 68) = W at KK ⊢
      obtain ⟨N0, hN0⟩ : ∃ y, w.heap.size = y := ⟨_, rfl⟩
      obtain ⟨N1, hN1⟩ : ∃ y, N0 + 1 = y := ⟨_, rfl⟩
      obtain ⟨N2, hN2⟩ : ∃ y, N1 + 1 = y := ⟨_, rfl⟩
      rw [hN0, hN1, hN2] at KK
      (try rw [hN0]); (try rw [hN1]); (try rw [hN2])
      have HO : Hid (w.heap.size = N0 ∧ N0 < N1 ∧ N1 < N2) := hid (by omega)
      clear hN0 hN1 hN2
      have KA := hid KK.out.1
      have KB := hid KK.out.2.1
      have KR := hid KK.out.2.2
      clear KK
      obtain ⟨p0, p1, p2, p3, p4⟩ := box_five KA.out.2.2
      obtain ⟨q0, q1, q2, q3, q4⟩ := box_five KB.out.2.2
      go_upto_region 2 with (first
        | (go_at_call 90; clear tkA; refine (stands_m _ x a0 a1 a2 a3 a4 a5 was true _ (HW.out.below KA.out.1) HK.out GA).mono ?_; rintro e w1 ⟨rfl, hb⟩; replace KA := hid (KA.out.step hb); replace KB := hid (KB.out.step hb); replace KR := hid (KR.out.step hb); clear hb p0 p1 p2 p3 p4 q0 q1 q2 q3 q4; obtain ⟨p0, p1, p2, p3, p4⟩ := box_five KA.out.2.2; obtain ⟨q0, q1, q2, q3, q4⟩ := box_five KB.out.2.2)
        | (go_at_call 90; refine (stands_m _ y b0 b1 b2 b3 b4 b5 is false _ (HV.out.below KA.out.1) HK2.out GB).mono ?_; rintro e w2 ⟨rfl, hb⟩; replace KA := hid (KA.out.step hb); replace KB := hid (KB.out.step hb); replace KR := hid (KR.out.step hb); clear hb p0 p1 p2 p3 p4 q0 q1 q2 q3 q4; obtain ⟨p0, p1, p2, p3, p4⟩ := box_five KA.out.2.2; obtain ⟨q0, q1, q2, q3, q4⟩ := box_five KB.out.2.2))
      go_wp2_with (refine wpList_store_whole rfl 68 (.tmp 10) (.tmp 27) rfl N2 (dlC 0 0 0 none 0 0 none 0 0 none 0 0 none 0 0) rfl rfl 68 _ KR.out.2.2 rfl (by show _ = some 7; exact size_dl) (dlC_one _ _ _ _ _ _ _ _ _ _ _ _ _ _ _) ?_; intro w9 hp9 hg9; have KR9 := hid (kp_at KR.out hg9 hp9); clear hp9 hg9)
      (try simp only [Exit.inBlock, Exit.then])
      show bodyPost Try.prog Try.f50 _ _ _ _
      refine bodyPost_ret (results_cell_slot (p := 10) (u := 11) rfl _ _ N2 _ (dlC 0 0 0 none 0 0 none 0 0 none 0 0 none 0 0) (0, 0) _ (.bool false) rfl rfl KR9.out.2.2 Try.underlying68 rfl (by kernel_rfl)) rfl ?_
      obtain ⟨q1, q2⟩ := HZ.out
      subst q1
      subst q2
      exact ⟨⟨none, 0, 0, none, 0, 0, none, 0, 0, none, 0, 0, rfl, dw_0 _, df_0 _⟩, KR9.out.1⟩
    | true =>
      have GB := hid gb
      have HE := hid (bw_eq ga gb)
      have BX := hid (st_bags ga)
      have BY := hid (st_bags gb)
      obtain ⟨na1, na2, _⟩ := BX.out.2
      obtain ⟨nb1, nb2, _⟩ := BY.out.2
      have hwn : IntKind.i64.wrap (y.n - x.n) = y.n - x.n := IntWalk.i64_in _ (by omega)
      clear ga gb
      obtain ⟨Fv, hFv⟩ : ∃ z, (calc.fitB (y.s0 - x.s0) && calc.fitB (y.s1 - x.s1)) = z := ⟨_, rfl⟩
      have FFv := hid hFv
      clear hFv
      rw [FFv.out] at HE
      obtain ⟨S0, hS0⟩ : ∃ z, (if Fv then y.s0 - x.s0 else 0) = z := ⟨_, rfl⟩
      have FS0 := hid hS0
      clear hS0
      obtain ⟨S1, hS1⟩ : ∃ z, (if Fv then y.s1 - x.s1 else 0) = z := ⟨_, rfl⟩
      have FS1 := hid hS1
      clear hS1
      obtain ⟨P0, hP0⟩ : ∃ z, lef y.b0 x.b0 = z := ⟨_, rfl⟩
      have FP0 := hid hP0
      clear hP0
      obtain ⟨P1, hP1⟩ : ∃ z, lef y.b1 x.b1 = z := ⟨_, rfl⟩
      have FP1 := hid hP1
      clear hP1
      obtain ⟨Q0, hQ0⟩ : ∃ z, lef x.b0 y.b0 = z := ⟨_, rfl⟩
      have FQ0 := hid hQ0
      clear hQ0
      obtain ⟨Q1, hQ1⟩ : ∃ z, lef x.b1 y.b1 = z := ⟨_, rfl⟩
      have FQ1 := hid hQ1
      clear hQ1
      obtain ⟨kp0, hkp0⟩ : ∃ z, P0.length = z := ⟨_, rfl⟩
      have Fkp0 := hid hkp0
      clear hkp0
      obtain ⟨kp1, hkp1⟩ : ∃ z, P1.length = z := ⟨_, rfl⟩
      have Fkp1 := hid hkp1
      clear hkp1
      obtain ⟨kq0, hkq0⟩ : ∃ z, Q0.length = z := ⟨_, rfl⟩
      have Fkq0 := hid hkq0
      clear hkq0
      obtain ⟨kq1, hkq1⟩ : ∃ z, Q1.length = z := ⟨_, rfl⟩
      have Fkq1 := hid hkq1
      clear hkq1
      go_enter Try.func50, Try.ntmps50
      go_upto_region 1 with fail
      generalize ((w.alloc (.cells #[.int .i64 x.n, .int .i64 x.s0, .int .i64 x.s1, .slice a0 a1 a2, .slice a3 a4 a5] 26)).alloc (.cells #[.int .i64 y.n, .int .i64 y.s0, .int .i64 y.s1, .slice b0 b1 b2, .slice b3 b4 b5] 26)).alloc (.cells #[.int .i64 0, .int .i64 0, .int .i64 0, .slice none 0 0, .slice none 0 0, .slice none 0 0, .slice none 0 0] 68) = W at KK ⊢
      obtain ⟨N0, hN0⟩ : ∃ y, w.heap.size = y := ⟨_, rfl⟩
      obtain ⟨N1, hN1⟩ : ∃ y, N0 + 1 = y := ⟨_, rfl⟩
      obtain ⟨N2, hN2⟩ : ∃ y, N1 + 1 = y := ⟨_, rfl⟩
      rw [hN0, hN1, hN2] at KK
      (try rw [hN0]); (try rw [hN1]); (try rw [hN2])
      have HO : Hid (w.heap.size = N0 ∧ N0 < N1 ∧ N1 < N2) := hid (by omega)
      clear hN0 hN1 hN2
      have KA := hid KK.out.1
      have KB := hid KK.out.2.1
      have KR := hid KK.out.2.2
      clear KK
      obtain ⟨p0, p1, p2, p3, p4⟩ := box_five KA.out.2.2
      obtain ⟨q0, q1, q2, q3, q4⟩ := box_five KB.out.2.2
      go_upto_region 3 with (first
        | (go_at_call 90; clear tkA; refine (stands_m _ x a0 a1 a2 a3 a4 a5 was true _ (HW.out.below KA.out.1) HK.out GA).mono ?_; rintro e w1 ⟨rfl, hb⟩; replace KA := hid (KA.out.step hb); replace KB := hid (KB.out.step hb); replace KR := hid (KR.out.step hb); clear hb p0 p1 p2 p3 p4 q0 q1 q2 q3 q4; obtain ⟨p0, p1, p2, p3, p4⟩ := box_five KA.out.2.2; obtain ⟨q0, q1, q2, q3, q4⟩ := box_five KB.out.2.2)
        | (go_at_call 90; refine (stands_m _ y b0 b1 b2 b3 b4 b5 is true _ (HV.out.below KA.out.1) HK2.out GB).mono ?_; rintro e w2 ⟨rfl, hb⟩; replace KA := hid (KA.out.step hb); replace KB := hid (KB.out.step hb); replace KR := hid (KR.out.step hb); clear hb p0 p1 p2 p3 p4 q0 q1 q2 q3 q4; obtain ⟨p0, p1, p2, p3, p4⟩ := box_five KA.out.2.2; obtain ⟨q0, q1, q2, q3, q4⟩ := box_five KB.out.2.2))
      go_upto_region 4 with (first
        | (go_at_call 77; refine (eachSub_m y.s0 y.s1 x.s0 x.s1 S0 S1 Fv _ ⟨HK2.out.2.1, HK2.out.2.2.1⟩ ⟨HK.out.2.1, HK.out.2.2.1⟩ FFv FS0 FS1).mono ?_; rintro e w3 ⟨rfl, hb⟩; replace KA := hid (KA.out.step hb); replace KB := hid (KB.out.step hb); replace KR := hid (KR.out.step hb); clear hb p0 p1 p2 p3 p4 q0 q1 q2 q3 q4; obtain ⟨p0, p1, p2, p3, p4⟩ := box_five KA.out.2.2; obtain ⟨q0, q1, q2, q3, q4⟩ := box_five KB.out.2.2)
        | (have KZ : Hid (Kp w (w3.alloc (.cells #[.int .i64 0, .int .i64 0] 22)) w3.heap.size (.cells #[.int .i64 0, .int .i64 0] 22)) := hid (kp_new2 KR.out.1 _ _ rfl); refine wpList_store_whole rfl 22 (.tmp 12) (.tmp 34) rfl w3.heap.size (aiC S0 S1) rfl rfl 22 _ KZ.out.2.2 rfl (by show _ = some 2; exact size_ai) (aiC_one _ _) ?_; intro w9 hp9 hg9; have K12 := hid (kp_at KZ.out hg9 hp9); have HK12 := hid (heap_lt KR.out.2.2); replace KA := hid (kp_new_gr KA.out hg9); replace KB := hid (kp_new_gr KB.out hg9); replace KR := hid (kp_new_gr KR.out hg9); clear hp9 hg9 KZ p0 p1 p2 p3 p4 q0 q1 q2 q3 q4; obtain ⟨p0, p1, p2, p3, p4⟩ := box_five KA.out.2.2; obtain ⟨q0, q1, q2, q3, q4⟩ := box_five KB.out.2.2))
      generalize w3.heap.size = N12 at K12 HK12 ⊢
      cases Fv with
      | false =>
        have HZ := hid (And.intro (hC.out.symm.trans (bwC_no (HE.out))) (hv.out.symm.trans (HE.out)))
        go_wp2_with (refine wpList_store_whole rfl 68 (.tmp 10) (.tmp 38) rfl N2 (dlC 0 0 0 none 0 0 none 0 0 none 0 0 none 0 0) rfl rfl 68 _ KR.out.2.2 rfl (by show _ = some 7; exact size_dl) (dlC_one _ _ _ _ _ _ _ _ _ _ _ _ _ _ _) ?_; intro w9 hp9 hg9; have KR9 := hid (kp_at KR.out hg9 hp9); clear hp9 hg9)
        (try simp only [Exit.inBlock, Exit.then])
        show bodyPost Try.prog Try.f50 _ _ _ _
        refine bodyPost_ret (results_cell_slot (p := 10) (u := 11) rfl _ _ N2 _ (dlC 0 0 0 none 0 0 none 0 0 none 0 0 none 0 0) (0, 0) _ (.bool false) rfl rfl KR9.out.2.2 Try.underlying68 rfl (by kernel_rfl)) rfl ?_
        obtain ⟨q1, q2⟩ := HZ.out
        subst q1
        subst q2
        exact ⟨⟨none, 0, 0, none, 0, 0, none, 0, 0, none, 0, 0, rfl, dw_0 _, df_0 _⟩, KR9.out.1⟩
      | true =>
        have VD := hid (hC.out.symm.trans (bwC_yes HE.out))
        have VV := hid (hv.out.symm.trans HE.out)
        have ES0 : Hid (y.s0 - x.s0 = S0) := FS0
        have ES1 : Hid (y.s1 - x.s1 = S1) := FS1
        clear FS0 FS1
        obtain ⟨g0, g1⟩ := box_two K12.out.2.2
        rename World => wj
        go_upto_region 7 with (have KZ : Hid (Kp w (wj.alloc (.cells #[.int .i64 0, .int .i64 0, .int .i64 0, .slice none 0 0, .slice none 0 0, .slice none 0 0, .slice none 0 0] 68)) wj.heap.size (.cells #[.int .i64 0, .int .i64 0, .int .i64 0, .slice none 0 0, .slice none 0 0, .slice none 0 0, .slice none 0 0] 68)) := hid (kp_new2 KR.out.1 _ _ rfl); refine wpList_store_whole rfl 68 (.tmp 14) (.tmp 45) rfl wj.heap.size (dlC (y.n - x.n) S0 S1 none 0 0 none 0 0 none 0 0 none 0 0) rfl rfl 68 _ KZ.out.2.2 rfl (by show _ = some 7; exact size_dl) (dlC_one _ _ _ _ _ _ _ _ _ _ _ _ _ _ _) ?_; intro w9 hp9 hg9; have KD := hid (kp_at KZ.out hg9 hp9); have HKD := hid (heap_lt KR.out.2.2); replace KA := hid (kp_new_gr KA.out hg9); replace KB := hid (kp_new_gr KB.out hg9); replace KR := hid (kp_new_gr KR.out hg9); clear hp9 hg9 KZ p0 p1 p2 p3 p4 q0 q1 q2 q3 q4; obtain ⟨p0, p1, p2, p3, p4⟩ := box_five KA.out.2.2; obtain ⟨q0, q1, q2, q3, q4⟩ := box_five KB.out.2.2)
        generalize wj.heap.size = N14 at KD HKD ⊢
        clear K12 HK12 g0 g1
        have y3 := kp_froz KD.out 3
        have y4 := kp_froz KD.out 4
        have y5 := kp_froz KD.out 5
        have y6 := kp_froz KD.out 6
        have z3 := kp_cell (j := 3) (v := .slice none 0 0) KD.out rfl
        have z4 := kp_cell (j := 4) (v := .slice none 0 0) KD.out rfl
        have z5 := kp_cell (j := 5) (v := .slice none 0 0) KD.out rfl
        have z6 := kp_cell (j := 6) (v := .slice none 0 0) KD.out rfl
        go_upto_region 8 with (go_at_call 84; refine (apart_m _ _ _ _ _ _ _ _ _ _ _ _ y.b0 y.b1 x.b0 x.b1 P0 P1 Q0 Q1 kp0 kp1 kq0 kq1 _ (HV.out.below KA.out.1) (HW.out.below KA.out.1) ⟨HK2.out.2.2.2.1, HK2.out.2.2.2.2⟩ ⟨HK.out.2.2.2.1, HK.out.2.2.2.2⟩ (by have h1 := HW.out.1.lens.1; have h2 := HW.out.2.lens.1; have h3 := HV.out.1.lens.1; have h4 := HV.out.2.lens.1; have h5 := HP.out; have h6 := HP2.out; omega) BY.out.1 BX.out.1 FP0 FP1 FQ0 FQ1 Fkp0 Fkp1 Fkq0 Fkq1).mono ?_; rintro e w6 ⟨⟨A0, c0, A1, c1, B0, d0, B1, d1, rfl, ⟨⟨hr0, hr1⟩, hr2, hr3⟩, ⟨hf0, hf1⟩, hf2, hf3⟩, hb⟩; have RA0 := hid hr0; have RA1 := hid hr1; have RB0 := hid hr2; have RB1 := hid hr3; have FA0 := hid (far_up hf0 (heap_lt KD.out.2.2)); have FA1 := hid (far_up hf1 (heap_lt KD.out.2.2)); have FB0 := hid (far_up hf2 (heap_lt KD.out.2.2)); have FB1 := hid (far_up hf3 (heap_lt KD.out.2.2)); have FW : Hid ((Far w A0 ∧ Far w A1) ∧ Far w B0 ∧ Far w B1) := hid ⟨⟨far_low hf0 KD.out.1.size, far_low hf1 KD.out.1.size⟩, far_low hf2 KD.out.1.size, far_low hf3 KD.out.1.size⟩; replace KR := hid (KR.out.step hb); replace KD := hid (KD.out.step hb); clear hr0 hr1 hr2 hr3 hf0 hf1 hf2 hf3 hb y3 y4 y5 y6 z3 z4 z5 z6; have y3 := kp_froz KD.out 3; have y4 := kp_froz KD.out 4; have y5 := kp_froz KD.out 5; have y6 := kp_froz KD.out 6; have z3 := kp_cell (j := 3) (v := .slice none 0 0) KD.out rfl; have z4 := kp_cell (j := 4) (v := .slice none 0 0) KD.out rfl; have z5 := kp_cell (j := 5) (v := .slice none 0 0) KD.out rfl; have z6 := kp_cell (j := 6) (v := .slice none 0 0) KD.out rfl)
        have KE : Hid (Kp w ((((w6.setCell ⟨N14, 3, none⟩ (.slice A0 kp0 c0)).setCell ⟨N14, 4, none⟩ (.slice A1 kp1 c1)).setCell ⟨N14, 5, none⟩ (.slice B0 kq0 d0)).setCell ⟨N14, 6, none⟩ (.slice B1 kq1 d1)) N14 (.cells (dlC (y.n - x.n) S0 S1 A0 kp0 c0 A1 kp1 c1 B0 kq0 d0 B1 kq1 d1) 68)) := hid (kp_set (j := 6) (v := .slice B1 kq1 d1) (kp_set (j := 5) (v := .slice B0 kq0 d0) (kp_set (j := 4) (v := .slice A1 kp1 c1) (kp_set (j := 3) (v := .slice A0 kp0 c0) KD.out))))
        have sg := (((set_grown w6 N14 3 (.slice A0 kp0 c0)).trans (set_grown _ N14 4 (.slice A1 kp1 c1))).trans (set_grown _ N14 5 (.slice B0 kq0 d0))).trans (set_grown _ N14 6 (.slice B1 kq1 d1))
        have HN : Hid (w.heap.size ≤ N2 ∧ N2 < N14) := hid (by have := HO.out; have := HKD.out; omega)
        replace KR := hid (kp_gr KR.out sg (by have := HN.out; omega) (by have := HN.out; omega))
        replace RA0 := hid (RA0.out.grown sg (fun b off e => by have := FA0.out b off e; omega))
        replace RA1 := hid (RA1.out.grown sg (fun b off e => by have := FA1.out b off e; omega))
        replace RB0 := hid (RB0.out.grown sg (fun b off e => by have := FB0.out b off e; omega))
        replace RB1 := hid (RB1.out.grown sg (fun b off e => by have := FB1.out b off e; omega))
        clear sg KD y3 y4 y5 y6 z3 z4 z5 z6
        generalize (((w6.setCell ⟨N14, 3, none⟩ (.slice A0 kp0 c0)).setCell ⟨N14, 4, none⟩ (.slice A1 kp1 c1)).setCell ⟨N14, 5, none⟩ (.slice B0 kq0 d0)).setCell ⟨N14, 6, none⟩ (.slice B1 kq1 d1) = W7 at KE KR RA0 RA1 RB0 RB1 ⊢
        obtain ⟨y0, y1, y2, y3, y4, y5, y6⟩ := box_seven KE.out.2.2
        go_wp2_with (refine wpList_store_whole rfl 68 (.tmp 10) (.tmp 56) rfl N2 (dlC (y.n - x.n) S0 S1 A0 kp0 c0 A1 kp1 c1 B0 kq0 d0 B1 kq1 d1) rfl rfl 68 _ KR.out.2.2 rfl (by show _ = some 7; exact size_dl) (dlC_one _ _ _ _ _ _ _ _ _ _ _ _ _ _ _) ?_; intro w9 hp9 hg9; have KR9 := hid (kp_at KR.out hg9 hp9); replace RA0 := hid (RA0.out.grown hg9 (fun b off e => by have := FA0.out b off e; have := HN.out; omega)); replace RA1 := hid (RA1.out.grown hg9 (fun b off e => by have := FA1.out b off e; have := HN.out; omega)); replace RB0 := hid (RB0.out.grown hg9 (fun b off e => by have := FB0.out b off e; have := HN.out; omega)); replace RB1 := hid (RB1.out.grown hg9 (fun b off e => by have := FB1.out b off e; have := HN.out; omega)); clear hp9 hg9)
        (try simp only [Exit.inBlock, Exit.then])
        show bodyPost Try.prog Try.f50 _ _ _ _
        refine bodyPost_ret (results_cell_slot (p := 10) (u := 11) rfl _ _ N2 _ (dlC (y.n - x.n) S0 S1 A0 kp0 c0 A1 kp1 c1 B0 kq0 d0 B1 kq1 d1) (0, 0) _ (.bool true) rfl rfl KR9.out.2.2 Try.underlying68 rfl (by kernel_rfl)) rfl ?_
        have vd := VD.out
        subst vd
        have vv := VV.out
        subst vv
        have es0 := ES0.out
        subst es0
        have es1 := ES1.out
        subst es1
        have ep0 := FP0.out
        subst ep0
        have ep1 := FP1.out
        subst ep1
        have eq0 := FQ0.out
        subst eq0
        have eq1 := FQ1.out
        subst eq1
        have ek0 := Fkp0.out
        subst ek0
        have ek1 := Fkp1.out
        subst ek1
        have ek2 := Fkq0.out
        subst ek2
        have ek3 := Fkq1.out
        subst ek3
        exact ⟨⟨A0, _, c0, A1, _, c1, B0, _, d0, B1, _, d1, rfl, ⟨⟨RA0.out, RA1.out⟩, RB0.out, RB1.out⟩, FW.out⟩, KR9.out.1⟩

end Go.Proofs.Ytjkkajhjcinalaa

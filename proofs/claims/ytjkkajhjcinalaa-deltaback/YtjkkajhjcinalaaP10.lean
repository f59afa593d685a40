/-
  The chapter's examples: what wakes and many of the law return.
  Conditions: as each theorem states them.
-/
import Derived.Test.YtjkkajhjcinalaaL10
import Derived.Test.YtjkkajhjcinalaaO10
import Derived.Test.YtjkkajhjcinalaaG8
namespace Go.Proofs.Ytjkkajhjcinalaa
open Go.ChangeShapes Go.WideShapes Go.ChangeAt Go.RowKit
set_option linter.unusedVariables false
set_option linter.unusedSimpArgs false
set_option maxRecDepth 100000

theorem dw_new_gr {wr w' : World} {a0 : Option Addr} {a1 a2 : Nat} {a3 : Option Addr} {a4 a5 : Nat} {a6 : Option Addr} {a7 a8 : Nat} {a9 : Option Addr} {a10 a11 : Nat} {d : Dl} {Z : Obj} (h : DW wr a0 a1 a2 a3 a4 a5 a6 a7 a8 a9 a10 a11 d) (hg : (wr.alloc Z).grownBy w' (some wr.heap.size)) : DW w' a0 a1 a2 a3 a4 a5 a6 a7 a8 a9 a10 a11 d := ⟨⟨run_new_gr h.1.1 hg, run_new_gr h.1.2 hg⟩, run_new_gr h.2.1 hg, run_new_gr h.2.2 hg⟩
theorem cw_new_gr {wr w' : World} {a0 : Option Addr} {a1 a2 : Nat} {a3 : Option Addr} {a4 a5 : Nat} {c : Cl} {Z : Obj} (h : CW wr a0 a1 a2 a3 a4 a5 c) (hg : (wr.alloc Z).grownBy w' (some wr.heap.size)) : CW w' a0 a1 a2 a3 a4 a5 c := ⟨run_new_gr h.1 hg, run_new_gr h.2 hg⟩
theorem dw_len {w : World} {a0 : Option Addr} {a1 a2 : Nat} {a3 : Option Addr} {a4 a5 : Nat} {a6 : Option Addr} {a7 a8 : Nat} {a9 : Option Addr} {a10 a11 : Nat} {d : Dl} (h : DW w a0 a1 a2 a3 a4 a5 a6 a7 a8 a9 a10 a11 d) : (a1 = d.i0.length ∧ a4 = d.i1.length) ∧ a7 = d.o0.length ∧ a10 = d.o1.length := ⟨⟨h.1.1.lens.1, h.1.2.lens.1⟩, h.2.1.lens.1, h.2.2.lens.1⟩
def WD : Dl := ⟨1, 5, 0, [(5, 1)], [], [], []⟩
def WN : Dl := ⟨-1, -5, 0, [], [], [(5, 1)], []⟩
def WC : Cl := ⟨1, 5, 0, [(5, 1)], []⟩
theorem wd_of : ofdB 1 5 0 false = true ∧ ofdC 1 5 0 false = WD := ofd_come (.inl rfl)
theorem wd_neg : dnB 1 WD = true ∧ dnC 1 WD = WN := by
  have h : dnB 1 WD = true := by decide
  exact ⟨h, by rw [dnC_yes h]; rfl⟩
theorem wd_cell : ofB 1 [(0, 0, 0, 0, 5, 0)] = true ∧ ofC 1 [(0, 0, 0, 0, 5, 0)] = WC := by
  have h : ofB 1 [(0, 0, 0, 0, 5, 0)] = true := by decide
  exact ⟨h, by rw [ofC_yes h]; rfl⟩
theorem wd_app : daB 1 WC true WN = true ∧ daI 1 WC true WN = false ∧ daC 1 WC true WN = cl0 := by
  have h : daB 1 WC true WN = true := by decide
  have h' : daI 1 WC true WN = false := by decide
  exact ⟨h, h', by unfold daC; rw [h']; rfl⟩
theorem wd_join : djB 1 WD WN = true ∧ djC 1 WD WN = dl0 := by
  have h : djB 1 WD WN = true := by decide
  exact ⟨h, by rw [djC_yes h]; rfl⟩
theorem wd_btw : bwB 1 cl0 false WC true = true ∧ bwC 1 cl0 false WC true = WD := by
  have h : bwB 1 cl0 false WC true = true := by decide
  exact ⟨h, by rw [bwC_yes h]; rfl⟩
theorem wd_id0 : did 1 dl0 = true := by decide
theorem wd_id1 : did 1 WD = false := by decide
theorem wd_g1 : dg 1 WD = true := by decide
theorem wd_g2 : dg 2 WD = false := by decide
theorem wd_ok : okd WD := of1_ok (m := 1) (m0 := 5) (m1 := 0) (by unfold I64; decide) calc.i64_0
theorem wn_ok : okd WN := ⟨⟨by show I64 (-1); unfold I64; decide, by show I64 (-5); unfold I64; decide, calc.i64_0⟩, ⟨nok_nild, nok_nild⟩, one_nok (by unfold I64; decide), nok_nild⟩
theorem wc_ok : okc WC := ⟨by show I64 1; unfold I64; decide, by show I64 5; unfold I64; decide, calc.i64_0, one_nok (by unfold I64; decide), nok_nild⟩
theorem dl0_ok : okd dl0 := ⟨⟨calc.i64_0, calc.i64_0, calc.i64_0⟩, ⟨nok_nild, nok_nild⟩, nok_nild, nok_nild⟩
theorem wd_sh : sh5 WD := by unfold sh5 WD; decide
theorem wn_sh : sh5 WN := by unfold sh5 WN; decide
theorem dl0_sh : sh5 dl0 := by unfold sh5 dl0; decide

theorem dmany_m (t : Bool) (m : Int) (w : World) (hm : Hid ((if t then 2 else 1) = m)) : Calls Try.prog 51 #[.bool t] w fun e w' => e = .returned (.int .i64 m) ∧ w' = w := by
  have h := hm.out
  subst h
  clear hm
  cases t with
  | true =>
    go_enter Try.func51, Try.ntmps51
    go_wp2
    go_ret
    exact ⟨rfl, rfl⟩
  | false =>
    go_enter Try.func51, Try.ntmps51
    go_wp2
    go_ret
    exact ⟨rfl, rfl⟩

theorem box_six9 {w : World} {D : Nat} {t : TypeId} {a b c d e f : Value} (hD : w.heap[D]? = some (.cells #[a, b, c, d, e, f] t)) : w.cell? ⟨D, 0, none⟩ = some a ∧ w.cell? ⟨D, 1, none⟩ = some b ∧ w.cell? ⟨D, 2, none⟩ = some c ∧ w.cell? ⟨D, 3, none⟩ = some d ∧ w.cell? ⟨D, 4, none⟩ = some e ∧ w.cell? ⟨D, 5, none⟩ = some f := by
  refine ⟨?_, ?_, ?_, ?_, ?_, ?_⟩ <;> simp [World.cell?, hD]
theorem rrow_1 (w : World) (r : Rw) (N : Nat) (hN : w.heap.size = N) (t : TypeId) : RRow (w.alloc (.cells (rcs r).toArray t)) (some ⟨N, 0, none⟩) 1 1 [r] := by
  obtain ⟨a, b, c, d, e, f⟩ := r
  refine ⟨rfl, Nat.le_refl _, by decide, (fun h => by cases h), fun _ => ⟨N, 0, rfl, by simp; omega, fun j r hj i v hi => ?_⟩⟩
  have h := hnew (w := w) (o := .cells (rcs (a, b, c, d, e, f)).toArray t) hN
  match j, hj with
  | 0, hj =>
    simp at hj
    subst hj
    simp only [Nat.zero_add, Nat.zero_mul]
    rw [cell_of_row _ _ _ _ t (0, 0) h]
    simpa using hi
theorem wr1_ok : ∀ r ∈ [((0 : Int), (0 : Int), (0 : Int), (0 : Int), (5 : Int), (0 : Int))], rok r := by
  intro r hr
  simp at hr
  subst hr
  refine ⟨?_, ?_, ?_⟩
  · unfold U8; decide
  · unfold I64; decide
  · unfold I64; decide
set_option maxHeartbeats 32000000 in
theorem dwakes_any (w : World) : Calls Try.prog 31 #[] w fun e w' => e = .returned (.bool true) ∧ Below w.heap.size w w' := by
  have tkA : True := trivial
  have tkB : True := trivial
  go_enter Try.func31, Try.ntmps31
  go_upto_region 2 with fail
  have KR0 := hid (kp_new w (.cells #[.int .u8 0, .int .u8 0, .int .u8 0, .int .u8 0, .int .i64 0, .int .i64 0] 53))
  have y4 := kp_froz KR0.out 4
  have z4 := kp_cell (j := 4) (v := .int .i64 0) KR0.out rfl
  generalize w.alloc (.cells #[.int .u8 0, .int .u8 0, .int .u8 0, .int .u8 0, .int .i64 0, .int .i64 0] 53) = W0 at KR0 y4 z4 ⊢
  go_upto_region 3 with fail
  have KR1 : Hid (Kp w (W0.setCell ⟨w.heap.size, 4, none⟩ (.int .i64 5)) w.heap.size (.cells #[.int .u8 0, .int .u8 0, .int .u8 0, .int .u8 0, .int .i64 5, .int .i64 0] 53)) := hid (kp_set (j := 4) (v := .int .i64 5) KR0.out)
  clear KR0 y4 z4
  generalize W0.setCell ⟨w.heap.size, 4, none⟩ (.int .i64 5) = W1 at KR1 ⊢
  obtain ⟨N1, hN1⟩ : ∃ y, w.heap.size = y := ⟨_, rfl⟩
  have HN1 := hid hN1
  rw [hN1] at KR1 ⊢
  clear hN1
  obtain ⟨r0, r1, r2, r3, r4, r5⟩ := box_six9 KR1.out.2.2
  go_upto_region 4 with (first
    | (go_at_call 32; refine (dof_m 1 5 0 0 0 0 0 false WD true _ (by unfold I64; decide) calc.i64_0 (hid wd_of.2) (hid wd_of.1)).mono ?_; rintro e v1 ⟨⟨d0, d1, d2, d3, d4, d5, d6, d7, d8, d9, d10, d11, rfl, hd, _⟩, hb⟩; replace KR1 := hid (KR1.out.step hb); have DD := hid hd; clear hd hb r0 r1 r2 r3 r4 r5)
    | (have KZ : Hid (Kp w (v1.alloc (.cells #[.int .i64 0, .int .i64 0, .int .i64 0, .slice none 0 0, .slice none 0 0, .slice none 0 0, .slice none 0 0] 68)) v1.heap.size (.cells #[.int .i64 0, .int .i64 0, .int .i64 0, .slice none 0 0, .slice none 0 0, .slice none 0 0, .slice none 0 0] 68)) := hid (kp_new2 KR1.out.1 _ _ rfl); refine wpList_store_whole rfl 68 (.tmp 2) (.tmp 21) rfl v1.heap.size (dlC 1 5 0 d0 d1 d2 d3 d4 d5 d6 d7 d8 d9 d10 d11) rfl rfl 68 _ KZ.out.2.2 rfl (by show _ = some 7; exact size_dl) (dlC_one _ _ _ _ _ _ _ _ _ _ _ _ _ _ _) ?_; intro w9 hp9 hg9; have K2 := hid (kp_at KZ.out hg9 hp9); replace KR1 := hid (kp_new_gr KR1.out hg9); replace DD := hid (dw_new_gr DD.out hg9); clear hp9 hg9 KZ))
  generalize v1.heap.size = N2 at K2 ⊢
  obtain ⟨p0, p1, p2, p3, p4, p5, p6⟩ := box_seven K2.out.2.2
  go_upto_region 5 with (first
    | (go_at_call 36; refine (dneg_m 1 WD d0 d1 d2 d3 d4 d5 d6 d7 d8 d9 d10 d11 WN true _ DD.out wd_ok (sh5_shd wd_sh) (hid wd_neg.2) (hid wd_neg.1)).mono ?_; rintro e v2 ⟨⟨n0, n1, n2, n3, n4, n5, n6, n7, n8, n9, n10, n11, rfl, hd, _⟩, hb⟩; replace KR1 := hid (KR1.out.step hb); replace DD := hid (DD.out.below hb); replace K2 := hid (K2.out.step hb); have DN := hid hd; clear hd hb p0 p1 p2 p3 p4 p5 p6)
    | (have KZ : Hid (Kp w (v2.alloc (.cells #[.int .i64 0, .int .i64 0, .int .i64 0, .slice none 0 0, .slice none 0 0, .slice none 0 0, .slice none 0 0] 68)) v2.heap.size (.cells #[.int .i64 0, .int .i64 0, .int .i64 0, .slice none 0 0, .slice none 0 0, .slice none 0 0, .slice none 0 0] 68)) := hid (kp_new2 KR1.out.1 _ _ rfl); refine wpList_store_whole rfl 68 (.tmp 4) (.tmp 26) rfl v2.heap.size (dlC (-1) (-5) 0 n0 n1 n2 n3 n4 n5 n6 n7 n8 n9 n10 n11) rfl rfl 68 _ KZ.out.2.2 rfl (by show _ = some 7; exact size_dl) (dlC_one _ _ _ _ _ _ _ _ _ _ _ _ _ _ _) ?_; intro w9 hp9 hg9; have K4 := hid (kp_at KZ.out hg9 hp9); replace KR1 := hid (kp_new_gr KR1.out hg9); replace DD := hid (dw_new_gr DD.out hg9); replace K2 := hid (kp_new_gr K2.out hg9); replace DN := hid (dw_new_gr DN.out hg9); clear hp9 hg9 KZ))
  generalize v2.heap.size = N4 at K4 ⊢
  obtain ⟨r0, r1, r2, r3, r4, r5⟩ := box_six9 KR1.out.2.2
  rename World => u3
  have RR := hid (rrow_1 u3 (0, 0, 0, 0, 5, 0) u3.heap.size rfl 53)
  replace KR1 := hid (kp_alloc KR1.out (.cells (rcs (0, 0, 0, 0, 5, 0)).toArray 53))
  replace DD := hid (DD.out.below (b1alloc u3 (.cells (rcs (0, 0, 0, 0, 5, 0)).toArray 53)))
  replace K2 := hid (kp_alloc K2.out (.cells (rcs (0, 0, 0, 0, 5, 0)).toArray 53))
  replace DN := hid (DN.out.below (b1alloc u3 (.cells (rcs (0, 0, 0, 0, 5, 0)).toArray 53)))
  replace K4 := hid (kp_alloc K4.out (.cells (rcs (0, 0, 0, 0, 5, 0)).toArray 53))
  go_upto_region 6 with (first
    | (go_at_call 17; refine (cof_m 1 _ _ _ [(0, 0, 0, 0, 5, 0)] WC true _ RR.out wr1_ok (by decide) (hid wd_cell.2) (hid wd_cell.1)).mono ?_; rintro e v3 ⟨⟨c0, c1, c2, c3, c4, c5, rfl, hd⟩, hb⟩; replace KR1 := hid (KR1.out.step hb); replace DD := hid (DD.out.below hb); replace K2 := hid (K2.out.step hb); replace DN := hid (DN.out.below hb); replace K4 := hid (K4.out.step hb); have CC := hid hd; clear hd hb r0 r1 r2 r3 r4 r5)
    | (have KZ : Hid (Kp w (v3.alloc (.cells #[.int .i64 0, .int .i64 0, .int .i64 0, .slice none 0 0, .slice none 0 0] 26)) v3.heap.size (.cells #[.int .i64 0, .int .i64 0, .int .i64 0, .slice none 0 0, .slice none 0 0] 26)) := hid (kp_new2 KR1.out.1 _ _ rfl); refine wpList_store_whole rfl 26 (.tmp 6) (.tmp 32) rfl v3.heap.size (clC 1 5 0 c0 c1 c2 c3 c4 c5) rfl rfl 26 _ KZ.out.2.2 rfl (by show _ = some 5; exact size_cl) (clC_one _ _ _ _ _ _ _ _ _) ?_; intro w9 hp9 hg9; have K6 := hid (kp_at KZ.out hg9 hp9); replace KR1 := hid (kp_new_gr KR1.out hg9); replace DD := hid (dw_new_gr DD.out hg9); replace K2 := hid (kp_new_gr K2.out hg9); replace DN := hid (dw_new_gr DN.out hg9); replace K4 := hid (kp_new_gr K4.out hg9); replace CC := hid (cw_new_gr CC.out hg9); clear hp9 hg9 KZ))
  generalize v3.heap.size = N6 at K6 ⊢
  obtain ⟨q0, q1, q2, q3, q4⟩ := box_five K6.out.2.2
  obtain ⟨p0, p1, p2, p3, p4, p5, p6⟩ := box_seven K4.out.2.2
  go_upto_region 7 with (first
    | (go_at_call 49; refine (dapply_m 1 WC c0 c1 c2 c3 c4 c5 true WN n0 n1 n2 n3 n4 n5 n6 n7 n8 n9 n10 n11 cl0 false true _ CC.out DN.out wc_ok wn_ok (by decide) wn_sh (hid wd_app.2.2) (hid wd_app.2.1) (hid wd_app.1)).mono ?_; rintro e v4 ⟨⟨x0, x1, x2, x3, x4, x5, rfl, hd, _⟩, hb⟩; replace KR1 := hid (KR1.out.step hb); replace DD := hid (DD.out.below hb); replace K2 := hid (K2.out.step hb); replace DN := hid (DN.out.below hb); replace K4 := hid (K4.out.step hb); replace CC := hid (CC.out.below hb); replace K6 := hid (K6.out.step hb); have CX := hid hd; clear hd hb p0 p1 p2 p3 p4 p5 p6 q0 q1 q2 q3 q4)
    | (have KZ : Hid (Kp w (v4.alloc (.cells #[.int .i64 0, .int .i64 0, .int .i64 0, .slice none 0 0, .slice none 0 0] 26)) v4.heap.size (.cells #[.int .i64 0, .int .i64 0, .int .i64 0, .slice none 0 0, .slice none 0 0] 26)) := hid (kp_new2 KR1.out.1 _ _ rfl); refine wpList_store_whole rfl 26 (.tmp 8) (.tmp 38) rfl v4.heap.size (clC 0 0 0 x0 x1 x2 x3 x4 x5) rfl rfl 26 _ KZ.out.2.2 rfl (by show _ = some 5; exact size_cl) (clC_one _ _ _ _ _ _ _ _ _) ?_; intro w9 hp9 hg9; have K8 := hid (kp_at KZ.out hg9 hp9); replace KR1 := hid (kp_new_gr KR1.out hg9); replace DD := hid (dw_new_gr DD.out hg9); replace K2 := hid (kp_new_gr K2.out hg9); replace DN := hid (dw_new_gr DN.out hg9); replace K4 := hid (kp_new_gr K4.out hg9); replace CC := hid (cw_new_gr CC.out hg9); replace K6 := hid (kp_new_gr K6.out hg9); replace CX := hid (cw_new_gr CX.out hg9); clear hp9 hg9 KZ))
  generalize v4.heap.size = N8 at K8 ⊢
  obtain ⟨p0, p1, p2, p3, p4, p5, p6⟩ := box_seven K2.out.2.2
  obtain ⟨q0, q1, q2, q3, q4, q5, q6⟩ := box_seven K4.out.2.2
  go_upto_region 8 with (first
    | (go_at_call 42; refine (djoin_m 1 WD WN d0 d1 d2 d3 d4 d5 d6 d7 d8 d9 d10 d11 n0 n1 n2 n3 n4 n5 n6 n7 n8 n9 n10 n11 dl0 true _ DD.out DN.out wd_ok wn_ok wd_sh wn_sh (hid wd_join.2) (hid wd_join.1)).mono ?_; rintro e v5 ⟨⟨j0, j1, j2, j3, j4, j5, j6, j7, j8, j9, j10, j11, rfl, hd, _⟩, hb⟩; replace KR1 := hid (KR1.out.step hb); replace DD := hid (DD.out.below hb); replace K2 := hid (K2.out.step hb); replace DN := hid (DN.out.below hb); replace K4 := hid (K4.out.step hb); replace CC := hid (CC.out.below hb); replace K6 := hid (K6.out.step hb); replace CX := hid (CX.out.below hb); replace K8 := hid (K8.out.step hb); have DJ := hid hd; clear hd hb p0 p1 p2 p3 p4 p5 p6 q0 q1 q2 q3 q4 q5 q6)
    | (have KZ : Hid (Kp w (v5.alloc (.cells #[.int .i64 0, .int .i64 0, .int .i64 0, .slice none 0 0, .slice none 0 0, .slice none 0 0, .slice none 0 0] 68)) v5.heap.size (.cells #[.int .i64 0, .int .i64 0, .int .i64 0, .slice none 0 0, .slice none 0 0, .slice none 0 0, .slice none 0 0] 68)) := hid (kp_new2 KR1.out.1 _ _ rfl); refine wpList_store_whole rfl 68 (.tmp 11) (.tmp 45) rfl v5.heap.size (dlC 0 0 0 j0 j1 j2 j3 j4 j5 j6 j7 j8 j9 j10 j11) rfl rfl 68 _ KZ.out.2.2 rfl (by show _ = some 7; exact size_dl) (dlC_one _ _ _ _ _ _ _ _ _ _ _ _ _ _ _) ?_; intro w9 hp9 hg9; have K11 := hid (kp_at KZ.out hg9 hp9); replace KR1 := hid (kp_new_gr KR1.out hg9); replace DD := hid (dw_new_gr DD.out hg9); replace K2 := hid (kp_new_gr K2.out hg9); replace DN := hid (dw_new_gr DN.out hg9); replace K4 := hid (kp_new_gr K4.out hg9); replace CC := hid (cw_new_gr CC.out hg9); replace K6 := hid (kp_new_gr K6.out hg9); replace CX := hid (cw_new_gr CX.out hg9); replace K8 := hid (kp_new_gr K8.out hg9); replace DJ := hid (dw_new_gr DJ.out hg9); clear hp9 hg9 KZ))
  generalize v5.heap.size = N11 at K11 ⊢
  obtain ⟨q0, q1, q2, q3, q4⟩ := box_five K6.out.2.2
  have ld := (dw_len DD.out).1.1
  have ln := (dw_len DN.out).2.1
  have ld2 : d1 = 1 := ld
  have ln2 : n7 = 1 := ln
  clear ld ln
  subst ld2
  subst ln2
  clear tkA tkB
  have tkA : True := trivial
  have tkB : True := trivial
  go_wp2_with (first
    | (go_at_call 50; refine (dbetween_m 1 cl0 none 0 0 none 0 0 false WC c0 c1 c2 c3 c4 c5 true WD true _ (cw_nil _) CC.out okc_0d wc_ok (by decide) (by decide) (hid wd_btw.2) (hid wd_btw.1)).mono ?_; rintro e v6 ⟨⟨b0, b1, b2, b3, b4, b5, b6, b7, b8, b9, b10, b11, rfl, hd, _⟩, hb⟩; replace KR1 := hid (KR1.out.step hb); replace DD := hid (DD.out.below hb); replace K2 := hid (K2.out.step hb); replace DN := hid (DN.out.below hb); replace K4 := hid (K4.out.step hb); replace CC := hid (CC.out.below hb); replace K6 := hid (K6.out.step hb); replace CX := hid (CX.out.below hb); replace K8 := hid (K8.out.step hb); replace DJ := hid (DJ.out.below hb); replace K11 := hid (K11.out.step hb); have DB := hid hd; clear hd hb q0 q1 q2 q3 q4)
    | (have KZ : Hid (Kp w (v6.alloc (.cells #[.int .i64 0, .int .i64 0, .int .i64 0, .slice none 0 0, .slice none 0 0, .slice none 0 0, .slice none 0 0] 68)) v6.heap.size (.cells #[.int .i64 0, .int .i64 0, .int .i64 0, .slice none 0 0, .slice none 0 0, .slice none 0 0, .slice none 0 0] 68)) := hid (kp_new2 KR1.out.1 _ _ rfl); refine wpList_store_whole rfl 68 (.tmp 13) (.tmp 51) rfl v6.heap.size (dlC 1 5 0 b0 b1 b2 b3 b4 b5 b6 b7 b8 b9 b10 b11) rfl rfl 68 _ KZ.out.2.2 rfl (by show _ = some 7; exact size_dl) (dlC_one _ _ _ _ _ _ _ _ _ _ _ _ _ _ _) ?_; intro w9 hp9 hg9; have K13 := hid (kp_at KZ.out hg9 hp9); replace KR1 := hid (kp_new_gr KR1.out hg9); replace DD := hid (dw_new_gr DD.out hg9); replace K2 := hid (kp_new_gr K2.out hg9); replace DN := hid (dw_new_gr DN.out hg9); replace K4 := hid (kp_new_gr K4.out hg9); replace CC := hid (cw_new_gr CC.out hg9); replace K6 := hid (kp_new_gr K6.out hg9); replace CX := hid (cw_new_gr CX.out hg9); replace K8 := hid (kp_new_gr K8.out hg9); replace DJ := hid (dw_new_gr DJ.out hg9); replace K11 := hid (kp_new_gr K11.out hg9); replace DB := hid (dw_new_gr DB.out hg9); clear hp9 hg9 KZ; have KX := hid (And.intro K2.out (And.intro K4.out (And.intro K11.out (And.intro K8.out K13.out)))); obtain ⟨p0, p1, p2, p3, p4, p5, p6⟩ := box_seven K2.out.2.2; obtain ⟨q0, q1, q2, q3, q4, q5, q6⟩ := box_seven K4.out.2.2; obtain ⟨s0, s1, s2, s3, s4, s5, s6⟩ := box_seven K11.out.2.2; obtain ⟨t0, t1, t2, t3, t4, t5, t6⟩ := box_seven K13.out.2.2; obtain ⟨u0, u1, u2, u3, u4⟩ := box_five K8.out.2.2; clear KX)
    | (go_at_call 40; clear tkA; refine (didle_m 1 dl0 _ _ _ _ _ _ _ _ _ _ _ _ true _ DJ.out dl0_ok (sh5_shd dl0_sh) (hid wd_id0)).mono ?_; rintro e i1 ⟨rfl, hb⟩; replace KR1 := hid (KR1.out.step hb); replace DD := hid (DD.out.below hb); replace K2 := hid (K2.out.step hb); replace DN := hid (DN.out.below hb); replace K4 := hid (K4.out.step hb); replace CC := hid (CC.out.below hb); replace K6 := hid (K6.out.step hb); replace CX := hid (CX.out.below hb); replace K8 := hid (K8.out.step hb); replace DJ := hid (DJ.out.below hb); replace K11 := hid (K11.out.step hb); replace DB := hid (DB.out.below hb); replace K13 := hid (K13.out.step hb); clear p0 p1 p2 p3 p4 p5 p6 q0 q1 q2 q3 q4 q5 q6 s0 s1 s2 s3 s4 s5 s6 t0 t1 t2 t3 t4 t5 t6 u0 u1 u2 u3 u4; clear hb; have KX := hid (And.intro K2.out (And.intro K4.out (And.intro K11.out (And.intro K8.out K13.out)))); obtain ⟨p0, p1, p2, p3, p4, p5, p6⟩ := box_seven K2.out.2.2; obtain ⟨q0, q1, q2, q3, q4, q5, q6⟩ := box_seven K4.out.2.2; obtain ⟨s0, s1, s2, s3, s4, s5, s6⟩ := box_seven K11.out.2.2; obtain ⟨t0, t1, t2, t3, t4, t5, t6⟩ := box_seven K13.out.2.2; obtain ⟨u0, u1, u2, u3, u4⟩ := box_five K8.out.2.2; clear KX)
    | (go_at_call 40; refine (didle_m 1 WD _ _ _ _ _ _ _ _ _ _ _ _ false _ DD.out wd_ok (sh5_shd wd_sh) (hid wd_id1)).mono ?_; rintro e i2 ⟨rfl, hb⟩; replace KR1 := hid (KR1.out.step hb); replace DD := hid (DD.out.below hb); replace K2 := hid (K2.out.step hb); replace DN := hid (DN.out.below hb); replace K4 := hid (K4.out.step hb); replace CC := hid (CC.out.below hb); replace K6 := hid (K6.out.step hb); replace CX := hid (CX.out.below hb); replace K8 := hid (K8.out.step hb); replace DJ := hid (DJ.out.below hb); replace K11 := hid (K11.out.step hb); replace DB := hid (DB.out.below hb); replace K13 := hid (K13.out.step hb); clear p0 p1 p2 p3 p4 p5 p6 q0 q1 q2 q3 q4 q5 q6 s0 s1 s2 s3 s4 s5 s6 t0 t1 t2 t3 t4 t5 t6 u0 u1 u2 u3 u4; clear hb; have KX := hid (And.intro K2.out (And.intro K4.out (And.intro K11.out (And.intro K8.out K13.out)))); obtain ⟨p0, p1, p2, p3, p4, p5, p6⟩ := box_seven K2.out.2.2; obtain ⟨q0, q1, q2, q3, q4, q5, q6⟩ := box_seven K4.out.2.2; obtain ⟨s0, s1, s2, s3, s4, s5, s6⟩ := box_seven K11.out.2.2; obtain ⟨t0, t1, t2, t3, t4, t5, t6⟩ := box_seven K13.out.2.2; obtain ⟨u0, u1, u2, u3, u4⟩ := box_five K8.out.2.2; clear KX)
    | (go_at_call 44; refine (dsame_m WD WD _ _ _ _ _ _ _ _ _ _ _ _ _ _ _ _ _ _ _ _ _ _ _ _ true _ DB.out DD.out (hid (dsm_self _))).mono ?_; rintro e i3 ⟨rfl, hb⟩; replace KR1 := hid (KR1.out.step hb); replace DD := hid (DD.out.below hb); replace K2 := hid (K2.out.step hb); replace DN := hid (DN.out.below hb); replace K4 := hid (K4.out.step hb); replace CC := hid (CC.out.below hb); replace K6 := hid (K6.out.step hb); replace CX := hid (CX.out.below hb); replace K8 := hid (K8.out.step hb); replace DJ := hid (DJ.out.below hb); replace K11 := hid (K11.out.step hb); replace DB := hid (DB.out.below hb); replace K13 := hid (K13.out.step hb); clear p0 p1 p2 p3 p4 p5 p6 q0 q1 q2 q3 q4 q5 q6 s0 s1 s2 s3 s4 s5 s6 t0 t1 t2 t3 t4 t5 t6 u0 u1 u2 u3 u4; clear hb; have KX := hid (And.intro K2.out (And.intro K4.out (And.intro K11.out (And.intro K8.out K13.out)))); obtain ⟨p0, p1, p2, p3, p4, p5, p6⟩ := box_seven K2.out.2.2; obtain ⟨q0, q1, q2, q3, q4, q5, q6⟩ := box_seven K4.out.2.2; obtain ⟨s0, s1, s2, s3, s4, s5, s6⟩ := box_seven K11.out.2.2; obtain ⟨t0, t1, t2, t3, t4, t5, t6⟩ := box_seven K13.out.2.2; obtain ⟨u0, u1, u2, u3, u4⟩ := box_five K8.out.2.2; clear KX)
    | (go_at_call 38; clear tkB; refine (dgood_m 1 WD _ _ _ _ _ _ _ _ _ _ _ _ true _ DD.out wd_ok (sh5_shd wd_sh) (hid wd_g1)).mono ?_; rintro e i4 ⟨rfl, hb⟩; replace KR1 := hid (KR1.out.step hb); replace DD := hid (DD.out.below hb); replace K2 := hid (K2.out.step hb); replace DN := hid (DN.out.below hb); replace K4 := hid (K4.out.step hb); replace CC := hid (CC.out.below hb); replace K6 := hid (K6.out.step hb); replace CX := hid (CX.out.below hb); replace K8 := hid (K8.out.step hb); replace DJ := hid (DJ.out.below hb); replace K11 := hid (K11.out.step hb); replace DB := hid (DB.out.below hb); replace K13 := hid (K13.out.step hb); clear p0 p1 p2 p3 p4 p5 p6 q0 q1 q2 q3 q4 q5 q6 s0 s1 s2 s3 s4 s5 s6 t0 t1 t2 t3 t4 t5 t6 u0 u1 u2 u3 u4; clear hb; have KX := hid (And.intro K2.out (And.intro K4.out (And.intro K11.out (And.intro K8.out K13.out)))); obtain ⟨p0, p1, p2, p3, p4, p5, p6⟩ := box_seven K2.out.2.2; obtain ⟨q0, q1, q2, q3, q4, q5, q6⟩ := box_seven K4.out.2.2; obtain ⟨s0, s1, s2, s3, s4, s5, s6⟩ := box_seven K11.out.2.2; obtain ⟨t0, t1, t2, t3, t4, t5, t6⟩ := box_seven K13.out.2.2; obtain ⟨u0, u1, u2, u3, u4⟩ := box_five K8.out.2.2; clear KX)
    | (go_at_call 38; refine (dgood_m 2 WD _ _ _ _ _ _ _ _ _ _ _ _ false _ DD.out wd_ok (sh5_shd wd_sh) (hid wd_g2)).mono ?_; rintro e i5 ⟨rfl, hb⟩; replace KR1 := hid (KR1.out.step hb); replace DD := hid (DD.out.below hb); replace K2 := hid (K2.out.step hb); replace DN := hid (DN.out.below hb); replace K4 := hid (K4.out.step hb); replace CC := hid (CC.out.below hb); replace K6 := hid (K6.out.step hb); replace CX := hid (CX.out.below hb); replace K8 := hid (K8.out.step hb); replace DJ := hid (DJ.out.below hb); replace K11 := hid (K11.out.step hb); replace DB := hid (DB.out.below hb); replace K13 := hid (K13.out.step hb); clear p0 p1 p2 p3 p4 p5 p6 q0 q1 q2 q3 q4 q5 q6 s0 s1 s2 s3 s4 s5 s6 t0 t1 t2 t3 t4 t5 t6 u0 u1 u2 u3 u4; clear hb; have KX := hid (And.intro K2.out (And.intro K4.out (And.intro K11.out (And.intro K8.out K13.out)))); obtain ⟨p0, p1, p2, p3, p4, p5, p6⟩ := box_seven K2.out.2.2; obtain ⟨q0, q1, q2, q3, q4, q5, q6⟩ := box_seven K4.out.2.2; obtain ⟨s0, s1, s2, s3, s4, s5, s6⟩ := box_seven K11.out.2.2; obtain ⟨t0, t1, t2, t3, t4, t5, t6⟩ := box_seven K13.out.2.2; obtain ⟨u0, u1, u2, u3, u4⟩ := box_five K8.out.2.2; clear KX))
  go_ret
  exact ⟨rfl, by have := KR1.out.1; exact this⟩

end Go.Proofs.Ytjkkajhjcinalaa

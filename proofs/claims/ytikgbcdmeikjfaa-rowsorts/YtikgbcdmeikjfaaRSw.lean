/-
  The walk of the law RowSorts.
  Conditions: as each theorem states them.
-/
import Derived.Test.YtikgbcdmeikjfaaRSa
namespace Go.Proofs.Ytikgbcdmeikjfaa
open Go.ChangeShapes Go.WideShapes Go.ChangeAt Go.RowKit
set_option linter.unusedVariables false
set_option linter.unusedSimpArgs false
set_option maxRecDepth 100000

set_option maxHeartbeats 32000000 in
theorem sorts_walk (a : Option Addr) (n c : Nat) (l : List Rw) (pos : Int) (w : World) (hl : RRow w a n c l) (hk : ∀ r ∈ l, rok r) (hpos : I64 pos) :
    Calls Try.prog 4 #[.slice a n c, .int .i64 pos] w fun e w' => e = .returned (.bool true) ∧ Below w.heap.size w w' := by
  have HL := hid hl
  have HK := hid hk
  have HT := hid hpos
  obtain ⟨l1, l2⟩ := hl.lens
  have EL := hid l1
  clear hl hk l1 hpos
  by_cases h60 : 60 < n
  · have hd : decide ((60 : Int) < (n : Int)) = true := decide_eq_true (by omega)
    have hdi : (60 : Int) < (n : Int) := by omega
    go_enter Try.func4, Try.ntmps4
    go_wp2_with (first | (go_at_call 10; refine (wakes_any _).mono ?_; rintro e wa ⟨rfl, hba⟩))
    go_ret
    exact ⟨rfl, hba⟩
  · have hd : decide ((60 : Int) < (n : Int)) = false := decide_eq_false (by omega)
    obtain ⟨k, ek⟩ : ∃ k : Nat, pos % ((n + 1 : Nat) : Int) = k := ⟨(pos % ((n + 1 : Nat) : Int)).toNat, by have := Int.emod_nonneg pos (show ((n + 1 : Nat) : Int) ≠ 0 by omega); omega⟩
    have hkn : k ≤ n := by have := Int.emod_lt_of_pos pos (show (0 : Int) < ((n + 1 : Nat) : Int) by omega); omega
    have EKM := hid ek
    have hkn' : (k : Int) ≤ (n : Int) := by omega
    have hk0 : (0 : Int) ≤ (k : Int) := by omega
    have wn1 : IntKind.i64.wrap ((n : Int) + 1) = ((n + 1 : Nat) : Int) := by rw [show (n : Int) + 1 = ((n + 1 : Nat) : Int) by omega]; exact IntWalk.i64_in _ (by omega)
    have eqn := eqR6
    clear ek
    go_enter Try.func4, Try.ntmps4
    go_upto_region 5 with (first
      | (go_at_call 16; refine (rsort_any a n c l _ HL.out HK.out (by omega)).mono ?_; rintro e w1 ⟨⟨sa, sc, rfl, hs1⟩, hb1⟩; have S1 := hid hs1; have B1 := hid hb1; clear hs1 hb1)
      | (go_at_call 18; refine (kmod_m pos (n + 1) k _ HT (by omega) (by omega) EKM).mono ?_; rintro e w2 ⟨rfl, hw⟩; have hw2 := hw.symm; clear hw; subst hw2))
    obtain ⟨hsH, hrH⟩ := firstR (HL.out.below B1.out) k hkn
    obtain ⟨A, hsL, hrL⟩ := restR (HL.out.below B1.out) k hkn
    have RH := hid hrH
    have RL := hid hrL
    clear hrH hrL
    have KS : Hid (∀ x, Below w1.heap.size w1 x → Below w1.heap.size w1 x ∧ True) := hid (fun x h => ⟨h, trivial⟩)
    have HKE : Hid (∀ x, Below w1.heap.size w1 x → w1.heap.size ≤ x.heap.size) := hid fun x h => h.size
    have HKT : Hid (∀ r ∈ l.drop k ++ l.take k, rok r) := hid (fun r hr => HK.out r ((turn_perm l k).mem_iff.1 hr))
    go_region_held3 (fun x => Below w1.heap.size w1 x ∧ True)
      (first | assumption | exact keep_drew KS | exact keep_step (by assumption) (by assumption) KS | exact KS.out _ (Hid.out (by assumption)) | exact kr_alloc (by assumption) KS)
      (first
        | (refine step_append_rn _ (by rfl) (.tmp 23) (.tmp 26) (by rfl) w1.heap.size _ 0 0 [] (by rfl) (by first | exact rown_at _ _ _ (by first | rfl | simp) (by first | exact Nat.le_refl _ | simp)) A (n - k) (c - k) (l.drop k) (by rfl) (RL.out.below (And.left (by assumption))) (by omega) (HKE.out _ (And.left (by assumption))) (n - k) (l.drop k) (by omega) rfl ?_; intro g3 cap3 w3 ho3 hg3; have O3 : Hid (w3.ownsRow w1.heap.size 33 6 (.slice (some ⟨g3, 0, none⟩) (n - k) cap3) (n - k) (rcells (l.drop k))) := hid ho3; have B3 : Hid (Below w1.heap.size w1 w3) := hid (kr_grown (And.left (by assumption)) hg3 (by first | exact Nat.le_refl _ | simp)); clear ho3 hg3)
        | (refine step_append_rn _ (by rfl) (.tmp 27) (.tmp 30) (by rfl) w1.heap.size g3 (n - k) cap3 (l.drop k) (by rfl) O3.out _ k c (l.take k) (by rfl) (RH.out.below (And.left (by assumption))) (by omega) (HKE.out _ (And.left (by assumption))) n (l.drop k ++ l.take k) (by omega) rfl ?_; intro g4 cap4 w4 ho4 hg4; have O4 : Hid (w4.ownsRow w1.heap.size 33 6 (.slice (some ⟨g4, 0, none⟩) n cap4) n (rcells (l.drop k ++ l.take k))) := hid ho4; have B4 : Hid (Below w1.heap.size w1 w4) := hid (kr_grown (And.left (by assumption)) hg4 (O3.out.lt g3 rfl).1); clear ho4 hg4)
        | (go_at_call 16; refine (rsort_any _ n cap4 (l.drop k ++ l.take k) _ (own_rrow O4.out) HKT.out (by omega)).mono ?_; rintro e w5 ⟨⟨ta, tc, rfl, hs5⟩, hb5⟩))
    have S5 : Hid (RRow w5 ta n tc (srt l)) := hid (by rw [srt_turn HK.out] at hs5; exact hs5)
    have b5 := bt B4.out hb5
    have S5' := hid (S1.out.below b5)
    have L5 := hid (HL.out.below (bt B1.out b5))
    have B5 := hid (bt B1.out b5)
    clear hs5 hb5 b5 KS HKE HKT RH RL hsH hsL O3 O4 B3 B4 S1 B1 hkn hkn' hk0 wn1 EKM
    go_wp2
    go_loopw [8] (fun i wr => ∃ k : Nat, k ≤ n ∧ i = .int .i64 k ∧ Hid (Below w5.heap.size w5 wr)) (fun i _ => n - (intOf i).toNat)
    case atStart => exact ⟨0, by omega, rfl, hid (Below.refl _ _)⟩
    case round =>
      obtain ⟨k, hkn, rfl, BW⟩ := hrel
      have hk0 : (0 : Int) ≤ (k : Int) := by omega
      by_cases hlt : k < n
      · have hki : (k : Int) < (n : Int) := by omega
        obtain ⟨b2, off2, y0, y1, y2, y3, n0, n1, e2, hb2, hr2, p0, p1, p2, p3, p4, p5⟩ := S5'.out.pick BW.out hlt
        obtain ⟨b4, off4, u0', u1', u2', u3', v0', v1', e4, hb4, hr4, q0, q1, q2, q3, q4, q5⟩ := S5.out.pick BW.out hlt
        subst e2 e4
        rw [hr2] at hr4
        cases hr4
        have HR2 := hid hr2
        clear hr2
        have hbw2 : b2 < wr.heap.size := Nat.lt_of_lt_of_le hb2 BW.out.size
        have hbw4 : b4 < wr.heap.size := Nat.lt_of_lt_of_le hb4 BW.out.size
        go_wp2
        go_loopw [9, 10, 11] (fun av bv iv wj => ∃ (j m q : Nat), j ≤ n ∧ av = .int .i64 m ∧ bv = .int .i64 q ∧ iv = .int .i64 j ∧ Hid (m = cnt (y0, y1, y2, y3, n0, n1) ((srt l).take j)) ∧ Hid (q = cnt (y0, y1, y2, y3, n0, n1) (l.take j)) ∧ Hid (Below wr.heap.size wr wj)) (fun _ _ iv _ => n - (intOf iv).toNat)
        case atStart => exact ⟨0, 0, 0, by omega, rfl, rfl, rfl, hid rfl, hid rfl, hid (Below.refl _ _)⟩
        case round =>
          obtain ⟨j, m, q, hj, rfl, rfl, rfl, HM1, HM2, BJ⟩ := hrel
          have hj0 : (0 : Int) ≤ (j : Int) := by omega
          have hm : m ≤ j := by have := HM1.out; have := cnt_le (y0, y1, y2, y3, n0, n1) ((srt l).take j); rw [List.length_take] at this; omega
          have hq : q ≤ j := by have := HM2.out; have := cnt_le (y0, y1, y2, y3, n0, n1) (l.take j); rw [List.length_take] at this; omega
          have P0 := ((bcell BJ.out).1 _ _ hbw2).trans p0
          have P1 := ((bcell BJ.out).1 _ _ hbw2).trans p1
          have P2 := ((bcell BJ.out).1 _ _ hbw2).trans p2
          have P3 := ((bcell BJ.out).1 _ _ hbw2).trans p3
          have P4 := ((bcell BJ.out).1 _ _ hbw2).trans p4
          have P5 := ((bcell BJ.out).1 _ _ hbw2).trans p5
          by_cases hjn : j < n
          · have hji : (j : Int) < (n : Int) := by omega
            obtain ⟨b6, off6, z0, z1, z2, z3, o0, o1, e6, hb6, hr6, s0, s1, s2, s3, s4, s5⟩ := S5'.out.pick (bt BW.out BJ.out) hjn
            cases e6
            obtain ⟨b7, off7, x0, x1, x2, x3, m0, m1, e7, hb7, hr7, t0, t1, t2, t3, t4, t5⟩ := L5.out.pick (bt BW.out BJ.out) hjn
            subst e7
            have HRs := hid hr6
            have HRl := hid hr7
            clear hr6 hr7
            cases hq1 : qr (z0, z1, z2, z3, o0, o1) (y0, y1, y2, y3, n0, n1) with
            | true =>
              have HQ1 := hid hq1
              cases hq2 : qr (x0, x1, x2, x3, m0, m1) (y0, y1, y2, y3, n0, n1) with
              | true =>
                have HQ2 := hid hq2
                go_wp2
                go_quiet (fail)
                go_wp2
                go_quiet (fail)
                go_wp2
                go_roundw
                case rel => exact ⟨j + 1, m + 1, q + 1, by omega, by go_num, by go_num, by go_num, hid (by rw [cnt_yes HRs.out HQ1.out, ← HM1.out]), hid (by rw [cnt_yes HRl.out HQ2.out, ← HM2.out]), hid ⟨BJ.out.os, BJ.out.tape, BJ.out.output, BJ.out.size, BJ.out.block⟩⟩
                case measure => simp [intOf]; omega
              | false =>
                have HQ2 := hid hq2
                go_wp2
                go_quiet (fail)
                go_wp2
                go_quiet (fail)
                go_wp2
                go_roundw
                case rel => exact ⟨j + 1, m + 1, q, by omega, by go_num, by go_num, by go_num, hid (by rw [cnt_yes HRs.out HQ1.out, ← HM1.out]), hid (by rw [cnt_no HRl.out HQ2.out, ← HM2.out]), hid ⟨BJ.out.os, BJ.out.tape, BJ.out.output, BJ.out.size, BJ.out.block⟩⟩
                case measure => simp [intOf]; omega
            | false =>
              have HQ1 := hid hq1
              cases hq2 : qr (x0, x1, x2, x3, m0, m1) (y0, y1, y2, y3, n0, n1) with
              | true =>
                have HQ2 := hid hq2
                go_wp2
                go_quiet (fail)
                go_wp2
                go_quiet (fail)
                go_wp2
                go_roundw
                case rel => exact ⟨j + 1, m, q + 1, by omega, by go_num, by go_num, by go_num, hid (by rw [cnt_no HRs.out HQ1.out, ← HM1.out]), hid (by rw [cnt_yes HRl.out HQ2.out, ← HM2.out]), hid ⟨BJ.out.os, BJ.out.tape, BJ.out.output, BJ.out.size, BJ.out.block⟩⟩
                case measure => simp [intOf]; omega
              | false =>
                have HQ2 := hid hq2
                go_wp2
                go_quiet (fail)
                go_wp2
                go_quiet (fail)
                go_wp2
                go_roundw
                case rel => exact ⟨j + 1, m, q, by omega, by go_num, by go_num, by go_num, hid (by rw [cnt_no HRs.out HQ1.out, ← HM1.out]), hid (by rw [cnt_no HRl.out HQ2.out, ← HM2.out]), hid ⟨BJ.out.os, BJ.out.tape, BJ.out.output, BJ.out.size, BJ.out.block⟩⟩
                case measure => simp [intOf]; omega
          · have hjf : decide ((j : Int) < (n : Int)) = false := decide_eq_false (by omega)
            have ejn : n = j := by omega
            subst ejn
            have emq : m = q := by
              have e1 := HM1.out
              have e2 := HM2.out
              rw [List.take_of_length_le (by rw [srt_len]; have := EL.out; omega)] at e1
              rw [List.take_of_length_le (by have := EL.out; omega)] at e2
              rw [e1, e2]
              exact cnt_perm _ (srt_perm l)
            subst emq
            have qyy : qr (y0, y1, y2, y3, n0, n1) (y0, y1, y2, y3, n0, n1) = true := qr_self _
            have U0 := ((bcell BJ.out).1 _ _ hbw4).trans q0
            have U1 := ((bcell BJ.out).1 _ _ hbw4).trans q1
            have U2 := ((bcell BJ.out).1 _ _ hbw4).trans q2
            have U3 := ((bcell BJ.out).1 _ _ hbw4).trans q3
            have U4 := ((bcell BJ.out).1 _ _ hbw4).trans q4
            have U5 := ((bcell BJ.out).1 _ _ hbw4).trans q5
            by_cases h0 : 0 < k
            · have hgi : (0 : Int) < (k : Int) := by omega
              obtain ⟨p, hp⟩ : ∃ p, k = p + 1 := ⟨k - 1, by omega⟩
              have wk : IntKind.i64.wrap ((k : Int) - 1) = (p : Int) := by rw [show (k : Int) - 1 = p by omega]; exact IntWalk.i64_in _ (by omega)
              have hp0 : (0 : Int) ≤ (p : Int) := by omega
              have hpi : (p : Int) < (n : Int) := by omega
              obtain ⟨b6, off6, z0, z1, z2, z3, o0, o1, e6, hb6, hr6, s0, s1, s2, s3, s4, s5⟩ := S5'.out.pick (bt BW.out BJ.out) (k := p) (by omega)
              cases e6
              have hbj : b2 < wr.heap.size := Nat.lt_of_lt_of_le hbw2 BJ.out.size
              have hbj4 : b4 < wr.heap.size := Nat.lt_of_lt_of_le hbw4 BJ.out.size
              have HY := hid (srt_ok HK.out _ (List.mem_of_getElem? HR2.out))
              have HZ := hid (srt_ok HK.out _ (List.mem_of_getElem? hr6))
              have EE : Hid (rlt (y0, y1, y2, y3, n0, n1) (z0, z1, z2, z3, o0, o1) = false) := hid (srt_next hr6 (by have := HR2.out; rw [hp] at this; exact this))
              have KS : Hid (∀ x, Below wr.heap.size wr x → Below wr.heap.size wr x ∧ (x.cell? ⟨b2, off2 + k * 6, none⟩ = some (.int .u8 y0) ∧ x.cell? ⟨b2, off2 + k * 6 + 1, none⟩ = some (.int .u8 y1) ∧ x.cell? ⟨b2, off2 + k * 6 + 2, none⟩ = some (.int .u8 y2) ∧ x.cell? ⟨b2, off2 + k * 6 + 3, none⟩ = some (.int .u8 y3) ∧ x.cell? ⟨b2, off2 + k * 6 + 4, none⟩ = some (.int .i64 n0) ∧ x.cell? ⟨b2, off2 + k * 6 + 5, none⟩ = some (.int .i64 n1)) ∧ (x.cell? ⟨b4, off4 + k * 6, none⟩ = some (.int .u8 y0) ∧ x.cell? ⟨b4, off4 + k * 6 + 1, none⟩ = some (.int .u8 y1) ∧ x.cell? ⟨b4, off4 + k * 6 + 2, none⟩ = some (.int .u8 y2) ∧ x.cell? ⟨b4, off4 + k * 6 + 3, none⟩ = some (.int .u8 y3) ∧ x.cell? ⟨b4, off4 + k * 6 + 4, none⟩ = some (.int .i64 n0) ∧ x.cell? ⟨b4, off4 + k * 6 + 5, none⟩ = some (.int .i64 n1)) ∧ x.cell? ⟨b2, off2 + p * 6, none⟩ = some (.int .u8 z0) ∧ x.cell? ⟨b2, off2 + p * 6 + 1, none⟩ = some (.int .u8 z1) ∧ x.cell? ⟨b2, off2 + p * 6 + 2, none⟩ = some (.int .u8 z2) ∧ x.cell? ⟨b2, off2 + p * 6 + 3, none⟩ = some (.int .u8 z3) ∧ x.cell? ⟨b2, off2 + p * 6 + 4, none⟩ = some (.int .i64 o0) ∧ x.cell? ⟨b2, off2 + p * 6 + 5, none⟩ = some (.int .i64 o1)) := hid (fun x h => ⟨h, ⟨((bcell h).1 _ _ hbj).trans P0, ((bcell h).1 _ _ hbj).trans P1, ((bcell h).1 _ _ hbj).trans P2, ((bcell h).1 _ _ hbj).trans P3, ((bcell h).1 _ _ hbj).trans P4, ((bcell h).1 _ _ hbj).trans P5⟩, ⟨((bcell h).1 _ _ hbj4).trans U0, ((bcell h).1 _ _ hbj4).trans U1, ((bcell h).1 _ _ hbj4).trans U2, ((bcell h).1 _ _ hbj4).trans U3, ((bcell h).1 _ _ hbj4).trans U4, ((bcell h).1 _ _ hbj4).trans U5⟩, ((bcell h).1 _ _ hbj).trans s0, ((bcell h).1 _ _ hbj).trans s1, ((bcell h).1 _ _ hbj).trans s2, ((bcell h).1 _ _ hbj).trans s3, ((bcell h).1 _ _ hbj).trans s4, ((bcell h).1 _ _ hbj).trans s5⟩)
              have HP := hid hp
              clear hp hr6 s0 s1 s2 s3 s4 s5 P0 P1 P2 P3 P4 P5 U0 U1 U2 U3 U4 U5 p0 p1 p2 p3 p4 p5 q0 q1 q2 q3 q4 q5
              go_wp2
              go_region_held3 (fun x => Below wr.heap.size wr x ∧ (x.cell? ⟨b2, off2 + k * 6, none⟩ = some (.int .u8 y0) ∧ x.cell? ⟨b2, off2 + k * 6 + 1, none⟩ = some (.int .u8 y1) ∧ x.cell? ⟨b2, off2 + k * 6 + 2, none⟩ = some (.int .u8 y2) ∧ x.cell? ⟨b2, off2 + k * 6 + 3, none⟩ = some (.int .u8 y3) ∧ x.cell? ⟨b2, off2 + k * 6 + 4, none⟩ = some (.int .i64 n0) ∧ x.cell? ⟨b2, off2 + k * 6 + 5, none⟩ = some (.int .i64 n1)) ∧ (x.cell? ⟨b4, off4 + k * 6, none⟩ = some (.int .u8 y0) ∧ x.cell? ⟨b4, off4 + k * 6 + 1, none⟩ = some (.int .u8 y1) ∧ x.cell? ⟨b4, off4 + k * 6 + 2, none⟩ = some (.int .u8 y2) ∧ x.cell? ⟨b4, off4 + k * 6 + 3, none⟩ = some (.int .u8 y3) ∧ x.cell? ⟨b4, off4 + k * 6 + 4, none⟩ = some (.int .i64 n0) ∧ x.cell? ⟨b4, off4 + k * 6 + 5, none⟩ = some (.int .i64 n1)) ∧ x.cell? ⟨b2, off2 + p * 6, none⟩ = some (.int .u8 z0) ∧ x.cell? ⟨b2, off2 + p * 6 + 1, none⟩ = some (.int .u8 z1) ∧ x.cell? ⟨b2, off2 + p * 6 + 2, none⟩ = some (.int .u8 z2) ∧ x.cell? ⟨b2, off2 + p * 6 + 3, none⟩ = some (.int .u8 z3) ∧ x.cell? ⟨b2, off2 + p * 6 + 4, none⟩ = some (.int .i64 o0) ∧ x.cell? ⟨b2, off2 + p * 6 + 5, none⟩ = some (.int .i64 o1))
                (first | assumption | exact keep_drew KS | exact keep_step (by assumption) (by assumption) KS)
                (first | (go_at_call 13; refine (less_m y0 y1 y2 y3 n0 n1 z0 z1 z2 z3 o0 o1 false _ HY.out HZ.out EE).mono ?_; rintro e w9 ⟨rfl, hb9⟩))
              have B9 : Hid (Below wr.heap.size wr w9) := hid (undrew hb9)
              clear hb9
              go_wp2
              exact ⟨⟨k + 1, by omega, by go_num, hid (bt (bt BW.out BJ.out) B9.out)⟩, by simp [intOf]; omega⟩
            · have hg1 : decide ((0 : Int) < (k : Int)) = false := decide_eq_false (by omega)
              have hg2 : decide (0 < k) = false := decide_eq_false (by omega)
              clear p0 p1 p2 p3 p4 p5 q0 q1 q2 q3 q4 q5
              go_wp2
              go_quiet (fail)
              go_wp2
              have b9 := bt BW.out BJ.out
              exact ⟨⟨k + 1, by omega, by go_num, hid ⟨b9.os, b9.tape, b9.output, b9.size, b9.block⟩⟩, by simp [intOf]; omega⟩
      · have hkf : decide ((k : Int) < (n : Int)) = false := decide_eq_false (by omega)
        go_wp2_with (first
          | (go_at_call 10; refine (wakes_any _).mono ?_; rintro e wa ⟨rfl, hba⟩; have Ba := hid (bt (bt B5.out BW.out) hba); clear hba))
        go_ret
        exact ⟨rfl, Ba.out⟩

end Go.Proofs.Ytikgbcdmeikjfaa

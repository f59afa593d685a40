/-
  The walk of the law RowTells.
  Conditions: as each theorem states them.
-/
import Derived.Test.YtikgbcdmeikjfaaRTc
import Derived.Test.YtikgbcdmeikjfaaSG
namespace Go.Proofs.Ytikgbcdmeikjfaa
open Go.ChangeShapes Go.WideShapes Go.ChangeAt Go.RowKit
set_option linter.unusedVariables false
set_option linter.unusedSimpArgs false
set_option maxRecDepth 100000

set_option maxHeartbeats 32000000 in
theorem tells7_walk (a : Option Addr) (n c : Nat) (ds : Dims) (M : Int) (ra : Option Addr) (rn rc : Nat) (l : List Rw) (w : World) (hc : Cat w a n c ds) (hM : I64 M) (hl : RRow w ra rn rc l) (hk : ∀ r ∈ l, rok r) :
    Calls Try.prog 3 #[.agg #[.slice a n c, .int .i64 M], .slice ra rn rc] w fun e w' => e = .returned (.bool true) ∧ Below w.heap.size w w' := by
  have HC := hid hc
  have HM := hid hM
  have HL := hid hl
  have HK := hid hk
  obtain ⟨l1, l2⟩ := hl.lens
  have B0 : Hid (Below w.heap.size w (w.alloc (.cells #[.slice a n c, .int .i64 M] 24)) ∧ (w.alloc (.cells #[.slice a n c, .int .i64 M] 24)).heap[w.heap.size]? = some (.cells #[.slice a n c, .int .i64 M] 24)) := hid ⟨(Below.refl _ _).alloc (Nat.le_refl _) _, heap_alloc_new _ _⟩
  clear hc hM hl hk l1
  by_cases h60 : 60 < rn
  · have hd : decide ((60 : Int) < (rn : Int)) = true := decide_eq_true (by omega)
    have hdi : (60 : Int) < (rn : Int) := by omega
    go_enter Try.func3, Try.ntmps3
    go_upto_region 1 with fail
    generalize (w.alloc (.cells #[.slice a n c, .int .i64 M] 24)) = W at B0 ⊢
    obtain ⟨c0, c1⟩ := box_two B0.out.2
    go_upto_if 13 with (first
      | (go_at_call 9; refine (lightC_any _ _ _ ds M _ (HC.out.below B0.out.1)).mono ?_; rintro e w1 ⟨⟨v, rfl, _⟩, hb1⟩; have B1 := hid (bt B0.out.1 hb1); clear hb1; cases v))
    all_goals
      go_wp2_with (first | (go_at_call 10; refine (wakes_any _).mono ?_; rintro e wa ⟨rfl, hba⟩; have Ba := hid (bt B1.out hba); clear hba))
      go_ret
      exact ⟨rfl, Ba.out⟩
  · have hd : decide ((60 : Int) < (rn : Int)) = false := decide_eq_false (by omega)
    go_enter Try.func3, Try.ntmps3
    go_upto_region 1 with fail
    generalize (w.alloc (.cells #[.slice a n c, .int .i64 M] 24)) = W at B0 ⊢
    obtain ⟨c0, c1⟩ := box_two B0.out.2
    go_upto_if 13 with (first
      | (go_at_call 9; refine (lightC_any _ _ _ ds M _ (HC.out.below B0.out.1)).mono ?_; rintro e w1 ⟨⟨v, rfl, _⟩, hb1⟩; have B1 := hid (bt B0.out.1 hb1); have C1 := hid (keep_blk B0.out.2 hb1); clear hb1; cases v))
    · go_wp2_with (first | (go_at_call 10; refine (wakes_any _).mono ?_; rintro e wa ⟨rfl, hba⟩; have Ba := hid (bt B1.out hba); clear hba))
      go_ret
      exact ⟨rfl, Ba.out⟩
    · clear c0 c1 B0
      go_wp2
      go_loopw [5] (fun i wr => ∃ k : Nat, k ≤ rn ∧ i = .int .i64 k ∧ Hid (Below w.heap.size w wr ∧ wr.heap[w.heap.size]? = some (.cells #[.slice a n c, .int .i64 M] 24))) (fun i _ => rn - (intOf i).toNat)
      case atStart => exact ⟨0, by omega, rfl, hid ⟨B1.out, C1.out⟩⟩
      case round =>
        obtain ⟨k, hkn, rfl, BW⟩ := hrel
        have hk0 : (0 : Int) ≤ (k : Int) := by omega
        by_cases hlt : k < rn
        · have hki : (k : Int) < (rn : Int) := by omega
          have h0i : (0 : Int) < (rn : Int) := by omega
          have h0n : 0 < rn := by omega
          obtain ⟨b, off, y0, y1, y2, y3, n0, n1, rfl, hb, hr, p0, p1, p2, p3, p4, p5⟩ := HL.out.pick BW.out.1 hlt
          obtain ⟨b', off', z0, z1, z2, z3, o0, o1, e', hb', hr', q0, q1, q2, q3, q4, q5⟩ := HL.out.pick BW.out.1 (k := 0) (by omega)
          cases e'
          simp only [Nat.zero_mul, Nat.add_zero] at q0 q1 q2 q3 q4 q5
          have HY := hid (HK.out _ (List.mem_of_getElem? hr))
          have HZ := hid (HK.out _ (List.mem_of_getElem? hr'))
          have hbw : b < wr.heap.size := Nat.lt_of_lt_of_le hb BW.out.1.size
          have KS : Hid (∀ x, Below wr.heap.size wr x → Below wr.heap.size wr x ∧ (x.cell? ⟨w.heap.size, 0, none⟩ = some (.slice a n c) ∧ x.cell? ⟨w.heap.size, 1, none⟩ = some (.int .i64 M)) ∧ (x.cell? ⟨b, off + k * 6, none⟩ = some (.int .u8 y0) ∧ x.cell? ⟨b, off + k * 6 + 1, none⟩ = some (.int .u8 y1) ∧ x.cell? ⟨b, off + k * 6 + 2, none⟩ = some (.int .u8 y2) ∧ x.cell? ⟨b, off + k * 6 + 3, none⟩ = some (.int .u8 y3) ∧ x.cell? ⟨b, off + k * 6 + 4, none⟩ = some (.int .i64 n0) ∧ x.cell? ⟨b, off + k * 6 + 5, none⟩ = some (.int .i64 n1)) ∧ x.cell? ⟨b, off, none⟩ = some (.int .u8 z0) ∧ x.cell? ⟨b, off + 1, none⟩ = some (.int .u8 z1) ∧ x.cell? ⟨b, off + 2, none⟩ = some (.int .u8 z2) ∧ x.cell? ⟨b, off + 3, none⟩ = some (.int .u8 z3) ∧ x.cell? ⟨b, off + 4, none⟩ = some (.int .i64 o0) ∧ x.cell? ⟨b, off + 5, none⟩ = some (.int .i64 o1)) := hid (fun x h => ⟨h, box_two (keep_blk BW.out.2 h), ⟨((bcell h).1 _ _ hbw).trans p0, ((bcell h).1 _ _ hbw).trans p1, ((bcell h).1 _ _ hbw).trans p2, ((bcell h).1 _ _ hbw).trans p3, ((bcell h).1 _ _ hbw).trans p4, ((bcell h).1 _ _ hbw).trans p5⟩, ((bcell h).1 _ _ hbw).trans q0, ((bcell h).1 _ _ hbw).trans q1, ((bcell h).1 _ _ hbw).trans q2, ((bcell h).1 _ _ hbw).trans q3, ((bcell h).1 _ _ hbw).trans q4, ((bcell h).1 _ _ hbw).trans q5⟩)
          clear hr hr' p0 p1 p2 p3 p4 p5 q0 q1 q2 q3 q4 q5
          obtain ⟨G, eG⟩ : ∃ y, growC ds M (y0, y1, y2, y3, n0, n1) = y := ⟨_, rfl⟩
          obtain ⟨P, eP⟩ : ∃ y, rlt (y0, y1, y2, y3, n0, n1) (z0, z1, z2, z3, o0, o1) = y := ⟨_, rfl⟩
          obtain ⟨Q, eQ⟩ : ∃ y, rlt (z0, z1, z2, z3, o0, o1) (y0, y1, y2, y3, n0, n1) = y := ⟨_, rfl⟩
          have EG := hid eG
          have EP := hid eP
          have EQ := hid eQ
          have t1 : True := trivial
          have t2 : True := trivial
          have HBW := hid BW.out.1
          clear eG eP eQ
          go_wp2
          go_region_held3 (fun x => Below wr.heap.size wr x ∧ (x.cell? ⟨w.heap.size, 0, none⟩ = some (.slice a n c) ∧ x.cell? ⟨w.heap.size, 1, none⟩ = some (.int .i64 M)) ∧ (x.cell? ⟨b, off + k * 6, none⟩ = some (.int .u8 y0) ∧ x.cell? ⟨b, off + k * 6 + 1, none⟩ = some (.int .u8 y1) ∧ x.cell? ⟨b, off + k * 6 + 2, none⟩ = some (.int .u8 y2) ∧ x.cell? ⟨b, off + k * 6 + 3, none⟩ = some (.int .u8 y3) ∧ x.cell? ⟨b, off + k * 6 + 4, none⟩ = some (.int .i64 n0) ∧ x.cell? ⟨b, off + k * 6 + 5, none⟩ = some (.int .i64 n1)) ∧ x.cell? ⟨b, off, none⟩ = some (.int .u8 z0) ∧ x.cell? ⟨b, off + 1, none⟩ = some (.int .u8 z1) ∧ x.cell? ⟨b, off + 2, none⟩ = some (.int .u8 z2) ∧ x.cell? ⟨b, off + 3, none⟩ = some (.int .u8 z3) ∧ x.cell? ⟨b, off + 4, none⟩ = some (.int .i64 o0) ∧ x.cell? ⟨b, off + 5, none⟩ = some (.int .i64 o1))
            (first | assumption | exact keep_drew KS | exact keep_step (by assumption) (by assumption) KS)
            (first
              | (go_at_call 11; refine (grow_m a n c ds M y0 y1 y2 y3 n0 n1 G _ (HC.out.below (bt HBW.out (And.left (by assumption)))) HM.out HY.out EG).mono ?_; rintro e w2 ⟨rfl, hb2⟩)
              | (go_at_call 12; refine (rgrow_m a n c ds M y0 y1 y2 y3 n0 n1 G _ (HC.out.below (bt HBW.out (And.left (by assumption)))) HM.out HY.out EG).mono ?_; rintro e w3 ⟨rfl, hb3⟩)
              | (go_at_call 13; clear t1; refine (less_m y0 y1 y2 y3 n0 n1 z0 z1 z2 z3 o0 o1 P _ HY.out HZ.out EP).mono ?_; rintro e w4 ⟨rfl, hb4⟩)
              | (go_at_call 14; clear t2; refine (rless_m y0 y1 y2 y3 n0 n1 z0 z1 z2 z3 o0 o1 P _ HY.out HZ.out EP).mono ?_; rintro e w5 ⟨rfl, hb5⟩)
              | (go_at_call 13; refine (less_m z0 z1 z2 z3 o0 o1 y0 y1 y2 y3 n0 n1 Q _ HZ.out HY.out EQ).mono ?_; rintro e w6 ⟨rfl, hb6⟩)
              | (go_at_call 14; refine (rless_m z0 z1 z2 z3 o0 o1 y0 y1 y2 y3 n0 n1 Q _ HZ.out HY.out EQ).mono ?_; rintro e w7 ⟨rfl, hb7⟩))
          have B7 : Hid (Below wr.heap.size wr w7) := hid (bt (bt (bt (bt (bt (undrew hb2) hb3) hb4) hb5) hb6) hb7)
          clear hb2 hb3 hb4 hb5 hb6 hb7
          go_wp2
          go_roundw
          case rel => exact ⟨k + 1, by omega, by go_num, hid ⟨bt BW.out.1 B7.out, keep_blk BW.out.2 B7.out⟩⟩
          case measure => simp [intOf]; omega
        · have hkf : decide ((k : Int) < (rn : Int)) = false := decide_eq_false (by omega)
          go_wp2_with (first
            | (go_at_call 16; refine (rsort_any ra rn rc l _ (HL.out.below BW.out.1) HK.out (by omega)).mono ?_; rintro e w2 ⟨⟨sa, sc, rfl, hs2⟩, hb2⟩; have S2 := hid hs2; have B2 := hid (bt BW.out.1 hb2); clear hs2 hb2)
            | (go_at_call 17; refine (rrsort_any ra rn rc l _ (HL.out.below B2.out) HK.out (by omega)).mono ?_; rintro e w3 ⟨⟨ta, tc, rfl, hs3⟩, hb3⟩; have S3 := hid hs3; have S2' := hid (S2.out.below hb3); have B3 := hid (bt B2.out hb3); clear hs3 hb3)
            | (go_at_call 15; refine (rsame_yes sa rn sc ta tc (srt l) _ S2'.out S3.out (by omega)).mono ?_; rintro e w4 ⟨rfl, hb4⟩; have B4 := hid (bt B3.out hb4); clear hb4)
            | (go_at_call 10; refine (wakes_any _).mono ?_; rintro e wa ⟨rfl, hba⟩; have Ba := hid (bt B4.out hba); clear hba))
          go_ret
          exact ⟨rfl, Ba.out⟩

end Go.Proofs.Ytikgbcdmeikjfaa

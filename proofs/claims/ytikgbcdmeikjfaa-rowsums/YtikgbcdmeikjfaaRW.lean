/-
  The walk of the law RowSums.
  Conditions: as each theorem states them.
-/
import Derived.Test.YtikgbcdmeikjfaaRWa
namespace Go.Proofs.Ytikgbcdmeikjfaa
open Go.ChangeShapes Go.WideShapes Go.ChangeAt Go.RowKit
set_option linter.unusedVariables false
set_option linter.unusedSimpArgs false
set_option maxRecDepth 100000

set_option maxHeartbeats 16000000 in
theorem sums_walk (a : Option Addr) (n c : Nat) (l : List Rw) (pa : Option Addr) (pn pc : Nat) (pl : List Bool) (w : World) (hl : RRow w a n c l) (hk : ∀ r ∈ l, rok r) (hp : BRow w pa pn pc pl) :
    Calls Try.prog 7 #[.slice a n c, .slice pa pn pc] w fun e w' => e = .returned (.bool true) ∧ Below w.heap.size w w' := by
  have HL := hid hl
  have HK := hid hk
  have HP := hid hp
  obtain ⟨l1, l2⟩ := hl.lens
  have p2 : pn ≤ 9223372036854775807 := by have := hp.2.1; have := hp.2.2.1; unfold maxLen at this; omega
  have EL := hid l1
  clear hl hk l1 hp
  by_cases h200 : 200 < n
  · have hd : decide ((200 : Int) < (n : Int)) = true := decide_eq_true (by omega)
    have hdi : (200 : Int) < (n : Int) := by omega
    go_enter Try.func7, Try.ntmps7
    go_wp2_with (first | (go_at_call 10; refine (wakes_any _).mono ?_; rintro e wa ⟨rfl, hba⟩))
    go_ret
    exact ⟨rfl, hba⟩
  · have hd : decide ((200 : Int) < (n : Int)) = false := decide_eq_false (by omega)
    obtain ⟨V0, e0⟩ : ∃ y, mv0 l = y := ⟨_, rfl⟩
    obtain ⟨V1, e1⟩ : ∃ y, mv1 l = y := ⟨_, rfl⟩
    have E0 := hid e0
    have E1 := hid e1
    have eqn := eqM2
    cases hK : mok l with
    | false =>
      obtain rfl : V0 = 0 := by rw [← e0]; unfold mv0; rw [hK]; rfl
      obtain rfl : V1 = 0 := by rw [← e1]; unfold mv1; rw [hK]; rfl
      have EK := hid hK
      have qzz : qm 0 0 0 0 = true := by decide
      clear e0 e1 hK
      go_enter Try.func7, Try.ntmps7
      go_wp2_with (first
        | (go_at_call 19; refine (mass_m a n c l 0 0 false _ HL.out HK.out E0 E1 EK).mono ?_; rintro e w1 ⟨rfl, hb1⟩; have B1 := hid hb1; clear hb1)
        | (go_at_call 10; refine (wakes_any _).mono ?_; rintro e wa ⟨rfl, hba⟩; have Ba := hid (bt (bt B1.out ((Below.refl _ _).alloc (Nat.le_refl _) _)) hba); clear hba))
      go_ret
      exact ⟨rfl, Ba.out⟩
    | true =>
      have EK := hid hK
      have hm := hK
      unfold mok at hm
      rw [decide_eq_true_iff] at hm
      have f0 : sum0 l = V0 := by rw [← e0]; unfold mv0; rw [hK]; rfl
      have f1 : sum1 l = V1 := by rw [← e1]; unfold mv1; rw [hK]; rfl
      have n0 := sum0_nn l
      have n1 := sum1_nn l
      have s0 := selk_bd rm0 l pl n
      have s1 := selk_bd rm1 l pl n
      rw [List.take_of_length_le (by have := EL.out; omega), sums0, f0] at s0
      rw [List.take_of_length_le (by have := EL.out; omega), sums1, f1] at s1
      rw [f0] at hm n0
      rw [f1] at hm n1
      obtain ⟨S0, g0⟩ : ∃ y, calc.sumI (selk rm0 l pl n) = y := ⟨_, rfl⟩
      obtain ⟨S1, g1⟩ : ∃ y, calc.sumI (selk rm1 l pl n) = y := ⟨_, rfl⟩
      rw [g0] at s0
      rw [g1] at s1
      have ES0 := hid g0
      have ES1 := hid g1
      have ER0 : Hid (-9223372036854775808 ≤ S0 ∧ S0 ≤ 9223372036854775807) := hid (by omega)
      have ER1 : Hid (-9223372036854775808 ≤ S1 ∧ S1 ≤ 9223372036854775807) := hid (by omega)
      have SI0 : Hid (∀ x ∈ selk rm0 l pl n, I64 x) := hid (selk_i64 (fun r hr => (by obtain ⟨x0, x1, x2, x3, m0, m1⟩ := r; exact (HK.out _ hr).2.1)) n)
      have SI1 : Hid (∀ x ∈ selk rm1 l pl n, I64 x) := hid (selk_i64 (fun r hr => (by obtain ⟨x0, x1, x2, x3, m0, m1⟩ := r; exact (HK.out _ hr).2.2)) n)
      have i1 : decide (V0 < S0) = false := decide_eq_false (by omega)
      have i2 : decide (V1 < S1) = false := decide_eq_false (by omega)
      have i3 : IntKind.i64.wrap (-V0) = -V0 := IntWalk.i64_in _ (by omega)
      have i4 : IntKind.i64.wrap (-V1) = -V1 := IntWalk.i64_in _ (by omega)
      have i5 : decide (S0 < -V0) = false := decide_eq_false (by omega)
      have i6 : decide (S1 < -V1) = false := decide_eq_false (by omega)
      have i7 : decide (V0 < 0) = false := decide_eq_false (by omega)
      have i8 : decide (V1 < 0) = false := decide_eq_false (by omega)
      have i9 : decide (2305843009213693952 < V0) = false := decide_eq_false (by omega)
      have ia : decide (2305843009213693952 < V1) = false := decide_eq_false (by omega)
      clear e0 e1 hK f0 f1 g0 g1 hm s0 s1 n0 n1
      go_enter Try.func7, Try.ntmps7
      go_upto_region 4 with (first
        | (go_at_call 19; refine (mass_m a n c l V0 V1 true _ HL.out HK.out E0 E1 EK).mono ?_; rintro e w1 ⟨rfl, hb1⟩; have B1 := hid hb1; clear hb1))
      have MB0 := hid (heap_alloc_new w1 (.cells #[.int .i64 V0, .int .i64 V1] 31))
      have B0 := hid (bt B1.out ((Below.refl _ _).alloc (Nat.le_refl _) (.cells #[.int .i64 V0, .int .i64 V1] 31)))
      clear B1
      generalize (w1.alloc (.cells #[.int .i64 V0, .int .i64 V1] 31)) = W0 at MB0 B0 ⊢
      go_wp2
      refine wp_loop_rounds 3 ?_
      rw [rounds_succ]; go_wp2
      go_loopw [8, 9] (fun bv i wr => ∃ (j m : Nat), j ≤ n ∧ m ≤ j ∧ i = .int .i64 j ∧ Hid (wr.ownsRow W0.heap.size 2 1 bv m (vals .i64 (selk rm0 l pl j))) ∧ Hid (Below W0.heap.size W0 wr)) (fun _ i _ => n - (intOf i).toNat)
      case atStart => exact ⟨0, 0, by omega, by omega, rfl, hid (World.ownsRow_nil _ _ _ _), hid (Below.refl _ _)⟩
      case round =>
        obtain ⟨j, m, hj, hmj, rfl, OW, BW⟩ := hrel
        have hsz := BW.out.size
        by_cases hlt : j < n
        · have hji : (j : Int) < (n : Int) := by omega
          have hj0 : (0 : Int) ≤ (j : Int) := by omega
          obtain ⟨b, off, x0, x1, x2, x3, m0, m1, rfl, hb, hr, p0, p1, p2, p3, p4, p5⟩ := HL.out.pick (bt B0.out BW.out) hlt
          have HR := hid hr
          clear p0 p1 p2 p3 hr
          have hbw : b < wr.heap.size := Nat.lt_of_lt_of_le hb (Nat.le_trans B0.out.size hsz)
          have hbn : ¬ b = wr.heap.size := by omega
          by_cases hjp : j < pn
          · have hjpi : (j : Int) < (pn : Int) := by omega
            obtain ⟨pb, poff, rfl, pc'⟩ := HP.out.pick (bt B0.out BW.out) hjp
            cases hpk : pl.getD j false with
            | true =>
              rw [hpk] at pc'
              have HPK := hid hpk
              have hown := OW.out
              clear hpk
              go_wp2_with (first
                | (at_builtin; refine append_one Try.underlying48 info_i64 (by decide) rfl (.tmp 49) (.tmp 57) rfl W0.heap.size m _ m0 (selk rm0 l pl j) _ rfl rfl hown rfl (by omega) hsz ?_; intro v' w4 hown4 _ hb4; have O4 := hid hown4; have B4 := hid (BW.out.trans hb4); clear hown4 hb4))
              go_roundw
              case rel => exact ⟨j + 1, m + 1, by omega, by omega, by go_num, hid (by rw [selk_yes HR.out HPK.out]; exact O4.out), B4⟩
              case measure => simp [intOf]; omega
            | false =>
              rw [hpk] at pc'
              have HPK := hid hpk
              clear hpk
              go_wp2
              go_roundw
              case rel => exact ⟨j + 1, m, by omega, by omega, by go_num, hid (by rw [selk_no HPK.out]; exact OW.out), BW⟩
              case measure => simp [intOf]; omega
          · have hjpf : decide ((j : Int) < (pn : Int)) = false := decide_eq_false (by omega)
            have HPK : Hid (pl.getD j false = false) := hid (by have := HP.out.1; rw [List.getD_eq_getElem?_getD, List.getElem?_eq_none (by omega)]; rfl)
            go_wp2
            go_roundw
            case rel => exact ⟨j + 1, m, by omega, by omega, by go_num, hid (by rw [selk_no HPK.out]; exact OW.out), BW⟩
            case measure => simp [intOf]; omega
        · have hjf : decide ((j : Int) < (n : Int)) = false := decide_eq_false (by omega)
          have ejn : n = j := by omega
          subst ejn
          have hown := OW.out
          go_wp2_with (first
            | (go_at_call 21; refine (rtotal_m _ m (selk rm0 l pl n) S0 W0.heap.size _ hown SI0.out (by omega) ES0 ER0).mono ?_; rintro e w5 ⟨rfl, hb5⟩; have B5 := hid (bt BW.out hb5); obtain ⟨a0, a1⟩ := box_two (keep_blk MB0.out B5.out); clear hb5))
          have MB1 := hid (keep_blk MB0.out B5.out)
          have B1 := hid (bt B0.out B5.out)
          clear a0 a1 hown OW BW B5 MB0 B0 hlt hjf hsz hmj hj m
          generalize hW1 : w5 = W1 at MB1 B1 ⊢
          clear hW1
          rw [rounds_succ]; go_wp2
          go_loopw [8, 9] (fun bv i wr => ∃ (j m : Nat), j ≤ n ∧ m ≤ j ∧ i = .int .i64 j ∧ Hid (wr.ownsRow W1.heap.size 2 1 bv m (vals .i64 (selk rm1 l pl j))) ∧ Hid (Below W1.heap.size W1 wr)) (fun _ i _ => n - (intOf i).toNat)
          case atStart => exact ⟨0, 0, by omega, by omega, rfl, hid (World.ownsRow_nil _ _ _ _), hid (Below.refl _ _)⟩
          case round =>
            obtain ⟨j, m, hj, hmj, rfl, OW, BW⟩ := hrel
            have hsz := BW.out.size
            by_cases hlt : j < n
            · have hji : (j : Int) < (n : Int) := by omega
              have hj0 : (0 : Int) ≤ (j : Int) := by omega
              obtain ⟨b, off, x0, x1, x2, x3, m0, m1, rfl, hb, hr, p0, p1, p2, p3, p4, p5⟩ := HL.out.pick (bt B1.out BW.out) hlt
              have HR := hid hr
              clear p0 p1 p2 p3 hr
              have hbw : b < wr.heap.size := Nat.lt_of_lt_of_le hb (Nat.le_trans B1.out.size hsz)
              have hbn : ¬ b = wr.heap.size := by omega
              by_cases hjp : j < pn
              · have hjpi : (j : Int) < (pn : Int) := by omega
                obtain ⟨pb, poff, rfl, pc'⟩ := HP.out.pick (bt B1.out BW.out) hjp
                cases hpk : pl.getD j false with
                | true =>
                  rw [hpk] at pc'
                  have HPK := hid hpk
                  have hown := OW.out
                  clear hpk
                  go_wp2_with (first
                    | (at_builtin; refine append_one Try.underlying48 info_i64 (by decide) rfl (.tmp 49) (.tmp 57) rfl W1.heap.size m _ m1 (selk rm1 l pl j) _ rfl rfl hown rfl (by omega) hsz ?_; intro v' w4 hown4 _ hb4; have O4 := hid hown4; have B4 := hid (BW.out.trans hb4); clear hown4 hb4))
                  go_roundw
                  case rel => exact ⟨j + 1, m + 1, by omega, by omega, by go_num, hid (by rw [selk_yes HR.out HPK.out]; exact O4.out), B4⟩
                  case measure => simp [intOf]; omega
                | false =>
                  rw [hpk] at pc'
                  have HPK := hid hpk
                  clear hpk
                  go_wp2
                  go_roundw
                  case rel => exact ⟨j + 1, m, by omega, by omega, by go_num, hid (by rw [selk_no HPK.out]; exact OW.out), BW⟩
                  case measure => simp [intOf]; omega
              · have hjpf : decide ((j : Int) < (pn : Int)) = false := decide_eq_false (by omega)
                have HPK : Hid (pl.getD j false = false) := hid (by have := HP.out.1; rw [List.getD_eq_getElem?_getD, List.getElem?_eq_none (by omega)]; rfl)
                go_wp2
                go_roundw
                case rel => exact ⟨j + 1, m, by omega, by omega, by go_num, hid (by rw [selk_no HPK.out]; exact OW.out), BW⟩
                case measure => simp [intOf]; omega
            · have hjf : decide ((j : Int) < (n : Int)) = false := decide_eq_false (by omega)
              have ejn : n = j := by omega
              subst ejn
              have hown := OW.out
              go_wp2_with (first
                | (go_at_call 21; refine (rtotal_m _ m (selk rm1 l pl n) S1 W1.heap.size _ hown SI1.out (by omega) ES1 ER1).mono ?_; rintro e w5 ⟨rfl, hb5⟩; have B5 := hid (bt BW.out hb5); obtain ⟨a0, a1⟩ := box_two (keep_blk MB1.out B5.out); clear hb5))
              rw [rounds_succ]; go_wp2_with (first
                | (go_at_call 10; refine (wakes_any _).mono ?_; rintro e wa ⟨rfl, hba⟩; have Ba := hid (bt (bt B1.out B5.out) hba); clear hba))
              go_ret
              exact ⟨rfl, Ba.out⟩

end Go.Proofs.Ytikgbcdmeikjfaa

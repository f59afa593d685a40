/-
  What the document's Good, Count, Has return.
  Conditions: as each theorem states them.
-/
import Derived.Test.YtjkkajhjcinalaaBC
namespace Go.Proofs.Ytjkkajhjcinalaa
open Go.ChangeShapes Go.WideShapes Go.ChangeAt Go.RowKit
set_option linter.unusedVariables false
set_option linter.unusedSimpArgs false
set_option maxRecDepth 100000

set_option maxHeartbeats 4000000 in
theorem rgood_any (a : Option Addr) (n c : Nat) (l : List Rn) (w : World) (hl : NRun w a n c l) (hk : ∀ r ∈ l, nok r) :
    Calls Try.prog 59 #[.slice a n c] w fun e w' => e = .returned (.bool (gd l)) ∧ Below w.heap.size w w' := by
  have HL := hid hl
  have HK := hid hk
  obtain ⟨l1, l2⟩ := hl.lens
  have EL := hid l1
  have B0 := hid (bgn_0 l)
  clear hl hk l1
  go_enter Try.func59, Try.ntmps59
  go_wp2
  go_loopw [3, 4] (fun s i wr => ∃ (k : Nat) (T : Int), k ≤ n ∧ i = .int .i64 k ∧ s = .int .i64 T ∧ Hid (Bgn l k T) ∧ Hid (Below w.heap.size w wr)) (fun _ i _ => n - (intOf i).toNat)
  case atStart => exact ⟨0, 0, by omega, rfl, rfl, B0, hid (Below.refl _ _)⟩
  case round =>
    obtain ⟨k, T, hkn, rfl, rfl, BG, BW⟩ := hrel
    have hk0 : (0 : Int) ≤ (k : Int) := by omega
    have T0 := BG.out.2.2.1
    have T1 := BG.out.2.2.2
    by_cases hlt : k < n
    · have hki : (k : Int) < (n : Int) := by omega
      obtain ⟨b, off, x0, x1, rfl, hb, hr, p0, p1⟩ := HL.out.pick BW.out hlt
      have HR := hid hr
      have hn := HK.out _ (List.mem_of_getElem? hr)
      have X1a := hn.2.1
      have X1b := hn.2.2
      have hbw : b < wr.heap.size := Nat.lt_of_lt_of_le hb BW.out.size
      clear hr hn
      simp only at X1a X1b
      by_cases hkp : 0 < k
      · have hg : decide ((0 : Int) < (k : Int)) = true := decide_eq_true (by omega)
        have hgi : (0 : Int) < (k : Int) := by omega
        obtain ⟨j, hj⟩ : ∃ j, k - 1 = j := ⟨_, rfl⟩
        have hjk : (k : Int) - 1 = (j : Int) := by omega
        have hj0 : (0 : Int) ≤ (j : Int) := by omega
        have hjn : (j : Int) < (n : Int) := by omega
        obtain ⟨b', off', y0, y1, e', hb', hq, q0, q1⟩ := HL.out.pick BW.out (k := j) (by omega)
        cases e'
        have HQ := hid hq
        have HJ := hid hj
        have hwj : IntKind.i64.wrap ((k : Int) - 1) = (j : Int) := by rw [hjk]; exact IntWalk.i64_in _ (by omega)
        clear hq hj q1
        by_cases hA : x0 ≤ y0
        · have hAd : decide (x0 ≤ y0) = true := decide_eq_true hA
          go_wp2
          all_goals (try go_quiet (fail))
          all_goals (try go_wp2)
          go_ret
          exact ⟨ret_bool (gd_no (bag_no1 HR.out (HJ.out ▸ HQ.out) hkp hA)).symm, bdrewN BW.out⟩
        · have hAd : decide (x0 ≤ y0) = false := decide_eq_false hA
          by_cases hB : x1 < 1
          · have hBd : decide (x1 < 1) = true := decide_eq_true hB
            go_wp2
            all_goals (try go_quiet (fail))
            all_goals (try go_wp2)
            go_ret
            exact ⟨ret_bool (gd_no (bag_no2 HR.out hB)).symm, bdrewN BW.out⟩
          · have hBd : decide (x1 < 1) = false := decide_eq_false hB
            by_cases hC : 1099511627776 - T < x1
            · have hCd : decide (1099511627776 - T < x1) = true := decide_eq_true hC
              go_wp2
              all_goals (try go_quiet (fail))
              all_goals (try go_wp2)
              go_ret
              exact ⟨ret_bool (gd_no (bag_no3 HR.out BG.out.2.1 hC)).symm, bdrewN BW.out⟩
            · have hCd : decide (1099511627776 - T < x1) = false := decide_eq_false hC
              go_wp2
              all_goals (try go_quiet (fail))
              all_goals (try go_wp2)
              go_roundw
              case rel => exact ⟨k + 1, T + x1, by omega, by go_num, rfl, hid (bgn_step BG.out HR.out (fun z0 z1 hz _ => by rw [HJ.out, HQ.out] at hz; cases hz; omega) (by omega) (by omega)), hid (bdrewN BW.out)⟩
              case measure => simp [intOf]; omega
      · have hg : decide ((0 : Int) < (k : Int)) = false := decide_eq_false (by omega)
        by_cases hB : x1 < 1
        · have hBd : decide (x1 < 1) = true := decide_eq_true hB
          go_wp2
          all_goals (try go_quiet (fail))
          all_goals (try go_wp2)
          go_ret
          exact ⟨ret_bool (gd_no (bag_no2 HR.out hB)).symm, bdrewN BW.out⟩
        · have hBd : decide (x1 < 1) = false := decide_eq_false hB
          by_cases hC : 1099511627776 - T < x1
          · have hCd : decide (1099511627776 - T < x1) = true := decide_eq_true hC
            go_wp2
            all_goals (try go_quiet (fail))
            all_goals (try go_wp2)
            go_ret
            exact ⟨ret_bool (gd_no (bag_no3 HR.out BG.out.2.1 hC)).symm, bdrewN BW.out⟩
          · have hCd : decide (1099511627776 - T < x1) = false := decide_eq_false hC
            go_wp2
            all_goals (try go_quiet (fail))
            all_goals (try go_wp2)
            go_roundw
            case rel => exact ⟨k + 1, T + x1, by omega, by go_num, rfl, hid (bgn_step BG.out HR.out (fun z0 z1 hz hp => absurd hp hkp) (by omega) (by omega)), hid (bdrewN BW.out)⟩
            case measure => simp [intOf]; omega
    · have hkf : decide ((k : Int) < (n : Int)) = false := decide_eq_false (by omega)
      obtain ⟨hbag, htot⟩ := bgn_all BG.out (by have := EL.out; omega)
      have HB := hid hbag
      clear hbag htot
      go_wp2
      go_ret
      exact ⟨ret_bool (gd_yes HB.out).symm, BW.out⟩
theorem rgood_m (a : Option Addr) (n c : Nat) (l : List Rn) (v : Bool) (w : World) (hl : NRun w a n c l) (hk : ∀ r ∈ l, nok r) (hv : Hid (gd l = v)) :
    Calls Try.prog 59 #[.slice a n c] w fun e w' => e = .returned (.bool v) ∧ Below w.heap.size w w' := by
  have := rgood_any a n c l w hl hk
  rw [hv.out] at this
  exact this

set_option maxHeartbeats 2000000 in
theorem rcount_any (a : Option Addr) (n c : Nat) (l : List Rn) (w : World) (hl : NRun w a n c l) (hk : ∀ r ∈ l, nok r) :
    Calls Try.prog 60 #[.slice a n c] w fun e w' => e = .returned (.int .i64 (tl l)) ∧ Below w.heap.size w w' := by
  have HL := hid hl
  have HK := hid hk
  obtain ⟨l1, l2⟩ := hl.lens
  have EL := hid l1
  clear hl hk l1
  cases hg : gd l with
  | false =>
    have e1 : tl l = 0 := by unfold tl; rw [hg]; rfl
    rw [e1]
    have HG := hid hg
    clear hg e1
    go_enter Try.func60, Try.ntmps60
    go_wp2
    refine wp_loop_rounds 1 ?_
    rw [rounds_succ]
    go_wp2_with (go_at_call 59; refine (rgood_m a n c l false _ HL.out HK.out HG).mono ?_; rintro e w1 ⟨rfl, hb1⟩)
    go_ret
    exact ⟨rfl, hb1⟩
  | true =>
    have hbag := gd_iff.1 hg
    have HB := hid hbag
    have e1 := hid (tl_yes hbag)
    have HG := hid hg
    clear hg hbag
    go_enter Try.func60, Try.ntmps60
    go_wp2
    go_loopw [3, 4] (fun s i wr => ∃ (k : Nat) (T : Int), k ≤ n ∧ i = .int .i64 k ∧ s = .int .i64 T ∧ Hid (tot (l.take k) = T) ∧ Hid (Below w.heap.size w wr)) (fun _ i _ => n - (intOf i).toNat)
    case atStart => exact ⟨0, 0, by omega, rfl, rfl, hid rfl, hid (Below.refl _ _)⟩
    case round =>
      obtain ⟨k, T, hkn, rfl, rfl, HT, BW⟩ := hrel
      have hk0 : (0 : Int) ≤ (k : Int) := by omega
      by_cases hlt : k < n
      · have hki : (k : Int) < (n : Int) := by omega
        obtain ⟨b, off, x0, x1, rfl, hb, hr, p0, p1⟩ := HL.out.pick BW.out hlt
        have HR := hid hr
        have hat := bag_at HB.out hr
        rw [HT.out] at hat
        have X1 := hat.2.1
        have X2 := hat.2.2.1
        have X3 := hat.2.2.2.1
        have hbw : b < wr.heap.size := Nat.lt_of_lt_of_le hb BW.out.size
        clear hr hat
        simp only at X1 X2
        go_wp2_with (go_at_call 59; refine (rgood_m _ n c l true _ (HL.out.below BW.out) HK.out HG).mono ?_; rintro e w1 ⟨rfl, hb1⟩; have B1 := hid (bt BW.out hb1); have q1 := ((bcell hb1).1 _ _ hbw).trans p1; clear hb1)
        go_roundw
        case rel => exact ⟨k + 1, T + x1, by omega, by go_num, rfl, hid (by rw [tot_step HR.out, HT.out]), B1⟩
        case measure => simp [intOf]; omega
      · have hkf : decide ((k : Int) < (n : Int)) = false := decide_eq_false (by omega)
        have HE : Hid (T = tl l) := hid (by rw [e1.out, ← HT.out, List.take_of_length_le (by have := EL.out; omega)])
        go_wp2_with (go_at_call 59; refine (rgood_m _ n c l true _ (HL.out.below BW.out) HK.out HG).mono ?_; rintro e w1 ⟨rfl, hb1⟩; have B1 := hid (bt BW.out hb1); clear hb1)
        go_ret
        exact ⟨ret_int HE.out, B1.out⟩
/-- How often, or 0 of what may not be. -/
def hs (v : Int) (l : List Rn) : Int := if gd l then cn v l else 0
theorem hs_yes {v : Int} {l : List Rn} (h : gd l = true) : hs v l = cn v l := by unfold hs; rw [h]; rfl
theorem hs_no {v : Int} {l : List Rn} (h : gd l = false) : hs v l = 0 := by unfold hs; rw [h]; rfl
theorem cn_absent {v : Int} {l : List Rn} (h : ∀ (j : Nat) (x0 x1 : Int), l[j]? = some (x0, x1) → ¬ x0 = v) : cn v l = 0 :=
  cn_none (fun r hr e => by
    obtain ⟨j, hj⟩ := List.mem_iff_getElem?.1 hr
    exact h j r.1 r.2 hj e)
set_option maxHeartbeats 2000000 in
theorem rhas_any (a : Option Addr) (n c : Nat) (l : List Rn) (v : Int) (w : World) (hl : NRun w a n c l) (hk : ∀ r ∈ l, nok r) :
    Calls Try.prog 81 #[.slice a n c, .int .i64 v] w fun e w' => e = .returned (.int .i64 (hs v l)) ∧ Below w.heap.size w w' := by
  have HL := hid hl
  have HK := hid hk
  obtain ⟨l1, l2⟩ := hl.lens
  have EL := hid l1
  clear hl hk l1
  cases hg : gd l with
  | false =>
    rw [hs_no hg]
    have HG := hid hg
    clear hg
    go_enter Try.func81, Try.ntmps81
    go_wp2
    refine wp_loop_rounds 1 ?_
    rw [rounds_succ]
    go_wp2_with (go_at_call 59; refine (rgood_m a n c l false _ HL.out HK.out HG).mono ?_; rintro e w1 ⟨rfl, hb1⟩)
    go_ret
    exact ⟨rfl, hb1⟩
  | true =>
    have hbag := gd_iff.1 hg
    have HB := hid hbag
    have e1 := hid (hs_yes (v := v) hg)
    have HG := hid hg
    clear hg hbag
    go_enter Try.func81, Try.ntmps81
    go_wp2
    go_loopw [5] (fun i wr => ∃ (k : Nat), k ≤ n ∧ i = .int .i64 k ∧ Hid (∀ j x0 x1, j < k → l[j]? = some (x0, x1) → ¬ x0 = v) ∧ Hid (Below w.heap.size w wr)) (fun i _ => n - (intOf i).toNat)
    case atStart => exact ⟨0, by omega, rfl, hid (fun j _ _ hj => by omega), hid (Below.refl _ _)⟩
    case round =>
      obtain ⟨k, hkn, rfl, HT, BW⟩ := hrel
      have hk0 : (0 : Int) ≤ (k : Int) := by omega
      by_cases hlt : k < n
      · have hki : (k : Int) < (n : Int) := by omega
        obtain ⟨b, off, x0, x1, rfl, hb, hr, p0, p1⟩ := HL.out.pick BW.out hlt
        have HR := hid hr
        have hbw : b < wr.heap.size := Nat.lt_of_lt_of_le hb BW.out.size
        clear hr
        by_cases hv : x0 = v
        · have hvd : (x0 == v) = true := by simpa using hv
          have HV := hid hv
          clear hv
          go_wp2_with (go_at_call 59; refine (rgood_m _ n c l true _ (HL.out.below BW.out) HK.out HG).mono ?_; rintro e w1 ⟨rfl, hb1⟩; have B1 := hid (bt BW.out hb1); have q0 := ((bcell hb1).1 _ _ hbw).trans p0; have q1 := ((bcell hb1).1 _ _ hbw).trans p1; clear hb1)
          go_ret
          exact ⟨ret_int (by have := cn_at HB.out.1 HR.out; simp only at this; rw [e1.out, ← HV.out, this]), B1.out⟩
        · have hvd : (x0 == v) = false := by simpa using hv
          have HV := hid hv
          clear hv
          go_wp2_with (go_at_call 59; refine (rgood_m _ n c l true _ (HL.out.below BW.out) HK.out HG).mono ?_; rintro e w1 ⟨rfl, hb1⟩; have B1 := hid (bt BW.out hb1); have q0 := ((bcell hb1).1 _ _ hbw).trans p0; clear hb1)
          go_roundw
          case rel =>
            refine ⟨k + 1, by omega, by go_num, hid (fun j z0 z1 hj hz => ?_), B1⟩
            by_cases hjk : j = k
            · subst hjk; rw [HR.out] at hz; cases hz; exact HV.out
            · exact HT.out j z0 z1 (by omega) hz
          case measure => simp [intOf]; omega
      · have hkf : decide ((k : Int) < (n : Int)) = false := decide_eq_false (by omega)
        have HE : Hid (0 = hs v l) := hid (by rw [e1.out, cn_absent (fun j x0 x1 hj => HT.out j x0 x1 (by have := (List.getElem?_eq_some_iff.1 hj).1; have := EL.out; omega) hj)])
        go_wp2_with (go_at_call 59; refine (rgood_m _ n c l true _ (HL.out.below BW.out) HK.out HG).mono ?_; rintro e w1 ⟨rfl, hb1⟩; have B1 := hid (bt BW.out hb1); clear hb1)
        go_ret
        exact ⟨ret_int HE.out, B1.out⟩

end Go.Proofs.Ytjkkajhjcinalaa

/-
  -
  -
  -
  -
  -
  -
  -
  -
  -
  Conditions: as each theorem states them.
-/
import Derived.Test.YtjkkajhjcinalaaQAB
namespace Go.Proofs.Ytjkkajhjcinalaa
open Go.ChangeShapes Go.WideShapes Go.ChangeAt Go.RowKit
set_option linter.unusedVariables false
set_option linter.unusedSimpArgs false
set_option maxRecDepth 100000

/-- All together, or 0 of what may not be. -/
def tl (l : List Rn) : Int := if gd l then tot l else 0
theorem tl_yes {l : List Rn} (h : Bag l) : tl l = tot l := by unfold tl; rw [gd_yes h]; rfl
theorem tl_no {l : List Rn} (h : ¬ Bag l) : tl l = 0 := by unfold tl; rw [gd_no h]; rfl
theorem ret_no {l : List Rn} (h : ¬ Bag l) : Ending.returned (.tuple #[.int .i64 0, .bool false]) = .returned (.tuple #[.int .i64 (tl l), .bool (gd l)]) := by rw [tl_no h, gd_no h]
theorem ret_yes {l : List Rn} {T : Int} (h : Bag l) (e : tot l = T) : Ending.returned (.tuple #[.int .i64 T, .bool true]) = .returned (.tuple #[.int .i64 (tl l), .bool (gd l)]) := by rw [tl_yes h, gd_yes h, e]
theorem bag_no1 {l : List Rn} {k : Nat} {x0 x1 y0 y1 : Int} (hr : l[k]? = some (x0, x1)) (hq : l[k - 1]? = some (y0, y1)) (hk : 0 < k) (h : x0 ≤ y0) : ¬ Bag l := by
  intro hb
  have := (bag_at hb hr).1 _ hq hk
  simp at this
  omega
theorem bag_no2 {l : List Rn} {k : Nat} {x0 x1 : Int} (hr : l[k]? = some (x0, x1)) (h : x1 < 1) : ¬ Bag l := by
  intro hb
  have := (bag_at hb hr).2.1
  simp at this
  omega
theorem bag_no3 {l : List Rn} {k : Nat} {x0 x1 T : Int} (hr : l[k]? = some (x0, x1)) (hT : tot (l.take k) = T) (h : 1099511627776 - T < x1) : ¬ Bag l := by
  intro hb
  have := (bag_at hb hr).2.2.1
  simp at this
  omega
/-- The way of a loop through a bag. -/
def Bgn (l : List Rn) (k : Nat) (T : Int) : Prop := Bag (l.take k) ∧ tot (l.take k) = T ∧ 0 ≤ T ∧ T ≤ 1099511627776
theorem bgn_0 (l : List Rn) : Bgn l 0 0 := ⟨bag_nil, rfl, Int.le_refl _, by decide⟩
theorem bgn_step {l : List Rn} {k : Nat} {T x0 x1 : Int} (h : Bgn l k T) (hr : l[k]? = some (x0, x1)) (h1 : ∀ y0 y1, l[k - 1]? = some (y0, y1) → 0 < k → y0 < x0) (h2 : 1 ≤ x1) (h3 : x1 ≤ 1099511627776 - T) : Bgn l (k + 1) (T + x1) := by
  obtain ⟨hb, ht, h4, h5⟩ := h
  refine ⟨bag_step hb hr (fun q hq hk => ?_) h2 (by rw [ht]; exact h3), ?_, by omega, by omega⟩
  · obtain ⟨y0, y1⟩ := q; exact h1 y0 y1 hq hk
  · rw [tot_step hr, ht]
theorem bgn_all {l : List Rn} {k : Nat} {T : Int} (h : Bgn l k T) (hk : l.length ≤ k) : Bag l ∧ tot l = T := by
  have h1 := h.1; have h2 := h.2.1
  rw [List.take_of_length_le hk] at h1 h2
  exact ⟨h1, h2⟩

set_option maxHeartbeats 4000000 in
theorem tally_any (a : Option Addr) (n c : Nat) (l : List Rn) (w : World) (hl : NRun w a n c l) (hk : ∀ r ∈ l, nok r) :
    Calls Try.prog 101 #[.slice a n c] w fun e w' => e = .returned (.tuple #[.int .i64 (tl l), .bool (gd l)]) ∧ Below w.heap.size w w' := by
  have HL := hid hl
  have HK := hid hk
  obtain ⟨l1, l2⟩ := hl.lens
  have EL := hid l1
  have B0 := hid (bgn_0 l)
  clear hl hk l1
  go_enter Try.func101, Try.ntmps101
  go_wp2
  go_loopw [4, 9] (fun s i wr => ∃ (k : Nat) (T : Int), k ≤ n ∧ i = .int .i64 k ∧ s = .int .i64 T ∧ Hid (Bgn l k T) ∧ Hid (Below w.heap.size w wr)) (fun _ i _ => n - (intOf i).toNat)
  case atStart => exact ⟨0, 0, by omega, rfl, rfl, B0, hid (Below.refl _ _)⟩
  case round =>
    obtain ⟨k, T, hkn, rfl, rfl, BG, BW⟩ := hrel
    have hk0 : (0 : Int) ≤ (k : Int) := by omega
    have T0 := BG.out.2.2.1
    have T1 := BG.out.2.2.2
    by_cases hlt : k < n
    · have hki : (k : Int) < (n : Int) := by omega
      obtain ⟨b, off, x0, x1, rfl, hb, hr, p0, p1⟩ := HL.out.pick BW.out hlt
      have HR := hid hr
      have hn := HK.out _ (List.mem_of_getElem? hr)
      have X1a := hn.2.1
      have X1b := hn.2.2
      have hbw : b < wr.heap.size := Nat.lt_of_lt_of_le hb BW.out.size
      clear hr hn
      simp only at X1a X1b
      by_cases hkp : 0 < k
      · have hg : decide ((0 : Int) < (k : Int)) = true := decide_eq_true (by omega)
        have hgi : (0 : Int) < (k : Int) := by omega
        obtain ⟨j, hj⟩ : ∃ j, k - 1 = j := ⟨_, rfl⟩
        have hjk : (k : Int) - 1 = (j : Int) := by omega
        have hj0 : (0 : Int) ≤ (j : Int) := by omega
        have hjn : (j : Int) < (n : Int) := by omega
        obtain ⟨b', off', y0, y1, e', hb', hq, q0, q1⟩ := HL.out.pick BW.out (k := j) (by omega)
        cases e'
        have HQ := hid hq
        have HJ := hid hj
        have hwj : IntKind.i64.wrap ((k : Int) - 1) = (j : Int) := by rw [hjk]; exact IntWalk.i64_in _ (by omega)
        clear hq hj q1
        have n0 := ((bcell (b1alloc wr (.cells #[.int .i64 x0, .int .i64 x1] 65))).1 b (off + j * 2) hbw).trans q0
        by_cases hA : x0 ≤ y0
        · have hAd : decide (x0 ≤ y0) = true := decide_eq_true hA
          go_wp2
          all_goals (try go_quiet (fail))
          all_goals (try go_wp2)
          go_ret2
          exact ⟨ret_no (bag_no1 HR.out (HJ.out ▸ HQ.out) hkp hA), bdrewN (bt BW.out (b1alloc _ _))⟩
        · have hAd : decide (x0 ≤ y0) = false := decide_eq_false hA
          by_cases hB : x1 < 1
          · have hBd : decide (x1 < 1) = true := decide_eq_true hB
            go_wp2
            all_goals (try go_quiet (fail))
            all_goals (try go_wp2)
            go_ret2
            exact ⟨ret_no (bag_no2 HR.out hB), bdrewN (bt BW.out (b1alloc _ _))⟩
          · have hBd : decide (x1 < 1) = false := decide_eq_false hB
            by_cases hC : 1099511627776 - T < x1
            · have hCd : decide (1099511627776 - T < x1) = true := decide_eq_true hC
              go_wp2
              all_goals (try go_quiet (fail))
              all_goals (try go_wp2)
              go_ret2
              exact ⟨ret_no (bag_no3 HR.out BG.out.2.1 hC), bdrewN (bt BW.out (b1alloc _ _))⟩
            · have hCd : decide (1099511627776 - T < x1) = false := decide_eq_false hC
              go_wp2
              all_goals (try go_quiet (fail))
              all_goals (try go_wp2)
              go_roundw
              case rel => exact ⟨k + 1, T + x1, by omega, by go_num, rfl, hid (bgn_step BG.out HR.out (fun z0 z1 hz _ => by rw [HJ.out, HQ.out] at hz; cases hz; omega) (by omega) (by omega)), hid (bdrewN (bt BW.out (b1alloc _ _)))⟩
              case measure => simp [intOf]; omega
      · have hg : decide ((0 : Int) < (k : Int)) = false := decide_eq_false (by omega)
        by_cases hB : x1 < 1
        · have hBd : decide (x1 < 1) = true := decide_eq_true hB
          go_wp2
          all_goals (try go_quiet (fail))
          all_goals (try go_wp2)
          go_ret2
          exact ⟨ret_no (bag_no2 HR.out hB), bdrewN (bt BW.out (b1alloc _ _))⟩
        · have hBd : decide (x1 < 1) = false := decide_eq_false hB
          by_cases hC : 1099511627776 - T < x1
          · have hCd : decide (1099511627776 - T < x1) = true := decide_eq_true hC
            go_wp2
            all_goals (try go_quiet (fail))
            all_goals (try go_wp2)
            go_ret2
            exact ⟨ret_no (bag_no3 HR.out BG.out.2.1 hC), bdrewN (bt BW.out (b1alloc _ _))⟩
          · have hCd : decide (1099511627776 - T < x1) = false := decide_eq_false hC
            go_wp2
            all_goals (try go_quiet (fail))
            all_goals (try go_wp2)
            go_roundw
            case rel => exact ⟨k + 1, T + x1, by omega, by go_num, rfl, hid (bgn_step BG.out HR.out (fun z0 z1 hz hp => absurd hp hkp) (by omega) (by omega)), hid (bdrewN (bt BW.out (b1alloc _ _)))⟩
            case measure => simp [intOf]; omega
    · have hkf : decide ((k : Int) < (n : Int)) = false := decide_eq_false (by omega)
      obtain ⟨hbag, htot⟩ := bgn_all BG.out (by have := EL.out; omega)
      have HB := hid hbag
      have HT := hid htot
      clear hbag htot
      go_wp2
      go_ret2
      exact ⟨ret_yes HB.out HT.out, BW.out⟩

end Go.Proofs.Ytjkkajhjcinalaa

namespace Go.Proofs.Ytjkkajhjcinalaa
open Go.ChangeShapes Go.WideShapes Go.ChangeAt Go.RowKit
set_option linter.unusedVariables false
set_option linter.unusedSimpArgs false
set_option maxRecDepth 100000

theorem tally_m (a : Option Addr) (n c : Nat) (l : List Rn) (T : Int) (v : Bool) (w : World) (hl : NRun w a n c l) (hk : ∀ r ∈ l, nok r) (hT : Hid (tl l = T)) (hv : Hid (gd l = v)) :
    Calls Try.prog 101 #[.slice a n c] w fun e w' => e = .returned (.tuple #[.int .i64 T, .bool v]) ∧ Below w.heap.size w w' := by
  have := tally_any a n c l w hl hk
  rw [hT.out, hv.out] at this
  exact this
set_option maxHeartbeats 1000000 in
theorem good_m (a : Option Addr) (n c : Nat) (l : List Rn) (v : Bool) (w : World) (hl : NRun w a n c l) (hk : ∀ r ∈ l, nok r) (hv : Hid (gd l = v)) :
    Calls Try.prog 100 #[.slice a n c] w fun e w' => e = .returned (.bool v) ∧ Below w.heap.size w w' := by
  have HL := hid hl
  have HK := hid hk
  have hT : Hid (tl l = tl l) := rfl
  generalize tl l = T at hT
  clear hl hk
  go_enter Try.func100, Try.ntmps100
  go_wp2_with (go_at_call 101; refine (tally_m a n c l _ v _ HL.out HK.out (hid rfl) hv).mono ?_; rintro e w1 ⟨rfl, hb1⟩)
  go_ret
  exact ⟨rfl, hb1⟩
set_option maxHeartbeats 1000000 in
theorem count_m (a : Option Addr) (n c : Nat) (l : List Rn) (T : Int) (w : World) (hl : NRun w a n c l) (hk : ∀ r ∈ l, nok r) (hT : Hid (tl l = T)) :
    Calls Try.prog 96 #[.slice a n c] w fun e w' => e = .returned (.int .i64 T) ∧ Below w.heap.size w w' := by
  have HL := hid hl
  have HK := hid hk
  clear hl hk
  go_enter Try.func96, Try.ntmps96
  go_wp2_with (go_at_call 101; refine (tally_m a n c l T _ _ HL.out HK.out hT (hid rfl)).mono ?_; rintro e w1 ⟨rfl, hb1⟩)
  go_ret
  exact ⟨rfl, hb1⟩
/-- The least, the greatest value, or 0. -/
def lst (l : List Rn) : Int := if gd l then (l.headD (0, 0)).1 else 0
def gst (l : List Rn) : Int := if gd l then (l.getLastD (0, 0)).1 else 0
def hasE (l : List Rn) : Bool := gd l && !l.isEmpty
theorem lst_at {l : List Rn} {x0 x1 : Int} (h : gd l = true) (hr : l[0]? = some (x0, x1)) : lst l = x0 ∧ hasE l = true := by
  unfold lst hasE
  cases l with
  | nil => simp at hr
  | cons q l => simp at hr; subst hr; rw [h]; exact ⟨rfl, rfl⟩
theorem gst_at {l : List Rn} {k : Nat} {x0 x1 : Int} (h : gd l = true) (hk : l.length = k + 1) (hr : l[k]? = some (x0, x1)) : gst l = x0 := by
  unfold gst
  rw [h]
  have hl := (List.getElem?_eq_some_iff.1 hr).1
  have : l.getLastD (0, 0) = (x0, x1) := by
    rw [List.getLastD_eq_getLast?, List.getLast?_eq_getElem?, hk, Nat.add_sub_cancel, hr]; rfl
  rw [this]; rfl
theorem ends_no {l : List Rn} (h : gd l = false) : lst l = 0 ∧ gst l = 0 ∧ hasE l = false := by
  unfold lst gst hasE
  rw [h]
  exact ⟨rfl, rfl, rfl⟩
theorem ends_nil : lst [] = 0 ∧ gst [] = 0 ∧ hasE [] = false := by
  have h : gd [] = true := gd_yes bag_nil
  unfold lst gst hasE
  rw [h]
  exact ⟨rfl, rfl, rfl⟩

set_option maxHeartbeats 1000000 in
theorem least_any (a : Option Addr) (n c : Nat) (l : List Rn) (w : World) (hl : NRun w a n c l) (hk : ∀ r ∈ l, nok r) :
    Calls Try.prog 63 #[.slice a n c] w fun e w' => e = .returned (.tuple #[.int .i64 (lst l), .bool (hasE l)]) ∧ Below w.heap.size w w' := by
  have HL := hid hl
  have HK := hid hk
  obtain ⟨l1, l2⟩ := hl.lens
  have EL := hid l1
  clear hl hk l1
  by_cases h0 : n = 0
  · subst h0
    have hy : l = [] := List.length_eq_zero_iff.mp EL.out.symm
    subst hy
    rw [ends_nil.1, ends_nil.2.2]
    go_enter Try.func63, Try.ntmps63
    go_wp2
    go_ret2
    exact ⟨rfl, Below.refl _ _⟩
  · have hn0 : ((n : Int) == 0) = false := by simp; omega
    have h0n : (0 : Int) < (n : Int) := by omega
    cases hg : gd l with
    | false =>
      obtain ⟨e1, _, e3⟩ := ends_no hg
      rw [e1, e3]
      have HG := hid hg
      clear hg e1 e3
      go_enter Try.func63, Try.ntmps63
      go_wp2_with (go_at_call 100; refine (good_m a n c l false _ HL.out HK.out HG).mono ?_; rintro e w1 ⟨rfl, hb1⟩)
      go_ret2
      exact ⟨rfl, hb1⟩
    | true =>
      obtain ⟨b, off, x0, x1, rfl, hb, hr, p0, p1⟩ := HL.out.pick (Below.refl _ w) (k := 0) (by omega)
      obtain ⟨e1, e3⟩ := lst_at hg hr
      rw [e1, e3]
      have HG := hid hg
      clear hg e1 e3 hr
      simp only [Nat.zero_mul, Nat.add_zero] at p0 p1
      go_enter Try.func63, Try.ntmps63
      go_wp2_with (go_at_call 100; refine (good_m _ n c l true _ HL.out HK.out HG).mono ?_; rintro e w1 ⟨rfl, hb1⟩; have q0 := ((bcell hb1).1 _ _ hb).trans p0)
      go_ret2
      exact ⟨rfl, hb1⟩
set_option maxHeartbeats 1000000 in
theorem greatest_any (a : Option Addr) (n c : Nat) (l : List Rn) (w : World) (hl : NRun w a n c l) (hk : ∀ r ∈ l, nok r) :
    Calls Try.prog 64 #[.slice a n c] w fun e w' => e = .returned (.tuple #[.int .i64 (gst l), .bool (hasE l)]) ∧ Below w.heap.size w w' := by
  have HL := hid hl
  have HK := hid hk
  obtain ⟨l1, l2⟩ := hl.lens
  have EL := hid l1
  clear hl hk l1
  by_cases h0 : n = 0
  · subst h0
    have hy : l = [] := List.length_eq_zero_iff.mp EL.out.symm
    subst hy
    rw [ends_nil.2.1, ends_nil.2.2]
    go_enter Try.func64, Try.ntmps64
    go_wp2
    go_ret2
    exact ⟨rfl, Below.refl _ _⟩
  · have hn0 : ((n : Int) == 0) = false := by simp; omega
    have h0n : (0 : Int) < (n : Int) := by omega
    obtain ⟨j, hj⟩ : ∃ j, n - 1 = j := ⟨_, rfl⟩
    have hjk : (n : Int) - 1 = (j : Int) := by omega
    have hj0 : (0 : Int) ≤ (j : Int) := by omega
    have hjn : (j : Int) < (n : Int) := by omega
    have hwj : IntKind.i64.wrap ((n : Int) - 1) = (j : Int) := by rw [hjk]; exact IntWalk.i64_in _ (by omega)
    cases hg : gd l with
    | false =>
      obtain ⟨_, e1, e3⟩ := ends_no hg
      rw [e1, e3]
      have HG := hid hg
      clear hg e1 e3
      go_enter Try.func64, Try.ntmps64
      go_wp2_with (go_at_call 100; refine (good_m a n c l false _ HL.out HK.out HG).mono ?_; rintro e w1 ⟨rfl, hb1⟩)
      go_ret2
      exact ⟨rfl, hb1⟩
    | true =>
      obtain ⟨b, off, x0, x1, rfl, hb, hr, p0, p1⟩ := HL.out.pick (Below.refl _ w) (k := j) (by omega)
      obtain ⟨b', off', z0, z1, e', _, hr0, _, _⟩ := HL.out.pick (Below.refl _ w) (k := 0) (by omega)
      clear e'
      have e1 := gst_at hg (by have := EL.out; omega) hr
      have e3 := (lst_at hg hr0).2
      rw [e1, e3]
      have HG := hid hg
      clear hg e1 e3 hr hr0 hj
      go_enter Try.func64, Try.ntmps64
      go_wp2_with (go_at_call 100; refine (good_m _ n c l true _ HL.out HK.out HG).mono ?_; rintro e w1 ⟨rfl, hb1⟩; have q0 := ((bcell hb1).1 _ _ hb).trans p0)
      go_ret2
      exact ⟨rfl, hb1⟩

end Go.Proofs.Ytjkkajhjcinalaa

namespace Go.Proofs.Ytjkkajhjcinalaa
open Go.ChangeShapes Go.WideShapes Go.ChangeAt Go.RowKit
set_option linter.unusedVariables false
set_option linter.unusedSimpArgs false
set_option maxRecDepth 100000

set_option maxHeartbeats 4000000 in
theorem rgood_any (a : Option Addr) (n c : Nat) (l : List Rn) (w : World) (hl : NRun w a n c l) (hk : ∀ r ∈ l, nok r) :
    Calls Try.prog 59 #[.slice a n c] w fun e w' => e = .returned (.bool (gd l)) ∧ Below w.heap.size w w' := by
  have HL := hid hl
  have HK := hid hk
  obtain ⟨l1, l2⟩ := hl.lens
  have EL := hid l1
  have B0 := hid (bgn_0 l)
  clear hl hk l1
  go_enter Try.func59, Try.ntmps59
  go_wp2
  go_loopw [3, 4] (fun s i wr => ∃ (k : Nat) (T : Int), k ≤ n ∧ i = .int .i64 k ∧ s = .int .i64 T ∧ Hid (Bgn l k T) ∧ Hid (Below w.heap.size w wr)) (fun _ i _ => n - (intOf i).toNat)
  case atStart => exact ⟨0, 0, by omega, rfl, rfl, B0, hid (Below.refl _ _)⟩
  case round =>
    obtain ⟨k, T, hkn, rfl, rfl, BG, BW⟩ := hrel
    have hk0 : (0 : Int) ≤ (k : Int) := by omega
    have T0 := BG.out.2.2.1
    have T1 := BG.out.2.2.2
    by_cases hlt : k < n
    · have hki : (k : Int) < (n : Int) := by omega
      obtain ⟨b, off, x0, x1, rfl, hb, hr, p0, p1⟩ := HL.out.pick BW.out hlt
      have HR := hid hr
      have hn := HK.out _ (List.mem_of_getElem? hr)
      have X1a := hn.2.1
      have X1b := hn.2.2
      have hbw : b < wr.heap.size := Nat.lt_of_lt_of_le hb BW.out.size
      clear hr hn
      simp only at X1a X1b
      by_cases hkp : 0 < k
      · have hg : decide ((0 : Int) < (k : Int)) = true := decide_eq_true (by omega)
        have hgi : (0 : Int) < (k : Int) := by omega
        obtain ⟨j, hj⟩ : ∃ j, k - 1 = j := ⟨_, rfl⟩
        have hjk : (k : Int) - 1 = (j : Int) := by omega
        have hj0 : (0 : Int) ≤ (j : Int) := by omega
        have hjn : (j : Int) < (n : Int) := by omega
        obtain ⟨b', off', y0, y1, e', hb', hq, q0, q1⟩ := HL.out.pick BW.out (k := j) (by omega)
        cases e'
        have HQ := hid hq
        have HJ := hid hj
        have hwj : IntKind.i64.wrap ((k : Int) - 1) = (j : Int) := by rw [hjk]; exact IntWalk.i64_in _ (by omega)
        clear hq hj q1
        by_cases hA : x0 ≤ y0
        · have hAd : decide (x0 ≤ y0) = true := decide_eq_true hA
          go_wp2
          all_goals (try go_quiet (fail))
          all_goals (try go_wp2)
          go_ret
          exact ⟨ret_bool (gd_no (bag_no1 HR.out (HJ.out ▸ HQ.out) hkp hA)).symm, bdrewN BW.out⟩
        · have hAd : decide (x0 ≤ y0) = false := decide_eq_false hA
          by_cases hB : x1 < 1
          · have hBd : decide (x1 < 1) = true := decide_eq_true hB
            go_wp2
            all_goals (try go_quiet (fail))
            all_goals (try go_wp2)
            go_ret
            exact ⟨ret_bool (gd_no (bag_no2 HR.out hB)).symm, bdrewN BW.out⟩
          · have hBd : decide (x1 < 1) = false := decide_eq_false hB
            by_cases hC : 1099511627776 - T < x1
            · have hCd : decide (1099511627776 - T < x1) = true := decide_eq_true hC
              go_wp2
              all_goals (try go_quiet (fail))
              all_goals (try go_wp2)
              go_ret
              exact ⟨ret_bool (gd_no (bag_no3 HR.out BG.out.2.1 hC)).symm, bdrewN BW.out⟩
            · have hCd : decide (1099511627776 - T < x1) = false := decide_eq_false hC
              go_wp2
              all_goals (try go_quiet (fail))
              all_goals (try go_wp2)
              go_roundw
              case rel => exact ⟨k + 1, T + x1, by omega, by go_num, rfl, hid (bgn_step BG.out HR.out (fun z0 z1 hz _ => by rw [HJ.out, HQ.out] at hz; cases hz; omega) (by omega) (by omega)), hid (bdrewN BW.out)⟩
              case measure => simp [intOf]; omega
      · have hg : decide ((0 : Int) < (k : Int)) = false := decide_eq_false (by omega)
        by_cases hB : x1 < 1
        · have hBd : decide (x1 < 1) = true := decide_eq_true hB
          go_wp2
          all_goals (try go_quiet (fail))
          all_goals (try go_wp2)
          go_ret
          exact ⟨ret_bool (gd_no (bag_no2 HR.out hB)).symm, bdrewN BW.out⟩
        · have hBd : decide (x1 < 1) = false := decide_eq_false hB
          by_cases hC : 1099511627776 - T < x1
          · have hCd : decide (1099511627776 - T < x1) = true := decide_eq_true hC
            go_wp2
            all_goals (try go_quiet (fail))
            all_goals (try go_wp2)
            go_ret
            exact ⟨ret_bool (gd_no (bag_no3 HR.out BG.out.2.1 hC)).symm, bdrewN BW.out⟩
          · have hCd : decide (1099511627776 - T < x1) = false := decide_eq_false hC
            go_wp2
            all_goals (try go_quiet (fail))
            all_goals (try go_wp2)
            go_roundw
            case rel => exact ⟨k + 1, T + x1, by omega, by go_num, rfl, hid (bgn_step BG.out HR.out (fun z0 z1 hz hp => absurd hp hkp) (by omega) (by omega)), hid (bdrewN BW.out)⟩
            case measure => simp [intOf]; omega
    · have hkf : decide ((k : Int) < (n : Int)) = false := decide_eq_false (by omega)
      obtain ⟨hbag, htot⟩ := bgn_all BG.out (by have := EL.out; omega)
      have HB := hid hbag
      clear hbag htot
      go_wp2
      go_ret
      exact ⟨ret_bool (gd_yes HB.out).symm, BW.out⟩
theorem rgood_m (a : Option Addr) (n c : Nat) (l : List Rn) (v : Bool) (w : World) (hl : NRun w a n c l) (hk : ∀ r ∈ l, nok r) (hv : Hid (gd l = v)) :
    Calls Try.prog 59 #[.slice a n c] w fun e w' => e = .returned (.bool v) ∧ Below w.heap.size w w' := by
  have := rgood_any a n c l w hl hk
  rw [hv.out] at this
  exact this

set_option maxHeartbeats 2000000 in
theorem rcount_any (a : Option Addr) (n c : Nat) (l : List Rn) (w : World) (hl : NRun w a n c l) (hk : ∀ r ∈ l, nok r) :
    Calls Try.prog 60 #[.slice a n c] w fun e w' => e = .returned (.int .i64 (tl l)) ∧ Below w.heap.size w w' := by
  have HL := hid hl
  have HK := hid hk
  obtain ⟨l1, l2⟩ := hl.lens
  have EL := hid l1
  clear hl hk l1
  cases hg : gd l with
  | false =>
    have e1 : tl l = 0 := by unfold tl; rw [hg]; rfl
    rw [e1]
    have HG := hid hg
    clear hg e1
    go_enter Try.func60, Try.ntmps60
    go_wp2
    refine wp_loop_rounds 1 ?_
    rw [rounds_succ]
    go_wp2_with (go_at_call 59; refine (rgood_m a n c l false _ HL.out HK.out HG).mono ?_; rintro e w1 ⟨rfl, hb1⟩)
    go_ret
    exact ⟨rfl, hb1⟩
  | true =>
    have hbag := gd_iff.1 hg
    have HB := hid hbag
    have e1 := hid (tl_yes hbag)
    have HG := hid hg
    clear hg hbag
    go_enter Try.func60, Try.ntmps60
    go_wp2
    go_loopw [3, 4] (fun s i wr => ∃ (k : Nat) (T : Int), k ≤ n ∧ i = .int .i64 k ∧ s = .int .i64 T ∧ Hid (tot (l.take k) = T) ∧ Hid (Below w.heap.size w wr)) (fun _ i _ => n - (intOf i).toNat)
    case atStart => exact ⟨0, 0, by omega, rfl, rfl, hid rfl, hid (Below.refl _ _)⟩
    case round =>
      obtain ⟨k, T, hkn, rfl, rfl, HT, BW⟩ := hrel
      have hk0 : (0 : Int) ≤ (k : Int) := by omega
      by_cases hlt : k < n
      · have hki : (k : Int) < (n : Int) := by omega
        obtain ⟨b, off, x0, x1, rfl, hb, hr, p0, p1⟩ := HL.out.pick BW.out hlt
        have HR := hid hr
        have hat := bag_at HB.out hr
        rw [HT.out] at hat
        have X1 := hat.2.1
        have X2 := hat.2.2.1
        have X3 := hat.2.2.2.1
        have hbw : b < wr.heap.size := Nat.lt_of_lt_of_le hb BW.out.size
        clear hr hat
        simp only at X1 X2
        go_wp2_with (go_at_call 59; refine (rgood_m _ n c l true _ (HL.out.below BW.out) HK.out HG).mono ?_; rintro e w1 ⟨rfl, hb1⟩; have B1 := hid (bt BW.out hb1); have q1 := ((bcell hb1).1 _ _ hbw).trans p1; clear hb1)
        go_roundw
        case rel => exact ⟨k + 1, T + x1, by omega, by go_num, rfl, hid (by rw [tot_step HR.out, HT.out]), B1⟩
        case measure => simp [intOf]; omega
      · have hkf : decide ((k : Int) < (n : Int)) = false := decide_eq_false (by omega)
        have HE : Hid (T = tl l) := hid (by rw [e1.out, ← HT.out, List.take_of_length_le (by have := EL.out; omega)])
        go_wp2_with (go_at_call 59; refine (rgood_m _ n c l true _ (HL.out.below BW.out) HK.out HG).mono ?_; rintro e w1 ⟨rfl, hb1⟩; have B1 := hid (bt BW.out hb1); clear hb1)
        go_ret
        exact ⟨ret_int HE.out, B1.out⟩
/-- How often, or 0 of what may not be. -/
def hs (v : Int) (l : List Rn) : Int := if gd l then cn v l else 0
end Go.Proofs.Ytjkkajhjcinalaa

namespace Go.Proofs.Ytjkkajhjcinalaa
open Go.ChangeShapes Go.WideShapes Go.ChangeAt Go.RowKit
set_option linter.unusedVariables false
set_option linter.unusedSimpArgs false
set_option maxRecDepth 100000

def sm (l u : List Rn) : Bool := decide (l = u)
theorem sm_yes {l u : List Rn} (h : l = u) : sm l u = true := by unfold sm; rw [decide_eq_true_iff]; exact h
theorem sm_no {l u : List Rn} (h : ¬ l = u) : sm l u = false := by unfold sm; rw [decide_eq_false_iff_not]; exact h
theorem sm_at {l u : List Rn} {k : Nat} {x0 x1 y0 y1 : Int} (hr : l[k]? = some (x0, x1)) (hr' : u[k]? = some (y0, y1)) (h : ¬ (x0 = y0 ∧ x1 = y1)) : sm l u = false :=
  sm_no (fun e => by rw [e, hr'] at hr; cases hr; exact h ⟨rfl, rfl⟩)
set_option maxHeartbeats 2000000 in
theorem rsame_any (a1 a2 : Option Addr) (n c m d : Nat) (l u : List Rn) (w : World) (hl : NRun w a1 n c l) (hu : NRun w a2 m d u) :
    Calls Try.prog 57 #[.slice a1 n c, .slice a2 m d] w fun e w' => e = .returned (.bool (sm l u)) ∧ Below w.heap.size w w' := by
  have HL := hid hl
  have HU := hid hu
  obtain ⟨l1, l2⟩ := hl.lens
  obtain ⟨u1, u2⟩ := hu.lens
  have EL := hid l1
  have EU := hid u1
  have eqn := eqN2
  clear hl hu l1 u1
  by_cases hnm : n = m
  · subst hnm
    go_enter Try.func57, Try.ntmps57
    go_wp2
    go_loopw [5] (fun i wr => ∃ (k : Nat), k ≤ n ∧ i = .int .i64 k ∧ Hid (l.take k = u.take k) ∧ Hid (Below w.heap.size w wr)) (fun i _ => n - (intOf i).toNat)
    case atStart => exact ⟨0, by omega, rfl, hid rfl, hid (Below.refl _ _)⟩
    case round =>
      obtain ⟨k, hkn, rfl, HS, BW⟩ := hrel
      have hk0 : (0 : Int) ≤ (k : Int) := by omega
      by_cases hlt : k < n
      · have hki : (k : Int) < (n : Int) := by omega
        obtain ⟨b, off, x0, x1, rfl, hb, hr, p0, p1⟩ := HL.out.pick BW.out hlt
        obtain ⟨b', off', y0, y1, rfl, hb', hr', q0, q1⟩ := HU.out.pick BW.out hlt
        have HR := hid hr
        have HR' := hid hr'
        clear hr hr'
        by_cases he : x0 = y0 ∧ x1 = y1
        · obtain ⟨rfl, rfl⟩ := he
          have qxx : qn x0 x1 x0 x1 = true := qn_iff.2 ⟨rfl, rfl⟩
          go_wp2
          go_quiet (fail)
          go_wp2
          go_roundw
          case rel => exact ⟨k + 1, by omega, by go_num, hid (by rw [take_one HR.out, take_one HR'.out, HS.out]), hid (bdrewN BW.out)⟩
          case measure => simp [intOf]; omega
        · have qxx : qn x0 x1 y0 y1 = false := by
            cases h : qn x0 x1 y0 y1 with
            | false => rfl
            | true => exact absurd (qn_iff.1 h) he
          have HE := hid he
          clear he
          go_wp2
          go_quiet (fail)
          go_wp2
          go_ret
          exact ⟨ret_bool (sm_at HR.out HR'.out HE.out).symm, bdrewN BW.out⟩
      · have hkf : decide ((k : Int) < (n : Int)) = false := decide_eq_false (by omega)
        have HF : Hid (sm l u = true) := hid (sm_yes (by have h := HS.out; rw [List.take_of_length_le (by have := EL.out; omega), List.take_of_length_le (by have := EU.out; omega)] at h; exact h))
        go_wp2
        go_ret
        exact ⟨ret_bool HF.out.symm, BW.out⟩
  · have hnm' : ((n : Int) == (m : Int)) = false := by simp; omega
    have HF : Hid (sm l u = false) := hid (sm_no (fun e => hnm (by rw [EL.out, EU.out, e])))
    go_enter Try.func57, Try.ntmps57
    go_wp2
    go_ret
    exact ⟨ret_bool HF.out.symm, Below.refl _ _⟩
set_option maxHeartbeats 2000000 in
theorem equal_any (a1 a2 : Option Addr) (n c m d : Nat) (l u : List Rn) (w : World) (hl : NRun w a1 n c l) (hu : NRun w a2 m d u) :
    Calls Try.prog 102 #[.slice a1 n c, .slice a2 m d] w fun e w' => e = .returned (.bool (sm l u)) ∧ Below w.heap.size w w' := by
  have HL := hid hl
  have HU := hid hu
  obtain ⟨l1, l2⟩ := hl.lens
  obtain ⟨u1, u2⟩ := hu.lens
  have EL := hid l1
  have EU := hid u1
  have eqn := eqN2
  clear hl hu l1 u1
  by_cases hnm : n = m
  · subst hnm
    go_enter Try.func102, Try.ntmps102
    go_wp2
    go_loopw [13] (fun i wr => ∃ (k : Nat), k ≤ n ∧ i = .int .i64 k ∧ Hid (l.take k = u.take k) ∧ Hid (Below w.heap.size w wr)) (fun i _ => n - (intOf i).toNat)
    case atStart => exact ⟨0, by omega, rfl, hid rfl, hid (Below.refl _ _)⟩
    case round =>
      obtain ⟨k, hkn, rfl, HS, BW⟩ := hrel
      have hk0 : (0 : Int) ≤ (k : Int) := by omega
      by_cases hlt : k < n
      · have hki : (k : Int) < (n : Int) := by omega
        obtain ⟨b, off, x0, x1, rfl, hb, hr, p0, p1⟩ := HL.out.pick BW.out hlt
        obtain ⟨b', off', y0, y1, rfl, hb', hr', q0, q1⟩ := HU.out.pick BW.out hlt
        have HR := hid hr
        have HR' := hid hr'
        clear hr hr'
        by_cases he : x0 = y0 ∧ x1 = y1
        · obtain ⟨rfl, rfl⟩ := he
          have qxx : qn x0 x1 x0 x1 = true := qn_iff.2 ⟨rfl, rfl⟩
          go_wp2
          go_quiet (fail)
          go_wp2
          go_roundw
          case rel => exact ⟨k + 1, by omega, by go_num, hid (by rw [take_one HR.out, take_one HR'.out, HS.out]), hid (bdrewN BW.out)⟩
          case measure => simp [intOf]; omega
        · have qxx : qn x0 x1 y0 y1 = false := by
            cases h : qn x0 x1 y0 y1 with
            | false => rfl
            | true => exact absurd (qn_iff.1 h) he
          have HE := hid he
          clear he
          go_wp2
          go_quiet (fail)
          go_wp2
          go_ret
          exact ⟨ret_bool (sm_at HR.out HR'.out HE.out).symm, bdrewN BW.out⟩
      · have hkf : decide ((k : Int) < (n : Int)) = false := decide_eq_false (by omega)
        have HF : Hid (sm l u = true) := hid (sm_yes (by have h := HS.out; rw [List.take_of_length_le (by have := EL.out; omega), List.take_of_length_le (by have := EU.out; omega)] at h; exact h))
        go_wp2
        go_ret
        exact ⟨ret_bool HF.out.symm, BW.out⟩
  · have hnm' : ((n : Int) == (m : Int)) = false := by simp; omega
    have HF : Hid (sm l u = false) := hid (sm_no (fun e => hnm (by rw [EL.out, EU.out, e])))
    go_enter Try.func102, Try.ntmps102
    go_wp2
    go_ret
    exact ⟨ret_bool HF.out.symm, Below.refl _ _⟩
theorem rsame_m (a1 a2 : Option Addr) (n c m d : Nat) (l u : List Rn) (v : Bool) (w : World) (hl : NRun w a1 n c l) (hu : NRun w a2 m d u) (hv : Hid (sm l u = v)) :
    Calls Try.prog 57 #[.slice a1 n c, .slice a2 m d] w fun e w' => e = .returned (.bool v) ∧ Below w.heap.size w w' := by
  have := rsame_any a1 a2 n c m d l u w hl hu
  rw [hv.out] at this
  exact this
set_option maxHeartbeats 1000000 in
theorem same_m (a1 a2 : Option Addr) (n c m d : Nat) (l u : List Rn) (v : Bool) (w : World) (hl : NRun w a1 n c l) (hu : NRun w a2 m d u) (hv : Hid (sm l u = v)) :
    Calls Try.prog 68 #[.slice a1 n c, .slice a2 m d] w fun e w' => e = .returned (.bool v) ∧ Below w.heap.size w w' := by
  have h := equal_any a1 a2 n c m d l u w hl hu
  rw [hv.out] at h
  go_enter Try.func68, Try.ntmps68
  go_wp2_with (go_at_call 102; refine h.mono ?_; rintro e w1 ⟨rfl, hb1⟩)
  go_ret
  exact ⟨rfl, hb1⟩

end Go.Proofs.Ytjkkajhjcinalaa

namespace Go.Proofs.Ytjkkajhjcinalaa
open Go.ChangeShapes Go.WideShapes Go.ChangeAt Go.RowKit
set_option linter.unusedVariables false
set_option linter.unusedSimpArgs false
set_option maxRecDepth 100000

/-- The way of Lay's loop: what stands there behind so many runs. -/
def LaySt (v n : Int) (l out : List Rn) (k : Nat) (dn : Bool) : Prop :=
  if dn then (∃ r ∈ l.take k, v ≤ r.1) ∧ out = lay v n (l.take k) else (∀ r ∈ l.take k, r.1 < v) ∧ out = l.take k
theorem layst_0 (v n : Int) (l : List Rn) : LaySt v n l [] 0 false := ⟨fun r hr => by simp at hr, rfl⟩
theorem layst_low {v n : Int} {l out : List Rn} {k : Nat} {x0 x1 : Int} (h : LaySt v n l out k false) (hr : l[k]? = some (x0, x1)) (hx : x0 < v) : LaySt v n l (out ++ [(x0, x1)]) (k + 1) false := by
  obtain ⟨h1, h2⟩ := h
  refine ⟨fun r hr' => ?_, by rw [h2, take_one hr]⟩
  rw [take_one hr] at hr'
  rcases List.mem_append.1 hr' with hr' | hr'
  · exact h1 r hr'
  · simp at hr'; subst hr'; exact hx
theorem layst_done {v n : Int} {l out : List Rn} {k : Nat} {x0 x1 : Int} (h : LaySt v n l out k true) (hr : l[k]? = some (x0, x1)) : LaySt v n l (out ++ [(x0, x1)]) (k + 1) true := by
  obtain ⟨⟨r, hr', hv⟩, h2⟩ := h
  refine ⟨⟨r, by rw [take_one hr]; exact List.mem_append_left _ hr', hv⟩, ?_⟩
  rw [take_one hr, lay_snoc ⟨r, hr', hv⟩, h2]
theorem layst_above {v n : Int} {l out : List Rn} {k : Nat} {x0 x1 : Int} (h : LaySt v n l out k false) (hr : l[k]? = some (x0, x1)) (hx : v < x0) : LaySt v n l (out ++ [(v, n)] ++ [(x0, x1)]) (k + 1) true := by
  obtain ⟨h1, h2⟩ := h
  refine ⟨⟨(x0, x1), by rw [take_one hr]; simp, by show v ≤ x0; omega⟩, ?_⟩
  rw [take_one hr, lay_above h1 hx, h2]
theorem layst_here {v n : Int} {l out : List Rn} {k : Nat} {x1 : Int} (h : LaySt v n l out k false) (hr : l[k]? = some (v, x1)) (hz : ¬ x1 + n = 0) : LaySt v n l (out ++ [(v, x1 + n)]) (k + 1) true := by
  obtain ⟨h1, h2⟩ := h
  refine ⟨⟨(v, x1), by rw [take_one hr]; simp, Int.le_refl _⟩, ?_⟩
  rw [take_one hr, lay_here h1 rfl, h2, if_neg hz]
theorem layst_gone {v n : Int} {l out : List Rn} {k : Nat} {x1 : Int} (h : LaySt v n l out k false) (hr : l[k]? = some (v, x1)) (hz : x1 + n = 0) : LaySt v n l out (k + 1) true := by
  obtain ⟨h1, h2⟩ := h
  refine ⟨⟨(v, x1), by rw [take_one hr]; simp, Int.le_refl _⟩, ?_⟩
  rw [take_one hr, lay_here h1 rfl, h2, if_pos hz]
theorem layst_end {v n : Int} {l out : List Rn} {k : Nat} (h : LaySt v n l out k true) (hk : l.length ≤ k) : out = lay v n l := by
  obtain ⟨_, h2⟩ := h
  rw [List.take_of_length_le hk] at h2; exact h2
theorem layst_fin {v n : Int} {l out : List Rn} {k : Nat} (h : LaySt v n l out k false) (hk : l.length ≤ k) : out ++ [(v, n)] = lay v n l := by
  obtain ⟨h1, h2⟩ := h
  rw [List.take_of_length_le hk] at h1 h2
  rw [lay_low h1, h2]
theorem layst_len {v n : Int} {l out : List Rn} {k : Nat} {dn : Bool} (h : LaySt v n l out k dn) (hk : k ≤ l.length) : out.length ≤ k + 1 := by
  cases dn with
  | false => obtain ⟨_, h2⟩ := h; rw [h2, List.length_take]; omega
  | true =>
    obtain ⟨_, h2⟩ := h
    have := lay_len (v := v) (n := n) (l := l.take k)
    rw [List.length_take] at this
    rw [h2]; omega
/-- A row of one's own behind a world. -/
def OwnW (w wr : World) (v : Value) (l : List Rn) : Prop := Below w.heap.size w wr ∧ OwnN wr w.heap.size v l
theorem OwnW.alloc {w wr : World} {v : Value} {l : List Rn} (h : OwnW w wr v l) (o : Obj) : OwnW w (wr.alloc o) v l := ⟨h.1.alloc h.1.size _, h.2.alloc o⟩
theorem OwnW.grown {w wr w' : World} {v v' : Value} {l m : List Rn} (h : OwnW w wr v l) (hg : wr.grownBy w' v.ownBlock) (ho : OwnN w' w.heap.size v' m) : OwnW w w' v' m :=
  ⟨h.1.grown hg h.1.size (fun k hk => (h.2.lt k hk).1), ho⟩

theorem box_kept {wr W w' : World} {base N : Nat} {v : Value} {l : List Rn} {o : Obj} (ho : OwnN wr base v l) (hg : W.grownBy w' v.ownBlock) (h : W.heap[N]? = some o) (hN : wr.heap.size ≤ N) : w'.heap[N]? = some o := by
  rw [hg.block N (heap_lt h) (fun e => by have := (ho.lt N (by first | exact e | exact e.symm)).2; omega)]; exact h

set_option maxHeartbeats 8000000 in
theorem lay_any (a : Option Addr) (m c : Nat) (l : List Rn) (v n : Int) (w : World) (hl : NRun w a m c l) (hz : Nz l) (hb : ∀ r ∈ l, -1099511627776 ≤ r.2 ∧ r.2 ≤ 1099511627776) (hn : -1099511627776 ≤ n ∧ n ≤ 1099511627776) (hm : m ≤ 1000000) :
    Calls Try.prog 52 #[.slice a m c, .int .i64 v, .int .i64 n] w fun e w' => (∃ u, e = .returned u ∧ OwnW w w' u (lay v n l)) := by
  have HL := hid hl
  have HZ := hid hz
  have HB := hid hb
  obtain ⟨l1, l2⟩ := hl.lens
  obtain ⟨n1, n2⟩ := hn
  have EL := hid l1
  clear hl hz hb l1 l2
  go_enter Try.func52, Try.ntmps52
  go_wp2
  go_loopw [7, 8, 9] (fun o d i wr => ∃ (k : Nat) (u : Value) (dn : Bool) (out : List Rn), k ≤ m ∧ i = .int .i64 k ∧ d = .bool dn ∧ u = o ∧ Hid (LaySt v n l out k dn) ∧ Hid (OwnW w wr u out)) (fun _ _ i _ => m - (intOf i).toNat)
  case atStart => exact ⟨0, _, false, [], by omega, rfl, rfl, rfl, layst_0 v n l, hid ⟨Below.refl _ _, own_nil _ _⟩⟩
  case round =>
    obtain ⟨k, u, dn, out, hkm, rfl, rfl, rfl, LS, OW⟩ := hrel
    have hk0 : (0 : Int) ≤ (k : Int) := by omega
    have hol : out.length ≤ k + 1 := layst_len LS.out (by have := EL.out; omega)
    by_cases hlt : k < m
    · have hki : (k : Int) < (m : Int) := by omega
      obtain ⟨b, off, x0, x1, rfl, hbb, hr, p0, p1⟩ := HL.out.pick OW.out.1 hlt
      have HR := hid hr
      have hx1 := HB.out _ (List.mem_of_getElem? hr)
      have hx2 := HZ.out _ (List.mem_of_getElem? hr)
      simp only at hx1 hx2
      obtain ⟨X1, X2⟩ := hx1
      clear hr
      cases dn with
      | true =>
        have hz : (x1 == 0) = false := by simpa using hx2
        have hz2 : (x1 != 0) = true := by simpa using hx2
        clear hx2
        go_wp2_with (at_builtin; refine append_run rfl (.tmp 47) (.tmp 49) rfl w.heap.size u out _ x0 x1 rfl ((OW.out.alloc (.cells #[.int .i64 x0, .int .i64 x1] 65)).alloc (.cells #[.int .i64 x0, .int .i64 x1] 65)).2 rfl (hnew (by simp)) (by (try simp only [List.length_append, List.length_cons, List.length_nil]); omega) (by have := ((OW.out.alloc (.cells #[.int .i64 x0, .int .i64 x1] 65)).alloc (.cells #[.int .i64 x0, .int .i64 x1] 65)).1.size; omega) ?_; intro u1 w1 ho1 hg1; have O1 := hid (OwnW.grown ((OW.out.alloc (.cells #[.int .i64 x0, .int .i64 x1] 65)).alloc (.cells #[.int .i64 x0, .int .i64 x1] 65)) hg1 ho1); clear ho1 hg1)
        go_roundw
        case rel => exact ⟨k + 1, u1, true, _, by omega, by go_num, rfl, rfl, hid (layst_done LS.out HR.out), O1⟩
        case measure => simp [intOf]; omega
      | false =>
        by_cases hlow : x0 < v
        · have hd : decide (v ≤ x0) = false := decide_eq_false (by omega)
          have hz : (x1 == 0) = false := by simpa using hx2
          have hz2 : (x1 != 0) = true := by simpa using hx2
          have HV := hid hlow
          clear hx2 hlow
          go_wp2_with (at_builtin; refine append_run rfl (.tmp 47) (.tmp 49) rfl w.heap.size u out _ x0 x1 rfl ((OW.out.alloc (.cells #[.int .i64 x0, .int .i64 x1] 65)).alloc (.cells #[.int .i64 x0, .int .i64 x1] 65)).2 rfl (hnew (by simp)) (by (try simp only [List.length_append, List.length_cons, List.length_nil]); omega) (by have := ((OW.out.alloc (.cells #[.int .i64 x0, .int .i64 x1] 65)).alloc (.cells #[.int .i64 x0, .int .i64 x1] 65)).1.size; omega) ?_; intro u1 w1 ho1 hg1; have O1 := hid (OwnW.grown ((OW.out.alloc (.cells #[.int .i64 x0, .int .i64 x1] 65)).alloc (.cells #[.int .i64 x0, .int .i64 x1] 65)) hg1 ho1); clear ho1 hg1)
          go_roundw
          case rel => exact ⟨k + 1, u1, false, _, by omega, by go_num, rfl, rfl, hid (layst_low LS.out HR.out HV.out), O1⟩
          case measure => simp [intOf]; omega
        · have hd : decide (v ≤ x0) = true := decide_eq_true (by omega)
          by_cases hup : v < x0
          · have hd2 : decide (v < x0) = true := decide_eq_true hup
            have hz : (x1 == 0) = false := by simpa using hx2
            have hz2 : (x1 != 0) = true := by simpa using hx2
            have HV := hid hup
            clear hx2 hlow hup
            go_wp2_with (first
              | (at_builtin; refine append_run rfl (.tmp 33) (.tmp 37) rfl w.heap.size u out _ v n rfl ((OW.out.alloc (.cells #[.int .i64 x0, .int .i64 x1] 65)).alloc (.cells #[.int .i64 v, .int .i64 n] 65)).2 rfl (hnew (by simp)) (by (try simp only [List.length_append, List.length_cons, List.length_nil]); omega) (by have := ((OW.out.alloc (.cells #[.int .i64 x0, .int .i64 x1] 65)).alloc (.cells #[.int .i64 v, .int .i64 n] 65)).1.size; omega) ?_; intro u1 w1 ho1 hg1; have O1 := hid (OwnW.grown ((OW.out.alloc (.cells #[.int .i64 x0, .int .i64 x1] 65)).alloc (.cells #[.int .i64 v, .int .i64 n] 65)) hg1 ho1); have K1 := hid (box_kept (OW.out.2) hg1 (by rw [Below.heap_alloc _ _ _ (by simp)]; exact hnew rfl) (Nat.le_refl wr.heap.size)); obtain ⟨c0, c1⟩ := box_two K1.out; clear ho1 hg1)
              | (at_builtin; refine append_run rfl (.tmp 47) (.tmp 49) rfl w.heap.size u1 (out ++ [(v, n)]) _ x0 x1 rfl (O1.out.alloc (.cells #[.int .i64 x0, .int .i64 x1] 65)).2 rfl (hnew (by simp)) (by (try simp only [List.length_append, List.length_cons, List.length_nil]); omega) (by have := (O1.out.alloc (.cells #[.int .i64 x0, .int .i64 x1] 65)).1.size; omega) ?_; intro u2 w2 ho2 hg2; have O2 := hid (OwnW.grown (O1.out.alloc (.cells #[.int .i64 x0, .int .i64 x1] 65)) hg2 ho2); clear ho2 hg2))
            go_roundw
            case rel => exact ⟨k + 1, u2, true, _, by omega, by go_num, rfl, rfl, hid (layst_above LS.out HR.out HV.out), O2⟩
            case measure => simp [intOf]; omega
          · have hd2 : decide (v < x0) = false := decide_eq_false hup
            obtain rfl : x0 = v := by omega
            clear hlow hup hx2
            by_cases hs : x1 + n = 0
            · have hz : (x1 + n == 0) = true := by simpa using hs
              have hz2 : (x1 + n != 0) = false := by simpa using hs
              have HS := hid hs
              clear hs
              go_wp2
              go_roundw
              case rel => exact ⟨k + 1, u, true, out, by omega, by go_num, rfl, rfl, hid (layst_gone LS.out HR.out HS.out), hid (OW.out.alloc _)⟩
              case measure => simp [intOf]; omega
            · have hz : (x1 + n == 0) = false := by simpa using hs
              have hz2 : (x1 + n != 0) = true := by simpa using hs
              have HS := hid hs
              clear hs
              go_wp2_with (at_builtin; refine append_run rfl (.tmp 47) (.tmp 49) rfl w.heap.size u out _ x0 (x1 + n) rfl ((OW.out.alloc (.cells #[.int .i64 x0, .int .i64 (x1 + n)] 65)).alloc (.cells #[.int .i64 x0, .int .i64 (x1 + n)] 65)).2 rfl (hnew (by simp)) (by (try simp only [List.length_append, List.length_cons, List.length_nil]); omega) (by have := ((OW.out.alloc (.cells #[.int .i64 x0, .int .i64 (x1 + n)] 65)).alloc (.cells #[.int .i64 x0, .int .i64 (x1 + n)] 65)).1.size; omega) ?_; intro u1 w1 ho1 hg1; have O1 := hid (OwnW.grown ((OW.out.alloc (.cells #[.int .i64 x0, .int .i64 (x1 + n)] 65)).alloc (.cells #[.int .i64 x0, .int .i64 (x1 + n)] 65)) hg1 ho1); clear ho1 hg1)
              go_roundw
              case rel => exact ⟨k + 1, u1, true, _, by omega, by go_num, rfl, rfl, hid (layst_here LS.out HR.out HS.out), O1⟩
              case measure => simp [intOf]; omega
    · have hkf : decide ((k : Int) < (m : Int)) = false := decide_eq_false (by omega)
      cases dn with
      | true =>
        have HE := hid (layst_end LS.out (by have := EL.out; omega))
        go_wp2
        go_ret
        exact ⟨u, rfl, by rw [← HE.out]; exact OW.out⟩
      | false =>
        have HE := hid (layst_fin LS.out (by have := EL.out; omega))
        go_wp2_with (at_builtin; refine append_run rfl (.tmp 53) (.tmp 57) rfl w.heap.size u out _ v n rfl (OW.out.alloc (.cells #[.int .i64 v, .int .i64 n] 65)).2 rfl (hnew (by simp)) (by (try simp only [List.length_append, List.length_cons, List.length_nil]); omega) (by have := (OW.out.alloc (.cells #[.int .i64 v, .int .i64 n] 65)).1.size; omega) ?_; intro u1 w1 ho1 hg1; have O1 := hid (OwnW.grown (OW.out.alloc (.cells #[.int .i64 v, .int .i64 n] 65)) hg1 ho1); clear ho1 hg1)
        go_ret
        exact ⟨u1, rfl, by rw [← HE.out]; exact O1.out⟩

end Go.Proofs.Ytjkkajhjcinalaa

namespace Go.Proofs.Ytjkkajhjcinalaa
open Go.ChangeShapes Go.WideShapes Go.ChangeAt Go.RowKit
set_option linter.unusedVariables false
set_option linter.unusedSimpArgs false
set_option maxRecDepth 100000

theorem lay_m (a : Option Addr) (m c : Nat) (l : List Rn) (v n : Int) (M : List Rn) (w : World) (hl : NRun w a m c l) (hz : Hid (Nz l)) (hb : Hid (∀ r ∈ l, -1099511627776 ≤ r.2 ∧ r.2 ≤ 1099511627776)) (hn : -1099511627776 ≤ n ∧ n ≤ 1099511627776) (hm : m ≤ 1000000) (hM : Hid (lay v n l = M)) :
    Calls Try.prog 52 #[.slice a m c, .int .i64 v, .int .i64 n] w fun e w' => (∃ A cap, e = .returned (.slice A M.length cap) ∧ NRun w' A M.length cap M ∧ ∀ b off, A = some ⟨b, off, none⟩ → w.heap.size ≤ b) ∧ Below w.heap.size w w' := by
  refine (lay_any a m c l v n w hl hz.out hb.out hn hm).mono ?_
  rintro e w' ⟨u, rfl, hb, ho⟩
  rw [hM.out] at ho
  obtain ⟨A, cap, rfl, hr⟩ := own_any ho
  exact ⟨⟨A, cap, rfl, hr, fun b off e => by subst e; exact (ho.lt b rfl).1⟩, hb⟩
/-- What is laid on the way is as small as Lay wants it. -/
def Sml (l : List Rn) : Prop := Nz l ∧ (∀ r ∈ l, -1099511627776 ≤ r.2 ∧ r.2 ≤ 1099511627776) ∧ l.length ≤ 1000000
theorem sml_of (l : List Int) (h : l.length ≤ 1000) : Sml (bagOf l) := by
  refine ⟨pos_nz (bagOf_pos l), fun r hr => ?_, by have := bagOf_len l; omega⟩
  have h1 := bagOf_pos l r hr
  have h2 := cn_srt_eq (bagOf_srt l) hr
  have h3 := cn_le (v := r.1) (bagOf_pos l)
  rw [bagOf_tot] at h3
  omega
theorem sml_jn {a b : List Rn} (ha : Bag a) (hb : Bag b) (ht : tot a + tot b ≤ 1099511627776) (la : a.length ≤ 1000) (lb : b.length ≤ 1000) (k : Nat) : Sml (jnl a (b.take k)) := by
  have h1 := jnl_bd ha.1 ha.2.1 (pos_take hb.2.1 k) (by have := tot_take hb.2.1 k; omega)
  refine ⟨pos_nz (jnl_pos ha.2.1 (pos_take hb.2.1 k)), fun r hr => ?_, ?_⟩
  · have := h1 r hr; omega
  · have := jnl_len a (b.take k); rw [List.length_take] at this; omega
/-- A block that is kept behind a world. -/
def Kp (w wr : World) (N : Nat) (o : Obj) : Prop := Below w.heap.size w wr ∧ w.heap.size ≤ N ∧ wr.heap[N]? = some o
theorem Kp.step {w wr w' : World} {N : Nat} {o : Obj} (h : Kp w wr N o) (hb : Below wr.heap.size wr w') : Kp w w' N o := ⟨bt h.1 hb, h.2.1, keep_blk h.2.2 hb⟩
theorem kp_new (w : World) (o : Obj) : Kp w (w.alloc o) w.heap.size o := ⟨b1alloc w o, Nat.le_refl _, heap_alloc_new w o⟩
theorem set2_heap {w : World} {N : Nat} {t : TypeId} {p q : Value} (u v : Value) (h : w.heap[N]? = some (.cells #[p, q] t)) : ((w.setCell ⟨N, 0, none⟩ u).setCell ⟨N, 1, none⟩ v).heap[N]? = some (.cells #[u, v] t) := by
  have h0 := heap_setCell_same w N 0 _ t u h
  have h1 := heap_setCell_same _ N 1 _ t v h0
  exact h1
theorem set2_below {w wr : World} {N : Nat} {o : Obj} (u v : Value) (h : Kp w wr N o) : Below w.heap.size w ((wr.setCell ⟨N, 0, none⟩ u).setCell ⟨N, 1, none⟩ v) := (h.1.setCell h.2.1 _).setCell h.2.1 _
theorem set2_run {w : World} {N : Nat} {A : Option Addr} {n c : Nat} {l : List Rn} (u v : Value) (h : NRun w A n c l) (hne : 0 < n → ∀ b off, A = some ⟨b, off, none⟩ → ¬ b = N) : NRun ((w.setCell ⟨N, 0, none⟩ u).setCell ⟨N, 1, none⟩ v) A n c l := by
  obtain ⟨h1, h2, h3, h4, h5⟩ := h
  refine ⟨h1, h2, h3, h4, fun h0 => ?_⟩
  obtain ⟨b, off, e, hlt, hl⟩ := h5 h0
  have hb := hne h0 b off e
  refine ⟨b, off, e, by simpa using hlt, fun j r hj i x hi => ?_⟩
  have g1 := set_grown w N 0 u
  have g2 := set_grown (w.setCell ⟨N, 0, none⟩ u) N 1 v
  rw [grown_cell g2 (by simpa using hlt) (fun e' => hb (by cases e'; rfl)), grown_cell g1 hlt (fun e' => hb (by cases e'; rfl))]
  exact hl j r hj i x hi
/-- What the document's Join tells. -/
def Jn (a b : List Rn) : Bool := gd a && gd b && decide (tot a + tot b ≤ 1099511627776)
def Jl (a b : List Rn) : List Rn := if Jn a b then jnl a b else []
theorem jn_no1 {a b : List Rn} (h : gd a = false) : Jn a b = false := by unfold Jn; rw [h]; rfl
theorem jn_no2 {a b : List Rn} (h : gd b = false) : Jn a b = false := by unfold Jn; rw [h]; simp
theorem jn_no3 {a b : List Rn} (h : 1099511627776 < tot a + tot b) : Jn a b = false := by unfold Jn; rw [decide_eq_false (by omega)]; simp
theorem jn_yes {a b : List Rn} (h : Bag a) (h' : Bag b) (ht : tot a + tot b ≤ 1099511627776) : Jn a b = true := by unfold Jn; rw [gd_yes h, gd_yes h', decide_eq_true ht]; rfl
theorem jl_no {a b : List Rn} (h : Jn a b = false) : Jl a b = [] := by unfold Jl; rw [h]; rfl
theorem jl_yes {a b : List Rn} (h : Jn a b = true) : Jl a b = jnl a b := by unfold Jl; rw [h]; rfl
theorem rcount_m (a : Option Addr) (n c : Nat) (l : List Rn) (T : Int) (w : World) (hl : NRun w a n c l) (hk : ∀ r ∈ l, nok r) (hT : Hid (tl l = T)) :
    Calls Try.prog 60 #[.slice a n c] w fun e w' => e = .returned (.int .i64 T) ∧ Below w.heap.size w w' := by
  have := rcount_any a n c l w hl hk
  rw [hT.out] at this
  exact this
end Go.Proofs.Ytjkkajhjcinalaa

namespace Go.Proofs.Ytjkkajhjcinalaa
open Go.ChangeShapes Go.WideShapes Go.ChangeAt Go.RowKit
set_option linter.unusedVariables false
set_option linter.unusedSimpArgs false
set_option maxRecDepth 100000

/-- What all come to, or 0; does it fit? -/
def sv (l : List Rn) : Int := if gd l then calc.fitV (wsum l) else 0
def sb (l : List Rn) : Bool := gd l && calc.fitB (wsum l)
theorem sv_no {l : List Rn} (h : gd l = false) : sv l = 0 ∧ sb l = false := by unfold sv sb; rw [h]; exact ⟨rfl, rfl⟩
theorem sv_yes {l : List Rn} (h : gd l = true) : sv l = calc.fitV (wsum l) ∧ sb l = calc.fitB (wsum l) := by unfold sv sb; rw [h]; exact ⟨rfl, rfl⟩
/-- What one comes to less what another one does, or 0; does it fit? -/
def nv (l u : List Rn) : Int := if gd l && gd u then calc.fitV (wsum l - wsum u) else 0
def nb (l u : List Rn) : Bool := gd l && gd u && calc.fitB (wsum l - wsum u)
theorem nv_no {l u : List Rn} (h : gd l = false ∨ gd u = false) : nv l u = 0 ∧ nb l u = false := by
  have : (gd l && gd u) = false := by rcases h with h | h <;> rw [h] <;> simp
  unfold nv nb; rw [this]; exact ⟨rfl, rfl⟩
theorem nv_yes {l u : List Rn} (h : gd l = true) (h' : gd u = true) : nv l u = calc.fitV (wsum l - wsum u) ∧ nb l u = calc.fitB (wsum l - wsum u) := by
  unfold nv nb; rw [h, h']; exact ⟨rfl, rfl⟩
theorem gd_nil : gd [] = true := gd_yes bag_nil
theorem nv_nil (l : List Rn) : nv l [] = sv l ∧ nb l [] = sb l := by
  cases h : gd l with
  | false => rw [(nv_no (.inl h)).1, (nv_no (.inl h)).2, (sv_no h).1, (sv_no h).2]; exact ⟨rfl, rfl⟩
  | true =>
    rw [(nv_yes h gd_nil).1, (nv_yes h gd_nil).2, (sv_yes h).1, (sv_yes h).2]
    simp [wsum]
theorem hS_step {l : List Rn} {k : Nat} {x0 x1 : Int} (h : l[k]? = some (x0, x1)) : hS (l.take (k + 1)) = hS (l.take k) + x0 / 17592186044416 * x1 := by
  rw [take_one h, hS_app]; simp [hS]
theorem mS_step {l : List Rn} {k : Nat} {x0 x1 : Int} (h : l[k]? = some (x0, x1)) : mS (l.take (k + 1)) = mS (l.take k) + x0 / 4194304 % 4194304 * x1 := by
  rw [take_one h, mS_app]; simp [mS]
theorem lS_step {l : List Rn} {k : Nat} {x0 x1 : Int} (h : l[k]? = some (x0, x1)) : lS (l.take (k + 1)) = lS (l.take k) + x0 % 4194304 * x1 := by
  rw [take_one h, lS_app]; simp [lS]
/-- The way of Net: so many of the first one's runs, so many of the other's. -/
def SI (l u : List Rn) (k q : Nat) (h m lo : Int) : Prop := h = hS (l.take k) - hS (u.take q) ∧ m = mS (l.take k) - mS (u.take q) ∧ lo = lS (l.take k) - lS (u.take q)
theorem si_bd {l u : List Rn} {k q : Nat} {h m lo : Int} (hs : SI l u k q h m lo) (hb : Bag l) (hk : ∀ r ∈ l, nok r) (hb' : Bag u) (hk' : ∀ r ∈ u, nok r) : -1152921504606846976 ≤ h ∧ h ≤ 1152921504606846976 ∧ -4611686018427387904 ≤ m ∧ m ≤ 4611686018427387904 ∧ -4611686018427387904 ≤ lo ∧ lo ≤ 4611686018427387904 := by
  obtain ⟨e1, e2, e3⟩ := hs
  have h1 := bag_take hb k
  have h2 := bag_take hb' q
  have s1 := sum_bds (l := l.take k) (fun r hr => (hk r (List.mem_of_mem_take hr)).1) h1.2.1
  have s2 := sum_bds (l := u.take q) (fun r hr => (hk' r (List.mem_of_mem_take hr)).1) h2.2.1
  have t1 := h1.2.2
  have t2 := h2.2.2
  have t3 := tot_nn h1.2.1
  have t4 := tot_nn h2.2.1
  omega
theorem si_end {l u : List Rn} {k q : Nat} {h m lo : Int} (hs : SI l u k q h m lo) (hb : Bag l) (hk : ∀ r ∈ l, nok r) (hb' : Bag u) (hk' : ∀ r ∈ u, nok r) (hl : l.length ≤ k) (hu : u.length ≤ q) : h * 17592186044416 + m * 4194304 + lo = wsum l - wsum u := by
  obtain ⟨e1, e2, e3⟩ := hs
  rw [List.take_of_length_le hl, List.take_of_length_le hu] at e1 e2 e3
  have s1 := sum_bds (l := l) (fun r hr => (hk r hr).1) hb.2.1
  have s2 := sum_bds (l := u) (fun r hr => (hk' r hr).1) hb'.2.1
  rw [e1, e2, e3]; omega
theorem mul_negR {a n p : Int} (h : a * n = p) : a * -n = -p := by rw [Int.mul_neg, h]
theorem kp_set3 {w wr : World} {N : Nat} {t : TypeId} {a b c : Value} (x y z : Value) (h : Kp w wr N (.cells #[a, b, c] t)) : Kp w (((wr.setCell ⟨N, 0, none⟩ x).setCell ⟨N, 1, none⟩ y).setCell ⟨N, 2, none⟩ z) N (.cells #[x, y, z] t) := by
  refine ⟨((h.1.setCell h.2.1 _).setCell h.2.1 _).setCell h.2.1 _, h.2.1, ?_⟩
  have h0 := heap_setCell_same wr N 0 _ t x h.2.2
  have h1 := heap_setCell_same _ N 1 _ t y h0
  have h2 := heap_setCell_same _ N 2 _ t z h1
  exact h2
theorem froz3 {w : World} {D : Nat} {t : TypeId} {cs : Array Value} (hD : w.heap[D]? = some (.cells cs t)) : w.frozen? ⟨D, 0, none⟩ = false ∧ w.frozen? ⟨D, 1, none⟩ = false ∧ w.frozen? ⟨D, 2, none⟩ = false :=
  ⟨frozen_of_row w D 0 _ _ hD, frozen_of_row w D 1 _ _ hD, frozen_of_row w D 2 _ _ hD⟩


set_option maxHeartbeats 8000000 in
theorem bnet_any (a1 a2 : Option Addr) (n c m d : Nat) (l u : List Rn) (w : World) (hl : NRun w a1 n c l) (hk : ∀ r ∈ l, nok r) (hu : NRun w a2 m d u) (hk' : ∀ r ∈ u, nok r) :
    Calls Try.prog 109 #[.slice a1 n c, .slice a2 m d] w fun e w' => e = .returned (.tuple #[.int .i64 (nv l u), .bool (nb l u)]) ∧ Below w.heap.size w w' := by
  have HL := hid hl
  have HK := hid hk
  have HU := hid hu
  have HV := hid hk'
  have EL := hid hl.lens.1
  have EU := hid hu.lens.1
  have l2 := hl.lens.2
  have u2 := hu.lens.2
  have tkA : True := trivial
  clear hl hk hu hk'
  cases hg : gd l with
  | false =>
    rw [(nv_no (.inl hg)).1, (nv_no (.inl hg)).2]
    have HG := hid hg
    clear hg
    go_enter Try.func109, Try.ntmps109
    go_wp2_with (go_at_call 100; refine (good_m a1 n c l false _ HL.out HK.out HG).mono ?_; rintro e w1 ⟨rfl, hb1⟩)
    go_ret2
    exact ⟨rfl, hb1⟩
  | true =>
  have HG := hid hg
  cases hg' : gd u with
  | false =>
    rw [(nv_no (.inr hg')).1, (nv_no (.inr hg')).2]
    have HG' := hid hg'
    clear hg hg'
    go_enter Try.func109, Try.ntmps109
    go_wp2_with (first
      | (go_at_call 100; clear tkA; refine (good_m a1 n c l true _ HL.out HK.out HG).mono ?_; rintro e w1 ⟨rfl, hb1⟩; have B1 := hid hb1; clear hb1)
      | (go_at_call 100; refine (good_m a2 m d u false _ (HU.out.below B1.out) HV.out HG').mono ?_; rintro e w2 ⟨rfl, hb2⟩; have B2 := hid (bt B1.out hb2); clear hb2))
    go_ret2
    exact ⟨rfl, B2.out⟩
  | true =>
    have HB := hid (gd_iff.1 hg)
    have HB' := hid (gd_iff.1 hg')
    have HS := hid (nv_yes hg hg')
    have HG' := hid hg'
    clear hg hg'
    go_enter Try.func109, Try.ntmps109
    go_upto_region 3 with (first
      | (go_at_call 100; clear tkA; refine (good_m a1 n c l true _ HL.out HK.out HG).mono ?_; rintro e w1 ⟨rfl, hb1⟩; have B1 := hid hb1; clear hb1)
      | (go_at_call 100; refine (good_m a2 m d u true _ (HU.out.below B1.out) HV.out HG').mono ?_; rintro e w2 ⟨rfl, hb2⟩; have B2 := hid (bt B1.out hb2); clear hb2))
    have K0 : Hid (Kp w (w2.alloc (.cells #[.int .i64 0, .int .i64 0, .int .i64 0] 192)) w2.heap.size (.cells #[.int .i64 0, .int .i64 0, .int .i64 0] 192)) := hid ⟨B2.out.alloc B2.out.size _, B2.out.size, heap_alloc_new _ _⟩
    go_upto_region 4 with fail
    generalize w2.alloc (.cells #[.int .i64 0, .int .i64 0, .int .i64 0] 192) = W0 at K0 ⊢
    generalize w2.heap.size = N at K0 ⊢
    clear B1 B2
    go_wp2
    go_loopw [21] (fun i wr => ∃ (k : Nat) (h mi lo : Int), k ≤ n ∧ i = .int .i64 k ∧ Hid (SI l u k 0 h mi lo) ∧ Hid (Kp w wr N (.cells #[.int .i64 h, .int .i64 mi, .int .i64 lo] 192))) (fun i _ => n - (intOf i).toNat)
    case atStart => exact ⟨0, 0, 0, 0, by omega, rfl, hid ⟨rfl, rfl, rfl⟩, K0⟩
    case round =>
      obtain ⟨k, h, mi, lo, hkn, rfl, HI, KW⟩ := hrel
      have hk0 : (0 : Int) ≤ (k : Int) := by omega
      by_cases hlt : k < n
      · have hki : (k : Int) < (n : Int) := by omega
        obtain ⟨b, off, x0, x1, rfl, hb, hr, p0, p1⟩ := HL.out.pick KW.out.1 hlt
        have HR := hid hr
        have hbd := si_bd HI.out HB.out HK.out HB'.out HV.out
        have hnx : SI l u (k + 1) 0 (h + x0 / 17592186044416 * x1) (mi + x0 / 4194304 % 4194304 * x1) (lo + x0 % 4194304 * x1) := ⟨by rw [HI.out.1, hS_step hr]; omega, by rw [HI.out.2.1, mS_step hr]; omega, by rw [HI.out.2.2, lS_step hr]; omega⟩
        have hbd2 := si_bd hnx HB.out HK.out HB'.out HV.out
        have hx1 : 1 ≤ x1 := HB.out.2.1 _ (List.mem_of_getElem? hr)
        have hx0 := (HK.out _ (List.mem_of_getElem? hr)).1
        have hpd := part_bd hx0 (n := x1) (by omega)
        have hx1m : x1 ≤ 1099511627776 := by have := (bag_at HB.out hr).2.2; omega
        obtain ⟨A, hA⟩ : ∃ y, x0 / 17592186044416 = y := ⟨_, rfl⟩
        obtain ⟨B, hB⟩ : ∃ y, x0 / 4194304 % 4194304 = y := ⟨_, rfl⟩
        obtain ⟨C, hC⟩ : ∃ y, x0 % 4194304 = y := ⟨_, rfl⟩
        rw [hA, hB, hC] at hnx hbd2 hpd
        obtain ⟨P, hP⟩ : ∃ y, A * x1 = y := ⟨_, rfl⟩
        obtain ⟨Q, hQ⟩ : ∃ y, B * x1 = y := ⟨_, rfl⟩
        obtain ⟨R, hR⟩ : ∃ y, C * x1 = y := ⟨_, rfl⟩
        rw [hP, hQ, hR] at hnx hbd2 hpd
        have HN := hid hnx
        have HPl : Hid (∀ W, Calls Try.prog 123 #[.agg #[.int .i64 h, .int .i64 mi, .int .i64 lo], .int .i64 x0, .int .i64 x1] W fun e w' => e = .returned (.agg #[.int .i64 (h + P), .int .i64 (mi + Q), .int .i64 (lo + R)]) ∧ Below W.heap.size W w') := hid (fun W => pplus_raw h mi lo x0 x1 A B C P Q R W hA hB hC hP hQ hR (by omega) (by omega) (by omega) (by omega) (by omega) (by omega) (by omega) (by omega) (by omega) (by omega) (by omega) (by omega))
        clear hnx hbd hbd2 hpd hx0 hx1 hx1m hA hB hC hP hQ hR hr
        obtain ⟨d0, d1, d2⟩ := box_three KW.out.2.2
        have KX := hid (KW.out.step (b1alloc wr (.cells #[.int .i64 x0, .int .i64 x1] 65)))
        obtain ⟨c0, c1, c2⟩ := box_three KX.out.2.2
        go_wp2_with (go_at_call 123; refine (HPl.out _).mono ?_; rintro e w5 ⟨rfl, hb5⟩; have K5 := hid (KX.out.step hb5); obtain ⟨e0, e1, e2⟩ := box_three K5.out.2.2; obtain ⟨f0, f1, f2⟩ := froz3 K5.out.2.2; clear hb5)
        go_roundw
        case rel => exact ⟨k + 1, h + P, mi + Q, lo + R, by omega, by go_num, HN, hid (kp_set3 _ _ _ K5.out)⟩
        case measure => simp [intOf]; omega
      · obtain rfl : k = n := by omega
        have hkf : decide ((k : Int) < (k : Int)) = false := decide_eq_false (by omega)
        have K1 : Hid (SI l u k 0 h mi lo) := HI
        clear HI hlt hkn
        go_wp2
        go_loopw [34] (fun i wr => ∃ (q : Nat) (h mi lo : Int), q ≤ m ∧ i = .int .i64 q ∧ Hid (SI l u k q h mi lo) ∧ Hid (Kp w wr N (.cells #[.int .i64 h, .int .i64 mi, .int .i64 lo] 192))) (fun i _ => m - (intOf i).toNat)
        case atStart => exact ⟨0, h, mi, lo, by omega, rfl, K1, KW⟩
        case round =>
          clear K1 KW
          obtain ⟨q, h, mi, lo, hqn, rfl, HI, KW⟩ := hrel
          have hq0 : (0 : Int) ≤ (q : Int) := by omega
          by_cases hlt : q < m
          · have hqi : (q : Int) < (m : Int) := by omega
            obtain ⟨b, off, x0, x1, rfl, hb, hr, p0, p1⟩ := HU.out.pick KW.out.1 hlt
            have hbd := si_bd HI.out HB.out HK.out HB'.out HV.out
            have hnx : SI l u k (q + 1) (h + -(x0 / 17592186044416 * x1)) (mi + -(x0 / 4194304 % 4194304 * x1)) (lo + -(x0 % 4194304 * x1)) := ⟨by rw [HI.out.1, hS_step hr]; omega, by rw [HI.out.2.1, mS_step hr]; omega, by rw [HI.out.2.2, lS_step hr]; omega⟩
            have hbd2 := si_bd hnx HB.out HK.out HB'.out HV.out
            have hx1 : 1 ≤ x1 := HB'.out.2.1 _ (List.mem_of_getElem? hr)
            have hx0 := (HV.out _ (List.mem_of_getElem? hr)).1
            have hx1i := (HV.out _ (List.mem_of_getElem? hr)).2
            have hpd := part_bd hx0 (n := x1) (by omega)
            have hx1m : x1 ≤ 1099511627776 := by have := (bag_at HB'.out hr).2.2; omega
            obtain ⟨A, hA⟩ : ∃ y, x0 / 17592186044416 = y := ⟨_, rfl⟩
            obtain ⟨B, hB⟩ : ∃ y, x0 / 4194304 % 4194304 = y := ⟨_, rfl⟩
            obtain ⟨C, hC⟩ : ∃ y, x0 % 4194304 = y := ⟨_, rfl⟩
            rw [hA, hB, hC] at hnx hbd2 hpd
            obtain ⟨P, hP⟩ : ∃ y, A * x1 = y := ⟨_, rfl⟩
            obtain ⟨Q, hQ⟩ : ∃ y, B * x1 = y := ⟨_, rfl⟩
            obtain ⟨R, hR⟩ : ∃ y, C * x1 = y := ⟨_, rfl⟩
            rw [hP, hQ, hR] at hnx hbd2 hpd
            have HN := hid hnx
            have wng : IntKind.i64.wrap (-x1) = -x1 := IntWalk.i64_in _ (by omega)
            have HPl : Hid (∀ W, Calls Try.prog 123 #[.agg #[.int .i64 h, .int .i64 mi, .int .i64 lo], .int .i64 x0, .int .i64 (-x1)] W fun e w' => e = .returned (.agg #[.int .i64 (h + -P), .int .i64 (mi + -Q), .int .i64 (lo + -R)]) ∧ Below W.heap.size W w') := hid (fun W => pplus_raw h mi lo x0 (-x1) A B C (-P) (-Q) (-R) W hA hB hC (mul_negR hP) (mul_negR hQ) (mul_negR hR) (by omega) (by omega) (by omega) (by omega) (by omega) (by omega) (by omega) (by omega) (by omega) (by omega) (by omega) (by omega))
            clear hnx hbd hbd2 hpd hx0 hx1 hx1i hx1m hA hB hC hP hQ hR hr
            obtain ⟨d0, d1, d2⟩ := box_three KW.out.2.2
            have KX := hid (KW.out.step (b1alloc wr (.cells #[.int .i64 x0, .int .i64 x1] 65)))
            obtain ⟨c0, c1, c2⟩ := box_three KX.out.2.2
            go_wp2_with (go_at_call 123; refine (HPl.out _).mono ?_; rintro e w5 ⟨rfl, hb5⟩; have K5 := hid (KX.out.step hb5); obtain ⟨e0, e1, e2⟩ := box_three K5.out.2.2; obtain ⟨f0, f1, f2⟩ := froz3 K5.out.2.2; clear hb5)
            go_roundw
            case rel => exact ⟨q + 1, h + -P, mi + -Q, lo + -R, by omega, by go_num, HN, hid (kp_set3 _ _ _ K5.out)⟩
            case measure => simp [intOf]; omega
          · have hqf : decide ((q : Int) < (m : Int)) = false := decide_eq_false (by omega)
            obtain ⟨b1, b2, b3, b4, b5, b6⟩ := si_bd HI.out HB.out HK.out HB'.out HV.out
            have HE := hid (si_end HI.out HB.out HK.out HB'.out HV.out (by have := EL.out; omega) (by have := EU.out; omega))
            obtain ⟨c0, c1, c2⟩ := box_three KW.out.2.2
            go_wp2_with (go_at_call 124; refine (narrow_m h mi lo _ (by omega) (by omega) b3 b4 b5 b6).mono ?_; rintro e w5 ⟨rfl, hb5⟩; have B5 := hid (bt KW.out.1 hb5); clear hb5)
            go_ret2
            exact ⟨by rw [HS.out.1, HS.out.2, ← HE.out]; rfl, B5.out⟩
set_option maxHeartbeats 1000000 in
theorem bsum_any (a : Option Addr) (n c : Nat) (l : List Rn) (w : World) (hl : NRun w a n c l) (hk : ∀ r ∈ l, nok r) :
    Calls Try.prog 97 #[.slice a n c] w fun e w' => e = .returned (.tuple #[.int .i64 (sv l), .bool (sb l)]) ∧ Below w.heap.size w w' := by
  have HL := hid hl
  have HK := hid hk
  have HE := hid (nv_nil l)
  clear hl hk
  go_enter Try.func97, Try.ntmps97
  go_wp2_with (go_at_call 109; refine (bnet_any a none n c 0 0 l [] _ HL.out HK.out (nrun_nil _) (fun r hr => by cases hr)).mono ?_; rw [HE.out.1, HE.out.2]; rintro e w1 ⟨rfl, hb1⟩)
  go_ret2
  exact ⟨rfl, hb1⟩

end Go.Proofs.Ytjkkajhjcinalaa

namespace Go.Proofs.Ytjkkajhjcinalaa
open Go.RowKit
set_option linter.unusedVariables false
set_option linter.unusedSimpArgs false
set_option maxRecDepth 100000

/-- A cell: how many rows; of two measures the sum and the values. -/
structure Cl where
  n : Int
  s0 : Int
  s1 : Int
  b0 : List Rn
  b1 : List Rn
def cl0 : Cl := ⟨0, 0, 0, [], []⟩
/-- One measure of it, reckoned. -/
def Rk1 (n s : Int) (b : List Rn) : Prop := Bag b ∧ tot b = n ∧ wsum b = s
def rk (n s : Int) (b : List Rn) : Bool := gd b && (decide (tot b = n) && decide (wsum b = s))
theorem rk_iff {n s : Int} {b : List Rn} : rk n s b = true ↔ Rk1 n s b := by
  unfold rk Rk1; simp only [Bool.and_eq_true, decide_eq_true_iff, gd_iff]
theorem rk_yes {n s : Int} {b : List Rn} (h : Rk1 n s b) : rk n s b = true := rk_iff.2 h
theorem rk_no {n s : Int} {b : List Rn} (h : ¬ Rk1 n s b) : rk n s b = false := by
  cases e : rk n s b with
  | false => rfl
  | true => exact absurd (rk_iff.1 e) h
/-- May it be, of so many measures? -/
def CG (m : Int) (c : Cl) : Prop := (1 ≤ c.n ∧ c.n ≤ 1099511627776) ∧ Rk1 c.n c.s0 c.b0 ∧ ((m = 1 ∧ c.s1 = 0 ∧ c.b1 = []) ∨ (m = 2 ∧ Rk1 c.n c.s1 c.b1))
def cg (m : Int) (c : Cl) : Bool := decide (1 ≤ c.n ∧ c.n ≤ 1099511627776) && (rk c.n c.s0 c.b0 && ((decide (m = 1) && (decide (c.s1 = 0) && c.b1.isEmpty)) || (decide (m = 2) && rk c.n c.s1 c.b1)))
theorem cg_iff {m : Int} {c : Cl} : cg m c = true ↔ CG m c := by
  unfold cg CG
  simp only [Bool.and_eq_true, Bool.or_eq_true, decide_eq_true_iff, rk_iff, List.isEmpty_iff]
theorem cg_yes {m : Int} {c : Cl} (h : CG m c) : cg m c = true := cg_iff.2 h
theorem cg_no {m : Int} {c : Cl} (h : ¬ CG m c) : cg m c = false := by
  cases e : cg m c with
  | false => rfl
  | true => exact absurd (cg_iff.1 e) h
theorem cg_m {m : Int} {c : Cl} (h : cg m c = true) : m = 1 ∨ m = 2 := by
  rcases (cg_iff.1 h).2.2 with h | h
  · exact .inl h.1
  · exact .inr h.1
theorem cg_not {m : Int} (c : Cl) (h : ¬ (m = 1 ∨ m = 2)) : cg m c = false := cg_no (fun g => h (cg_m (cg_yes g)))
/-- Alike in all? -/
def csm (a b : Cl) : Bool := decide (a.n = b.n) && ((decide (a.s0 = b.s0) && decide (a.s1 = b.s1)) && (sm a.b0 b.b0 && sm a.b1 b.b1))
theorem sm_iff {a b : List Rn} : sm a b = true ↔ a = b := by
  constructor
  · intro h; unfold sm at h; exact of_decide_eq_true h
  · exact sm_yes
theorem csm_iff {a b : Cl} : csm a b = true ↔ a = b := by
  obtain ⟨n, s, t, x, y⟩ := a
  obtain ⟨n', s', t', x', y'⟩ := b
  unfold csm
  simp only [Bool.and_eq_true, decide_eq_true_iff, sm_iff, Cl.mk.injEq, and_assoc]
theorem csm_self (a : Cl) : csm a a = true := csm_iff.2 rfl
theorem csm_no {a b : Cl} (h : ¬ a = b) : csm a b = false := by
  cases e : csm a b with
  | false => rfl
  | true => exact absurd (csm_iff.1 e) h
/-! The cell of rows. -/
/-- A row: a place, two measures. -/
abbrev Rw := Int × Int × Int × Int × Int × Int
def rm0 : Rw → Int | (_, _, _, _, m, _) => m
def rm1 : Rw → Int | (_, _, _, _, _, m) => m
def rok : Rw → Prop | (a, b, c, d, m, n) => (U8 a ∧ U8 b ∧ U8 c ∧ U8 d) ∧ I64 m ∧ I64 n
def rcs : Rw → List Value | (a, b, c, d, m, n) => [.int .u8 a, .int .u8 b, .int .u8 c, .int .u8 d, .int .i64 m, .int .i64 n]
def V0 (l : List Rw) : List Int := l.map rm0
def V1 (l : List Rw) : List Int := l.map rm1
theorem V0_i64 {l : List Rw} (h : ∀ r ∈ l, rok r) : ∀ x ∈ V0 l, I64 x := by
  intro x hx
  obtain ⟨r, hr, rfl⟩ := List.mem_map.1 hx
  obtain ⟨a, b, c, d, m, n⟩ := r
  exact (h _ hr).2.1
theorem V1_i64 {l : List Rw} (h : ∀ r ∈ l, rok r) : ∀ x ∈ V1 l, I64 x := by
  intro x hx
  obtain ⟨r, hr, rfl⟩ := List.mem_map.1 hx
  obtain ⟨a, b, c, d, m, n⟩ := r
  exact (h _ hr).2.2
theorem V0_len (l : List Rw) : (V0 l).length = l.length := by unfold V0; simp
theorem V1_len (l : List Rw) : (V1 l).length = l.length := by unfold V1; simp
theorem sum_fold (l : List Int) : l.foldr (· + ·) 0 = calc.sumI l := by
  induction l with
  | nil => rfl
  | cons x l ih => simp only [List.foldr_cons, calc.sumI, ih]
theorem bagOf_wsum (l : List Int) : wsum (bagOf l) = calc.sumI l := by
  unfold bagOf; rw [ofl_wsum, sum_fold]; simp [wsum]
/-- Is there one? -/
def ofB (m : Int) (l : List Rw) : Bool := ((decide (m = 1) || decide (m = 2)) && !l.isEmpty) && (calc.fitB (calc.sumI (V0 l)) && (decide (m = 1) || calc.fitB (calc.sumI (V1 l))))
/-- The one that it would be. -/
def ofR (m : Int) (l : List Rw) : Cl := ⟨l.length, calc.sumI (V0 l), if m = 2 then calc.sumI (V1 l) else 0, bagOf (V0 l), if m = 2 then bagOf (V1 l) else []⟩
def ofC (m : Int) (l : List Rw) : Cl := if ofB m l then ofR m l else cl0
theorem ofC_yes {m : Int} {l : List Rw} (h : ofB m l = true) : ofC m l = ofR m l := by unfold ofC; rw [h]; rfl
theorem ofC_no {m : Int} {l : List Rw} (h : ofB m l = false) : ofC m l = cl0 := by unfold ofC; rw [h]; rfl
theorem ofB_iff {m : Int} {l : List Rw} : ofB m l = true ↔ (m = 1 ∨ m = 2) ∧ ¬ l = [] ∧ calc.fitB (calc.sumI (V0 l)) = true ∧ (m = 1 ∨ calc.fitB (calc.sumI (V1 l)) = true) := by
  unfold ofB
  simp only [Bool.and_eq_true, Bool.or_eq_true, decide_eq_true_iff, Bool.not_eq_true', List.isEmpty_eq_false_iff, ne_eq, and_assoc]
theorem ofB_no {m : Int} {l : List Rw} (h : ¬ ((m = 1 ∨ m = 2) ∧ ¬ l = [] ∧ calc.fitB (calc.sumI (V0 l)) = true ∧ (m = 1 ∨ calc.fitB (calc.sumI (V1 l)) = true))) : ofB m l = false := by
  cases e : ofB m l with
  | false => rfl
  | true => exact absurd (ofB_iff.1 e) h
theorem rk_of {l : List Int} (h : l.length ≤ 1000000) : Rk1 l.length (calc.sumI l) (bagOf l) := ⟨bagOf_bag h, bagOf_tot l, bagOf_wsum l⟩
theorem ofR_good {m : Int} {l : List Rw} (hm : m = 1 ∨ m = 2) (h0 : ¬ l = []) (hl : l.length ≤ 1000) : CG m (ofR m l) := by
  have h1 : 0 < l.length := List.length_pos_iff.2 h0
  have e0 := rk_of (l := V0 l) (by rw [V0_len]; omega)
  have e1 := rk_of (l := V1 l) (by rw [V1_len]; omega)
  rw [V0_len] at e0
  rw [V1_len] at e1
  refine ⟨⟨by show (1 : Int) ≤ (l.length : Int); omega, by show (l.length : Int) ≤ 1099511627776; omega⟩, e0, ?_⟩
  rcases hm with rfl | rfl
  · exact .inl ⟨rfl, rfl, rfl⟩
  · exact .inr ⟨rfl, e1⟩
theorem ofC_good {m : Int} {l : List Rw} (h : ofB m l = true) (hl : l.length ≤ 1000) : cg m (ofC m l) = true := by
  rw [ofC_yes h]
  have := ofB_iff.1 h
  exact cg_yes (ofR_good this.1 this.2.1 hl)
theorem fitB_iff {x : Int} : calc.fitB x = true ↔ I64 x := by unfold calc.fitB I64; rw [decide_eq_true_iff]
theorem fitB_i64 {x : Int} (h : I64 x) : calc.fitB x = true := fitB_iff.2 h
theorem fitV_yes {x : Int} (h : calc.fitB x = true) : calc.fitV x = x := by unfold calc.fitV; rw [h]; rfl

/-! Both together. -/
def cjB (m : Int) (a b : Cl) : Bool := (cg m a && cg m b) && (decide (a.n + b.n ≤ 1099511627776) && (calc.fitB (a.s0 + b.s0) && (decide (m = 1) || calc.fitB (a.s1 + b.s1))))
def cjR (a b : Cl) : Cl := ⟨a.n + b.n, a.s0 + b.s0, a.s1 + b.s1, jnl a.b0 b.b0, jnl a.b1 b.b1⟩
def cjC (m : Int) (a b : Cl) : Cl := if cjB m a b then cjR a b else cl0
theorem cjC_yes {m : Int} {a b : Cl} (h : cjB m a b = true) : cjC m a b = cjR a b := by unfold cjC; rw [h]; rfl
theorem cjC_no {m : Int} {a b : Cl} (h : cjB m a b = false) : cjC m a b = cl0 := by unfold cjC; rw [h]; rfl
theorem cjB_iff {m : Int} {a b : Cl} : cjB m a b = true ↔ CG m a ∧ CG m b ∧ a.n + b.n ≤ 1099511627776 ∧ calc.fitB (a.s0 + b.s0) = true ∧ (m = 1 ∨ calc.fitB (a.s1 + b.s1) = true) := by
  unfold cjB
  simp only [Bool.and_eq_true, Bool.or_eq_true, decide_eq_true_iff, cg_iff, and_assoc]
theorem cjB_no {m : Int} {a b : Cl} (h : ¬ (CG m a ∧ CG m b ∧ a.n + b.n ≤ 1099511627776 ∧ calc.fitB (a.s0 + b.s0) = true ∧ (m = 1 ∨ calc.fitB (a.s1 + b.s1) = true))) : cjB m a b = false := by
  cases e : cjB m a b with
  | false => rfl
  | true => exact absurd (cjB_iff.1 e) h
theorem wsum_jnl (a b : List Rn) : wsum (jnl a b) = wsum a + wsum b := by
  induction b generalizing a with
  | nil => simp [jnl, wsum]
  | cons x l ih => simp only [jnl, ih, wsum_lay, wsum]; omega
theorem rk_jnl {n n' s s' : Int} {a b : List Rn} (h : Rk1 n s a) (k : Rk1 n' s' b) (ht : n + n' ≤ 1099511627776) : Rk1 (n + n') (s + s') (jnl a b) := by
  obtain ⟨h1, h2, h3⟩ := h
  obtain ⟨k1, k2, k3⟩ := k
  exact ⟨⟨jnl_srt h1.1 b, jnl_pos h1.2.1 k1.2.1, by rw [jnl_tot, h2, k2]; exact ht⟩, by rw [jnl_tot, h2, k2], by rw [wsum_jnl, h3, k3]⟩
theorem cjR_good {m : Int} {a b : Cl} (ha : CG m a) (hb : CG m b) (ht : a.n + b.n ≤ 1099511627776) : CG m (cjR a b) := by
  obtain ⟨a1, a2, a3⟩ := ha
  obtain ⟨b1, b2, b3⟩ := hb
  refine ⟨⟨by show 1 ≤ a.n + b.n; omega, ht⟩, rk_jnl a2 b2 ht, ?_⟩
  rcases a3 with ⟨rfl, e1, e2⟩ | ⟨rfl, e1⟩
  · rcases b3 with ⟨_, f1, f2⟩ | ⟨h, _⟩
    · refine .inl ⟨rfl, ?_, ?_⟩
      · show a.s1 + b.s1 = 0; omega
      · show jnl a.b1 b.b1 = []; rw [e2, f2]; rfl
    · cases h
  · rcases b3 with ⟨h, _⟩ | ⟨_, f1⟩
    · cases h
    · exact .inr ⟨rfl, rk_jnl e1 f1 ht⟩
theorem cjC_good {m : Int} {a b : Cl} (h : cjB m a b = true) : cg m (cjC m a b) = true := by
  rw [cjC_yes h]
  obtain ⟨h1, h2, h3, _⟩ := cjB_iff.1 h
  exact cg_yes (cjR_good h1 h2 h3)
/-! What is told of it. -/
def mn (l : List Rn) : Int := (l.headD (0, 0)).1
def mx (l : List Rn) : Int := (l.getLastD (0, 0)).1
/-- A line: a place, how many, sums, least and greatest values. -/
def lnv (x0 x1 x2 x3 n s0 s1 a0 a1 b0 b1 : Int) : Value := .agg #[.int .u8 x0, .int .u8 x1, .int .u8 x2, .int .u8 x3, .int .i64 n, .int .i64 s0, .int .i64 s1, .int .i64 a0, .int .i64 a1, .int .i64 b0, .int .i64 b1]
def ln0 : Value := lnv 0 0 0 0 0 0 0 0 0 0 0
def lineV (m x0 x1 x2 x3 : Int) (c : Cl) : Value := if cg m c then lnv x0 x1 x2 x3 c.n c.s0 c.s1 (mn c.b0) (if m = 2 then mn c.b1 else 0) (mx c.b0) (if m = 2 then mx c.b1 else 0) else ln0
theorem lineV_no {m x0 x1 x2 x3 : Int} {c : Cl} (h : cg m c = false) : lineV m x0 x1 x2 x3 c = ln0 := by unfold lineV; rw [h]; rfl
theorem lineV_1 {x0 x1 x2 x3 : Int} {c : Cl} (h : cg 1 c = true) : lineV 1 x0 x1 x2 x3 c = lnv x0 x1 x2 x3 c.n c.s0 c.s1 (mn c.b0) 0 (mx c.b0) 0 := by unfold lineV; rw [h]; rfl
theorem lineV_2 {x0 x1 x2 x3 : Int} {c : Cl} (h : cg 2 c = true) : lineV 2 x0 x1 x2 x3 c = lnv x0 x1 x2 x3 c.n c.s0 c.s1 (mn c.b0) (mn c.b1) (mx c.b0) (mx c.b1) := by unfold lineV; rw [h]; rfl
theorem rk_ne {n s : Int} {b : List Rn} (h : Rk1 n s b) (hn : 1 ≤ n) : ¬ b = [] := by
  intro e; subst e
  have := h.2.1
  simp [tot] at this
  omega
theorem rk_hase {n s : Int} {b : List Rn} (h : Rk1 n s b) (hn : 1 ≤ n) : lst b = mn b ∧ gst b = mx b ∧ hasE b = true := by
  have h0 := rk_ne h hn
  have hg := gd_yes h.1
  refine ⟨?_, ?_, ?_⟩
  · unfold lst mn; rw [hg]; rfl
  · unfold gst mx; rw [hg]; rfl
  · unfold hasE; rw [hg]; simp [h0]

end Go.Proofs.Ytjkkajhjcinalaa

namespace Go.Proofs.Ytjkkajhjcinalaa
open Go.ChangeShapes Go.WideShapes Go.ChangeAt Go.RowKit
set_option linter.unusedVariables false
set_option linter.unusedSimpArgs false
set_option maxRecDepth 100000

theorem box_five {w : World} {D : Nat} {t : TypeId} {a b c d e : Value} (hD : w.heap[D]? = some (.cells #[a, b, c, d, e] t)) : w.cell? ⟨D, 0, none⟩ = some a ∧ w.cell? ⟨D, 1, none⟩ = some b ∧ w.cell? ⟨D, 2, none⟩ = some c ∧ w.cell? ⟨D, 3, none⟩ = some d ∧ w.cell? ⟨D, 4, none⟩ = some e := by
  refine ⟨?_, ?_, ?_, ?_, ?_⟩ <;> simp [World.cell?, hD]
/-- The two bags of a cell, in a world. -/
def CW (w : World) (a0 : Option Addr) (p0 k0 : Nat) (a1 : Option Addr) (p1 k1 : Nat) (c : Cl) : Prop := NRun w a0 p0 k0 c.b0 ∧ NRun w a1 p1 k1 c.b1
theorem CW.below {w w' : World} {a0 : Option Addr} {p0 k0 : Nat} {a1 : Option Addr} {p1 k1 : Nat} {c : Cl} (h : CW w a0 p0 k0 a1 p1 k1 c) (hb : Below w.heap.size w w') : CW w' a0 p0 k0 a1 p1 k1 c := ⟨h.1.below hb, h.2.below hb⟩
/-- Its numbers are numbers. -/
def okc (c : Cl) : Prop := I64 c.n ∧ I64 c.s0 ∧ I64 c.s1 ∧ (∀ r ∈ c.b0, nok r) ∧ (∀ r ∈ c.b1, nok r)

theorem meas_m (m : Int) (v : Bool) (w : World) (hv : Hid ((decide (m = 1) || decide (m = 2)) = v)) :
    Calls Try.prog 54 #[.int .i64 m] w fun e w' => e = .returned (.bool v) ∧ Below w.heap.size w w' := by
  have h := hv.out
  subst h
  clear hv
  by_cases h1 : 1 ≤ m
  · have h1d : decide (m < 1) = false := decide_eq_false (by omega)
    by_cases h2 : m ≤ 2
    · have h2d : decide (2 < m) = false := decide_eq_false (by omega)
      have hd : (decide (m = 1) || decide (m = 2)) = true := by simp only [Bool.or_eq_true, decide_eq_true_iff]; omega
      rw [hd]
      clear hd
      go_enter Try.func54, Try.ntmps54
      go_wp2
      go_ret
      exact ⟨rfl, Below.refl _ _⟩
    · have h2d : decide (2 < m) = true := decide_eq_true (by omega)
      have hd : (decide (m = 1) || decide (m = 2)) = false := by simp only [Bool.or_eq_false_iff, decide_eq_false_iff_not]; omega
      rw [hd]
      clear hd
      go_enter Try.func54, Try.ntmps54
      go_wp2
      go_ret
      exact ⟨rfl, Below.refl _ _⟩
  · have h1d : decide (m < 1) = true := decide_eq_true (by omega)
    have hd : (decide (m = 1) || decide (m = 2)) = false := by simp only [Bool.or_eq_false_iff, decide_eq_false_iff_not]; omega
    rw [hd]
    clear hd
    go_enter Try.func54, Try.ntmps54
    go_wp2
    go_ret
    exact ⟨rfl, Below.refl _ _⟩

theorem bsum_n (a : Option Addr) (n c : Nat) (l : List Rn) (S : Int) (f : Bool) (w : World) (hl : NRun w a n c l) (hk : ∀ r ∈ l, nok r) (hS : Hid (sv l = S)) (hf : Hid (sb l = f)) :
    Calls Try.prog 97 #[.slice a n c] w fun e w' => e = .returned (.tuple #[.int .i64 S, .bool f]) ∧ Below w.heap.size w w' := by
  have := bsum_any a n c l w hl hk
  rw [hS.out, hf.out] at this
  exact this
theorem tl_rk {n s : Int} {l : List Rn} (h : ¬ tl l = n) : rk n s l = false := rk_no (fun g => h ((tl_yes g.1).trans g.2.1))
theorem tl_bag {n : Int} {l : List Rn} (hn : 1 ≤ n) (h : tl l = n) : Bag l ∧ tot l = n := by
  by_cases hb : Bag l
  · exact ⟨hb, by rw [← h, tl_yes hb]⟩
  · rw [tl_no hb] at h; omega
set_option maxHeartbeats 2000000 in
theorem reck_m (n s : Int) (a : Option Addr) (p k : Nat) (l : List Rn) (v : Bool) (w : World) (hl : NRun w a p k l) (hk : ∀ r ∈ l, nok r) (hn : 1 ≤ n) (hs : I64 s) (hv : Hid (rk n s l = v)) :
    Calls Try.prog 58 #[.int .i64 n, .int .i64 s, .slice a p k] w fun e w' => e = .returned (.bool v) ∧ Below w.heap.size w w' := by
  have h := hv.out
  subst h
  clear hv
  have HL := hid hl
  have HK := hid hk
  clear hl hk
  obtain ⟨T, hT⟩ : ∃ x, tl l = x := ⟨_, rfl⟩
  have FT := hid hT
  by_cases hTn : T = n
  · subst hTn
    obtain ⟨hb, ht⟩ := tl_bag hn hT
    obtain ⟨S, hS⟩ : ∃ x, sv l = x := ⟨_, rfl⟩
    obtain ⟨f, hf⟩ : ∃ x, sb l = x := ⟨_, rfl⟩
    have GS := hid hS
    have FF := hid hf
    rw [(sv_yes (gd_yes hb)).1] at hS
    rw [(sv_yes (gd_yes hb)).2] at hf
    have tt : (T != T) = false := by simp
    cases f with
    | false =>
      have e : rk T s l = false := rk_no (fun g => by have := fitB_i64 hs; rw [← g.2.2, hf] at this; cases this)
      rw [e]
      clear e hT hS hf
      go_enter Try.func58, Try.ntmps58
      go_wp2_with (first
        | (go_at_call 96; refine (count_m a p k l T _ HL.out HK.out FT).mono ?_; rintro e w1 ⟨rfl, hb1⟩; have B1 := hid hb1; clear hb1)
        | (go_at_call 97; refine (bsum_n a p k l S false _ (HL.out.below B1.out) HK.out GS FF).mono ?_; rintro e w2 ⟨rfl, hb2⟩; have B2 := hid (bt B1.out hb2); clear hb2))
      go_ret
      exact ⟨rfl, B2.out⟩
    | true =>
      rw [fitV_yes hf] at hS
      have e : rk T s l = (S == s) := by
        by_cases h : S = s
        · rw [rk_yes ⟨hb, ht, hS.trans h⟩]; simp [h]
        · rw [rk_no (fun g => h (hS.symm.trans g.2.2))]; simp [h]
      rw [e]
      clear e hT hS hf
      go_enter Try.func58, Try.ntmps58
      go_wp2_with (first
        | (go_at_call 96; refine (count_m a p k l T _ HL.out HK.out FT).mono ?_; rintro e w1 ⟨rfl, hb1⟩; have B1 := hid hb1; clear hb1)
        | (go_at_call 97; refine (bsum_n a p k l S true _ (HL.out.below B1.out) HK.out GS FF).mono ?_; rintro e w2 ⟨rfl, hb2⟩; have B2 := hid (bt B1.out hb2); clear hb2))
      go_ret
      exact ⟨rfl, B2.out⟩
  · have tt : (T != n) = true := by simp [hTn]
    rw [tl_rk (by rw [hT]; exact hTn)]
    clear hT
    go_enter Try.func58, Try.ntmps58
    go_wp2_with (go_at_call 96; refine (count_m a p k l T _ HL.out HK.out FT).mono ?_; rintro e w1 ⟨rfl, hb1⟩; have B1 := hid hb1; clear hb1)
    go_ret
    exact ⟨rfl, B1.out⟩

end Go.Proofs.Ytjkkajhjcinalaa

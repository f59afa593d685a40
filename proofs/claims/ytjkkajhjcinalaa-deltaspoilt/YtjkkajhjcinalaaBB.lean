/-
  What tally, Good, Count, Least, Greatest of bag and the document's Good, Count, Has return.
  Conditions: as each theorem states them.
-/
import Derived.Test.YtjkkajhjcinalaaBA
namespace Go.Proofs.Ytjkkajhjcinalaa
open Go.ChangeShapes Go.WideShapes Go.ChangeAt Go.RowKit
set_option linter.unusedVariables false
set_option linter.unusedSimpArgs false
set_option maxRecDepth 100000

/-- All together, or 0 of what may not be. -/
def tl (l : List Rn) : Int := if gd l then tot l else 0
theorem tl_yes {l : List Rn} (h : Bag l) : tl l = tot l := by unfold tl; rw [gd_yes h]; rfl
theorem tl_no {l : List Rn} (h : ¬ Bag l) : tl l = 0 := by unfold tl; rw [gd_no h]; rfl
theorem ret_no {l : List Rn} (h : ¬ Bag l) : Ending.returned (.tuple #[.int .i64 0, .bool false]) = .returned (.tuple #[.int .i64 (tl l), .bool (gd l)]) := by rw [tl_no h, gd_no h]
theorem ret_yes {l : List Rn} {T : Int} (h : Bag l) (e : tot l = T) : Ending.returned (.tuple #[.int .i64 T, .bool true]) = .returned (.tuple #[.int .i64 (tl l), .bool (gd l)]) := by rw [tl_yes h, gd_yes h, e]
theorem bag_no1 {l : List Rn} {k : Nat} {x0 x1 y0 y1 : Int} (hr : l[k]? = some (x0, x1)) (hq : l[k - 1]? = some (y0, y1)) (hk : 0 < k) (h : x0 ≤ y0) : ¬ Bag l := by
  intro hb
  have := (bag_at hb hr).1 _ hq hk
  simp at this
  omega
theorem bag_no2 {l : List Rn} {k : Nat} {x0 x1 : Int} (hr : l[k]? = some (x0, x1)) (h : x1 < 1) : ¬ Bag l := by
  intro hb
  have := (bag_at hb hr).2.1
  simp at this
  omega
theorem bag_no3 {l : List Rn} {k : Nat} {x0 x1 T : Int} (hr : l[k]? = some (x0, x1)) (hT : tot (l.take k) = T) (h : 1099511627776 - T < x1) : ¬ Bag l := by
  intro hb
  have := (bag_at hb hr).2.2.1
  simp at this
  omega
/-- The way of a loop through a bag. -/
def Bgn (l : List Rn) (k : Nat) (T : Int) : Prop := Bag (l.take k) ∧ tot (l.take k) = T ∧ 0 ≤ T ∧ T ≤ 1099511627776
theorem bgn_0 (l : List Rn) : Bgn l 0 0 := ⟨bag_nil, rfl, Int.le_refl _, by decide⟩
theorem bgn_step {l : List Rn} {k : Nat} {T x0 x1 : Int} (h : Bgn l k T) (hr : l[k]? = some (x0, x1)) (h1 : ∀ y0 y1, l[k - 1]? = some (y0, y1) → 0 < k → y0 < x0) (h2 : 1 ≤ x1) (h3 : x1 ≤ 1099511627776 - T) : Bgn l (k + 1) (T + x1) := by
  obtain ⟨hb, ht, h4, h5⟩ := h
  refine ⟨bag_step hb hr (fun q hq hk => ?_) h2 (by rw [ht]; exact h3), ?_, by omega, by omega⟩
  · obtain ⟨y0, y1⟩ := q; exact h1 y0 y1 hq hk
  · rw [tot_step hr, ht]
theorem bgn_all {l : List Rn} {k : Nat} {T : Int} (h : Bgn l k T) (hk : l.length ≤ k) : Bag l ∧ tot l = T := by
  have h1 := h.1; have h2 := h.2.1
  rw [List.take_of_length_le hk] at h1 h2
  exact ⟨h1, h2⟩

set_option maxHeartbeats 4000000 in
theorem tally_any (a : Option Addr) (n c : Nat) (l : List Rn) (w : World) (hl : NRun w a n c l) (hk : ∀ r ∈ l, nok r) :
    Calls Try.prog 101 #[.slice a n c] w fun e w' => e = .returned (.tuple #[.int .i64 (tl l), .bool (gd l)]) ∧ Below w.heap.size w w' := by
  have HL := hid hl
  have HK := hid hk
  obtain ⟨l1, l2⟩ := hl.lens
  have EL := hid l1
  have B0 := hid (bgn_0 l)
  clear hl hk l1
  go_enter Try.func101, Try.ntmps101
  go_wp2
  go_loopw [4, 9] (fun s i wr => ∃ (k : Nat) (T : Int), k ≤ n ∧ i = .int .i64 k ∧ s = .int .i64 T ∧ Hid (Bgn l k T) ∧ Hid (Below w.heap.size w wr)) (fun _ i _ => n - (intOf i).toNat)
  case atStart => exact ⟨0, 0, by omega, rfl, rfl, B0, hid (Below.refl _ _)⟩
  case round =>
    obtain ⟨k, T, hkn, rfl, rfl, BG, BW⟩ := hrel
    have hk0 : (0 : Int) ≤ (k : Int) := by omega
    have T0 := BG.out.2.2.1
    have T1 := BG.out.2.2.2
    by_cases hlt : k < n
    · have hki : (k : Int) < (n : Int) := by omega
      obtain ⟨b, off, x0, x1, rfl, hb, hr, p0, p1⟩ := HL.out.pick BW.out hlt
      have HR := hid hr
      have hn := HK.out _ (List.mem_of_getElem? hr)
      have X1a := hn.2.1
      have X1b := hn.2.2
      have hbw : b < wr.heap.size := Nat.lt_of_lt_of_le hb BW.out.size
      clear hr hn
      simp only at X1a X1b
      by_cases hkp : 0 < k
      · have hg : decide ((0 : Int) < (k : Int)) = true := decide_eq_true (by omega)
        have hgi : (0 : Int) < (k : Int) := by omega
        obtain ⟨j, hj⟩ : ∃ j, k - 1 = j := ⟨_, rfl⟩
        have hjk : (k : Int) - 1 = (j : Int) := by omega
        have hj0 : (0 : Int) ≤ (j : Int) := by omega
        have hjn : (j : Int) < (n : Int) := by omega
        obtain ⟨b', off', y0, y1, e', hb', hq, q0, q1⟩ := HL.out.pick BW.out (k := j) (by omega)
        cases e'
        have HQ := hid hq
        have HJ := hid hj
        have hwj : IntKind.i64.wrap ((k : Int) - 1) = (j : Int) := by rw [hjk]; exact IntWalk.i64_in _ (by omega)
        clear hq hj q1
        have n0 := ((bcell (b1alloc wr (.cells #[.int .i64 x0, .int .i64 x1] 65))).1 b (off + j * 2) hbw).trans q0
        by_cases hA : x0 ≤ y0
        · have hAd : decide (x0 ≤ y0) = true := decide_eq_true hA
          go_wp2
          all_goals (try go_quiet (fail))
          all_goals (try go_wp2)
          go_ret2
          exact ⟨ret_no (bag_no1 HR.out (HJ.out ▸ HQ.out) hkp hA), bdrewN (bt BW.out (b1alloc _ _))⟩
        · have hAd : decide (x0 ≤ y0) = false := decide_eq_false hA
          by_cases hB : x1 < 1
          · have hBd : decide (x1 < 1) = true := decide_eq_true hB
            go_wp2
            all_goals (try go_quiet (fail))
            all_goals (try go_wp2)
            go_ret2
            exact ⟨ret_no (bag_no2 HR.out hB), bdrewN (bt BW.out (b1alloc _ _))⟩
          · have hBd : decide (x1 < 1) = false := decide_eq_false hB
            by_cases hC : 1099511627776 - T < x1
            · have hCd : decide (1099511627776 - T < x1) = true := decide_eq_true hC
              go_wp2
              all_goals (try go_quiet (fail))
              all_goals (try go_wp2)
              go_ret2
              exact ⟨ret_no (bag_no3 HR.out BG.out.2.1 hC), bdrewN (bt BW.out (b1alloc _ _))⟩
            · have hCd : decide (1099511627776 - T < x1) = false := decide_eq_false hC
              go_wp2
              all_goals (try go_quiet (fail))
              all_goals (try go_wp2)
              go_roundw
              case rel => exact ⟨k + 1, T + x1, by omega, by go_num, rfl, hid (bgn_step BG.out HR.out (fun z0 z1 hz _ => by rw [HJ.out, HQ.out] at hz; cases hz; omega) (by omega) (by omega)), hid (bdrewN (bt BW.out (b1alloc _ _)))⟩
              case measure => simp [intOf]; omega
      · have hg : decide ((0 : Int) < (k : Int)) = false := decide_eq_false (by omega)
        by_cases hB : x1 < 1
        · have hBd : decide (x1 < 1) = true := decide_eq_true hB
          go_wp2
          all_goals (try go_quiet (fail))
          all_goals (try go_wp2)
          go_ret2
          exact ⟨ret_no (bag_no2 HR.out hB), bdrewN (bt BW.out (b1alloc _ _))⟩
        · have hBd : decide (x1 < 1) = false := decide_eq_false hB
          by_cases hC : 1099511627776 - T < x1
          · have hCd : decide (1099511627776 - T < x1) = true := decide_eq_true hC
            go_wp2
            all_goals (try go_quiet (fail))
            all_goals (try go_wp2)
            go_ret2
            exact ⟨ret_no (bag_no3 HR.out BG.out.2.1 hC), bdrewN (bt BW.out (b1alloc _ _))⟩
          · have hCd : decide (1099511627776 - T < x1) = false := decide_eq_false hC
            go_wp2
            all_goals (try go_quiet (fail))
            all_goals (try go_wp2)
            go_roundw
            case rel => exact ⟨k + 1, T + x1, by omega, by go_num, rfl, hid (bgn_step BG.out HR.out (fun z0 z1 hz hp => absurd hp hkp) (by omega) (by omega)), hid (bdrewN (bt BW.out (b1alloc _ _)))⟩
            case measure => simp [intOf]; omega
    · have hkf : decide ((k : Int) < (n : Int)) = false := decide_eq_false (by omega)
      obtain ⟨hbag, htot⟩ := bgn_all BG.out (by have := EL.out; omega)
      have HB := hid hbag
      have HT := hid htot
      clear hbag htot
      go_wp2
      go_ret2
      exact ⟨ret_yes HB.out HT.out, BW.out⟩

end Go.Proofs.Ytjkkajhjcinalaa

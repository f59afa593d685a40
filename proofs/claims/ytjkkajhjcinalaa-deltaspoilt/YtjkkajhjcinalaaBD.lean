/-
  Whether two lists of runs are alike: what bag.Same, slices.Equal and the document's Same return.
  Conditions: as each theorem states them.
-/
import Derived.Test.YtjkkajhjcinalaaBC1
namespace Go.Proofs.Ytjkkajhjcinalaa
open Go.ChangeShapes Go.WideShapes Go.ChangeAt Go.RowKit
set_option linter.unusedVariables false
set_option linter.unusedSimpArgs false
set_option maxRecDepth 100000

def sm (l u : List Rn) : Bool := decide (l = u)
theorem sm_yes {l u : List Rn} (h : l = u) : sm l u = true := by unfold sm; rw [decide_eq_true_iff]; exact h
theorem sm_no {l u : List Rn} (h : ¬ l = u) : sm l u = false := by unfold sm; rw [decide_eq_false_iff_not]; exact h
theorem sm_at {l u : List Rn} {k : Nat} {x0 x1 y0 y1 : Int} (hr : l[k]? = some (x0, x1)) (hr' : u[k]? = some (y0, y1)) (h : ¬ (x0 = y0 ∧ x1 = y1)) : sm l u = false :=
  sm_no (fun e => by rw [e, hr'] at hr; cases hr; exact h ⟨rfl, rfl⟩)
set_option maxHeartbeats 2000000 in
theorem rsame_any (a1 a2 : Option Addr) (n c m d : Nat) (l u : List Rn) (w : World) (hl : NRun w a1 n c l) (hu : NRun w a2 m d u) :
    Calls Try.prog 57 #[.slice a1 n c, .slice a2 m d] w fun e w' => e = .returned (.bool (sm l u)) ∧ Below w.heap.size w w' := by
  have HL := hid hl
  have HU := hid hu
  obtain ⟨l1, l2⟩ := hl.lens
  obtain ⟨u1, u2⟩ := hu.lens
  have EL := hid l1
  have EU := hid u1
  have eqn := eqN2
  clear hl hu l1 u1
  by_cases hnm : n = m
  · subst hnm
    go_enter Try.func57, Try.ntmps57
    go_wp2
    go_loopw [5] (fun i wr => ∃ (k : Nat), k ≤ n ∧ i = .int .i64 k ∧ Hid (l.take k = u.take k) ∧ Hid (Below w.heap.size w wr)) (fun i _ => n - (intOf i).toNat)
    case atStart => exact ⟨0, by omega, rfl, hid rfl, hid (Below.refl _ _)⟩
    case round =>
      obtain ⟨k, hkn, rfl, HS, BW⟩ := hrel
      have hk0 : (0 : Int) ≤ (k : Int) := by omega
      by_cases hlt : k < n
      · have hki : (k : Int) < (n : Int) := by omega
        obtain ⟨b, off, x0, x1, rfl, hb, hr, p0, p1⟩ := HL.out.pick BW.out hlt
        obtain ⟨b', off', y0, y1, rfl, hb', hr', q0, q1⟩ := HU.out.pick BW.out hlt
        have HR := hid hr
        have HR' := hid hr'
        clear hr hr'
        by_cases he : x0 = y0 ∧ x1 = y1
        · obtain ⟨rfl, rfl⟩ := he
          have qxx : qn x0 x1 x0 x1 = true := qn_iff.2 ⟨rfl, rfl⟩
          go_wp2
          go_quiet (fail)
          go_wp2
          go_roundw
          case rel => exact ⟨k + 1, by omega, by go_num, hid (by rw [take_one HR.out, take_one HR'.out, HS.out]), hid (bdrewN BW.out)⟩
          case measure => simp [intOf]; omega
        · have qxx : qn x0 x1 y0 y1 = false := by
            cases h : qn x0 x1 y0 y1 with
            | false => rfl
            | true => exact absurd (qn_iff.1 h) he
          have HE := hid he
          clear he
          go_wp2
          go_quiet (fail)
          go_wp2
          go_ret
          exact ⟨ret_bool (sm_at HR.out HR'.out HE.out).symm, bdrewN BW.out⟩
      · have hkf : decide ((k : Int) < (n : Int)) = false := decide_eq_false (by omega)
        have HF : Hid (sm l u = true) := hid (sm_yes (by have h := HS.out; rw [List.take_of_length_le (by have := EL.out; omega), List.take_of_length_le (by have := EU.out; omega)] at h; exact h))
        go_wp2
        go_ret
        exact ⟨ret_bool HF.out.symm, BW.out⟩
  · have hnm' : ((n : Int) == (m : Int)) = false := by simp; omega
    have HF : Hid (sm l u = false) := hid (sm_no (fun e => hnm (by rw [EL.out, EU.out, e])))
    go_enter Try.func57, Try.ntmps57
    go_wp2
    go_ret
    exact ⟨ret_bool HF.out.symm, Below.refl _ _⟩
set_option maxHeartbeats 2000000 in
theorem equal_any (a1 a2 : Option Addr) (n c m d : Nat) (l u : List Rn) (w : World) (hl : NRun w a1 n c l) (hu : NRun w a2 m d u) :
    Calls Try.prog 102 #[.slice a1 n c, .slice a2 m d] w fun e w' => e = .returned (.bool (sm l u)) ∧ Below w.heap.size w w' := by
  have HL := hid hl
  have HU := hid hu
  obtain ⟨l1, l2⟩ := hl.lens
  obtain ⟨u1, u2⟩ := hu.lens
  have EL := hid l1
  have EU := hid u1
  have eqn := eqN2
  clear hl hu l1 u1
  by_cases hnm : n = m
  · subst hnm
    go_enter Try.func102, Try.ntmps102
    go_wp2
    go_loopw [13] (fun i wr => ∃ (k : Nat), k ≤ n ∧ i = .int .i64 k ∧ Hid (l.take k = u.take k) ∧ Hid (Below w.heap.size w wr)) (fun i _ => n - (intOf i).toNat)
    case atStart => exact ⟨0, by omega, rfl, hid rfl, hid (Below.refl _ _)⟩
    case round =>
      obtain ⟨k, hkn, rfl, HS, BW⟩ := hrel
      have hk0 : (0 : Int) ≤ (k : Int) := by omega
      by_cases hlt : k < n
      · have hki : (k : Int) < (n : Int) := by omega
        obtain ⟨b, off, x0, x1, rfl, hb, hr, p0, p1⟩ := HL.out.pick BW.out hlt
        obtain ⟨b', off', y0, y1, rfl, hb', hr', q0, q1⟩ := HU.out.pick BW.out hlt
        have HR := hid hr
        have HR' := hid hr'
        clear hr hr'
        by_cases he : x0 = y0 ∧ x1 = y1
        · obtain ⟨rfl, rfl⟩ := he
          have qxx : qn x0 x1 x0 x1 = true := qn_iff.2 ⟨rfl, rfl⟩
          go_wp2
          go_quiet (fail)
          go_wp2
          go_roundw
          case rel => exact ⟨k + 1, by omega, by go_num, hid (by rw [take_one HR.out, take_one HR'.out, HS.out]), hid (bdrewN BW.out)⟩
          case measure => simp [intOf]; omega
        · have qxx : qn x0 x1 y0 y1 = false := by
            cases h : qn x0 x1 y0 y1 with
            | false => rfl
            | true => exact absurd (qn_iff.1 h) he
          have HE := hid he
          clear he
          go_wp2
          go_quiet (fail)
          go_wp2
          go_ret
          exact ⟨ret_bool (sm_at HR.out HR'.out HE.out).symm, bdrewN BW.out⟩
      · have hkf : decide ((k : Int) < (n : Int)) = false := decide_eq_false (by omega)
        have HF : Hid (sm l u = true) := hid (sm_yes (by have h := HS.out; rw [List.take_of_length_le (by have := EL.out; omega), List.take_of_length_le (by have := EU.out; omega)] at h; exact h))
        go_wp2
        go_ret
        exact ⟨ret_bool HF.out.symm, BW.out⟩
  · have hnm' : ((n : Int) == (m : Int)) = false := by simp; omega
    have HF : Hid (sm l u = false) := hid (sm_no (fun e => hnm (by rw [EL.out, EU.out, e])))
    go_enter Try.func102, Try.ntmps102
    go_wp2
    go_ret
    exact ⟨ret_bool HF.out.symm, Below.refl _ _⟩
theorem rsame_m (a1 a2 : Option Addr) (n c m d : Nat) (l u : List Rn) (v : Bool) (w : World) (hl : NRun w a1 n c l) (hu : NRun w a2 m d u) (hv : Hid (sm l u = v)) :
    Calls Try.prog 57 #[.slice a1 n c, .slice a2 m d] w fun e w' => e = .returned (.bool v) ∧ Below w.heap.size w w' := by
  have := rsame_any a1 a2 n c m d l u w hl hu
  rw [hv.out] at this
  exact this
set_option maxHeartbeats 1000000 in
theorem same_m (a1 a2 : Option Addr) (n c m d : Nat) (l u : List Rn) (v : Bool) (w : World) (hl : NRun w a1 n c l) (hu : NRun w a2 m d u) (hv : Hid (sm l u = v)) :
    Calls Try.prog 68 #[.slice a1 n c, .slice a2 m d] w fun e w' => e = .returned (.bool v) ∧ Below w.heap.size w w' := by
  have h := equal_any a1 a2 n c m d l u w hl hu
  rw [hv.out] at h
  go_enter Try.func68, Try.ntmps68
  go_wp2_with (go_at_call 102; refine h.mono ?_; rintro e w1 ⟨rfl, hb1⟩)
  go_ret
  exact ⟨rfl, hb1⟩

end Go.Proofs.Ytjkkajhjcinalaa

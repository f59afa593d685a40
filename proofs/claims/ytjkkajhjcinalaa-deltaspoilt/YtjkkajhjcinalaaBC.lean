/-
  What Good, Count, Least, Greatest of bag return.
  Conditions: as each theorem states them.
-/
import Derived.Test.YtjkkajhjcinalaaBB
namespace Go.Proofs.Ytjkkajhjcinalaa
open Go.ChangeShapes Go.WideShapes Go.ChangeAt Go.RowKit
set_option linter.unusedVariables false
set_option linter.unusedSimpArgs false
set_option maxRecDepth 100000

theorem tally_m (a : Option Addr) (n c : Nat) (l : List Rn) (T : Int) (v : Bool) (w : World) (hl : NRun w a n c l) (hk : ∀ r ∈ l, nok r) (hT : Hid (tl l = T)) (hv : Hid (gd l = v)) :
    Calls Try.prog 101 #[.slice a n c] w fun e w' => e = .returned (.tuple #[.int .i64 T, .bool v]) ∧ Below w.heap.size w w' := by
  have := tally_any a n c l w hl hk
  rw [hT.out, hv.out] at this
  exact this
set_option maxHeartbeats 1000000 in
theorem good_m (a : Option Addr) (n c : Nat) (l : List Rn) (v : Bool) (w : World) (hl : NRun w a n c l) (hk : ∀ r ∈ l, nok r) (hv : Hid (gd l = v)) :
    Calls Try.prog 100 #[.slice a n c] w fun e w' => e = .returned (.bool v) ∧ Below w.heap.size w w' := by
  have HL := hid hl
  have HK := hid hk
  have hT : Hid (tl l = tl l) := rfl
  generalize tl l = T at hT
  clear hl hk
  go_enter Try.func100, Try.ntmps100
  go_wp2_with (go_at_call 101; refine (tally_m a n c l _ v _ HL.out HK.out (hid rfl) hv).mono ?_; rintro e w1 ⟨rfl, hb1⟩)
  go_ret
  exact ⟨rfl, hb1⟩
set_option maxHeartbeats 1000000 in
theorem count_m (a : Option Addr) (n c : Nat) (l : List Rn) (T : Int) (w : World) (hl : NRun w a n c l) (hk : ∀ r ∈ l, nok r) (hT : Hid (tl l = T)) :
    Calls Try.prog 96 #[.slice a n c] w fun e w' => e = .returned (.int .i64 T) ∧ Below w.heap.size w w' := by
  have HL := hid hl
  have HK := hid hk
  clear hl hk
  go_enter Try.func96, Try.ntmps96
  go_wp2_with (go_at_call 101; refine (tally_m a n c l T _ _ HL.out HK.out hT (hid rfl)).mono ?_; rintro e w1 ⟨rfl, hb1⟩)
  go_ret
  exact ⟨rfl, hb1⟩
/-- The least, the greatest value, or 0. -/
def lst (l : List Rn) : Int := if gd l then (l.headD (0, 0)).1 else 0
def gst (l : List Rn) : Int := if gd l then (l.getLastD (0, 0)).1 else 0
def hasE (l : List Rn) : Bool := gd l && !l.isEmpty
theorem lst_at {l : List Rn} {x0 x1 : Int} (h : gd l = true) (hr : l[0]? = some (x0, x1)) : lst l = x0 ∧ hasE l = true := by
  unfold lst hasE
  cases l with
  | nil => simp at hr
  | cons q l => simp at hr; subst hr; rw [h]; exact ⟨rfl, rfl⟩
theorem gst_at {l : List Rn} {k : Nat} {x0 x1 : Int} (h : gd l = true) (hk : l.length = k + 1) (hr : l[k]? = some (x0, x1)) : gst l = x0 := by
  unfold gst
  rw [h]
  have hl := (List.getElem?_eq_some_iff.1 hr).1
  have : l.getLastD (0, 0) = (x0, x1) := by
    rw [List.getLastD_eq_getLast?, List.getLast?_eq_getElem?, hk, Nat.add_sub_cancel, hr]; rfl
  rw [this]; rfl
theorem ends_no {l : List Rn} (h : gd l = false) : lst l = 0 ∧ gst l = 0 ∧ hasE l = false := by
  unfold lst gst hasE
  rw [h]
  exact ⟨rfl, rfl, rfl⟩
theorem ends_nil : lst [] = 0 ∧ gst [] = 0 ∧ hasE [] = false := by
  have h : gd [] = true := gd_yes bag_nil
  unfold lst gst hasE
  rw [h]
  exact ⟨rfl, rfl, rfl⟩

set_option maxHeartbeats 1000000 in
theorem least_any (a : Option Addr) (n c : Nat) (l : List Rn) (w : World) (hl : NRun w a n c l) (hk : ∀ r ∈ l, nok r) :
    Calls Try.prog 63 #[.slice a n c] w fun e w' => e = .returned (.tuple #[.int .i64 (lst l), .bool (hasE l)]) ∧ Below w.heap.size w w' := by
  have HL := hid hl
  have HK := hid hk
  obtain ⟨l1, l2⟩ := hl.lens
  have EL := hid l1
  clear hl hk l1
  by_cases h0 : n = 0
  · subst h0
    have hy : l = [] := List.length_eq_zero_iff.mp EL.out.symm
    subst hy
    rw [ends_nil.1, ends_nil.2.2]
    go_enter Try.func63, Try.ntmps63
    go_wp2
    go_ret2
    exact ⟨rfl, Below.refl _ _⟩
  · have hn0 : ((n : Int) == 0) = false := by simp; omega
    have h0n : (0 : Int) < (n : Int) := by omega
    cases hg : gd l with
    | false =>
      obtain ⟨e1, _, e3⟩ := ends_no hg
      rw [e1, e3]
      have HG := hid hg
      clear hg e1 e3
      go_enter Try.func63, Try.ntmps63
      go_wp2_with (go_at_call 100; refine (good_m a n c l false _ HL.out HK.out HG).mono ?_; rintro e w1 ⟨rfl, hb1⟩)
      go_ret2
      exact ⟨rfl, hb1⟩
    | true =>
      obtain ⟨b, off, x0, x1, rfl, hb, hr, p0, p1⟩ := HL.out.pick (Below.refl _ w) (k := 0) (by omega)
      obtain ⟨e1, e3⟩ := lst_at hg hr
      rw [e1, e3]
      have HG := hid hg
      clear hg e1 e3 hr
      simp only [Nat.zero_mul, Nat.add_zero] at p0 p1
      go_enter Try.func63, Try.ntmps63
      go_wp2_with (go_at_call 100; refine (good_m _ n c l true _ HL.out HK.out HG).mono ?_; rintro e w1 ⟨rfl, hb1⟩; have q0 := ((bcell hb1).1 _ _ hb).trans p0)
      go_ret2
      exact ⟨rfl, hb1⟩
set_option maxHeartbeats 1000000 in
theorem greatest_any (a : Option Addr) (n c : Nat) (l : List Rn) (w : World) (hl : NRun w a n c l) (hk : ∀ r ∈ l, nok r) :
    Calls Try.prog 64 #[.slice a n c] w fun e w' => e = .returned (.tuple #[.int .i64 (gst l), .bool (hasE l)]) ∧ Below w.heap.size w w' := by
  have HL := hid hl
  have HK := hid hk
  obtain ⟨l1, l2⟩ := hl.lens
  have EL := hid l1
  clear hl hk l1
  by_cases h0 : n = 0
  · subst h0
    have hy : l = [] := List.length_eq_zero_iff.mp EL.out.symm
    subst hy
    rw [ends_nil.2.1, ends_nil.2.2]
    go_enter Try.func64, Try.ntmps64
    go_wp2
    go_ret2
    exact ⟨rfl, Below.refl _ _⟩
  · have hn0 : ((n : Int) == 0) = false := by simp; omega
    have h0n : (0 : Int) < (n : Int) := by omega
    obtain ⟨j, hj⟩ : ∃ j, n - 1 = j := ⟨_, rfl⟩
    have hjk : (n : Int) - 1 = (j : Int) := by omega
    have hj0 : (0 : Int) ≤ (j : Int) := by omega
    have hjn : (j : Int) < (n : Int) := by omega
    have hwj : IntKind.i64.wrap ((n : Int) - 1) = (j : Int) := by rw [hjk]; exact IntWalk.i64_in _ (by omega)
    cases hg : gd l with
    | false =>
      obtain ⟨_, e1, e3⟩ := ends_no hg
      rw [e1, e3]
      have HG := hid hg
      clear hg e1 e3
      go_enter Try.func64, Try.ntmps64
      go_wp2_with (go_at_call 100; refine (good_m a n c l false _ HL.out HK.out HG).mono ?_; rintro e w1 ⟨rfl, hb1⟩)
      go_ret2
      exact ⟨rfl, hb1⟩
    | true =>
      obtain ⟨b, off, x0, x1, rfl, hb, hr, p0, p1⟩ := HL.out.pick (Below.refl _ w) (k := j) (by omega)
      obtain ⟨b', off', z0, z1, e', _, hr0, _, _⟩ := HL.out.pick (Below.refl _ w) (k := 0) (by omega)
      clear e'
      have e1 := gst_at hg (by have := EL.out; omega) hr
      have e3 := (lst_at hg hr0).2
      rw [e1, e3]
      have HG := hid hg
      clear hg e1 e3 hr hr0 hj
      go_enter Try.func64, Try.ntmps64
      go_wp2_with (go_at_call 100; refine (good_m _ n c l true _ HL.out HK.out HG).mono ?_; rintro e w1 ⟨rfl, hb1⟩; have q0 := ((bcell hb1).1 _ _ hb).trans p0)
      go_ret2
      exact ⟨rfl, hb1⟩

end Go.Proofs.Ytjkkajhjcinalaa

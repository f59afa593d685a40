/-
  Cells in a world; what measured, reckoned and Good of cell return.
  Conditions: as each theorem states them.
-/
import Derived.Test.YtjkkajhjcinalaaG3
import Derived.Test.YtjkkajhjcinalaaG1
namespace Go.Proofs.Ytjkkajhjcinalaa
open Go.ChangeShapes Go.WideShapes Go.ChangeAt Go.RowKit
set_option linter.unusedVariables false
set_option linter.unusedSimpArgs false
set_option maxRecDepth 100000

theorem box_five {w : World} {D : Nat} {t : TypeId} {a b c d e : Value} (hD : w.heap[D]? = some (.cells #[a, b, c, d, e] t)) : w.cell? ⟨D, 0, none⟩ = some a ∧ w.cell? ⟨D, 1, none⟩ = some b ∧ w.cell? ⟨D, 2, none⟩ = some c ∧ w.cell? ⟨D, 3, none⟩ = some d ∧ w.cell? ⟨D, 4, none⟩ = some e := by
  refine ⟨?_, ?_, ?_, ?_, ?_⟩ <;> simp [World.cell?, hD]
/-- The two bags of a cell, in a world. -/
def CW (w : World) (a0 : Option Addr) (p0 k0 : Nat) (a1 : Option Addr) (p1 k1 : Nat) (c : Cl) : Prop := NRun w a0 p0 k0 c.b0 ∧ NRun w a1 p1 k1 c.b1
theorem CW.below {w w' : World} {a0 : Option Addr} {p0 k0 : Nat} {a1 : Option Addr} {p1 k1 : Nat} {c : Cl} (h : CW w a0 p0 k0 a1 p1 k1 c) (hb : Below w.heap.size w w') : CW w' a0 p0 k0 a1 p1 k1 c := ⟨h.1.below hb, h.2.below hb⟩
/-- Its numbers are numbers. -/
def okc (c : Cl) : Prop := I64 c.n ∧ I64 c.s0 ∧ I64 c.s1 ∧ (∀ r ∈ c.b0, nok r) ∧ (∀ r ∈ c.b1, nok r)

theorem meas_m (m : Int) (v : Bool) (w : World) (hv : Hid ((decide (m = 1) || decide (m = 2)) = v)) :
    Calls Try.prog 54 #[.int .i64 m] w fun e w' => e = .returned (.bool v) ∧ Below w.heap.size w w' := by
  have h := hv.out
  subst h
  clear hv
  by_cases h1 : 1 ≤ m
  · have h1d : decide (m < 1) = false := decide_eq_false (by omega)
    by_cases h2 : m ≤ 2
    · have h2d : decide (2 < m) = false := decide_eq_false (by omega)
      have hd : (decide (m = 1) || decide (m = 2)) = true := by simp only [Bool.or_eq_true, decide_eq_true_iff]; omega
      rw [hd]
      clear hd
      go_enter Try.func54, Try.ntmps54
      go_wp2
      go_ret
      exact ⟨rfl, Below.refl _ _⟩
    · have h2d : decide (2 < m) = true := decide_eq_true (by omega)
      have hd : (decide (m = 1) || decide (m = 2)) = false := by simp only [Bool.or_eq_false_iff, decide_eq_false_iff_not]; omega
      rw [hd]
      clear hd
      go_enter Try.func54, Try.ntmps54
      go_wp2
      go_ret
      exact ⟨rfl, Below.refl _ _⟩
  · have h1d : decide (m < 1) = true := decide_eq_true (by omega)
    have hd : (decide (m = 1) || decide (m = 2)) = false := by simp only [Bool.or_eq_false_iff, decide_eq_false_iff_not]; omega
    rw [hd]
    clear hd
    go_enter Try.func54, Try.ntmps54
    go_wp2
    go_ret
    exact ⟨rfl, Below.refl _ _⟩

theorem bsum_n (a : Option Addr) (n c : Nat) (l : List Rn) (S : Int) (f : Bool) (w : World) (hl : NRun w a n c l) (hk : ∀ r ∈ l, nok r) (hS : Hid (sv l = S)) (hf : Hid (sb l = f)) :
    Calls Try.prog 97 #[.slice a n c] w fun e w' => e = .returned (.tuple #[.int .i64 S, .bool f]) ∧ Below w.heap.size w w' := by
  have := bsum_any a n c l w hl hk
  rw [hS.out, hf.out] at this
  exact this
theorem tl_rk {n s : Int} {l : List Rn} (h : ¬ tl l = n) : rk n s l = false := rk_no (fun g => h ((tl_yes g.1).trans g.2.1))
theorem tl_bag {n : Int} {l : List Rn} (hn : 1 ≤ n) (h : tl l = n) : Bag l ∧ tot l = n := by
  by_cases hb : Bag l
  · exact ⟨hb, by rw [← h, tl_yes hb]⟩
  · rw [tl_no hb] at h; omega
set_option maxHeartbeats 2000000 in
theorem reck_m (n s : Int) (a : Option Addr) (p k : Nat) (l : List Rn) (v : Bool) (w : World) (hl : NRun w a p k l) (hk : ∀ r ∈ l, nok r) (hn : 1 ≤ n) (hs : I64 s) (hv : Hid (rk n s l = v)) :
    Calls Try.prog 58 #[.int .i64 n, .int .i64 s, .slice a p k] w fun e w' => e = .returned (.bool v) ∧ Below w.heap.size w w' := by
  have h := hv.out
  subst h
  clear hv
  have HL := hid hl
  have HK := hid hk
  clear hl hk
  obtain ⟨T, hT⟩ : ∃ x, tl l = x := ⟨_, rfl⟩
  have FT := hid hT
  by_cases hTn : T = n
  · subst hTn
    obtain ⟨hb, ht⟩ := tl_bag hn hT
    obtain ⟨S, hS⟩ : ∃ x, sv l = x := ⟨_, rfl⟩
    obtain ⟨f, hf⟩ : ∃ x, sb l = x := ⟨_, rfl⟩
    have GS := hid hS
    have FF := hid hf
    rw [(sv_yes (gd_yes hb)).1] at hS
    rw [(sv_yes (gd_yes hb)).2] at hf
    have tt : (T != T) = false := by simp
    cases f with
    | false =>
      have e : rk T s l = false := rk_no (fun g => by have := fitB_i64 hs; rw [← g.2.2, hf] at this; cases this)
      rw [e]
      clear e hT hS hf
      go_enter Try.func58, Try.ntmps58
      go_wp2_with (first
        | (go_at_call 96; refine (count_m a p k l T _ HL.out HK.out FT).mono ?_; rintro e w1 ⟨rfl, hb1⟩; have B1 := hid hb1; clear hb1)
        | (go_at_call 97; refine (bsum_n a p k l S false _ (HL.out.below B1.out) HK.out GS FF).mono ?_; rintro e w2 ⟨rfl, hb2⟩; have B2 := hid (bt B1.out hb2); clear hb2))
      go_ret
      exact ⟨rfl, B2.out⟩
    | true =>
      rw [fitV_yes hf] at hS
      have e : rk T s l = (S == s) := by
        by_cases h : S = s
        · rw [rk_yes ⟨hb, ht, hS.trans h⟩]; simp [h]
        · rw [rk_no (fun g => h (hS.symm.trans g.2.2))]; simp [h]
      rw [e]
      clear e hT hS hf
      go_enter Try.func58, Try.ntmps58
      go_wp2_with (first
        | (go_at_call 96; refine (count_m a p k l T _ HL.out HK.out FT).mono ?_; rintro e w1 ⟨rfl, hb1⟩; have B1 := hid hb1; clear hb1)
        | (go_at_call 97; refine (bsum_n a p k l S true _ (HL.out.below B1.out) HK.out GS FF).mono ?_; rintro e w2 ⟨rfl, hb2⟩; have B2 := hid (bt B1.out hb2); clear hb2))
      go_ret
      exact ⟨rfl, B2.out⟩
  · have tt : (T != n) = true := by simp [hTn]
    rw [tl_rk (by rw [hT]; exact hTn)]
    clear hT
    go_enter Try.func58, Try.ntmps58
    go_wp2_with (go_at_call 96; refine (count_m a p k l T _ HL.out HK.out FT).mono ?_; rintro e w1 ⟨rfl, hb1⟩; have B1 := hid hb1; clear hb1)
    go_ret
    exact ⟨rfl, B1.out⟩

end Go.Proofs.Ytjkkajhjcinalaa

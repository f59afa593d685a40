/-
  The law's own helpers: is a bag's sum told as it is, are its ends told; the chapter's examples.
  Conditions: as each theorem states them.
-/
import Derived.Test.YtgmnnpecihcdhabBT
import Derived.Test.YtgmnnpecihcdhabBE
import Derived.Test.YtgmnnpecihcdhabBO
import Derived.Test.YtgmnnpecihcdhabBP
import Derived.Test.YtgmnnpecihcdhabBH
import Derived.Test.YtgmnnpecihcdhabBI
namespace Go.Proofs.Ytgmnnpecihcdhab
open Go.ChangeShapes Go.WideShapes Go.ChangeAt Go.RowKit
set_option linter.unusedVariables false
set_option linter.unusedSimpArgs false
set_option maxRecDepth 100000

theorem of_m (a : Option Addr) (n c k : Nat) (l : List Int) (M : List Rn) (w : World) (hl : IRow .i64 w a n c l) (hn : n ≤ 1000) (hM : Hid (bagOf l = M)) (hk : Hid (M.length = k)) :
    Calls Try.prog 24 #[.slice a n c] w fun e w' => (∃ A cap, e = .returned (.slice A k cap) ∧ NRun w' A k cap M) ∧ Below w.heap.size w w' := by
  have := of_any a n c l w hl hn
  rw [hM.out, hk.out] at this
  exact this
theorem rof_m (a : Option Addr) (n c k : Nat) (l : List Int) (M : List Rn) (w : World) (hl : IRow .i64 w a n c l) (hn : n ≤ 1000) (hM : Hid (bagOf l = M)) (hk : Hid (M.length = k)) :
    Calls Try.prog 9 #[.slice a n c] w fun e w' => (∃ A cap, e = .returned (.slice A k cap) ∧ NRun w' A k cap M) ∧ Below w.heap.size w w' := by
  have := rof_any a n c l w hl hn
  rw [hM.out, hk.out] at this
  exact this
theorem join_m (a1 a2 : Option Addr) (n c m d k : Nat) (l u M : List Rn) (v : Bool) (w : World) (hl : NRun w a1 n c l) (hu : NRun w a2 m d u) (hk : ∀ r ∈ l, nok r) (hk' : ∀ r ∈ u, nok r) (hn : n ≤ 1000) (hm : m ≤ 1000) (hM : Hid (Jl l u = M)) (hv : Hid (Jn l u = v)) (hl2 : Hid (M.length = k)) :
    Calls Try.prog 18 #[.slice a1 n c, .slice a2 m d] w fun e w' => (∃ A cap, e = .returned (.tuple #[.slice A k cap, .bool v]) ∧ NRun w' A k cap M) ∧ Below w.heap.size w w' := by
  have := join_any a1 a2 n c m d l u w hl hu hk hk' hn hm
  rw [hM.out, hv.out, hl2.out] at this
  exact this
theorem minus_m (a1 a2 : Option Addr) (n c m d k : Nat) (l u M : List Rn) (v : Bool) (w : World) (hl : NRun w a1 n c l) (hu : NRun w a2 m d u) (hk : ∀ r ∈ l, nok r) (hk' : ∀ r ∈ u, nok r) (hn : n ≤ 1000) (hm : m ≤ 1000) (hM : Hid (Ml l u = M)) (hv : Hid (Mn l u = v)) (hl2 : Hid (M.length = k)) :
    Calls Try.prog 19 #[.slice a1 n c, .slice a2 m d] w fun e w' => (∃ A cap, e = .returned (.tuple #[.slice A k cap, .bool v]) ∧ NRun w' A k cap M) ∧ Below w.heap.size w w' := by
  have := minus_any a1 a2 n c m d l u w hl hu hk hk' hn hm
  rw [hM.out, hv.out, hl2.out] at this
  exact this
theorem rjoin_m (a1 a2 : Option Addr) (n c m d k : Nat) (l u M : List Rn) (v : Bool) (w : World) (hl : NRun w a1 n c l) (hu : NRun w a2 m d u) (hk : ∀ r ∈ l, nok r) (hk' : ∀ r ∈ u, nok r) (hn : n ≤ 1000) (hm : m ≤ 1000) (hM : Hid (Jl l u = M)) (hv : Hid (Jn l u = v)) (hl2 : Hid (M.length = k)) :
    Calls Try.prog 20 #[.slice a1 n c, .slice a2 m d] w fun e w' => (∃ A cap, e = .returned (.agg #[.slice A k cap, .bool v]) ∧ NRun w' A k cap M) ∧ Below w.heap.size w w' := by
  have := rjoin_any a1 a2 n c m d l u w hl hu hk hk' hn hm
  rw [hM.out, hv.out, hl2.out] at this
  exact this
theorem rminus_m (a1 a2 : Option Addr) (n c m d k : Nat) (l u M : List Rn) (v : Bool) (w : World) (hl : NRun w a1 n c l) (hu : NRun w a2 m d u) (hk : ∀ r ∈ l, nok r) (hk' : ∀ r ∈ u, nok r) (hn : n ≤ 1000) (hm : m ≤ 1000) (hM : Hid (Ml l u = M)) (hv : Hid (Mn l u = v)) (hl2 : Hid (M.length = k)) :
    Calls Try.prog 21 #[.slice a1 n c, .slice a2 m d] w fun e w' => (∃ A cap, e = .returned (.agg #[.slice A k cap, .bool v]) ∧ NRun w' A k cap M) ∧ Below w.heap.size w w' := by
  have := rminus_any a1 a2 n c m d l u w hl hu hk hk' hn hm
  rw [hM.out, hv.out, hl2.out] at this
  exact this
theorem has_m (a : Option Addr) (n c : Nat) (l : List Rn) (v C : Int) (w : World) (hl : NRun w a n c l) (hk : ∀ r ∈ l, nok r) (hn : n ≤ 1000) (hC : Hid (hs v l = C)) :
    Calls Try.prog 16 #[.slice a n c, .int .i64 v] w fun e w' => e = .returned (.int .i64 C) ∧ Below w.heap.size w w' := by
  have := has_any a n c l v w hl hk (by omega)
  rw [hC.out] at this
  exact this
theorem bsum_m (a : Option Addr) (n c : Nat) (l : List Rn) (S : Int) (f : Bool) (w : World) (hl : NRun w a n c l) (hk : ∀ r ∈ l, nok r) (hS : Hid (sv l = S)) (hf : Hid (sb l = f)) :
    Calls Try.prog 26 #[.slice a n c] w fun e w' => e = .returned (.tuple #[.int .i64 S, .bool f]) ∧ Below w.heap.size w w' := by
  have := bsum_any a n c l w hl hk
  rw [hS.out, hf.out] at this
  exact this
theorem least_m (a : Option Addr) (n c : Nat) (l : List Rn) (S : Int) (f : Bool) (w : World) (hl : NRun w a n c l) (hk : ∀ r ∈ l, nok r) (hS : Hid (lst l = S)) (hf : Hid (hasE l = f)) :
    Calls Try.prog 28 #[.slice a n c] w fun e w' => e = .returned (.tuple #[.int .i64 S, .bool f]) ∧ Below w.heap.size w w' := by
  have := least_any a n c l w hl hk
  rw [hS.out, hf.out] at this
  exact this
theorem greatest_m (a : Option Addr) (n c : Nat) (l : List Rn) (S : Int) (f : Bool) (w : World) (hl : NRun w a n c l) (hk : ∀ r ∈ l, nok r) (hS : Hid (gst l = S)) (hf : Hid (hasE l = f)) :
    Calls Try.prog 29 #[.slice a n c] w fun e w' => e = .returned (.tuple #[.int .i64 S, .bool f]) ∧ Below w.heap.size w w' := by
  have := greatest_any a n c l w hl hk
  rw [hS.out, hf.out] at this
  exact this

set_option maxHeartbeats 2000000 in
theorem lsum_m (a : Option Addr) (n c : Nat) (l : List Rn) (w : World) (hl : NRun w a n c l) (hk : ∀ r ∈ l, nok r) :
    Calls Try.prog 14 #[.slice a n c] w fun e w' => e = .returned (.bool true) ∧ Below w.heap.size w w' := by
  have HL := hid hl
  have HK := hid hk
  clear hl hk
  cases hg : gd l with
  | false =>
    have HS := hid (sv_no hg).1
    have HF := hid (sv_no hg).2
    have HG := hid hg
    clear hg
    go_enter Try.func14, Try.ntmps14
    go_wp2_with (first
      | (go_at_call 26; refine (bsum_m a n c l 0 false _ HL.out HK.out HS HF).mono ?_; rintro e w1 ⟨rfl, hb1⟩; have B1 := hid hb1; clear hb1)
      | (go_at_call 33; refine (wide_any a n c l _ (HL.out.below B1.out) HK.out).mono ?_; rintro e w2 ⟨⟨r2, zh, zl, rfl, u2, v2⟩, hb2⟩; have U2 := hid u2; have V2 := hid v2; have B2 := hid (bt B1.out hb2); clear hb2 u2 v2)
      | (go_at_call 32; refine (back_gen r2 zh zl _ U2.out V2.out).mono ?_; rintro e w3 ⟨⟨x3, f3, rfl⟩, hb3⟩; have B3 := hid (bt B2.out hb3); clear hb3)
      | (go_at_call 11; refine (rgood_m a n c l false _ (HL.out.below B3.out) HK.out HG).mono ?_; rintro e w4 ⟨rfl, hb4⟩; have B4 := hid (bt B3.out hb4); clear hb4))
    go_ret
    exact ⟨rfl, B4.out⟩
  | true =>
    have HB := hid (gd_iff.1 hg)
    obtain ⟨X, hX⟩ : ∃ x, wsum l = x := ⟨_, rfl⟩
    obtain ⟨S, hS⟩ : ∃ x, calc.fitV X = x := ⟨_, rfl⟩
    obtain ⟨f, hf⟩ : ∃ x, calc.fitB X = x := ⟨_, rfl⟩
    have HS : Hid (sv l = S) := hid (by rw [(sv_yes hg).1, hX, hS])
    have HF : Hid (sb l = f) := hid (by rw [(sv_yes hg).2, hX, hf])
    have HG := hid hg
    have QX := hid hX
    have QS := hid hS
    have QF := hid hf
    have HW : Hid (∀ W, NRun W a n c l → Calls Try.prog 33 #[.slice a n c] W fun e w' => e = .returned (.agg #[.bool (calc.ng X), .int .u64 (calc.hi (calc.sz X)), .int .u64 (calc.lo (calc.sz X))]) ∧ Below W.heap.size W w') := hid (fun W h => by have := wide_good a n c l W h HK.out HB.out; rw [hX] at this; exact this)
    have HBk : Hid (∀ W, Calls Try.prog 32 #[.agg #[.bool (calc.ng X), .int .u64 (calc.hi (calc.sz X)), .int .u64 (calc.lo (calc.sz X))]] W fun e w' => e = .returned (.tuple #[.int .i64 S, .bool f]) ∧ Below W.heap.size W w') := hid (fun W => by have := calc.back_any X W; rw [hS, hf] at this; exact this)
    clear hg hX hS hf
    go_enter Try.func14, Try.ntmps14
    go_wp2_with (first
      | (go_at_call 26; refine (bsum_m a n c l S f _ HL.out HK.out HS HF).mono ?_; rintro e w1 ⟨rfl, hb1⟩; have B1 := hid hb1; clear hb1)
      | (go_at_call 33; refine (HW.out _ (HL.out.below B1.out)).mono ?_; rintro e w2 ⟨rfl, hb2⟩; have B2 := hid (bt B1.out hb2); clear hb2)
      | (go_at_call 32; refine (HBk.out _).mono ?_; rintro e w3 ⟨rfl, hb3⟩; have B3 := hid (bt B2.out hb3); clear hb3)
      | (go_at_call 11; refine (rgood_m a n c l true _ (HL.out.below B3.out) HK.out HG).mono ?_; rintro e w4 ⟨rfl, hb4⟩; have B4 := hid (bt B3.out hb4); clear hb4))
    go_ret
    exact ⟨rfl, B4.out⟩

set_option maxHeartbeats 2000000 in
theorem lends_m (a : Option Addr) (n c : Nat) (l : List Rn) (w : World) (hl : NRun w a n c l) (hk : ∀ r ∈ l, nok r) :
    Calls Try.prog 15 #[.slice a n c] w fun e w' => e = .returned (.bool true) ∧ Below w.heap.size w w' := by
  have HL := hid hl
  have HK := hid hk
  obtain ⟨l1, l2⟩ := hl.lens
  have EL := hid l1
  clear hl hk l1
  by_cases hbad : gd l = false ∨ n = 0
  · have h1 : lst l = 0 ∧ gst l = 0 ∧ hasE l = false := by
      rcases hbad with h | h
      · exact ends_no h
      · have : l = [] := List.length_eq_zero_iff.mp (by have := EL.out; omega)
        rw [this]; exact ends_nil
    obtain ⟨g, hg⟩ : ∃ x, gd l = x := ⟨_, rfl⟩
    have HG := hid hg
    have hcase : g = false ∨ n = 0 := by rw [hg] at hbad; exact hbad
    have H1 := hid h1.1
    have H2 := hid h1.2.1
    have H3 := hid h1.2.2
    clear hbad h1 hg
    cases g with
    | false =>
      clear hcase
      go_enter Try.func15, Try.ntmps15
      go_wp2_with (first
        | (go_at_call 28; refine (least_m a n c l 0 false _ HL.out HK.out H1 H3).mono ?_; rintro e w1 ⟨rfl, hb1⟩; have B1 := hid hb1; clear hb1)
        | (go_at_call 29; refine (greatest_m a n c l 0 false _ (HL.out.below B1.out) HK.out H2 H3).mono ?_; rintro e w2 ⟨rfl, hb2⟩; have B2 := hid (bt B1.out hb2); clear hb2)
        | (go_at_call 11; refine (rgood_m a n c l false _ (HL.out.below B2.out) HK.out HG).mono ?_; rintro e w3 ⟨rfl, hb3⟩; have B3 := hid (bt B2.out hb3); clear hb3))
      go_ret
      exact ⟨rfl, B3.out⟩
    | true =>
      obtain rfl : n = 0 := by rcases hcase with h | h; cases h; exact h
      clear hcase
      go_enter Try.func15, Try.ntmps15
      go_wp2_with (first
        | (go_at_call 28; refine (least_m a 0 c l 0 false _ HL.out HK.out H1 H3).mono ?_; rintro e w1 ⟨rfl, hb1⟩; have B1 := hid hb1; clear hb1)
        | (go_at_call 29; refine (greatest_m a 0 c l 0 false _ (HL.out.below B1.out) HK.out H2 H3).mono ?_; rintro e w2 ⟨rfl, hb2⟩; have B2 := hid (bt B1.out hb2); clear hb2)
        | (go_at_call 11; refine (rgood_m a 0 c l true _ (HL.out.below B2.out) HK.out HG).mono ?_; rintro e w3 ⟨rfl, hb3⟩; have B3 := hid (bt B2.out hb3); clear hb3))
      go_ret
      exact ⟨rfl, B3.out⟩
  · have hg : gd l = true := by cases h : gd l with | true => rfl | false => exact absurd (.inl h) hbad
    have hn0 : ¬ n = 0 := fun h => hbad (.inr h)
    obtain ⟨j, hj⟩ : ∃ j, n - 1 = j := ⟨_, rfl⟩
    obtain ⟨b, off, x0, x1, rfl, hb, hr, p0, p1⟩ := HL.out.pick (Below.refl _ w) (k := 0) (by omega)
    obtain ⟨b', off', z0, z1, e', hb', hr', q0, q1⟩ := HL.out.pick (Below.refl _ w) (k := j) (by omega)
    cases e'
    have H1 := hid (lst_at hg hr).1
    have H3 := hid (lst_at hg hr).2
    have H2 := hid (gst_at hg (by have := EL.out; omega) hr')
    have HG := hid hg
    simp only [Nat.zero_mul, Nat.add_zero] at p0
    have hjk : (n : Int) - 1 = (j : Int) := by omega
    have hj0 : (0 : Int) ≤ (j : Int) := by omega
    have hjn : (j : Int) < (n : Int) := by omega
    have hwj : IntKind.i64.wrap ((n : Int) - 1) = (j : Int) := by rw [hjk]; exact IntWalk.i64_in _ (by omega)
    have hnd : ((n : Int) == 0) = false := by simp; omega
    have hni : (0 : Int) < (n : Int) := by omega
    clear hbad hg hr hr' p1 q1 hj
    go_enter Try.func15, Try.ntmps15
    go_wp2_with (first
      | (go_at_call 28; refine (least_m _ n c l x0 true _ HL.out HK.out H1 H3).mono ?_; rintro e w1 ⟨rfl, hb1⟩; have B1 := hid hb1; clear hb1)
      | (go_at_call 29; refine (greatest_m _ n c l z0 true _ (HL.out.below B1.out) HK.out H2 H3).mono ?_; rintro e w2 ⟨rfl, hb2⟩; have B2 := hid (bt B1.out hb2); clear hb2)
      | (go_at_call 11; refine (rgood_m _ n c l true _ (HL.out.below B2.out) HK.out HG).mono ?_; rintro e w3 ⟨rfl, hb3⟩; have B3 := hid (bt B2.out hb3); have c0 := ((bcell B3.out).1 _ _ hb).trans p0; have c1 := ((bcell B3.out).1 _ _ hb).trans q0; clear hb3))
    go_ret
    exact ⟨rfl, B3.out⟩

end Go.Proofs.Ytgmnnpecihcdhab

/-
  What the document's own Levels returns.
  Conditions: as each theorem states them.
-/
import Derived.Test.YtfgphphaopcolaaSA
namespace Go.Proofs.Ytfgphphaopcolaa
open Go.ChangeShapes Go.WideShapes Go.ChangeAt Go.RowKit
set_option linter.unusedVariables false
set_option linter.unusedSimpArgs false

set_option maxHeartbeats 2000000 in
theorem rlevels_any (a : Option Addr) (n c : Nat) (ds : Dims) (M d : Int) (w : World) (hc : Cat w a n c ds) (hM : I64 M) (hd : I64 d) :
    Calls Try.prog 24 #[.agg #[.slice a n c, .int .i64 M], .int .i64 d] w fun e w' => e = .returned (.int .i64 (levC ds M d)) ∧ Below w.heap.size w w' := by
  obtain ⟨e1, e2⟩ := hc.lens
  have E1 : Hid (n = ds.length) := e1
  have HC : Hid (Cat w a n c ds) := hc
  have HM : Hid (I64 M) := hM
  obtain ⟨d1, d2⟩ := hd
  have BX : Hid (Bx w (w.alloc (.cells #[.slice a n c, .int .i64 M] 24)) (.slice a n c) (.int .i64 M)) := bx_new _ _ _ _
  clear e1 hc
  cases hg : goodC ds M with
  | false =>
    have HG : Hid (goodC ds M = false) := hg
    go_enter Try.func24, Try.ntmps24
    go_wp2_with (go_at_call 38; refine (rgoodC_any _ _ _ _ _ _ (HC.out.below BX.out.2.1) HM.out).mono ?_; rintro e w1 ⟨rfl, hb⟩)
    go_ret
    exact ⟨ret_int (levC_no (by rw [HG.out]; simp)).symm, bt BX.out.2.1 hb⟩
  | true =>
    have HG : Hid (goodC ds M = true) := hg
    by_cases h0 : d < 0
    · go_enter Try.func24, Try.ntmps24
      go_wp2_with (go_at_call 38; refine (rgoodC_any _ _ _ _ _ _ (HC.out.below BX.out.2.1) HM.out).mono ?_; rintro e w1 ⟨rfl, hb⟩)
      go_ret
      exact ⟨ret_int (levC_no (by omega)).symm, bt BX.out.2.1 hb⟩
    · have h0f : decide (d < 0) = false := decide_eq_false h0
      obtain ⟨k, rfl⟩ : ∃ k : Nat, d = k := ⟨d.toNat, by omega⟩
      by_cases h1 : n ≤ k
      · have h1t : decide ((n : Int) ≤ (k : Int)) = true := decide_eq_true (by omega)
        go_enter Try.func24, Try.ntmps24
        go_wp2_with (go_at_call 38; refine (rgoodC_any _ _ _ _ _ _ (HC.out.below BX.out.2.1) HM.out).mono ?_; rintro e w1 ⟨rfl, hb⟩; obtain ⟨_, _, c0, c1⟩ := BX.out.step hb)
        go_ret
        exact ⟨ret_int (levC_no (by rw [← E1.out]; omega)).symm, bt BX.out.2.1 hb⟩
      · have h1f : decide ((n : Int) ≤ (k : Int)) = false := decide_eq_false (by omega)
        have h1g : (k : Int) < (n : Int) := by omega
        obtain ⟨b, off, rfl, hb0, sa, sl, sc, ua, ul, uc, S, U, f1, f2, HDm, HSU⟩ := HC.out.get (Below.refl _ _) (k := k) (by omega)
        obtain ⟨l1, l2, l3, l4⟩ := HDm.out.lens
        have L1 : Hid (sl = S.length) := l1
        clear l1 l2 f2
        have hs4 : sl ≤ 4 := by rw [L1.out]; exact (good_p (dims_good HG.out (by rw [← E1.out]; omega) HSU.out)).2.1
        go_enter Try.func24, Try.ntmps24
        go_wp2_with (go_at_call 38; refine (rgoodC_any _ _ _ _ _ _ (HC.out.below BX.out.2.1) HM.out).mono ?_; rintro e w1 ⟨rfl, hb⟩; obtain ⟨_, bel3, c0, c1⟩ := BX.out.step hb; have g1 := ((bcell bel3).1 _ _ hb0).trans f1)
        go_ret
        refine ⟨ret_int ?_, bt BX.out.2.1 hb⟩
        rw [levC_yes HG.out (by rw [← E1.out]; omega), HSU.out, L1.out]

theorem rlevels_m (a : Option Addr) (n c : Nat) (ds : Dims) (M d v : Int) (w : World) (hc : Cat w a n c ds) (hM : I64 M) (hd : I64 d) (hv : levC ds M d = v) :
    Calls Try.prog 24 #[.agg #[.slice a n c, .int .i64 M], .int .i64 d] w fun e w' => e = .returned (.int .i64 v) ∧ Below w.heap.size w w' := by
  have := rlevels_any a n c ds M d w hc hM hd
  rw [hv] at this; exact this

end Go.Proofs.Ytfgphphaopcolaa

/-
  Whatever two int64 a, b: the law CalcRing of the program's package calc (sums and products may change places, what was added is taken away again, a difference is the sum with the other sign where that fits) returns true, and leaves its arguments as they were.
  Conditions: none.
-/
import Derived.Test.YtagcjfcmgfifnaaRows
import Derived.WalkKit
import Derived.ProofKit
import Derived.OpenShut
import Derived.ShutString
import Derived.ChangeOld
import Derived.Below
import Derived.Test.YtagcjfcmgfifnaaH
namespace Go.Proofs.Ytagcjfcmgfifnaa.calcRing
open Go.ChangeShapes Go.WideShapes Go.ChangeAt Go.RowKit
set_option linter.unusedVariables false
set_option linter.unusedSimpArgs false

theorem own : ownKnob Try.prog.godebug = none := by kernel_rfl
theorem laidOut : laidOutB Try.prog = true := by kernel_rfl

set_option maxHeartbeats 4000000 in
theorem walk (a b : Int) (w0 : I64 a) (w1 : I64 b) (w : World) :
    Calls Try.prog 6 #[.int .i64 a, .int .i64 b] w fun e w' => e = .returned (.bool true) ∧ Below w.heap.size w w' := by
  have acc := Below.refl w.heap.size w
  have c1 : b + a = a + b := Int.add_comm b a
  have c2 : b * a = a * b := Int.mul_comm b a
  have c3 : a + -b = a - b := by omega
  have c4 : a + b - b = a := by omega
  obtain ⟨e1, e2⟩ := fit_yes (x := a) w0
  by_cases hf : -9223372036854775808 ≤ a + b ∧ a + b ≤ 9223372036854775807
  · obtain ⟨f1, f2⟩ := fit_yes hf
    have hi1 : I64 (a + b) := hf
    clear hf
    by_cases hn : -9223372036854775808 ≤ -b ∧ -b ≤ 9223372036854775807
    · obtain ⟨g1, g2⟩ := fit_yes hn
      have hi2 : I64 (-b) := hn
      clear hn
      go_enter Try.func6, Try.ntmps6
      go_wp2_with (first
    | (go_at_call 9; refine (add_any _ _ _ (by assumption) (by assumption)).mono ?_; rintro e w' ⟨rfl, rfl⟩)
    | (go_at_call 10; refine (sub_any _ _ _ (by assumption) (by assumption)).mono ?_; rintro e w' ⟨rfl, rfl⟩)
    | (go_at_call 11; refine (mul_any _ _ _ (by assumption) (by assumption)).mono ?_; rintro e w' ⟨rfl, hb'⟩; replace acc := bt acc hb'; clear hb')
    | (go_at_call 12; refine (neg_any _ _ (by assumption)).mono ?_; rintro e w' ⟨rfl, rfl⟩)
    | (go_at_call 20; refine (wakes_any _).mono ?_; rintro e w' ⟨rfl, hb'⟩; replace acc := bt acc hb'; clear hb'))
      go_ret
      exact ⟨rfl, acc⟩
    · obtain ⟨g1, g2⟩ := fit_no hn
      clear hn
      go_enter Try.func6, Try.ntmps6
      go_wp2_with (first
    | (go_at_call 9; refine (add_any _ _ _ (by assumption) (by assumption)).mono ?_; rintro e w' ⟨rfl, rfl⟩)
    | (go_at_call 10; refine (sub_any _ _ _ (by assumption) (by assumption)).mono ?_; rintro e w' ⟨rfl, rfl⟩)
    | (go_at_call 11; refine (mul_any _ _ _ (by assumption) (by assumption)).mono ?_; rintro e w' ⟨rfl, hb'⟩; replace acc := bt acc hb'; clear hb')
    | (go_at_call 12; refine (neg_any _ _ (by assumption)).mono ?_; rintro e w' ⟨rfl, rfl⟩)
    | (go_at_call 20; refine (wakes_any _).mono ?_; rintro e w' ⟨rfl, hb'⟩; replace acc := bt acc hb'; clear hb'))
      go_ret
      exact ⟨rfl, acc⟩
  · obtain ⟨f1, f2⟩ := fit_no hf
    clear hf
    by_cases hn : -9223372036854775808 ≤ -b ∧ -b ≤ 9223372036854775807
    · obtain ⟨g1, g2⟩ := fit_yes hn
      have hi2 : I64 (-b) := hn
      clear hn
      go_enter Try.func6, Try.ntmps6
      go_wp2_with (first
    | (go_at_call 9; refine (add_any _ _ _ (by assumption) (by assumption)).mono ?_; rintro e w' ⟨rfl, rfl⟩)
    | (go_at_call 10; refine (sub_any _ _ _ (by assumption) (by assumption)).mono ?_; rintro e w' ⟨rfl, rfl⟩)
    | (go_at_call 11; refine (mul_any _ _ _ (by assumption) (by assumption)).mono ?_; rintro e w' ⟨rfl, hb'⟩; replace acc := bt acc hb'; clear hb')
    | (go_at_call 12; refine (neg_any _ _ (by assumption)).mono ?_; rintro e w' ⟨rfl, rfl⟩)
    | (go_at_call 20; refine (wakes_any _).mono ?_; rintro e w' ⟨rfl, hb'⟩; replace acc := bt acc hb'; clear hb'))
      go_ret
      exact ⟨rfl, acc⟩
    · obtain ⟨g1, g2⟩ := fit_no hn
      clear hn
      go_enter Try.func6, Try.ntmps6
      go_wp2_with (first
    | (go_at_call 9; refine (add_any _ _ _ (by assumption) (by assumption)).mono ?_; rintro e w' ⟨rfl, rfl⟩)
    | (go_at_call 10; refine (sub_any _ _ _ (by assumption) (by assumption)).mono ?_; rintro e w' ⟨rfl, rfl⟩)
    | (go_at_call 11; refine (mul_any _ _ _ (by assumption) (by assumption)).mono ?_; rintro e w' ⟨rfl, hb'⟩; replace acc := bt acc hb'; clear hb')
    | (go_at_call 12; refine (neg_any _ _ (by assumption)).mono ?_; rintro e w' ⟨rfl, rfl⟩)
    | (go_at_call 20; refine (wakes_any _).mono ?_; rintro e w' ⟨rfl, hb'⟩; replace acc := bt acc hb'; clear hb'))
      go_ret
      exact ⟨rfl, acc⟩

theorem i64_of (x : Int) (h : (Lit.int .i64 x).wf = true) : I64 x := by
  have := bounds_i64 h
  exact this

set_option maxRecDepth 100000 in
theorem lifted (os : Os) (started : os.Started) (H : Type) (enc : TypeId × Value → H) :
    ReturnsInHanded {} Try.checked os 6 .any (Rows.calcRingSpec.pre6 enc Try.prog Try.f6 Rows.calcRingRow.domain false) (Rows.calcRingSpec.post enc Try.prog Try.f6 false true false false) := by
  refine returnsInHanded_of_change (C := Try.checked) own started (by kernel_rfl) Try.func6
    (ChangeSpec.witness6 (enc := enc) (C := Try.checked) false ⟨#[], #[.int .i64 0, .int .i64 0], []⟩ 8 (by kernel_rfl) (by kernel_rfl) (by kernel_rfl) (by kernel_rfl)) ?_
  intro W base args ds gs before hval0 hW hcnd _
  have hval : ∀ (j : Nat) t v, Try.f6.params[j]? = some t → args[j]? = some v → Value.okWide Try.prog W .any base t v := hval0
  have hW' := hW
  obtain ⟨p, q, hA0, hV, rfl, hfz, hnd⟩ := hW
  have hA : DataW.TrodAll enc Try.prog W 0 (fun _ => true) true Try.f6.params.toList args.toList ds p := hA0
  rw [Try.params6] at hA hval
  obtain ⟨v0, vs0, d0, ds0, p0, q0, hargs, rfl, rfl, h0, r0⟩ := trodAll_cons hA
  obtain ⟨v1, vs1, d1, ds1, p1, q1, rfl, rfl, rfl, h1, r1⟩ := trodAll_cons r0
  obtain ⟨rfl, rfl, rfl⟩ := trodAll_nil r1
  obtain rfl : args = #[v0, v1] := by cases args; simp_all
  obtain ⟨rfl, rfl⟩ := trodVars_none hV
  obtain ⟨a0, rfl, rfl, rfl, w0⟩ := open_int Try.underlying2 (hval 0 2 v0 rfl rfl) h0
  obtain ⟨a1, rfl, rfl, rfl, w1⟩ := open_int Try.underlying2 (hval 1 2 v1 rfl rfl) h1
  clear hA0 hval0
  refine (walk a0 a1 (i64_of _ w0) (i64_of _ w1) W).mono fun e W' ⟨he, bel⟩ => ?_
  subst he
  exact ⟨_, rfl, _, _, _, [], _, [], hW', trodAll_mk1 (shut_bool Try.underlying4 _), (trodAll_cons_mk (shut_int Try.underlying2 w0) (trodAll_cons_mk (shut_int Try.underlying2 w1) trodAll_mk0)), rfl, bel.frame _, fun h => by cases h⟩

theorem over : Rows.calcRingRow.holds Try.pinned (OpenSpec.ofChange Rows.calcRingSpec) :=
  OpenClaim.holds_of_wide 6 Try.f6 rfl rfl rfl rfl rfl rfl rfl ⟨rfl, rfl, rfl, rfl, rfl⟩ rfl rfl rfl rfl rfl (by kernel_rfl) Try.func6 (by kernel_rfl)
    (of_decide_eq_true (by kernel_rfl)) (by unfold Func.isWrapper; first | (rw [if_pos (by decide +kernel)]; kernel_rfl) | (rw [if_neg (by decide +kernel)]; exact ⟨rfl, rfl⟩))
    (fun os started H enc _ => lifted os started H enc)

/-- The given statement. -/
theorem proved : Rows.CalcRingSaid := over

end Go.Proofs.Ytagcjfcmgfifnaa.calcRing
namespace Go.Proofs.Ytagcjfcmgfifnaa
theorem calcRing_holds : Rows.CalcRingSaid := calcRing.proved
#print axioms calcRing_holds
end Go.Proofs.Ytagcjfcmgfifnaa

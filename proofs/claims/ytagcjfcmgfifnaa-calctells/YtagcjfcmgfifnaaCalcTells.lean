/-
  Whatever two int64 a, b: the law CalcTells of the program's package calc (sums, differences, products, a number with the other sign, or that they do not fit) returns true, and leaves its arguments as they were.
  Conditions: none.
-/
import Derived.Test.YtagcjfcmgfifnaaRows
import Derived.WalkKit
import Derived.ProofKit
import Derived.OpenShut
import Derived.ShutString
import Derived.ChangeOld
import Derived.Below
import Derived.Test.YtagcjfcmgfifnaaE
import Derived.Test.YtagcjfcmgfifnaaF
import Derived.Test.YtagcjfcmgfifnaaH
namespace Go.Proofs.Ytagcjfcmgfifnaa.calcTells
open Go.ChangeShapes Go.WideShapes Go.ChangeAt Go.RowKit
set_option linter.unusedVariables false
set_option linter.unusedSimpArgs false

theorem own : ownKnob Try.prog.godebug = none := by kernel_rfl
theorem laidOut : laidOutB Try.prog = true := by kernel_rfl

theorem told_eq (z y : Int) (w : World) (h : y = z) :
    Calls Try.prog 13 #[.int .i64 (fitV z), .bool (fitB z), .agg #[.bool (ng y), .int .u64 (hi (sz y)), .int .u64 (lo (sz y))]] w fun e w' => e = .returned (.bool true) ∧ Below w.heap.size w w' := by
  subst h; exact told_any y w

set_option maxHeartbeats 4000000 in
theorem walk (a b : Int) (w0 : I64 a) (w1 : I64 b) (w : World) :
    Calls Try.prog 3 #[.int .i64 a, .int .i64 b] w fun e w' => e = .returned (.bool true) ∧ Below w.heap.size w w' := by
  have acc := Below.refl w.heap.size w
  have sa : sz a ≤ 85070591730234615865843651857942052864 := by have := (sz_bd w0).2; omega
  have sb : sz b ≤ 85070591730234615865843651857942052864 := by have := (sz_bd w1).2; omega
  have sc : sz (-b) ≤ 85070591730234615865843651857942052864 := by rw [sz_minus]; exact sb
  have es : (sz a == sz a) = true := by simp
  go_enter Try.func3, Try.ntmps3
  go_wp2_with (first
    | (go_at_call 9; refine (add_any _ _ _ (by assumption) (by assumption)).mono ?_; rintro e w' ⟨rfl, rfl⟩)
    | (go_at_call 10; refine (sub_any _ _ _ (by assumption) (by assumption)).mono ?_; rintro e w' ⟨rfl, rfl⟩)
    | (go_at_call 11; refine (mul_any _ _ _ (by assumption) (by assumption)).mono ?_; rintro e w' ⟨rfl, hb'⟩; replace acc := bt acc hb'; clear hb')
    | (go_at_call 12; refine (neg_any _ _ (by assumption)).mono ?_; rintro e w' ⟨rfl, rfl⟩)
    | (go_at_call 15; refine (of_any _ _ (by assumption)).mono ?_; rintro e w' ⟨rfl, hb'⟩; replace acc := bt acc hb'; clear hb')
    | (go_at_call 16; refine (minus_any _ _).mono ?_; rintro e w' ⟨rfl, hb'⟩; replace acc := bt acc hb'; clear hb')
    | (go_at_call 14; refine (rplus_any _ _ _ (by assumption) (by assumption)).mono ?_; rintro e w' ⟨rfl, hb'⟩; replace acc := bt acc hb'; clear hb')
    | (go_at_call 17; refine (times_any _ _ _ (by assumption) (by assumption)).mono ?_; rintro e w' ⟨rfl, hb'⟩; replace acc := bt acc hb'; clear hb')
    | (go_at_call 13; refine (told_eq _ _ _ (by omega)).mono ?_; rintro e w' ⟨rfl, hb'⟩; replace acc := bt acc hb'; clear hb')
    | (go_at_call 18; refine (size_any _ _ (by assumption)).mono ?_; rintro e w' ⟨rfl, rfl⟩)
    | (go_at_call 19; refine (rsize_any _ _ (by assumption)).mono ?_; rintro e w' ⟨rfl, rfl⟩)
    | (go_at_call 20; refine (wakes_any _).mono ?_; rintro e w' ⟨rfl, hb'⟩; replace acc := bt acc hb'; clear hb'))
  go_ret
  exact ⟨rfl, acc⟩

theorem i64_of (x : Int) (h : (Lit.int .i64 x).wf = true) : I64 x := by
  have := bounds_i64 h
  exact this

set_option maxRecDepth 100000 in
theorem lifted (os : Os) (started : os.Started) (H : Type) (enc : TypeId × Value → H) :
    ReturnsInHanded {} Try.checked os 3 .any (Rows.calcTellsSpec.pre6 enc Try.prog Try.f3 Rows.calcTellsRow.domain false) (Rows.calcTellsSpec.post enc Try.prog Try.f3 false true false false) := by
  refine returnsInHanded_of_change (C := Try.checked) own started (by kernel_rfl) Try.func3
    (ChangeSpec.witness6 (enc := enc) (C := Try.checked) false ⟨#[], #[.int .i64 0, .int .i64 0], []⟩ 8 (by kernel_rfl) (by kernel_rfl) (by kernel_rfl) (by kernel_rfl)) ?_
  intro W base args ds gs before hval0 hW hcnd _
  have hval : ∀ (j : Nat) t v, Try.f3.params[j]? = some t → args[j]? = some v → Value.okWide Try.prog W .any base t v := hval0
  have hW' := hW
  obtain ⟨p, q, hA0, hV, rfl, hfz, hnd⟩ := hW
  have hA : DataW.TrodAll enc Try.prog W 0 (fun _ => true) true Try.f3.params.toList args.toList ds p := hA0
  rw [Try.params3] at hA hval
  obtain ⟨v0, vs0, d0, ds0, p0, q0, hargs, rfl, rfl, h0, r0⟩ := trodAll_cons hA
  obtain ⟨v1, vs1, d1, ds1, p1, q1, rfl, rfl, rfl, h1, r1⟩ := trodAll_cons r0
  obtain ⟨rfl, rfl, rfl⟩ := trodAll_nil r1
  obtain rfl : args = #[v0, v1] := by cases args; simp_all
  obtain ⟨rfl, rfl⟩ := trodVars_none hV
  obtain ⟨a0, rfl, rfl, rfl, w0⟩ := open_int Try.underlying2 (hval 0 2 v0 rfl rfl) h0
  obtain ⟨a1, rfl, rfl, rfl, w1⟩ := open_int Try.underlying2 (hval 1 2 v1 rfl rfl) h1
  clear hA0 hval0
  refine (walk a0 a1 (i64_of _ w0) (i64_of _ w1) W).mono fun e W' ⟨he, bel⟩ => ?_
  subst he
  exact ⟨_, rfl, _, _, _, [], _, [], hW', trodAll_mk1 (shut_bool Try.underlying4 _), (trodAll_cons_mk (shut_int Try.underlying2 w0) (trodAll_cons_mk (shut_int Try.underlying2 w1) trodAll_mk0)), rfl, bel.frame _, fun h => by cases h⟩

theorem over : Rows.calcTellsRow.holds Try.pinned (OpenSpec.ofChange Rows.calcTellsSpec) :=
  OpenClaim.holds_of_wide 3 Try.f3 rfl rfl rfl rfl rfl rfl rfl ⟨rfl, rfl, rfl, rfl, rfl⟩ rfl rfl rfl rfl rfl (by kernel_rfl) Try.func3 (by kernel_rfl)
    (of_decide_eq_true (by kernel_rfl)) (by unfold Func.isWrapper; first | (rw [if_pos (by decide +kernel)]; kernel_rfl) | (rw [if_neg (by decide +kernel)]; exact ⟨rfl, rfl⟩))
    (fun os started H enc _ => lifted os started H enc)

/-- The given statement. -/
theorem proved : Rows.CalcTellsSaid := over

end Go.Proofs.Ytagcjfcmgfifnaa.calcTells
namespace Go.Proofs.Ytagcjfcmgfifnaa
theorem calcTells_holds : Rows.CalcTellsSaid := calcTells.proved
#print axioms calcTells_holds
end Go.Proofs.Ytagcjfcmgfifnaa

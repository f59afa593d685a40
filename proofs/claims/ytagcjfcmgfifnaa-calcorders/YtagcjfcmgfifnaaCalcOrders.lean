/-
  Whatever six int64: the law CalcOrders of the program's package calc (products turned round are in the other order, by 1 they are the numbers, and what is above one that is above another one is above that) returns true, and leaves its arguments as they were.
  Conditions: none.
-/
import Derived.Test.YtagcjfcmgfifnaaRows
import Derived.WalkKit
import Derived.ProofKit
import Derived.OpenShut
import Derived.ShutString
import Derived.ChangeOld
import Derived.Below
import Derived.Test.YtagcjfcmgfifnaaL1
import Derived.Test.YtagcjfcmgfifnaaL2
namespace Go.Proofs.Ytagcjfcmgfifnaa.calcOrders
open Go.ChangeShapes Go.WideShapes Go.ChangeAt Go.RowKit
set_option linter.unusedVariables false
set_option linter.unusedSimpArgs false

theorem own : ownKnob Try.prog.godebug = none := by kernel_rfl
theorem laidOut : laidOutB Try.prog = true := by kernel_rfl

theorem walk (a0 a1 b0 b1 c0 c1 : Int) (w : World) (ha : I64 a0) (ha' : I64 a1) (hb : I64 b0) (hb' : I64 b1) (hc : I64 c0) (hc' : I64 c1) :
    Calls Try.prog 8 #[.agg #[.int .i64 a0, .int .i64 a1], .agg #[.int .i64 b0, .int .i64 b1], .agg #[.int .i64 c0, .int .i64 c1]] w fun e w' => e = .returned (.bool true) ∧ Below w.heap.size w w' := by
  have o := sg_opp (a0 * a1) (b0 * b1)
  have t : sg (a1 * a0) (b0 * b1) = sg (a0 * a1) (b0 * b1) := by rw [Int.mul_comm a1 a0]
  rcases sg_three (a0 * a1) (b0 * b1) (c0 * c1) with ⟨e1, e2, e3⟩ | ⟨e1, e2, e3⟩ | ⟨e1, e2, e3⟩ | ⟨e1, e2, e3⟩ | ⟨e1, e2, e3⟩ | ⟨e1, e2, e3⟩ | ⟨e1, e2, e3⟩ | ⟨e1, e2, e3⟩ | ⟨e1, e2, e3⟩ | ⟨e1, e2, e3⟩ | ⟨e1, e2, e3⟩ | ⟨e1, e2, e3⟩ | ⟨e1, e2, e3⟩
  · exact orders_case0 _ _ _ _ a0 a1 b0 b1 c0 c1 w ha ha' hb hb' hc hc' rfl rfl t rfl rfl (sg_f1 _ _) (sg_f2 _ _) ⟨e1, by simp [o, e1], e2, e3⟩
  · exact orders_case1 _ _ _ _ a0 a1 b0 b1 c0 c1 w ha ha' hb hb' hc hc' rfl rfl t rfl rfl (sg_f1 _ _) (sg_f2 _ _) ⟨e1, by simp [o, e1], e2, e3⟩
  · exact orders_case2 _ _ _ _ a0 a1 b0 b1 c0 c1 w ha ha' hb hb' hc hc' rfl rfl t rfl rfl (sg_f1 _ _) (sg_f2 _ _) ⟨e1, by simp [o, e1], e2, e3⟩
  · exact orders_case3 _ _ _ _ a0 a1 b0 b1 c0 c1 w ha ha' hb hb' hc hc' rfl rfl t rfl rfl (sg_f1 _ _) (sg_f2 _ _) ⟨e1, by simp [o, e1], e2, e3⟩
  · exact orders_case4 _ _ _ _ a0 a1 b0 b1 c0 c1 w ha ha' hb hb' hc hc' rfl rfl t rfl rfl (sg_f1 _ _) (sg_f2 _ _) ⟨e1, by simp [o, e1], e2, e3⟩
  · exact orders_case5 _ _ _ _ a0 a1 b0 b1 c0 c1 w ha ha' hb hb' hc hc' rfl rfl t rfl rfl (sg_f1 _ _) (sg_f2 _ _) ⟨e1, by simp [o, e1], e2, e3⟩
  · exact orders_case6 _ _ _ _ a0 a1 b0 b1 c0 c1 w ha ha' hb hb' hc hc' rfl rfl t rfl rfl (sg_f1 _ _) (sg_f2 _ _) ⟨e1, by simp [o, e1], e2, e3⟩
  · exact orders_case7 _ _ _ _ a0 a1 b0 b1 c0 c1 w ha ha' hb hb' hc hc' rfl rfl t rfl rfl (sg_f1 _ _) (sg_f2 _ _) ⟨e1, by simp [o, e1], e2, e3⟩
  · exact orders_case8 _ _ _ _ a0 a1 b0 b1 c0 c1 w ha ha' hb hb' hc hc' rfl rfl t rfl rfl (sg_f1 _ _) (sg_f2 _ _) ⟨e1, by simp [o, e1], e2, e3⟩
  · exact orders_case9 _ _ _ _ a0 a1 b0 b1 c0 c1 w ha ha' hb hb' hc hc' rfl rfl t rfl rfl (sg_f1 _ _) (sg_f2 _ _) ⟨e1, by simp [o, e1], e2, e3⟩
  · exact orders_case10 _ _ _ _ a0 a1 b0 b1 c0 c1 w ha ha' hb hb' hc hc' rfl rfl t rfl rfl (sg_f1 _ _) (sg_f2 _ _) ⟨e1, by simp [o, e1], e2, e3⟩
  · exact orders_case11 _ _ _ _ a0 a1 b0 b1 c0 c1 w ha ha' hb hb' hc hc' rfl rfl t rfl rfl (sg_f1 _ _) (sg_f2 _ _) ⟨e1, by simp [o, e1], e2, e3⟩
  · exact orders_case12 _ _ _ _ a0 a1 b0 b1 c0 c1 w ha ha' hb hb' hc hc' rfl rfl t rfl rfl (sg_f1 _ _) (sg_f2 _ _) ⟨e1, by simp [o, e1], e2, e3⟩

set_option maxRecDepth 100000 in
theorem lifted (os : Os) (started : os.Started) (H : Type) (enc : TypeId × Value → H) :
    ReturnsInHanded {} Try.checked os 8 .any (Rows.calcOrdersSpec.pre6 enc Try.prog Try.f8 Rows.calcOrdersRow.domain false) (Rows.calcOrdersSpec.post enc Try.prog Try.f8 false true false false) := by
  refine returnsInHanded_of_change (C := Try.checked) own started (by kernel_rfl) Try.func8
    (ChangeSpec.witness6 (enc := enc) (C := Try.checked) false ⟨#[], #[.agg #[.int .i64 0, .int .i64 0], .agg #[.int .i64 0, .int .i64 0], .agg #[.int .i64 0, .int .i64 0]], []⟩ 8 (by kernel_rfl) (by kernel_rfl) (by kernel_rfl) (by kernel_rfl)) ?_
  intro W base args ds gs before hval0 hW hcnd _
  have hval : ∀ (j : Nat) t v, Try.f8.params[j]? = some t → args[j]? = some v → Value.okWide Try.prog W .any base t v := hval0
  have hW' := hW
  obtain ⟨p, q, hA0, hV, rfl, hfz, hnd⟩ := hW
  have hA : DataW.TrodAll enc Try.prog W 0 (fun _ => true) true Try.f8.params.toList args.toList ds p := hA0
  rw [Try.params8] at hA hval
  obtain ⟨v0, vs0, d0, ds0, p0, q0, hargs, rfl, rfl, h0, r0⟩ := trodAll_cons hA
  obtain ⟨v1, vs1, d1, ds1, p1, q1, rfl, rfl, rfl, h1, r1⟩ := trodAll_cons r0
  obtain ⟨v2, vs2, d2, ds2, p2, q2, rfl, rfl, rfl, h2, r2⟩ := trodAll_cons r1
  obtain ⟨rfl, rfl, rfl⟩ := trodAll_nil r2
  obtain rfl : args = #[v0, v1, v2] := by cases args; simp_all
  obtain ⟨rfl, rfl⟩ := trodVars_none hV
  have k0 := h0
  have k1 := h1
  have k2 := h2
  have lt0 : ∀ x ∈ p0, x.block < W.heap.size := by obtain ⟨m, hm⟩ := k0; exact DataW.trod_lt m _ _ _ hm
  have lt1 : ∀ x ∈ p1, x.block < W.heap.size := by obtain ⟨m, hm⟩ := k1; exact DataW.trod_lt m _ _ _ hm
  have lt2 : ∀ x ∈ p2, x.block < W.heap.size := by obtain ⟨m, hm⟩ := k2; exact DataW.trod_lt m _ _ _ hm
  obtain ⟨a0, a1, rfl, ha, ha'⟩ := open_arr2 (hval 0 45 v0 rfl rfl) h0
  obtain ⟨b0, b1, rfl, hb, hb'⟩ := open_arr2 (hval 1 45 v1 rfl rfl) h1
  obtain ⟨c0, c1, rfl, hc, hc'⟩ := open_arr2 (hval 2 45 v2 rfl rfl) h2
  clear hA0 hval0
  refine (walk a0 a1 b0 b1 c0 c1 W ha ha' hb hb' hc hc').mono fun e W' ⟨he, bel⟩ => ?_
  subst he
  exact ⟨_, rfl, _, _, _, [], _, [], hW', trodAll_mk1 (shut_bool Try.underlying4 _), (trodAll_cons_mk (Below.trod laidOut (by kernel_rfl) (of_decide_eq_true (by kernel_rfl)) k0 bel lt0) (trodAll_cons_mk (Below.trod laidOut (by kernel_rfl) (of_decide_eq_true (by kernel_rfl)) k1 bel lt1) (trodAll_cons_mk (Below.trod laidOut (by kernel_rfl) (of_decide_eq_true (by kernel_rfl)) k2 bel lt2) trodAll_mk0))), rfl, bel.frame _, fun h => by cases h⟩

theorem over : Rows.calcOrdersRow.holds Try.pinned (OpenSpec.ofChange Rows.calcOrdersSpec) :=
  OpenClaim.holds_of_wide 8 Try.f8 rfl rfl rfl rfl rfl rfl rfl ⟨rfl, rfl, rfl, rfl, rfl⟩ rfl rfl rfl rfl rfl (by kernel_rfl) Try.func8 (by kernel_rfl)
    (of_decide_eq_true (by kernel_rfl)) (by unfold Func.isWrapper; first | (rw [if_pos (by decide +kernel)]; kernel_rfl) | (rw [if_neg (by decide +kernel)]; exact ⟨rfl, rfl⟩))
    (fun os started H enc _ => lifted os started H enc)

/-- The given statement. -/
theorem proved : Rows.CalcOrdersSaid := over

end Go.Proofs.Ytagcjfcmgfifnaa.calcOrders
namespace Go.Proofs.Ytagcjfcmgfifnaa
theorem calcOrders_holds : Rows.CalcOrdersSaid := calcOrders.proved
#print axioms calcOrders_holds
end Go.Proofs.Ytagcjfcmgfifnaa

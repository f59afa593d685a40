/-
  Whatever slice of int64: the law CalcTotals of the program's package calc (the sum of any numbers, whatever sums there are on the way) returns true, and leaves its argument as it was.
  Conditions: none.
-/
import Derived.Test.YtagcjfcmgfifnaaRows
import Derived.WalkKit
import Derived.ProofKit
import Derived.OpenShut
import Derived.ShutString
import Derived.ChangeOld
import Derived.Below
import Derived.Test.YtagcjfcmgfifnaaJ
namespace Go.Proofs.Ytagcjfcmgfifnaa.calcTotals
open Go.ChangeShapes Go.WideShapes Go.ChangeAt Go.RowKit
set_option linter.unusedVariables false
set_option linter.unusedSimpArgs false

theorem own : ownKnob Try.prog.godebug = none := by kernel_rfl
theorem laidOut : laidOutB Try.prog = true := by kernel_rfl

theorem row_i64 {w : World} {a : Option Addr} {len cap : Nat} {zs : List Int} (h : IsRow w a len cap zs) : ∀ x ∈ zs, I64 x := by
  rcases h with ⟨_, _, _, rfl⟩ | ⟨x, _, _, _, _, _, hwz⟩
  · intro x hx; simp at hx
  · intro n hn; exact bounds_i64 (hwz n hn)

set_option maxHeartbeats 2000000 in
theorem walk (a : Option Addr) (len cap : Nat) (zs : List Int) (w : World) (w0 : IsRow w a len cap zs) :
    Calls Try.prog 4 #[.slice a len cap] w fun e w' => e = .returned (.bool true) ∧ Below w.heap.size w w' := by
  have acc := Below.refl w.heap.size w
  have hz := row_i64 w0
  rcases row_cases w0 with rfl | ⟨h0, b, off, rfl, hb, hl, hlc, hcm, hzc, hc⟩
  · go_enter Try.func4, Try.ntmps4
    go_wp2_with (first
    | (go_at_call 21; refine (total_0 _ _ _).mono ?_; rintro e w' ⟨rfl, hb'⟩; replace acc := bt acc hb'; clear hb')
    | (go_at_call 22; refine (rtotal_0 _ _ _).mono ?_; rintro e w' ⟨rfl, hb'⟩; replace acc := bt acc hb'; clear hb')
    | (go_at_call 20; refine (wakes_any _).mono ?_; rintro e w' ⟨rfl, hb'⟩; replace acc := bt acc hb'; clear hb'))
    go_ret
    exact ⟨rfl, acc⟩
  · have HC : Hid (∀ k, k < cap → w.cell? ⟨b, off + k, none⟩ = some (.int .i64 (zs.getD k 0))) := hc
    clear hc w0
    unfold maxLen at hcm
    by_cases hbig : 2000 < len
    · go_enter Try.func4, Try.ntmps4
      go_wp2_with (first
    | (go_at_call 21; refine (total_any b off len cap zs _ hl (by omega) (Nat.lt_of_lt_of_le hb acc.size) (fun k hk => (acc.cell (by exact hb)).trans (HC.out k (by omega))) hz).mono ?_; rintro e w' ⟨rfl, hb'⟩; replace acc := bt acc hb'; clear hb')
    | (go_at_call 22; refine (rtotal_any b off len cap zs _ hl (by omega) (Nat.lt_of_lt_of_le hb acc.size) (fun k hk => (acc.cell (by exact hb)).trans (HC.out k (by omega))) hz).mono ?_; rintro e w' ⟨rfl, hb'⟩; replace acc := bt acc hb'; clear hb')
    | (go_at_call 20; refine (wakes_any _).mono ?_; rintro e w' ⟨rfl, hb'⟩; replace acc := bt acc hb'; clear hb'))
      go_ret
      exact ⟨rfl, acc⟩
    · go_enter Try.func4, Try.ntmps4
      go_wp2_with (first
    | (go_at_call 21; refine (total_any b off len cap zs _ hl (by omega) (Nat.lt_of_lt_of_le hb acc.size) (fun k hk => (acc.cell (by exact hb)).trans (HC.out k (by omega))) hz).mono ?_; rintro e w' ⟨rfl, hb'⟩; replace acc := bt acc hb'; clear hb')
    | (go_at_call 22; refine (rtotal_any b off len cap zs _ hl (by omega) (Nat.lt_of_lt_of_le hb acc.size) (fun k hk => (acc.cell (by exact hb)).trans (HC.out k (by omega))) hz).mono ?_; rintro e w' ⟨rfl, hb'⟩; replace acc := bt acc hb'; clear hb')
    | (go_at_call 20; refine (wakes_any _).mono ?_; rintro e w' ⟨rfl, hb'⟩; replace acc := bt acc hb'; clear hb'))
      go_ret
      exact ⟨rfl, acc⟩

set_option maxRecDepth 100000 in
theorem lifted (os : Os) (started : os.Started) (H : Type) (enc : TypeId × Value → H) :
    ReturnsInHanded {} Try.checked os 4 .any (Rows.calcTotalsSpec.pre6 enc Try.prog Try.f4 Rows.calcTotalsRow.domain false) (Rows.calcTotalsSpec.post enc Try.prog Try.f4 false true false false) := by
  refine returnsInHanded_of_change (C := Try.checked) own started (by kernel_rfl) Try.func4
    (ChangeSpec.witness6 (enc := enc) (C := Try.checked) false ⟨#[], #[.slice none 0 0], []⟩ 8 (by kernel_rfl) (by kernel_rfl) (by kernel_rfl) (by kernel_rfl)) ?_
  intro W base args ds gs before hval0 hW hcnd _
  have hval : ∀ (j : Nat) t v, Try.f4.params[j]? = some t → args[j]? = some v → Value.okWide Try.prog W .any base t v := hval0
  have hW' := hW
  obtain ⟨p, q, hA0, hV, rfl, hfz, hnd⟩ := hW
  have hA : DataW.TrodAll enc Try.prog W 0 (fun _ => true) true Try.f4.params.toList args.toList ds p := hA0
  rw [Try.params4] at hA hval
  obtain ⟨v0, vs0, d0, ds0, p0, q0, hargs, rfl, rfl, h0, r0⟩ := trodAll_cons hA
  obtain ⟨rfl, rfl, rfl⟩ := trodAll_nil r0
  obtain rfl : args = #[v0] := by cases args; simp_all
  obtain ⟨rfl, rfl⟩ := trodVars_none hV
  obtain ⟨a0, len0, cap0, rfl⟩ := okWide_slice Try.underlying36 (hval 0 36 v0 rfl rfl)
  have k0 := h0
  have lt0 : ∀ x ∈ p0, x.block < W.heap.size := by obtain ⟨m, hm⟩ := k0; exact DataW.trod_lt m _ _ _ hm
  obtain ⟨z0, w0⟩ : ∃ zs, IsRow W a0 len0 cap0 zs := by
    obtain ⟨fuel, hf⟩ := h0
    rcases open_ints Try.underlying36 Try.underlying2 (by kernel_rfl) hf with ⟨hcs, _⟩ | ⟨x, l, c, zs, hcs, _, hl, hm, hz, _, hcell, hwz⟩
    · simp [Value.cells] at hcs
      obtain ⟨rfl, rfl, rfl⟩ := hcs
      exact ⟨[], .inl ⟨rfl, rfl, rfl, rfl⟩⟩
    · simp [Value.cells] at hcs
      obtain ⟨rfl, rfl, rfl⟩ := hcs
      exact ⟨zs, .inr ⟨_, rfl, hl, hm, by simpa using hz, hcell, hwz⟩⟩
  clear hA0 hval0
  refine (walk a0 len0 cap0 z0 W w0).mono fun e W' ⟨he, bel⟩ => ?_
  subst he
  exact ⟨_, rfl, _, _, _, [], _, [], hW', trodAll_mk1 (shut_bool Try.underlying4 _), (trodAll_cons_mk (Below.trod laidOut (by kernel_rfl) (of_decide_eq_true (by kernel_rfl)) k0 bel lt0) trodAll_mk0), rfl, bel.frame _, fun h => by cases h⟩

theorem over : Rows.calcTotalsRow.holds Try.pinned (OpenSpec.ofChange Rows.calcTotalsSpec) :=
  OpenClaim.holds_of_wide 4 Try.f4 rfl rfl rfl rfl rfl rfl rfl ⟨rfl, rfl, rfl, rfl, rfl⟩ rfl rfl rfl rfl rfl (by kernel_rfl) Try.func4 (by kernel_rfl)
    (of_decide_eq_true (by kernel_rfl)) (by unfold Func.isWrapper; first | (rw [if_pos (by decide +kernel)]; kernel_rfl) | (rw [if_neg (by decide +kernel)]; exact ⟨rfl, rfl⟩))
    (fun os started H enc _ => lifted os started H enc)

/-- The given statement. -/
theorem proved : Rows.CalcTotalsSaid := over

end Go.Proofs.Ytagcjfcmgfifnaa.calcTotals
namespace Go.Proofs.Ytagcjfcmgfifnaa
theorem calcTotals_holds : Rows.CalcTotalsSaid := calcTotals.proved
#print axioms calcTotals_holds
end Go.Proofs.Ytagcjfcmgfifnaa

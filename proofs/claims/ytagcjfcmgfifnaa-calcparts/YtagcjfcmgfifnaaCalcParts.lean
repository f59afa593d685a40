/-
  Whatever slice of int64, whatever int: the law CalcParts of the program's package calc (a sum may be taken in parts, and turned round) returns true, and leaves its arguments as they were.
  Conditions: none.
-/
import Derived.Test.YtagcjfcmgfifnaaRows
import Derived.WalkKit
import Derived.ProofKit
import Derived.OpenShut
import Derived.ShutString
import Derived.ChangeOld
import Derived.Below
import Derived.Test.YtagcjfcmgfifnaaP
import Derived.Test.YtagcjfcmgfifnaaQ
namespace Go.Proofs.Ytagcjfcmgfifnaa.calcParts
open Go.ChangeShapes Go.WideShapes Go.ChangeAt Go.RowKit
set_option linter.unusedVariables false
set_option linter.unusedSimpArgs false

theorem own : ownKnob Try.prog.godebug = none := by kernel_rfl
theorem laidOut : laidOutB Try.prog = true := by kernel_rfl

theorem row_i64 {w : World} {a : Option Addr} {len cap : Nat} {zs : List Int} (h : IsRow w a len cap zs) : ∀ x ∈ zs, I64 x := by
  rcases h with ⟨_, _, _, rfl⟩ | ⟨x, _, _, _, _, _, hwz⟩
  · intro x hx; simp at hx
  · intro n hn; exact bounds_i64 (hwz n hn)

set_option maxHeartbeats 2000000 in
theorem empty_walk (a : Option Addr) (cap : Nat) (n : Int) (w : World) (hcap : cap ≤ 9223372036854775807) :
    Calls Try.prog 7 #[.slice a 0 cap, .int .i64 n] w fun e w' => e = .returned (.bool true) ∧ Below w.heap.size w w' := by
  obtain ⟨i0, hi, hz0, hz1, hz2⟩ := info_parts Try.info2
  have hr : n.tmod 1 = 0 := by simp
  have f1 : fitB 0 = true := by decide
  have f2 : fitV 0 = 0 := by decide
  have i1 : I64 0 := i64_0
  go_enter Try.func7, Try.ntmps7
  go_wp2_with (first
    | (at_make; refine wpList_make_own _ rfl _ _ 36 rfl w.heap.size 2 i0 (.int .i64 0) 1 Try.underlying36 hi hz0 hz1 .i64 .i64 _ 0 rfl rfl rfl (by rw [hz2]; omega) (by unfold maxLen; omega) (Nat.le_refl _) ?_; intro w0 hown0 hgrow0))
  go_loopw [6, 7] (fun v i wr => v = .slice (some ⟨w.heap.size, 0, none⟩) 0 0 ∧ i = .int .i64 (-1) ∧ Below w.heap.size w wr) (fun _ _ _ => 0)
  case atStart => exact ⟨rfl, rfl, (Below.refl _ _).grown hgrow0 (Nat.le_refl _) (fun k h => by cases h)⟩
  case round =>
    obtain ⟨rfl, rfl, hbel⟩ := hrel
    have acc := Below.refl wr.heap.size wr
    have HB : Hid (Below w.heap.size w wr) := hbel
    clear hbel
    rcases a with _ | a
    · go_wp2_with (first
        | (go_at_call 21; refine (total_v _ _ _ (sums0 _ _ _)).mono ?_; rintro e w1 ⟨rfl, hb1⟩; replace acc := bt acc hb1; clear hb1)
        | (go_at_call 9; refine (add_any _ _ _ (by assumption) (by assumption)).mono ?_; rintro e w1 ⟨rfl, rfl⟩)
        | (go_at_call 20; refine (wakes_any _).mono ?_; rintro e w1 ⟨rfl, hb1⟩; replace acc := bt acc hb1; clear hb1))
      all_goals (go_ret; exact ⟨rfl, HB.out.trans (acc.mono HB.out.size)⟩)
    · go_wp2_with (first
        | (go_at_call 21; refine (total_v _ _ _ (sums0 _ _ _)).mono ?_; rintro e w1 ⟨rfl, hb1⟩; replace acc := bt acc hb1; clear hb1)
        | (go_at_call 9; refine (add_any _ _ _ (by assumption) (by assumption)).mono ?_; rintro e w1 ⟨rfl, rfl⟩)
        | (go_at_call 20; refine (wakes_any _).mono ?_; rintro e w1 ⟨rfl, hb1⟩; replace acc := bt acc hb1; clear hb1))
      all_goals (go_ret; exact ⟨rfl, HB.out.trans (acc.mono HB.out.size)⟩)

set_option maxHeartbeats 2000000 in
theorem big_walk (b off len cap : Nat) (n : Int) (w : World) (hbig : 2000 < len) (hl : len ≤ 9223372036854775807) :
    Calls Try.prog 7 #[.slice (some ⟨b, off, none⟩) len cap, .int .i64 n] w fun e w' => e = .returned (.bool true) ∧ Below w.heap.size w w' := by
  have acc := Below.refl w.heap.size w
  go_enter Try.func7, Try.ntmps7
  go_wp2_with (first | (go_at_call 20; refine (wakes_any _).mono ?_; rintro e w' ⟨rfl, hb'⟩; replace acc := bt acc hb'; clear hb'))
  go_ret
  exact ⟨rfl, acc⟩

theorem tmod_bd (n : Int) (len : Nat) : -(len : Int) ≤ n.tmod ((len : Int) + 1) ∧ n.tmod ((len : Int) + 1) ≤ len := by
  by_cases h : 0 ≤ n
  · have h1 := Int.tmod_lt_of_pos n (show (0 : Int) < (len : Int) + 1 by omega)
    have h2 := Int.tmod_nonneg ((len : Int) + 1) h
    omega
  · have h1 := Int.tmod_lt_of_pos (-n) (show (0 : Int) < (len : Int) + 1 by omega)
    have h2 := Int.tmod_nonneg ((len : Int) + 1) (show 0 ≤ -n by omega)
    rw [Int.neg_tmod] at h1 h2
    omega

theorem walk (a : Option Addr) (len cap : Nat) (zs : List Int) (n : Int) (w : World) (w0 : IsRow w a len cap zs) (w1 : I64 n) (hcap : cap ≤ 9223372036854775807) :
    Calls Try.prog 7 #[.slice a len cap, .int .i64 n] w fun e w' => e = .returned (.bool true) ∧ Below w.heap.size w w' := by
  have hz := row_i64 w0
  rcases row_cases w0 with rfl | ⟨h0, b, off, rfl, hb, hl, hlc, hcm, hzc, hc⟩
  · exact empty_walk a cap n w hcap
  · by_cases hbig : 2000 < len
    · exact big_walk b off len cap n w hbig (by omega)
    · obtain ⟨r1, r2⟩ := tmod_bd n len
      by_cases hr : n.tmod ((len : Int) + 1) < 0
      · exact parts_neg b off len cap (-(n.tmod ((len : Int) + 1))).toNat n zs w h0 hb hlc hcap hzc (by omega) hc hz (by omega) (by omega) (by omega)
      · exact parts_pos b off len cap (n.tmod ((len : Int) + 1)).toNat n zs w h0 hb hlc hcap hzc (by omega) hc hz (by omega) (by omega)

theorem row_cap {w : World} {a : Option Addr} {len cap : Nat} {zs : List Int} (h : IsRow w a len cap zs) : cap ≤ 9223372036854775807 := by
  rcases h with ⟨_, _, rfl, _⟩ | ⟨x, _, _, hm, _⟩
  · omega
  · unfold maxLen at hm; omega

set_option maxRecDepth 100000 in
theorem lifted (os : Os) (started : os.Started) (H : Type) (enc : TypeId × Value → H) :
    ReturnsInHanded {} Try.checked os 7 .any (Rows.calcPartsSpec.pre6 enc Try.prog Try.f7 Rows.calcPartsRow.domain false) (Rows.calcPartsSpec.post enc Try.prog Try.f7 false true false false) := by
  refine returnsInHanded_of_change (C := Try.checked) own started (by kernel_rfl) Try.func7
    (ChangeSpec.witness6 (enc := enc) (C := Try.checked) false ⟨#[], #[.slice none 0 0, .int .i64 0], []⟩ 8 (by kernel_rfl) (by kernel_rfl) (by kernel_rfl) (by kernel_rfl)) ?_
  intro W base args ds gs before hval0 hW hcnd _
  have hval : ∀ (j : Nat) t v, Try.f7.params[j]? = some t → args[j]? = some v → Value.okWide Try.prog W .any base t v := hval0
  have hW' := hW
  obtain ⟨p, q, hA0, hV, rfl, hfz, hnd⟩ := hW
  have hA : DataW.TrodAll enc Try.prog W 0 (fun _ => true) true Try.f7.params.toList args.toList ds p := hA0
  rw [Try.params7] at hA hval
  obtain ⟨v0, vs0, d0, ds0, p0, q0, hargs, rfl, rfl, h0, r0⟩ := trodAll_cons hA
  obtain ⟨v1, vs1, d1, ds1, p1, q1, rfl, rfl, rfl, h1, r1⟩ := trodAll_cons r0
  obtain ⟨rfl, rfl, rfl⟩ := trodAll_nil r1
  obtain rfl : args = #[v0, v1] := by cases args; simp_all
  obtain ⟨rfl, rfl⟩ := trodVars_none hV
  obtain ⟨a0, len0, cap0, rfl⟩ := okWide_slice Try.underlying36 (hval 0 36 v0 rfl rfl)
  have k0 := h0
  have lt0 : ∀ x ∈ p0, x.block < W.heap.size := by obtain ⟨m, hm⟩ := k0; exact DataW.trod_lt m _ _ _ hm
  obtain ⟨z0, w0⟩ : ∃ zs, IsRow W a0 len0 cap0 zs := by
    obtain ⟨fuel, hf⟩ := h0
    rcases open_ints Try.underlying36 Try.underlying2 (by kernel_rfl) hf with ⟨hcs, _⟩ | ⟨x, l, c, zs, hcs, _, hl, hm, hz, _, hcell, hwz⟩
    · simp [Value.cells] at hcs
      obtain ⟨rfl, rfl, rfl⟩ := hcs
      exact ⟨[], .inl ⟨rfl, rfl, rfl, rfl⟩⟩
    · simp [Value.cells] at hcs
      obtain ⟨rfl, rfl, rfl⟩ := hcs
      exact ⟨zs, .inr ⟨_, rfl, hl, hm, by simpa using hz, hcell, hwz⟩⟩
  obtain ⟨a1, rfl, rfl, rfl, w1⟩ := open_int Try.underlying3 (hval 1 3 v1 rfl rfl) h1
  clear hA0 hval0
  refine (walk a0 len0 cap0 z0 a1 W w0 (bounds_i64 w1) (row_cap w0)).mono fun e W' ⟨he, bel⟩ => ?_
  subst he
  exact ⟨_, rfl, _, _, _, [], _, [], hW', trodAll_mk1 (shut_bool Try.underlying4 _), (trodAll_cons_mk (Below.trod laidOut (by kernel_rfl) (of_decide_eq_true (by kernel_rfl)) k0 bel lt0) (trodAll_cons_mk (shut_int Try.underlying3 w1) trodAll_mk0)), rfl, bel.frame _, fun h => by cases h⟩

theorem over : Rows.calcPartsRow.holds Try.pinned (OpenSpec.ofChange Rows.calcPartsSpec) :=
  OpenClaim.holds_of_wide 7 Try.f7 rfl rfl rfl rfl rfl rfl rfl ⟨rfl, rfl, rfl, rfl, rfl⟩ rfl rfl rfl rfl rfl (by kernel_rfl) Try.func7 (by kernel_rfl)
    (of_decide_eq_true (by kernel_rfl)) (by unfold Func.isWrapper; first | (rw [if_pos (by decide +kernel)]; kernel_rfl) | (rw [if_neg (by decide +kernel)]; exact ⟨rfl, rfl⟩))
    (fun os started H enc _ => lifted os started H enc)

/-- The given statement. -/
theorem proved : Rows.CalcPartsSaid := over

end Go.Proofs.Ytagcjfcmgfifnaa.calcParts
namespace Go.Proofs.Ytagcjfcmgfifnaa
theorem calcParts_holds : Rows.CalcPartsSaid := calcParts.proved
#print axioms calcParts_holds
end Go.Proofs.Ytagcjfcmgfifnaa

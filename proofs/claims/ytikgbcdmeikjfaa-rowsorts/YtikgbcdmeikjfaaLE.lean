/-
  What the document's own Good, Whole return.
  Conditions: as each theorem states them.
-/
import Derived.Test.YtikgbcdmeikjfaaLD
namespace Go.Proofs.Ytikgbcdmeikjfaa
open Go.ChangeShapes Go.WideShapes Go.ChangeAt Go.RowKit
set_option linter.unusedVariables false
set_option linter.unusedSimpArgs false
set_option maxRecDepth 100000

/-- A node is one of a catalog's. -/
def nodeC (ds : Dims) (M v0 v1 v2 v3 : Int) : Bool := goodC ds M && bel v0 v1 v2 v3 (tp ds M 0) (tp ds M 1) (tp ds M 2) (tp ds M 3)
theorem mem_pos {ds : Dims} {M : Int} (h : goodC ds M = true) (k : Nat) {v : Int} (hv : 0 ≤ v) : 0 < memC ds k v ↔ v ≤ whl ds k := by
  by_cases hk : k < ds.length
  · have hg := dims_good (S := (ds.getD k ([], [])).1) (U := (ds.getD k ([], [])).2) h hk rfl
    rw [memC_at (S := (ds.getD k ([], [])).1) (U := (ds.getD k ([], [])).2) hk rfl, whl_at (S := (ds.getD k ([], [])).1) (U := (ds.getD k ([], [])).2) hk rfl]
    constructor
    · intro h0
      exact (size_in (S := (ds.getD k ([], [])).1) (U := (ds.getD k ([], [])).2) (lv := v) (by omega)).2.2
    · intro h0
      have := size_pos hg hv h0
      omega
  · rw [whl_out (by omega)]
    by_cases h0 : v = 0
    · rw [memC_0 hk h0]; omega
    · rw [memC_1 hk h0]; omega
theorem right_node {ds : Dims} {M v0 v1 v2 v3 : Int} (hV : ∀ x ∈ [v0, v1, v2, v3], U8 x) : rightC ds M [v0, v1, v2, v3] [0, 0, 0, 0] = nodeC ds M v0 v1 v2 v3 := by
  unfold nodeC
  cases h : goodC ds M with
  | false => rw [rightC_bad h]; rfl
  | true =>
    have p0 := (hV v0 (by simp)).1
    have p1 := (hV v1 (by simp)).1
    have p2 := (hV v2 (by simp)).1
    have p3 := (hV v3 (by simp)).1
    have m0 := mem_pos h 0 p0
    have m1 := mem_pos h 1 p1
    have m2 := mem_pos h 2 p2
    have m3 := mem_pos h 3 p3
    unfold rightC bel
    rw [tp_good h, tp_good h, tp_good h, tp_good h, h, Bool.true_and, Bool.true_and]
    refine decide_eq_decide.mpr ?_
    unfold RightP
    constructor
    · intro g
      have g0 := g 0 (by omega); have g1 := g 1 (by omega); have g2 := g 2 (by omega); have g3 := g 3 (by omega)
      simp at g0 g1 g2 g3
      exact ⟨m0.mp g0, m1.mp g1, m2.mp g2, m3.mp g3⟩
    · rintro ⟨g0, g1, g2, g3⟩ i hi
      have : i = 0 ∨ i = 1 ∨ i = 2 ∨ i = 3 := by omega
      rcases this with rfl | rfl | rfl | rfl
      · simpa using m0.mpr g0
      · simpa using m1.mpr g1
      · simpa using m2.mpr g2
      · simpa using m3.mpr g3

set_option maxHeartbeats 4000000 in
theorem rlgood_any (a : Option Addr) (n c : Nat) (ds : Dims) (M v0 v1 v2 v3 : Int) (w : World) (hc : Cat w a n c ds) (hM : I64 M) (hV : ∀ x ∈ [v0, v1, v2, v3], U8 x) :
    Calls Try.prog 30 #[.agg #[.slice a n c, .int .i64 M], .agg #[.int .u8 v0, .int .u8 v1, .int .u8 v2, .int .u8 v3]] w fun e w' => e = .returned (.bool (nodeC ds M v0 v1 v2 v3)) ∧ Below w.heap.size w w' := by
  rw [← right_node hV]
  have HC : Hid (Cat w a n c ds) := hc
  have HM : Hid (I64 M) := hM
  have HV : Hid (∀ x ∈ [v0, v1, v2, v3], U8 x) := hV
  have HZ : Hid (∀ x ∈ [(0 : Int), 0, 0, 0], U8 x) := by intro x hx; simp at hx; subst hx; unfold U8; decide
  clear hc hM hV
  go_enter Try.func30, Try.ntmps30
  go_wp2_with (go_at_call 29; refine (rright_any _ _ _ _ _ _ _ _ _ _ _ _ _ _ (HC.out.below (bx2 _ _ _ _ _)) HM.out HV.out HZ.out).mono ?_; rintro e w1 ⟨rfl, hb⟩)
  go_ret
  exact ⟨rfl, (bx2 _ _ _ _ _).trans (hb.mono (by simp; omega))⟩

end Go.Proofs.Ytikgbcdmeikjfaa

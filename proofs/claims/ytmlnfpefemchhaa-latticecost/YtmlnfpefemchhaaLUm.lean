/-
  How many places nodes have: of two nodes, of their Meet and their Join; of the whole.
  Conditions: as each theorem states them.
-/
import Derived.Test.YtmlnfpefemchhaaLTm
namespace Go.Proofs.Ytmlnfpefemchhaa
open Go.RowKit
set_option linter.unusedVariables false
set_option linter.unusedSimpArgs false

theorem mem_two (ds : Dims) (k : Nat) (a b : Int) : memC ds k (mn a b) * memC ds k (mx a b) = memC ds k a * memC ds k b := by
  unfold mn mx
  by_cases h : b < a
  · rw [if_pos h, if_neg (by omega), Int.mul_comm]
  · by_cases h2 : b > a
    · rw [if_neg h, if_pos h2]
    · obtain rfl : a = b := by omega
      simp
theorem getD4 (f : Int → Int → Int) (a0 a1 a2 a3 b0 b1 b2 b3 : Int) {k : Nat} (hk : k < 4) : [f a0 b0, f a1 b1, f a2 b2, f a3 b3].getD k 0 = f ([a0, a1, a2, a3].getD k 0) ([b0, b1, b2, b3].getD k 0) := by
  have : k = 0 ∨ k = 1 ∨ k = 2 ∨ k = 3 := by omega
  rcases this with rfl | rfl | rfl | rfl <;> rfl
theorem costP_two (ds : Dims) (a0 a1 a2 a3 b0 b1 b2 b3 : Int) (k : Nat) (hk : k ≤ 4) : costP ds [mn a0 b0, mn a1 b1, mn a2 b2, mn a3 b3] k * costP ds [mx a0 b0, mx a1 b1, mx a2 b2, mx a3 b3] k = costP ds [a0, a1, a2, a3] k * costP ds [b0, b1, b2, b3] k := by
  induction k with
  | zero => rfl
  | succ k ih =>
    have h := ih (by omega)
    have m := mem_two ds k ([a0, a1, a2, a3].getD k 0) ([b0, b1, b2, b3].getD k 0)
    rw [costP, costP, costP, costP, getD4 mn _ _ _ _ _ _ _ _ (by omega), getD4 mx _ _ _ _ _ _ _ _ (by omega)]
    generalize costP ds [mn a0 b0, mn a1 b1, mn a2 b2, mn a3 b3] k = P at h ⊢
    generalize costP ds [mx a0 b0, mx a1 b1, mx a2 b2, mx a3 b3] k = Q at h ⊢
    generalize costP ds [a0, a1, a2, a3] k = R at h ⊢
    generalize costP ds [b0, b1, b2, b3] k = S at h ⊢
    generalize memC ds k (mn ([a0, a1, a2, a3].getD k 0) ([b0, b1, b2, b3].getD k 0)) = x at m ⊢
    generalize memC ds k (mx ([a0, a1, a2, a3].getD k 0) ([b0, b1, b2, b3].getD k 0)) = y at m ⊢
    generalize memC ds k ([a0, a1, a2, a3].getD k 0) = u at m ⊢
    generalize memC ds k ([b0, b1, b2, b3].getD k 0) = v at m ⊢
    calc P * x * (Q * y) = (P * Q) * (x * y) := by ac_rfl
      _ = (R * S) * (u * v) := by rw [h, m]
      _ = R * u * (S * v) := by ac_rfl
theorem node_meet {ds : Dims} {M a0 a1 a2 a3 b0 b1 b2 b3 : Int} (ha : nodeC ds M a0 a1 a2 a3 = true) (hb : nodeC ds M b0 b1 b2 b3 = true) : nodeC ds M (mn a0 b0) (mn a1 b1) (mn a2 b2) (mn a3 b3) = true := by
  rw [nodeC_is (nodeC_good ha)]
  have h1 := nodeC_le ha
  have h2 := nodeC_le hb
  unfold mn
  refine decide_eq_true ⟨?_, ?_, ?_, ?_⟩ <;> split <;> omega
theorem node_join {ds : Dims} {M a0 a1 a2 a3 b0 b1 b2 b3 : Int} (ha : nodeC ds M a0 a1 a2 a3 = true) (hb : nodeC ds M b0 b1 b2 b3 = true) : nodeC ds M (mx a0 b0) (mx a1 b1) (mx a2 b2) (mx a3 b3) = true := by
  rw [nodeC_is (nodeC_good ha)]
  have h1 := nodeC_le ha
  have h2 := nodeC_le hb
  unfold mx
  refine decide_eq_true ⟨?_, ?_, ?_, ?_⟩ <;> split <;> omega
theorem cost_yes {ds : Dims} {M v0 v1 v2 v3 : Int} (h : nodeC ds M v0 v1 v2 v3 = true) : cost ds M v0 v1 v2 v3 = costP ds [v0, v1, v2, v3] ds.length := by unfold cost; rw [if_pos h]
theorem cost_two {ds : Dims} {M a0 a1 a2 a3 b0 b1 b2 b3 : Int} (ha : nodeC ds M a0 a1 a2 a3 = true) (hb : nodeC ds M b0 b1 b2 b3 = true) :
    cost ds M (mn a0 b0) (mn a1 b1) (mn a2 b2) (mn a3 b3) * cost ds M (mx a0 b0) (mx a1 b1) (mx a2 b2) (mx a3 b3) = cost ds M a0 a1 a2 a3 * cost ds M b0 b1 b2 b3 := by
  rw [cost_yes (node_meet ha hb), cost_yes (node_join ha hb), cost_yes ha, cost_yes hb]
  exact costP_two ds _ _ _ _ _ _ _ _ _ (goodC_p (nodeC_good ha)).2.1
theorem cost_bd (ds : Dims) (M v0 v1 v2 v3 : Int) : 0 ≤ cost ds M v0 v1 v2 v3 ∧ cost ds M v0 v1 v2 v3 ≤ 2560000 := by
  cases h : nodeC ds M v0 v1 v2 v3 with
  | false => unfold cost; rw [h]; simp
  | true =>
    rw [cost_yes h]
    have g := goodC_p (nodeC_good h)
    have := costP_bd ds [v0, v1, v2, v3] ds.length
    have := pow40 (k := ds.length) g.2.1
    omega
theorem tp4 {ds : Dims} {M : Int} {k : Nat} (hk : k < 4) : [tp ds M 0, tp ds M 1, tp ds M 2, tp ds M 3].getD k 0 = tp ds M k := by
  have : k = 0 ∨ k = 1 ∨ k = 2 ∨ k = 3 := by omega
  rcases this with rfl | rfl | rfl | rfl <;> rfl
theorem node_at {ds : Dims} {M v0 v1 v2 v3 : Int} (h : nodeC ds M v0 v1 v2 v3 = true) (hV : ∀ x ∈ [v0, v1, v2, v3], U8 x) {k : Nat} (hk : k < 4) : 1 ≤ memC ds k ([v0, v1, v2, v3].getD k 0) := by
  have hle := nodeC_le h
  have hg := nodeC_good h
  rw [tp_good hg, tp_good hg, tp_good hg, tp_good hg] at hle
  have h0 := u8_at hV k
  refine (mem_pos hg k h0.1).mpr ?_
  have : k = 0 ∨ k = 1 ∨ k = 2 ∨ k = 3 := by omega
  rcases this with rfl | rfl | rfl | rfl
  · exact hle.1
  · exact hle.2.1
  · exact hle.2.2.1
  · exact hle.2.2.2
theorem node_beyond {ds : Dims} {M v0 v1 v2 v3 : Int} (h : nodeC ds M v0 v1 v2 v3 = true) (hV : ∀ x ∈ [v0, v1, v2, v3], U8 x) {k : Nat} (hk : k < 4) (hn : ds.length ≤ k) : memC ds k ([v0, v1, v2, v3].getD k 0) = 1 := by
  have h1 := node_at h hV hk
  by_cases e : [v0, v1, v2, v3].getD k 0 = 0
  · exact memC_0 (by omega) e
  · rw [memC_1 (by omega) e] at h1; omega
theorem costP_pos {ds : Dims} {M v0 v1 v2 v3 : Int} (h : nodeC ds M v0 v1 v2 v3 = true) (hV : ∀ x ∈ [v0, v1, v2, v3], U8 x) (k : Nat) (hk : k ≤ 4) : 1 ≤ costP ds [v0, v1, v2, v3] k := by
  induction k with
  | zero => exact Int.le_refl _
  | succ k ih =>
    rw [costP]
    have := Int.mul_le_mul (ih (by omega)) (node_at h hV (k := k) (by omega)) (by omega) (by have := costP_bd ds [v0, v1, v2, v3] k; omega)
    simpa using this
theorem cost_pos {ds : Dims} {M v0 v1 v2 v3 : Int} (h : nodeC ds M v0 v1 v2 v3 = true) (hV : ∀ x ∈ [v0, v1, v2, v3], U8 x) : 1 ≤ cost ds M v0 v1 v2 v3 := by
  rw [cost_yes h]
  exact costP_pos h hV _ (goodC_p (nodeC_good h)).2.1
theorem node_whole {ds : Dims} {M : Int} (h : goodC ds M = true) : nodeC ds M (tp ds M 0) (tp ds M 1) (tp ds M 2) (tp ds M 3) = true := by
  rw [nodeC_is h]; exact decide_eq_true (by omega)
theorem cost_whole {ds : Dims} {M : Int} (h : goodC ds M = true) : cost ds M (tp ds M 0) (tp ds M 1) (tp ds M 2) (tp ds M 3) = 1 := by
  rw [cost_yes (node_whole h)]
  have g := goodC_p h
  have key : ∀ k, k ≤ ds.length → costP ds [tp ds M 0, tp ds M 1, tp ds M 2, tp ds M 3] k = 1 := by
    intro k
    induction k with
    | zero => intro _; rfl
    | succ k ih =>
      intro hk
      rw [costP, ih (by omega), tp4 (by omega), tp_good h]
      have hg := dims_good (S := (ds.getD k ([], [])).1) (U := (ds.getD k ([], [])).2) h (by omega) rfl
      rw [memC_at (S := (ds.getD k ([], [])).1) (U := (ds.getD k ([], [])).2) (by omega) rfl, whl_at (S := (ds.getD k ([], [])).1) (U := (ds.getD k ([], [])).2) (by omega) rfl, size_top hg]
      rfl
  exact key _ (Nat.le_refl _)

/-! The places of a node, number by number. -/
/-- What stands in a place so far: from one dimension on members, ahead of it nothing. -/
def PX (ds : Dims) (V X : List Int) (q : Nat) : Prop := ∀ j, j < 4 → (j < q → X.getD j 0 = 0) ∧ (q ≤ j → 0 ≤ X.getD j 0 ∧ X.getD j 0 < memC ds j (V.getD j 0))
theorem px_start {ds : Dims} {M v0 v1 v2 v3 : Int} (h : nodeC ds M v0 v1 v2 v3 = true) (hV : ∀ x ∈ [v0, v1, v2, v3], U8 x) : PX ds [v0, v1, v2, v3] [0, 0, 0, 0] ds.length := by
  intro j hj
  have z : [(0 : Int), 0, 0, 0].getD j 0 = 0 := by
    have : j = 0 ∨ j = 1 ∨ j = 2 ∨ j = 3 := by omega
    rcases this with rfl | rfl | rfl | rfl <;> rfl
  rw [z]
  refine ⟨fun _ => rfl, fun hq => ?_⟩
  rw [node_beyond h hV hj hq]
  decide
theorem px_right {ds : Dims} {M v0 v1 v2 v3 x0 x1 x2 x3 : Int} (hg : goodC ds M = true) (h : PX ds [v0, v1, v2, v3] [x0, x1, x2, x3] 0) : rightC ds M [v0, v1, v2, v3] [x0, x1, x2, x3] = true ∧ ∀ y ∈ [x0, x1, x2, x3], U8 y := by
  refine ⟨rightC_yes hg fun i hi => ((h i hi).2 (Nat.zero_le _)).2, ?_⟩
  intro y hy
  obtain ⟨i, hi, rfl⟩ := List.getElem_of_mem hy
  have hi4 : i < 4 := by simpa using hi
  have := (h i hi4).2 (Nat.zero_le _)
  have mb := memC_bd ds i ([v0, v1, v2, v3].getD i 0)
  rw [List.getD_eq_getElem?_getD, List.getElem?_eq_getElem hi] at this
  unfold U8
  simp only [Option.getD_some] at this
  omega
/-- One member put in. -/
def put4 (x0 x1 x2 x3 m : Int) (p : Nat) : Nd := if p = 0 then (m, x1, x2, x3) else if p = 1 then (x0, m, x2, x3) else if p = 2 then (x0, x1, m, x3) else (x0, x1, x2, m)
theorem px_put {ds : Dims} {V : List Int} {x0 x1 x2 x3 m : Int} {p : Nat} (hp : p < 4) (h : PX ds V [x0, x1, x2, x3] (p + 1)) (h0 : 0 ≤ m) (h1 : m < memC ds p (V.getD p 0)) : PX ds V [(put4 x0 x1 x2 x3 m p).1, (put4 x0 x1 x2 x3 m p).2.1, (put4 x0 x1 x2 x3 m p).2.2.1, (put4 x0 x1 x2 x3 m p).2.2.2] p := by
  intro j hj
  have hh := h j hj
  by_cases e : j = p
  · subst e
    have : j = 0 ∨ j = 1 ∨ j = 2 ∨ j = 3 := by omega
    refine ⟨fun g => by omega, fun _ => ?_⟩
    rcases this with rfl | rfl | rfl | rfl <;> exact ⟨h0, h1⟩
  · have he : [(put4 x0 x1 x2 x3 m p).1, (put4 x0 x1 x2 x3 m p).2.1, (put4 x0 x1 x2 x3 m p).2.2.1, (put4 x0 x1 x2 x3 m p).2.2.2].getD j 0 = [x0, x1, x2, x3].getD j 0 := by
      have a : j = 0 ∨ j = 1 ∨ j = 2 ∨ j = 3 := by omega
      have b : p = 0 ∨ p = 1 ∨ p = 2 ∨ p = 3 := by omega
      rcases a with rfl | rfl | rfl | rfl <;> rcases b with rfl | rfl | rfl | rfl <;> first | (exact absurd rfl e) | rfl
    rw [he]
    exact ⟨fun g => hh.1 (by omega), fun g => hh.2 (by omega)⟩
theorem put4_cells (x0 x1 x2 x3 m : Int) {p : Nat} (hp : p < 4) : #[Value.int .u8 x0, Value.int .u8 x1, Value.int .u8 x2, Value.int .u8 x3].setIfInBounds p (.int .u8 m) = #[Value.int .u8 (put4 x0 x1 x2 x3 m p).1, Value.int .u8 (put4 x0 x1 x2 x3 m p).2.1, Value.int .u8 (put4 x0 x1 x2 x3 m p).2.2.1, Value.int .u8 (put4 x0 x1 x2 x3 m p).2.2.2] := by
  have b : p = 0 ∨ p = 1 ∨ p = 2 ∨ p = 3 := by omega
  rcases b with rfl | rfl | rfl | rfl <;> rfl

end Go.Proofs.Ytmlnfpefemchhaa

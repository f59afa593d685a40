/-
  What a node covers: each lies one above it; towards each node above it there is one.
  Conditions: as each theorem states them.
-/
import Derived.Test.YtmlnfpefemchhaaLQ
namespace Go.Proofs.Ytmlnfpefemchhaa
open Go.RowKit
set_option linter.unusedVariables false
set_option linter.unusedSimpArgs false

theorem cvs_mem {v0 v1 v2 v3 : Int} {T : List Int} {k : Nat} {x : Nd} (h : x ∈ cvs v0 v1 v2 v3 T k) : ∃ j, j < k ∧ [v0, v1, v2, v3].getD j 0 < T.getD j 0 ∧ x = inc v0 v1 v2 v3 j := by
  induction k with
  | zero => simp [cvs] at h
  | succ k ih =>
    rw [cvs, List.mem_append] at h
    rcases h with h | h
    · obtain ⟨j, hj, h1, h2⟩ := ih h
      exact ⟨j, by omega, h1, h2⟩
    · split at h
      · rename_i hlt
        simp at h
        exact ⟨k, by omega, hlt, h⟩
      · simp at h
theorem cvs_has {v0 v1 v2 v3 : Int} {T : List Int} {k j : Nat} (hj : j < k) (h : [v0, v1, v2, v3].getD j 0 < T.getD j 0) : inc v0 v1 v2 v3 j ∈ cvs v0 v1 v2 v3 T k := by
  induction k with
  | zero => omega
  | succ k ih =>
    rw [cvs, List.mem_append]
    by_cases e : j = k
    · subst e
      right
      rw [if_pos h]; simp
    · exact .inl (ih (by omega))
theorem covL_yes {ds : Dims} {M v0 v1 v2 v3 : Int} (h : nodeC ds M v0 v1 v2 v3 = true) : covL ds M v0 v1 v2 v3 = cvs v0 v1 v2 v3 [tp ds M 0, tp ds M 1, tp ds M 2, tp ds M 3] 4 := by
  unfold covL; rw [if_pos h]
theorem covL_len (ds : Dims) (M v0 v1 v2 v3 : Int) : (covL ds M v0 v1 v2 v3).length ≤ 4 := by
  unfold covL
  split
  · exact cvs_len _ _ _ _ _ 4
  · simp
theorem cov_mem {ds : Dims} {M v0 v1 v2 v3 x0 x1 x2 x3 : Int} (h : nodeC ds M v0 v1 v2 v3 = true) (hV : ∀ x ∈ [v0, v1, v2, v3], U8 x) (hx : (x0, x1, x2, x3) ∈ covL ds M v0 v1 v2 v3) :
    nodeC ds M x0 x1 x2 x3 = true ∧ bel v0 v1 v2 v3 x0 x1 x2 x3 = true ∧ rnk x0 x1 x2 x3 = rnk v0 v1 v2 v3 + 1 ∧ ∀ y ∈ [x0, x1, x2, x3], U8 y := by
  rw [covL_yes h] at hx
  obtain ⟨j, hj, hlt, e⟩ := cvs_mem hx
  have hle := nodeC_le h
  have hg := nodeC_good h
  have b0 := tp_bd ds M 0; have b1 := tp_bd ds M 1; have b2 := tp_bd ds M 2; have b3 := tp_bd ds M 3
  have p0 := hV v0 (by simp); have p1 := hV v1 (by simp); have p2 := hV v2 (by simp); have p3 := hV v3 (by simp)
  unfold U8 at p0 p1 p2 p3
  have : j = 0 ∨ j = 1 ∨ j = 2 ∨ j = 3 := by omega
  rw [nodeC_is hg]
  unfold bel rnk U8
  rcases this with rfl | rfl | rfl | rfl <;> (simp [inc] at e hlt; obtain ⟨rfl, rfl, rfl, rfl⟩ := e; refine ⟨decide_eq_true (by omega), decide_eq_true (by omega), by omega, ?_⟩; intro y hy; simp at hy; omega)
/-- Towards a node above there is one. -/
theorem cov_next {ds : Dims} {M v0 v1 v2 v3 y0 y1 y2 y3 : Int} (h : nodeC ds M v0 v1 v2 v3 = true) (hy : nodeC ds M y0 y1 y2 y3 = true) (hb : bel y0 y1 y2 y3 v0 v1 v2 v3 = true) (hne : ¬ (y0 = v0 ∧ y1 = v1 ∧ y2 = v2 ∧ y3 = v3)) :
    ∃ (j : Nat) (x : Nd), (covL ds M y0 y1 y2 y3)[j]? = some x ∧ bel x.1 x.2.1 x.2.2.1 x.2.2.2 v0 v1 v2 v3 = true := by
  have hle := nodeC_le h
  have hb' := of_decide_eq_true hb
  have key : ∃ x : Nd, x ∈ covL ds M y0 y1 y2 y3 ∧ bel x.1 x.2.1 x.2.2.1 x.2.2.2 v0 v1 v2 v3 = true := by
    rw [covL_yes hy]
    by_cases e0 : y0 < v0
    · exact ⟨_, cvs_has (j := 0) (by omega) (by simp; omega), decide_eq_true (by simp [inc]; omega)⟩
    · by_cases e1 : y1 < v1
      · exact ⟨_, cvs_has (j := 1) (by omega) (by simp; omega), decide_eq_true (by simp [inc]; omega)⟩
      · by_cases e2 : y2 < v2
        · exact ⟨_, cvs_has (j := 2) (by omega) (by simp; omega), decide_eq_true (by simp [inc]; omega)⟩
        · by_cases e3 : y3 < v3
          · exact ⟨_, cvs_has (j := 3) (by omega) (by simp; omega), decide_eq_true (by simp [inc]; omega)⟩
          · exact absurd ⟨by omega, by omega, by omega, by omega⟩ hne
  obtain ⟨x, hx, hbx⟩ := key
  obtain ⟨j, hj, e⟩ := List.getElem_of_mem hx
  exact ⟨j, x, by rw [List.getElem?_eq_getElem hj, e], hbx⟩
theorem cov_empty {ds : Dims} {M v0 v1 v2 v3 : Int} (h : nodeC ds M v0 v1 v2 v3 = true) : (((covL ds M v0 v1 v2 v3).length : Int) == 0) = (v0 == tp ds M 0 && (v1 == tp ds M 1 && (v2 == tp ds M 2 && v3 == tp ds M 3))) := by
  have hle := nodeC_le h
  rw [covL_yes h]
  by_cases e : v0 = tp ds M 0 ∧ v1 = tp ds M 1 ∧ v2 = tp ds M 2 ∧ v3 = tp ds M 3
  · obtain ⟨e0, e1, e2, e3⟩ := e
    rw [← e0, ← e1, ← e2, ← e3]
    simp [cvs]
  · have : ∃ j, j < 4 ∧ [v0, v1, v2, v3].getD j 0 < [tp ds M 0, tp ds M 1, tp ds M 2, tp ds M 3].getD j 0 := by
      by_cases e0 : v0 < tp ds M 0
      · exact ⟨0, by omega, by simpa using e0⟩
      · by_cases e1 : v1 < tp ds M 1
        · exact ⟨1, by omega, by simpa using e1⟩
        · by_cases e2 : v2 < tp ds M 2
          · exact ⟨2, by omega, by simpa using e2⟩
          · exact ⟨3, by omega, by simp; omega⟩
    obtain ⟨j, hj, hlt⟩ := this
    have hm := cvs_has hj hlt
    have hp := List.length_pos_of_mem hm
    have l : (((cvs v0 v1 v2 v3 [tp ds M 0, tp ds M 1, tp ds M 2, tp ds M 3] 4).length : Int) == 0) = false := by simp; intro hn; rw [hn] at hm; simp at hm
    rw [l]
    symm
    exact and4_false e
theorem rnk_le {ds : Dims} {M v0 v1 v2 v3 : Int} (h : nodeC ds M v0 v1 v2 v3 = true) : rnk v0 v1 v2 v3 ≤ 16 := by
  have hle := nodeC_le h
  have b0 := tp_bd ds M 0; have b1 := tp_bd ds M 1; have b2 := tp_bd ds M 2; have b3 := tp_bd ds M 3
  unfold rnk; omega
theorem rnk_lt {v0 v1 v2 v3 y0 y1 y2 y3 : Int} (hb : bel y0 y1 y2 y3 v0 v1 v2 v3 = true) (hne : ¬ (y0 = v0 ∧ y1 = v1 ∧ y2 = v2 ∧ y3 = v3)) : rnk y0 y1 y2 y3 < rnk v0 v1 v2 v3 := by
  have hb' := of_decide_eq_true hb
  unfold rnk; omega
theorem rnk_ge {v0 v1 v2 v3 : Int} (hV : ∀ x ∈ [v0, v1, v2, v3], U8 x) : 0 ≤ rnk v0 v1 v2 v3 ∧ rnk v0 v1 v2 v3 ≤ 1020 := by
  have h0 := hV v0 (by simp); have h1 := hV v1 (by simp); have h2 := hV v2 (by simp); have h3 := hV v3 (by simp)
  unfold U8 at h0 h1 h2 h3
  unfold rnk; omega
theorem node_base {ds : Dims} {M : Int} (h : goodC ds M = true) : nodeC ds M 0 0 0 0 = true := by
  rw [nodeC_is h]
  have b0 := tp_bd ds M 0; have b1 := tp_bd ds M 1; have b2 := tp_bd ds M 2; have b3 := tp_bd ds M 3
  exact decide_eq_true (by omega)
theorem bel_base {v0 v1 v2 v3 : Int} (hV : ∀ x ∈ [v0, v1, v2, v3], U8 x) : bel 0 0 0 0 v0 v1 v2 v3 = true := by
  have h0 := hV v0 (by simp); have h1 := hV v1 (by simp); have h2 := hV v2 (by simp); have h3 := hV v3 (by simp)
  unfold U8 at h0 h1 h2 h3
  exact decide_eq_true (by omega)

end Go.Proofs.Ytmlnfpefemchhaa

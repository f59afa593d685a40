/-
  The document's own Plus is the sum of two numbers.
  Conditions: as each theorem states them.
-/
import Derived.Test.YtagcjfcmgfifnaaD
namespace Go.Proofs.Ytagcjfcmgfifnaa
open Go.RowKit
set_option linter.unusedVariables false
set_option linter.unusedSimpArgs false

theorem add_same {x y : Int} (h : ng x = ng y) : sz (x + y) = sz x + sz y ∧ ng (x + y) = ng x := by
  rcases sz_cases x with ⟨n, _, s⟩ | ⟨n, _, s⟩ <;> rcases sz_cases y with ⟨m, _, t⟩ | ⟨m, _, t⟩
  · exact ⟨by rw [s, t, sz_neg (by omega)]; omega, by rw [n, ng_t (by omega)]⟩
  · rw [n, m] at h; cases h
  · rw [n, m] at h; cases h
  · exact ⟨by rw [s, t, sz_pos (by omega)], by rw [n, ng_f (by omega)]⟩
theorem add_gt {x y : Int} (h : ¬ ng x = ng y) (g : sz y < sz x) : sz (x + y) = sz x - sz y ∧ ng (x + y) = ng x := by
  rcases sz_cases x with ⟨n, _, s⟩ | ⟨n, _, s⟩ <;> rcases sz_cases y with ⟨m, _, t⟩ | ⟨m, _, t⟩
  · rw [n, m] at h; exact absurd rfl h
  · exact ⟨by rw [s, t, sz_neg (by omega)]; omega, by rw [n, ng_t (by omega)]⟩
  · exact ⟨by rw [s, t, sz_pos (by omega)]; omega, by rw [n, ng_f (by omega)]⟩
  · rw [n, m] at h; exact absurd rfl h
theorem sz_nn (x : Int) : 0 ≤ sz x := by rcases sz_cases x with ⟨n, _, s⟩ | ⟨n, _, s⟩ <;> omega

theorem rplus_any (x y : Int) (w : World) (hx : sz x ≤ 85070591730234615865843651857942052864) (hy : sz y ≤ 85070591730234615865843651857942052864) :
    Calls Try.prog 14 #[.agg #[.bool (ng x), .int .u64 (hi (sz x)), .int .u64 (lo (sz x))], .agg #[.bool (ng y), .int .u64 (hi (sz y)), .int .u64 (lo (sz y))]] w fun e w' => e = .returned (.agg #[.bool (ng (x + y)), .int .u64 (hi (sz (x + y))), .int .u64 (lo (sz (x + y)))]) ∧ Below w.heap.size w w' := by
  have nx := sz_nn x
  have ny := sz_nn y
  have X := lohi (sz x); have Y := lohi (sz y)
  obtain ⟨bx1, bx2⟩ := lo_bd (sz x); obtain ⟨by1, by2⟩ := lo_bd (sz y)
  have cx1 : 0 ≤ hi (sz x) := by unfold hi; omega
  have cy1 : 0 ≤ hi (sz y) := by unfold hi; omega
  have cx2 : hi (sz x) ≤ 4611686018427387904 := by unfold hi; omega
  have cy2 : hi (sz y) ≤ 4611686018427387904 := by unfold hi; omega
  by_cases hn : ng x = ng y
  · obtain ⟨e1, e2⟩ := add_same hn
    rw [e1, e2, hn]
    by_cases hc : lo (sz x) + lo (sz y) ≤ 18446744073709551615
    · have f1 : hi (sz x + sz y) = hi (sz x) + hi (sz y) := by unfold hi lo at *; omega
      have f2 : lo (sz x + sz y) = lo (sz x) + lo (sz y) := by unfold hi lo at *; omega
      rw [f1, f2]
      exact plus_same0 _ _ _ _ _ w cx1 bx1 cy1 by1 (by omega) hc
    · have f1 : hi (sz x + sz y) = hi (sz x) + hi (sz y) + 1 := by unfold hi lo at *; omega
      have f2 : lo (sz x + sz y) = lo (sz x) + lo (sz y) - 18446744073709551616 := by unfold hi lo at *; omega
      rw [f1, f2]
      exact plus_same1 _ _ _ _ _ _ w cx1 bx1 cy1 by1 (by omega) (by rw [IntKind.wrap_u64]; omega) (by omega)
  · have hpq : (ng x == ng y) = false := by simpa using hn
    by_cases hlt : sz x < sz y
    · have hl : lsB (hi (sz x)) (lo (sz x)) (hi (sz y)) (lo (sz y)) = true := by rw [sz_lt]; exact decide_eq_true hlt
      obtain ⟨e1, e2⟩ := add_gt (x := y) (y := x) (fun h => hn h.symm) hlt
      rw [Int.add_comm x y, e1, e2]
      by_cases hc : lo (sz x) ≤ lo (sz y)
      · have f1 : hi (sz y - sz x) = hi (sz y) - hi (sz x) := by unfold hi lo at *; omega
        have f2 : lo (sz y - sz x) = lo (sz y) - lo (sz x) := by unfold hi lo at *; omega
        rw [f1, f2]
        by_cases hz : hi (sz y) - hi (sz x) = 0
        · exact ps_nb2 _ _ _ _ _ _ w hpq cx1 bx1 cy1 by1 (by omega) (by omega) (by omega) (by omega) hl (by omega) hc (by simp [hz]) (by simp; omega)
        · exact ps_nb1 _ _ _ _ _ _ w hpq cx1 bx1 cy1 by1 (by omega) (by omega) (by omega) (by omega) hl (by omega) hc (by simp [hz])
      · have f1 : hi (sz y - sz x) = hi (sz y) - hi (sz x) - 1 := by unfold hi lo at *; omega
        have f2 : lo (sz y - sz x) = lo (sz y) - lo (sz x) + 18446744073709551616 := by unfold hi lo at *; omega
        rw [f1, f2]
        by_cases hz : hi (sz y) - hi (sz x) - 1 = 0
        · exact ps_b2 _ _ _ _ _ _ _ w hpq cx1 bx1 cy1 by1 (by omega) (by omega) (by omega) (by omega) hl (by omega) (by omega) (by rw [IntKind.wrap_u64]; omega) (by simp [hz]) (by simp; omega)
        · exact ps_b1 _ _ _ _ _ _ _ w hpq cx1 bx1 cy1 by1 (by omega) (by omega) (by omega) (by omega) hl (by omega) (by omega) (by rw [IntKind.wrap_u64]; omega) (by simp [hz])
    · have hl : lsB (hi (sz x)) (lo (sz x)) (hi (sz y)) (lo (sz y)) = false := by rw [sz_lt]; exact decide_eq_false hlt
      by_cases heq : sz x = sz y
      · have e0 : x + y = 0 := by
          rcases sz_cases x with ⟨n, _, s⟩ | ⟨n, _, s⟩ <;> rcases sz_cases y with ⟨m, _, t⟩ | ⟨m, _, t⟩
          · rw [n, m] at hn; exact absurd rfl hn
          · omega
          · omega
          · rw [n, m] at hn; exact absurd rfl hn
        rw [e0, ← heq]
        rw [← heq] at hl
        exact pd_z _ _ _ _ w hpq hl
      · obtain ⟨e1, e2⟩ := add_gt hn (by omega)
        rw [e1, e2]
        by_cases hc : lo (sz y) ≤ lo (sz x)
        · have f1 : hi (sz x - sz y) = hi (sz x) - hi (sz y) := by unfold hi lo at *; omega
          have f2 : lo (sz x - sz y) = lo (sz x) - lo (sz y) := by unfold hi lo at *; omega
          rw [f1, f2]
          by_cases hz : hi (sz x) - hi (sz y) = 0
          · exact pd_nb2 _ _ _ _ _ _ w hpq cx1 bx1 cy1 by1 (by omega) (by omega) (by omega) (by omega) hl (by omega) hc (by simp [hz]) (by simp; omega)
          · exact pd_nb1 _ _ _ _ _ _ w hpq cx1 bx1 cy1 by1 (by omega) (by omega) (by omega) (by omega) hl (by omega) hc (by simp [hz])
        · have f1 : hi (sz x - sz y) = hi (sz x) - hi (sz y) - 1 := by unfold hi lo at *; omega
          have f2 : lo (sz x - sz y) = lo (sz x) - lo (sz y) + 18446744073709551616 := by unfold hi lo at *; omega
          rw [f1, f2]
          by_cases hz : hi (sz x) - hi (sz y) - 1 = 0
          · exact pd_b2 _ _ _ _ _ _ _ w hpq cx1 bx1 cy1 by1 (by omega) (by omega) (by omega) (by omega) hl (by omega) (by omega) (by rw [IntKind.wrap_u64]; omega) (by simp [hz]) (by simp; omega)
          · exact pd_b1 _ _ _ _ _ _ _ w hpq cx1 bx1 cy1 by1 (by omega) (by omega) (by omega) (by omega) hl (by omega) (by omega) (by rw [IntKind.wrap_u64]; omega) (by simp [hz])

end Go.Proofs.Ytagcjfcmgfifnaa

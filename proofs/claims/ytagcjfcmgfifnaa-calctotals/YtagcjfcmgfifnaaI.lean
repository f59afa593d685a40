/-
  What the document's own Total returns.
  Conditions: as each theorem states them.
-/
import Derived.Test.YtagcjfcmgfifnaaE
import Derived.Test.YtagcjfcmgfifnaaG
namespace Go.Proofs.Ytagcjfcmgfifnaa
open Go.RowKit
set_option linter.unusedVariables false
set_option linter.unusedSimpArgs false

theorem three_store {w wr w1 : World} {v0 v1 v2 u0 u1 u2 : Value} (hbel : Below w.heap.size w wr) (hsz : w.heap.size < wr.heap.size)
    (hc0 : wr.cell? ⟨w.heap.size, 0, none⟩ = some u0) (hc1 : wr.cell? ⟨w.heap.size, 1, none⟩ = some u1) (hc2 : wr.cell? ⟨w.heap.size, 2, none⟩ = some u2) (hf0 : wr.frozen? ⟨w.heap.size, 0, none⟩ = false) (hf1 : wr.frozen? ⟨w.heap.size, 1, none⟩ = false) (hf2 : wr.frozen? ⟨w.heap.size, 2, none⟩ = false) (hb1 : Below wr.heap.size wr w1) :
    Below w.heap.size w (((w1.setCell ⟨w.heap.size, 0, none⟩ v0).setCell ⟨w.heap.size, 1, none⟩ v1).setCell ⟨w.heap.size, 2, none⟩ v2) ∧ w.heap.size < (((w1.setCell ⟨w.heap.size, 0, none⟩ v0).setCell ⟨w.heap.size, 1, none⟩ v1).setCell ⟨w.heap.size, 2, none⟩ v2).heap.size ∧
    (((w1.setCell ⟨w.heap.size, 0, none⟩ v0).setCell ⟨w.heap.size, 1, none⟩ v1).setCell ⟨w.heap.size, 2, none⟩ v2).cell? ⟨w.heap.size, 0, none⟩ = some v0 ∧ (((w1.setCell ⟨w.heap.size, 0, none⟩ v0).setCell ⟨w.heap.size, 1, none⟩ v1).setCell ⟨w.heap.size, 2, none⟩ v2).cell? ⟨w.heap.size, 1, none⟩ = some v1 ∧ (((w1.setCell ⟨w.heap.size, 0, none⟩ v0).setCell ⟨w.heap.size, 1, none⟩ v1).setCell ⟨w.heap.size, 2, none⟩ v2).cell? ⟨w.heap.size, 2, none⟩ = some v2 ∧
    (((w1.setCell ⟨w.heap.size, 0, none⟩ v0).setCell ⟨w.heap.size, 1, none⟩ v1).setCell ⟨w.heap.size, 2, none⟩ v2).frozen? ⟨w.heap.size, 0, none⟩ = false ∧ (((w1.setCell ⟨w.heap.size, 0, none⟩ v0).setCell ⟨w.heap.size, 1, none⟩ v1).setCell ⟨w.heap.size, 2, none⟩ v2).frozen? ⟨w.heap.size, 1, none⟩ = false ∧ (((w1.setCell ⟨w.heap.size, 0, none⟩ v0).setCell ⟨w.heap.size, 1, none⟩ v1).setCell ⟨w.heap.size, 2, none⟩ v2).frozen? ⟨w.heap.size, 2, none⟩ = false := by
  obtain ⟨hc, hf⟩ := bcell hb1
  have g0 := (hc _ 0 hsz).trans hc0
  have g1 := (hc _ 1 hsz).trans hc1
  have g2 := (hc _ 2 hsz).trans hc2
  refine ⟨(((hbel.trans (hb1.mono hbel.size)).setCell (Nat.le_refl _) _).setCell (Nat.le_refl _) _).setCell (Nat.le_refl _) _, ?_, ?_, ?_, ?_, ?_, ?_, ?_⟩
  · rw [World.size_setCell, World.size_setCell, World.size_setCell]; exact Nat.lt_of_lt_of_le hsz hb1.size
  · simp [go_sem, g0, g1, g2]
  · simp [go_sem, g0, g1, g2]
  · simp [go_sem, g0, g1, g2]
  · simp [go_sem, hf _ _ hsz, hf0]
  · simp [go_sem, hf _ _ hsz, hf1]
  · simp [go_sem, hf _ _ hsz, hf2]

theorem undrew {B : Nat} {a w : World} (h : Below B a.drew w) : Below B a w := ⟨h.os, h.tape, h.output, h.size, h.block⟩
theorem keep3 {B : Nat} {wr w1 : World} {v0 v1 v2 : Value} (hb1 : Below wr.heap.size wr w1) (hsz : B < wr.heap.size)
    (hc0 : wr.cell? ⟨B, 0, none⟩ = some v0) (hc1 : wr.cell? ⟨B, 1, none⟩ = some v1) (hc2 : wr.cell? ⟨B, 2, none⟩ = some v2) (hf0 : wr.frozen? ⟨B, 0, none⟩ = false) (hf1 : wr.frozen? ⟨B, 1, none⟩ = false) (hf2 : wr.frozen? ⟨B, 2, none⟩ = false) :
    B < w1.heap.size ∧ w1.cell? ⟨B, 0, none⟩ = some v0 ∧ w1.cell? ⟨B, 1, none⟩ = some v1 ∧ w1.cell? ⟨B, 2, none⟩ = some v2 ∧ w1.frozen? ⟨B, 0, none⟩ = false ∧ w1.frozen? ⟨B, 1, none⟩ = false ∧ w1.frozen? ⟨B, 2, none⟩ = false := by
  obtain ⟨hc, hf⟩ := bcell hb1
  exact ⟨Nat.lt_of_lt_of_le hsz hb1.size, (hc _ _ hsz).trans hc0, (hc _ _ hsz).trans hc1, (hc _ _ hsz).trans hc2, (hf _ _ hsz).trans hf0, (hf _ _ hsz).trans hf1, (hf _ _ hsz).trans hf2⟩

set_option maxHeartbeats 2000000 in
theorem rtotal_any (b off len cap : Nat) (zs : List Int) (w : World) (hl : len ≤ zs.length) (hm : len ≤ 1000000000000) (hb : b < w.heap.size)
    (hc : ∀ k, k < len → w.cell? ⟨b, off + k, none⟩ = some (.int .i64 (zs.getD k 0))) (hz : ∀ x ∈ zs, I64 x) :
    Calls Try.prog 22 #[.slice (some ⟨b, off, none⟩) len cap] w fun e w' => e = .returned (.tuple #[.int .i64 (fitV (sumI (zs.take len))), .bool (fitB (sumI (zs.take len)))]) ∧ Below w.heap.size w w' := by
  go_enter Try.func22, Try.ntmps22
  go_wp2
  go_loopw [5] (fun i wr => ∃ k : Nat, k ≤ len ∧ i = .int .i64 k ∧ Below w.heap.size w wr ∧ w.heap.size < wr.heap.size ∧ wr.cell? ⟨w.heap.size, 0, none⟩ = some (.bool (ng (sumI (zs.take k)))) ∧ wr.cell? ⟨w.heap.size, 1, none⟩ = some (.int .u64 (hi (sz (sumI (zs.take k))))) ∧ wr.cell? ⟨w.heap.size, 2, none⟩ = some (.int .u64 (lo (sz (sumI (zs.take k))))) ∧ wr.frozen? ⟨w.heap.size, 0, none⟩ = false ∧ wr.frozen? ⟨w.heap.size, 1, none⟩ = false ∧ wr.frozen? ⟨w.heap.size, 2, none⟩ = false)
    (fun i _ => len - (intOf i).toNat)
  case atStart =>
    refine ⟨0, Nat.zero_le _, rfl, (Below.refl _ _).alloc (Nat.le_refl _) _, by simp, ?_, ?_, ?_, ?_, ?_, ?_⟩ <;> simp [go_sem, sumI, hi, lo, sz, ng]
  case round =>
    obtain ⟨k, hk, rfl, hbel, hsz, hc0, hc1, hc2, hf0, hf1, hf2⟩ := hrel
    by_cases hlt : k < len
    · have hcx : wr.cell? ⟨b, off + k, none⟩ = some (.int .i64 (zs.getD k 0)) := (hbel.cell (by exact hb)).trans (hc k hlt)
      have hv : I64 (zs.getD k 0) := hz _ (getD_mem zs k (by omega))
      have HS : Hid (sumI (zs.take (k + 1)) = sumI (zs.take k) + zs[k]?.getD 0) := sum_step zs k (by omega)
      have s1 : sz (sumI (zs.take k)) ≤ 85070591730234615865843651857942052864 := by
        have hs := sum_bd zs k (by omega) hz (by omega)
        unfold sz; split <;> omega
      have s2 : sz (zs.getD k 0) ≤ 85070591730234615865843651857942052864 := by
        have := (sz_bd hv).2; omega
      clear hc
      go_wp2
      go_region_with (first
        | (go_at_call 15; refine (of_any _ _ hv).mono ?_; rintro e w1 ⟨rfl, hb1⟩; obtain ⟨y0, y1, y2, y3, y4, y5, y6⟩ := keep3 hb1 hsz hc0 hc1 hc2 hf0 hf1 hf2)
        | (go_at_call 14; refine (rplus_any _ _ _ s1 s2).mono ?_; rintro e w2 ⟨rfl, hb2⟩; obtain ⟨x0, x1, x2, x3, x4, x5, x6⟩ := keep3 hb2 y0 y1 y2 y3 y4 y5 y6))
      all_goals
        go_wp2
        go_roundw
        case rel =>
          refine ⟨k + 1, by omega, by go_num, ?_⟩
          rw [HS.out]
          exact three_store hbel hsz hc0 hc1 hc2 hf0 hf1 hf2 (bt (undrew hb1) hb2)
        case measure => simp [intOf]; omega
    · go_wp2_with (go_at_call 27; refine (back_any _ _).mono ?_; rintro e w2 ⟨rfl, hb2⟩)
      go_ret2
      have : k = len := by omega
      subst this
      exact ⟨rfl, bt hbel hb2⟩

end Go.Proofs.Ytagcjfcmgfifnaa

/-
  What Mul and Total of calc return.
  Conditions: as each theorem states them.
-/
import Derived.Test.YtjkkajhjcinalaaKB
namespace Go.Proofs.Ytjkkajhjcinalaa.calc
open Go.RowKit
set_option linter.unusedVariables false
set_option linter.unusedSimpArgs false
set_option maxRecDepth 100000

set_option maxHeartbeats 400000 in
theorem mul_any (a b : Int) (w : World) (ha : I64 a) (hb : I64 b) :
    Calls Try.prog 142 #[.int .i64 a, .int .i64 b] w fun e w' => e = .returned (.tuple #[.int .i64 (fitV (a * b)), .bool (fitB (a * b))]) ∧ Below w.heap.size w w' := by
  go_enter Try.func142, Try.ntmps142
  go_wp2_with (first | (go_at_call 106; refine (product_any _ _ _ ha hb).mono ?_; rintro e w1 ⟨rfl, hb1⟩) | (go_at_call 70; refine (narrow_any _ _).mono ?_; rintro e w2 ⟨rfl, hb2⟩))
  go_ret2
  exact ⟨rfl, hb1.trans (hb2.mono hb1.size)⟩
set_option maxHeartbeats 400000 in
theorem cmp_any (a b c d : Int) (w : World) (ha : I64 a) (hb : I64 b) (hc : I64 c) (hd : I64 d) :
    Calls Try.prog 72 #[.int .i64 a, .int .i64 b, .int .i64 c, .int .i64 d] w fun e w' => e = .returned (.int .i64 (sg (a * b) (c * d))) ∧ Below w.heap.size w w' := by
  go_enter Try.func72, Try.ntmps72
  go_wp2_with (first | (go_at_call 106; refine (product_any _ _ _ (by assumption) (by assumption)).mono ?_; rintro e w1 ⟨rfl, hb1⟩) | (go_at_call 107; refine (compare_any _ _ _).mono ?_; rintro e w3 ⟨rfl, hb3⟩))
  go_ret
  exact ⟨rfl, bt (bt (by assumption) hb1) hb3⟩
/-- The sum of a list. -/
def sumI : List Int → Int
  | [] => 0
  | x :: l => x + sumI l
theorem sumI_snoc (l : List Int) (x : Int) : sumI (l ++ [x]) = sumI l + x := by
  induction l with
  | nil => simp [sumI]
  | cons y l ih => simp only [List.cons_append, sumI, ih]; omega
theorem sumI_bd (l : List Int) (h : ∀ x ∈ l, I64 x) : -(9223372036854775808 * l.length) ≤ sumI l ∧ sumI l ≤ 9223372036854775808 * l.length := by
  induction l with
  | nil => simp [sumI]
  | cons y l ih =>
    have h1 := h y (by simp)
    have h2 := ih (fun x hx => h x (by simp [hx]))
    obtain ⟨a1, a2⟩ := h1
    simp only [sumI, List.length_cons]
    omega
theorem take_snoc (l : List Int) (k : Nat) (h : k < l.length) : l.take (k + 1) = l.take k ++ [l.getD k 0] := by
  rw [List.take_succ_eq_append_getElem h]
  simp [List.getD, h]
theorem two_store {w wr w1 : World} {v0 v1 u0 u1 : Value} (hbel : Below w.heap.size w wr) (hsz : w.heap.size < wr.heap.size)
    (hc0 : wr.cell? ⟨w.heap.size, 0, none⟩ = some u0) (hc1 : wr.cell? ⟨w.heap.size, 1, none⟩ = some u1) (hf0 : wr.frozen? ⟨w.heap.size, 0, none⟩ = false) (hf1 : wr.frozen? ⟨w.heap.size, 1, none⟩ = false) (hb1 : Below wr.heap.size wr w1) :
    Below w.heap.size w ((w1.setCell ⟨w.heap.size, 0, none⟩ v0).setCell ⟨w.heap.size, 1, none⟩ v1) ∧ w.heap.size < ((w1.setCell ⟨w.heap.size, 0, none⟩ v0).setCell ⟨w.heap.size, 1, none⟩ v1).heap.size ∧
    ((w1.setCell ⟨w.heap.size, 0, none⟩ v0).setCell ⟨w.heap.size, 1, none⟩ v1).cell? ⟨w.heap.size, 0, none⟩ = some v0 ∧ ((w1.setCell ⟨w.heap.size, 0, none⟩ v0).setCell ⟨w.heap.size, 1, none⟩ v1).cell? ⟨w.heap.size, 1, none⟩ = some v1 ∧
    ((w1.setCell ⟨w.heap.size, 0, none⟩ v0).setCell ⟨w.heap.size, 1, none⟩ v1).frozen? ⟨w.heap.size, 0, none⟩ = false ∧ ((w1.setCell ⟨w.heap.size, 0, none⟩ v0).setCell ⟨w.heap.size, 1, none⟩ v1).frozen? ⟨w.heap.size, 1, none⟩ = false := by
  obtain ⟨hc, hf⟩ := bcell hb1
  have g0 := (hc _ 0 hsz).trans hc0
  have g1 := (hc _ 1 hsz).trans hc1
  refine ⟨((hbel.trans (hb1.mono hbel.size)).setCell (Nat.le_refl _) _).setCell (Nat.le_refl _) _, ?_, ?_, ?_, ?_, ?_⟩
  · rw [World.size_setCell, World.size_setCell]; exact Nat.lt_of_lt_of_le hsz hb1.size
  · simp [go_sem, g0, g1]
  · simp [go_sem, g0, g1]
  · simp [go_sem, hf _ _ hsz, hf0]
  · simp [go_sem, hf _ _ hsz, hf1]
theorem getD_mem (zs : List Int) (k : Nat) (h : k < zs.length) : zs.getD k 0 ∈ zs := by
  have : zs.getD k 0 = zs[k] := by simp [List.getD, h]
  rw [this]; exact List.getElem_mem h
theorem sum_step (zs : List Int) (k : Nat) (h : k < zs.length) : sumI (zs.take (k + 1)) = sumI (zs.take k) + zs[k]?.getD 0 := by
  rw [take_snoc _ _ h, sumI_snoc]; rfl
theorem sum_bd (zs : List Int) (k : Nat) (h : k ≤ zs.length) (hz : ∀ x ∈ zs, I64 x) (hk : k ≤ 1000000000000) : -9223372036854775808000000000000 ≤ sumI (zs.take k) ∧ sumI (zs.take k) ≤ 9223372036854775808000000000000 := by
  have h1 := sumI_bd (zs.take k) (fun x hx => hz x (List.mem_of_mem_take hx))
  have h2 : (zs.take k).length = k := by simp; omega
  rw [h2] at h1
  omega
set_option maxHeartbeats 1000000 in
theorem total_any (b off len cap : Nat) (zs : List Int) (w : World) (hl : len ≤ zs.length) (hm : len ≤ 1000000000000) (hb : b < w.heap.size)
    (hc : ∀ k, k < len → w.cell? ⟨b, off + k, none⟩ = some (.int .i64 (zs.getD k 0))) (hz : ∀ x ∈ zs, I64 x) :
    Calls Try.prog 27 #[.slice (some ⟨b, off, none⟩) len cap] w fun e w' => e = .returned (.tuple #[.int .i64 (fitV (sumI (zs.take len))), .bool (fitB (sumI (zs.take len)))]) ∧ Below w.heap.size w w' := by
  go_enter Try.func27, Try.ntmps27
  go_wp2
  go_loopw [9] (fun i wr => ∃ k : Nat, k ≤ len ∧ i = .int .i64 k ∧ Below w.heap.size w wr ∧ w.heap.size < wr.heap.size ∧ wr.cell? ⟨w.heap.size, 0, none⟩ = some (.int .i64 (hi (sumI (zs.take k)))) ∧ wr.cell? ⟨w.heap.size, 1, none⟩ = some (.int .u64 (lo (sumI (zs.take k)))) ∧ wr.frozen? ⟨w.heap.size, 0, none⟩ = false ∧ wr.frozen? ⟨w.heap.size, 1, none⟩ = false)
    (fun i _ => len - (intOf i).toNat)
  case atStart =>
    refine ⟨0, Nat.zero_le _, rfl, (Below.refl _ _).alloc (Nat.le_refl _) _, by simp, ?_, ?_, ?_, ?_⟩ <;> simp [go_sem, sumI, hi, lo]
  case round =>
    obtain ⟨k, hk, rfl, hbel, hsz, hc0, hc1, hf0, hf1⟩ := hrel
    by_cases hlt : k < len
    · have hcx : wr.cell? ⟨b, off + k, none⟩ = some (.int .i64 (zs.getD k 0)) := (hbel.cell (by exact hb)).trans (hc k hlt)
      have hv : I64 (zs.getD k 0) := hz _ (getD_mem zs k (by omega))
      have hs := sum_bd zs k (by omega) hz (by omega)
      have hv2 : -9223372036854775808 ≤ zs.getD k 0 ∧ zs.getD k 0 ≤ 9223372036854775807 := hv
      have HS : Hid (sumI (zs.take (k + 1)) = sumI (zs.take k) + zs[k]?.getD 0) := sum_step zs k (by omega)
      go_wp2_with (go_at_call 69; refine (plus_any _ _ _ hv (by omega) (by omega)).mono ?_; rintro e w1 ⟨rfl, hb1⟩; obtain ⟨hc', hf'⟩ := bcell hb1)
      go_roundw
      case rel =>
        refine ⟨k + 1, by omega, by go_num, ?_⟩
        rw [HS.out]
        exact two_store hbel hsz hc0 hc1 hf0 hf1 hb1
      case measure => simp [intOf]; omega
    · go_wp2_with (go_at_call 70; refine (narrow_any _ _).mono ?_; rintro e w2 ⟨rfl, hb2⟩)
      go_ret2
      have : k = len := by omega
      subst this
      exact ⟨rfl, bt hbel hb2⟩

end Go.Proofs.Ytjkkajhjcinalaa.calc

/-
  Rows in a world; sizes and sums; what calc.Size, row.Mass and the document's return.
  Conditions: as each theorem states them.
-/
import Derived.Test.YtikgbcdmeikjfaaRD
import Derived.Deep.LoopGhost
import Derived.Deep.MidRow
namespace Go.Proofs.Ytikgbcdmeikjfaa
open Go.ChangeShapes Go.WideShapes Go.ChangeAt Go.RowKit
set_option linter.unusedVariables false
set_option linter.unusedSimpArgs false
set_option maxRecDepth 100000

/-- A slice of rows, in a world. -/
def RRow (w : World) (a : Option Addr) (n c : Nat) (l : List Rw) : Prop :=
  n = l.length ∧ n ≤ c ∧ c ≤ maxLen ∧ (a = none → c = 0) ∧ (0 < n → ∃ b off, a = some ⟨b, off, none⟩ ∧ b < w.heap.size ∧ ∀ j r, l[j]? = some r → ∀ i v, (rcs r)[i]? = some v → w.cell? ⟨b, off + j * 6 + i, none⟩ = some v)
theorem RRow.below {w w' : World} {a : Option Addr} {n c : Nat} {l : List Rw} (h : RRow w a n c l) (hb : Below w.heap.size w w') : RRow w' a n c l := by
  obtain ⟨h1, h2, h3, h4, h5⟩ := h
  refine ⟨h1, h2, h3, h4, fun h0 => ?_⟩
  obtain ⟨b, off, e, hlt, hl⟩ := h5 h0
  exact ⟨b, off, e, Nat.lt_of_lt_of_le hlt hb.size, fun j r hj i v hi => ((bcell hb).1 b _ hlt).trans (hl j r hj i v hi)⟩
theorem rrow_nil (w : World) : RRow w none 0 0 [] := ⟨rfl, Nat.le_refl _, by decide, fun _ => rfl, fun h => by cases h⟩
theorem RRow.lens {w : World} {a : Option Addr} {n c : Nat} {l : List Rw} (h : RRow w a n c l) : n = l.length ∧ n ≤ 9223372036854775807 := by
  obtain ⟨h1, h2, h3, _⟩ := h
  unfold maxLen at h3
  exact ⟨h1, by omega⟩
/-- One row of it, read. -/
theorem RRow.pick {w w' : World} {a : Option Addr} {n c : Nat} {l : List Rw} (h : RRow w a n c l) (hb : Below w.heap.size w w') {k : Nat} (hk : k < n) :
    ∃ b off x0 x1 x2 x3 m0 m1, a = some ⟨b, off, none⟩ ∧ b < w.heap.size ∧ l[k]? = some (x0, x1, x2, x3, m0, m1) ∧ w'.cell? ⟨b, off + k * 6, none⟩ = some (.int .u8 x0) ∧ w'.cell? ⟨b, off + k * 6 + 1, none⟩ = some (.int .u8 x1) ∧ w'.cell? ⟨b, off + k * 6 + 2, none⟩ = some (.int .u8 x2) ∧ w'.cell? ⟨b, off + k * 6 + 3, none⟩ = some (.int .u8 x3) ∧ w'.cell? ⟨b, off + k * 6 + 4, none⟩ = some (.int .i64 m0) ∧ w'.cell? ⟨b, off + k * 6 + 5, none⟩ = some (.int .i64 m1) := by
  obtain ⟨h1, h2, h3, h4, h5⟩ := h.below hb
  obtain ⟨h1', _, _, _, h5'⟩ := h
  obtain ⟨b, off, e, hlt, hl⟩ := h5 (by omega)
  obtain ⟨b', off', e', hlt', _⟩ := h5' (by omega)
  rw [e] at e'
  cases e'
  obtain ⟨r, hr⟩ : ∃ r, l[k]? = some r := ⟨l[k]'(by omega), List.getElem?_eq_getElem (by omega)⟩
  obtain ⟨x0, x1, x2, x3, m0, m1⟩ := r
  have := hl k _ hr
  exact ⟨b, off, x0, x1, x2, x3, m0, m1, e, hlt', hr, this 0 _ rfl, this 1 _ rfl, this 2 _ rfl, this 3 _ rfl, this 4 _ rfl, this 5 _ rfl⟩

/-- A number's size; the sums of the sizes of some rows. -/
def szi (v : Int) : Int := if v < 0 then -v else v
def sum0 : List Rw → Int | [] => 0 | r :: l => szi (rm0 r) + sum0 l
def sum1 : List Rw → Int | [] => 0 | r :: l => szi (rm1 r) + sum1 l
theorem szi_nn (v : Int) : 0 ≤ szi v := by unfold szi; split <;> omega
theorem szi_le {v : Int} (h : I64 v) : szi v ≤ 9223372036854775808 := by obtain ⟨h1, h2⟩ := h; unfold szi; split <;> omega
theorem sum0_nn (l : List Rw) : 0 ≤ sum0 l := by induction l with | nil => exact Int.le_refl _ | cons r l ih => have := szi_nn (rm0 r); simp only [sum0]; omega
theorem sum1_nn (l : List Rw) : 0 ≤ sum1 l := by induction l with | nil => exact Int.le_refl _ | cons r l ih => have := szi_nn (rm1 r); simp only [sum1]; omega
theorem sum0_app (l m : List Rw) : sum0 (l ++ m) = sum0 l + sum0 m := by induction l with | nil => simp [sum0] | cons r l ih => simp only [List.cons_append, sum0, ih]; omega
theorem sum1_app (l m : List Rw) : sum1 (l ++ m) = sum1 l + sum1 m := by induction l with | nil => simp [sum1] | cons r l ih => simp only [List.cons_append, sum1, ih]; omega
theorem sum0_step {l : List Rw} {k : Nat} {r : Rw} (h : l[k]? = some r) : sum0 (l.take (k + 1)) = sum0 (l.take k) + szi (rm0 r) := by
  rw [List.take_add_one, h, sum0_app]; simp [sum0]
theorem sum1_step {l : List Rw} {k : Nat} {r : Rw} (h : l[k]? = some r) : sum1 (l.take (k + 1)) = sum1 (l.take k) + szi (rm1 r) := by
  rw [List.take_add_one, h, sum1_app]; simp [sum1]
theorem sum0_take (l : List Rw) (k : Nat) : sum0 (l.take k) ≤ sum0 l := by
  have := sum0_app (l.take k) (l.drop k); rw [List.take_append_drop] at this; have := sum0_nn (l.drop k); omega
theorem sum1_take (l : List Rw) (k : Nat) : sum1 (l.take k) ≤ sum1 l := by
  have := sum1_app (l.take k) (l.drop k); rw [List.take_append_drop] at this; have := sum1_nn (l.drop k); omega
def mok (l : List Rw) : Bool := decide (sum0 l ≤ 2305843009213693952 ∧ sum1 l ≤ 2305843009213693952)
def mv0 (l : List Rw) : Int := if mok l then sum0 l else 0
def mv1 (l : List Rw) : Int := if mok l then sum1 l else 0
theorem mok_no {l : List Rw} (h : 2305843009213693952 < sum0 l ∨ 2305843009213693952 < sum1 l) : mok l = false := decide_eq_false (by omega)
theorem mok_yes {l : List Rw} (h : sum0 l ≤ 2305843009213693952) (h' : sum1 l ≤ 2305843009213693952) : mok l = true := decide_eq_true ⟨h, h'⟩

set_option maxHeartbeats 400000 in
theorem csize_m (v S : Int) (w : World) (hv : Hid (I64 v)) (hS : Hid (szi v = S)) : Calls Try.prog 36 #[.int .i64 v] w fun e w' => e = .returned (.int .u64 S) ∧ w' = w := by
  obtain ⟨v1, v2⟩ := hv.out
  have h := hS.out
  unfold szi at h
  by_cases h1 : v < 0
  · rw [if_pos h1] at h
    go_enter Try.func36, Try.ntmps36
    go_wp2
    go_ret
    exact ⟨ret_int (by rw [← h]; try (simp only [IntKind.wrap_u64]; omega)), rfl⟩
  · rw [if_neg h1] at h
    go_enter Try.func36, Try.ntmps36
    go_wp2
    go_ret
    exact ⟨ret_int (by rw [← h]; try (simp only [IntKind.wrap_u64]; omega)), rfl⟩
set_option maxHeartbeats 400000 in
theorem crsize_m (v S : Int) (w : World) (hv : Hid (I64 v)) (hS : Hid (szi v = S)) : Calls Try.prog 37 #[.int .i64 v] w fun e w' => e = .returned (.int .u64 S) ∧ w' = w := by
  obtain ⟨v1, v2⟩ := hv.out
  have h := hS.out
  unfold szi at h
  by_cases h1 : v < 0
  · rw [if_pos h1] at h
    go_enter Try.func37, Try.ntmps37
    go_wp2
    go_ret
    exact ⟨ret_int (by rw [← h]; first | done | omega | (simp only [IntKind.wrap_u64, IntKind.wrap_i64]; omega)), rfl⟩
  · rw [if_neg h1] at h
    go_enter Try.func37, Try.ntmps37
    go_wp2
    go_ret
    exact ⟨ret_int (by rw [← h]; first | done | omega | (simp only [IntKind.wrap_u64, IntKind.wrap_i64]; omega)), rfl⟩

end Go.Proofs.Ytikgbcdmeikjfaa

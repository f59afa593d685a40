/-
  The number at the beginning of any bytes, or none; any number behind any bytes: the walk of the law CodeNumbers.
  Conditions: as each theorem states them.
-/
import Derived.Test.YteilfoefjemjoaaM
import Derived.Test.YteilfoefjemjoaaG
import Derived.Laws.BytesString
import Derived.Deep.RegionHeld
namespace Go.Proofs.Yteilfoefjemjoaa
open Go.RowKit
set_option linter.unusedVariables false
set_option linter.unusedSimpArgs false

/-- Bytes as a string. -/
def text (l : List Int) : ByteArray := l.foldl (fun r n => r.push (UInt8.ofNat n.toNat)) ByteArray.empty

theorem conv_row {w : World} {g len cap : Nat} {l : List Int} (hl : l.length = len) (h : Lies w g 0 l) : (convert 36 9 (.slice (some ⟨g, 0, none⟩) len cap)).run Try.prog w = .ok (.string (text l)) w := by
  rw [run_convert_bytes_string w 36 9 5 _ _ _ Try.underlying36 Try.underlying5 Try.underlying9]
  refine run_bytesToString w ⟨g, 0, none⟩ len cap l ?_
  have := run_loadCells_list (P := Try.prog) w ⟨g, 0, none⟩ (vals l) (lies_cells h)
  rw [vals_len, Nat.mul_one, hl] at this
  exact this

theorem lies_to {w w' : World} {g : Nat} {l : List Int} (hb : Below w.heap.size w w') (hg : g < w.heap.size) (hl : Lies w g 0 l) : g < w'.heap.size ∧ Lies w' g 0 l :=
  ⟨Nat.lt_of_lt_of_le hg hb.size, fun k hk => ((bcell hb).1 g _ hg).trans (hl k hk)⟩

set_option maxHeartbeats 4000000 in
theorem numbers_walk (a : Option Addr) (len cap : Nat) (l : List Int) (u : Int) (w : World) (h : Row8 w a len cap l) (hu : U64 u) (hl : len ≤ 3000) (hc : cap ≤ 9223372036854775807) (hN : (getB l == decide (0 < getN l)) = true) :
    Calls Try.prog 6 #[.slice a len cap, .int .u64 u] w fun e w' => e = .returned (.bool true) ∧ Below w.heap.size w w' := by
  have HR : Hid (Row8 w a len cap l) := h
  clear h
  go_enter Try.func6, Try.ntmps6
  go_wp2_with (first
    | (go_at_call 23; refine (get_any _ _ _ _ _ HR.out).mono ?_; rintro e w' ⟨rfl, hw⟩; have hw2 := hw.symm; clear hw; subst hw2)
    | (go_at_call 24; refine (rget_any _ _ _ _ _ HR.out).mono ?_; rintro e w' ⟨rfl, hw⟩; have hw2 := hw.symm; clear hw; subst hw2))
  go_region_held (fun w' => Below w.heap.size w w')
    (first | assumption | exact (Below.refl _ _).drew | exact bt (by assumption) (by assumption))
    (first
      | (go_at_call 22; refine (put_any _ _ _ _ _ _ (HR.out.below (by assumption)) (by omega) hu).mono ?_; rintro e w1 ⟨⟨g, rfl, hg0, hg, hl1⟩, hb1⟩; have c1 := conv_row (cap := (l ++ digs u).length) rfl hl1; rw [List.length_append] at c1)
      | (go_at_call 26; refine (rdigits_any _ _ hu).mono ?_; rintro e w2 ⟨⟨g2, cap2, rfl, hown2⟩, hb2⟩; obtain ⟨hg, hl1⟩ := lies_to hb2 hg hl1; have c1 := conv_row (cap := (l ++ digs u).length) rfl hl1; rw [List.length_append] at c1)
      | (go_at_call 25; refine (bytes_any _ _ _ _ _ _ l (digs u) _ (HR.out.below (by assumption)) (own_row8 (by assumption) (digs_u8 hu)) (by have := (digs_len u).2; omega)).mono ?_; rintro e w3 ⟨⟨g3, cap3, rfl, hown3⟩, hb3⟩; obtain ⟨hg, hl1⟩ := lies_to hb3 hg hl1; have c1 := conv_row (cap := (l ++ digs u).length) rfl hl1; rw [List.length_append] at c1; have c3 := conv_row (cap := cap3) (owns_lies hown3).1.symm (owns_lies hown3).2.2)
      | (go_at_call 21; refine (wakes_any _).mono ?_; rintro e w1 ⟨rfl, hb1⟩))
  all_goals (go_wp2; go_ret; exact ⟨rfl, by assumption⟩)

theorem numbers_get (l : List Int) : (getB l == decide (0 < getN l)) = true := by
  unfold getN
  cases getB l with
  | true => simp
  | false => simp

set_option maxHeartbeats 1000000 in
theorem numbers_big (a : Option Addr) (len cap : Nat) (u : Int) (w : World) (hl : 3000 < len) (h1 : len ≤ 9223372036854775807) :
    Calls Try.prog 6 #[.slice a len cap, .int .u64 u] w fun e w' => e = .returned (.bool true) ∧ Below w.heap.size w w' := by
  go_enter Try.func6, Try.ntmps6
  go_wp2_with (go_at_call 21; refine (wakes_any _).mono ?_; rintro e w9 ⟨rfl, hb9⟩)
  go_ret
  exact ⟨rfl, hb9⟩

theorem numbers_all (a : Option Addr) (len cap : Nat) (l : List Int) (u : Int) (w : World) (h : Row8 w a len cap l) (hu : U64 u) :
    Calls Try.prog 6 #[.slice a len cap, .int .u64 u] w fun e w' => e = .returned (.bool true) ∧ Below w.heap.size w w' := by
  have e1 := h.2.1; have e2 := h.2.2.1
  unfold maxLen at e2
  by_cases hb : 3000 < len
  · exact numbers_big a len cap u w hb (by omega)
  · exact numbers_walk a len cap l u w h hu (by omega) (by omega) (numbers_get l)

end Go.Proofs.Yteilfoefjemjoaa

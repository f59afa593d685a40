/-
  What the document writes, as a slice.
  Conditions: as each theorem states them.
-/
import Derived.Test.YtmlnfpefemchhaaSU
import Derived.Test.YtmlnfpefemchhaaOP
import Derived.Test.YtmlnfpefemchhaaOP2
namespace Go.Proofs.Ytmlnfpefemchhaa
open Go.ChangeShapes Go.WideShapes Go.ChangeAt Go.RowKit
set_option linter.unusedVariables false
set_option linter.unusedSimpArgs false

theorem bytesC_u8 (ds : Dims) (M : Int) : ∀ x ∈ bytesC ds M, U8 x := by
  cases h : goodC ds M with
  | true => rw [bytesC_nums h]; exact nums_u8 h
  | false => rw [bytesC_bad h]; intro x hx; simp at hx
theorem rbytes_row (a : Option Addr) (n c : Nat) (ds : Dims) (M : Int) (w : World) (hc : Cat w a n c ds) (hM : I64 M) :
    Calls Try.prog 11 #[.agg #[.slice a n c, .int .i64 M]] w fun e w' => (∃ a' n' c', e = .returned (.slice a' n' c') ∧ code.Row8 w' a' n' c' (bytesC ds M)) ∧ Below w.heap.size w w' := by
  refine (rbytes_any a n c ds M w hc hM).mono ?_
  rintro e w' ⟨⟨v, rfl, ho⟩, hb⟩
  obtain ⟨a', c', rfl, hr⟩ := row8_own ho (bytesC_u8 ds M)
  exact ⟨⟨_, _, _, rfl, hr⟩, hb⟩

end Go.Proofs.Ytmlnfpefemchhaa

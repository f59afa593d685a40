/-
  A parameter of two bytes, opened.
  Conditions: as each theorem states them.
-/
import Derived.Test.YtmlnfpefemchhaaOP
namespace Go.Proofs.Ytmlnfpefemchhaa
open Go.ChangeShapes Go.WideShapes Go.ChangeAt Go.RowKit
set_option linter.unusedVariables false
set_option linter.unusedSimpArgs false

theorem open_two_cells {H : Type} {enc : TypeId × Value → H} {W : World} {base fuel : Nat} {spare : Nat → Bool} {held : Bool} {c0 c1 : Value} {x : DataW H × List MemPlace}
    (hf : DataW.trod enc Try.prog W base spare held fuel 26 [c0, c1] = some x) : ∃ a b : Int, c0 = .int .u8 a ∧ c1 = .int .u8 b ∧ ∀ y ∈ [a, b], U8 y := by
  have hC2 : Try.prog.cellsOf 5 = 1 := by kernel_rfl
  obtain ⟨ys, m, _, hx, _, hl, hg⟩ := DataW.trod_array Try.underlying26 hf
  have g0 := hg 0 (by decide); have g1 := hg 1 (by decide)
  rw [hC2] at g0 g1
  match ys, hl with
  | [y0, y1], _ =>
    simp at g0 g1
    obtain ⟨a, e0, _, w0⟩ := DataW.trod_int Try.underlying5 g0
    obtain ⟨b, e1, _, w1⟩ := DataW.trod_int Try.underlying5 g1
    simp at e0 e1
    subst e0 e1
    exact ⟨a, b, rfl, rfl, by intro y hy; simp at hy; rcases hy with rfl | rfl <;> first | exact bounds_u8 w0 | exact bounds_u8 w1⟩

theorem open_two {H : Type} {enc : TypeId × Value → H} {W : World} {base b0 : Nat} {spare : Nat → Bool} {held : Bool} {r : Reach} {v : Value} {d : DataW H} {p : List MemPlace}
    (hv : Value.okWide Try.prog W r b0 26 v) (h : DataW.Trod enc Try.prog W base spare held 26 v d p) :
    ∃ a b : Int, v = .agg #[.int .u8 a, .int .u8 b] ∧ ∀ y ∈ [a, b], U8 y := by
  have hC : Try.prog.cellsOf 26 = 2 := by kernel_rfl
  obtain ⟨cs, rfl, hsz⟩ := okWide_array Try.underlying26 hv
  rw [hC] at hsz
  obtain ⟨fuel, hf⟩ := h
  obtain ⟨c0, c1, rfl⟩ : ∃ c0 c1, cs = #[c0, c1] := by
    obtain ⟨l⟩ := cs
    match l, hsz with
    | [c0, c1], _ => exact ⟨_, _, rfl⟩
  obtain ⟨a, b, rfl, rfl, hu⟩ := open_two_cells hf
  exact ⟨a, b, rfl, hu⟩
end Go.Proofs.Ytmlnfpefemchhaa

/-
  The parameters of the laws of layer 3, opened: a dimension, what is asked, three bytes.
  Conditions: as each theorem states them.
-/
import Derived.Test.YtffhjmldijbolaaM
import Derived.Lib.SmallJoins
import Derived.ProofKit
import Derived.OpenShut
namespace Go.Proofs.Ytffhjmldijbolaa
open Go.ChangeShapes Go.WideShapes Go.ChangeAt Go.RowKit
set_option linter.unusedVariables false
set_option linter.unusedSimpArgs false

theorem cells_dim : Try.prog.cellsOf 25 = 2 := by kernel_rfl
theorem cells_row : Try.prog.cellsOf 22 = 1 := by kernel_rfl
theorem cells_rows : Try.prog.cellsOf 23 = 1 := by kernel_rfl
theorem cells_int : Try.prog.cellsOf 3 = 1 := by kernel_rfl
theorem open_dim_cells {H : Type} {enc : TypeId × Value → H} {W : World} {base fuel : Nat} {c0 c1 : Value} {x : DataW H × List MemPlace}
    (h : DataW.trod enc Try.prog W base (fun _ => true) true fuel 25 [c0, c1] = some x) : ∃ sa sl sc ua ul uc S U, c0 = .slice sa sl sc ∧ c1 = .slice ua ul uc ∧ Dim W sa sl sc ua ul uc S U := by
  obtain ⟨y0, y1, n, _, _, g0, g1⟩ := trod_struct2 Try.underlying25 h
  simp only [cells_row, cells_rows] at g0 g1
  simp at g0 g1
  obtain ⟨sa, sl, sc, S, e0, r0, w0⟩ := open_irow_cells Try.underlying22 Try.underlying3 cells_int g0
  obtain ⟨ua, ul, uc, U, e1, r1, w1⟩ := open_irows_cells Try.underlying23 Try.underlying22 Try.underlying3 cells_row cells_int g1
  simp at e0 e1
  exact ⟨sa, sl, sc, ua, ul, uc, S, U, e0, e1, r0, r1, fun y hy => bounds_i64 (w0 y hy), fun l hl y hy => bounds_i64 (w1 l hl y hy)⟩
theorem open_dim {H : Type} {enc : TypeId × Value → H} {W : World} {base b0 : Nat} {r : Reach} {v : Value} {d : DataW H} {p : List MemPlace}
    (hv : Value.okWide Try.prog W r b0 25 v) (h : DataW.Trod enc Try.prog W base (fun _ => true) true 25 v d p) :
    ∃ sa sl sc ua ul uc S U, v = .agg #[.slice sa sl sc, .slice ua ul uc] ∧ Dim W sa sl sc ua ul uc S U := by
  obtain ⟨cs, rfl, hsz⟩ := okWide_struct Try.underlying25 hv
  rw [cells_dim] at hsz
  obtain ⟨fuel, hf⟩ := h
  obtain ⟨c0, c1, rfl⟩ : ∃ c0 c1, cs = #[c0, c1] := by
    obtain ⟨l⟩ := cs
    match l, hsz with
    | [c0, c1], _ => exact ⟨_, _, rfl⟩
  obtain ⟨sa, sl, sc, ua, ul, uc, S, U, rfl, rfl, hd⟩ := open_dim_cells hf
  exact ⟨sa, sl, sc, ua, ul, uc, S, U, rfl, hd⟩
theorem open_ask {H : Type} {enc : TypeId × Value → H} {W : World} {base b0 : Nat} {r : Reach} {v : Value} {d : DataW H} {p : List MemPlace}
    (hv : Value.okWide Try.prog W r b0 27 v) (h : DataW.Trod enc Try.prog W base (fun _ => true) true 27 v d p) :
    ∃ sa sl sc ua ul uc S U f t m, v = .agg #[.slice sa sl sc, .slice ua ul uc, .int .i64 f, .int .i64 t, .int .i64 m] ∧ Dim W sa sl sc ua ul uc S U ∧ I64 f ∧ I64 t ∧ I64 m := by
  have hC : Try.prog.cellsOf 27 = 5 := by kernel_rfl
  obtain ⟨cs, rfl, hsz⟩ := okWide_struct Try.underlying27 hv
  rw [hC] at hsz
  obtain ⟨fuel, hf⟩ := h
  obtain ⟨y0, y1, y2, y3, n, _, _, g0, g1, g2, g3⟩ := Go.Joins.trod_struct4 Try.underlying27 hf
  obtain ⟨c0, c1, c2, c3, c4, rfl⟩ : ∃ c0 c1 c2 c3 c4, cs = #[c0, c1, c2, c3, c4] := by
    obtain ⟨l⟩ := cs
    match l, hsz with
    | [c0, c1, c2, c3, c4], _ => exact ⟨_, _, _, _, _, rfl⟩
  simp only [cells_dim, cells_int] at g0 g1 g2 g3
  simp [Value.cells] at g0 g1 g2 g3
  obtain ⟨sa, sl, sc, ua, ul, uc, S, U, rfl, rfl, hd⟩ := open_dim_cells g0
  obtain ⟨f, e1, _, wf⟩ := DataW.trod_int Try.underlying3 g1
  obtain ⟨t, e2, _, wt⟩ := DataW.trod_int Try.underlying3 g2
  obtain ⟨m, e3, _, wm⟩ := DataW.trod_int Try.underlying3 g3
  simp at e1 e2 e3
  subst e1 e2 e3
  exact ⟨sa, sl, sc, ua, ul, uc, S, U, f, t, m, rfl, hd, bounds_i64 wf, bounds_i64 wt, bounds_i64 wm⟩
theorem open_three {H : Type} {enc : TypeId × Value → H} {W : World} {base b0 : Nat} {spare : Nat → Bool} {held : Bool} {r : Reach} {v : Value} {d : DataW H} {p : List MemPlace}
    (hv : Value.okWide Try.prog W r b0 32 v) (h : DataW.Trod enc Try.prog W base spare held 32 v d p) :
    ∃ a b c : Int, v = .agg #[.int .u8 a, .int .u8 b, .int .u8 c] ∧ U8 a ∧ U8 b ∧ U8 c := by
  have hC : Try.prog.cellsOf 32 = 3 := by kernel_rfl
  have hC2 : Try.prog.cellsOf 5 = 1 := by kernel_rfl
  obtain ⟨cs, rfl, hsz⟩ := okWide_array Try.underlying32 hv
  rw [hC] at hsz
  obtain ⟨fuel, hf⟩ := h
  obtain ⟨ys, m, _, hx, _, hl, hg⟩ := DataW.trod_array Try.underlying32 hf
  obtain ⟨c0, c1, c2, rfl⟩ : ∃ c0 c1 c2, cs = #[c0, c1, c2] := by
    obtain ⟨l⟩ := cs
    match l, hsz with
    | [c0, c1, c2], _ => exact ⟨_, _, _, rfl⟩
  have g0 := hg 0 (by decide); have g1 := hg 1 (by decide); have g2 := hg 2 (by decide)
  rw [hC2] at g0 g1 g2
  match ys, hl with
  | [y0, y1, y2], _ =>
    simp [Value.cells] at g0 g1 g2
    obtain ⟨a, e0, _, wa⟩ := DataW.trod_int Try.underlying5 g0
    obtain ⟨b, e1, _, wb⟩ := DataW.trod_int Try.underlying5 g1
    obtain ⟨c, e2, _, wc⟩ := DataW.trod_int Try.underlying5 g2
    simp at e0 e1 e2
    subst e0 e1 e2
    exact ⟨a, b, c, rfl, bounds_u8 wa, bounds_u8 wb, bounds_u8 wc⟩

end Go.Proofs.Ytffhjmldijbolaa

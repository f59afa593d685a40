/-
  Parameters of laws over catalogs, nodes and places, opened.
  Conditions: as each theorem states them.
-/
import Derived.Test.YtikgbcdmeikjfaaSD
import Derived.Lib.SmallJoins
import Derived.ProofKit
import Derived.OpenShut
namespace Go.Proofs.Ytikgbcdmeikjfaa
open Go.ChangeShapes Go.WideShapes Go.ChangeAt Go.RowKit
set_option linter.unusedVariables false
set_option linter.unusedSimpArgs false
set_option maxRecDepth 100000

theorem cells_dim : Try.prog.cellsOf 63 = 2 := by kernel_rfl
theorem cells_row : Try.prog.cellsOf 60 = 1 := by kernel_rfl
theorem cells_rows : Try.prog.cellsOf 61 = 1 := by kernel_rfl
theorem cells_int : Try.prog.cellsOf 3 = 1 := by kernel_rfl
theorem cells_dims : Try.prog.cellsOf 22 = 1 := by kernel_rfl
theorem cells_cat : Try.prog.cellsOf 24 = 2 := by kernel_rfl
theorem open_cat2 {H : Type} {enc : TypeId × Value → H} {W : World} {base fuel : Nat} {c0 c1 : Value} {x : DataW H × List MemPlace}
    (hf : DataW.trod enc Try.prog W base (fun _ => true) true fuel 24 [c0, c1] = some x) : ∃ a n c ds M, c0 = .slice a n c ∧ c1 = .int .i64 M ∧ Cat W a n c ds ∧ I64 M :=
  open_catalog_cells Try.underlying24 rfl rfl rfl rfl cells_dims cells_int Try.underlying3 Try.underlying22 Try.underlying63 cells_dim rfl rfl rfl rfl Try.underlying61 Try.underlying60 Try.underlying3 cells_rows cells_row cells_int hf
theorem open_cat {H : Type} {enc : TypeId × Value → H} {W : World} {base b0 : Nat} {r : Reach} {v : Value} {d : DataW H} {p : List MemPlace}
    (hv : Value.okWide Try.prog W r b0 24 v) (h : DataW.Trod enc Try.prog W base (fun _ => true) true 24 v d p) :
    ∃ a n c ds M, v = .agg #[.slice a n c, .int .i64 M] ∧ Cat W a n c ds ∧ I64 M := by
  obtain ⟨cs, rfl, hsz⟩ := okWide_struct Try.underlying24 hv
  rw [cells_cat] at hsz
  obtain ⟨fuel, hf⟩ := h
  obtain ⟨c0, c1, rfl⟩ : ∃ c0 c1, cs = #[c0, c1] := by
    obtain ⟨l⟩ := cs
    match l, hsz with
    | [c0, c1], _ => exact ⟨_, _, rfl⟩
  obtain ⟨a, n, c, ds, M, rfl, rfl, hc, hM⟩ := open_cat2 hf
  exact ⟨a, n, c, ds, M, rfl, hc, hM⟩

theorem open_node_cells {H : Type} {enc : TypeId × Value → H} {W : World} {base fuel : Nat} {spare : Nat → Bool} {held : Bool} {c0 c1 c2 c3 : Value} {x : DataW H × List MemPlace}
    (hf : DataW.trod enc Try.prog W base spare held fuel 65 [c0, c1, c2, c3] = some x) : ∃ a b c d : Int, c0 = .int .u8 a ∧ c1 = .int .u8 b ∧ c2 = .int .u8 c ∧ c3 = .int .u8 d ∧ ∀ y ∈ [a, b, c, d], U8 y := by
  have hC2 : Try.prog.cellsOf 5 = 1 := by kernel_rfl
  obtain ⟨ys, m, _, hx, _, hl, hg⟩ := DataW.trod_array Try.underlying65 hf
  have g0 := hg 0 (by decide); have g1 := hg 1 (by decide); have g2 := hg 2 (by decide); have g3 := hg 3 (by decide)
  rw [hC2] at g0 g1 g2 g3
  match ys, hl with
  | [y0, y1, y2, y3], _ =>
    simp at g0 g1 g2 g3
    obtain ⟨a, e0, _, w0⟩ := DataW.trod_int Try.underlying5 g0
    obtain ⟨b, e1, _, w1⟩ := DataW.trod_int Try.underlying5 g1
    obtain ⟨c, e2, _, w2⟩ := DataW.trod_int Try.underlying5 g2
    obtain ⟨d, e3, _, w3⟩ := DataW.trod_int Try.underlying5 g3
    simp at e0 e1 e2 e3
    subst e0 e1 e2 e3
    exact ⟨a, b, c, d, rfl, rfl, rfl, rfl, by intro y hy; simp at hy; rcases hy with rfl | rfl | rfl | rfl <;> first | exact bounds_u8 w0 | exact bounds_u8 w1 | exact bounds_u8 w2 | exact bounds_u8 w3⟩

theorem open_node {H : Type} {enc : TypeId × Value → H} {W : World} {base b0 : Nat} {spare : Nat → Bool} {held : Bool} {r : Reach} {v : Value} {d : DataW H} {p : List MemPlace}
    (hv : Value.okWide Try.prog W r b0 65 v) (h : DataW.Trod enc Try.prog W base spare held 65 v d p) :
    ∃ a b c d : Int, v = .agg #[.int .u8 a, .int .u8 b, .int .u8 c, .int .u8 d] ∧ ∀ y ∈ [a, b, c, d], U8 y := by
  have hC : Try.prog.cellsOf 65 = 4 := by kernel_rfl
  obtain ⟨cs, rfl, hsz⟩ := okWide_array Try.underlying65 hv
  rw [hC] at hsz
  obtain ⟨fuel, hf⟩ := h
  obtain ⟨c0, c1, c2, c3, rfl⟩ : ∃ c0 c1 c2 c3, cs = #[c0, c1, c2, c3] := by
    obtain ⟨l⟩ := cs
    match l, hsz with
    | [c0, c1, c2, c3], _ => exact ⟨_, _, _, _, rfl⟩
  obtain ⟨a, b, c, d, rfl, rfl, rfl, rfl, hu⟩ := open_node_cells hf
  exact ⟨a, b, c, d, rfl, hu⟩

theorem open_coord_cells {H : Type} {enc : TypeId × Value → H} {W : World} {base fuel : Nat} {spare : Nat → Bool} {held : Bool} {c0 c1 c2 c3 : Value} {x : DataW H × List MemPlace}
    (hf : DataW.trod enc Try.prog W base spare held fuel 30 [c0, c1, c2, c3] = some x) : ∃ a b c d : Int, c0 = .int .u8 a ∧ c1 = .int .u8 b ∧ c2 = .int .u8 c ∧ c3 = .int .u8 d ∧ ∀ y ∈ [a, b, c, d], U8 y := by
  have hC2 : Try.prog.cellsOf 5 = 1 := by kernel_rfl
  obtain ⟨ys, m, _, hx, _, hl, hg⟩ := DataW.trod_array Try.underlying30 hf
  have g0 := hg 0 (by decide); have g1 := hg 1 (by decide); have g2 := hg 2 (by decide); have g3 := hg 3 (by decide)
  rw [hC2] at g0 g1 g2 g3
  match ys, hl with
  | [y0, y1, y2, y3], _ =>
    simp at g0 g1 g2 g3
    obtain ⟨a, e0, _, w0⟩ := DataW.trod_int Try.underlying5 g0
    obtain ⟨b, e1, _, w1⟩ := DataW.trod_int Try.underlying5 g1
    obtain ⟨c, e2, _, w2⟩ := DataW.trod_int Try.underlying5 g2
    obtain ⟨d, e3, _, w3⟩ := DataW.trod_int Try.underlying5 g3
    simp at e0 e1 e2 e3
    subst e0 e1 e2 e3
    exact ⟨a, b, c, d, rfl, rfl, rfl, rfl, by intro y hy; simp at hy; rcases hy with rfl | rfl | rfl | rfl <;> first | exact bounds_u8 w0 | exact bounds_u8 w1 | exact bounds_u8 w2 | exact bounds_u8 w3⟩

theorem open_coord {H : Type} {enc : TypeId × Value → H} {W : World} {base b0 : Nat} {spare : Nat → Bool} {held : Bool} {r : Reach} {v : Value} {d : DataW H} {p : List MemPlace}
    (hv : Value.okWide Try.prog W r b0 30 v) (h : DataW.Trod enc Try.prog W base spare held 30 v d p) :
    ∃ a b c d : Int, v = .agg #[.int .u8 a, .int .u8 b, .int .u8 c, .int .u8 d] ∧ ∀ y ∈ [a, b, c, d], U8 y := by
  have hC : Try.prog.cellsOf 30 = 4 := by kernel_rfl
  obtain ⟨cs, rfl, hsz⟩ := okWide_array Try.underlying30 hv
  rw [hC] at hsz
  obtain ⟨fuel, hf⟩ := h
  obtain ⟨c0, c1, c2, c3, rfl⟩ : ∃ c0 c1 c2 c3, cs = #[c0, c1, c2, c3] := by
    obtain ⟨l⟩ := cs
    match l, hsz with
    | [c0, c1, c2, c3], _ => exact ⟨_, _, _, _, rfl⟩
  obtain ⟨a, b, c, d, rfl, rfl, rfl, rfl, hu⟩ := open_coord_cells hf
  exact ⟨a, b, c, d, rfl, hu⟩
theorem rgood_m (a : Option Addr) (n c : Nat) (ds : Dims) (M : Int) (v : Bool) (w : World) (hc : Cat w a n c ds) (hM : I64 M) (hv : goodC ds M = v) :
    Calls Try.prog 52 #[.agg #[.slice a n c, .int .i64 M]] w fun e w' => e = .returned (.bool v) ∧ Below w.heap.size w w' := by
  have := rgoodC_any a n c ds M w hc hM
  rw [hv] at this; exact this
theorem rright_m (a : Option Addr) (n c : Nat) (ds : Dims) (M : Int) (v0 v1 v2 v3 x0 x1 x2 x3 : Int) (v : Bool) (w : World) (hc : Cat w a n c ds) (hM : I64 M) (hV : ∀ x ∈ [v0, v1, v2, v3], U8 x) (hA : ∀ x ∈ [x0, x1, x2, x3], U8 x) (hv : rightC ds M [v0, v1, v2, v3] [x0, x1, x2, x3] = v) :
    Calls Try.prog 29 #[.agg #[.slice a n c, .int .i64 M], .agg #[.int .u8 v0, .int .u8 v1, .int .u8 v2, .int .u8 v3], .agg #[.int .u8 x0, .int .u8 x1, .int .u8 x2, .int .u8 x3]] w fun e w' => e = .returned (.bool v) ∧ Below w.heap.size w w' := by
  have := rright_any a n c ds M v0 v1 v2 v3 x0 x1 x2 x3 w hc hM hV hA
  rw [hv] at this; exact this
end Go.Proofs.Ytikgbcdmeikjfaa

/-
  Parameters of the laws of lift, opened.
  Conditions: as each theorem states them.
-/
import Derived.Test.YtfgphphaopcolaaOP
import Derived.Test.YtfgphphaopcolaaLib4
namespace Go.Proofs.Ytfgphphaopcolaa
open Go.ChangeShapes Go.WideShapes Go.ChangeAt Go.RowKit
set_option linter.unusedVariables false
set_option linter.unusedSimpArgs false

theorem open_way {H : Type} {enc : TypeId × Value → H} {W : World} {base b0 : Nat} {r : Reach} {v : Value} {d : DataW H} {p : List MemPlace}
    (hv : Value.okWide Try.prog W r b0 48 v) (h : DataW.Trod enc Try.prog W base (fun _ => true) true 48 v d p) :
    ∃ (a : Option Addr) (n c : Nat) (ds : Dims) (M u0 u1 u2 u3 v0 v1 v2 v3 w0 w1 w2 w3 x0 x1 x2 x3 : Int), v = .agg #[.slice a n c, .int .i64 M, .int .u8 u0, .int .u8 u1, .int .u8 u2, .int .u8 u3, .int .u8 v0, .int .u8 v1, .int .u8 v2, .int .u8 v3, .int .u8 w0, .int .u8 w1, .int .u8 w2, .int .u8 w3, .int .u8 x0, .int .u8 x1, .int .u8 x2, .int .u8 x3] ∧ Cat W a n c ds ∧ I64 M ∧
      (∀ y ∈ [u0, u1, u2, u3], U8 y) ∧ (∀ y ∈ [v0, v1, v2, v3], U8 y) ∧ (∀ y ∈ [w0, w1, w2, w3], U8 y) ∧ (∀ y ∈ [x0, x1, x2, x3], U8 y) := by
  have hC : Try.prog.cellsOf 48 = 18 := by kernel_rfl
  have hN : Try.prog.cellsOf 26 = 4 := by kernel_rfl
  have hO : Try.prog.cellsOf 27 = 4 := by kernel_rfl
  obtain ⟨cs, rfl, hsz⟩ := okWide_struct Try.underlying48 hv
  rw [hC] at hsz
  obtain ⟨fuel, hf⟩ := h
  obtain ⟨c0, c1, c2, c3, c4, c5, c6, c7, c8, c9, ca, cb, cc, cd, ce, cf, cg, ch, rfl⟩ : ∃ c0 c1 c2 c3 c4 c5 c6 c7 c8 c9 ca cb cc cd ce cf cg ch, cs = #[c0, c1, c2, c3, c4, c5, c6, c7, c8, c9, ca, cb, cc, cd, ce, cf, cg, ch] := by
    obtain ⟨l⟩ := cs
    match l, hsz with
    | [c0, c1, c2, c3, c4, c5, c6, c7, c8, c9, ca, cb, cc, cd, ce, cf, cg, ch], _ => exact ⟨_, _, _, _, _, _, _, _, _, _, _, _, _, _, _, _, _, _, rfl⟩
  obtain ⟨xs, m, _, _, _, hl, hg⟩ := DataW.trod_struct Try.underlying48 hf
  have g0 := hg 0
  have g1 := hg 1
  have g2 := hg 2
  have g3 := hg 3
  have g4 := hg 4
  simp [hN, hO, cells_cat, Value.cells] at g0 g1 g2 g3 g4
  match xs, hl with
  | [y0, y1, y2, y3, y4], _ =>
    obtain ⟨a, n, c, ds, M, rfl, rfl, hc, hM⟩ := open_cat2 (c0 := c0) (c1 := c1) g0
    obtain ⟨u0, u1, u2, u3, rfl, rfl, rfl, rfl, hu⟩ := open_node_cells (c0 := c2) (c1 := c3) (c2 := c4) (c3 := c5) g1
    obtain ⟨v0, v1, v2, v3, rfl, rfl, rfl, rfl, hvv⟩ := open_node_cells (c0 := c6) (c1 := c7) (c2 := c8) (c3 := c9) g2
    obtain ⟨w0, w1, w2, w3, rfl, rfl, rfl, rfl, hw⟩ := open_node_cells (c0 := ca) (c1 := cb) (c2 := cc) (c3 := cd) g3
    obtain ⟨x0, x1, x2, x3, rfl, rfl, rfl, rfl, hx⟩ := open_coord_cells (c0 := ce) (c1 := cf) (c2 := cg) (c3 := ch) g4
    exact ⟨a, n, c, ds, M, u0, u1, u2, u3, v0, v1, v2, v3, w0, w1, w2, w3, x0, x1, x2, x3, rfl, hc, hM, hu, hvv, hw, hx⟩

theorem open_fix_cells {H : Type} {enc : TypeId × Value → H} {W : World} {base fuel : Nat} {c0 c1 c2 : Value} {x : DataW H × List MemPlace}
    (hf : DataW.trod enc Try.prog W base (fun _ => true) true fuel 30 [c0, c1, c2] = some x) : ∃ (d L : Int) (ma : Option Addr) (ml mc : Nat) (Ms : List Int), c0 = .int .i64 d ∧ c1 = .int .i64 L ∧ c2 = .slice ma ml mc ∧ I64 d ∧ I64 L ∧ IRow .i64 W ma ml mc Ms := by
  obtain ⟨xs, m, _, _, _, hl, hg⟩ := DataW.trod_struct Try.underlying30 hf
  have g0 := hg 0
  have g1 := hg 1
  have g2 := hg 2
  simp [cells_int, cells_row] at g0 g1 g2
  match xs, hl with
  | [y0, y1, y2], _ =>
    obtain ⟨d, e0, _, w0⟩ := DataW.trod_int (cs := [c0]) Try.underlying3 g0
    obtain ⟨L, e1, _, w1⟩ := DataW.trod_int (cs := [c1]) Try.underlying3 g1
    obtain ⟨ma, ml, mc, Ms, e2, hr, _⟩ := open_irow_cells (cs := [c2]) Try.underlying28 Try.underlying3 cells_int g2
    simp at e0 e1 e2
    subst e0 e1 e2
    exact ⟨d, L, ma, ml, mc, Ms, rfl, rfl, rfl, bounds_i64 w0, bounds_i64 w1, hr⟩

theorem open_ask {H : Type} {enc : TypeId × Value → H} {W : World} {base b0 : Nat} {r : Reach} {v : Value} {d : DataW H} {p : List MemPlace}
    (hv : Value.okWide Try.prog W r b0 32 v) (h : DataW.Trod enc Try.prog W base (fun _ => true) true 32 v d p) :
    ∃ (a : Option Addr) (n c : Nat) (ds : Dims) (M f0 f1 f2 f3 t0 t1 t2 t3 x0 x1 x2 x3 dd L : Int) (ma : Option Addr) (ml mc : Nat) (Ms : List Int), v = .agg #[.slice a n c, .int .i64 M, .int .u8 f0, .int .u8 f1, .int .u8 f2, .int .u8 f3, .int .u8 t0, .int .u8 t1, .int .u8 t2, .int .u8 t3, .int .u8 x0, .int .u8 x1, .int .u8 x2, .int .u8 x3, .int .i64 dd, .int .i64 L, .slice ma ml mc] ∧ Cat W a n c ds ∧ I64 M ∧
      (∀ y ∈ [f0, f1, f2, f3], U8 y) ∧ (∀ y ∈ [t0, t1, t2, t3], U8 y) ∧ (∀ y ∈ [x0, x1, x2, x3], U8 y) ∧ I64 dd ∧ I64 L ∧ IRow .i64 W ma ml mc Ms := by
  have hC : Try.prog.cellsOf 32 = 17 := by kernel_rfl
  have hN : Try.prog.cellsOf 26 = 4 := by kernel_rfl
  have hO : Try.prog.cellsOf 27 = 4 := by kernel_rfl
  have hF : Try.prog.cellsOf 30 = 3 := by kernel_rfl
  obtain ⟨cs, rfl, hsz⟩ := okWide_struct Try.underlying32 hv
  rw [hC] at hsz
  obtain ⟨fuel, hf⟩ := h
  obtain ⟨c0, c1, c2, c3, c4, c5, c6, c7, c8, c9, ca, cb, cc, cd, ce, cf, cg, rfl⟩ : ∃ c0 c1 c2 c3 c4 c5 c6 c7 c8 c9 ca cb cc cd ce cf cg, cs = #[c0, c1, c2, c3, c4, c5, c6, c7, c8, c9, ca, cb, cc, cd, ce, cf, cg] := by
    obtain ⟨l⟩ := cs
    match l, hsz with
    | [c0, c1, c2, c3, c4, c5, c6, c7, c8, c9, ca, cb, cc, cd, ce, cf, cg], _ => exact ⟨_, _, _, _, _, _, _, _, _, _, _, _, _, _, _, _, _, rfl⟩
  obtain ⟨xs, m, _, _, _, hl, hg⟩ := DataW.trod_struct Try.underlying32 hf
  have g0 := hg 0
  have g1 := hg 1
  have g2 := hg 2
  have g3 := hg 3
  have g4 := hg 4
  simp [hN, hO, hF, cells_cat, Value.cells] at g0 g1 g2 g3 g4
  match xs, hl with
  | [y0, y1, y2, y3, y4], _ =>
    obtain ⟨a, n, c, ds, M, rfl, rfl, hc, hM⟩ := open_cat2 (c0 := c0) (c1 := c1) g0
    obtain ⟨u0, u1, u2, u3, rfl, rfl, rfl, rfl, hu⟩ := open_node_cells (c0 := c2) (c1 := c3) (c2 := c4) (c3 := c5) g1
    obtain ⟨v0, v1, v2, v3, rfl, rfl, rfl, rfl, hvv⟩ := open_node_cells (c0 := c6) (c1 := c7) (c2 := c8) (c3 := c9) g2
    obtain ⟨x0, x1, x2, x3, rfl, rfl, rfl, rfl, hx⟩ := open_coord_cells (c0 := ca) (c1 := cb) (c2 := cc) (c3 := cd) g3
    obtain ⟨dd, L, ma, ml, mc, Ms, rfl, rfl, rfl, hd, hL, hm⟩ := open_fix_cells (c0 := ce) (c1 := cf) (c2 := cg) g4
    exact ⟨a, n, c, ds, M, u0, u1, u2, u3, v0, v1, v2, v3, x0, x1, x2, x3, dd, L, ma, ml, mc, Ms, rfl, hc, hM, hu, hvv, hx, hd, hL, hm⟩

end Go.Proofs.Ytfgphphaopcolaa

/-
  Which of three lines is ahead: the walk of the law CellOrder.
  Conditions: as each theorem states them.
-/
import Derived.Test.YtgmnnpecihcdhaaT9
import Derived.Test.YtgmnnpecihcdhaaR9
namespace Go.Proofs.Ytgmnnpecihcdhaa
open Go.ChangeShapes Go.WideShapes Go.ChangeAt Go.RowKit
set_option linter.unusedVariables false
set_option linter.unusedSimpArgs false
set_option maxRecDepth 100000

theorem open_line_cells {H : Type} {enc : TypeId × Value → H} {W : World} {base fuel : Nat} {spare : Nat → Bool} {held : Bool} {c0 c1 c2 c3 c4 c5 c6 c7 c8 c9 c10 : Value} {x : DataW H × List MemPlace}
    (hf : DataW.trod enc Try.prog W base spare held fuel 44 [c0, c1, c2, c3, c4, c5, c6, c7, c8, c9, c10] = some x) : ∃ (u0 u1 u2 u3 : Int) (y : Lv), [c0, c1, c2, c3, c4, c5, c6, c7, c8, c9, c10] = [.int .u8 u0, .int .u8 u1, .int .u8 u2, .int .u8 u3, .int .i64 y.n, .int .i64 y.s0, .int .i64 y.s1, .int .i64 y.a0, .int .i64 y.a1, .int .i64 y.b0, .int .i64 y.b1] ∧ okl y := by
  have hO : Try.prog.cellsOf 28 = 4 := by kernel_rfl
  have hM : Try.prog.cellsOf 22 = 2 := by kernel_rfl
  have hI : Try.prog.cellsOf 2 = 1 := by kernel_rfl
  obtain ⟨xs, m, _, _, _, hl, hg⟩ := DataW.trod_struct Try.underlying44 hf
  have g0 := hg 0
  have g1 := hg 1
  have g2 := hg 2
  have g3 := hg 3
  have g4 := hg 4
  simp [hO, hM, hI] at g0 g1 g2 g3 g4
  match xs, hl with
  | [y0, y1, y2, y3, y4], _ =>
    obtain ⟨a, b, c, d, rfl, rfl, rfl, rfl, hu⟩ := open_coord_cells (c0 := c0) (c1 := c1) (c2 := c2) (c3 := c3) g0
    obtain ⟨n, e1, _, w1⟩ := DataW.trod_int Try.underlying2 g1
    simp at e1
    subst e1
    obtain ⟨m0, m1, rfl, rfl, i0, i1⟩ := open_meas_cells (c0 := c5) (c1 := c6) g2
    obtain ⟨p0, p1, rfl, rfl, i2, i3⟩ := open_meas_cells (c0 := c7) (c1 := c8) g3
    obtain ⟨q0, q1, rfl, rfl, i4, i5⟩ := open_meas_cells (c0 := c9) (c1 := c10) g4
    exact ⟨a, b, c, d, ⟨n, m0, m1, p0, p1, q0, q1⟩, rfl, bounds_i64 w1, ⟨i0, i1⟩, ⟨i2, i3⟩, i4, i5⟩
theorem list11 {l : List Value} (h : l.length = 11) : ∃ c0 c1 c2 c3 c4 c5 c6 c7 c8 c9 c10, l = [c0, c1, c2, c3, c4, c5, c6, c7, c8, c9, c10] := by
  match l, h with
  | [c0, c1, c2, c3, c4, c5, c6, c7, c8, c9, c10], _ => exact ⟨_, _, _, _, _, _, _, _, _, _, _, rfl⟩
theorem open_three {H : Type} {enc : TypeId × Value → H} {W : World} {base b0 : Nat} {spare : Nat → Bool} {held : Bool} {r : Reach} {v : Value} {d : DataW H} {p : List MemPlace}
    (hv : Value.okWide Try.prog W r b0 57 v) (h : DataW.Trod enc Try.prog W base spare held 57 v d p) :
    ∃ (u0 u1 u2 u3 v0 v1 v2 v3 z0 z1 z2 z3 : Int) (x y z : Lv), v = .agg #[.int .u8 u0, .int .u8 u1, .int .u8 u2, .int .u8 u3, .int .i64 x.n, .int .i64 x.s0, .int .i64 x.s1, .int .i64 x.a0, .int .i64 x.a1, .int .i64 x.b0, .int .i64 x.b1, .int .u8 v0, .int .u8 v1, .int .u8 v2, .int .u8 v3, .int .i64 y.n, .int .i64 y.s0, .int .i64 y.s1, .int .i64 y.a0, .int .i64 y.a1, .int .i64 y.b0, .int .i64 y.b1, .int .u8 z0, .int .u8 z1, .int .u8 z2, .int .u8 z3, .int .i64 z.n, .int .i64 z.s0, .int .i64 z.s1, .int .i64 z.a0, .int .i64 z.a1, .int .i64 z.b0, .int .i64 z.b1] ∧ okl x ∧ okl y ∧ okl z := by
  have hC : Try.prog.cellsOf 57 = 33 := by kernel_rfl
  have hL : Try.prog.cellsOf 44 = 11 := by kernel_rfl
  obtain ⟨cs, rfl, hsz⟩ := okWide_array Try.underlying57 hv
  rw [hC] at hsz
  obtain ⟨fuel, hf⟩ := h
  obtain ⟨c0, c1, c2, c3, c4, c5, c6, c7, c8, c9, c10, c11, c12, c13, c14, c15, c16, c17, c18, c19, c20, c21, c22, c23, c24, c25, c26, c27, c28, c29, c30, c31, c32, rfl⟩ : ∃ c0 c1 c2 c3 c4 c5 c6 c7 c8 c9 c10 c11 c12 c13 c14 c15 c16 c17 c18 c19 c20 c21 c22 c23 c24 c25 c26 c27 c28 c29 c30 c31 c32, cs = #[c0, c1, c2, c3, c4, c5, c6, c7, c8, c9, c10, c11, c12, c13, c14, c15, c16, c17, c18, c19, c20, c21, c22, c23, c24, c25, c26, c27, c28, c29, c30, c31, c32] := by
    obtain ⟨l⟩ := cs
    have hs : l.length = 33 := by simpa using hsz
    obtain ⟨c0, c1, c2, c3, c4, c5, c6, c7, c8, c9, c10, hA⟩ := list11 (l := l.take 11) (by rw [List.length_take]; omega)
    obtain ⟨c11, c12, c13, c14, c15, c16, c17, c18, c19, c20, c21, hB⟩ := list11 (l := (l.drop 11).take 11) (by rw [List.length_take, List.length_drop]; omega)
    obtain ⟨c22, c23, c24, c25, c26, c27, c28, c29, c30, c31, c32, hD⟩ := list11 (l := (l.drop 11).drop 11) (by rw [List.length_drop, List.length_drop]; omega)
    have e : l = l.take 11 ++ ((l.drop 11).take 11 ++ (l.drop 11).drop 11) := by rw [List.take_append_drop, List.take_append_drop]
    rw [hA, hB, hD] at e
    refine ⟨c0, c1, c2, c3, c4, c5, c6, c7, c8, c9, c10, c11, c12, c13, c14, c15, c16, c17, c18, c19, c20, c21, c22, c23, c24, c25, c26, c27, c28, c29, c30, c31, c32, ?_⟩
    rw [e]
    rfl
  have hf' : DataW.trod enc Try.prog W base spare held fuel 57 [c0, c1, c2, c3, c4, c5, c6, c7, c8, c9, c10, c11, c12, c13, c14, c15, c16, c17, c18, c19, c20, c21, c22, c23, c24, c25, c26, c27, c28, c29, c30, c31, c32] = some (d, p) := hf
  obtain ⟨ys, m, _, hx, _, hl, hg⟩ := DataW.trod_array Try.underlying57 hf'
  have g0 := hg 0 (by decide); have g1 := hg 1 (by decide); have g2 := hg 2 (by decide)
  rw [hL] at g0 g1 g2
  match ys, hl with
  | [y0, y1, y2], _ =>
    simp at g0 g1 g2
    obtain ⟨u0, u1, u2, u3, x, e0, o0⟩ := open_line_cells g0
    obtain ⟨v0, v1, v2, v3, y, e1, o1⟩ := open_line_cells g1
    obtain ⟨z0, z1, z2, z3, z, e2, o2⟩ := open_line_cells g2
    simp only [List.cons.injEq, and_true] at e0 e1 e2
    obtain ⟨rfl, rfl, rfl, rfl, rfl, rfl, rfl, rfl, rfl, rfl, rfl⟩ := e0
    obtain ⟨rfl, rfl, rfl, rfl, rfl, rfl, rfl, rfl, rfl, rfl, rfl⟩ := e1
    obtain ⟨rfl, rfl, rfl, rfl, rfl, rfl, rfl, rfl, rfl, rfl, rfl⟩ := e2
    exact ⟨u0, u1, u2, u3, v0, v1, v2, v3, z0, z1, z2, z3, x, y, z, rfl, o0, o1, o2⟩

theorem six_pick {w : World} {N : Nat} {t : TypeId} {a b c d e f : Int} (h : w.heap[N]? = some (.cells #[.int .i64 a, .int .i64 b, .int .i64 c, .int .i64 d, .int .i64 e, .int .i64 f] t)) {q : Nat} (hq : q < 6) : ∃ x, w.cell? ⟨N, q, none⟩ = some (.int .i64 x) := by
  rw [cell_of_row _ _ _ _ t (0, 0) h]
  match q, hq with
  | 0, _ => exact ⟨a, rfl⟩
  | 1, _ => exact ⟨b, rfl⟩
  | 2, _ => exact ⟨c, rfl⟩
  | 3, _ => exact ⟨d, rfl⟩
  | 4, _ => exact ⟨e, rfl⟩
  | 5, _ => exact ⟨f, rfl⟩
theorem three_pick {w : World} {N : Nat} {t : TypeId} {a b c : Int} (h : w.heap[N]? = some (.cells #[.int .i64 a, .int .i64 b, .int .i64 c] t)) {q : Nat} (hq : q < 3) : ∃ x, w.cell? ⟨N, q, none⟩ = some (.int .i64 x) := by
  rw [cell_of_row _ _ _ _ t (0, 0) h]
  match q, hq with
  | 0, _ => exact ⟨a, rfl⟩
  | 1, _ => exact ⟨b, rfl⟩
  | 2, _ => exact ⟨c, rfl⟩

theorem all33 {w wr : World} {u0 u1 u2 u3 v0 v1 v2 v3 z0 z1 z2 z3 : Int} {x y z : Lv} (h : Kp w wr w.heap.size (.cells #[.int .u8 u0, .int .u8 u1, .int .u8 u2, .int .u8 u3, .int .i64 x.n, .int .i64 x.s0, .int .i64 x.s1, .int .i64 x.a0, .int .i64 x.a1, .int .i64 x.b0, .int .i64 x.b1, .int .u8 v0, .int .u8 v1, .int .u8 v2, .int .u8 v3, .int .i64 y.n, .int .i64 y.s0, .int .i64 y.s1, .int .i64 y.a0, .int .i64 y.a1, .int .i64 y.b0, .int .i64 y.b1, .int .u8 z0, .int .u8 z1, .int .u8 z2, .int .u8 z3, .int .i64 z.n, .int .i64 z.s0, .int .i64 z.s1, .int .i64 z.a0, .int .i64 z.a1, .int .i64 z.b0, .int .i64 z.b1] 57)) : wr.cell? ⟨w.heap.size, 0, none⟩ = some (.int .u8 u0) ∧ wr.cell? ⟨w.heap.size, 1, none⟩ = some (.int .u8 u1) ∧ wr.cell? ⟨w.heap.size, 2, none⟩ = some (.int .u8 u2) ∧ wr.cell? ⟨w.heap.size, 3, none⟩ = some (.int .u8 u3) ∧ wr.cell? ⟨w.heap.size, 4, none⟩ = some (.int .i64 x.n) ∧ wr.cell? ⟨w.heap.size, 5, none⟩ = some (.int .i64 x.s0) ∧ wr.cell? ⟨w.heap.size, 6, none⟩ = some (.int .i64 x.s1) ∧ wr.cell? ⟨w.heap.size, 7, none⟩ = some (.int .i64 x.a0) ∧ wr.cell? ⟨w.heap.size, 8, none⟩ = some (.int .i64 x.a1) ∧ wr.cell? ⟨w.heap.size, 9, none⟩ = some (.int .i64 x.b0) ∧ wr.cell? ⟨w.heap.size, 10, none⟩ = some (.int .i64 x.b1) ∧ wr.cell? ⟨w.heap.size, 11, none⟩ = some (.int .u8 v0) ∧ wr.cell? ⟨w.heap.size, 12, none⟩ = some (.int .u8 v1) ∧ wr.cell? ⟨w.heap.size, 13, none⟩ = some (.int .u8 v2) ∧ wr.cell? ⟨w.heap.size, 14, none⟩ = some (.int .u8 v3) ∧ wr.cell? ⟨w.heap.size, 15, none⟩ = some (.int .i64 y.n) ∧ wr.cell? ⟨w.heap.size, 16, none⟩ = some (.int .i64 y.s0) ∧ wr.cell? ⟨w.heap.size, 17, none⟩ = some (.int .i64 y.s1) ∧ wr.cell? ⟨w.heap.size, 18, none⟩ = some (.int .i64 y.a0) ∧ wr.cell? ⟨w.heap.size, 19, none⟩ = some (.int .i64 y.a1) ∧ wr.cell? ⟨w.heap.size, 20, none⟩ = some (.int .i64 y.b0) ∧ wr.cell? ⟨w.heap.size, 21, none⟩ = some (.int .i64 y.b1) ∧ wr.cell? ⟨w.heap.size, 22, none⟩ = some (.int .u8 z0) ∧ wr.cell? ⟨w.heap.size, 23, none⟩ = some (.int .u8 z1) ∧ wr.cell? ⟨w.heap.size, 24, none⟩ = some (.int .u8 z2) ∧ wr.cell? ⟨w.heap.size, 25, none⟩ = some (.int .u8 z3) ∧ wr.cell? ⟨w.heap.size, 26, none⟩ = some (.int .i64 z.n) ∧ wr.cell? ⟨w.heap.size, 27, none⟩ = some (.int .i64 z.s0) ∧ wr.cell? ⟨w.heap.size, 28, none⟩ = some (.int .i64 z.s1) ∧ wr.cell? ⟨w.heap.size, 29, none⟩ = some (.int .i64 z.a0) ∧ wr.cell? ⟨w.heap.size, 30, none⟩ = some (.int .i64 z.a1) ∧ wr.cell? ⟨w.heap.size, 31, none⟩ = some (.int .i64 z.b0) ∧ wr.cell? ⟨w.heap.size, 32, none⟩ = some (.int .i64 z.b1) := by
  refine ⟨?_, ?_, ?_, ?_, ?_, ?_, ?_, ?_, ?_, ?_, ?_, ?_, ?_, ?_, ?_, ?_, ?_, ?_, ?_, ?_, ?_, ?_, ?_, ?_, ?_, ?_, ?_, ?_, ?_, ?_, ?_, ?_, ?_⟩ <;> exact kp_cell h rfl
set_option maxHeartbeats 64000000 in
theorem order_walk (f i : Int) (x y z : Lv) (u0 u1 u2 u3 v0 v1 v2 v3 z0 z1 z2 z3 : Int) (w : World) (hx : okl x) (hy : okl y) (hz : okl z) :
    Calls Try.prog 6 #[.int .i64 f, .int .i64 i, .agg #[.int .u8 u0, .int .u8 u1, .int .u8 u2, .int .u8 u3, .int .i64 x.n, .int .i64 x.s0, .int .i64 x.s1, .int .i64 x.a0, .int .i64 x.a1, .int .i64 x.b0, .int .i64 x.b1, .int .u8 v0, .int .u8 v1, .int .u8 v2, .int .u8 v3, .int .i64 y.n, .int .i64 y.s0, .int .i64 y.s1, .int .i64 y.a0, .int .i64 y.a1, .int .i64 y.b0, .int .i64 y.b1, .int .u8 z0, .int .u8 z1, .int .u8 z2, .int .u8 z3, .int .i64 z.n, .int .i64 z.s0, .int .i64 z.s1, .int .i64 z.a0, .int .i64 z.a1, .int .i64 z.b0, .int .i64 z.b1]] w fun e w' => e = .returned (.bool true) ∧ Below w.heap.size w w' := by
  have HX := hid hx
  have HY := hid hy
  have HZ := hid hz
  have K0 := hid (kp_new w (.cells #[.int .u8 u0, .int .u8 u1, .int .u8 u2, .int .u8 u3, .int .i64 x.n, .int .i64 x.s0, .int .i64 x.s1, .int .i64 x.a0, .int .i64 x.a1, .int .i64 x.b0, .int .i64 x.b1, .int .u8 v0, .int .u8 v1, .int .u8 v2, .int .u8 v3, .int .i64 y.n, .int .i64 y.s0, .int .i64 y.s1, .int .i64 y.a0, .int .i64 y.a1, .int .i64 y.b0, .int .i64 y.b1, .int .u8 z0, .int .u8 z1, .int .u8 z2, .int .u8 z3, .int .i64 z.n, .int .i64 z.s0, .int .i64 z.s1, .int .i64 z.a0, .int .i64 z.a1, .int .i64 z.b0, .int .i64 z.b1] 57))
  clear hx hy hz
  go_enter Try.func6, Try.ntmps6
  go_upto_region 1 with fail
  generalize w.alloc (.cells #[.int .u8 u0, .int .u8 u1, .int .u8 u2, .int .u8 u3, .int .i64 x.n, .int .i64 x.s0, .int .i64 x.s1, .int .i64 x.a0, .int .i64 x.a1, .int .i64 x.b0, .int .i64 x.b1, .int .u8 v0, .int .u8 v1, .int .u8 v2, .int .u8 v3, .int .i64 y.n, .int .i64 y.s0, .int .i64 y.s1, .int .i64 y.a0, .int .i64 y.a1, .int .i64 y.b0, .int .i64 y.b1, .int .u8 z0, .int .u8 z1, .int .u8 z2, .int .u8 z3, .int .i64 z.n, .int .i64 z.s0, .int .i64 z.s1, .int .i64 z.a0, .int .i64 z.a1, .int .i64 z.b0, .int .i64 z.b1] 57) = W0 at K0 ⊢
  go_upto_region 2 with fail
  have KF0 : Hid (Kp w (W0.alloc (.cells #[.int .i64 f, .int .i64 1, .int .i64 2, .int .i64 3, .int .i64 4, .int .i64 5] 3)) W0.heap.size (.cells #[.int .i64 f, .int .i64 1, .int .i64 2, .int .i64 3, .int .i64 4, .int .i64 5] 3)) := hid (kp_new2 K0.out.1 _ _ rfl)
  replace K0 := hid (kp_alloc K0.out (.cells #[.int .i64 f, .int .i64 1, .int .i64 2, .int .i64 3, .int .i64 4, .int .i64 5] 3))
  generalize W0.alloc (.cells #[.int .i64 f, .int .i64 1, .int .i64 2, .int .i64 3, .int .i64 4, .int .i64 5] 3) = W1 at K0 KF0 ⊢
  generalize W0.heap.size = NF at KF0 ⊢
  go_loopw [17] (fun j wr => ∃ (q : Nat), q ≤ 6 ∧ j = .int .i64 q ∧ Hid (Kp w wr w.heap.size (.cells #[.int .u8 u0, .int .u8 u1, .int .u8 u2, .int .u8 u3, .int .i64 x.n, .int .i64 x.s0, .int .i64 x.s1, .int .i64 x.a0, .int .i64 x.a1, .int .i64 x.b0, .int .i64 x.b1, .int .u8 v0, .int .u8 v1, .int .u8 v2, .int .u8 v3, .int .i64 y.n, .int .i64 y.s0, .int .i64 y.s1, .int .i64 y.a0, .int .i64 y.a1, .int .i64 y.b0, .int .i64 y.b1, .int .u8 z0, .int .u8 z1, .int .u8 z2, .int .u8 z3, .int .i64 z.n, .int .i64 z.s0, .int .i64 z.s1, .int .i64 z.a0, .int .i64 z.a1, .int .i64 z.b0, .int .i64 z.b1] 57)) ∧ Hid (Kp w wr NF (.cells #[.int .i64 f, .int .i64 1, .int .i64 2, .int .i64 3, .int .i64 4, .int .i64 5] 3))) (fun j _ => 6 - (intOf j).toNat)
  case atStart => exact ⟨0, by omega, rfl, K0, KF0⟩
  case round =>
    obtain ⟨q, hq6, rfl, K0, KF⟩ := hrel
    have hq0 : (0 : Int) ≤ (q : Int) := by omega
    by_cases hlt : q < 6
    · have hqi : (q : Int) < 6 := by omega
      have hqd : decide ((q : Int) < 6) = true := decide_eq_true hqi
      obtain ⟨fv', hfv⟩ := six_pick KF.out.2.2 hlt
      go_upto_region 5 with fail
      have KG0 : Hid (Kp w (wr.alloc (.cells #[.int .i64 i, .int .i64 0, .int .i64 1] 3)) wr.heap.size (.cells #[.int .i64 i, .int .i64 0, .int .i64 1] 3)) := hid (kp_new2 K0.out.1 _ _ rfl)
      replace K0 := hid (kp_alloc K0.out (.cells #[.int .i64 i, .int .i64 0, .int .i64 1] 3))
      replace KF := hid (kp_alloc KF.out (.cells #[.int .i64 i, .int .i64 0, .int .i64 1] 3))
      clear hfv
      generalize wr.alloc (.cells #[.int .i64 i, .int .i64 0, .int .i64 1] 3) = W2 at K0 KF KG0 ⊢
      generalize wr.heap.size = NG at KG0 ⊢
      go_loopw [24] (fun j wr => ∃ (r : Nat), r ≤ 3 ∧ j = .int .i64 r ∧ Hid (Kp w wr w.heap.size (.cells #[.int .u8 u0, .int .u8 u1, .int .u8 u2, .int .u8 u3, .int .i64 x.n, .int .i64 x.s0, .int .i64 x.s1, .int .i64 x.a0, .int .i64 x.a1, .int .i64 x.b0, .int .i64 x.b1, .int .u8 v0, .int .u8 v1, .int .u8 v2, .int .u8 v3, .int .i64 y.n, .int .i64 y.s0, .int .i64 y.s1, .int .i64 y.a0, .int .i64 y.a1, .int .i64 y.b0, .int .i64 y.b1, .int .u8 z0, .int .u8 z1, .int .u8 z2, .int .u8 z3, .int .i64 z.n, .int .i64 z.s0, .int .i64 z.s1, .int .i64 z.a0, .int .i64 z.a1, .int .i64 z.b0, .int .i64 z.b1] 57)) ∧ Hid (Kp w wr NF (.cells #[.int .i64 f, .int .i64 1, .int .i64 2, .int .i64 3, .int .i64 4, .int .i64 5] 3)) ∧ Hid (Kp w wr NG (.cells #[.int .i64 i, .int .i64 0, .int .i64 1] 3))) (fun j _ => 3 - (intOf j).toNat)
      case atStart => exact ⟨0, by omega, rfl, K0, KF, KG0⟩
      case round =>
        obtain ⟨r, hr3, rfl, K0, KF, KG⟩ := hrel
        have hr0 : (0 : Int) ≤ (r : Int) := by omega
        by_cases hrl : r < 3
        · have hri : (r : Int) < 3 := by omega
          have hrd : decide ((r : Int) < 3) = true := decide_eq_true hri
          obtain ⟨iv', hiv⟩ := three_pick KG.out.2.2 hrl
          obtain ⟨A1, hA1⟩ : ∃ a, av fv' iv' x y = a := ⟨_, rfl⟩
          obtain ⟨A2, hA2⟩ : ∃ a, av fv' iv' y z = a := ⟨_, rfl⟩
          obtain ⟨A3, hA3⟩ : ∃ a, av fv' iv' x z = a := ⟨_, rfl⟩
          obtain ⟨A4, hA4⟩ : ∃ a, av fv' iv' y x = a := ⟨_, rfl⟩
          have FA1 := hid hA1
          have FA2 := hid hA2
          have FA3 := hid hA3
          have FA4 := hid hA4
          have b1 := av_bd fv' iv' x y
          have b2 := av_bd fv' iv' y z
          have b3 := av_bd fv' iv' x z
          have le := fun p q => av_le (f := fv') (i := iv') (x := x) (y := y) (z := z) p q
          have ge := fun p q => av_ge (f := fv') (i := iv') (x := x) (y := y) (z := z) p q
          rw [hA1] at b1 le ge
          rw [hA2] at b2 le ge
          rw [hA3] at b3 le ge
          have HT : Hid ((A1 ≤ 0 → A2 ≤ 0 → A3 ≤ 0 ∧ (A1 + A2 < 0 → A3 < 0)) ∧ (0 ≤ A1 → 0 ≤ A2 → 0 ≤ A3 ∧ (0 < A1 + A2 → 0 < A3)) ∧ (-1 ≤ A1 ∧ A1 ≤ 1) ∧ (-1 ≤ A2 ∧ A2 ≤ 1) ∧ (-1 ≤ A3 ∧ A3 ≤ 1)) := hid ⟨le, ge, b1, b2, b3⟩
          have hsw : A4 = -A1 := by rw [← hA4, ← hA1]; exact av_swap fv' iv' x y
          have hneg : IntKind.i64.wrap (-A1) = A4 := by rw [hsw]; exact IntWalk.i64_in _ (by omega)
          have n1 : decide (A1 < -1) = false := decide_eq_false (by omega)
          have n2 : decide (1 < A1) = false := decide_eq_false (by omega)
          have e44 : (A4 != A4) = false := by simp
          have e11 : (A1 != A1) = false := by simp
          clear hA1 hA2 hA3 hA4 b1 b2 b3 le ge hsw
          have KS : Hid (∀ y', Below wr.heap.size wr y' → Below wr.heap.size wr y' ∧ y'.cell? ⟨w.heap.size, 0, none⟩ = some (.int .u8 u0) ∧ y'.cell? ⟨w.heap.size, 1, none⟩ = some (.int .u8 u1) ∧ y'.cell? ⟨w.heap.size, 2, none⟩ = some (.int .u8 u2) ∧ y'.cell? ⟨w.heap.size, 3, none⟩ = some (.int .u8 u3) ∧ y'.cell? ⟨w.heap.size, 4, none⟩ = some (.int .i64 x.n) ∧ y'.cell? ⟨w.heap.size, 5, none⟩ = some (.int .i64 x.s0) ∧ y'.cell? ⟨w.heap.size, 6, none⟩ = some (.int .i64 x.s1) ∧ y'.cell? ⟨w.heap.size, 7, none⟩ = some (.int .i64 x.a0) ∧ y'.cell? ⟨w.heap.size, 8, none⟩ = some (.int .i64 x.a1) ∧ y'.cell? ⟨w.heap.size, 9, none⟩ = some (.int .i64 x.b0) ∧ y'.cell? ⟨w.heap.size, 10, none⟩ = some (.int .i64 x.b1) ∧ y'.cell? ⟨w.heap.size, 11, none⟩ = some (.int .u8 v0) ∧ y'.cell? ⟨w.heap.size, 12, none⟩ = some (.int .u8 v1) ∧ y'.cell? ⟨w.heap.size, 13, none⟩ = some (.int .u8 v2) ∧ y'.cell? ⟨w.heap.size, 14, none⟩ = some (.int .u8 v3) ∧ y'.cell? ⟨w.heap.size, 15, none⟩ = some (.int .i64 y.n) ∧ y'.cell? ⟨w.heap.size, 16, none⟩ = some (.int .i64 y.s0) ∧ y'.cell? ⟨w.heap.size, 17, none⟩ = some (.int .i64 y.s1) ∧ y'.cell? ⟨w.heap.size, 18, none⟩ = some (.int .i64 y.a0) ∧ y'.cell? ⟨w.heap.size, 19, none⟩ = some (.int .i64 y.a1) ∧ y'.cell? ⟨w.heap.size, 20, none⟩ = some (.int .i64 y.b0) ∧ y'.cell? ⟨w.heap.size, 21, none⟩ = some (.int .i64 y.b1) ∧ y'.cell? ⟨w.heap.size, 22, none⟩ = some (.int .u8 z0) ∧ y'.cell? ⟨w.heap.size, 23, none⟩ = some (.int .u8 z1) ∧ y'.cell? ⟨w.heap.size, 24, none⟩ = some (.int .u8 z2) ∧ y'.cell? ⟨w.heap.size, 25, none⟩ = some (.int .u8 z3) ∧ y'.cell? ⟨w.heap.size, 26, none⟩ = some (.int .i64 z.n) ∧ y'.cell? ⟨w.heap.size, 27, none⟩ = some (.int .i64 z.s0) ∧ y'.cell? ⟨w.heap.size, 28, none⟩ = some (.int .i64 z.s1) ∧ y'.cell? ⟨w.heap.size, 29, none⟩ = some (.int .i64 z.a0) ∧ y'.cell? ⟨w.heap.size, 30, none⟩ = some (.int .i64 z.a1) ∧ y'.cell? ⟨w.heap.size, 31, none⟩ = some (.int .i64 z.b0) ∧ y'.cell? ⟨w.heap.size, 32, none⟩ = some (.int .i64 z.b1)) := hid (fun y' hb => ⟨hb, all33 (K0.out.step hb)⟩)
          go_wp2
          clear hiv
          refine wp_region_noPanic ?_
          refine wp_region_held_drew (S := fun y' => Below wr.heap.size wr y' ∧ y'.cell? ⟨w.heap.size, 0, none⟩ = some (.int .u8 u0) ∧ y'.cell? ⟨w.heap.size, 1, none⟩ = some (.int .u8 u1) ∧ y'.cell? ⟨w.heap.size, 2, none⟩ = some (.int .u8 u2) ∧ y'.cell? ⟨w.heap.size, 3, none⟩ = some (.int .u8 u3) ∧ y'.cell? ⟨w.heap.size, 4, none⟩ = some (.int .i64 x.n) ∧ y'.cell? ⟨w.heap.size, 5, none⟩ = some (.int .i64 x.s0) ∧ y'.cell? ⟨w.heap.size, 6, none⟩ = some (.int .i64 x.s1) ∧ y'.cell? ⟨w.heap.size, 7, none⟩ = some (.int .i64 x.a0) ∧ y'.cell? ⟨w.heap.size, 8, none⟩ = some (.int .i64 x.a1) ∧ y'.cell? ⟨w.heap.size, 9, none⟩ = some (.int .i64 x.b0) ∧ y'.cell? ⟨w.heap.size, 10, none⟩ = some (.int .i64 x.b1) ∧ y'.cell? ⟨w.heap.size, 11, none⟩ = some (.int .u8 v0) ∧ y'.cell? ⟨w.heap.size, 12, none⟩ = some (.int .u8 v1) ∧ y'.cell? ⟨w.heap.size, 13, none⟩ = some (.int .u8 v2) ∧ y'.cell? ⟨w.heap.size, 14, none⟩ = some (.int .u8 v3) ∧ y'.cell? ⟨w.heap.size, 15, none⟩ = some (.int .i64 y.n) ∧ y'.cell? ⟨w.heap.size, 16, none⟩ = some (.int .i64 y.s0) ∧ y'.cell? ⟨w.heap.size, 17, none⟩ = some (.int .i64 y.s1) ∧ y'.cell? ⟨w.heap.size, 18, none⟩ = some (.int .i64 y.a0) ∧ y'.cell? ⟨w.heap.size, 19, none⟩ = some (.int .i64 y.a1) ∧ y'.cell? ⟨w.heap.size, 20, none⟩ = some (.int .i64 y.b0) ∧ y'.cell? ⟨w.heap.size, 21, none⟩ = some (.int .i64 y.b1) ∧ y'.cell? ⟨w.heap.size, 22, none⟩ = some (.int .u8 z0) ∧ y'.cell? ⟨w.heap.size, 23, none⟩ = some (.int .u8 z1) ∧ y'.cell? ⟨w.heap.size, 24, none⟩ = some (.int .u8 z2) ∧ y'.cell? ⟨w.heap.size, 25, none⟩ = some (.int .u8 z3) ∧ y'.cell? ⟨w.heap.size, 26, none⟩ = some (.int .i64 z.n) ∧ y'.cell? ⟨w.heap.size, 27, none⟩ = some (.int .i64 z.s0) ∧ y'.cell? ⟨w.heap.size, 28, none⟩ = some (.int .i64 z.s1) ∧ y'.cell? ⟨w.heap.size, 29, none⟩ = some (.int .i64 z.a0) ∧ y'.cell? ⟨w.heap.size, 30, none⟩ = some (.int .i64 z.a1) ∧ y'.cell? ⟨w.heap.size, 31, none⟩ = some (.int .i64 z.b0) ∧ y'.cell? ⟨w.heap.size, 32, none⟩ = some (.int .i64 z.b1)) (by kernel_rfl) (keep_drew KS) (fun hHeld => ?_)
          refine wpAnyH_take (i := 0) (v := ?_) (by simp only [List.getElem?_toArray, List.getElem?_cons_succ, List.getElem?_cons_zero]; exact rfl) (by kernel_rfl) (by kernel_rfl) (by kernel_rfl) (fun _ _ _ h => h) (Or.inl ⟨by rfl, ?_⟩) (by assumption) ?_
          rotate_left
          · intro w hSw
            try dsimp only at hSw
            go_simp
            try with_reducible rfl
          try simp only [Act.put, List.setIfInBounds_toArray, List.set_cons_zero, List.set_cons_succ]
          refine wpAnyH_take (i := 1) (v := ?_) (by simp only [List.getElem?_toArray, List.getElem?_cons_succ, List.getElem?_cons_zero]; exact rfl) (by kernel_rfl) (by kernel_rfl) (by kernel_rfl) (fun _ _ _ h => h) (Or.inl ⟨by rfl, ?_⟩) (by assumption) ?_
          rotate_left
          · intro w hSw
            try dsimp only at hSw
            go_simp
            try with_reducible rfl
          try simp only [Act.put, List.setIfInBounds_toArray, List.set_cons_zero, List.set_cons_succ]
          refine wpAnyH_take (i := 2) (v := ?_) (by simp only [List.getElem?_toArray, List.getElem?_cons_succ, List.getElem?_cons_zero]; exact rfl) (by kernel_rfl) (by kernel_rfl) (by kernel_rfl) (fun _ _ _ h => h) (Or.inl ⟨by rfl, ?_⟩) (by assumption) ?_
          rotate_left
          · intro w hSw
            try dsimp only at hSw
            go_simp
            try with_reducible rfl
          try simp only [Act.put, List.setIfInBounds_toArray, List.set_cons_zero, List.set_cons_succ]
          refine wpAnyH_take (i := 3) (v := ?_) (by simp only [List.getElem?_toArray, List.getElem?_cons_succ, List.getElem?_cons_zero]; exact rfl) (by kernel_rfl) (by kernel_rfl) (by kernel_rfl) (fun _ _ _ h => h) (Or.inl ⟨by rfl, ?_⟩) (by assumption) ?_
          rotate_left
          · intro w hSw
            try dsimp only at hSw
            go_simp
            try with_reducible rfl
          try simp only [Act.put, List.setIfInBounds_toArray, List.set_cons_zero, List.set_cons_succ]
          refine wpAnyH_take (i := 4) (v := ?_) (by simp only [List.getElem?_toArray, List.getElem?_cons_succ, List.getElem?_cons_zero]; exact rfl) (by kernel_rfl) (by kernel_rfl) (by kernel_rfl) (fun _ _ _ h => h) (Or.inl ⟨by rfl, ?_⟩) (by assumption) ?_
          rotate_left
          · intro w hSw
            try dsimp only at hSw
            go_simp
            try with_reducible rfl
          try simp only [Act.put, List.setIfInBounds_toArray, List.set_cons_zero, List.set_cons_succ]
          refine wpAnyH_take (i := 5) (v := ?_) (by simp only [List.getElem?_toArray, List.getElem?_cons_succ, List.getElem?_cons_zero]; exact rfl) (by kernel_rfl) (by kernel_rfl) (by kernel_rfl) (fun _ _ _ h => h) (Or.inl ⟨by rfl, ?_⟩) (by assumption) ?_
          rotate_left
          · intro w hSw
            try dsimp only at hSw
            go_simp
            try with_reducible rfl
          try simp only [Act.put, List.setIfInBounds_toArray, List.set_cons_zero, List.set_cons_succ]
          refine wpAnyH_take (i := 7) (v := ?_) (by simp only [List.getElem?_toArray, List.getElem?_cons_succ, List.getElem?_cons_zero]; exact rfl) (by kernel_rfl) (by kernel_rfl) (by kernel_rfl) (fun _ _ _ h => h) (Or.inl ⟨by rfl, ?_⟩) (by assumption) ?_
          rotate_left
          · intro w hSw
            try dsimp only at hSw
            go_simp
            try with_reducible rfl
          try simp only [Act.put, List.setIfInBounds_toArray, List.set_cons_zero, List.set_cons_succ]
          refine wpAnyH_take (i := 8) (v := ?_) (by simp only [List.getElem?_toArray, List.getElem?_cons_succ, List.getElem?_cons_zero]; exact rfl) (by kernel_rfl) (by kernel_rfl) (by kernel_rfl) (fun _ _ _ h => h) (Or.inl ⟨by rfl, ?_⟩) (by assumption) ?_
          rotate_left
          · intro w hSw
            try dsimp only at hSw
            go_simp
            try with_reducible rfl
          try simp only [Act.put, List.setIfInBounds_toArray, List.set_cons_zero, List.set_cons_succ]
          refine wpAnyH_take (i := 9) (v := ?_) (by simp only [List.getElem?_toArray, List.getElem?_cons_succ, List.getElem?_cons_zero]; exact rfl) (by kernel_rfl) (by kernel_rfl) (by kernel_rfl) (fun _ _ _ h => h) (Or.inl ⟨by rfl, ?_⟩) (by assumption) ?_
          rotate_left
          · intro w hSw
            try dsimp only at hSw
            go_simp
            try with_reducible rfl
          try simp only [Act.put, List.setIfInBounds_toArray, List.set_cons_zero, List.set_cons_succ]
          refine wpAnyH_take (i := 10) (v := ?_) (by simp only [List.getElem?_toArray, List.getElem?_cons_succ, List.getElem?_cons_zero]; exact rfl) (by kernel_rfl) (by kernel_rfl) (by kernel_rfl) (fun _ _ _ h => h) (Or.inl ⟨by rfl, ?_⟩) (by assumption) ?_
          rotate_left
          · intro w hSw
            try dsimp only at hSw
            go_simp
            try with_reducible rfl
          try simp only [Act.put, List.setIfInBounds_toArray, List.set_cons_zero, List.set_cons_succ]
          refine wpAnyH_take (i := 11) (v := ?_) (by simp only [List.getElem?_toArray, List.getElem?_cons_succ, List.getElem?_cons_zero]; exact rfl) (by kernel_rfl) (by kernel_rfl) (by kernel_rfl) (fun _ _ _ h => h) (Or.inl ⟨by rfl, ?_⟩) (by assumption) ?_
          rotate_left
          · intro w hSw
            try dsimp only at hSw
            go_simp
            try with_reducible rfl
          try simp only [Act.put, List.setIfInBounds_toArray, List.set_cons_zero, List.set_cons_succ]
          refine wpAnyH_take (i := 12) (v := ?_) (by simp only [List.getElem?_toArray, List.getElem?_cons_succ, List.getElem?_cons_zero]; exact rfl) (by kernel_rfl) (by kernel_rfl) (by kernel_rfl) (fun _ _ _ h => h) (Or.inl ⟨by rfl, ?_⟩) (by assumption) ?_
          rotate_left
          · intro w hSw
            try dsimp only at hSw
            go_simp
            try with_reducible rfl
          try simp only [Act.put, List.setIfInBounds_toArray, List.set_cons_zero, List.set_cons_succ]
          refine wpAnyH_take (i := 14) (v := ?_) (by simp only [List.getElem?_toArray, List.getElem?_cons_succ, List.getElem?_cons_zero]; exact rfl) (by kernel_rfl) (by kernel_rfl) (by kernel_rfl) (fun _ _ _ h => h) (Or.inl ⟨by rfl, ?_⟩) (by assumption) ?_
          rotate_left
          · intro w hSw
            try dsimp only at hSw
            go_simp
            try with_reducible rfl
          try simp only [Act.put, List.setIfInBounds_toArray, List.set_cons_zero, List.set_cons_succ]
          refine wpAnyH_take (i := 15) (v := ?_) (by simp only [List.getElem?_toArray, List.getElem?_cons_succ, List.getElem?_cons_zero]; exact rfl) (by kernel_rfl) (by kernel_rfl) (by kernel_rfl) (fun _ _ _ h => h) (Or.inl ⟨by rfl, ?_⟩) (by assumption) ?_
          rotate_left
          · intro w hSw
            try dsimp only at hSw
            go_simp
            try with_reducible rfl
          try simp only [Act.put, List.setIfInBounds_toArray, List.set_cons_zero, List.set_cons_succ]
          refine wpAnyH_take (i := 16) (v := ?_) (by simp only [List.getElem?_toArray, List.getElem?_cons_succ, List.getElem?_cons_zero]; exact rfl) (by kernel_rfl) (by kernel_rfl) (by kernel_rfl) (fun _ _ _ h => h) (Or.inl ⟨by rfl, ?_⟩) (by assumption) ?_
          rotate_left
          · intro w hSw
            try dsimp only at hSw
            go_simp
            try with_reducible rfl
          try simp only [Act.put, List.setIfInBounds_toArray, List.set_cons_zero, List.set_cons_succ]
          refine wpAnyH_take (i := 17) (v := ?_) (by simp only [List.getElem?_toArray, List.getElem?_cons_succ, List.getElem?_cons_zero]; exact rfl) (by kernel_rfl) (by kernel_rfl) (by kernel_rfl) (fun _ _ _ h => h) (Or.inl ⟨by rfl, ?_⟩) (by assumption) ?_
          rotate_left
          · intro w hSw
            try dsimp only at hSw
            go_simp
            try with_reducible rfl
          try simp only [Act.put, List.setIfInBounds_toArray, List.set_cons_zero, List.set_cons_succ]
          refine wpAnyH_take (i := 18) (v := ?_) (by simp only [List.getElem?_toArray, List.getElem?_cons_succ, List.getElem?_cons_zero]; exact rfl) (by kernel_rfl) (by kernel_rfl) (by kernel_rfl) (fun _ _ _ h => h) (Or.inl ⟨by rfl, ?_⟩) (by assumption) ?_
          rotate_left
          · intro w hSw
            try dsimp only at hSw
            go_simp
            try with_reducible rfl
          try simp only [Act.put, List.setIfInBounds_toArray, List.set_cons_zero, List.set_cons_succ]
          refine wpAnyH_take (i := 19) (v := ?_) (by simp only [List.getElem?_toArray, List.getElem?_cons_succ, List.getElem?_cons_zero]; exact rfl) (by kernel_rfl) (by kernel_rfl) (by kernel_rfl) (fun _ _ _ h => h) (Or.inl ⟨by rfl, ?_⟩) (by assumption) ?_
          rotate_left
          · intro w hSw
            try dsimp only at hSw
            go_simp
            try with_reducible rfl
          try simp only [Act.put, List.setIfInBounds_toArray, List.set_cons_zero, List.set_cons_succ]
          refine wpAnyH_ready (rs := [6]) (by kernel_rfl) (by simp) ?_
          refine (AllReadyH.cons (by simp only [List.getElem?_toArray, List.getElem?_cons_succ, List.getElem?_cons_zero]; exact rfl) (fun K hK => ?_) AllReadyH.nil)
          go_simp
          go_at_call 28; refine (cahead_m fv' iv' x y u0 u1 u2 u3 v0 v1 v2 v3 A1 _ HX.out HY.out FA1).mono ?_; rintro e w1 ⟨rfl, hb1⟩
          refine hK.out _ _ (keep_step hb1 hHeld KS) (fun hHeld2 => ?_)
          clear hK K hHeld
          have hHeld := hHeld2
          clear hHeld2
          try simp only [Act.put, List.setIfInBounds_toArray, List.set_cons_zero, List.set_cons_succ]
          refine wpAnyH_ready (rs := [13]) (by kernel_rfl) (by simp) ?_
          refine (AllReadyH.cons (by simp only [List.getElem?_toArray, List.getElem?_cons_succ, List.getElem?_cons_zero]; exact rfl) (fun K hK => ?_) AllReadyH.nil)
          go_simp
          go_at_call 28; refine (cahead_m fv' iv' y z v0 v1 v2 v3 z0 z1 z2 z3 A2 _ HY.out HZ.out FA2).mono ?_; rintro e w2 ⟨rfl, hb2⟩
          refine hK.out _ _ (keep_step hb2 hHeld KS) (fun hHeld2 => ?_)
          clear hK K hHeld
          have hHeld := hHeld2
          clear hHeld2
          try simp only [Act.put, List.setIfInBounds_toArray, List.set_cons_zero, List.set_cons_succ]
          refine wpAnyH_ready (rs := [20]) (by kernel_rfl) (by simp) ?_
          refine (AllReadyH.cons (by simp only [List.getElem?_toArray, List.getElem?_cons_succ, List.getElem?_cons_zero]; exact rfl) (fun K hK => ?_) AllReadyH.nil)
          go_simp
          go_at_call 28; refine (cahead_m fv' iv' x z u0 u1 u2 u3 z0 z1 z2 z3 A3 _ HX.out HZ.out FA3).mono ?_; rintro e w3 ⟨rfl, hb3⟩
          refine hK.out _ _ (keep_step hb3 hHeld KS) (fun hHeld2 => ?_)
          clear hK K hHeld
          have hHeld := hHeld2
          clear hHeld2
          try simp only [Act.put, List.setIfInBounds_toArray, List.set_cons_zero, List.set_cons_succ]
          refine wpAnyH_take (i := 21) (v := ?_) (by simp only [List.getElem?_toArray, List.getElem?_cons_succ, List.getElem?_cons_zero]; exact rfl) (by kernel_rfl) (by kernel_rfl) (by kernel_rfl) (fun _ _ _ h => h) (Or.inl ⟨by rfl, ?_⟩) (by assumption) ?_
          rotate_left
          · intro w hSw
            try dsimp only at hSw
            go_simp
            try with_reducible rfl
          try simp only [Act.put, List.setIfInBounds_toArray, List.set_cons_zero, List.set_cons_succ]
          refine wpAnyH_take (i := 22) (v := ?_) (by simp only [List.getElem?_toArray, List.getElem?_cons_succ, List.getElem?_cons_zero]; exact rfl) (by kernel_rfl) (by kernel_rfl) (by kernel_rfl) (fun _ _ _ h => h) (Or.inl ⟨by rfl, ?_⟩) (by assumption) ?_
          rotate_left
          · intro w hSw
            try dsimp only at hSw
            go_simp
            try with_reducible rfl
          try simp only [Act.put, List.setIfInBounds_toArray, List.set_cons_zero, List.set_cons_succ]
          refine wpAnyH_take (i := 23) (v := ?_) (by simp only [List.getElem?_toArray, List.getElem?_cons_succ, List.getElem?_cons_zero]; exact rfl) (by kernel_rfl) (by kernel_rfl) (by kernel_rfl) (fun _ _ _ h => h) (Or.inl ⟨by rfl, ?_⟩) (by assumption) ?_
          rotate_left
          · intro w hSw
            try dsimp only at hSw
            go_simp
            try with_reducible rfl
          try simp only [Act.put, List.setIfInBounds_toArray, List.set_cons_zero, List.set_cons_succ]
          refine wpAnyH_done (by kernel_rfl) ?_ _
          refine NoPanic.normal ?_
          have hbb : Below wr.heap.size wr w3 := bt (bt (undrew hb1) hb2) hb3
          replace K0 := hid (K0.out.step hbb)
          replace KF := hid (KF.out.step hbb)
          replace KG := hid (KG.out.step hbb)
          clear hbb hb1 hb2 hb3 hHeld KS
          obtain ⟨q0, q1, q2, q3, q4, q5, q6, q7, q8, q9, q10, q11, q12, q13, q14, q15, q16, q17, q18, q19, q20, q21, q22, q23, q24, q25, q26, q27, q28, q29, q30, q31, q32⟩ := all33 K0.out
          go_upto_region 10 with (first
            | (go_at_call 29; refine (crahead_m fv' iv' x y u0 u1 u2 u3 v0 v1 v2 v3 A1 _ HX.out HY.out FA1).mono ?_; rintro e w4 ⟨rfl, hb⟩; replace K0 := hid (K0.out.step hb); replace KF := hid (KF.out.step hb); replace KG := hid (KG.out.step hb); clear hb; obtain ⟨r0, r1, r2, r3, r4, r5, r6, r7, r8, r9, r10, r11, r12, r13, r14, r15, r16, r17, r18, r19, r20, r21, r22, r23, r24, r25, r26, r27, r28, r29, r30, r31, r32⟩ := all33 K0.out)
            | (go_at_call 28; refine (cahead_m fv' iv' y x v0 v1 v2 v3 u0 u1 u2 u3 A4 _ HY.out HX.out FA4).mono ?_; rintro e w5 ⟨rfl, hb⟩; replace K0 := hid (K0.out.step hb); replace KF := hid (KF.out.step hb); replace KG := hid (KG.out.step hb); clear hb))
          clear hneg n1 n2 e44 e11
          have c1 : A1 = -1 ∨ A1 = 0 ∨ A1 = 1 := by have := HT.out.2.2.1; omega
          have c2 : A2 = -1 ∨ A2 = 0 ∨ A2 = 1 := by have := HT.out.2.2.2.1; omega
          have c3 : A3 = -1 ∨ A3 = 0 ∨ A3 = 1 := by have := HT.out.2.2.2.2; omega
          rcases c1 with rfl | rfl | rfl <;> rcases c2 with rfl | rfl | rfl <;> rcases c3 with rfl | rfl | rfl
          all_goals first
            | (exfalso; have h1 := HT.out.1; have h2 := HT.out.2.1; omega)
            | (go_wp2; go_roundw; (case rel => exact ⟨r + 1, by omega, by go_num, K0, KF, KG⟩); (case measure => simp [intOf]; omega))
        · have hrf : decide ((r : Int) < 3) = false := decide_eq_false (by omega)
          have hrf2 : decide (r < 3) = false := decide_eq_false hrl
          go_wp2
          go_roundw
          case rel => exact ⟨q + 1, by omega, by go_num, K0, KF⟩
          case measure => simp [intOf]; omega
    · have hqf : decide ((q : Int) < 6) = false := decide_eq_false (by omega)
      have hqf2 : decide (q < 6) = false := decide_eq_false hlt
      go_wp2_with (go_at_call 15; refine (wakes_any _).mono ?_; rintro e wa ⟨rfl, hba⟩)
      go_ret
      exact ⟨rfl, bt K0.out.1 hba⟩

end Go.Proofs.Ytgmnnpecihcdhaa

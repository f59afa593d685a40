/-
  -
  Conditions: as each theorem states them.
-/
import Derived.Test.YtjkkajhjcinalaaQAQ
import Derived.Test.YtjkkajhjcinalaaQAR
namespace Go.Proofs.Ytjkkajhjcinalaa
open Go.ChangeShapes Go.WideShapes Go.ChangeAt Go.RowKit
set_option linter.unusedVariables false
set_option linter.unusedSimpArgs false
set_option maxRecDepth 100000

theorem open_dask {H : Type} {enc : TypeId × Value → H} {W : World} {base e0 : Nat} {r : Reach} {v : Value} {d : DataW H} {p : List MemPlace}
    (hv : Value.okWide Try.prog W r e0 70 v) (h : DataW.Trod enc Try.prog W base (fun _ => true) true 70 v d p) :
    ∃ (m : Int) (dA : Dl) (a0 : Option Addr) (a1 a2 : Nat) (a3 : Option Addr) (a4 a5 : Nat) (a6 : Option Addr) (a7 a8 : Nat) (a9 : Option Addr) (a10 a11 : Nat) (dB : Dl) (b0 : Option Addr) (b1 b2 : Nat) (b3 : Option Addr) (b4 b5 : Nat) (b6 : Option Addr) (b7 b8 : Nat) (b9 : Option Addr) (b10 b11 : Nat), v = (.agg #[.int .i64 m, .int .i64 dA.n, .int .i64 dA.s0, .int .i64 dA.s1, .slice a0 a1 a2, .slice a3 a4 a5, .slice a6 a7 a8, .slice a9 a10 a11, .int .i64 dB.n, .int .i64 dB.s0, .int .i64 dB.s1, .slice b0 b1 b2, .slice b3 b4 b5, .slice b6 b7 b8, .slice b9 b10 b11]) ∧ (DW W a0 a1 a2 a3 a4 a5 a6 a7 a8 a9 a10 a11 dA ∧ okd dA) ∧ DW W b0 b1 b2 b3 b4 b5 b6 b7 b8 b9 b10 b11 dB ∧ okd dB := by
  have hC : Try.prog.cellsOf 70 = 15 := by kernel_rfl
  have hI : Try.prog.cellsOf 3 = 1 := by kernel_rfl
  have hL : Try.prog.cellsOf 68 = 7 := by kernel_rfl
  obtain ⟨cs, rfl, hsz⟩ := okWide_struct Try.underlying70 hv
  rw [hC] at hsz
  obtain ⟨fuel, hf⟩ := h
  obtain ⟨c0, c1, c2, c3, c4, c5, c6, c7, c8, c9, c10, c11, c12, c13, c14, rfl⟩ : ∃ c0 c1 c2 c3 c4 c5 c6 c7 c8 c9 c10 c11 c12 c13 c14, cs = #[c0, c1, c2, c3, c4, c5, c6, c7, c8, c9, c10, c11, c12, c13, c14] := by
    obtain ⟨l⟩ := cs
    have hs : l.length = 15 := by simpa using hsz
    obtain ⟨c0, c1, c2, c3, c4, c5, c6, hA⟩ := list7 (l := l.take 7) (by rw [List.length_take]; omega)
    obtain ⟨c7, c8, c9, c10, c11, c12, c13, hB⟩ := list7 (l := (l.drop 7).take 7) (by rw [List.length_take, List.length_drop]; omega)
    obtain ⟨c14, hD⟩ : ∃ c14, (l.drop 7).drop 7 = [c14] := by
      have hn : ((l.drop 7).drop 7).length = 1 := by rw [List.length_drop, List.length_drop]; omega
      match hh : (l.drop 7).drop 7, hn with
      | [c14], _ => exact ⟨c14, rfl⟩
    have e : l = l.take 7 ++ ((l.drop 7).take 7 ++ (l.drop 7).drop 7) := by rw [List.take_append_drop, List.take_append_drop]
    rw [hA, hB, hD] at e
    refine ⟨c0, c1, c2, c3, c4, c5, c6, c7, c8, c9, c10, c11, c12, c13, c14, ?_⟩
    rw [e]
    rfl
  have hf' : DataW.trod enc Try.prog W base (fun _ => true) true fuel 70 [c0, c1, c2, c3, c4, c5, c6, c7, c8, c9, c10, c11, c12, c13, c14] = some (d, p) := hf
  obtain ⟨ys, m, _, _, _, hl, hg⟩ := DataW.trod_struct Try.underlying70 hf'
  have g0 := hg 0
  have g1 := hg 1
  have g2 := hg 2
  simp [hI, hL] at g0 g1 g2
  match ys, hl with
  | [y0, y1, y2], _ =>
    obtain ⟨n, e0, _, w0⟩ := DataW.trod_int Try.underlying3 g0
    simp at e0
    subst e0
    obtain ⟨dA, a0, a1, a2, a3, a4, a5, a6, a7, a8, a9, a10, a11, eA, hA, kA⟩ := open_delta_cl g1
    simp only [List.cons.injEq, and_true] at eA
    obtain ⟨rfl, rfl, rfl, rfl, rfl, rfl, rfl⟩ := eA
    obtain ⟨dB, b0, b1, b2, b3, b4, b5, b6, b7, b8, b9, b10, b11, eB, hB, kB⟩ := open_delta_cl g2
    simp only [List.cons.injEq, and_true] at eB
    obtain ⟨rfl, rfl, rfl, rfl, rfl, rfl, rfl⟩ := eB
    exact ⟨n, dA, a0, a1, a2, a3, a4, a5, a6, a7, a8, a9, a10, a11, dB, b0, b1, b2, b3, b4, b5, b6, b7, b8, b9, b10, b11, rfl, ⟨hA, kA⟩, hB, kB⟩
theorem box_15d {w : World} {D : Nat} {t : TypeId} {c0 c1 c2 c3 c4 c5 c6 c7 c8 c9 c10 c11 c12 c13 c14 : Value} (hD : w.heap[D]? = some (.cells #[c0, c1, c2, c3, c4, c5, c6, c7, c8, c9, c10, c11, c12, c13, c14] t)) : w.cell? ⟨D, 0, none⟩ = some c0 ∧ w.cell? ⟨D, 1, none⟩ = some c1 ∧ w.cell? ⟨D, 2, none⟩ = some c2 ∧ w.cell? ⟨D, 3, none⟩ = some c3 ∧ w.cell? ⟨D, 4, none⟩ = some c4 ∧ w.cell? ⟨D, 5, none⟩ = some c5 ∧ w.cell? ⟨D, 6, none⟩ = some c6 ∧ w.cell? ⟨D, 7, none⟩ = some c7 ∧ w.cell? ⟨D, 8, none⟩ = some c8 ∧ w.cell? ⟨D, 9, none⟩ = some c9 ∧ w.cell? ⟨D, 10, none⟩ = some c10 ∧ w.cell? ⟨D, 11, none⟩ = some c11 ∧ w.cell? ⟨D, 12, none⟩ = some c12 ∧ w.cell? ⟨D, 13, none⟩ = some c13 ∧ w.cell? ⟨D, 14, none⟩ = some c14 := by
  refine ⟨?_, ?_, ?_, ?_, ?_, ?_, ?_, ?_, ?_, ?_, ?_, ?_, ?_, ?_, ?_⟩ <;> simp [World.cell?, hD]
theorem fd_df {w : World} {x0 : Option Addr} {x1 x2 : Nat} {x3 : Option Addr} {x4 x5 : Nat} {x6 : Option Addr} {x7 x8 : Nat} {x9 : Option Addr} {x10 x11 : Nat} (h : DF w x0 x1 x2 x3 x4 x5 x6 x7 x8 x9 x10 x11) : FD w x0 x1 x3 x4 x6 x7 x9 x10 := ⟨⟨fun _ => h.1.1, fun _ => h.1.2⟩, fun _ => h.2.1, fun _ => h.2.2⟩
theorem shn_d {d : Dl} {k : Nat} (h : shn k d) (hk : k ≤ 1000) : shd d := ⟨⟨Nat.le_trans h.1.1 hk, Nat.le_trans h.1.2 hk⟩, Nat.le_trans h.2.1 hk, Nat.le_trans h.2.2 hk⟩
theorem shn_up {d : Dl} {k j : Nat} (h : shn k d) (hk : k ≤ j) : shn j d := ⟨⟨Nat.le_trans h.1.1 hk, Nat.le_trans h.1.2 hk⟩, Nat.le_trans h.2.1 hk, Nat.le_trans h.2.2 hk⟩
def good7 (w : World) (x0 : Option Addr) (x1 x2 : Nat) (x3 : Option Addr) (x4 x5 : Nat) (x6 : Option Addr) (x7 x8 : Nat) (x9 : Option Addr) (x10 x11 : Nat) (d : Dl) : Prop := DW w x0 x1 x2 x3 x4 x5 x6 x7 x8 x9 x10 x11 d ∧ okd d ∧ shn 60 d
theorem good7_below {w w' : World} {x0 : Option Addr} {x1 x2 : Nat} {x3 : Option Addr} {x4 x5 : Nat} {x6 : Option Addr} {x7 x8 : Nat} {x9 : Option Addr} {x10 x11 : Nat} {d : Dl} (h : good7 w x0 x1 x2 x3 x4 x5 x6 x7 x8 x9 x10 x11 d) (hb : Below w.heap.size w w') : good7 w' x0 x1 x2 x3 x4 x5 x6 x7 x8 x9 x10 x11 d := ⟨h.1.below hb, h.2.1, h.2.2⟩
/-- A delta's seven cells at the place q of four. -/
def at7 (w : World) (N q : Nat) (x0 : Option Addr) (x1 x2 : Nat) (x3 : Option Addr) (x4 x5 : Nat) (x6 : Option Addr) (x7 x8 : Nat) (x9 : Option Addr) (x10 x11 : Nat) (d : Dl) : Prop :=
  w.cell? ⟨N, q * 7, none⟩ = some (.int .i64 d.n) ∧ w.cell? ⟨N, q * 7 + 1, none⟩ = some (.int .i64 d.s0) ∧ w.cell? ⟨N, q * 7 + 2, none⟩ = some (.int .i64 d.s1) ∧ w.cell? ⟨N, q * 7 + 3, none⟩ = some (.slice x0 x1 x2) ∧ w.cell? ⟨N, q * 7 + 4, none⟩ = some (.slice x3 x4 x5) ∧ w.cell? ⟨N, q * 7 + 5, none⟩ = some (.slice x6 x7 x8) ∧ w.cell? ⟨N, q * 7 + 6, none⟩ = some (.slice x9 x10 x11)
theorem at7_below {w w' : World} {N q : Nat} {x0 : Option Addr} {x1 x2 : Nat} {x3 : Option Addr} {x4 x5 : Nat} {x6 : Option Addr} {x7 x8 : Nat} {x9 : Option Addr} {x10 x11 : Nat} {d : Dl} (h : at7 w N q x0 x1 x2 x3 x4 x5 x6 x7 x8 x9 x10 x11 d) (hN : N < w.heap.size) (hb : Below w.heap.size w w') : at7 w' N q x0 x1 x2 x3 x4 x5 x6 x7 x8 x9 x10 x11 d := by
  obtain ⟨h0, h1, h2, h3, h4, h5, h6⟩ := h
  exact ⟨((bcell hb).1 N _ hN).trans h0, ((bcell hb).1 N _ hN).trans h1, ((bcell hb).1 N _ hN).trans h2, ((bcell hb).1 N _ hN).trans h3, ((bcell hb).1 N _ hN).trans h4, ((bcell hb).1 N _ hN).trans h5, ((bcell hb).1 N _ hN).trans h6⟩
theorem four_pick7 {w : World} {N : Nat} {t : TypeId} {c0 c1 c2 c3 : Dl} {x0 : Option Addr} {x1 x2 : Nat} {x3 : Option Addr} {x4 x5 : Nat} {x6 : Option Addr} {x7 x8 : Nat} {x9 : Option Addr} {x10 x11 : Nat} {y0 : Option Addr} {y1 y2 : Nat} {y3 : Option Addr} {y4 y5 : Nat} {y6 : Option Addr} {y7 y8 : Nat} {y9 : Option Addr} {y10 y11 : Nat} {z0 : Option Addr} {z1 z2 : Nat} {z3 : Option Addr} {z4 z5 : Nat} {z6 : Option Addr} {z7 z8 : Nat} {z9 : Option Addr} {z10 z11 : Nat} {u0 : Option Addr} {u1 u2 : Nat} {u3 : Option Addr} {u4 u5 : Nat} {u6 : Option Addr} {u7 u8 : Nat} {u9 : Option Addr} {u10 u11 : Nat}
    (h : w.heap[N]? = some (.cells #[.int .i64 c0.n, .int .i64 c0.s0, .int .i64 c0.s1, .slice x0 x1 x2, .slice x3 x4 x5, .slice x6 x7 x8, .slice x9 x10 x11, .int .i64 c1.n, .int .i64 c1.s0, .int .i64 c1.s1, .slice y0 y1 y2, .slice y3 y4 y5, .slice y6 y7 y8, .slice y9 y10 y11, .int .i64 c2.n, .int .i64 c2.s0, .int .i64 c2.s1, .slice z0 z1 z2, .slice z3 z4 z5, .slice z6 z7 z8, .slice z9 z10 z11, .int .i64 c3.n, .int .i64 c3.s0, .int .i64 c3.s1, .slice u0 u1 u2, .slice u3 u4 u5, .slice u6 u7 u8, .slice u9 u10 u11] t)) (g0 : good7 w x0 x1 x2 x3 x4 x5 x6 x7 x8 x9 x10 x11 c0) (g1 : good7 w y0 y1 y2 y3 y4 y5 y6 y7 y8 y9 y10 y11 c1) (g2 : good7 w z0 z1 z2 z3 z4 z5 z6 z7 z8 z9 z10 z11 c2) (g3 : good7 w u0 u1 u2 u3 u4 u5 u6 u7 u8 u9 u10 u11 c3) {q : Nat} (hq : q < 4) :
    ∃ (d : Dl) (a0 : Option Addr) (a1 a2 : Nat) (a3 : Option Addr) (a4 a5 : Nat) (a6 : Option Addr) (a7 a8 : Nat) (a9 : Option Addr) (a10 a11 : Nat), at7 w N q a0 a1 a2 a3 a4 a5 a6 a7 a8 a9 a10 a11 d ∧ good7 w a0 a1 a2 a3 a4 a5 a6 a7 a8 a9 a10 a11 d := by
  have hq' : q = 0 ∨ q = 1 ∨ q = 2 ∨ q = 3 := by omega
  rcases hq' with rfl | rfl | rfl | rfl
  · exact ⟨c0, x0, x1, x2, x3, x4, x5, x6, x7, x8, x9, x10, x11, by refine ⟨?_, ?_, ?_, ?_, ?_, ?_, ?_⟩ <;> simp [World.cell?, h], g0⟩
  · exact ⟨c1, y0, y1, y2, y3, y4, y5, y6, y7, y8, y9, y10, y11, by refine ⟨?_, ?_, ?_, ?_, ?_, ?_, ?_⟩ <;> simp [World.cell?, h], g1⟩
  · exact ⟨c2, z0, z1, z2, z3, z4, z5, z6, z7, z8, z9, z10, z11, by refine ⟨?_, ?_, ?_, ?_, ?_, ?_, ?_⟩ <;> simp [World.cell?, h], g2⟩
  · exact ⟨c3, u0, u1, u2, u3, u4, u5, u6, u7, u8, u9, u10, u11, by refine ⟨?_, ?_, ?_, ?_, ?_, ?_, ?_⟩ <;> simp [World.cell?, h], g3⟩
theorem firstC {w : World} {a : Option Addr} {n c : Nat} {l : List Ch} (h : CRow w a n c l) (k : Nat) (hk : k ≤ n) :
    (∀ w', (Instr.slice 71 (.slice a n c) none (some (.int .i64 k)) none).run Try.prog w' = .ok (.slice a k c) w') ∧ CRow w a k c (l.take k) := by
  obtain ⟨h1, h2, h3, h4, h5⟩ := h
  refine ⟨fun w' => ?_, ?_⟩
  · rw [run_slice_h w' 71 a n c Try.underlying71 .i64 k (by omega) (by omega)]
    have hs : (sizeOf (Try.prog.elem 71)).run Try.prog w' = .ok 7 w' := Try.sizeOf76 w'
    rw [hs]
    cases a with
    | none => simp [Result.andThen, sliced]
    | some ad => simp [Result.andThen, sliced, Addr.add]
  · refine ⟨by rw [List.length_take]; omega, by omega, h3, h4, fun h0 => ?_⟩
    obtain ⟨b, off, e, hb, hl⟩ := h5 (by omega)
    refine ⟨b, off, e, hb, fun j r hj i v hi => hl j r ?_ i v hi⟩
    rw [List.getElem?_take] at hj
    by_cases hjk : j < k
    · rw [if_pos hjk] at hj; exact hj
    · rw [if_neg hjk] at hj; cases hj
theorem cell_ltd {w : World} {b j : Nat} {v : Value} (h : w.cell? ⟨b, j, none⟩ = some v) : b < w.heap.size := by
  rcases Nat.lt_or_ge b w.heap.size with h1 | h1
  · exact h1
  · have h2 : w.heap[b]? = none := Array.getElem?_eq_none h1
    simp [World.cell?, h2] at h
theorem ite_go {c : Prop} [Decidable c] {A B : Prop} (h : c) (hA : A) : if c then A else B := by
  rw [if_pos h]
  exact hA
/-- A whole row is stored, in a drawn region: the block holds it; no other block is turned. -/
theorem wp_store_whole {P : Program} {o : Oper} {a : Act} {w : World} {K : Act → World → Prop} {Q : Exit → Act → World → Prop} (ty : TypeId) (x y : Operand) (ho : o.op = .store ty x y)
    (g : Nat) (X : Array Value) (hx : a.eval x = .pointer (some ⟨g, 0, none⟩)) (hy : a.eval y = .agg X) (t : TypeId) (cs : Array Value) (hg : w.heap[g]? = some (.cells cs t)) (hs : cs.size = X.size)
    (hi : (P.info? ty).map (·.size) = some X.size) (h1 : ∀ v ∈ X.toList, v.oneCell' = true)
    (h : ∀ w', w'.heap[g]? = some (.cells X t) → w.grownBy w' (some g) → K (a.put o.dst undef) w') : o.wp P a w K Q := by
  have ht : w.there g 0 X.size := fun j hj => by
    constructor
    · rw [Nat.zero_add, cell_of_row w g j cs t (0, 0) hg, Array.getElem?_eq_getElem (by omega)]; rfl
    · exact frozen_of_row w g _ _ _ hg
  refine wp_store_mid ty x y ho g 0 X hx hy ht hi (by have := all_oneCell_toArray h1; simpa using this) ?_
  refine h _ ?_ (setCells_grown g _ 0 w)
  obtain ⟨cs', e1, e2⟩ := setCells_heap g t X.toList 0 w cs hg
  rw [e1]
  have hr := World.rangeAt_setCells_same w g 0 X.toList (by simpa using ht)
  have : cs' = X := by
    apply Array.ext_getElem?
    intro j
    by_cases hj : j < X.size
    · have h2 := hr j X[j] (by simp [hj])
      rw [Nat.zero_add, cell_of_row _ g j cs' t (0, 0) e1] at h2
      rw [h2]; simp [hj]
    · rw [Array.getElem?_eq_none (by omega), Array.getElem?_eq_none (by omega)]
  rw [this]
end Go.Proofs.Ytjkkajhjcinalaa

/-
  Parameters of the laws of stage 10, opened.
  Conditions: as each theorem states them.
-/
import Derived.Test.YtjkkajhjcinalaaR10
import Derived.Test.YtjkkajhjcinalaaBX
import Derived.Test.YtjkkajhjcinalaaR9
namespace Go.Proofs.Ytjkkajhjcinalaa
open Go.ChangeShapes Go.WideShapes Go.ChangeAt Go.RowKit
set_option linter.unusedVariables false
set_option linter.unusedSimpArgs false
set_option maxRecDepth 100000

theorem open_runs_cl {H : Type} {enc : TypeId × Value → H} {W : World} {base fuel : Nat} {c0 : Value} {x : DataW H × List MemPlace}
    (hf : DataW.trod enc Try.prog W base (fun _ => true) true fuel 23 [c0] = some x) : ∃ a n c l, c0 = .slice a n c ∧ NRun W a n c l ∧ ∀ r ∈ l, nok r := by
  rcases Go.Deep.open_slice Try.underlying23 hf with ⟨hcs, _⟩ | ⟨ad, len, cap, m, n', D, Pl, hcs, hb, hl, hm, hmm, _, hx⟩
  · simp at hcs
    subst hcs
    exact ⟨none, 0, 0, [], rfl, nrun_nil W, fun r hr => by cases hr⟩
  · simp at hcs
    subst hcs
    simp only [if_true] at hmm
    have each : ∀ i, i < len → ∃ q : Rn, nok q ∧ ∀ k v, (ncs q)[k]? = some v → W.cell? (ad.add (i * 2 + k)) = some v := by
      intro i hi
      obtain ⟨cs', h1, h2⟩ := hx i (by omega)
      rw [cells_nr] at h1
      obtain ⟨_, hlen, hcell⟩ := World.cells?_some h1
      match cs', hlen with
      | [c0, c1], _ =>
        obtain ⟨x0, x1, e, hr⟩ := open_run_cells h2
        refine ⟨_, hr, fun k v hk => ?_⟩
        rw [← e] at hk
        have hk6 : k < 2 := by
          have := (List.getElem?_eq_some_iff.1 hk).1
          simpa using this
        have := hcell k (by simpa using hk6)
        rw [Go.Deep.add_add] at this
        rw [this]
        exact hk
    obtain ⟨q, hq⟩ := Go.Deep.choose_lt each
    refine ⟨some ad, len, cap, (List.range len).map q, rfl, ⟨by simp, hl, hm, (fun h => by cases h), fun h0 => ?_⟩, ?_⟩
    · obtain ⟨b, off, spot⟩ := ad
      have hc0 := (hq 0 (by omega)).2 0
      obtain ⟨⟨x0, x1⟩, hq0⟩ : ∃ y, q 0 = y := ⟨_, rfl⟩
      have hc := hc0 (.int .i64 x0) (by rw [hq0]; rfl)
      have hspot : spot = none := by simpa [Addr.add] using World.cell?_spot hc
      subst hspot
      have hb' := World.block_lt_of_cell? _ _ hc
      refine ⟨b, off, rfl, by simpa [Addr.add] using hb', fun j r hj i v hi => ?_⟩
      have hjl : j < len := by
        have := (List.getElem?_eq_some_iff.1 hj).1
        simpa using this
      rw [List.getElem?_map, List.getElem?_range hjl] at hj
      simp at hj
      subst hj
      have := (hq j hjl).2 i v hi
      rw [add_at, ← Nat.add_assoc] at this
      exact this
    · intro r hr
      simp only [List.mem_map, List.mem_range] at hr
      obtain ⟨i, hi, rfl⟩ := hr
      exact (hq i hi).1
theorem open_cell_cl {H : Type} {enc : TypeId × Value → H} {W : World} {base fuel : Nat} {c0 c1 c2 c3 c4 : Value} {x : DataW H × List MemPlace}
    (hf : DataW.trod enc Try.prog W base (fun _ => true) true fuel 26 [c0, c1, c2, c3, c4] = some x) :
    ∃ (y : Cl) (a0 : Option Addr) (p0 k0 : Nat) (a1 : Option Addr) (p1 k1 : Nat), c0 = .int .i64 y.n ∧ c1 = .int .i64 y.s0 ∧ c2 = .int .i64 y.s1 ∧ c3 = .slice a0 p0 k0 ∧ c4 = .slice a1 p1 k1 ∧ CW W a0 p0 k0 a1 p1 k1 y ∧ okc y := by
  have hI : Try.prog.cellsOf 2 = 1 := by kernel_rfl
  have hM : Try.prog.cellsOf 22 = 2 := by kernel_rfl
  have hB : Try.prog.cellsOf 24 = 2 := by kernel_rfl
  have hR : Try.prog.cellsOf 23 = 1 := by kernel_rfl
  obtain ⟨xs, m, _, _, _, hl, hg⟩ := DataW.trod_struct Try.underlying26 hf
  have g0 := hg 0
  have g1 := hg 1
  have g2 := hg 2
  simp [hI, hM, hB] at g0 g1 g2
  match xs, hl with
  | [y0, y1, y2], _ =>
    obtain ⟨n, e0, _, w0⟩ := DataW.trod_int Try.underlying2 g0
    simp at e0
    subst e0
    obtain ⟨s0, s1, rfl, rfl, i0, i1⟩ := open_meas_cells (c0 := c1) (c1 := c2) g1
    obtain ⟨ys, m2, _, _, _, hl2, hg2⟩ := DataW.trod_array Try.underlying24 g2
    have h0 := hg2 0 (by decide)
    have h1 := hg2 1 (by decide)
    rw [hR] at h0 h1
    match ys, hl2 with
    | [z0, z1], _ =>
      simp at h0 h1
      obtain ⟨a0, p0, k0, l0, rfl, r0, o0⟩ := open_runs_cl h0
      obtain ⟨a1, p1, k1, l1, rfl, r1, o1⟩ := open_runs_cl h1
      exact ⟨⟨n, s0, s1, l0, l1⟩, a0, p0, k0, a1, p1, k1, rfl, rfl, rfl, rfl, rfl, ⟨r0, r1⟩, bounds_i64 w0, i0, i1, o0, o1⟩
theorem open_delta_cl {H : Type} {enc : TypeId × Value → H} {W : World} {base fuel : Nat} {c0 c1 c2 c3 c4 c5 c6 : Value} {x : DataW H × List MemPlace}
    (hf : DataW.trod enc Try.prog W base (fun _ => true) true fuel 68 [c0, c1, c2, c3, c4, c5, c6] = some x) :
    ∃ (d : Dl) (a0 : Option Addr) (a1 a2 : Nat) (a3 : Option Addr) (a4 a5 : Nat) (a6 : Option Addr) (a7 a8 : Nat) (a9 : Option Addr) (a10 a11 : Nat), [c0, c1, c2, c3, c4, c5, c6] = [.int .i64 d.n, .int .i64 d.s0, .int .i64 d.s1, .slice a0 a1 a2, .slice a3 a4 a5, .slice a6 a7 a8, .slice a9 a10 a11] ∧ DW W a0 a1 a2 a3 a4 a5 a6 a7 a8 a9 a10 a11 d ∧ okd d := by
  have hI : Try.prog.cellsOf 2 = 1 := by kernel_rfl
  have hM : Try.prog.cellsOf 22 = 2 := by kernel_rfl
  have hB : Try.prog.cellsOf 24 = 2 := by kernel_rfl
  have hR : Try.prog.cellsOf 23 = 1 := by kernel_rfl
  obtain ⟨xs, m, _, _, _, hl, hg⟩ := DataW.trod_struct Try.underlying68 hf
  have g0 := hg 0
  have g1 := hg 1
  have g2 := hg 2
  have g3 := hg 3
  simp [hI, hM, hB] at g0 g1 g2 g3
  match xs, hl with
  | [y0, y1, y2, y3], _ =>
    obtain ⟨n, e0, _, w0⟩ := DataW.trod_int Try.underlying2 g0
    simp at e0
    subst e0
    obtain ⟨s0, s1, rfl, rfl, i0, i1⟩ := open_meas_cells (c0 := c1) (c1 := c2) g1
    obtain ⟨ys, m2, _, _, _, hl2, hg2⟩ := DataW.trod_array Try.underlying24 g2
    have h0 := hg2 0 (by decide)
    have h1 := hg2 1 (by decide)
    rw [hR] at h0 h1
    obtain ⟨zs, m3, _, _, _, hl3, hg3⟩ := DataW.trod_array Try.underlying24 g3
    have h2 := hg3 0 (by decide)
    have h3 := hg3 1 (by decide)
    rw [hR] at h2 h3
    match ys, hl2, zs, hl3 with
    | [z0, z1], _, [z2, z3], _ =>
      simp at h0 h1 h2 h3
      obtain ⟨a0, a1, a2, l0, rfl, r0, o0⟩ := open_runs_cl h0
      obtain ⟨a3, a4, a5, l1, rfl, r1, o1⟩ := open_runs_cl h1
      obtain ⟨a6, a7, a8, l2, rfl, r2, o2⟩ := open_runs_cl h2
      obtain ⟨a9, a10, a11, l3, rfl, r3, o3⟩ := open_runs_cl h3
      exact ⟨⟨n, s0, s1, l0, l1, l2, l3⟩, a0, a1, a2, a3, a4, a5, a6, a7, a8, a9, a10, a11, rfl, ⟨⟨r0, r1⟩, r2, r3⟩, ⟨bounds_i64 w0, i0, i1⟩, ⟨o0, o1⟩, o2, o3⟩
theorem list7 {l : List Value} (h : l.length = 7) : ∃ c0 c1 c2 c3 c4 c5 c6, l = [c0, c1, c2, c3, c4, c5, c6] := by
  match l, h with
  | [c0, c1, c2, c3, c4, c5, c6], _ => exact ⟨_, _, _, _, _, _, _, rfl⟩
theorem open_delta {H : Type} {enc : TypeId × Value → H} {W : World} {base b0 : Nat} {r : Reach} {v : Value} {d : DataW H} {p : List MemPlace}
    (hv : Value.okWide Try.prog W r b0 68 v) (h : DataW.Trod enc Try.prog W base (fun _ => true) true 68 v d p) :
    ∃ (D : Dl) (a0 : Option Addr) (a1 a2 : Nat) (a3 : Option Addr) (a4 a5 : Nat) (a6 : Option Addr) (a7 a8 : Nat) (a9 : Option Addr) (a10 a11 : Nat), v = (.agg #[.int .i64 D.n, .int .i64 D.s0, .int .i64 D.s1, .slice a0 a1 a2, .slice a3 a4 a5, .slice a6 a7 a8, .slice a9 a10 a11]) ∧ DW W a0 a1 a2 a3 a4 a5 a6 a7 a8 a9 a10 a11 D ∧ okd D := by
  have hC : Try.prog.cellsOf 68 = 7 := by kernel_rfl
  obtain ⟨cs, rfl, hsz⟩ := okWide_struct Try.underlying68 hv
  rw [hC] at hsz
  obtain ⟨fuel, hf⟩ := h
  obtain ⟨c0, c1, c2, c3, c4, c5, c6, rfl⟩ : ∃ c0 c1 c2 c3 c4 c5 c6, cs = #[c0, c1, c2, c3, c4, c5, c6] := by
    obtain ⟨l⟩ := cs
    obtain ⟨c0, c1, c2, c3, c4, c5, c6, e⟩ := list7 (l := l) (by simpa using hsz)
    exact ⟨c0, c1, c2, c3, c4, c5, c6, by rw [e]⟩
  have hf' : DataW.trod enc Try.prog W base (fun _ => true) true fuel 68 [c0, c1, c2, c3, c4, c5, c6] = some (d, p) := hf
  obtain ⟨D, a0, a1, a2, a3, a4, a5, a6, a7, a8, a9, a10, a11, e, hD, kD⟩ := open_delta_cl hf'
  simp only [List.cons.injEq, and_true] at e
  obtain ⟨rfl, rfl, rfl, rfl, rfl, rfl, rfl⟩ := e
  exact ⟨D, a0, a1, a2, a3, a4, a5, a6, a7, a8, a9, a10, a11, rfl, hD, kD⟩
theorem open_dthree {H : Type} {enc : TypeId × Value → H} {W : World} {base e0 : Nat} {r : Reach} {v : Value} {d : DataW H} {p : List MemPlace}
    (hv : Value.okWide Try.prog W r e0 106 v) (h : DataW.Trod enc Try.prog W base (fun _ => true) true 106 v d p) :
    ∃ (A : Dl) (a0 : Option Addr) (a1 a2 : Nat) (a3 : Option Addr) (a4 a5 : Nat) (a6 : Option Addr) (a7 a8 : Nat) (a9 : Option Addr) (a10 a11 : Nat) (B : Dl) (b0 : Option Addr) (b1 b2 : Nat) (b3 : Option Addr) (b4 b5 : Nat) (b6 : Option Addr) (b7 b8 : Nat) (b9 : Option Addr) (b10 b11 : Nat) (C : Dl) (c0 : Option Addr) (c1 c2 : Nat) (c3 : Option Addr) (c4 c5 : Nat) (c6 : Option Addr) (c7 c8 : Nat) (c9 : Option Addr) (c10 c11 : Nat), v = (.agg #[.int .i64 A.n, .int .i64 A.s0, .int .i64 A.s1, .slice a0 a1 a2, .slice a3 a4 a5, .slice a6 a7 a8, .slice a9 a10 a11, .int .i64 B.n, .int .i64 B.s0, .int .i64 B.s1, .slice b0 b1 b2, .slice b3 b4 b5, .slice b6 b7 b8, .slice b9 b10 b11, .int .i64 C.n, .int .i64 C.s0, .int .i64 C.s1, .slice c0 c1 c2, .slice c3 c4 c5, .slice c6 c7 c8, .slice c9 c10 c11]) ∧ (DW W a0 a1 a2 a3 a4 a5 a6 a7 a8 a9 a10 a11 A ∧ okd A) ∧ (DW W b0 b1 b2 b3 b4 b5 b6 b7 b8 b9 b10 b11 B ∧ okd B) ∧ DW W c0 c1 c2 c3 c4 c5 c6 c7 c8 c9 c10 c11 C ∧ okd C := by
  have hC : Try.prog.cellsOf 106 = 21 := by kernel_rfl
  have hL : Try.prog.cellsOf 68 = 7 := by kernel_rfl
  obtain ⟨cs, rfl, hsz⟩ := okWide_struct Try.underlying106 hv
  rw [hC] at hsz
  obtain ⟨fuel, hf⟩ := h
  obtain ⟨c0, c1, c2, c3, c4, c5, c6, c7, c8, c9, c10, c11, c12, c13, c14, c15, c16, c17, c18, c19, c20, rfl⟩ : ∃ c0 c1 c2 c3 c4 c5 c6 c7 c8 c9 c10 c11 c12 c13 c14 c15 c16 c17 c18 c19 c20, cs = #[c0, c1, c2, c3, c4, c5, c6, c7, c8, c9, c10, c11, c12, c13, c14, c15, c16, c17, c18, c19, c20] := by
    obtain ⟨l⟩ := cs
    have hs : l.length = 21 := by simpa using hsz
    obtain ⟨c0, c1, c2, c3, c4, c5, c6, hA⟩ := list7 (l := l.take 7) (by rw [List.length_take]; omega)
    obtain ⟨c7, c8, c9, c10, c11, c12, c13, hB⟩ := list7 (l := (l.drop 7).take 7) (by rw [List.length_take, List.length_drop]; omega)
    obtain ⟨c14, c15, c16, c17, c18, c19, c20, hD⟩ := list7 (l := (l.drop 7).drop 7) (by rw [List.length_drop, List.length_drop]; omega)
    have e : l = l.take 7 ++ ((l.drop 7).take 7 ++ (l.drop 7).drop 7) := by rw [List.take_append_drop, List.take_append_drop]
    rw [hA, hB, hD] at e
    refine ⟨c0, c1, c2, c3, c4, c5, c6, c7, c8, c9, c10, c11, c12, c13, c14, c15, c16, c17, c18, c19, c20, ?_⟩
    rw [e]
    rfl
  have hf' : DataW.trod enc Try.prog W base (fun _ => true) true fuel 106 [c0, c1, c2, c3, c4, c5, c6, c7, c8, c9, c10, c11, c12, c13, c14, c15, c16, c17, c18, c19, c20] = some (d, p) := hf
  obtain ⟨ys, m, _, _, _, hl, hg⟩ := DataW.trod_struct Try.underlying106 hf'
  have g0 := hg 0
  have g1 := hg 1
  have g2 := hg 2
  simp [hL] at g0 g1 g2
  match ys, hl with
  | [y0, y1, y2], _ =>
    obtain ⟨A, a0, a1, a2, a3, a4, a5, a6, a7, a8, a9, a10, a11, eA, hA, kA⟩ := open_delta_cl g0
    obtain ⟨B, b0, b1, b2, b3, b4, b5, b6, b7, b8, b9, b10, b11, eB, hB, kB⟩ := open_delta_cl g1
    obtain ⟨C, c0, c1, c2, c3, c4, c5, c6, c7, c8, c9, c10, c11, eC, hC', kC⟩ := open_delta_cl g2
    simp only [List.cons.injEq, and_true] at eA eB eC
    obtain ⟨rfl, rfl, rfl, rfl, rfl, rfl, rfl⟩ := eA
    obtain ⟨rfl, rfl, rfl, rfl, rfl, rfl, rfl⟩ := eB
    obtain ⟨rfl, rfl, rfl, rfl, rfl, rfl, rfl⟩ := eC
    exact ⟨A, a0, a1, a2, a3, a4, a5, a6, a7, a8, a9, a10, a11, B, b0, b1, b2, b3, b4, b5, b6, b7, b8, b9, b10, b11, C, c0, c1, c2, c3, c4, c5, c6, c7, c8, c9, c10, c11, rfl, ⟨hA, kA⟩, ⟨hB, kB⟩, hC', kC⟩

end Go.Proofs.Ytjkkajhjcinalaa

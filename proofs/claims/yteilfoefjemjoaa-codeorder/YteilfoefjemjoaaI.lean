/-
  The parameters of the laws of layer 2, opened: a record of numbers and a place.
  Conditions: as each theorem states them.
-/
import Derived.Test.YteilfoefjemjoaaH
import Derived.Lib.SmallJoins
import Derived.ProofKit
import Derived.OpenShut
namespace Go.Proofs.Yteilfoefjemjoaa
open Go.ChangeShapes Go.WideShapes Go.ChangeAt Go.RowKit
set_option linter.unusedVariables false
set_option linter.unusedSimpArgs false

theorem okWide_array {P : Program} {w : World} {r : Reach} {b0 : Nat} {t e : TypeId} {n : Nat} {v : Value} (ht : P.underlying t = some (.array n e)) (h : Value.okWide P w r b0 t v) : ∃ cs, v = .agg cs ∧ cs.size = P.cellsOf t := by
  simp only [Value.okWide, ht] at h
  obtain ⟨cs, h1, h2, _⟩ := h
  exact ⟨cs, h1, h2⟩
theorem bounds_i64 {n : Int} (h : (Lit.int .i64 n).wf = true) : I64 n := by
  unfold I64; simp [Lit.wf, IntKind.min, IntKind.max, IntKind.signed, IntKind.bits] at h; omega
theorem bounds_u64 {n : Int} (h : (Lit.int .u64 n).wf = true) : U64 n := by
  unfold U64; simp [Lit.wf, IntKind.min, IntKind.max, IntKind.signed, IntKind.bits] at h; omega
theorem bounds_u32 {n : Int} (h : (Lit.int .u32 n).wf = true) : U32 n := by
  unfold U32; simp [Lit.wf, IntKind.min, IntKind.max, IntKind.signed, IntKind.bits] at h; omega
theorem bounds_u8 {n : Int} (h : (Lit.int .u8 n).wf = true) : U8 n := by
  unfold U8; simp [Lit.wf, IntKind.min, IntKind.max, IntKind.signed, IntKind.bits] at h; omega

theorem open_place {H : Type} {enc : TypeId × Value → H} {W : World} {base : Nat} {spare : Nat → Bool} {held : Bool} {fuel : Nat} {c0 c1 c2 c3 : Value} {x : DataW H × List MemPlace}
    (h : DataW.trod enc Try.prog W base spare held fuel 25 [c0, c1, c2, c3] = some x) : ∃ a b c d : Int, c0 = .int .u8 a ∧ c1 = .int .u8 b ∧ c2 = .int .u8 c ∧ c3 = .int .u8 d ∧ U8 a ∧ U8 b ∧ U8 c ∧ U8 d := by
  have hC : Try.prog.cellsOf 25 = 4 := by kernel_rfl
  have hC2 : Try.prog.cellsOf 5 = 1 := by kernel_rfl
  obtain ⟨ys, m, _, hx, _, hl, hg⟩ := DataW.trod_array Try.underlying25 h
  have g0 := hg 0 (by decide); have g1 := hg 1 (by decide); have g2 := hg 2 (by decide); have g3 := hg 3 (by decide)
  rw [hC2] at g0 g1 g2 g3
  match ys, hl with
  | [y0, y1, y2, y3], _ =>
    simp at g0 g1 g2 g3
    obtain ⟨a, e0, _, wa⟩ := DataW.trod_int Try.underlying5 g0
    obtain ⟨b, e1, _, wb⟩ := DataW.trod_int Try.underlying5 g1
    obtain ⟨c, e2, _, wc⟩ := DataW.trod_int Try.underlying5 g2
    obtain ⟨e, e3, _, we⟩ := DataW.trod_int Try.underlying5 g3
    simp at e0 e1 e2 e3
    exact ⟨a, b, c, e, e0, e1, e2, e3, bounds_u8 wa, bounds_u8 wb, bounds_u8 wc, bounds_u8 we⟩

theorem open_ask {H : Type} {enc : TypeId × Value → H} {W : World} {base b0 : Nat} {spare : Nat → Bool} {held : Bool} {r : Reach} {x : Value} {dt : DataW H} {p : List MemPlace}
    (hv : Value.okWide Try.prog W r b0 27 x) (h : DataW.Trod enc Try.prog W base spare held 27 x dt p) :
    ∃ v u k a b c d : Int, x = .agg #[.int .i64 v, .int .u64 u, .int .u32 k, .int .u8 a, .int .u8 b, .int .u8 c, .int .u8 d] ∧ I64 v ∧ U64 u ∧ U32 k ∧ U8 a ∧ U8 b ∧ U8 c ∧ U8 d := by
  have hC : Try.prog.cellsOf 27 = 7 := by kernel_rfl
  have hC2 : Try.prog.cellsOf 2 = 1 := by kernel_rfl
  have hC3 : Try.prog.cellsOf 22 = 1 := by kernel_rfl
  have hC4 : Try.prog.cellsOf 23 = 1 := by kernel_rfl
  have hC5 : Try.prog.cellsOf 25 = 4 := by kernel_rfl
  obtain ⟨cs, rfl, hsz⟩ := okWide_struct Try.underlying27 hv
  rw [hC] at hsz
  obtain ⟨fuel, hf⟩ := h
  obtain ⟨y0, y1, y2, y3, n, _, _, g0, g1, g2, g3⟩ := Go.Joins.trod_struct4 Try.underlying27 hf
  obtain ⟨c0, c1, c2, c3, c4, c5, c6, rfl⟩ : ∃ c0 c1 c2 c3 c4 c5 c6, cs = #[c0, c1, c2, c3, c4, c5, c6] := by
    obtain ⟨l⟩ := cs
    match l, hsz with
    | [c0, c1, c2, c3, c4, c5, c6], _ => exact ⟨_, _, _, _, _, _, _, rfl⟩
  simp only [hC2, hC3, hC4, hC5] at g0 g1 g2 g3
  simp [Value.cells] at g0 g1 g2 g3
  obtain ⟨v, e0, _, wv⟩ := DataW.trod_int Try.underlying2 g0
  obtain ⟨u, e1, _, wu⟩ := DataW.trod_int Try.underlying22 g1
  obtain ⟨k, e2, _, wk⟩ := DataW.trod_int Try.underlying23 g2
  obtain ⟨a, b, c, d, e3, e4, e5, e6, wa, wb, wc, wd⟩ := open_place g3
  simp at e0 e1 e2
  subst e0 e1 e2 e3 e4 e5 e6
  exact ⟨v, u, k, a, b, c, d, rfl, bounds_i64 wv, bounds_u64 wu, bounds_u32 wk, wa, wb, wc, wd⟩

end Go.Proofs.Yteilfoefjemjoaa

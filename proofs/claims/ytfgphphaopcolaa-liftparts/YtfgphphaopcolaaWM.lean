/-
  Carried twice is carried once: as numbers; the block of the law's parameter.
  Conditions: as each theorem states them.
-/
import Derived.Test.YtfgphphaopcolaaWK
namespace Go.Proofs.Ytfgphphaopcolaa
open Go.ChangeShapes Go.WideShapes Go.ChangeAt Go.RowKit
set_option linter.unusedVariables false
set_option linter.unusedSimpArgs false

theorem mn_le (a b : Int) : mn a b ≤ a ∧ mn a b ≤ b := by unfold mn; split <;> omega
theorem mn_u8 {a b : Int} (ha : U8 a) (hb : U8 b) : U8 (mn a b) := by unfold mn; split <;> assumption
theorem u8_4 {a b c d : Int} (h : ∀ y ∈ [a, b, c, d], U8 y) : U8 a ∧ U8 b ∧ U8 c ∧ U8 d := ⟨h a (by simp), h b (by simp), h c (by simp), h d (by simp)⟩
theorem u8_mk {a b c d : Int} (h : U8 a ∧ U8 b ∧ U8 c ∧ U8 d) : ∀ y ∈ [a, b, c, d], U8 y := by
  intro y hy; simp at hy; rcases hy with rfl | rfl | rfl | rfl
  · exact h.1
  · exact h.2.1
  · exact h.2.2.1
  · exact h.2.2.2
theorem mn4_u8 {a0 a1 a2 a3 b0 b1 b2 b3 : Int} (h : ∀ y ∈ [a0, a1, a2, a3], U8 y) (k : ∀ y ∈ [b0, b1, b2, b3], U8 y) : ∀ y ∈ [mn a0 b0, mn a1 b1, mn a2 b2, mn a3 b3], U8 y := by
  obtain ⟨h0, h1, h2, h3⟩ := u8_4 h
  obtain ⟨k0, k1, k2, k3⟩ := u8_4 k
  exact u8_mk ⟨mn_u8 h0 k0, mn_u8 h1 k1, mn_u8 h2 k2, mn_u8 h3 k3⟩
theorem bel_mn {a0 a1 a2 a3 b0 b1 b2 b3 : Int} : bel (mn a0 b0) (mn a1 b1) (mn a2 b2) (mn a3 b3) a0 a1 a2 a3 = true ∧ bel (mn a0 b0) (mn a1 b1) (mn a2 b2) (mn a3 b3) b0 b1 b2 b3 = true := by
  unfold bel
  exact ⟨decide_eq_true ⟨(mn_le _ _).1, (mn_le _ _).1, (mn_le _ _).1, (mn_le _ _).1⟩, decide_eq_true ⟨(mn_le _ _).2, (mn_le _ _).2, (mn_le _ _).2, (mn_le _ _).2⟩⟩
theorem bel_self {a0 a1 a2 a3 : Int} : bel a0 a1 a2 a3 a0 a1 a2 a3 = true := by unfold bel; exact decide_eq_true (by omega)
/-- What To tells, by names. -/
theorem lto_m (a : Option Addr) (n c : Nat) (ds : Dims) (M f0 f1 f2 f3 t0 t1 t2 t3 x0 x1 x2 x3 y0 y1 y2 y3 : Int) (w : World) (hc : Cat w a n c ds) (hM : I64 M) (hF : ∀ x ∈ [f0, f1, f2, f3], U8 x) (hT : ∀ x ∈ [t0, t1, t2, t3], U8 x) (hA : ∀ x ∈ [x0, x1, x2, x3], U8 x)
    (h : Hid (toB ds M f0 f1 f2 f3 t0 t1 t2 t3 x0 x1 x2 x3 = true ∧ ∀ k, k < 4 → toX ds [f0, f1, f2, f3] [t0, t1, t2, t3] [x0, x1, x2, x3] k = [y0, y1, y2, y3].getD k 0)) :
    Calls Try.prog 11 #[.agg #[.slice a n c, .int .i64 M], .agg #[.int .u8 f0, .int .u8 f1, .int .u8 f2, .int .u8 f3], .agg #[.int .u8 t0, .int .u8 t1, .int .u8 t2, .int .u8 t3], .agg #[.int .u8 x0, .int .u8 x1, .int .u8 x2, .int .u8 x3]] w
      fun e w' => e = .returned (.tuple #[.agg #[.int .u8 y0, .int .u8 y1, .int .u8 y2, .int .u8 y3], .bool true]) ∧ Below w.heap.size w w' := by
  have := lto_any a n c ds M f0 f1 f2 f3 t0 t1 t2 t3 x0 x1 x2 x3 w hc hM hF hT hA
  rw [h.out.1, n4_same (g := fun k => [y0, y1, y2, y3].getD k 0) (fun k hk => (toR_yes h.out.1 k).trans (h.out.2 k hk))] at this
  exact this
theorem lto_z (a : Option Addr) (n c : Nat) (ds : Dims) (M f0 f1 f2 f3 t0 t1 t2 t3 x0 x1 x2 x3 : Int) (w : World) (hc : Cat w a n c ds) (hM : I64 M) (hF : ∀ x ∈ [f0, f1, f2, f3], U8 x) (hT : ∀ x ∈ [t0, t1, t2, t3], U8 x) (hA : ∀ x ∈ [x0, x1, x2, x3], U8 x)
    (h : Hid (toB ds M f0 f1 f2 f3 t0 t1 t2 t3 x0 x1 x2 x3 = false)) :
    Calls Try.prog 11 #[.agg #[.slice a n c, .int .i64 M], .agg #[.int .u8 f0, .int .u8 f1, .int .u8 f2, .int .u8 f3], .agg #[.int .u8 t0, .int .u8 t1, .int .u8 t2, .int .u8 t3], .agg #[.int .u8 x0, .int .u8 x1, .int .u8 x2, .int .u8 x3]] w
      fun e w' => e = .returned (.tuple #[.agg #[.int .u8 0, .int .u8 0, .int .u8 0, .int .u8 0], .bool false]) ∧ Below w.heap.size w w' := by
  have := lto_any a n c ds M f0 f1 f2 f3 t0 t1 t2 t3 x0 x1 x2 x3 w hc hM hF hT hA
  rw [h.out, n4_same (g := fun k => 0) (fun k hk => toR_no h.out k)] at this
  exact this
/-- A place that lies somewhere is there a place. -/
theorem to_right {ds : Dims} {M f0 f1 f2 f3 t0 t1 t2 t3 x0 x1 x2 x3 y0 y1 y2 y3 : Int} (hr : rightC ds M [f0, f1, f2, f3] [x0, x1, x2, x3] = true) (hn : nodeC ds M t0 t1 t2 t3 = true) (hb : bel f0 f1 f2 f3 t0 t1 t2 t3 = true)
    (hF : ∀ x ∈ [f0, f1, f2, f3], U8 x) (hT : ∀ x ∈ [t0, t1, t2, t3], U8 x) (hA : ∀ x ∈ [x0, x1, x2, x3], U8 x) (hy : ∀ k, k < 4 → toX ds [f0, f1, f2, f3] [t0, t1, t2, t3] [x0, x1, x2, x3] k = [y0, y1, y2, y3].getD k 0) :
    rightC ds M [t0, t1, t2, t3] [y0, y1, y2, y3] = true ∧ ∀ y ∈ [y0, y1, y2, y3], U8 y := by
  have hk : ∀ k, k < 4 → 0 ≤ [y0, y1, y2, y3].getD k 0 ∧ [y0, y1, y2, y3].getD k 0 < memC ds k ([t0, t1, t2, t3].getD k 0) := fun k hk => by rw [← hy k hk]; exact toX_in hr hn hb hF hT hA hk
  have hk2 : ∀ k, k < 4 → U8 ([y0, y1, y2, y3].getD k 0) := fun k h => by have := hk k h; have := (memC_bd ds k ([t0, t1, t2, t3].getD k 0)).2; unfold U8; omega
  exact ⟨rightC_yes (rightC_is hr).1 fun k h => (hk k h).2, u8_mk ⟨hk2 0 (by omega), hk2 1 (by omega), hk2 2 (by omega), hk2 3 (by omega)⟩⟩
theorem to_twice {ds : Dims} {M f0 f1 f2 f3 t0 t1 t2 t3 s0 s1 s2 s3 x0 x1 x2 x3 y0 y1 y2 y3 : Int} (hr : rightC ds M [f0, f1, f2, f3] [x0, x1, x2, x3] = true) (hn : nodeC ds M s0 s1 s2 s3 = true) (hb : bel f0 f1 f2 f3 t0 t1 t2 t3 = true) (hb2 : bel t0 t1 t2 t3 s0 s1 s2 s3 = true)
    (hF : ∀ x ∈ [f0, f1, f2, f3], U8 x) (hS : ∀ x ∈ [s0, s1, s2, s3], U8 x) (hA : ∀ x ∈ [x0, x1, x2, x3], U8 x) (hy : ∀ k, k < 4 → toX ds [f0, f1, f2, f3] [t0, t1, t2, t3] [x0, x1, x2, x3] k = [y0, y1, y2, y3].getD k 0) {k : Nat} (hk : k < 4) :
    toX ds [t0, t1, t2, t3] [s0, s1, s2, s3] [y0, y1, y2, y3] k = toX ds [f0, f1, f2, f3] [s0, s1, s2, s3] [x0, x1, x2, x3] k := by
  by_cases hd : k < ds.length
  · obtain ⟨S, U, hSU⟩ : ∃ S U, ds.getD k ([], []) = (S, U) := ⟨_, _, rfl⟩
    rw [toX_at hd hSU, toX_at hd hSU, ← hy k hk, toX_at hd hSU]
    have hm := node_mem hn hS hk
    have h1 := (rightC_is hr).2 k hk
    rw [memC_at hd hSU] at hm h1
    exact lift_twice (u8_at hF k).1 (bel_at hb hk) (bel_at hb2 hk) (by omega) (u8_at hA k).1 h1
  · rw [toX_out (by omega), toX_out (by omega)]
theorem to_self {ds : Dims} {M f0 f1 f2 f3 x0 x1 x2 x3 : Int} (hr : rightC ds M [f0, f1, f2, f3] [x0, x1, x2, x3] = true) (hF : ∀ x ∈ [f0, f1, f2, f3], U8 x) (hA : ∀ x ∈ [x0, x1, x2, x3], U8 x) {k : Nat} (hk : k < 4) :
    toX ds [f0, f1, f2, f3] [f0, f1, f2, f3] [x0, x1, x2, x3] k = [x0, x1, x2, x3].getD k 0 := by
  by_cases hd : k < ds.length
  · obtain ⟨S, U, hSU⟩ : ∃ S U, ds.getD k ([], []) = (S, U) := ⟨_, _, rfl⟩
    have h1 := (rightC_is hr).2 k hk
    rw [memC_at hd hSU] at h1
    rw [toX_at hd hSU, lift_self (u8_at hF k).1 (u8_at hA k).1 h1]
  · rw [toX_out (by omega), right_beyond hr hA hk (by omega)]
theorem tp_4 {ds : Dims} {M : Int} {k : Nat} (hk : k < 4) : [tp ds M 0, tp ds M 1, tp ds M 2, tp ds M 3].getD k 0 = tp ds M k := by
  have : k = 0 ∨ k = 1 ∨ k = 2 ∨ k = 3 := by omega
  rcases this with rfl | rfl | rfl | rfl <;> rfl
theorem zero_4 {k : Nat} (hk : k < 4) : ([0, 0, 0, 0] : List Int).getD k 0 = 0 := by
  have : k = 0 ∨ k = 1 ∨ k = 2 ∨ k = 3 := by omega
  rcases this with rfl | rfl | rfl | rfl <;> rfl
theorem tp_u8 (ds : Dims) (M : Int) : ∀ x ∈ [tp ds M 0, tp ds M 1, tp ds M 2, tp ds M 3], U8 x := by
  have h : ∀ k, U8 (tp ds M k) := fun k => by have := tp_bd ds M k; unfold U8; omega
  exact u8_mk ⟨h 0, h 1, h 2, h 3⟩
theorem node_top {ds : Dims} {M : Int} (h : goodC ds M = true) : nodeC ds M (tp ds M 0) (tp ds M 1) (tp ds M 2) (tp ds M 3) = true := by
  unfold nodeC; rw [h, bel_self]; rfl
theorem node_bel_top {ds : Dims} {M v0 v1 v2 v3 : Int} (h : nodeC ds M v0 v1 v2 v3 = true) : bel v0 v1 v2 v3 (tp ds M 0) (tp ds M 1) (tp ds M 2) (tp ds M 3) = true := by
  unfold nodeC at h; rw [Bool.and_eq_true] at h; exact h.2
theorem to_whole {ds : Dims} {M f0 f1 f2 f3 x0 x1 x2 x3 : Int} (hr : rightC ds M [f0, f1, f2, f3] [x0, x1, x2, x3] = true) (hF : ∀ x ∈ [f0, f1, f2, f3], U8 x) (hA : ∀ x ∈ [x0, x1, x2, x3], U8 x) {k : Nat} (hk : k < 4) :
    toX ds [f0, f1, f2, f3] [tp ds M 0, tp ds M 1, tp ds M 2, tp ds M 3] [x0, x1, x2, x3] k = ([0, 0, 0, 0] : List Int).getD k 0 := by
  rw [zero_4 hk]
  by_cases hd : k < ds.length
  · obtain ⟨S, U, hSU⟩ : ∃ S U, ds.getD k ([], []) = (S, U) := ⟨_, _, rfl⟩
    have hg := (rightC_is hr).1
    have hgd := dims_good hg hd hSU
    have h1 := (rightC_is hr).2 k hk
    have hn := bel_at (node_bel_top (right_nodeC hr hF hA)) hk
    rw [tp_4 hk, tp_good hg, whl_at hd hSU] at hn
    rw [memC_at hd hSU] at h1
    rw [toX_at hd hSU, tp_4 hk, tp_good hg, whl_at hd hSU, lift_yes (u8_at hF k).1 hn (by rw [size_top hgd]; omega) (u8_at hA k).1 h1, if_pos rfl]
  · rw [toX_out (by omega)]

/-! The block of a parameter of eighteen cells. -/
def way (a : Option Addr) (n c : Nat) (M u0 u1 u2 u3 v0 v1 v2 v3 z0 z1 z2 z3 x0 x1 x2 x3 : Int) : Array Value := #[.slice a n c, .int .i64 M, .int .u8 u0, .int .u8 u1, .int .u8 u2, .int .u8 u3, .int .u8 v0, .int .u8 v1, .int .u8 v2, .int .u8 v3, .int .u8 z0, .int .u8 z1, .int .u8 z2, .int .u8 z3, .int .u8 x0, .int .u8 x1, .int .u8 x2, .int .u8 x3]
theorem way_cells {w : World} {D : Nat} {t : TypeId} {a : Option Addr} {n c : Nat} {M u0 u1 u2 u3 v0 v1 v2 v3 z0 z1 z2 z3 x0 x1 x2 x3 : Int} (hD : w.heap[D]? = some (.cells (way a n c M u0 u1 u2 u3 v0 v1 v2 v3 z0 z1 z2 z3 x0 x1 x2 x3) t)) :
    (w.cell? ⟨D, 0, none⟩ = some (.slice a n c) ∧ w.cell? ⟨D, 1, none⟩ = some (.int .i64 M)) ∧
    (w.cell? ⟨D, 2, none⟩ = some (.int .u8 u0) ∧ w.cell? ⟨D, 3, none⟩ = some (.int .u8 u1) ∧ w.cell? ⟨D, 4, none⟩ = some (.int .u8 u2) ∧ w.cell? ⟨D, 5, none⟩ = some (.int .u8 u3)) ∧
    (w.cell? ⟨D, 6, none⟩ = some (.int .u8 v0) ∧ w.cell? ⟨D, 7, none⟩ = some (.int .u8 v1) ∧ w.cell? ⟨D, 8, none⟩ = some (.int .u8 v2) ∧ w.cell? ⟨D, 9, none⟩ = some (.int .u8 v3)) ∧
    (w.cell? ⟨D, 10, none⟩ = some (.int .u8 z0) ∧ w.cell? ⟨D, 11, none⟩ = some (.int .u8 z1) ∧ w.cell? ⟨D, 12, none⟩ = some (.int .u8 z2) ∧ w.cell? ⟨D, 13, none⟩ = some (.int .u8 z3)) ∧
    (w.cell? ⟨D, 14, none⟩ = some (.int .u8 x0) ∧ w.cell? ⟨D, 15, none⟩ = some (.int .u8 x1) ∧ w.cell? ⟨D, 16, none⟩ = some (.int .u8 x2) ∧ w.cell? ⟨D, 17, none⟩ = some (.int .u8 x3)) := by
  refine ⟨⟨?_, ?_⟩, ⟨?_, ?_, ?_, ?_⟩, ⟨?_, ?_, ?_, ?_⟩, ⟨?_, ?_, ?_, ?_⟩, ?_, ?_, ?_, ?_⟩ <;> simp [World.cell?, hD, way]
/-- A block that is kept, behind a world that is kept. -/
def Kp (w wr : World) (B : Nat) (cs : Array Value) (t : TypeId) : Prop := wr.heap[B]? = some (.cells cs t)

end Go.Proofs.Ytfgphphaopcolaa

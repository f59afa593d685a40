/-
  Where a place lies, which ones lie in it, whether it lies in the fix: the walk of the law LiftTells.
  Conditions: as each theorem states them.
-/
import Derived.Test.YtfgphphaopcolaaWQ0
import Derived.Test.YtfgphphaopcolaaSG
namespace Go.Proofs.Ytfgphphaopcolaa
open Go.ChangeShapes Go.WideShapes Go.ChangeAt Go.RowKit
set_option linter.unusedVariables false
set_option linter.unusedSimpArgs false

def ask (a : Option Addr) (n c : Nat) (M f0 f1 f2 f3 t0 t1 t2 t3 x0 x1 x2 x3 dd L : Int) (ma : Option Addr) (ml mc : Nat) : Array Value := #[.slice a n c, .int .i64 M, .int .u8 f0, .int .u8 f1, .int .u8 f2, .int .u8 f3, .int .u8 t0, .int .u8 t1, .int .u8 t2, .int .u8 t3, .int .u8 x0, .int .u8 x1, .int .u8 x2, .int .u8 x3, .int .i64 dd, .int .i64 L, .slice ma ml mc]
theorem ask_cells {w : World} {D : Nat} {t : TypeId} {a : Option Addr} {n c : Nat} {M f0 f1 f2 f3 t0 t1 t2 t3 x0 x1 x2 x3 dd L : Int} {ma : Option Addr} {ml mc : Nat} (hD : w.heap[D]? = some (.cells (ask a n c M f0 f1 f2 f3 t0 t1 t2 t3 x0 x1 x2 x3 dd L ma ml mc) t)) : w.cell? ⟨D, 0, none⟩ = some (.slice a n c) ∧ w.cell? ⟨D, 1, none⟩ = some (.int .i64 M) ∧ w.cell? ⟨D, 2, none⟩ = some (.int .u8 f0) ∧ w.cell? ⟨D, 3, none⟩ = some (.int .u8 f1) ∧ w.cell? ⟨D, 4, none⟩ = some (.int .u8 f2) ∧ w.cell? ⟨D, 5, none⟩ = some (.int .u8 f3) ∧ w.cell? ⟨D, 6, none⟩ = some (.int .u8 t0) ∧ w.cell? ⟨D, 7, none⟩ = some (.int .u8 t1) ∧ w.cell? ⟨D, 8, none⟩ = some (.int .u8 t2) ∧ w.cell? ⟨D, 9, none⟩ = some (.int .u8 t3) ∧ w.cell? ⟨D, 10, none⟩ = some (.int .u8 x0) ∧ w.cell? ⟨D, 11, none⟩ = some (.int .u8 x1) ∧ w.cell? ⟨D, 12, none⟩ = some (.int .u8 x2) ∧ w.cell? ⟨D, 13, none⟩ = some (.int .u8 x3) ∧ w.cell? ⟨D, 14, none⟩ = some (.int .i64 dd) ∧ w.cell? ⟨D, 15, none⟩ = some (.int .i64 L) ∧ w.cell? ⟨D, 16, none⟩ = some (.slice ma ml mc) := by
  refine ⟨?_, ?_, ?_, ?_, ?_, ?_, ?_, ?_, ?_, ?_, ?_, ?_, ?_, ?_, ?_, ?_, ?_⟩ <;> simp [World.cell?, hD, ask]
theorem ask_set (a : Option Addr) (n c : Nat) (M f0 f1 f2 f3 t0 t1 t2 t3 x0 x1 x2 x3 dd L : Int) (ma : Option Addr) (ml mc : Nat) (m0 m1 m2 m3 : Int) : ((((ask a n c M f0 f1 f2 f3 t0 t1 t2 t3 x0 x1 x2 x3 dd L ma ml mc).setIfInBounds 2 (.int .u8 m0)).setIfInBounds 3 (.int .u8 m1)).setIfInBounds 4 (.int .u8 m2)).setIfInBounds 5 (.int .u8 m3) = ask a n c M m0 m1 m2 m3 t0 t1 t2 t3 x0 x1 x2 x3 dd L ma ml mc := by simp [ask]
theorem ask_one (a : Option Addr) (n c : Nat) (M f0 f1 f2 f3 t0 t1 t2 t3 x0 x1 x2 x3 dd L : Int) (ma : Option Addr) (ml mc : Nat) : ∀ v ∈ (ask a n c M f0 f1 f2 f3 t0 t1 t2 t3 x0 x1 x2 x3 dd L ma ml mc).toList, v.oneCell' = true := by
  intro v hv
  simp [ask] at hv
  rcases hv with rfl | rfl | rfl | rfl | rfl | rfl | rfl | rfl | rfl | rfl | rfl | rfl | rfl | rfl | rfl | rfl | rfl <;> rfl
/-- One of two asks, that differ in the first node. -/
theorem pair_range {w : World} {D : Nat} {t : TypeId} {a : Option Addr} {n c : Nat} {M f0 f1 f2 f3 t0 t1 t2 t3 x0 x1 x2 x3 dd L : Int} {ma : Option Addr} {ml mc : Nat} {m0 m1 m2 m3 : Int} (hD : w.heap[D]? = some (.cells (ask a n c M f0 f1 f2 f3 t0 t1 t2 t3 x0 x1 x2 x3 dd L ma ml mc ++ ask a n c M m0 m1 m2 m3 t0 t1 t2 t3 x0 x1 x2 x3 dd L ma ml mc) t)) {k : Nat} (hk : k < 2) :
    ∃ g0 g1 g2 g3 : Int, ((g0 = f0 ∧ g1 = f1 ∧ g2 = f2 ∧ g3 = f3) ∨ (g0 = m0 ∧ g1 = m1 ∧ g2 = m2 ∧ g3 = m3)) ∧ w.rangeAt D (k * 17) [.slice a n c, .int .i64 M, .int .u8 g0, .int .u8 g1, .int .u8 g2, .int .u8 g3, .int .u8 t0, .int .u8 t1, .int .u8 t2, .int .u8 t3, .int .u8 x0, .int .u8 x1, .int .u8 x2, .int .u8 x3, .int .i64 dd, .int .i64 L, .slice ma ml mc] := by
  have h := range_two (X := [.slice a n c, .int .i64 M, .int .u8 f0, .int .u8 f1, .int .u8 f2, .int .u8 f3, .int .u8 t0, .int .u8 t1, .int .u8 t2, .int .u8 t3, .int .u8 x0, .int .u8 x1, .int .u8 x2, .int .u8 x3, .int .i64 dd, .int .i64 L, .slice ma ml mc]) (Y := [.slice a n c, .int .i64 M, .int .u8 m0, .int .u8 m1, .int .u8 m2, .int .u8 m3, .int .u8 t0, .int .u8 t1, .int .u8 t2, .int .u8 t3, .int .u8 x0, .int .u8 x1, .int .u8 x2, .int .u8 x3, .int .i64 dd, .int .i64 L, .slice ma ml mc]) (sz := 17) rfl rfl hD hk
  by_cases e : k = 0
  · rw [if_pos e] at h; exact ⟨f0, f1, f2, f3, .inl ⟨rfl, rfl, rfl, rfl⟩, h⟩
  · rw [if_neg e] at h; exact ⟨m0, m1, m2, m3, .inr ⟨rfl, rfl, rfl, rfl⟩, h⟩
theorem lto_g (a : Option Addr) (n c : Nat) (ds : Dims) (M f0 f1 f2 f3 t0 t1 t2 t3 x0 x1 x2 x3 y0 y1 y2 y3 : Int) (bb : Bool) (w : World) (hc : Cat w a n c ds) (hM : I64 M) (hF : ∀ x ∈ [f0, f1, f2, f3], U8 x) (hT : ∀ x ∈ [t0, t1, t2, t3], U8 x) (hA : ∀ x ∈ [x0, x1, x2, x3], U8 x)
    (h : Hid (toB ds M f0 f1 f2 f3 t0 t1 t2 t3 x0 x1 x2 x3 = bb ∧ ∀ k, k < 4 → toR ds M f0 f1 f2 f3 t0 t1 t2 t3 x0 x1 x2 x3 k = [y0, y1, y2, y3].getD k 0)) :
    Calls Try.prog 11 #[.agg #[.slice a n c, .int .i64 M], .agg #[.int .u8 f0, .int .u8 f1, .int .u8 f2, .int .u8 f3], .agg #[.int .u8 t0, .int .u8 t1, .int .u8 t2, .int .u8 t3], .agg #[.int .u8 x0, .int .u8 x1, .int .u8 x2, .int .u8 x3]] w
      fun e w' => e = .returned (.tuple #[.agg #[.int .u8 y0, .int .u8 y1, .int .u8 y2, .int .u8 y3], .bool bb]) ∧ Below w.heap.size w w' := by
  have := lto_any a n c ds M f0 f1 f2 f3 t0 t1 t2 t3 x0 x1 x2 x3 w hc hM hF hT hA
  rw [h.out.1, n4_same (g := fun k => [y0, y1, y2, y3].getD k 0) h.out.2] at this
  exact this
theorem rto_g (a : Option Addr) (n c : Nat) (ds : Dims) (M f0 f1 f2 f3 t0 t1 t2 t3 x0 x1 x2 x3 y0 y1 y2 y3 : Int) (bb : Bool) (w : World) (hc : Cat w a n c ds) (hM : I64 M) (hF : ∀ x ∈ [f0, f1, f2, f3], U8 x) (hT : ∀ x ∈ [t0, t1, t2, t3], U8 x) (hA : ∀ x ∈ [x0, x1, x2, x3], U8 x)
    (h : Hid (toB ds M f0 f1 f2 f3 t0 t1 t2 t3 x0 x1 x2 x3 = bb ∧ ∀ k, k < 4 → toR ds M f0 f1 f2 f3 t0 t1 t2 t3 x0 x1 x2 x3 k = [y0, y1, y2, y3].getD k 0)) :
    Calls Try.prog 12 #[.agg #[.slice a n c, .int .i64 M], .agg #[.int .u8 f0, .int .u8 f1, .int .u8 f2, .int .u8 f3], .agg #[.int .u8 t0, .int .u8 t1, .int .u8 t2, .int .u8 t3], .agg #[.int .u8 x0, .int .u8 x1, .int .u8 x2, .int .u8 x3]] w
      fun e w' => e = .returned (.agg #[.int .u8 y0, .int .u8 y1, .int .u8 y2, .int .u8 y3, .bool bb]) ∧ Below w.heap.size w w' := by
  have := rto_any a n c ds M f0 f1 f2 f3 t0 t1 t2 t3 x0 x1 x2 x3 w hc hM hF hT hA
  have e : n5 (toR ds M f0 f1 f2 f3 t0 t1 t2 t3 x0 x1 x2 x3) (toB ds M f0 f1 f2 f3 t0 t1 t2 t3 x0 x1 x2 x3) = #[.int .u8 y0, .int .u8 y1, .int .u8 y2, .int .u8 y3, .bool bb] := by
    unfold n5; rw [h.out.1, h.out.2 0 (by omega), h.out.2 1 (by omega), h.out.2 2 (by omega), h.out.2 3 (by omega)]; rfl
  rw [e] at this
  exact this
theorem rwithin_m (a : Option Addr) (n c : Nat) (ds : Dims) (M v0 v1 v2 v3 x0 x1 x2 x3 d L : Int) (ma : Option Addr) (ml mc : Nat) (Ms : List Int) (v : Bool) (w : World) (hc : Cat w a n c ds) (hM : I64 M) (hV : ∀ x ∈ [v0, v1, v2, v3], U8 x) (hA : ∀ x ∈ [x0, x1, x2, x3], U8 x) (hd : I64 d) (hL : I64 L) (hm : IRow .i64 w ma ml mc Ms) (hv : Hid (wthn ds M [v0, v1, v2, v3] [x0, x1, x2, x3] d L Ms = v)) :
    Calls Try.prog 14 #[.agg #[.slice a n c, .int .i64 M], .agg #[.int .u8 v0, .int .u8 v1, .int .u8 v2, .int .u8 v3], .agg #[.int .u8 x0, .int .u8 x1, .int .u8 x2, .int .u8 x3], .agg #[.int .i64 d, .int .i64 L, .slice ma ml mc]] w
      fun e w' => e = .returned (.bool v) ∧ Below w.heap.size w w' := by
  have := rwithin_any a n c ds M v0 v1 v2 v3 x0 x1 x2 x3 d L ma ml mc Ms w hc hM hV hA hd hL hm
  rw [hv.out] at this
  exact this
theorem box5 {w : World} {D : Nat} {t : TypeId} {a b c d e : Value} (hD : w.heap[D]? = some (.cells #[a, b, c, d, e] t)) : w.cell? ⟨D, 0, none⟩ = some a ∧ w.cell? ⟨D, 1, none⟩ = some b ∧ w.cell? ⟨D, 2, none⟩ = some c ∧ w.cell? ⟨D, 3, none⟩ = some d ∧ w.cell? ⟨D, 4, none⟩ = some e := by
  refine ⟨?_, ?_, ?_, ?_, ?_⟩ <;> simp [World.cell?, hD]

set_option maxHeartbeats 64000000 in
set_option maxRecDepth 100000 in
theorem tells6_walk (a : Option Addr) (n c : Nat) (ds : Dims) (M f0 f1 f2 f3 t0 t1 t2 t3 x0 x1 x2 x3 dd L : Int) (ma : Option Addr) (ml mc : Nat) (Ms : List Int) (w : World) (hc : Cat w a n c ds) (hM : I64 M) (hf : ∀ y ∈ [f0, f1, f2, f3], U8 y) (ht : ∀ y ∈ [t0, t1, t2, t3], U8 y) (hx : ∀ y ∈ [x0, x1, x2, x3], U8 y) (hd : I64 dd) (hL : I64 L) (hm : IRow .i64 w ma ml mc Ms) :
    Calls Try.prog 3 #[.agg (ask a n c M f0 f1 f2 f3 t0 t1 t2 t3 x0 x1 x2 x3 dd L ma ml mc)] w fun e w' => e = .returned (.bool true) ∧ Below w.heap.size w w' := by
  unfold ask
  have HC := hid hc
  have HM := hid hM
  have HF := hid hf
  have HT := hid ht
  have HX := hid hx
  have HD := hid hd
  have HL := hid hL
  have HMs := hid hm
  have hml : ml ≤ 9223372036854775807 := by have := hm.2.1; have h3 := hm.2.2.1; unfold maxLen at h3; omega
  have S0 := hid (st_start w (ask a n c M f0 f1 f2 f3 t0 t1 t2 t3 x0 x1 x2 x3 dd L ma ml mc) 32)
  obtain ⟨m0, hm0⟩ : ∃ y, mn f0 t0 = y := ⟨_, rfl⟩
  obtain ⟨m1, hm1⟩ : ∃ y, mn f1 t1 = y := ⟨_, rfl⟩
  obtain ⟨m2, hm2⟩ : ∃ y, mn f2 t2 = y := ⟨_, rfl⟩
  obtain ⟨m3, hm3⟩ : ∃ y, mn f3 t3 = y := ⟨_, rfl⟩
  have HB := hid (show mn f0 t0 = m0 ∧ mn f1 t1 = m1 ∧ mn f2 t2 = m2 ∧ mn f3 t3 = m3 from ⟨hm0, hm1, hm2, hm3⟩)
  have UM : Hid (∀ y ∈ [m0, m1, m2, m3], U8 y) := hid (by rw [← hm0, ← hm1, ← hm2, ← hm3]; exact mn4_u8 hf ht)
  have eqn := eqC
  have tk1 : True := trivial
  clear hc hM hf ht hx hd hL hm hm0 hm1 hm2 hm3
  by_cases hbig : 100 < ml
  · have hbt : decide ((100 : Int) < (ml : Int)) = true := decide_eq_true (by omega)
    have hbt2 : decide (100 < ml) = true := decide_eq_true hbig
    go_enter Try.func3, Try.ntmps3
    go_wp2_with (first
      | (go_at_call 8; refine (lightC_any _ _ _ ds M _ (HC.out.below S0.out.1)).mono ?_; rintro e w1 ⟨⟨v, rfl, _⟩, hb1⟩; have S1 := hid (S0.out.step hb1); obtain ⟨p0, p1, p2, p3, p4, p5, p6, p7, p8, p9, p10, p11, p12, p13, p14, p15, p16⟩ := ask_cells (S1.out.2 0 _ rfl); have ltp := heap_lt (S1.out.2 0 _ rfl); cases v)
      | (go_at_call 9; refine (wakes6 _).mono ?_; rintro e w9 ⟨rfl, hb9⟩))
    all_goals (go_ret; exact ⟨rfl, bt S1.out.1 hb9⟩)
  · have hbt : decide ((100 : Int) < (ml : Int)) = false := decide_eq_false (by omega)
    have hbt2 : decide (100 < ml) = false := decide_eq_false hbig
    go_enter Try.func3, Try.ntmps3
    go_upto_region 5 with (first
      | (go_at_call 8; refine (lightC_any _ _ _ ds M _ (HC.out.below S0.out.1)).mono ?_; rintro e w1 ⟨⟨v, rfl, _⟩, hb1⟩; have S1 := hid (S0.out.step hb1); obtain ⟨p0, p1, p2, p3, p4, p5, p6, p7, p8, p9, p10, p11, p12, p13, p14, p15, p16⟩ := ask_cells (S1.out.2 0 _ rfl); have ltp := heap_lt (S1.out.2 0 _ rfl); cases v)
      | (refine wpList_load_row rfl 32 (.tmp 1) rfl w.heap.size rfl _ (ask a n c M f0 f1 f2 f3 t0 t1 t2 t3 x0 x1 x2 x3 dd L ma ml mc) _ _ (S1.out.2 0 _ rfl) Try.underlying32 rfl (by show _ = some 17; exact size_ask) ?_)
      | (refine wpList_store_whole rfl 32 (.tmp 3) (.tmp 21) rfl w1.heap.size (ask a n c M f0 f1 f2 f3 t0 t1 t2 t3 x0 x1 x2 x3 dd L ma ml mc) rfl rfl 32 _ (heap_alloc_new _ _) rfl (by show _ = some 17; exact size_ask) (ask_one _ _ _ _ _ _ _ _ _ _ _ _ _ _ _ _ _ _ _ _ _) ?_; intro w1p hp1 hg1; have S1p := hid (S1.out.row hg1 hp1); clear hp1 hg1 p0 p1 p2 p3 p4 p5 p6 p7 p8 p9 p10 p11 p12 p13 p14 p15 p16; obtain ⟨i0, i1, i2, i3, i4, i5, i6, i7, i8, i9, i10, i11, i12, i13, i14, i15, i16⟩ := ask_cells (S1p.out.2 1 _ rfl); have lti := heap_lt (S1p.out.2 1 _ rfl))
      | (go_at_call 10; refine (rmeet_m _ _ _ _ _ _ _ _ m0 m1 m2 m3 _ HB).mono ?_; rintro e w2 ⟨rfl, hb2⟩; have S2 := hid (S1p.out.step hb2); obtain ⟨q0, q1, q2, q3, q4, q5, q6, q7, q8, q9, q10, q11, q12, q13, q14, q15, q16⟩ := ask_cells (S2.out.2 0 _ rfl); have fz2 := frozen_of_row w2 w1.heap.size 2 _ _ (S2.out.2 0 _ rfl); have fz3 := frozen_of_row w2 w1.heap.size 3 _ _ (S2.out.2 0 _ rfl); have fz4 := frozen_of_row w2 w1.heap.size 4 _ _ (S2.out.2 0 _ rfl); have fz5 := frozen_of_row w2 w1.heap.size 5 _ _ (S2.out.2 0 _ rfl); have ltq := heap_lt (S2.out.2 0 _ rfl))
      | (go_at_call 9; refine (wakes6 _).mono ?_; rintro e w9 ⟨rfl, hb9⟩))
    · go_ret
      exact ⟨rfl, bt S1.out.1 hb9⟩
    · have S3 : Hid (St w ((((w2.setCell ⟨w1.heap.size, 2, none⟩ (.int .u8 m0)).setCell ⟨w1.heap.size, 3, none⟩ (.int .u8 m1)).setCell ⟨w1.heap.size, 4, none⟩ (.int .u8 m2)).setCell ⟨w1.heap.size, 5, none⟩ (.int .u8 m3)) [(w1.heap.size, ask a n c M m0 m1 m2 m3 t0 t1 t2 t3 x0 x1 x2 x3 dd L ma ml mc, 32), (w.heap.size, ask a n c M f0 f1 f2 f3 t0 t1 t2 t3 x0 x1 x2 x3 dd L ma ml mc, 32)]) := hid (by
        have hle : w.heap.size ≤ w1.heap.size := S1.out.1.size
        refine ⟨(((S2.out.1.setCell hle _).setCell hle _).setCell hle _).setCell hle _, fun i p hp => ?_⟩
        match i, hp with
        | 0, hp =>
          simp at hp
          subst hp
          have h0 := heap_setCell_same w2 w1.heap.size 2 _ _ (.int .u8 m0) (S2.out.2 0 _ rfl)
          have h1 := heap_setCell_same _ w1.heap.size 3 _ _ (.int .u8 m1) h0
          have h2 := heap_setCell_same _ w1.heap.size 4 _ _ (.int .u8 m2) h1
          have h3 := heap_setCell_same _ w1.heap.size 5 _ _ (.int .u8 m3) h2
          rw [ask_set] at h3
          exact h3
        | 1, hp =>
          simp at hp
          subst hp
          rw [Below.heap_setCell _ _ _ _ (by simp; omega), Below.heap_setCell _ _ _ _ (by simp; omega), Below.heap_setCell _ _ _ _ (by simp; omega), Below.heap_setCell _ _ _ _ (by simp; omega)]
          exact S2.out.2 1 _ rfl
        | i + 2, hp => simp at hp)
      generalize ((((w2.setCell ⟨w1.heap.size, 2, none⟩ (.int .u8 m0)).setCell ⟨w1.heap.size, 3, none⟩ (.int .u8 m1)).setCell ⟨w1.heap.size, 4, none⟩ (.int .u8 m2)).setCell ⟨w1.heap.size, 5, none⟩ (.int .u8 m3)) = W3 at S3 ⊢
      clear q0 q1 q2 q3 q4 q5 q6 q7 q8 q9 q10 q11 q12 q13 q14 q15 q16 i0 i1 i2 i3 i4 i5 i6 i7 i8 i9 i10 i11 i12 i13 i14 i15 i16 fz2 fz3 fz4 fz5 ltq ltp lti S2 S1 S1p hb2 hb1
      go_wp2_with (first
        | (refine wpList_load_row rfl 32 (.tmp 1) rfl w.heap.size rfl _ (ask a n c M f0 f1 f2 f3 t0 t1 t2 t3 x0 x1 x2 x3 dd L ma ml mc) _ _ (S3.out.2 1 _ rfl) Try.underlying32 rfl (by show _ = some 17; exact size_ask) ?_)
        | (refine wpList_load_row rfl 32 (.tmp 3) rfl w1.heap.size rfl _ (ask a n c M m0 m1 m2 m3 t0 t1 t2 t3 x0 x1 x2 x3 dd L ma ml mc) _ _ (S3.out.2 0 _ rfl) Try.underlying32 rfl (by show _ = some 17; exact size_ask) ?_)
        | (refine wpList_two rfl (.tmp 28) (.tmp 29) rfl (ask a n c M f0 f1 f2 f3 t0 t1 t2 t3 x0 x1 x2 x3 dd L ma ml mc) (ask a n c M m0 m1 m2 m3 t0 t1 t2 t3 x0 x1 x2 x3 dd L ma ml mc) rfl rfl rfl rfl ?_))
      have SL : Hid (St w (W3.alloc (.cells (ask a n c M f0 f1 f2 f3 t0 t1 t2 t3 x0 x1 x2 x3 dd L ma ml mc ++ ask a n c M m0 m1 m2 m3 t0 t1 t2 t3 x0 x1 x2 x3 dd L ma ml mc) 32)) [(W3.heap.size, ask a n c M f0 f1 f2 f3 t0 t1 t2 t3 x0 x1 x2 x3 dd L ma ml mc ++ ask a n c M m0 m1 m2 m3 t0 t1 t2 t3 x0 x1 x2 x3 dd L ma ml mc, 32)]) := hid (by
        have h := S3.out.new (ask a n c M f0 f1 f2 f3 t0 t1 t2 t3 x0 x1 x2 x3 dd L ma ml mc ++ ask a n c M m0 m1 m2 m3 t0 t1 t2 t3 x0 x1 x2 x3 dd L ma ml mc) 32
        refine ⟨h.1, fun i p hp => ?_⟩
        cases i with
        | zero => exact h.2 0 p hp
        | succ i => simp at hp)
      clear S3
      generalize W3.heap.size = PL at SL ⊢
      go_loopw [32] (fun i wr => ∃ k : Nat, k ≤ 2 ∧ i = .int .i64 k ∧ Hid (St w wr [(PL, ask a n c M f0 f1 f2 f3 t0 t1 t2 t3 x0 x1 x2 x3 dd L ma ml mc ++ ask a n c M m0 m1 m2 m3 t0 t1 t2 t3 x0 x1 x2 x3 dd L ma ml mc, 32)])) (fun i _ => 2 - (intOf i).toNat)
      case atStart => exact ⟨0, by omega, rfl, SL⟩
      case round =>
        obtain ⟨k, hk, rfl, SR⟩ := hrel
        rename World => W8
        by_cases hk2 : k < 2
        · have hk2i : (k : Int) < 2 := by omega
          obtain ⟨g0, g1, g2, g3, hgg, hrg⟩ := pair_range (SR.out.2 0 _ rfl) hk2
          have HRG := hid hrg
          clear hrg
          have UG : Hid (∀ y ∈ [g0, g1, g2, g3], U8 y) := hid (by
            rcases hgg with ⟨rfl, rfl, rfl, rfl⟩ | ⟨rfl, rfl, rfl, rfl⟩
            · exact HF.out
            · exact UM.out)
          have ltL := heap_lt (SR.out.2 0 _ rfl)
          clear hgg
          obtain ⟨y0, hy0⟩ : ∃ y, toR ds M g0 g1 g2 g3 t0 t1 t2 t3 x0 x1 x2 x3 0 = y := ⟨_, rfl⟩
          obtain ⟨y1, hy1⟩ : ∃ y, toR ds M g0 g1 g2 g3 t0 t1 t2 t3 x0 x1 x2 x3 1 = y := ⟨_, rfl⟩
          obtain ⟨y2, hy2⟩ : ∃ y, toR ds M g0 g1 g2 g3 t0 t1 t2 t3 x0 x1 x2 x3 2 = y := ⟨_, rfl⟩
          obtain ⟨y3, hy3⟩ : ∃ y, toR ds M g0 g1 g2 g3 t0 t1 t2 t3 x0 x1 x2 x3 3 = y := ⟨_, rfl⟩
          obtain ⟨bb, hbb⟩ : ∃ y, toB ds M g0 g1 g2 g3 t0 t1 t2 t3 x0 x1 x2 x3 = y := ⟨_, rfl⟩
          obtain ⟨wb, hwb⟩ : ∃ y, wthn ds M [g0, g1, g2, g3] [x0, x1, x2, x3] dd L Ms = y := ⟨_, rfl⟩
          have HWB := hid hwb
          have HTO : Hid (toB ds M g0 g1 g2 g3 t0 t1 t2 t3 x0 x1 x2 x3 = bb ∧ ∀ k, k < 4 → toR ds M g0 g1 g2 g3 t0 t1 t2 t3 x0 x1 x2 x3 k = [y0, y1, y2, y3].getD k 0) := hid ⟨hbb, by
            intro k hk
            have : k = 0 ∨ k = 1 ∨ k = 2 ∨ k = 3 := by omega
            rcases this with rfl | rfl | rfl | rfl <;> assumption⟩
          clear hy0 hy1 hy2 hy3 hbb hwb
          have tk2 : True := trivial
          go_upto_region 10 with (first
            | (refine wpList_load_mid rfl 32 (.tmp 34) rfl PL (k * 17) rfl [.slice a n c, .int .i64 M, .int .u8 g0, .int .u8 g1, .int .u8 g2, .int .u8 g3, .int .u8 t0, .int .u8 t1, .int .u8 t2, .int .u8 t3, .int .u8 x0, .int .u8 x1, .int .u8 x2, .int .u8 x3, .int .i64 dd, .int .i64 L, .slice ma ml mc] _ HRG.out Try.underlying32 rfl (by show _ = some 17; exact size_ask) ?_)
            | (refine wpList_store_whole rfl 32 (.tmp 5) (.tmp 35) rfl W8.heap.size (ask a n c M g0 g1 g2 g3 t0 t1 t2 t3 x0 x1 x2 x3 dd L ma ml mc) rfl rfl 32 _ (heap_alloc_new _ _) rfl (by show _ = some 17; exact size_ask) (ask_one _ _ _ _ _ _ _ _ _ _ _ _ _ _ _ _ _ _ _ _ _) ?_; intro w5' hp5 hg5; have S5 := hid (SR.out.row hg5 hp5); clear hp5 hg5; obtain ⟨p0, p1, p2, p3, p4, p5, p6, p7, p8, p9, p10, p11, p12, p13, p14, p15, p16⟩ := ask_cells (S5.out.2 0 _ rfl))
            | (go_at_call 11; refine (lto_g _ _ _ _ _ _ _ _ _ _ _ _ _ _ _ _ _ y0 y1 y2 y3 bb _ (HC.out.below S5.out.1) HM.out UG.out HT.out HX.out HTO).mono ?_; rintro e w6 ⟨rfl, hb6⟩; have T6 := hid (S5.out.step hb6); obtain ⟨r0, r1, r2, r3, r4, r5, r6, r7, r8, r9, r10, r11, r12, r13, r14, r15, r16⟩ := ask_cells (T6.out.2 0 _ rfl); have ltr := heap_lt (T6.out.2 0 _ rfl); have S6 := hid (T6.out.new #[.int .u8 y0, .int .u8 y1, .int .u8 y2, .int .u8 y3] 27))
            | (go_at_call 12; refine (rto_g _ _ _ _ _ _ _ _ _ _ _ _ _ _ _ _ _ y0 y1 y2 y3 bb _ (HC.out.below S6.out.1) HM.out UG.out HT.out HX.out HTO).mono ?_; rintro e w7 ⟨rfl, hb7⟩; have T7 := hid (S6.out.step hb7); have S7 := hid (T7.out.new #[.int .u8 y0, .int .u8 y1, .int .u8 y2, .int .u8 y3, .bool bb] 40)))
          generalize hP6 : w6.heap.size = P6 at S7 ⊢
          generalize hP7 : w7.heap.size = P7 at S7 ⊢
          generalize hW9 : w7.alloc (.cells #[.int .u8 y0, .int .u8 y1, .int .u8 y2, .int .u8 y3, .bool bb] 40) = W9 at S7 ⊢
          generalize hP8 : W8.heap.size = P8 at S7 ⊢
          clear T6 T7 S6 S5 r0 r1 r2 r3 r4 r5 r6 r7 r8 r9 r10 r11 r12 r13 r14 r15 r16 p0 p1 p2 p3 p4 p5 p6 p7 p8 p9 p10 p11 p12 p13 p14 p15 p16 ltr hb6 hb7 ltL hP6 hP7 hW9 hP8
          have KS : Hid (∀ x, Below W9.heap.size W9 x → Below W9.heap.size W9 x ∧ x.cell? ⟨P8, 0, none⟩ = some (.slice a n c) ∧ x.cell? ⟨P8, 1, none⟩ = some (.int .i64 M) ∧ x.cell? ⟨P8, 2, none⟩ = some (.int .u8 g0) ∧ x.cell? ⟨P8, 3, none⟩ = some (.int .u8 g1) ∧ x.cell? ⟨P8, 4, none⟩ = some (.int .u8 g2) ∧ x.cell? ⟨P8, 5, none⟩ = some (.int .u8 g3) ∧ x.cell? ⟨P8, 6, none⟩ = some (.int .u8 t0) ∧ x.cell? ⟨P8, 7, none⟩ = some (.int .u8 t1) ∧ x.cell? ⟨P8, 8, none⟩ = some (.int .u8 t2) ∧ x.cell? ⟨P8, 9, none⟩ = some (.int .u8 t3) ∧ x.cell? ⟨P8, 10, none⟩ = some (.int .u8 x0) ∧ x.cell? ⟨P8, 11, none⟩ = some (.int .u8 x1) ∧ x.cell? ⟨P8, 12, none⟩ = some (.int .u8 x2) ∧ x.cell? ⟨P8, 13, none⟩ = some (.int .u8 x3) ∧ x.cell? ⟨P8, 14, none⟩ = some (.int .i64 dd) ∧ x.cell? ⟨P8, 15, none⟩ = some (.int .i64 L) ∧ x.cell? ⟨P8, 16, none⟩ = some (.slice ma ml mc) ∧ x.cell? ⟨P6, 0, none⟩ = some (.int .u8 y0) ∧ x.cell? ⟨P6, 1, none⟩ = some (.int .u8 y1) ∧ x.cell? ⟨P6, 2, none⟩ = some (.int .u8 y2) ∧ x.cell? ⟨P6, 3, none⟩ = some (.int .u8 y3) ∧ x.cell? ⟨P7, 0, none⟩ = some (.int .u8 y0) ∧ x.cell? ⟨P7, 1, none⟩ = some (.int .u8 y1) ∧ x.cell? ⟨P7, 2, none⟩ = some (.int .u8 y2) ∧ x.cell? ⟨P7, 3, none⟩ = some (.int .u8 y3) ∧ x.cell? ⟨P7, 4, none⟩ = some (.bool bb)) := hid fun x hB => by
            have h := S7.out.step hB
            obtain ⟨p0, p1, p2, p3, p4, p5, p6, p7, p8, p9, p10, p11, p12, p13, p14, p15, p16⟩ := ask_cells (h.2 2 _ rfl)
            obtain ⟨q0, q1, q2, q3⟩ := box4 (h.2 1 _ rfl)
            obtain ⟨r0, r1, r2, r3, r4⟩ := box5 (h.2 0 _ rfl)
            exact ⟨hB, p0, p1, p2, p3, p4, p5, p6, p7, p8, p9, p10, p11, p12, p13, p14, p15, p16, q0, q1, q2, q3, r0, r1, r2, r3, r4⟩
          refine wp_region_noPanic ?_
          refine wp_region_held_drew (S := fun x => Below W9.heap.size W9 x ∧ x.cell? ⟨P8, 0, none⟩ = some (.slice a n c) ∧ x.cell? ⟨P8, 1, none⟩ = some (.int .i64 M) ∧ x.cell? ⟨P8, 2, none⟩ = some (.int .u8 g0) ∧ x.cell? ⟨P8, 3, none⟩ = some (.int .u8 g1) ∧ x.cell? ⟨P8, 4, none⟩ = some (.int .u8 g2) ∧ x.cell? ⟨P8, 5, none⟩ = some (.int .u8 g3) ∧ x.cell? ⟨P8, 6, none⟩ = some (.int .u8 t0) ∧ x.cell? ⟨P8, 7, none⟩ = some (.int .u8 t1) ∧ x.cell? ⟨P8, 8, none⟩ = some (.int .u8 t2) ∧ x.cell? ⟨P8, 9, none⟩ = some (.int .u8 t3) ∧ x.cell? ⟨P8, 10, none⟩ = some (.int .u8 x0) ∧ x.cell? ⟨P8, 11, none⟩ = some (.int .u8 x1) ∧ x.cell? ⟨P8, 12, none⟩ = some (.int .u8 x2) ∧ x.cell? ⟨P8, 13, none⟩ = some (.int .u8 x3) ∧ x.cell? ⟨P8, 14, none⟩ = some (.int .i64 dd) ∧ x.cell? ⟨P8, 15, none⟩ = some (.int .i64 L) ∧ x.cell? ⟨P8, 16, none⟩ = some (.slice ma ml mc) ∧ x.cell? ⟨P6, 0, none⟩ = some (.int .u8 y0) ∧ x.cell? ⟨P6, 1, none⟩ = some (.int .u8 y1) ∧ x.cell? ⟨P6, 2, none⟩ = some (.int .u8 y2) ∧ x.cell? ⟨P6, 3, none⟩ = some (.int .u8 y3) ∧ x.cell? ⟨P7, 0, none⟩ = some (.int .u8 y0) ∧ x.cell? ⟨P7, 1, none⟩ = some (.int .u8 y1) ∧ x.cell? ⟨P7, 2, none⟩ = some (.int .u8 y2) ∧ x.cell? ⟨P7, 3, none⟩ = some (.int .u8 y3) ∧ x.cell? ⟨P7, 4, none⟩ = some (.bool bb)) (by kernel_rfl) (keep_drew KS) (fun hHeld => ?_)
          refine wpAnyH_take (i := 0) (v := ?_) (by simp only [List.getElem?_toArray, List.getElem?_cons_succ, List.getElem?_cons_zero]; exact rfl) (by kernel_rfl) (by kernel_rfl) (by kernel_rfl) (fun _ _ _ h => h) (Or.inl ⟨by rfl, ?_⟩) (by assumption) ?_
          rotate_left
          · intro w hSw
            try dsimp only at hSw
            go_simp
            try with_reducible rfl
          try simp only [Act.put, List.setIfInBounds_toArray, List.set_cons_zero, List.set_cons_succ]
          refine wpAnyH_take (i := 1) (v := ?_) (by simp only [List.getElem?_toArray, List.getElem?_cons_succ, List.getElem?_cons_zero]; exact rfl) (by kernel_rfl) (by kernel_rfl) (by kernel_rfl) (fun _ _ _ h => h) (Or.inl ⟨by rfl, ?_⟩) (by assumption) ?_
          rotate_left
          · intro w hSw
            try dsimp only at hSw
            go_simp
            try with_reducible rfl
          try simp only [Act.put, List.setIfInBounds_toArray, List.set_cons_zero, List.set_cons_succ]
          refine wpAnyH_take (i := 2) (v := ?_) (by simp only [List.getElem?_toArray, List.getElem?_cons_succ, List.getElem?_cons_zero]; exact rfl) (by kernel_rfl) (by kernel_rfl) (by kernel_rfl) (fun _ _ _ h => h) (Or.inl ⟨by rfl, ?_⟩) (by assumption) ?_
          rotate_left
          · intro w hSw
            try dsimp only at hSw
            go_simp
            try with_reducible rfl
          try simp only [Act.put, List.setIfInBounds_toArray, List.set_cons_zero, List.set_cons_succ]
          refine wpAnyH_take (i := 3) (v := ?_) (by simp only [List.getElem?_toArray, List.getElem?_cons_succ, List.getElem?_cons_zero]; exact rfl) (by kernel_rfl) (by kernel_rfl) (by kernel_rfl) (fun _ _ _ h => h) (Or.inl ⟨by rfl, ?_⟩) (by assumption) ?_
          rotate_left
          · intro w hSw
            try dsimp only at hSw
            go_simp
            try with_reducible rfl
          try simp only [Act.put, List.setIfInBounds_toArray, List.set_cons_zero, List.set_cons_succ]
          refine wpAnyH_take (i := 4) (v := ?_) (by simp only [List.getElem?_toArray, List.getElem?_cons_succ, List.getElem?_cons_zero]; exact rfl) (by kernel_rfl) (by kernel_rfl) (by kernel_rfl) (fun _ _ _ h => h) (Or.inl ⟨by rfl, ?_⟩) (by assumption) ?_
          rotate_left
          · intro w hSw
            try dsimp only at hSw
            go_simp
            try with_reducible rfl
          try simp only [Act.put, List.setIfInBounds_toArray, List.set_cons_zero, List.set_cons_succ]
          refine wpAnyH_take (i := 5) (v := ?_) (by simp only [List.getElem?_toArray, List.getElem?_cons_succ, List.getElem?_cons_zero]; exact rfl) (by kernel_rfl) (by kernel_rfl) (by kernel_rfl) (fun _ _ _ h => h) (Or.inl ⟨by rfl, ?_⟩) (by assumption) ?_
          rotate_left
          · intro w hSw
            try dsimp only at hSw
            go_simp
            try with_reducible rfl
          try simp only [Act.put, List.setIfInBounds_toArray, List.set_cons_zero, List.set_cons_succ]
          refine wpAnyH_take (i := 6) (v := ?_) (by simp only [List.getElem?_toArray, List.getElem?_cons_succ, List.getElem?_cons_zero]; exact rfl) (by kernel_rfl) (by kernel_rfl) (by kernel_rfl) (fun _ _ _ h => h) (Or.inl ⟨by rfl, ?_⟩) (by assumption) ?_
          rotate_left
          · intro w hSw
            try dsimp only at hSw
            go_simp
            try with_reducible rfl
          try simp only [Act.put, List.setIfInBounds_toArray, List.set_cons_zero, List.set_cons_succ]
          refine wpAnyH_take (i := 7) (v := ?_) (by simp only [List.getElem?_toArray, List.getElem?_cons_succ, List.getElem?_cons_zero]; exact rfl) (by kernel_rfl) (by kernel_rfl) (by kernel_rfl) (fun _ _ _ h => h) (Or.inl ⟨by rfl, ?_⟩) (by assumption) ?_
          rotate_left
          · intro w hSw
            try dsimp only at hSw
            go_simp
            try with_reducible rfl
          try simp only [Act.put, List.setIfInBounds_toArray, List.set_cons_zero, List.set_cons_succ]
          refine wpAnyH_take (i := 8) (v := ?_) (by simp only [List.getElem?_toArray, List.getElem?_cons_succ, List.getElem?_cons_zero]; exact rfl) (by kernel_rfl) (by kernel_rfl) (by kernel_rfl) (fun _ _ _ h => h) (Or.inl ⟨by rfl, ?_⟩) (by assumption) ?_
          rotate_left
          · intro w hSw
            try dsimp only at hSw
            go_simp
            try with_reducible rfl
          try simp only [Act.put, List.setIfInBounds_toArray, List.set_cons_zero, List.set_cons_succ]
          refine wpAnyH_take (i := 9) (v := ?_) (by simp only [List.getElem?_toArray, List.getElem?_cons_succ, List.getElem?_cons_zero]; exact rfl) (by kernel_rfl) (by kernel_rfl) (by kernel_rfl) (fun _ _ _ h => h) (Or.inl ⟨by rfl, ?_⟩) (by assumption) ?_
          rotate_left
          · intro w hSw
            try dsimp only at hSw
            go_simp
            try with_reducible rfl
          try simp only [Act.put, List.setIfInBounds_toArray, List.set_cons_zero, List.set_cons_succ]
          refine wpAnyH_take (i := 10) (v := ?_) (by simp only [List.getElem?_toArray, List.getElem?_cons_succ, List.getElem?_cons_zero]; exact rfl) (by kernel_rfl) (by kernel_rfl) (by kernel_rfl) (fun _ _ _ h => h) (Or.inl ⟨by rfl, ?_⟩) (by assumption) ?_
          rotate_left
          · intro w hSw
            try dsimp only at hSw
            go_simp
            try with_reducible rfl
          try simp only [Act.put, List.setIfInBounds_toArray, List.set_cons_zero, List.set_cons_succ]
          refine wpAnyH_take (i := 11) (v := ?_) (by simp only [List.getElem?_toArray, List.getElem?_cons_succ, List.getElem?_cons_zero]; exact rfl) (by kernel_rfl) (by kernel_rfl) (by kernel_rfl) (fun _ _ _ h => h) (Or.inl ⟨by rfl, ?_⟩) (by assumption) ?_
          rotate_left
          · intro w hSw
            try dsimp only at hSw
            go_simp
            try with_reducible rfl
          try simp only [Act.put, List.setIfInBounds_toArray, List.set_cons_zero, List.set_cons_succ]
          refine wpAnyH_take (i := 12) (v := ?_) (by simp only [List.getElem?_toArray, List.getElem?_cons_succ, List.getElem?_cons_zero]; exact rfl) (by kernel_rfl) (by kernel_rfl) (by kernel_rfl) (fun _ _ _ h => h) (Or.inl ⟨by rfl, ?_⟩) (by assumption) ?_
          rotate_left
          · intro w hSw
            try dsimp only at hSw
            go_simp
            try with_reducible rfl
          try simp only [Act.put, List.setIfInBounds_toArray, List.set_cons_zero, List.set_cons_succ]
          refine wpAnyH_take (i := 13) (v := ?_) (by simp only [List.getElem?_toArray, List.getElem?_cons_succ, List.getElem?_cons_zero]; exact rfl) (by kernel_rfl) (by kernel_rfl) (by kernel_rfl) (fun _ _ _ h => h) (Or.inl ⟨by rfl, ?_⟩) (by assumption) ?_
          rotate_left
          · intro w hSw
            try dsimp only at hSw
            go_simp
            try with_reducible rfl
          try simp only [Act.put, List.setIfInBounds_toArray, List.set_cons_zero, List.set_cons_succ]
          refine wpAnyH_take (i := 14) (v := ?_) (by simp only [List.getElem?_toArray, List.getElem?_cons_succ, List.getElem?_cons_zero]; exact rfl) (by kernel_rfl) (by kernel_rfl) (by kernel_rfl) (fun _ _ _ h => h) (Or.inl ⟨by rfl, ?_⟩) (by assumption) ?_
          rotate_left
          · intro w hSw
            try dsimp only at hSw
            go_simp
            try with_reducible rfl
          try simp only [Act.put, List.setIfInBounds_toArray, List.set_cons_zero, List.set_cons_succ]
          refine wpAnyH_take (i := 15) (v := ?_) (by simp only [List.getElem?_toArray, List.getElem?_cons_succ, List.getElem?_cons_zero]; exact rfl) (by kernel_rfl) (by kernel_rfl) (by kernel_rfl) (fun _ _ _ h => h) (Or.inl ⟨by rfl, ?_⟩) (by assumption) ?_
          rotate_left
          · intro w hSw
            try dsimp only at hSw
            go_simp
            try with_reducible rfl
          try simp only [Act.put, List.setIfInBounds_toArray, List.set_cons_zero, List.set_cons_succ]
          refine wpAnyH_take (i := 16) (v := ?_) (by simp only [List.getElem?_toArray, List.getElem?_cons_succ, List.getElem?_cons_zero]; exact rfl) (by kernel_rfl) (by kernel_rfl) (by kernel_rfl) (fun _ _ _ h => h) (Or.inl ⟨by rfl, ?_⟩) (by assumption) ?_
          rotate_left
          · intro w hSw
            try dsimp only at hSw
            go_simp
            try with_reducible rfl
          try simp only [Act.put, List.setIfInBounds_toArray, List.set_cons_zero, List.set_cons_succ]
          refine wpAnyH_take (i := 17) (v := ?_) (by simp only [List.getElem?_toArray, List.getElem?_cons_succ, List.getElem?_cons_zero]; exact rfl) (by kernel_rfl) (by kernel_rfl) (by kernel_rfl) (fun _ _ _ h => h) (Or.inl ⟨by rfl, ?_⟩) (by assumption) ?_
          rotate_left
          · intro w hSw
            try dsimp only at hSw
            go_simp
            try with_reducible rfl
          try simp only [Act.put, List.setIfInBounds_toArray, List.set_cons_zero, List.set_cons_succ]
          refine wpAnyH_take (i := 18) (v := ?_) (by simp only [List.getElem?_toArray, List.getElem?_cons_succ, List.getElem?_cons_zero]; exact rfl) (by kernel_rfl) (by kernel_rfl) (by kernel_rfl) (fun _ _ _ h => h) (Or.inl ⟨by rfl, ?_⟩) (by assumption) ?_
          rotate_left
          · intro w hSw
            try dsimp only at hSw
            go_simp
            try with_reducible rfl
          try simp only [Act.put, List.setIfInBounds_toArray, List.set_cons_zero, List.set_cons_succ]
          refine wpAnyH_take (i := 20) (v := ?_) (by simp only [List.getElem?_toArray, List.getElem?_cons_succ, List.getElem?_cons_zero]; exact rfl) (by kernel_rfl) (by kernel_rfl) (by kernel_rfl) (fun _ _ _ h => h) (Or.inl ⟨by rfl, ?_⟩) (by assumption) ?_
          rotate_left
          · intro w hSw
            try dsimp only at hSw
            go_simp
            try with_reducible rfl
          try simp only [Act.put, List.setIfInBounds_toArray, List.set_cons_zero, List.set_cons_succ]
          refine wpAnyH_take (i := 21) (v := ?_) (by simp only [List.getElem?_toArray, List.getElem?_cons_succ, List.getElem?_cons_zero]; exact rfl) (by kernel_rfl) (by kernel_rfl) (by kernel_rfl) (fun _ _ _ h => h) (Or.inl ⟨by rfl, ?_⟩) (by assumption) ?_
          rotate_left
          · intro w hSw
            try dsimp only at hSw
            go_simp
            try with_reducible rfl
          try simp only [Act.put, List.setIfInBounds_toArray, List.set_cons_zero, List.set_cons_succ]
          refine wpAnyH_take (i := 22) (v := ?_) (by simp only [List.getElem?_toArray, List.getElem?_cons_succ, List.getElem?_cons_zero]; exact rfl) (by kernel_rfl) (by kernel_rfl) (by kernel_rfl) (fun _ _ _ h => h) (Or.inl ⟨by rfl, ?_⟩) (by assumption) ?_
          rotate_left
          · intro w hSw
            try dsimp only at hSw
            go_simp
            try with_reducible rfl
          try simp only [Act.put, List.setIfInBounds_toArray, List.set_cons_zero, List.set_cons_succ]
          refine wpAnyH_take (i := 23) (v := ?_) (by simp only [List.getElem?_toArray, List.getElem?_cons_succ, List.getElem?_cons_zero]; exact rfl) (by kernel_rfl) (by kernel_rfl) (by kernel_rfl) (fun _ _ _ h => h) (Or.inl ⟨by rfl, ?_⟩) (by assumption) ?_
          rotate_left
          · intro w hSw
            try dsimp only at hSw
            go_simp
            try with_reducible rfl
          try simp only [Act.put, List.setIfInBounds_toArray, List.set_cons_zero, List.set_cons_succ]
          refine wpAnyH_take (i := 24) (v := ?_) (by simp only [List.getElem?_toArray, List.getElem?_cons_succ, List.getElem?_cons_zero]; exact rfl) (by kernel_rfl) (by kernel_rfl) (by kernel_rfl) (fun _ _ _ h => h) (Or.inl ⟨by rfl, ?_⟩) (by assumption) ?_
          rotate_left
          · intro w hSw
            try dsimp only at hSw
            go_simp
            try with_reducible rfl
          try simp only [Act.put, List.setIfInBounds_toArray, List.set_cons_zero, List.set_cons_succ]
          refine wpAnyH_take (i := 25) (v := ?_) (by simp only [List.getElem?_toArray, List.getElem?_cons_succ, List.getElem?_cons_zero]; exact rfl) (by kernel_rfl) (by kernel_rfl) (by kernel_rfl) (fun _ _ _ h => h) (Or.inl ⟨by rfl, ?_⟩) (by assumption) ?_
          rotate_left
          · intro w hSw
            try dsimp only at hSw
            go_simp
            try with_reducible rfl
          try simp only [Act.put, List.setIfInBounds_toArray, List.set_cons_zero, List.set_cons_succ]
          refine wpAnyH_take (i := 26) (v := ?_) (by simp only [List.getElem?_toArray, List.getElem?_cons_succ, List.getElem?_cons_zero]; exact rfl) (by kernel_rfl) (by kernel_rfl) (by kernel_rfl) (fun _ _ _ h => h) (Or.inl ⟨by rfl, ?_⟩) (by assumption) ?_
          rotate_left
          · intro w hSw
            try dsimp only at hSw
            go_simp
            try with_reducible rfl
          try simp only [Act.put, List.setIfInBounds_toArray, List.set_cons_zero, List.set_cons_succ]
          refine wpAnyH_take (i := 27) (v := ?_) (by simp only [List.getElem?_toArray, List.getElem?_cons_succ, List.getElem?_cons_zero]; exact rfl) (by kernel_rfl) (by kernel_rfl) (by kernel_rfl) (fun _ _ _ h => h) (Or.inl ⟨by rfl, ?_⟩) (by assumption) ?_
          rotate_left
          · intro w hSw
            try dsimp only at hSw
            go_simp
            try with_reducible rfl
          try simp only [Act.put, List.setIfInBounds_toArray, List.set_cons_zero, List.set_cons_succ]
          refine wpAnyH_ready (rs := [19]) (by kernel_rfl) (by simp) ?_
          refine AllReadyH.cons (by simp only [List.getElem?_toArray, List.getElem?_cons_succ, List.getElem?_cons_zero]; exact rfl) (fun K hK => ?_) AllReadyH.nil
          go_simp
          (go_at_call 13; refine (within_m _ _ _ _ _ _ _ _ _ _ _ _ _ _ _ _ _ _ Ms wb _ (HC.out.below (bt S7.out.1 hHeld.1)) HM.out UG.out HX.out HD.out HL.out (HMs.out.below (bt S7.out.1 hHeld.1)) HWB).mono ?_; rintro e wc1 ⟨rfl, hb1⟩)
          refine hK.out _ _ (keep_step hb1 hHeld KS) (fun hHeld2 => ?_)
          clear hK K hHeld
          have hHeld := hHeld2
          clear hHeld2
          try simp only [Act.put, List.setIfInBounds_toArray, List.set_cons_zero, List.set_cons_succ]
          refine wpAnyH_ready (rs := [28]) (by kernel_rfl) (by simp) ?_
          refine AllReadyH.cons (by simp only [List.getElem?_toArray, List.getElem?_cons_succ, List.getElem?_cons_zero]; exact rfl) (fun K hK => ?_) AllReadyH.nil
          go_simp
          (go_at_call 14; refine (rwithin_m _ _ _ _ _ _ _ _ _ _ _ _ _ _ _ _ _ _ Ms wb _ (HC.out.below (bt S7.out.1 hHeld.1)) HM.out UG.out HX.out HD.out HL.out (HMs.out.below (bt S7.out.1 hHeld.1)) HWB).mono ?_; rintro e wc2 ⟨rfl, hb2⟩)
          refine hK.out _ _ (keep_step hb2 hHeld KS) (fun hHeld2 => ?_)
          clear hK K hHeld
          have hHeld := hHeld2
          clear hHeld2
          try simp only [Act.put, List.setIfInBounds_toArray, List.set_cons_zero, List.set_cons_succ]
          refine wpAnyH_take (i := 29) (v := ?_) (by simp only [List.getElem?_toArray, List.getElem?_cons_succ, List.getElem?_cons_zero]; exact rfl) (by kernel_rfl) (by kernel_rfl) (by kernel_rfl) (fun _ _ _ h => h) (Or.inl ⟨by rfl, ?_⟩) (by assumption) ?_
          rotate_left
          · intro w hSw
            try dsimp only at hSw
            go_simp
            try with_reducible rfl
          try simp only [Act.put, List.setIfInBounds_toArray, List.set_cons_zero, List.set_cons_succ]
          refine wpAnyH_take (i := 30) (v := ?_) (by simp only [List.getElem?_toArray, List.getElem?_cons_succ, List.getElem?_cons_zero]; exact rfl) (by kernel_rfl) (by kernel_rfl) (by kernel_rfl) (fun _ _ _ h => h) (Or.inl ⟨by rfl, ?_⟩) (by assumption) ?_
          rotate_left
          · intro w hSw
            try dsimp only at hSw
            go_simp
            try with_reducible rfl
          try simp only [Act.put, List.setIfInBounds_toArray, List.set_cons_zero, List.set_cons_succ]
          refine wpAnyH_take (i := 31) (v := ?_) (by simp only [List.getElem?_toArray, List.getElem?_cons_succ, List.getElem?_cons_zero]; exact rfl) (by kernel_rfl) (by kernel_rfl) (by kernel_rfl) (fun _ _ _ h => h) (Or.inl ⟨by rfl, ?_⟩) (by assumption) ?_
          rotate_left
          · intro w hSw
            try dsimp only at hSw
            go_simp
            try with_reducible rfl
          try simp only [Act.put, List.setIfInBounds_toArray, List.set_cons_zero, List.set_cons_succ]
          refine wpAnyH_take (i := 32) (v := ?_) (by simp only [List.getElem?_toArray, List.getElem?_cons_succ, List.getElem?_cons_zero]; exact rfl) (by kernel_rfl) (by kernel_rfl) (by kernel_rfl) (fun _ _ _ h => h) (Or.inl ⟨by rfl, ?_⟩) (by assumption) ?_
          rotate_left
          · intro w hSw
            try dsimp only at hSw
            go_simp
            try with_reducible rfl
          try simp only [Act.put, List.setIfInBounds_toArray, List.set_cons_zero, List.set_cons_succ]
          refine wpAnyH_take (i := 33) (v := ?_) (by simp only [List.getElem?_toArray, List.getElem?_cons_succ, List.getElem?_cons_zero]; exact rfl) (by kernel_rfl) (by kernel_rfl) (by kernel_rfl) (fun _ _ _ h => h) (Or.inl ⟨by rfl, ?_⟩) (by assumption) ?_
          rotate_left
          · intro w hSw
            try dsimp only at hSw
            go_simp
            try with_reducible rfl
          try simp only [Act.put, List.setIfInBounds_toArray, List.set_cons_zero, List.set_cons_succ]
          refine wpAnyH_take (i := 34) (v := ?_) (by simp only [List.getElem?_toArray, List.getElem?_cons_succ, List.getElem?_cons_zero]; exact rfl) (by kernel_rfl) (by kernel_rfl) (by kernel_rfl) (fun _ _ _ h => h) (Or.inl ⟨by rfl, ?_⟩) (by assumption) ?_
          rotate_left
          · intro w hSw
            try dsimp only at hSw
            go_simp
            try with_reducible rfl
          try simp only [Act.put, List.setIfInBounds_toArray, List.set_cons_zero, List.set_cons_succ]
          refine wpAnyH_take (i := 35) (v := ?_) (by simp only [List.getElem?_toArray, List.getElem?_cons_succ, List.getElem?_cons_zero]; exact rfl) (by kernel_rfl) (by kernel_rfl) (by kernel_rfl) (fun _ _ _ h => h) (Or.inl ⟨by rfl, ?_⟩) (by assumption) ?_
          rotate_left
          · intro w hSw
            try dsimp only at hSw
            go_simp
            try with_reducible rfl
          try simp only [Act.put, List.setIfInBounds_toArray, List.set_cons_zero, List.set_cons_succ]
          refine wpAnyH_take (i := 36) (v := ?_) (by simp only [List.getElem?_toArray, List.getElem?_cons_succ, List.getElem?_cons_zero]; exact rfl) (by kernel_rfl) (by kernel_rfl) (by kernel_rfl) (fun _ _ _ h => h) (Or.inl ⟨by rfl, ?_⟩) (by assumption) ?_
          rotate_left
          · intro w hSw
            try dsimp only at hSw
            go_simp
            try with_reducible rfl
          try simp only [Act.put, List.setIfInBounds_toArray, List.set_cons_zero, List.set_cons_succ]
          refine wpAnyH_take (i := 37) (v := ?_) (by simp only [List.getElem?_toArray, List.getElem?_cons_succ, List.getElem?_cons_zero]; exact rfl) (by kernel_rfl) (by kernel_rfl) (by kernel_rfl) (fun _ _ _ h => h) (Or.inl ⟨by rfl, ?_⟩) (by assumption) ?_
          rotate_left
          · intro w hSw
            try dsimp only at hSw
            go_simp
            try with_reducible rfl
          try simp only [Act.put, List.setIfInBounds_toArray, List.set_cons_zero, List.set_cons_succ]
          refine wpAnyH_take (i := 38) (v := ?_) (by simp only [List.getElem?_toArray, List.getElem?_cons_succ, List.getElem?_cons_zero]; exact rfl) (by kernel_rfl) (by kernel_rfl) (by kernel_rfl) (fun _ _ _ h => h) (Or.inl ⟨by rfl, ?_⟩) (by assumption) ?_
          rotate_left
          · intro w hSw
            try dsimp only at hSw
            go_simp
            try with_reducible rfl
          try simp only [Act.put, List.setIfInBounds_toArray, List.set_cons_zero, List.set_cons_succ]
          refine wpAnyH_take (i := 39) (v := ?_) (by simp only [List.getElem?_toArray, List.getElem?_cons_succ, List.getElem?_cons_zero]; exact rfl) (by kernel_rfl) (by kernel_rfl) (by kernel_rfl) (fun _ _ _ h => h) (Or.inl ⟨by rfl, ?_⟩) (by assumption) ?_
          rotate_left
          · intro w hSw
            try dsimp only at hSw
            go_simp
            try with_reducible rfl
          try simp only [Act.put, List.setIfInBounds_toArray, List.set_cons_zero, List.set_cons_succ]
          refine wpAnyH_take (i := 41) (v := ?_) (by simp only [List.getElem?_toArray, List.getElem?_cons_succ, List.getElem?_cons_zero]; exact rfl) (by kernel_rfl) (by kernel_rfl) (by kernel_rfl) (fun _ _ _ h => h) (Or.inl ⟨by rfl, ?_⟩) (by assumption) ?_
          rotate_left
          · intro w hSw
            try dsimp only at hSw
            go_simp
            try with_reducible rfl
          try simp only [Act.put, List.setIfInBounds_toArray, List.set_cons_zero, List.set_cons_succ]
          refine wpAnyH_take (i := 42) (v := ?_) (by simp only [List.getElem?_toArray, List.getElem?_cons_succ, List.getElem?_cons_zero]; exact rfl) (by kernel_rfl) (by kernel_rfl) (by kernel_rfl) (fun _ _ _ h => h) (Or.inl ⟨by rfl, ?_⟩) (by assumption) ?_
          rotate_left
          · intro w hSw
            try dsimp only at hSw
            go_simp
            try with_reducible rfl
          try simp only [Act.put, List.setIfInBounds_toArray, List.set_cons_zero, List.set_cons_succ]
          refine wpAnyH_take (i := 43) (v := ?_) (by simp only [List.getElem?_toArray, List.getElem?_cons_succ, List.getElem?_cons_zero]; exact rfl) (by kernel_rfl) (by kernel_rfl) (by kernel_rfl) (fun _ _ _ h => h) (Or.inl ⟨by rfl, ?_⟩) (by assumption) ?_
          rotate_left
          · intro w hSw
            try dsimp only at hSw
            go_simp
            try with_reducible rfl
          try simp only [Act.put, List.setIfInBounds_toArray, List.set_cons_zero, List.set_cons_succ]
          refine wpAnyH_take (i := 44) (v := ?_) (by simp only [List.getElem?_toArray, List.getElem?_cons_succ, List.getElem?_cons_zero]; exact rfl) (by kernel_rfl) (by kernel_rfl) (by kernel_rfl) (fun _ _ _ h => h) (Or.inl ⟨by rfl, ?_⟩) (by assumption) ?_
          rotate_left
          · intro w hSw
            try dsimp only at hSw
            go_simp
            try with_reducible rfl
          try simp only [Act.put, List.setIfInBounds_toArray, List.set_cons_zero, List.set_cons_succ]
          refine wpAnyH_take (i := 45) (v := ?_) (by simp only [List.getElem?_toArray, List.getElem?_cons_succ, List.getElem?_cons_zero]; exact rfl) (by kernel_rfl) (by kernel_rfl) (by kernel_rfl) (fun _ _ _ h => h) (Or.inl ⟨by rfl, ?_⟩) (by assumption) ?_
          rotate_left
          · intro w hSw
            try dsimp only at hSw
            go_simp
            try with_reducible rfl
          try simp only [Act.put, List.setIfInBounds_toArray, List.set_cons_zero, List.set_cons_succ]
          refine wpAnyH_take (i := 46) (v := ?_) (by simp only [List.getElem?_toArray, List.getElem?_cons_succ, List.getElem?_cons_zero]; exact rfl) (by kernel_rfl) (by kernel_rfl) (by kernel_rfl) (fun _ _ _ h => h) (Or.inl ⟨by rfl, ?_⟩) (by assumption) ?_
          rotate_left
          · intro w hSw
            try dsimp only at hSw
            go_simp
            try with_reducible rfl
          try simp only [Act.put, List.setIfInBounds_toArray, List.set_cons_zero, List.set_cons_succ]
          refine wpAnyH_take (i := 47) (v := ?_) (by simp only [List.getElem?_toArray, List.getElem?_cons_succ, List.getElem?_cons_zero]; exact rfl) (by kernel_rfl) (by kernel_rfl) (by kernel_rfl) (fun _ _ _ h => h) (Or.inl ⟨by rfl, ?_⟩) (by assumption) ?_
          rotate_left
          · intro w hSw
            try dsimp only at hSw
            go_simp
            try with_reducible rfl
          try simp only [Act.put, List.setIfInBounds_toArray, List.set_cons_zero, List.set_cons_succ]
          refine wpAnyH_take (i := 48) (v := ?_) (by simp only [List.getElem?_toArray, List.getElem?_cons_succ, List.getElem?_cons_zero]; exact rfl) (by kernel_rfl) (by kernel_rfl) (by kernel_rfl) (fun _ _ _ h => h) (Or.inl ⟨by rfl, ?_⟩) (by assumption) ?_
          rotate_left
          · intro w hSw
            try dsimp only at hSw
            go_simp
            try with_reducible rfl
          try simp only [Act.put, List.setIfInBounds_toArray, List.set_cons_zero, List.set_cons_succ]
          refine wpAnyH_ready (rs := [40]) (by kernel_rfl) (by simp) ?_
          refine AllReadyH.cons (by simp only [List.getElem?_toArray, List.getElem?_cons_succ, List.getElem?_cons_zero]; exact rfl) (fun K hK => ?_) AllReadyH.nil
          go_simp
          (go_at_call 16; refine (lfiber_any _ _ _ _ _ _ _ _ _ _ _ _ _ _ _ _ _ _ (HC.out.below (bt S7.out.1 hHeld.1)) HM.out HT.out HX.out UG.out).mono ?_; rintro e wc3 ⟨⟨fa, fn, fc, rfl, hfr⟩, hb3⟩); have HFR1 := hid hfr; clear hfr
          refine hK.out _ _ (keep_step hb3 hHeld KS) (fun hHeld2 => ?_)
          clear hK K hHeld
          have hHeld := hHeld2
          clear hHeld2
          try simp only [Act.put, List.setIfInBounds_toArray, List.set_cons_zero, List.set_cons_succ]
          refine wpAnyH_ready (rs := [49]) (by kernel_rfl) (by simp) ?_
          refine AllReadyH.cons (by simp only [List.getElem?_toArray, List.getElem?_cons_succ, List.getElem?_cons_zero]; exact rfl) (fun K hK => ?_) AllReadyH.nil
          go_simp
          (go_at_call 17; refine (rfiber_any _ _ _ _ _ _ _ _ _ _ _ _ _ _ _ _ _ _ (HC.out.below (bt S7.out.1 hHeld.1)) HM.out HT.out HX.out UG.out).mono ?_; rintro e wc4 ⟨⟨ga, gn, gc, rfl, hgr⟩, hb4⟩); have HFR2 := hid hgr; clear hgr
          refine hK.out _ _ (keep_step hb4 hHeld KS) (fun hHeld2 => ?_)
          clear hK K hHeld
          have hHeld := hHeld2
          clear hHeld2
          try simp only [Act.put, List.setIfInBounds_toArray, List.set_cons_zero, List.set_cons_succ]
          refine wpAnyH_ready (rs := [50]) (by kernel_rfl) (by simp) ?_
          refine AllReadyH.cons (by simp only [List.getElem?_toArray, List.getElem?_cons_succ, List.getElem?_cons_zero]; exact rfl) (fun K hK => ?_) AllReadyH.nil
          go_simp
          (go_at_call 15; refine (coords_same _ _ _ _ _ _ _ _ (HFR1.out.below hb4) HFR2.out).mono ?_; rintro e wc5 ⟨rfl, hb5⟩)
          refine hK.out _ _ (keep_step hb5 hHeld KS) (fun hHeld2 => ?_)
          clear hK K hHeld
          have hHeld := hHeld2
          clear hHeld2
          try simp only [Act.put, List.setIfInBounds_toArray, List.set_cons_zero, List.set_cons_succ]
          refine wpAnyH_take (i := 51) (v := ?_) (by simp only [List.getElem?_toArray, List.getElem?_cons_succ, List.getElem?_cons_zero]; exact rfl) (by kernel_rfl) (by kernel_rfl) (by kernel_rfl) (fun _ _ _ h => h) (Or.inl ⟨by rfl, ?_⟩) (by assumption) ?_
          rotate_left
          · intro w hSw
            try dsimp only at hSw
            go_simp
            try with_reducible rfl
          try simp only [Act.put, List.setIfInBounds_toArray, List.set_cons_zero, List.set_cons_succ]
          refine wpAnyH_take (i := 52) (v := ?_) (by simp only [List.getElem?_toArray, List.getElem?_cons_succ, List.getElem?_cons_zero]; exact rfl) (by kernel_rfl) (by kernel_rfl) (by kernel_rfl) (fun _ _ _ h => h) (Or.inl ⟨by rfl, ?_⟩) (by assumption) ?_
          rotate_left
          · intro w hSw
            try dsimp only at hSw
            go_simp
            try with_reducible rfl
          try simp only [Act.put, List.setIfInBounds_toArray, List.set_cons_zero, List.set_cons_succ]
          refine wpAnyH_done (by kernel_rfl) ?_ _
          refine NoPanic.normal ?_
          have SE := hid ((S7.out.step (undrew hb1)).step (bt (bt (bt hb2 hb3) hb4) hb5))
          clear hHeld KS
          go_wp2
          go_roundw
          case rel =>
            refine ⟨k + 1, by omega, by go_num, hid ⟨SE.out.1, fun i p hp => ?_⟩⟩
            cases i with
            | zero => exact SE.out.2 3 p hp
            | succ i => simp at hp
          case measure => simp [intOf]; omega
        · obtain rfl : k = 2 := by omega
          go_wp2_with (go_at_call 9; refine (wakes6 _).mono ?_; rintro e w9 ⟨rfl, hb9⟩)
          go_ret
          exact ⟨rfl, bt SR.out.1 hb9⟩

end Go.Proofs.Ytfgphphaopcolaa

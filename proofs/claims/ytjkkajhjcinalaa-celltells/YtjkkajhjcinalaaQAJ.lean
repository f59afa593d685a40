/-
  -
  -
  -
  -
  Conditions: as each theorem states them.
-/
import Derived.Laws.Cover1
import Derived.Test.YtjkkajhjcinalaaQAB
import Derived.Test.YtjkkajhjcinalaaQAD
import Derived.Test.YtjkkajhjcinalaaQAF
import Derived.Test.YtjkkajhjcinalaaQAG
import Derived.Test.YtjkkajhjcinalaaQAI
namespace Go.Proofs.Ytjkkajhjcinalaa
open Go.ChangeShapes Go.WideShapes Go.ChangeAt Go.RowKit
set_option linter.unusedVariables false
set_option linter.unusedSimpArgs false
set_option maxRecDepth 100000

/-- A line's numbers. -/
structure Lv where
  n : Int
  s0 : Int
  s1 : Int
  a0 : Int
  a1 : Int
  b0 : Int
  b1 : Int
def okl (x : Lv) : Prop := I64 x.n ∧ (I64 x.s0 ∧ I64 x.s1) ∧ (I64 x.a0 ∧ I64 x.a1) ∧ I64 x.b0 ∧ I64 x.b1
def lvi (i u v : Int) : Int := if i = 0 then u else v
def mx1 (n : Int) : Int := max n 1
def fv (f i : Int) (x : Lv) : Int := if f = 1 then x.n else if i < 0 ∨ 2 ≤ i then 0 else if f = 2 then lvi i x.s0 x.s1 else if f = 3 then lvi i x.a0 x.a1 else if f = 4 then lvi i x.b0 x.b1 else if f = 5 then lvi i x.s0 x.s1 else 0
def fw (f i : Int) (x : Lv) : Int := if f = 1 then 1 else if i < 0 ∨ 2 ≤ i then 1 else if f = 5 then mx1 x.n else 1
def av (f i : Int) (x y : Lv) : Int := calc.sg (fv f i y * fw f i x) (fv f i x * fw f i y)
theorem av_1 (i : Int) (x y : Lv) : av 1 i x y = calc.sg y.n x.n := by unfold av fv fw; simp
theorem av_out {f i : Int} (hf : ¬ f = 1) (hi : i < 0 ∨ 2 ≤ i) (x y : Lv) : av f i x y = 0 := by unfold av fv fw; simp [hf, hi, calc.sg]
theorem av_none {f i : Int} (h1 : ¬ f = 1) (h2 : ¬ f = 2) (h3 : ¬ f = 3) (h4 : ¬ f = 4) (h5 : ¬ f = 5) (x y : Lv) : av f i x y = 0 := by unfold av fv fw; simp [h1, h2, h3, h4, h5, calc.sg]
theorem av_20 (x y : Lv) : av 2 0 x y = calc.sg y.s0 x.s0 := by unfold av fv fw lvi; simp
theorem av_21 (x y : Lv) : av 2 1 x y = calc.sg y.s1 x.s1 := by unfold av fv fw lvi; simp
theorem av_30 (x y : Lv) : av 3 0 x y = calc.sg y.a0 x.a0 := by unfold av fv fw lvi; simp
theorem av_31 (x y : Lv) : av 3 1 x y = calc.sg y.a1 x.a1 := by unfold av fv fw lvi; simp
theorem av_40 (x y : Lv) : av 4 0 x y = calc.sg y.b0 x.b0 := by unfold av fv fw lvi; simp
theorem av_41 (x y : Lv) : av 4 1 x y = calc.sg y.b1 x.b1 := by unfold av fv fw lvi; simp
theorem av_50 (x y : Lv) : av 5 0 x y = calc.sg (y.s0 * mx1 x.n) (x.s0 * mx1 y.n) := by unfold av fv fw lvi; simp
theorem av_51 (x y : Lv) : av 5 1 x y = calc.sg (y.s1 * mx1 x.n) (x.s1 * mx1 y.n) := by unfold av fv fw lvi; simp
theorem ccmp_m (a b C : Int) (w : World) (hC : Hid (calc.sg a b = C)) : Calls Try.prog 71 #[.int .i64 a, .int .i64 b] w fun e w' => e = .returned (.int .i64 C) ∧ Below w.heap.size w w' := by
  refine (calc.cmpi_any a b w).mono ?_
  rintro e w' ⟨rfl, rfl⟩
  exact ⟨by rw [hC.out], Below.refl _ _⟩
theorem cCmp_m (a b c d C : Int) (w : World) (ha : I64 a) (hb : I64 b) (hc : I64 c) (hd : I64 d) (hC : Hid (calc.sg (a * b) (c * d) = C)) : Calls Try.prog 72 #[.int .i64 a, .int .i64 b, .int .i64 c, .int .i64 d] w fun e w' => e = .returned (.int .i64 C) ∧ Below w.heap.size w w' := by
  have := calc.cmp_any a b c d w ha hb hc hd
  rw [hC.out] at this
  exact this
theorem mx1_i64 {n : Int} (h : I64 n) : I64 (mx1 n) := by unfold I64 mx1 at *; omega
/-- Two lines in boxes. -/
theorem Kq.cell1 {w W : World} {cs ds : Array Value} {t t' : TypeId} {j : Nat} {v : Value} (h : Kq w W (.cells cs t) (.cells ds t')) (hj : cs[j]? = some v) : W.cell? ⟨w.heap.size, j, none⟩ = some v := kp_cell h.1 hj
theorem Kq.cell2 {w W : World} {cs ds : Array Value} {t t' : TypeId} {j : Nat} {v : Value} (h : Kq w W (.cells cs t) (.cells ds t')) (hj : ds[j]? = some v) : W.cell? ⟨w.heap.size + 1, j, none⟩ = some v := kp_cell h.2 hj

set_option maxHeartbeats 32000000 in
theorem cahead_m (f i : Int) (x y : Lv) (u0 u1 u2 u3 v0 v1 v2 v3 C : Int) (w : World) (hx : okl x) (hy : okl y) (hC : Hid (av f i x y = C)) :
    Calls Try.prog 28 #[.int .i64 f, .int .i64 i, .agg #[.int .u8 u0, .int .u8 u1, .int .u8 u2, .int .u8 u3, .int .i64 x.n, .int .i64 x.s0, .int .i64 x.s1, .int .i64 x.a0, .int .i64 x.a1, .int .i64 x.b0, .int .i64 x.b1], .agg #[.int .u8 v0, .int .u8 v1, .int .u8 v2, .int .u8 v3, .int .i64 y.n, .int .i64 y.s0, .int .i64 y.s1, .int .i64 y.a0, .int .i64 y.a1, .int .i64 y.b0, .int .i64 y.b1]] w fun e w' => e = .returned (.int .i64 C) ∧ Below w.heap.size w w' := by
  have HX := hid hx
  have HY := hid hy
  have HC := hC
  have K0 := hid (kq_new w (.cells #[.int .u8 u0, .int .u8 u1, .int .u8 u2, .int .u8 u3, .int .i64 x.n, .int .i64 x.s0, .int .i64 x.s1, .int .i64 x.a0, .int .i64 x.a1, .int .i64 x.b0, .int .i64 x.b1] 44) (.cells #[.int .u8 v0, .int .u8 v1, .int .u8 v2, .int .u8 v3, .int .i64 y.n, .int .i64 y.s0, .int .i64 y.s1, .int .i64 y.a0, .int .i64 y.a1, .int .i64 y.b0, .int .i64 y.b1] 44))
  clear hx hy hC
  by_cases h1 : f = 1
  · subst h1
    go_enter Try.func28, Try.ntmps28
    go_upto_region 1 with fail
    generalize (w.alloc (.cells #[.int .u8 u0, .int .u8 u1, .int .u8 u2, .int .u8 u3, .int .i64 x.n, .int .i64 x.s0, .int .i64 x.s1, .int .i64 x.a0, .int .i64 x.a1, .int .i64 x.b0, .int .i64 x.b1] 44)).alloc (.cells #[.int .u8 v0, .int .u8 v1, .int .u8 v2, .int .u8 v3, .int .i64 y.n, .int .i64 y.s0, .int .i64 y.s1, .int .i64 y.a0, .int .i64 y.a1, .int .i64 y.b0, .int .i64 y.b1] 44) = W at K0 ⊢
    have c1 := K0.out.cell1 (j := 4) (v := .int .i64 x.n) rfl
    have c2 := K0.out.cell2 (j := 4) (v := .int .i64 y.n) rfl
    go_wp2_with (go_at_call 71; refine (ccmp_m _ _ _ _ (hid rfl)).mono ?_; rintro e w1 ⟨rfl, hb1⟩)
    go_ret
    exact ⟨ret_int (by rw [← HC.out, av_1]), bt K0.out.1.1 hb1⟩
  · by_cases hi : i < 0 ∨ 2 ≤ i
    · have hf1 : (f == 1) = false := by simp [h1]
      have HV := hid (av_out h1 hi x y)
      by_cases hi0 : i < 0
      · have q1 : decide (i < 0) = true := decide_eq_true hi0
        clear h1 hi
        go_enter Try.func28, Try.ntmps28
        go_upto_region 1 with fail
        generalize (w.alloc (.cells #[.int .u8 u0, .int .u8 u1, .int .u8 u2, .int .u8 u3, .int .i64 x.n, .int .i64 x.s0, .int .i64 x.s1, .int .i64 x.a0, .int .i64 x.a1, .int .i64 x.b0, .int .i64 x.b1] 44)).alloc (.cells #[.int .u8 v0, .int .u8 v1, .int .u8 v2, .int .u8 v3, .int .i64 y.n, .int .i64 y.s0, .int .i64 y.s1, .int .i64 y.a0, .int .i64 y.a1, .int .i64 y.b0, .int .i64 y.b1] 44) = W at K0 ⊢
        go_wp2
        go_ret
        exact ⟨ret_int (by rw [← HC.out, HV.out]), K0.out.1.1⟩
      · have q1 : decide (i < 0) = false := decide_eq_false hi0
        have q2 : decide (2 ≤ i) = true := decide_eq_true (by omega)
        clear h1 hi
        go_enter Try.func28, Try.ntmps28
        go_upto_region 1 with fail
        generalize (w.alloc (.cells #[.int .u8 u0, .int .u8 u1, .int .u8 u2, .int .u8 u3, .int .i64 x.n, .int .i64 x.s0, .int .i64 x.s1, .int .i64 x.a0, .int .i64 x.a1, .int .i64 x.b0, .int .i64 x.b1] 44)).alloc (.cells #[.int .u8 v0, .int .u8 v1, .int .u8 v2, .int .u8 v3, .int .i64 y.n, .int .i64 y.s0, .int .i64 y.s1, .int .i64 y.a0, .int .i64 y.a1, .int .i64 y.b0, .int .i64 y.b1] 44) = W at K0 ⊢
        go_wp2
        go_ret
        exact ⟨ret_int (by rw [← HC.out, HV.out]), K0.out.1.1⟩
    · have hi2 : i = 0 ∨ i = 1 := by omega
      clear hi
      by_cases h2 : f = 2
      · subst h2
        rcases hi2 with rfl | rfl
        · skip
          go_enter Try.func28, Try.ntmps28
          go_upto_region 1 with fail
          generalize (w.alloc (.cells #[.int .u8 u0, .int .u8 u1, .int .u8 u2, .int .u8 u3, .int .i64 x.n, .int .i64 x.s0, .int .i64 x.s1, .int .i64 x.a0, .int .i64 x.a1, .int .i64 x.b0, .int .i64 x.b1] 44)).alloc (.cells #[.int .u8 v0, .int .u8 v1, .int .u8 v2, .int .u8 v3, .int .i64 y.n, .int .i64 y.s0, .int .i64 y.s1, .int .i64 y.a0, .int .i64 y.a1, .int .i64 y.b0, .int .i64 y.b1] 44) = W at K0 ⊢
          have KS : Hid (∀ z, Below W.heap.size W z → Below W.heap.size W z ∧ z.cell? ⟨w.heap.size + 1, 5, none⟩ = some (.int .i64 y.s0) ∧ z.cell? ⟨w.heap.size, 5, none⟩ = some (.int .i64 x.s0)) := hid (fun z hb => ⟨hb, (K0.out.step hb).cell2 rfl, (K0.out.step hb).cell1 rfl⟩)
          go_wp2
          go_region_held3 (fun z => Below W.heap.size W z ∧ z.cell? ⟨w.heap.size + 1, 5, none⟩ = some (.int .i64 y.s0) ∧ z.cell? ⟨w.heap.size, 5, none⟩ = some (.int .i64 x.s0))
            (first | assumption | exact keep_drew KS | exact keep_step (by assumption) (by assumption) KS)
            (first
              | (go_at_call 71; refine (ccmp_m _ _ _ _ (hid rfl)).mono ?_; rintro e w1 ⟨rfl, hb1⟩)
            )
          go_wp2
          go_ret
          exact ⟨ret_int (by rw [← HC.out, av_20]), bt K0.out.1.1 (undrew hb1)⟩
        · skip
          go_enter Try.func28, Try.ntmps28
          go_upto_region 1 with fail
          generalize (w.alloc (.cells #[.int .u8 u0, .int .u8 u1, .int .u8 u2, .int .u8 u3, .int .i64 x.n, .int .i64 x.s0, .int .i64 x.s1, .int .i64 x.a0, .int .i64 x.a1, .int .i64 x.b0, .int .i64 x.b1] 44)).alloc (.cells #[.int .u8 v0, .int .u8 v1, .int .u8 v2, .int .u8 v3, .int .i64 y.n, .int .i64 y.s0, .int .i64 y.s1, .int .i64 y.a0, .int .i64 y.a1, .int .i64 y.b0, .int .i64 y.b1] 44) = W at K0 ⊢
          have KS : Hid (∀ z, Below W.heap.size W z → Below W.heap.size W z ∧ z.cell? ⟨w.heap.size + 1, 6, none⟩ = some (.int .i64 y.s1) ∧ z.cell? ⟨w.heap.size, 6, none⟩ = some (.int .i64 x.s1)) := hid (fun z hb => ⟨hb, (K0.out.step hb).cell2 rfl, (K0.out.step hb).cell1 rfl⟩)
          go_wp2
          go_region_held3 (fun z => Below W.heap.size W z ∧ z.cell? ⟨w.heap.size + 1, 6, none⟩ = some (.int .i64 y.s1) ∧ z.cell? ⟨w.heap.size, 6, none⟩ = some (.int .i64 x.s1))
            (first | assumption | exact keep_drew KS | exact keep_step (by assumption) (by assumption) KS)
            (first
              | (go_at_call 71; refine (ccmp_m _ _ _ _ (hid rfl)).mono ?_; rintro e w1 ⟨rfl, hb1⟩)
            )
          go_wp2
          go_ret
          exact ⟨ret_int (by rw [← HC.out, av_21]), bt K0.out.1.1 (undrew hb1)⟩
      · skip
        by_cases h3 : f = 3
        · subst h3
          rcases hi2 with rfl | rfl
          · skip
            go_enter Try.func28, Try.ntmps28
            go_upto_region 1 with fail
            generalize (w.alloc (.cells #[.int .u8 u0, .int .u8 u1, .int .u8 u2, .int .u8 u3, .int .i64 x.n, .int .i64 x.s0, .int .i64 x.s1, .int .i64 x.a0, .int .i64 x.a1, .int .i64 x.b0, .int .i64 x.b1] 44)).alloc (.cells #[.int .u8 v0, .int .u8 v1, .int .u8 v2, .int .u8 v3, .int .i64 y.n, .int .i64 y.s0, .int .i64 y.s1, .int .i64 y.a0, .int .i64 y.a1, .int .i64 y.b0, .int .i64 y.b1] 44) = W at K0 ⊢
            have KS : Hid (∀ z, Below W.heap.size W z → Below W.heap.size W z ∧ z.cell? ⟨w.heap.size + 1, 7, none⟩ = some (.int .i64 y.a0) ∧ z.cell? ⟨w.heap.size, 7, none⟩ = some (.int .i64 x.a0)) := hid (fun z hb => ⟨hb, (K0.out.step hb).cell2 rfl, (K0.out.step hb).cell1 rfl⟩)
            go_wp2
            go_region_held3 (fun z => Below W.heap.size W z ∧ z.cell? ⟨w.heap.size + 1, 7, none⟩ = some (.int .i64 y.a0) ∧ z.cell? ⟨w.heap.size, 7, none⟩ = some (.int .i64 x.a0))
              (first | assumption | exact keep_drew KS | exact keep_step (by assumption) (by assumption) KS)
              (first
                | (go_at_call 71; refine (ccmp_m _ _ _ _ (hid rfl)).mono ?_; rintro e w1 ⟨rfl, hb1⟩)
              )
            go_wp2
            go_ret
            exact ⟨ret_int (by rw [← HC.out, av_30]), bt K0.out.1.1 (undrew hb1)⟩
          · skip
            go_enter Try.func28, Try.ntmps28
            go_upto_region 1 with fail
            generalize (w.alloc (.cells #[.int .u8 u0, .int .u8 u1, .int .u8 u2, .int .u8 u3, .int .i64 x.n, .int .i64 x.s0, .int .i64 x.s1, .int .i64 x.a0, .int .i64 x.a1, .int .i64 x.b0, .int .i64 x.b1] 44)).alloc (.cells #[.int .u8 v0, .int .u8 v1, .int .u8 v2, .int .u8 v3, .int .i64 y.n, .int .i64 y.s0, .int .i64 y.s1, .int .i64 y.a0, .int .i64 y.a1, .int .i64 y.b0, .int .i64 y.b1] 44) = W at K0 ⊢
            have KS : Hid (∀ z, Below W.heap.size W z → Below W.heap.size W z ∧ z.cell? ⟨w.heap.size + 1, 8, none⟩ = some (.int .i64 y.a1) ∧ z.cell? ⟨w.heap.size, 8, none⟩ = some (.int .i64 x.a1)) := hid (fun z hb => ⟨hb, (K0.out.step hb).cell2 rfl, (K0.out.step hb).cell1 rfl⟩)
            go_wp2
            go_region_held3 (fun z => Below W.heap.size W z ∧ z.cell? ⟨w.heap.size + 1, 8, none⟩ = some (.int .i64 y.a1) ∧ z.cell? ⟨w.heap.size, 8, none⟩ = some (.int .i64 x.a1))
              (first | assumption | exact keep_drew KS | exact keep_step (by assumption) (by assumption) KS)
              (first
                | (go_at_call 71; refine (ccmp_m _ _ _ _ (hid rfl)).mono ?_; rintro e w1 ⟨rfl, hb1⟩)
              )
            go_wp2
            go_ret
            exact ⟨ret_int (by rw [← HC.out, av_31]), bt K0.out.1.1 (undrew hb1)⟩
        · skip
          by_cases h4 : f = 4
          · subst h4
            rcases hi2 with rfl | rfl
            · skip
              go_enter Try.func28, Try.ntmps28
              go_upto_region 1 with fail
              generalize (w.alloc (.cells #[.int .u8 u0, .int .u8 u1, .int .u8 u2, .int .u8 u3, .int .i64 x.n, .int .i64 x.s0, .int .i64 x.s1, .int .i64 x.a0, .int .i64 x.a1, .int .i64 x.b0, .int .i64 x.b1] 44)).alloc (.cells #[.int .u8 v0, .int .u8 v1, .int .u8 v2, .int .u8 v3, .int .i64 y.n, .int .i64 y.s0, .int .i64 y.s1, .int .i64 y.a0, .int .i64 y.a1, .int .i64 y.b0, .int .i64 y.b1] 44) = W at K0 ⊢
              have KS : Hid (∀ z, Below W.heap.size W z → Below W.heap.size W z ∧ z.cell? ⟨w.heap.size + 1, 9, none⟩ = some (.int .i64 y.b0) ∧ z.cell? ⟨w.heap.size, 9, none⟩ = some (.int .i64 x.b0)) := hid (fun z hb => ⟨hb, (K0.out.step hb).cell2 rfl, (K0.out.step hb).cell1 rfl⟩)
              go_wp2
              go_region_held3 (fun z => Below W.heap.size W z ∧ z.cell? ⟨w.heap.size + 1, 9, none⟩ = some (.int .i64 y.b0) ∧ z.cell? ⟨w.heap.size, 9, none⟩ = some (.int .i64 x.b0))
                (first | assumption | exact keep_drew KS | exact keep_step (by assumption) (by assumption) KS)
                (first
                  | (go_at_call 71; refine (ccmp_m _ _ _ _ (hid rfl)).mono ?_; rintro e w1 ⟨rfl, hb1⟩)
                )
              go_wp2
              go_ret
              exact ⟨ret_int (by rw [← HC.out, av_40]), bt K0.out.1.1 (undrew hb1)⟩
            · skip
              go_enter Try.func28, Try.ntmps28
              go_upto_region 1 with fail
              generalize (w.alloc (.cells #[.int .u8 u0, .int .u8 u1, .int .u8 u2, .int .u8 u3, .int .i64 x.n, .int .i64 x.s0, .int .i64 x.s1, .int .i64 x.a0, .int .i64 x.a1, .int .i64 x.b0, .int .i64 x.b1] 44)).alloc (.cells #[.int .u8 v0, .int .u8 v1, .int .u8 v2, .int .u8 v3, .int .i64 y.n, .int .i64 y.s0, .int .i64 y.s1, .int .i64 y.a0, .int .i64 y.a1, .int .i64 y.b0, .int .i64 y.b1] 44) = W at K0 ⊢
              have KS : Hid (∀ z, Below W.heap.size W z → Below W.heap.size W z ∧ z.cell? ⟨w.heap.size + 1, 10, none⟩ = some (.int .i64 y.b1) ∧ z.cell? ⟨w.heap.size, 10, none⟩ = some (.int .i64 x.b1)) := hid (fun z hb => ⟨hb, (K0.out.step hb).cell2 rfl, (K0.out.step hb).cell1 rfl⟩)
              go_wp2
              go_region_held3 (fun z => Below W.heap.size W z ∧ z.cell? ⟨w.heap.size + 1, 10, none⟩ = some (.int .i64 y.b1) ∧ z.cell? ⟨w.heap.size, 10, none⟩ = some (.int .i64 x.b1))
                (first | assumption | exact keep_drew KS | exact keep_step (by assumption) (by assumption) KS)
                (first
                  | (go_at_call 71; refine (ccmp_m _ _ _ _ (hid rfl)).mono ?_; rintro e w1 ⟨rfl, hb1⟩)
                )
              go_wp2
              go_ret
              exact ⟨ret_int (by rw [← HC.out, av_41]), bt K0.out.1.1 (undrew hb1)⟩
          · skip
            by_cases h5 : f = 5
            · subst h5
              obtain ⟨X, hX⟩ : ∃ z, mx1 x.n = z := ⟨_, rfl⟩
              obtain ⟨Y, hY⟩ : ∃ z, mx1 y.n = z := ⟨_, rfl⟩
              have eX : max x.n 1 = X := hX
              have eY : max y.n 1 = Y := hY
              have IX : Hid (I64 X) := hid (by rw [← hX]; exact mx1_i64 HX.out.1)
              have IY : Hid (I64 Y) := hid (by rw [← hY]; exact mx1_i64 HY.out.1)
              have FX := hid hX
              have FY := hid hY
              clear hX hY
              rcases hi2 with rfl | rfl
              · skip
                go_enter Try.func28, Try.ntmps28
                go_upto_region 1 with fail
                generalize (w.alloc (.cells #[.int .u8 u0, .int .u8 u1, .int .u8 u2, .int .u8 u3, .int .i64 x.n, .int .i64 x.s0, .int .i64 x.s1, .int .i64 x.a0, .int .i64 x.a1, .int .i64 x.b0, .int .i64 x.b1] 44)).alloc (.cells #[.int .u8 v0, .int .u8 v1, .int .u8 v2, .int .u8 v3, .int .i64 y.n, .int .i64 y.s0, .int .i64 y.s1, .int .i64 y.a0, .int .i64 y.a1, .int .i64 y.b0, .int .i64 y.b1] 44) = W at K0 ⊢
                have KS : Hid (∀ z, Below W.heap.size W z → (fun z => Below W.heap.size W z ∧ z.cell? ⟨w.heap.size + 1, 5, none⟩ = some (.int .i64 y.s0) ∧ z.cell? ⟨w.heap.size, 4, none⟩ = some (.int .i64 x.n) ∧ z.cell? ⟨w.heap.size, 5, none⟩ = some (.int .i64 x.s0) ∧ z.cell? ⟨w.heap.size + 1, 4, none⟩ = some (.int .i64 y.n)) z) := hid (fun z hb => ⟨hb, (K0.out.step hb).cell2 rfl, (K0.out.step hb).cell1 rfl, (K0.out.step hb).cell1 rfl, (K0.out.step hb).cell2 rfl⟩)
                go_wp2
                refine wp_region_noPanic ?_
                refine wp_region_held_drew (S := fun z => Below W.heap.size W z ∧ z.cell? ⟨w.heap.size + 1, 5, none⟩ = some (.int .i64 y.s0) ∧ z.cell? ⟨w.heap.size, 4, none⟩ = some (.int .i64 x.n) ∧ z.cell? ⟨w.heap.size, 5, none⟩ = some (.int .i64 x.s0) ∧ z.cell? ⟨w.heap.size + 1, 4, none⟩ = some (.int .i64 y.n)) (by kernel_rfl) (keep_drew KS) (fun hHeld => ?_)
                refine tk 0 (v := ?_) ?_ ?_
                rotate_left
                · intro w hSw; (try dsimp only at hSw); go_simp; (try with_reducible rfl)
                try simp only [Act.put, List.setIfInBounds_toArray, List.set_cons_zero, List.set_cons_succ]
                refine tk 1 (v := ?_) ?_ ?_
                rotate_left
                · intro w hSw; (try dsimp only at hSw); go_simp; (try with_reducible rfl)
                try simp only [Act.put, List.setIfInBounds_toArray, List.set_cons_zero, List.set_cons_succ]
                refine tk 2 (v := ?_) ?_ ?_
                rotate_left
                · intro w hSw; (try dsimp only at hSw); go_simp; (try with_reducible rfl)
                try simp only [Act.put, List.setIfInBounds_toArray, List.set_cons_zero, List.set_cons_succ]
                refine tk 3 (v := ?_) ?_ ?_
                rotate_left
                · intro w hSw; (try dsimp only at hSw); go_simp; (try with_reducible rfl)
                try simp only [Act.put, List.setIfInBounds_toArray, List.set_cons_zero, List.set_cons_succ]
                refine tk 4 (v := ?_) ?_ ?_
                rotate_left
                · intro w hSw; (try dsimp only at hSw); go_simp; (try with_reducible rfl)
                try simp only [Act.put, List.setIfInBounds_toArray, List.set_cons_zero, List.set_cons_succ]
                refine tk 5 (v := ?_) ?_ ?_
                rotate_left
                · intro w hSw; (try dsimp only at hSw); go_simp; (try with_reducible rfl)
                try simp only [Act.put, List.setIfInBounds_toArray, List.set_cons_zero, List.set_cons_succ]
                refine tk 6 (v := ?_) ?_ ?_
                rotate_left
                · intro w hSw; (try dsimp only at hSw); go_simp; (try with_reducible rfl)
                try simp only [Act.put, List.setIfInBounds_toArray, List.set_cons_zero, List.set_cons_succ]
                refine tk 7 (v := ?_) ?_ ?_
                rotate_left
                · intro w hSw; (try dsimp only at hSw); go_simp; (try with_reducible rfl)
                try simp only [Act.put, List.setIfInBounds_toArray, List.set_cons_zero, List.set_cons_succ]
                refine tk 8 (v := ?_) ?_ ?_
                rotate_left
                · intro w hSw; (try dsimp only at hSw); go_simp; (try with_reducible rfl)
                try simp only [Act.put, List.setIfInBounds_toArray, List.set_cons_zero, List.set_cons_succ]
                refine tk 9 (v := ?_) ?_ ?_
                rotate_left
                · intro w hSw; (try dsimp only at hSw); go_simp; (try with_reducible rfl)
                try simp only [Act.put, List.setIfInBounds_toArray, List.set_cons_zero, List.set_cons_succ]
                refine tk 10 (v := ?_) ?_ ?_
                rotate_left
                · intro w hSw; (try dsimp only at hSw); go_simp; (try with_reducible rfl)
                try simp only [Act.put, List.setIfInBounds_toArray, List.set_cons_zero, List.set_cons_succ]
                refine tk 11 (v := ?_) ?_ ?_
                rotate_left
                · intro w hSw; (try dsimp only at hSw); go_simp; (try with_reducible rfl)
                try simp only [Act.put, List.setIfInBounds_toArray, List.set_cons_zero, List.set_cons_succ]
                refine tk 12 (v := ?_) ?_ ?_
                rotate_left
                · intro w hSw; (try dsimp only at hSw); go_simp; (try with_reducible rfl)
                try simp only [Act.put, List.setIfInBounds_toArray, List.set_cons_zero, List.set_cons_succ]
                refine tk 13 (v := ?_) ?_ ?_
                rotate_left
                · intro w hSw; (try dsimp only at hSw); go_simp; (try with_reducible rfl)
                try simp only [Act.put, List.setIfInBounds_toArray, List.set_cons_zero, List.set_cons_succ]
                refine rd1 14 (fun K hK => ?_)
                go_simp
                go_at_call 72; refine (cCmp_m _ _ _ _ _ _ HY.out.2.1.1 IX.out HX.out.2.1.1 IY.out (hid rfl)).mono ?_; rintro e w1 ⟨rfl, hb1⟩
                refine hK.out _ _ (keep_step hb1 hHeld KS) (fun hHeld2 => ?_)
                clear hK K hHeld; have hHeld := hHeld2; clear hHeld2
                try simp only [Act.put, List.setIfInBounds_toArray, List.set_cons_zero, List.set_cons_succ]
                refine tk 15 (v := ?_) ?_ ?_
                rotate_left
                · intro w hSw; (try dsimp only at hSw); go_simp; (try with_reducible rfl)
                try simp only [Act.put, List.setIfInBounds_toArray, List.set_cons_zero, List.set_cons_succ]
                refine wpAnyH_done (by kernel_rfl) ?_ _
                refine NoPanic.normal ?_
                go_wp2
                go_ret
                exact ⟨ret_int (by rw [← HC.out, av_50, FX.out, FY.out]), bt K0.out.1.1 (undrew hb1)⟩
              · skip
                go_enter Try.func28, Try.ntmps28
                go_upto_region 1 with fail
                generalize (w.alloc (.cells #[.int .u8 u0, .int .u8 u1, .int .u8 u2, .int .u8 u3, .int .i64 x.n, .int .i64 x.s0, .int .i64 x.s1, .int .i64 x.a0, .int .i64 x.a1, .int .i64 x.b0, .int .i64 x.b1] 44)).alloc (.cells #[.int .u8 v0, .int .u8 v1, .int .u8 v2, .int .u8 v3, .int .i64 y.n, .int .i64 y.s0, .int .i64 y.s1, .int .i64 y.a0, .int .i64 y.a1, .int .i64 y.b0, .int .i64 y.b1] 44) = W at K0 ⊢
                have KS : Hid (∀ z, Below W.heap.size W z → (fun z => Below W.heap.size W z ∧ z.cell? ⟨w.heap.size + 1, 6, none⟩ = some (.int .i64 y.s1) ∧ z.cell? ⟨w.heap.size, 4, none⟩ = some (.int .i64 x.n) ∧ z.cell? ⟨w.heap.size, 6, none⟩ = some (.int .i64 x.s1) ∧ z.cell? ⟨w.heap.size + 1, 4, none⟩ = some (.int .i64 y.n)) z) := hid (fun z hb => ⟨hb, (K0.out.step hb).cell2 rfl, (K0.out.step hb).cell1 rfl, (K0.out.step hb).cell1 rfl, (K0.out.step hb).cell2 rfl⟩)
                go_wp2
                refine wp_region_noPanic ?_
                refine wp_region_held_drew (S := fun z => Below W.heap.size W z ∧ z.cell? ⟨w.heap.size + 1, 6, none⟩ = some (.int .i64 y.s1) ∧ z.cell? ⟨w.heap.size, 4, none⟩ = some (.int .i64 x.n) ∧ z.cell? ⟨w.heap.size, 6, none⟩ = some (.int .i64 x.s1) ∧ z.cell? ⟨w.heap.size + 1, 4, none⟩ = some (.int .i64 y.n)) (by kernel_rfl) (keep_drew KS) (fun hHeld => ?_)
                refine tk 0 (v := ?_) ?_ ?_
                rotate_left
                · intro w hSw; (try dsimp only at hSw); go_simp; (try with_reducible rfl)
                try simp only [Act.put, List.setIfInBounds_toArray, List.set_cons_zero, List.set_cons_succ]
                refine tk 1 (v := ?_) ?_ ?_
                rotate_left
                · intro w hSw; (try dsimp only at hSw); go_simp; (try with_reducible rfl)
                try simp only [Act.put, List.setIfInBounds_toArray, List.set_cons_zero, List.set_cons_succ]
                refine tk 2 (v := ?_) ?_ ?_
                rotate_left
                · intro w hSw; (try dsimp only at hSw); go_simp; (try with_reducible rfl)
                try simp only [Act.put, List.setIfInBounds_toArray, List.set_cons_zero, List.set_cons_succ]
                refine tk 3 (v := ?_) ?_ ?_
                rotate_left
                · intro w hSw; (try dsimp only at hSw); go_simp; (try with_reducible rfl)
                try simp only [Act.put, List.setIfInBounds_toArray, List.set_cons_zero, List.set_cons_succ]
                refine tk 4 (v := ?_) ?_ ?_
                rotate_left
                · intro w hSw; (try dsimp only at hSw); go_simp; (try with_reducible rfl)
                try simp only [Act.put, List.setIfInBounds_toArray, List.set_cons_zero, List.set_cons_succ]
                refine tk 5 (v := ?_) ?_ ?_
                rotate_left
                · intro w hSw; (try dsimp only at hSw); go_simp; (try with_reducible rfl)
                try simp only [Act.put, List.setIfInBounds_toArray, List.set_cons_zero, List.set_cons_succ]
                refine tk 6 (v := ?_) ?_ ?_
                rotate_left
                · intro w hSw; (try dsimp only at hSw); go_simp; (try with_reducible rfl)
                try simp only [Act.put, List.setIfInBounds_toArray, List.set_cons_zero, List.set_cons_succ]
                refine tk 7 (v := ?_) ?_ ?_
                rotate_left
                · intro w hSw; (try dsimp only at hSw); go_simp; (try with_reducible rfl)
                try simp only [Act.put, List.setIfInBounds_toArray, List.set_cons_zero, List.set_cons_succ]
                refine tk 8 (v := ?_) ?_ ?_
                rotate_left
                · intro w hSw; (try dsimp only at hSw); go_simp; (try with_reducible rfl)
                try simp only [Act.put, List.setIfInBounds_toArray, List.set_cons_zero, List.set_cons_succ]
                refine tk 9 (v := ?_) ?_ ?_
                rotate_left
                · intro w hSw; (try dsimp only at hSw); go_simp; (try with_reducible rfl)
                try simp only [Act.put, List.setIfInBounds_toArray, List.set_cons_zero, List.set_cons_succ]
                refine tk 10 (v := ?_) ?_ ?_
                rotate_left
                · intro w hSw; (try dsimp only at hSw); go_simp; (try with_reducible rfl)
                try simp only [Act.put, List.setIfInBounds_toArray, List.set_cons_zero, List.set_cons_succ]
                refine tk 11 (v := ?_) ?_ ?_
                rotate_left
                · intro w hSw; (try dsimp only at hSw); go_simp; (try with_reducible rfl)
                try simp only [Act.put, List.setIfInBounds_toArray, List.set_cons_zero, List.set_cons_succ]
                refine tk 12 (v := ?_) ?_ ?_
                rotate_left
                · intro w hSw; (try dsimp only at hSw); go_simp; (try with_reducible rfl)
                try simp only [Act.put, List.setIfInBounds_toArray, List.set_cons_zero, List.set_cons_succ]
                refine tk 13 (v := ?_) ?_ ?_
                rotate_left
                · intro w hSw; (try dsimp only at hSw); go_simp; (try with_reducible rfl)
                try simp only [Act.put, List.setIfInBounds_toArray, List.set_cons_zero, List.set_cons_succ]
                refine rd1 14 (fun K hK => ?_)
                go_simp
                go_at_call 72; refine (cCmp_m _ _ _ _ _ _ HY.out.2.1.2 IX.out HX.out.2.1.2 IY.out (hid rfl)).mono ?_; rintro e w1 ⟨rfl, hb1⟩
                refine hK.out _ _ (keep_step hb1 hHeld KS) (fun hHeld2 => ?_)
                clear hK K hHeld; have hHeld := hHeld2; clear hHeld2
                try simp only [Act.put, List.setIfInBounds_toArray, List.set_cons_zero, List.set_cons_succ]
                refine tk 15 (v := ?_) ?_ ?_
                rotate_left
                · intro w hSw; (try dsimp only at hSw); go_simp; (try with_reducible rfl)
                try simp only [Act.put, List.setIfInBounds_toArray, List.set_cons_zero, List.set_cons_succ]
                refine wpAnyH_done (by kernel_rfl) ?_ _
                refine NoPanic.normal ?_
                go_wp2
                go_ret
                exact ⟨ret_int (by rw [← HC.out, av_51, FX.out, FY.out]), bt K0.out.1.1 (undrew hb1)⟩
            · have HV := hid (av_none (i := i) h1 h2 h3 h4 h5 x y)
              have e1 : (f == 1) = false := by simp [h1]
              have e2 : (f == 2) = false := by simp [h2]
              have e3 : (f == 3) = false := by simp [h3]
              have e4 : (f == 4) = false := by simp [h4]
              have e5 : (f == 5) = false := by simp [h5]
              clear h1 h2 h3 h4 h5
              rcases hi2 with rfl | rfl
              · skip
                go_enter Try.func28, Try.ntmps28
                go_upto_region 1 with fail
                generalize (w.alloc (.cells #[.int .u8 u0, .int .u8 u1, .int .u8 u2, .int .u8 u3, .int .i64 x.n, .int .i64 x.s0, .int .i64 x.s1, .int .i64 x.a0, .int .i64 x.a1, .int .i64 x.b0, .int .i64 x.b1] 44)).alloc (.cells #[.int .u8 v0, .int .u8 v1, .int .u8 v2, .int .u8 v3, .int .i64 y.n, .int .i64 y.s0, .int .i64 y.s1, .int .i64 y.a0, .int .i64 y.a1, .int .i64 y.b0, .int .i64 y.b1] 44) = W at K0 ⊢
                go_wp2
                go_ret
                exact ⟨ret_int (by rw [← HC.out, HV.out]), K0.out.1.1⟩
              · skip
                go_enter Try.func28, Try.ntmps28
                go_upto_region 1 with fail
                generalize (w.alloc (.cells #[.int .u8 u0, .int .u8 u1, .int .u8 u2, .int .u8 u3, .int .i64 x.n, .int .i64 x.s0, .int .i64 x.s1, .int .i64 x.a0, .int .i64 x.a1, .int .i64 x.b0, .int .i64 x.b1] 44)).alloc (.cells #[.int .u8 v0, .int .u8 v1, .int .u8 v2, .int .u8 v3, .int .i64 y.n, .int .i64 y.s0, .int .i64 y.s1, .int .i64 y.a0, .int .i64 y.a1, .int .i64 y.b0, .int .i64 y.b1] 44) = W at K0 ⊢
                go_wp2
                go_ret
                exact ⟨ret_int (by rw [← HC.out, HV.out]), K0.out.1.1⟩

end Go.Proofs.Ytjkkajhjcinalaa

namespace Go.Proofs.Ytjkkajhjcinalaa
open Go.ChangeShapes Go.WideShapes Go.ChangeAt Go.RowKit
set_option linter.unusedVariables false
set_option linter.unusedSimpArgs false
set_option maxRecDepth 100000

set_option maxHeartbeats 32000000 in
theorem cline_any (m x0 x1 x2 x3 : Int) (c : Cl) (a0 : Option Addr) (p0 k0 : Nat) (a1 : Option Addr) (p1 k1 : Nat) (w : World) (hw : CW w a0 p0 k0 a1 p1 k1 c) (hk : okc c) :
    Calls Try.prog 21 #[.int .i64 m, .agg #[.int .u8 x0, .int .u8 x1, .int .u8 x2, .int .u8 x3], .agg #[.int .i64 c.n, .int .i64 c.s0, .int .i64 c.s1, .slice a0 p0 k0, .slice a1 p1 k1]] w fun e w' => e = .returned (lineV m x0 x1 x2 x3 c) ∧ Below w.heap.size w w' := by
  have HW := hid hw
  have HK := hid hk
  obtain ⟨l1, l2⟩ := hw.1.lens
  obtain ⟨u1, u2⟩ := hw.2.lens
  have E0 := hid l1
  have E1 := hid u1
  clear hw hk l1 u1
  have KA0 : Hid (Kp w (((w.alloc (.cells #[.int .u8 x0, .int .u8 x1, .int .u8 x2, .int .u8 x3] 28)).alloc (.cells #[.int .i64 c.n, .int .i64 c.s0, .int .i64 c.s1, .slice a0 p0 k0, .slice a1 p1 k1] 26)).alloc (.cells #[.int .u8 0, .int .u8 0, .int .u8 0, .int .u8 0, .int .i64 0, .int .i64 0, .int .i64 0, .int .i64 0, .int .i64 0, .int .i64 0, .int .i64 0] 44)) w.heap.size (.cells #[.int .u8 x0, .int .u8 x1, .int .u8 x2, .int .u8 x3] 28)) := hid (kp_alloc (kp_alloc (kp_new w _) _) _)
  have KC0 : Hid (Kp w (((w.alloc (.cells #[.int .u8 x0, .int .u8 x1, .int .u8 x2, .int .u8 x3] 28)).alloc (.cells #[.int .i64 c.n, .int .i64 c.s0, .int .i64 c.s1, .slice a0 p0 k0, .slice a1 p1 k1] 26)).alloc (.cells #[.int .u8 0, .int .u8 0, .int .u8 0, .int .u8 0, .int .i64 0, .int .i64 0, .int .i64 0, .int .i64 0, .int .i64 0, .int .i64 0, .int .i64 0] 44)) (w.heap.size + 1) (.cells #[.int .i64 c.n, .int .i64 c.s0, .int .i64 c.s1, .slice a0 p0 k0, .slice a1 p1 k1] 26)) := hid (kp_alloc (kp_new2 (b1alloc _ _) _ _ (by simp)) _)
  have KR0 : Hid (Kp w (((w.alloc (.cells #[.int .u8 x0, .int .u8 x1, .int .u8 x2, .int .u8 x3] 28)).alloc (.cells #[.int .i64 c.n, .int .i64 c.s0, .int .i64 c.s1, .slice a0 p0 k0, .slice a1 p1 k1] 26)).alloc (.cells #[.int .u8 0, .int .u8 0, .int .u8 0, .int .u8 0, .int .i64 0, .int .i64 0, .int .i64 0, .int .i64 0, .int .i64 0, .int .i64 0, .int .i64 0] 44)) (w.heap.size + 1 + 1) (.cells #[.int .u8 0, .int .u8 0, .int .u8 0, .int .u8 0, .int .i64 0, .int .i64 0, .int .i64 0, .int .i64 0, .int .i64 0, .int .i64 0, .int .i64 0] 44)) := hid (kp_new2 (bt (b1alloc _ _) (b1alloc _ _)) _ _ (by simp))
  cases hg : cg m c with
  | false =>
    rw [lineV_no hg]
    have HG := hid hg
    clear hg
    go_enter Try.func21, Try.ntmps21
    go_upto_region 1 with fail
    generalize ((w.alloc (.cells #[.int .u8 x0, .int .u8 x1, .int .u8 x2, .int .u8 x3] 28)).alloc (.cells #[.int .i64 c.n, .int .i64 c.s0, .int .i64 c.s1, .slice a0 p0 k0, .slice a1 p1 k1] 26)).alloc (.cells #[.int .u8 0, .int .u8 0, .int .u8 0, .int .u8 0, .int .i64 0, .int .i64 0, .int .i64 0, .int .i64 0, .int .i64 0, .int .i64 0, .int .i64 0] 44) = W0 at KA0 KC0 KR0 ⊢
    obtain ⟨d0, d1, d2, d3, d4⟩ := box_five KC0.out.2.2
    go_upto_region 2 with (go_at_call 19; refine (cgood_m _ _ _ _ _ _ _ _ false _ (HW.out.below KC0.out.1) HK.out HG).mono ?_; rintro e w1 ⟨rfl, hb1⟩; have KC1 := hid (KC0.out.step hb1); have KA1 := hid (KA0.out.step hb1); have KR1 := hid (KR0.out.step hb1); clear hb1 d0 d1 d2 d3 d4)
    obtain ⟨N2, hN2⟩ : ∃ y, w.heap.size + 1 + 1 = y := ⟨_, rfl⟩
    rw [hN2] at KR1 ⊢
    clear hN2
    go_wp2_with (refine wpList_store_whole rfl 44 (.tmp 6) (.tmp 14) rfl N2 (lnC 0 0 0 0 0 0 0 0 0 0 0) rfl rfl 44 _ KR1.out.2.2 rfl (by show _ = some 11; exact size_ln) (lnC_one _ _ _ _ _ _ _ _ _ _ _) ?_; intro w2 hp2 hg2; have KR2 := hid (kp_at KR1.out hg2 hp2); clear hp2 hg2)
    (try simp only [Exit.inBlock, Exit.then])
    show bodyPost Try.prog Try.f21 _ _ _ _
    refine bodyPost_ret (results_cell_row (p := 6) rfl _ _ N2 _ (lnC 0 0 0 0 0 0 0 0 0 0 0) (0, 0) _ rfl KR2.out.2.2 Try.underlying44 rfl (by kernel_rfl)) rfl ?_
    exact ⟨rfl, KR2.out.1⟩
  | true =>
    have HG := hid hg
    have HCG := hid (cg_iff.1 hg)
    have R0 := hid (rk_hase HCG.out.2.1 HCG.out.1.1)
    obtain ⟨z0, ez0⟩ : ∃ y, mn c.b0 = y := ⟨_, rfl⟩
    obtain ⟨y0, ey0⟩ : ∃ y, mx c.b0 = y := ⟨_, rfl⟩
    have Q0 := hid (R0.out.1.trans ez0)
    have P0 := hid (R0.out.2.1.trans ey0)
    have T0 := hid R0.out.2.2
    rcases cg_m hg with rfl | rfl
    · rw [lineV_1 hg, ez0, ey0]
      clear hg ez0 ey0
      go_enter Try.func21, Try.ntmps21
      go_upto_region 1 with fail
      generalize ((w.alloc (.cells #[.int .u8 x0, .int .u8 x1, .int .u8 x2, .int .u8 x3] 28)).alloc (.cells #[.int .i64 c.n, .int .i64 c.s0, .int .i64 c.s1, .slice a0 p0 k0, .slice a1 p1 k1] 26)).alloc (.cells #[.int .u8 0, .int .u8 0, .int .u8 0, .int .u8 0, .int .i64 0, .int .i64 0, .int .i64 0, .int .i64 0, .int .i64 0, .int .i64 0, .int .i64 0] 44) = W0 at KA0 KC0 KR0 ⊢
      obtain ⟨d0, d1, d2, d3, d4⟩ := box_five KC0.out.2.2
      go_upto_region 3 with (go_at_call 19; refine (cgood_m _ _ _ _ _ _ _ _ true _ (HW.out.below KC0.out.1) HK.out HG).mono ?_; rintro e w1 ⟨rfl, hb1⟩; have KC1 := hid (KC0.out.step hb1); have KA1 := hid (KA0.out.step hb1); have KR1 := hid (KR0.out.step hb1); clear hb1 d0 d1 d2 d3 d4)
      obtain ⟨d0, d1, d2, d3, d4⟩ := box_five KC1.out.2.2
      obtain ⟨f0, f1, f2, f3⟩ := box_four KA1.out.2.2
      go_upto_region 4 with fail
      have KL : Hid (Kp w (w1.alloc (.cells #[.int .u8 x0, .int .u8 x1, .int .u8 x2, .int .u8 x3, .int .i64 c.n, .int .i64 c.s0, .int .i64 c.s1, .int .i64 0, .int .i64 0, .int .i64 0, .int .i64 0] 44)) w1.heap.size (.cells #[.int .u8 x0, .int .u8 x1, .int .u8 x2, .int .u8 x3, .int .i64 c.n, .int .i64 c.s0, .int .i64 c.s1, .int .i64 0, .int .i64 0, .int .i64 0, .int .i64 0] 44)) := hid (kp_new2 KC1.out.1 _ _ rfl)
      have KC2 := hid (kp_alloc KC1.out (.cells #[.int .u8 x0, .int .u8 x1, .int .u8 x2, .int .u8 x3, .int .i64 c.n, .int .i64 c.s0, .int .i64 c.s1, .int .i64 0, .int .i64 0, .int .i64 0, .int .i64 0] 44))
      have KR2 := hid (kp_alloc KR1.out (.cells #[.int .u8 x0, .int .u8 x1, .int .u8 x2, .int .u8 x3, .int .i64 c.n, .int .i64 c.s0, .int .i64 c.s1, .int .i64 0, .int .i64 0, .int .i64 0, .int .i64 0] 44))
      have hL : w.heap.size + 1 + 1 < w1.heap.size := heap_lt KR1.out.2.2
      clear d0 d1 d2 d3 d4 f0 f1 f2 f3 KA0 KC0 KR0 KA1 KC1 KR1
      obtain ⟨N2, hN2⟩ : ∃ y, w.heap.size + 1 + 1 = y := ⟨_, rfl⟩
      rw [hN2] at KR2 hL ⊢
      obtain ⟨N1, hN1⟩ : ∃ y, w.heap.size + 1 = y := ⟨_, rfl⟩
      rw [hN1] at KC2 hN2 ⊢
      have ne1 : ¬ N1 = w1.heap.size := by omega
      have ne2 : ¬ N2 = w1.heap.size := by omega
      have geL : w.heap.size ≤ w1.heap.size := by omega
      have ne12 : ¬ N1 = N2 := by omega
      have HNE := hid (And.intro ne1 (And.intro ne2 (And.intro geL ne12)))
      clear hN1 hN2 hL ne1 ne2 geL ne12
      generalize w1.heap.size = L at KL HNE ⊢
      generalize w1.alloc (.cells #[.int .u8 x0, .int .u8 x1, .int .u8 x2, .int .u8 x3, .int .i64 c.n, .int .i64 c.s0, .int .i64 c.s1, .int .i64 0, .int .i64 0, .int .i64 0, .int .i64 0] 44) = W2 at KL KC2 KR2 ⊢
      have KL2 := KL
      clear KL
      go_upto_region 5 with fail
      refine wp_loop_rounds 3 ?_
      rw [rounds_succ]
      obtain ⟨d0, d1, d2, d3, d4⟩ := box_five KC2.out.2.2
      go_wp2_with (first
        | (go_at_call 63; refine (least_m _ _ _ _ z0 true _ (HW.out.1.below KC2.out.1) HK.out.2.2.2.1 Q0 T0).mono ?_; rintro e w2a ⟨rfl, hb⟩; have KCa := hid (KC2.out.step hb); have KLa := hid (KL2.out.step hb); have KRa := hid (KR2.out.step hb); have fz := kp_froz KLa.out 7; have cz := kp_cell (j := 7) (v := .int .i64 0) KLa.out rfl; have KCb := hid (kp_other (j := 7) (v := .int .i64 z0) KCa.out HNE.out.1 HNE.out.2.2.1); have KRb := hid (kp_other (j := 7) (v := .int .i64 z0) KRa.out HNE.out.2.1 HNE.out.2.2.1); have KLb := hid (kp_set (j := 7) (v := .int .i64 z0) KLa.out); clear hb d0 d1 d2 d3 d4)
        | (go_at_call 64; refine (greatest_m _ _ _ _ y0 true _ (HW.out.1.below KCb.out.1) HK.out.2.2.2.1 P0 T0).mono ?_; rintro e w2b ⟨rfl, hb⟩; have KCc := hid (KCb.out.step hb); have KLc := hid (KLb.out.step hb); have KRc := hid (KRb.out.step hb); have fy := kp_froz KLc.out 9; have cy := kp_cell (j := 9) (v := .int .i64 0) KLc.out rfl; have KC3 := hid (kp_other (j := 9) (v := .int .i64 y0) KCc.out HNE.out.1 HNE.out.2.2.1); have KR3 := hid (kp_other (j := 9) (v := .int .i64 y0) KRc.out HNE.out.2.1 HNE.out.2.2.1); have KL3 : Hid (Kp w _ L (.cells #[.int .u8 x0, .int .u8 x1, .int .u8 x2, .int .u8 x3, .int .i64 c.n, .int .i64 c.s0, .int .i64 c.s1, .int .i64 z0, .int .i64 0, .int .i64 y0, .int .i64 0] 44)) := hid (kp_set (j := 9) (v := .int .i64 y0) KLc.out); clear hb))
      clear KCa KLa KRa KCb KLb KRb KCc KLc KRc
      generalize (w2b.setCell ⟨L, 9, none⟩ (.int .i64 y0)) = W3 at KC3 KR3 KL3 ⊢
      rw [rounds_succ]
      obtain ⟨g0, g1, g2, g3, g4, g5, g6, g7, g8, g9, g10⟩ := box_elf KL3.out.2.2
      go_wp2_with (refine wpList_store_whole rfl 44 (.tmp 6) (.tmp 47) rfl N2 (lnC x0 x1 x2 x3 c.n c.s0 c.s1 z0 0 y0 0) rfl rfl 44 _ KR3.out.2.2 rfl (by show _ = some 11; exact size_ln) (lnC_one _ _ _ _ _ _ _ _ _ _ _) ?_; intro w9 hp9 hg9; have KR9 := hid (kp_at KR3.out hg9 hp9); clear hp9 hg9)
      (try simp only [Exit.inBlock, Exit.then])
      show bodyPost Try.prog Try.f21 _ _ _ _
      refine bodyPost_ret (results_cell_row (p := 6) rfl _ _ N2 _ (lnC x0 x1 x2 x3 c.n c.s0 c.s1 z0 0 y0 0) (0, 0) _ rfl KR9.out.2.2 Try.underlying44 rfl (by kernel_rfl)) rfl ?_
      exact ⟨rfl, KR9.out.1⟩
    · rw [lineV_2 hg, ez0, ey0]
      have R1 := hid (rk_hase (HCG.out.2.2.elim (fun h => absurd h.1 (by decide)) (fun h => h.2)) HCG.out.1.1)
      obtain ⟨z1, ez1⟩ : ∃ y, mn c.b1 = y := ⟨_, rfl⟩
      obtain ⟨y1, ey1⟩ : ∃ y, mx c.b1 = y := ⟨_, rfl⟩
      have Q1 := hid (R1.out.1.trans ez1)
      have P1 := hid (R1.out.2.1.trans ey1)
      have T1 := hid R1.out.2.2
      rw [ez1, ey1]
      clear hg ez0 ey0 ez1 ey1
      go_enter Try.func21, Try.ntmps21
      go_upto_region 1 with fail
      generalize ((w.alloc (.cells #[.int .u8 x0, .int .u8 x1, .int .u8 x2, .int .u8 x3] 28)).alloc (.cells #[.int .i64 c.n, .int .i64 c.s0, .int .i64 c.s1, .slice a0 p0 k0, .slice a1 p1 k1] 26)).alloc (.cells #[.int .u8 0, .int .u8 0, .int .u8 0, .int .u8 0, .int .i64 0, .int .i64 0, .int .i64 0, .int .i64 0, .int .i64 0, .int .i64 0, .int .i64 0] 44) = W0 at KA0 KC0 KR0 ⊢
      obtain ⟨d0, d1, d2, d3, d4⟩ := box_five KC0.out.2.2
      go_upto_region 3 with (go_at_call 19; refine (cgood_m _ _ _ _ _ _ _ _ true _ (HW.out.below KC0.out.1) HK.out HG).mono ?_; rintro e w1 ⟨rfl, hb1⟩; have KC1 := hid (KC0.out.step hb1); have KA1 := hid (KA0.out.step hb1); have KR1 := hid (KR0.out.step hb1); clear hb1 d0 d1 d2 d3 d4)
      obtain ⟨d0, d1, d2, d3, d4⟩ := box_five KC1.out.2.2
      obtain ⟨f0, f1, f2, f3⟩ := box_four KA1.out.2.2
      go_upto_region 4 with fail
      have KL : Hid (Kp w (w1.alloc (.cells #[.int .u8 x0, .int .u8 x1, .int .u8 x2, .int .u8 x3, .int .i64 c.n, .int .i64 c.s0, .int .i64 c.s1, .int .i64 0, .int .i64 0, .int .i64 0, .int .i64 0] 44)) w1.heap.size (.cells #[.int .u8 x0, .int .u8 x1, .int .u8 x2, .int .u8 x3, .int .i64 c.n, .int .i64 c.s0, .int .i64 c.s1, .int .i64 0, .int .i64 0, .int .i64 0, .int .i64 0] 44)) := hid (kp_new2 KC1.out.1 _ _ rfl)
      have KC2 := hid (kp_alloc KC1.out (.cells #[.int .u8 x0, .int .u8 x1, .int .u8 x2, .int .u8 x3, .int .i64 c.n, .int .i64 c.s0, .int .i64 c.s1, .int .i64 0, .int .i64 0, .int .i64 0, .int .i64 0] 44))
      have KR2 := hid (kp_alloc KR1.out (.cells #[.int .u8 x0, .int .u8 x1, .int .u8 x2, .int .u8 x3, .int .i64 c.n, .int .i64 c.s0, .int .i64 c.s1, .int .i64 0, .int .i64 0, .int .i64 0, .int .i64 0] 44))
      have hL : w.heap.size + 1 + 1 < w1.heap.size := heap_lt KR1.out.2.2
      clear d0 d1 d2 d3 d4 f0 f1 f2 f3 KA0 KC0 KR0 KA1 KC1 KR1
      obtain ⟨N2, hN2⟩ : ∃ y, w.heap.size + 1 + 1 = y := ⟨_, rfl⟩
      rw [hN2] at KR2 hL ⊢
      obtain ⟨N1, hN1⟩ : ∃ y, w.heap.size + 1 = y := ⟨_, rfl⟩
      rw [hN1] at KC2 hN2 ⊢
      have ne1 : ¬ N1 = w1.heap.size := by omega
      have ne2 : ¬ N2 = w1.heap.size := by omega
      have geL : w.heap.size ≤ w1.heap.size := by omega
      have ne12 : ¬ N1 = N2 := by omega
      have HNE := hid (And.intro ne1 (And.intro ne2 (And.intro geL ne12)))
      clear hN1 hN2 hL ne1 ne2 geL ne12
      generalize w1.heap.size = L at KL HNE ⊢
      generalize w1.alloc (.cells #[.int .u8 x0, .int .u8 x1, .int .u8 x2, .int .u8 x3, .int .i64 c.n, .int .i64 c.s0, .int .i64 c.s1, .int .i64 0, .int .i64 0, .int .i64 0, .int .i64 0] 44) = W2 at KL KC2 KR2 ⊢
      have KL2 := KL
      clear KL
      go_upto_region 5 with fail
      refine wp_loop_rounds 3 ?_
      rw [rounds_succ]
      obtain ⟨d0, d1, d2, d3, d4⟩ := box_five KC2.out.2.2
      go_wp2_with (first
        | (go_at_call 63; refine (least_m _ _ _ _ z0 true _ (HW.out.1.below KC2.out.1) HK.out.2.2.2.1 Q0 T0).mono ?_; rintro e w2a ⟨rfl, hb⟩; have KCa := hid (KC2.out.step hb); have KLa := hid (KL2.out.step hb); have KRa := hid (KR2.out.step hb); have fz := kp_froz KLa.out 7; have cz := kp_cell (j := 7) (v := .int .i64 0) KLa.out rfl; have KCb := hid (kp_other (j := 7) (v := .int .i64 z0) KCa.out HNE.out.1 HNE.out.2.2.1); have KRb := hid (kp_other (j := 7) (v := .int .i64 z0) KRa.out HNE.out.2.1 HNE.out.2.2.1); have KLb := hid (kp_set (j := 7) (v := .int .i64 z0) KLa.out); clear hb d0 d1 d2 d3 d4)
        | (go_at_call 64; refine (greatest_m _ _ _ _ y0 true _ (HW.out.1.below KCb.out.1) HK.out.2.2.2.1 P0 T0).mono ?_; rintro e w2b ⟨rfl, hb⟩; have KCc := hid (KCb.out.step hb); have KLc := hid (KLb.out.step hb); have KRc := hid (KRb.out.step hb); have fy := kp_froz KLc.out 9; have cy := kp_cell (j := 9) (v := .int .i64 0) KLc.out rfl; have KC3 := hid (kp_other (j := 9) (v := .int .i64 y0) KCc.out HNE.out.1 HNE.out.2.2.1); have KR3 := hid (kp_other (j := 9) (v := .int .i64 y0) KRc.out HNE.out.2.1 HNE.out.2.2.1); have KL3 : Hid (Kp w _ L (.cells #[.int .u8 x0, .int .u8 x1, .int .u8 x2, .int .u8 x3, .int .i64 c.n, .int .i64 c.s0, .int .i64 c.s1, .int .i64 z0, .int .i64 0, .int .i64 y0, .int .i64 0] 44)) := hid (kp_set (j := 9) (v := .int .i64 y0) KLc.out); clear hb))
      clear KCa KLa KRa KCb KLb KRb KCc KLc KRc
      generalize (w2b.setCell ⟨L, 9, none⟩ (.int .i64 y0)) = W3 at KC3 KR3 KL3 ⊢
      rw [rounds_succ]
      obtain ⟨d0, d1, d2, d3, d4⟩ := box_five KC3.out.2.2
      go_wp2_with (first
        | (go_at_call 63; refine (least_m _ _ _ _ z1 true _ (HW.out.2.below KC3.out.1) HK.out.2.2.2.2 Q1 T1).mono ?_; rintro e w3a ⟨rfl, hb⟩; have KCa := hid (KC3.out.step hb); have KLa := hid (KL3.out.step hb); have KRa := hid (KR3.out.step hb); have fz := kp_froz KLa.out 8; have cz := kp_cell (j := 8) (v := .int .i64 0) KLa.out rfl; have KCb := hid (kp_other (j := 8) (v := .int .i64 z1) KCa.out HNE.out.1 HNE.out.2.2.1); have KRb := hid (kp_other (j := 8) (v := .int .i64 z1) KRa.out HNE.out.2.1 HNE.out.2.2.1); have KLb := hid (kp_set (j := 8) (v := .int .i64 z1) KLa.out); clear hb d0 d1 d2 d3 d4)
        | (go_at_call 64; refine (greatest_m _ _ _ _ y1 true _ (HW.out.2.below KCb.out.1) HK.out.2.2.2.2 P1 T1).mono ?_; rintro e w3b ⟨rfl, hb⟩; have KCc := hid (KCb.out.step hb); have KLc := hid (KLb.out.step hb); have KRc := hid (KRb.out.step hb); have fy := kp_froz KLc.out 10; have cy := kp_cell (j := 10) (v := .int .i64 0) KLc.out rfl; have KC4 := hid (kp_other (j := 10) (v := .int .i64 y1) KCc.out HNE.out.1 HNE.out.2.2.1); have KR4 := hid (kp_other (j := 10) (v := .int .i64 y1) KRc.out HNE.out.2.1 HNE.out.2.2.1); have KL4 : Hid (Kp w _ L (.cells #[.int .u8 x0, .int .u8 x1, .int .u8 x2, .int .u8 x3, .int .i64 c.n, .int .i64 c.s0, .int .i64 c.s1, .int .i64 z0, .int .i64 z1, .int .i64 y0, .int .i64 y1] 44)) := hid (kp_set (j := 10) (v := .int .i64 y1) KLc.out); clear hb))
      clear KCa KLa KRa KCb KLb KRb KCc KLc KRc
      generalize (w3b.setCell ⟨L, 10, none⟩ (.int .i64 y1)) = W4 at KC4 KR4 KL4 ⊢
      rw [rounds_succ]
      obtain ⟨g0, g1, g2, g3, g4, g5, g6, g7, g8, g9, g10⟩ := box_elf KL4.out.2.2
      go_wp2_with (refine wpList_store_whole rfl 44 (.tmp 6) (.tmp 47) rfl N2 (lnC x0 x1 x2 x3 c.n c.s0 c.s1 z0 z1 y0 y1) rfl rfl 44 _ KR4.out.2.2 rfl (by show _ = some 11; exact size_ln) (lnC_one _ _ _ _ _ _ _ _ _ _ _) ?_; intro w9 hp9 hg9; have KR9 := hid (kp_at KR4.out hg9 hp9); clear hp9 hg9)
      (try simp only [Exit.inBlock, Exit.then])
      show bodyPost Try.prog Try.f21 _ _ _ _
      refine bodyPost_ret (results_cell_row (p := 6) rfl _ _ N2 _ (lnC x0 x1 x2 x3 c.n c.s0 c.s1 z0 z1 y0 y1) (0, 0) _ rfl KR9.out.2.2 Try.underlying44 rfl (by kernel_rfl)) rfl ?_
      exact ⟨rfl, KR9.out.1⟩

end Go.Proofs.Ytjkkajhjcinalaa

namespace Go.Proofs.Ytjkkajhjcinalaa
open Go.ChangeShapes Go.WideShapes Go.ChangeAt Go.RowKit
set_option linter.unusedVariables false
set_option linter.unusedSimpArgs false
set_option maxRecDepth 100000

theorem mn_at {l : List Rn} {x0 x1 : Int} (h : l[0]? = some (x0, x1)) : mn l = x0 := by
  cases l with
  | nil => simp at h
  | cons r l => simp at h; subst h; rfl
theorem mx_at {l : List Rn} {j : Nat} {x0 x1 : Int} (hl : l.length = j + 1) (h : l[j]? = some (x0, x1)) : mx l = x0 := by
  unfold mx
  rw [List.getLastD_eq_getLast?, List.getLast?_eq_getElem?, show l.length - 1 = j by omega, h]
  rfl

set_option maxHeartbeats 32000000 in
theorem crline_any (m x0 x1 x2 x3 : Int) (c : Cl) (a0 : Option Addr) (p0 k0 : Nat) (a1 : Option Addr) (p1 k1 : Nat) (w : World) (hw : CW w a0 p0 k0 a1 p1 k1 c) (hk : okc c) :
    Calls Try.prog 22 #[.int .i64 m, .agg #[.int .u8 x0, .int .u8 x1, .int .u8 x2, .int .u8 x3], .agg #[.int .i64 c.n, .int .i64 c.s0, .int .i64 c.s1, .slice a0 p0 k0, .slice a1 p1 k1]] w fun e w' => e = .returned (lineV m x0 x1 x2 x3 c) ∧ Below w.heap.size w w' := by
  have HW := hid hw
  have HK := hid hk
  obtain ⟨l1, l2⟩ := hw.1.lens
  obtain ⟨u1, u2⟩ := hw.2.lens
  have E0 := hid l1
  have E1 := hid u1
  clear hw hk l1 u1
  have KA0 : Hid (Kp w (((w.alloc (.cells #[.int .u8 x0, .int .u8 x1, .int .u8 x2, .int .u8 x3] 28)).alloc (.cells #[.int .i64 c.n, .int .i64 c.s0, .int .i64 c.s1, .slice a0 p0 k0, .slice a1 p1 k1] 26)).alloc (.cells #[.int .u8 0, .int .u8 0, .int .u8 0, .int .u8 0, .int .i64 0, .int .i64 0, .int .i64 0, .int .i64 0, .int .i64 0, .int .i64 0, .int .i64 0] 44)) w.heap.size (.cells #[.int .u8 x0, .int .u8 x1, .int .u8 x2, .int .u8 x3] 28)) := hid (kp_alloc (kp_alloc (kp_new w _) _) _)
  have KC0 : Hid (Kp w (((w.alloc (.cells #[.int .u8 x0, .int .u8 x1, .int .u8 x2, .int .u8 x3] 28)).alloc (.cells #[.int .i64 c.n, .int .i64 c.s0, .int .i64 c.s1, .slice a0 p0 k0, .slice a1 p1 k1] 26)).alloc (.cells #[.int .u8 0, .int .u8 0, .int .u8 0, .int .u8 0, .int .i64 0, .int .i64 0, .int .i64 0, .int .i64 0, .int .i64 0, .int .i64 0, .int .i64 0] 44)) (w.heap.size + 1) (.cells #[.int .i64 c.n, .int .i64 c.s0, .int .i64 c.s1, .slice a0 p0 k0, .slice a1 p1 k1] 26)) := hid (kp_alloc (kp_new2 (b1alloc _ _) _ _ (by simp)) _)
  have KR0 : Hid (Kp w (((w.alloc (.cells #[.int .u8 x0, .int .u8 x1, .int .u8 x2, .int .u8 x3] 28)).alloc (.cells #[.int .i64 c.n, .int .i64 c.s0, .int .i64 c.s1, .slice a0 p0 k0, .slice a1 p1 k1] 26)).alloc (.cells #[.int .u8 0, .int .u8 0, .int .u8 0, .int .u8 0, .int .i64 0, .int .i64 0, .int .i64 0, .int .i64 0, .int .i64 0, .int .i64 0, .int .i64 0] 44)) (w.heap.size + 1 + 1) (.cells #[.int .u8 0, .int .u8 0, .int .u8 0, .int .u8 0, .int .i64 0, .int .i64 0, .int .i64 0, .int .i64 0, .int .i64 0, .int .i64 0, .int .i64 0] 44)) := hid (kp_new2 (bt (b1alloc _ _) (b1alloc _ _)) _ _ (by simp))
  cases hg : cg m c with
  | false =>
    rw [lineV_no hg]
    have HG := hid hg
    clear hg
    go_enter Try.func22, Try.ntmps22
    go_upto_region 1 with fail
    generalize ((w.alloc (.cells #[.int .u8 x0, .int .u8 x1, .int .u8 x2, .int .u8 x3] 28)).alloc (.cells #[.int .i64 c.n, .int .i64 c.s0, .int .i64 c.s1, .slice a0 p0 k0, .slice a1 p1 k1] 26)).alloc (.cells #[.int .u8 0, .int .u8 0, .int .u8 0, .int .u8 0, .int .i64 0, .int .i64 0, .int .i64 0, .int .i64 0, .int .i64 0, .int .i64 0, .int .i64 0] 44) = W0 at KA0 KC0 KR0 ⊢
    obtain ⟨d0, d1, d2, d3, d4⟩ := box_five KC0.out.2.2
    go_upto_region 2 with (go_at_call 20; refine (crgood_m _ _ _ _ _ _ _ _ false _ (HW.out.below KC0.out.1) HK.out HG).mono ?_; rintro e w1 ⟨rfl, hb1⟩; have KC1 := hid (KC0.out.step hb1); have KA1 := hid (KA0.out.step hb1); have KR1 := hid (KR0.out.step hb1); clear hb1 d0 d1 d2 d3 d4)
    obtain ⟨N2, hN2⟩ : ∃ y, w.heap.size + 1 + 1 = y := ⟨_, rfl⟩
    rw [hN2] at KR1 ⊢
    clear hN2
    go_wp2_with (refine wpList_store_whole rfl 44 (.tmp 6) (.tmp 14) rfl N2 (lnC 0 0 0 0 0 0 0 0 0 0 0) rfl rfl 44 _ KR1.out.2.2 rfl (by show _ = some 11; exact size_ln) (lnC_one _ _ _ _ _ _ _ _ _ _ _) ?_; intro w2 hp2 hg2; have KR2 := hid (kp_at KR1.out hg2 hp2); clear hp2 hg2)
    (try simp only [Exit.inBlock, Exit.then])
    show bodyPost Try.prog Try.f22 _ _ _ _
    refine bodyPost_ret (results_cell_row (p := 6) rfl _ _ N2 _ (lnC 0 0 0 0 0 0 0 0 0 0 0) (0, 0) _ rfl KR2.out.2.2 Try.underlying44 rfl (by kernel_rfl)) rfl ?_
    exact ⟨rfl, KR2.out.1⟩
  | true =>
    have HG := hid hg
    have HCG := hid (cg_iff.1 hg)
    obtain ⟨z0, ez0⟩ : ∃ y, mn c.b0 = y := ⟨_, rfl⟩
    obtain ⟨y0, ey0⟩ : ∃ y, mx c.b0 = y := ⟨_, rfl⟩
    have Z0 := hid ez0
    have Y0 := hid ey0
    have hp0 : ¬ p0 = 0 := fun e => rk_ne HCG.out.2.1 HCG.out.1.1 (List.length_eq_zero_iff.mp (by have := E0.out; omega))
    obtain ⟨t0, ht0⟩ : ∃ t, p0 = t + 1 := ⟨p0 - 1, by omega⟩
    have hjk0 : (p0 : Int) - 1 = (t0 : Int) := by omega
    have hj00 : (0 : Int) ≤ (t0 : Int) := by omega
    have hjn0 : (t0 : Int) < (p0 : Int) := by omega
    have hpp0 : (0 : Int) < (p0 : Int) := by omega
    have hwj0 : IntKind.i64.wrap ((p0 : Int) - 1) = (t0 : Int) := by rw [hjk0]; exact IntWalk.i64_in _ (by omega)
    have HT0 := hid ht0
    have hpn0 : 0 < p0 := by omega
    have htn0 : t0 < p0 := by omega
    clear ht0 hp0
    rcases cg_m hg with rfl | rfl
    · rw [lineV_1 hg, ez0, ey0]
      have HS1 : Hid (c.s1 = 0) := hid (HCG.out.2.2.elim (fun h => h.2.1) (fun h => absurd h.1 (by decide)))
      clear hg ez0 ey0
      go_enter Try.func22, Try.ntmps22
      go_upto_region 1 with fail
      generalize ((w.alloc (.cells #[.int .u8 x0, .int .u8 x1, .int .u8 x2, .int .u8 x3] 28)).alloc (.cells #[.int .i64 c.n, .int .i64 c.s0, .int .i64 c.s1, .slice a0 p0 k0, .slice a1 p1 k1] 26)).alloc (.cells #[.int .u8 0, .int .u8 0, .int .u8 0, .int .u8 0, .int .i64 0, .int .i64 0, .int .i64 0, .int .i64 0, .int .i64 0, .int .i64 0, .int .i64 0] 44) = W0 at KA0 KC0 KR0 ⊢
      obtain ⟨d0, d1, d2, d3, d4⟩ := box_five KC0.out.2.2
      go_upto_region 3 with (go_at_call 20; refine (crgood_m _ _ _ _ _ _ _ _ true _ (HW.out.below KC0.out.1) HK.out HG).mono ?_; rintro e w1 ⟨rfl, hb1⟩; have KC1 := hid (KC0.out.step hb1); have KA1 := hid (KA0.out.step hb1); have KR1 := hid (KR0.out.step hb1); clear hb1 d0 d1 d2 d3 d4)
      obtain ⟨d0, d1, d2, d3, d4⟩ := box_five KC1.out.2.2
      obtain ⟨f0, f1, f2, f3⟩ := box_four KA1.out.2.2
      go_upto_region 4 with fail
      have KL2 : Hid (Kp w (w1.alloc (.cells #[.int .u8 x0, .int .u8 x1, .int .u8 x2, .int .u8 x3, .int .i64 c.n, .int .i64 0, .int .i64 0, .int .i64 0, .int .i64 0, .int .i64 0, .int .i64 0] 44)) w1.heap.size (.cells #[.int .u8 x0, .int .u8 x1, .int .u8 x2, .int .u8 x3, .int .i64 c.n, .int .i64 0, .int .i64 0, .int .i64 0, .int .i64 0, .int .i64 0, .int .i64 0] 44)) := hid (kp_new2 KC1.out.1 _ _ rfl)
      have KC2 := hid (kp_alloc KC1.out (.cells #[.int .u8 x0, .int .u8 x1, .int .u8 x2, .int .u8 x3, .int .i64 c.n, .int .i64 0, .int .i64 0, .int .i64 0, .int .i64 0, .int .i64 0, .int .i64 0] 44))
      have KR2 := hid (kp_alloc KR1.out (.cells #[.int .u8 x0, .int .u8 x1, .int .u8 x2, .int .u8 x3, .int .i64 c.n, .int .i64 0, .int .i64 0, .int .i64 0, .int .i64 0, .int .i64 0, .int .i64 0] 44))
      have hL : w.heap.size + 1 + 1 < w1.heap.size := heap_lt KR1.out.2.2
      clear d0 d1 d2 d3 d4 f0 f1 f2 f3 KA0 KC0 KR0 KA1 KC1 KR1
      obtain ⟨N2, hN2⟩ : ∃ y, w.heap.size + 1 + 1 = y := ⟨_, rfl⟩
      rw [hN2] at KR2 hL ⊢
      obtain ⟨N1, hN1⟩ : ∃ y, w.heap.size + 1 = y := ⟨_, rfl⟩
      rw [hN1] at KC2 hN2 ⊢
      have ne1 : ¬ N1 = w1.heap.size := by omega
      have ne2 : ¬ N2 = w1.heap.size := by omega
      have geL : w.heap.size ≤ w1.heap.size := by omega
      have ne12 : ¬ N1 = N2 := by omega
      have HNE := hid (And.intro ne1 (And.intro ne2 (And.intro geL ne12)))
      clear hN1 hN2 hL ne1 ne2 geL ne12
      generalize w1.heap.size = L at KL2 HNE ⊢
      generalize w1.alloc (.cells #[.int .u8 x0, .int .u8 x1, .int .u8 x2, .int .u8 x3, .int .i64 c.n, .int .i64 0, .int .i64 0, .int .i64 0, .int .i64 0, .int .i64 0, .int .i64 0] 44) = W2 at KL2 KC2 KR2 ⊢
      go_upto_region 5 with fail
      refine wp_loop_rounds 3 ?_
      rw [rounds_succ]
      obtain ⟨d0, d1, d2, d3, d4⟩ := box_five KC2.out.2.2
      have fz := kp_froz KL2.out 5
      have cz := kp_cell (j := 5) (v := .int .i64 0) KL2.out rfl
      go_upto_region 9 with fail
      clear d0 d1 d2 d3 d4
      have KC3 := hid (kp_other (j := 5) (v := .int .i64 c.s0) KC2.out HNE.out.1 HNE.out.2.2.1)
      have KR3 := hid (kp_other (j := 5) (v := .int .i64 c.s0) KR2.out HNE.out.2.1 HNE.out.2.2.1)
      have KL3 : Hid (Kp w _ L (.cells #[.int .u8 x0, .int .u8 x1, .int .u8 x2, .int .u8 x3, .int .i64 c.n, .int .i64 c.s0, .int .i64 0, .int .i64 0, .int .i64 0, .int .i64 0, .int .i64 0] 44)) := hid (kp_set (j := 5) (v := .int .i64 c.s0) KL2.out)
      generalize (W2.setCell ⟨L, 5, none⟩ (.int .i64 c.s0)) = W3 at KC3 KR3 KL3 ⊢
      clear KC2 KR2 KL2 fz cz
      obtain ⟨bb, oo, r0, r1, ea, hbb, hr, g0, g1⟩ := HW.out.1.pick KC3.out.1 hpn0
      simp only [Nat.zero_mul, Nat.add_zero] at g0
      subst ea
      have er : r0 = z0 := (mn_at hr).symm.trans Z0.out
      rw [er] at g0
      clear hr g1 er
      have fz := kp_froz KL3.out 7
      have cz := kp_cell (j := 7) (v := .int .i64 0) KL3.out rfl
      go_upto_region 10 with fail
      clear g0
      have KC4 := hid (kp_other (j := 7) (v := .int .i64 z0) KC3.out HNE.out.1 HNE.out.2.2.1)
      have KR4 := hid (kp_other (j := 7) (v := .int .i64 z0) KR3.out HNE.out.2.1 HNE.out.2.2.1)
      have KL4 : Hid (Kp w _ L (.cells #[.int .u8 x0, .int .u8 x1, .int .u8 x2, .int .u8 x3, .int .i64 c.n, .int .i64 c.s0, .int .i64 0, .int .i64 z0, .int .i64 0, .int .i64 0, .int .i64 0] 44)) := hid (kp_set (j := 7) (v := .int .i64 z0) KL3.out)
      generalize (W3.setCell ⟨L, 7, none⟩ (.int .i64 z0)) = W4 at KC4 KR4 KL4 ⊢
      clear KC3 KR3 KL3 fz cz
      obtain ⟨bb', oo', r0', r1', ea, hbb', hr, g0, g1⟩ := HW.out.1.pick KC4.out.1 htn0
      cases ea
      have er : r0' = y0 := (mx_at (by have := E0.out; have := HT0.out; omega) hr).symm.trans Y0.out
      rw [er] at g0
      clear hr g1 er
      have fz := kp_froz KL4.out 9
      have cz := kp_cell (j := 9) (v := .int .i64 0) KL4.out rfl
      go_upto_region 6 with fail
      clear g0
      have KC5 := hid (kp_other (j := 9) (v := .int .i64 y0) KC4.out HNE.out.1 HNE.out.2.2.1)
      have KR5 := hid (kp_other (j := 9) (v := .int .i64 y0) KR4.out HNE.out.2.1 HNE.out.2.2.1)
      have KL5 : Hid (Kp w _ L (.cells #[.int .u8 x0, .int .u8 x1, .int .u8 x2, .int .u8 x3, .int .i64 c.n, .int .i64 c.s0, .int .i64 0, .int .i64 z0, .int .i64 0, .int .i64 y0, .int .i64 0] 44)) := hid (kp_set (j := 9) (v := .int .i64 y0) KL4.out)
      generalize (W4.setCell ⟨L, 9, none⟩ (.int .i64 y0)) = W5 at KC5 KR5 KL5 ⊢
      clear KC4 KR4 KL4 fz cz
      go_wp2
      rw [rounds_succ]
      obtain ⟨g0, g1, g2, g3, g4, g5, g6, g7, g8, g9, g10⟩ := box_elf KL5.out.2.2
      go_wp2_with (refine wpList_store_whole rfl 44 (.tmp 6) (.tmp 52) rfl N2 (lnC x0 x1 x2 x3 c.n c.s0 0 z0 0 y0 0) rfl rfl 44 _ KR5.out.2.2 rfl (by show _ = some 11; exact size_ln) (lnC_one _ _ _ _ _ _ _ _ _ _ _) ?_; intro w9 hp9 hg9; have KR9 := hid (kp_at KR5.out hg9 hp9); clear hp9 hg9)
      (try simp only [Exit.inBlock, Exit.then])
      show bodyPost Try.prog Try.f22 _ _ _ _
      refine bodyPost_ret (results_cell_row (p := 6) rfl _ _ N2 _ (lnC x0 x1 x2 x3 c.n c.s0 0 z0 0 y0 0) (0, 0) _ rfl KR9.out.2.2 Try.underlying44 rfl (by kernel_rfl)) rfl ?_
      exact ⟨by rw [HS1.out]; rfl, KR9.out.1⟩
    · rw [lineV_2 hg, ez0, ey0]
      have R1 := hid (HCG.out.2.2.elim (fun h => absurd h.1 (by decide)) (fun h => h.2))
      obtain ⟨z1, ez1⟩ : ∃ y, mn c.b1 = y := ⟨_, rfl⟩
      obtain ⟨y1, ey1⟩ : ∃ y, mx c.b1 = y := ⟨_, rfl⟩
      have Z1 := hid ez1
      have Y1 := hid ey1
      rw [ez1, ey1]
      have hp1 : ¬ p1 = 0 := fun e => rk_ne R1.out HCG.out.1.1 (List.length_eq_zero_iff.mp (by have := E1.out; omega))
      obtain ⟨t1, ht1⟩ : ∃ t, p1 = t + 1 := ⟨p1 - 1, by omega⟩
      have hjk1 : (p1 : Int) - 1 = (t1 : Int) := by omega
      have hj01 : (0 : Int) ≤ (t1 : Int) := by omega
      have hjn1 : (t1 : Int) < (p1 : Int) := by omega
      have hpp1 : (0 : Int) < (p1 : Int) := by omega
      have hwj1 : IntKind.i64.wrap ((p1 : Int) - 1) = (t1 : Int) := by rw [hjk1]; exact IntWalk.i64_in _ (by omega)
      have HT1 := hid ht1
      have hpn1 : 0 < p1 := by omega
      have htn1 : t1 < p1 := by omega
      clear ht1 hp1
      clear hg ez0 ey0 ez1 ey1
      go_enter Try.func22, Try.ntmps22
      go_upto_region 1 with fail
      generalize ((w.alloc (.cells #[.int .u8 x0, .int .u8 x1, .int .u8 x2, .int .u8 x3] 28)).alloc (.cells #[.int .i64 c.n, .int .i64 c.s0, .int .i64 c.s1, .slice a0 p0 k0, .slice a1 p1 k1] 26)).alloc (.cells #[.int .u8 0, .int .u8 0, .int .u8 0, .int .u8 0, .int .i64 0, .int .i64 0, .int .i64 0, .int .i64 0, .int .i64 0, .int .i64 0, .int .i64 0] 44) = W0 at KA0 KC0 KR0 ⊢
      obtain ⟨d0, d1, d2, d3, d4⟩ := box_five KC0.out.2.2
      go_upto_region 3 with (go_at_call 20; refine (crgood_m _ _ _ _ _ _ _ _ true _ (HW.out.below KC0.out.1) HK.out HG).mono ?_; rintro e w1 ⟨rfl, hb1⟩; have KC1 := hid (KC0.out.step hb1); have KA1 := hid (KA0.out.step hb1); have KR1 := hid (KR0.out.step hb1); clear hb1 d0 d1 d2 d3 d4)
      obtain ⟨d0, d1, d2, d3, d4⟩ := box_five KC1.out.2.2
      obtain ⟨f0, f1, f2, f3⟩ := box_four KA1.out.2.2
      go_upto_region 4 with fail
      have KL2 : Hid (Kp w (w1.alloc (.cells #[.int .u8 x0, .int .u8 x1, .int .u8 x2, .int .u8 x3, .int .i64 c.n, .int .i64 0, .int .i64 0, .int .i64 0, .int .i64 0, .int .i64 0, .int .i64 0] 44)) w1.heap.size (.cells #[.int .u8 x0, .int .u8 x1, .int .u8 x2, .int .u8 x3, .int .i64 c.n, .int .i64 0, .int .i64 0, .int .i64 0, .int .i64 0, .int .i64 0, .int .i64 0] 44)) := hid (kp_new2 KC1.out.1 _ _ rfl)
      have KC2 := hid (kp_alloc KC1.out (.cells #[.int .u8 x0, .int .u8 x1, .int .u8 x2, .int .u8 x3, .int .i64 c.n, .int .i64 0, .int .i64 0, .int .i64 0, .int .i64 0, .int .i64 0, .int .i64 0] 44))
      have KR2 := hid (kp_alloc KR1.out (.cells #[.int .u8 x0, .int .u8 x1, .int .u8 x2, .int .u8 x3, .int .i64 c.n, .int .i64 0, .int .i64 0, .int .i64 0, .int .i64 0, .int .i64 0, .int .i64 0] 44))
      have hL : w.heap.size + 1 + 1 < w1.heap.size := heap_lt KR1.out.2.2
      clear d0 d1 d2 d3 d4 f0 f1 f2 f3 KA0 KC0 KR0 KA1 KC1 KR1
      obtain ⟨N2, hN2⟩ : ∃ y, w.heap.size + 1 + 1 = y := ⟨_, rfl⟩
      rw [hN2] at KR2 hL ⊢
      obtain ⟨N1, hN1⟩ : ∃ y, w.heap.size + 1 = y := ⟨_, rfl⟩
      rw [hN1] at KC2 hN2 ⊢
      have ne1 : ¬ N1 = w1.heap.size := by omega
      have ne2 : ¬ N2 = w1.heap.size := by omega
      have geL : w.heap.size ≤ w1.heap.size := by omega
      have ne12 : ¬ N1 = N2 := by omega
      have HNE := hid (And.intro ne1 (And.intro ne2 (And.intro geL ne12)))
      clear hN1 hN2 hL ne1 ne2 geL ne12
      generalize w1.heap.size = L at KL2 HNE ⊢
      generalize w1.alloc (.cells #[.int .u8 x0, .int .u8 x1, .int .u8 x2, .int .u8 x3, .int .i64 c.n, .int .i64 0, .int .i64 0, .int .i64 0, .int .i64 0, .int .i64 0, .int .i64 0] 44) = W2 at KL2 KC2 KR2 ⊢
      go_upto_region 5 with fail
      refine wp_loop_rounds 3 ?_
      rw [rounds_succ]
      obtain ⟨d0, d1, d2, d3, d4⟩ := box_five KC2.out.2.2
      have fz := kp_froz KL2.out 5
      have cz := kp_cell (j := 5) (v := .int .i64 0) KL2.out rfl
      go_upto_region 9 with fail
      clear d0 d1 d2 d3 d4
      have KC3 := hid (kp_other (j := 5) (v := .int .i64 c.s0) KC2.out HNE.out.1 HNE.out.2.2.1)
      have KR3 := hid (kp_other (j := 5) (v := .int .i64 c.s0) KR2.out HNE.out.2.1 HNE.out.2.2.1)
      have KL3 : Hid (Kp w _ L (.cells #[.int .u8 x0, .int .u8 x1, .int .u8 x2, .int .u8 x3, .int .i64 c.n, .int .i64 c.s0, .int .i64 0, .int .i64 0, .int .i64 0, .int .i64 0, .int .i64 0] 44)) := hid (kp_set (j := 5) (v := .int .i64 c.s0) KL2.out)
      generalize (W2.setCell ⟨L, 5, none⟩ (.int .i64 c.s0)) = W3 at KC3 KR3 KL3 ⊢
      clear KC2 KR2 KL2 fz cz
      obtain ⟨bb, oo, r0, r1, ea, hbb, hr, g0, g1⟩ := HW.out.1.pick KC3.out.1 hpn0
      simp only [Nat.zero_mul, Nat.add_zero] at g0
      subst ea
      have er : r0 = z0 := (mn_at hr).symm.trans Z0.out
      rw [er] at g0
      clear hr g1 er
      have fz := kp_froz KL3.out 7
      have cz := kp_cell (j := 7) (v := .int .i64 0) KL3.out rfl
      go_upto_region 10 with fail
      clear g0
      have KC4 := hid (kp_other (j := 7) (v := .int .i64 z0) KC3.out HNE.out.1 HNE.out.2.2.1)
      have KR4 := hid (kp_other (j := 7) (v := .int .i64 z0) KR3.out HNE.out.2.1 HNE.out.2.2.1)
      have KL4 : Hid (Kp w _ L (.cells #[.int .u8 x0, .int .u8 x1, .int .u8 x2, .int .u8 x3, .int .i64 c.n, .int .i64 c.s0, .int .i64 0, .int .i64 z0, .int .i64 0, .int .i64 0, .int .i64 0] 44)) := hid (kp_set (j := 7) (v := .int .i64 z0) KL3.out)
      generalize (W3.setCell ⟨L, 7, none⟩ (.int .i64 z0)) = W4 at KC4 KR4 KL4 ⊢
      clear KC3 KR3 KL3 fz cz
      obtain ⟨bb', oo', r0', r1', ea, hbb', hr, g0, g1⟩ := HW.out.1.pick KC4.out.1 htn0
      cases ea
      have er : r0' = y0 := (mx_at (by have := E0.out; have := HT0.out; omega) hr).symm.trans Y0.out
      rw [er] at g0
      clear hr g1 er
      have fz := kp_froz KL4.out 9
      have cz := kp_cell (j := 9) (v := .int .i64 0) KL4.out rfl
      go_upto_region 6 with fail
      clear g0
      have KC5 := hid (kp_other (j := 9) (v := .int .i64 y0) KC4.out HNE.out.1 HNE.out.2.2.1)
      have KR5 := hid (kp_other (j := 9) (v := .int .i64 y0) KR4.out HNE.out.2.1 HNE.out.2.2.1)
      have KL5 : Hid (Kp w _ L (.cells #[.int .u8 x0, .int .u8 x1, .int .u8 x2, .int .u8 x3, .int .i64 c.n, .int .i64 c.s0, .int .i64 0, .int .i64 z0, .int .i64 0, .int .i64 y0, .int .i64 0] 44)) := hid (kp_set (j := 9) (v := .int .i64 y0) KL4.out)
      generalize (W4.setCell ⟨L, 9, none⟩ (.int .i64 y0)) = W5 at KC5 KR5 KL5 ⊢
      clear KC4 KR4 KL4 fz cz
      go_wp2
      rw [rounds_succ]
      obtain ⟨d0, d1, d2, d3, d4⟩ := box_five KC5.out.2.2
      have fz := kp_froz KL5.out 6
      have cz := kp_cell (j := 6) (v := .int .i64 0) KL5.out rfl
      go_upto_region 9 with fail
      clear d0 d1 d2 d3 d4
      have KC6 := hid (kp_other (j := 6) (v := .int .i64 c.s1) KC5.out HNE.out.1 HNE.out.2.2.1)
      have KR6 := hid (kp_other (j := 6) (v := .int .i64 c.s1) KR5.out HNE.out.2.1 HNE.out.2.2.1)
      have KL6 : Hid (Kp w _ L (.cells #[.int .u8 x0, .int .u8 x1, .int .u8 x2, .int .u8 x3, .int .i64 c.n, .int .i64 c.s0, .int .i64 c.s1, .int .i64 z0, .int .i64 0, .int .i64 y0, .int .i64 0] 44)) := hid (kp_set (j := 6) (v := .int .i64 c.s1) KL5.out)
      generalize (W5.setCell ⟨L, 6, none⟩ (.int .i64 c.s1)) = W6 at KC6 KR6 KL6 ⊢
      clear KC5 KR5 KL5 fz cz
      obtain ⟨bb, oo, r0, r1, ea, hbb, hr, g0, g1⟩ := HW.out.2.pick KC6.out.1 hpn1
      simp only [Nat.zero_mul, Nat.add_zero] at g0
      subst ea
      have er : r0 = z1 := (mn_at hr).symm.trans Z1.out
      rw [er] at g0
      clear hr g1 er
      have fz := kp_froz KL6.out 8
      have cz := kp_cell (j := 8) (v := .int .i64 0) KL6.out rfl
      go_upto_region 10 with fail
      clear g0
      have KC7 := hid (kp_other (j := 8) (v := .int .i64 z1) KC6.out HNE.out.1 HNE.out.2.2.1)
      have KR7 := hid (kp_other (j := 8) (v := .int .i64 z1) KR6.out HNE.out.2.1 HNE.out.2.2.1)
      have KL7 : Hid (Kp w _ L (.cells #[.int .u8 x0, .int .u8 x1, .int .u8 x2, .int .u8 x3, .int .i64 c.n, .int .i64 c.s0, .int .i64 c.s1, .int .i64 z0, .int .i64 z1, .int .i64 y0, .int .i64 0] 44)) := hid (kp_set (j := 8) (v := .int .i64 z1) KL6.out)
      generalize (W6.setCell ⟨L, 8, none⟩ (.int .i64 z1)) = W7 at KC7 KR7 KL7 ⊢
      clear KC6 KR6 KL6 fz cz
      obtain ⟨bb', oo', r0', r1', ea, hbb', hr, g0, g1⟩ := HW.out.2.pick KC7.out.1 htn1
      cases ea
      have er : r0' = y1 := (mx_at (by have := E1.out; have := HT1.out; omega) hr).symm.trans Y1.out
      rw [er] at g0
      clear hr g1 er
      have fz := kp_froz KL7.out 10
      have cz := kp_cell (j := 10) (v := .int .i64 0) KL7.out rfl
      go_upto_region 6 with fail
      clear g0
      have KC8 := hid (kp_other (j := 10) (v := .int .i64 y1) KC7.out HNE.out.1 HNE.out.2.2.1)
      have KR8 := hid (kp_other (j := 10) (v := .int .i64 y1) KR7.out HNE.out.2.1 HNE.out.2.2.1)
      have KL8 : Hid (Kp w _ L (.cells #[.int .u8 x0, .int .u8 x1, .int .u8 x2, .int .u8 x3, .int .i64 c.n, .int .i64 c.s0, .int .i64 c.s1, .int .i64 z0, .int .i64 z1, .int .i64 y0, .int .i64 y1] 44)) := hid (kp_set (j := 10) (v := .int .i64 y1) KL7.out)
      generalize (W7.setCell ⟨L, 10, none⟩ (.int .i64 y1)) = W8 at KC8 KR8 KL8 ⊢
      clear KC7 KR7 KL7 fz cz
      go_wp2
      rw [rounds_succ]
      obtain ⟨g0, g1, g2, g3, g4, g5, g6, g7, g8, g9, g10⟩ := box_elf KL8.out.2.2
      go_wp2_with (refine wpList_store_whole rfl 44 (.tmp 6) (.tmp 52) rfl N2 (lnC x0 x1 x2 x3 c.n c.s0 c.s1 z0 z1 y0 y1) rfl rfl 44 _ KR8.out.2.2 rfl (by show _ = some 11; exact size_ln) (lnC_one _ _ _ _ _ _ _ _ _ _ _) ?_; intro w9 hp9 hg9; have KR9 := hid (kp_at KR8.out hg9 hp9); clear hp9 hg9)
      (try simp only [Exit.inBlock, Exit.then])
      show bodyPost Try.prog Try.f22 _ _ _ _
      refine bodyPost_ret (results_cell_row (p := 6) rfl _ _ N2 _ (lnC x0 x1 x2 x3 c.n c.s0 c.s1 z0 z1 y0 y1) (0, 0) _ rfl KR9.out.2.2 Try.underlying44 rfl (by kernel_rfl)) rfl ?_
      exact ⟨rfl, KR9.out.1⟩

end Go.Proofs.Ytjkkajhjcinalaa

namespace Go.Proofs.Ytjkkajhjcinalaa
open Go.ChangeShapes Go.WideShapes Go.ChangeAt Go.RowKit
set_option linter.unusedVariables false
set_option linter.unusedSimpArgs false
set_option maxRecDepth 100000

theorem firstR {w : World} {a : Option Addr} {n c : Nat} {l : List Rw} (h : RRow w a n c l) (k : Nat) (hk : k ≤ n) :
    (∀ w', (Instr.slice 31 (.slice a n c) none (some (.int .i64 k)) none).run Try.prog w' = .ok (.slice a k c) w') ∧ RRow w a k c (l.take k) := by
  obtain ⟨h1, h2, h3, h4, h5⟩ := h
  refine ⟨fun w' => ?_, ?_⟩
  · rw [run_slice_h w' 31 a n c Try.underlying31 .i64 k (by omega) (by omega)]
    have hs : (sizeOf (Try.prog.elem 31)).run Try.prog w' = .ok 6 w' := Try.sizeOf53 w'
    rw [hs]
    cases a with
    | none => simp [Result.andThen, sliced]
    | some ad => simp [Result.andThen, sliced, Addr.add]
  · refine ⟨by rw [List.length_take]; omega, by omega, h3, h4, fun h0 => ?_⟩
    obtain ⟨b, off, e, hb, hl⟩ := h5 (by omega)
    refine ⟨b, off, e, hb, fun j r hj i v hi => hl j r ?_ i v hi⟩
    rw [List.getElem?_take] at hj
    by_cases hjk : j < k
    · rw [if_pos hjk] at hj; exact hj
    · rw [if_neg hjk] at hj; cases hj
theorem rrow_two (w : World) (r s : Rw) (N : Nat) (hN : w.heap.size = N) (t : TypeId) : RRow (w.alloc (.cells (rcs r ++ rcs s).toArray t)) (some ⟨N, 0, none⟩) 2 2 [r, s] := by
  subst hN
  refine ⟨rfl, Nat.le_refl _, by decide, (fun e => by cases e), fun _ => ⟨w.heap.size, 0, rfl, by simp, fun j q hj i v hi => ?_⟩⟩
  have hg := heap_alloc_new w (.cells (rcs r ++ rcs s).toArray t)
  rw [cell_of_row _ _ _ _ t (0, 0) hg]
  obtain ⟨a, b, c, d, e, f⟩ := r
  obtain ⟨a', b', c', d', e', f'⟩ := s
  match j, hj with
  | 0, hj =>
    simp at hj; subst hj
    match i, hi with
    | 0, hi => exact hi
    | 1, hi => exact hi
    | 2, hi => exact hi
    | 3, hi => exact hi
    | 4, hi => exact hi
    | 5, hi => exact hi
    | i + 6, hi => simp [rcs] at hi
  | 1, hj =>
    simp at hj; subst hj
    match i, hi with
    | 0, hi => exact hi
    | 1, hi => exact hi
    | 2, hi => exact hi
    | 3, hi => exact hi
    | 4, hi => exact hi
    | 5, hi => exact hi
    | i + 6, hi => simp [rcs] at hi
theorem eqP (a b c d x y z u : Int) (w : World) (n : Nat) : (Op.equalIn (n + 2) 28 (.agg #[.int .u8 a, .int .u8 b, .int .u8 c, .int .u8 d]) (.agg #[.int .u8 x, .int .u8 y, .int .u8 z, .int .u8 u])).run Try.prog w = .ok (a == x && (b == y && (c == z && d == u))) w := by
  have u3 := Try.underlying5
  have a3 := Try.isAgg5
  have z3 := Try.sizeOf5
  rw [show n + 2 = (n + 1) + 1 from rfl, Op.equalIn]
  simp only [Sem.run_bind, run_underlying Try.underlying28, Result.andThen_ok]
  simp only [Std.Legacy.Range.forIn_eq_forIn_range', Std.Legacy.Range.size, Nat.sub_zero, Nat.add_sub_cancel, Nat.div_one, List.range'_succ, List.range'_zero, List.forIn_cons, List.forIn_nil]
  go_simp
  by_cases h1 : a = x <;> by_cases h2 : b = y <;> by_cases h3 : c = z <;> by_cases h4 : d = u <;> simp [h1, h2, h3, h4]
def qp (a b c d x y z u : Int) : Bool := a == x && (b == y && (c == z && d == u))
theorem eqP4 (a b c d x y z u : Int) (w : World) : (Op.equalIn 10000 28 (.agg #[.int .u8 a, .int .u8 b, .int .u8 c, .int .u8 d]) (.agg #[.int .u8 x, .int .u8 y, .int .u8 z, .int .u8 u])).run Try.prog w = .ok (qp a b c d x y z u) w := eqP a b c d x y z u w 9998
theorem eqL (x0 x1 x2 x3 n s0 s1 a0 a1 b0 b1 : Int) (w : World) (k : Nat) : (Op.equalIn (k + 3) 44 (.agg (lnC x0 x1 x2 x3 n s0 s1 a0 a1 b0 b1)) (.agg (lnC x0 x1 x2 x3 n s0 s1 a0 a1 b0 b1))).run Try.prog w = .ok true w := by
  have a3 := Try.isAgg28
  have z3 := Try.sizeOf28
  have a4 := Try.isAgg22
  have z4 := Try.sizeOf22
  have a5 := Try.isAgg2
  have z5 := Try.sizeOf2
  have u5 := Try.underlying2
  have e1 := eqP x0 x1 x2 x3 x0 x1 x2 x3 w k
  have e2 := eqM s0 s1 s0 s1 w k
  have e3 := eqM a0 a1 a0 a1 w k
  have e4 := eqM b0 b1 b0 b1 w k
  rw [show k + 3 = (k + 2) + 1 from rfl, Op.equalIn]
  simp only [Sem.run_bind, run_underlying Try.underlying44, Result.andThen_ok]
  have hs : Try.prog.stoodInHeld 44 = false := by kernel_rfl
  have hp : Sem.run Try.prog program w = .ok Try.prog w := rfl
  simp only [hp, Result.andThen_ok, hs, Bool.false_eq_true, if_false, Sem.run_bind]
  simp only [← Array.forIn_toList, List.forIn_cons, List.forIn_nil]
  go_simp
theorem eqL2 (x0 x1 x2 x3 n s0 s1 a0 a1 b0 b1 : Int) (w : World) : (Op.equalIn 10000 44 (.agg (lnC x0 x1 x2 x3 n s0 s1 a0 a1 b0 b1)) (.agg (lnC x0 x1 x2 x3 n s0 s1 a0 a1 b0 b1))).run Try.prog w = .ok true w := eqL x0 x1 x2 x3 n s0 s1 a0 a1 b0 b1 w 9997

set_option maxHeartbeats 4000000 in
theorem light_m (c : Cl) (a0 : Option Addr) (p0 k0 : Nat) (a1 : Option Addr) (p1 k1 : Nat) (v : Bool) (w : World) (h0 : p0 ≤ 9223372036854775807) (h1 : p1 ≤ 9223372036854775807) (hv : Hid (decide (p0 ≤ 60 ∧ p1 ≤ 60) = v)) :
    Calls Try.prog 14 #[.agg #[.int .i64 c.n, .int .i64 c.s0, .int .i64 c.s1, .slice a0 p0 k0, .slice a1 p1 k1]] w fun e w' => e = .returned (.bool v) ∧ Below w.heap.size w w' := by
  have K0 := hid (kp_new w (.cells #[.int .i64 c.n, .int .i64 c.s0, .int .i64 c.s1, .slice a0 p0 k0, .slice a1 p1 k1] 26))
  obtain ⟨X, hX⟩ : ∃ y, max (0 : Int) (p0 : Int) = y := ⟨_, rfl⟩
  obtain ⟨Y, hY⟩ : ∃ y, max X (p1 : Int) = y := ⟨_, rfl⟩
  have hd : decide (Y ≤ 60) = v := by rw [← hv.out]; exact decide_eq_decide.2 (by omega)
  have hX2 : (p0 : Int) = X := by omega
  have e1 : max (0 : Int) (p0 : Int) = (p0 : Int) := by omega
  have FX := hid hX2
  clear hX hX2 e1 hv
  rw [← FX.out] at hY
  clear FX
  go_enter Try.func14, Try.ntmps14
  go_upto_region 1 with fail
  generalize w.alloc (.cells #[.int .i64 c.n, .int .i64 c.s0, .int .i64 c.s1, .slice a0 p0 k0, .slice a1 p1 k1] 26) = W at K0 ⊢
  obtain ⟨d0, d1, d2, d3, d4⟩ := box_five K0.out.2.2
  go_upto_region 3 with fail
  refine wp_loop_rounds 3 ?_
  rw [rounds_succ]
  go_wp2
  rw [rounds_succ]
  go_wp2
  rw [rounds_succ]
  go_wp2
  go_ret
  exact ⟨by first | rfl | exact ret_bool hd, K0.out.1⟩

end Go.Proofs.Ytjkkajhjcinalaa

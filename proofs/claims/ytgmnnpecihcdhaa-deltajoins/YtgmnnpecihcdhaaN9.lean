/-
  Which line is ahead: what Ahead of cell and of the document return.
  Conditions: as each theorem states them.
-/
import Derived.Test.YtgmnnpecihcdhaaW9
import Derived.Test.YtgmnnpecihcdhaaKG
import Derived.Test.YtgmnnpecihcdhaaKF
namespace Go.Proofs.Ytgmnnpecihcdhaa
open Go.ChangeShapes Go.WideShapes Go.ChangeAt Go.RowKit
set_option linter.unusedVariables false
set_option linter.unusedSimpArgs false
set_option maxRecDepth 100000

/-- A line's numbers. -/
structure Lv where
  n : Int
  s0 : Int
  s1 : Int
  a0 : Int
  a1 : Int
  b0 : Int
  b1 : Int
def okl (x : Lv) : Prop := I64 x.n ∧ (I64 x.s0 ∧ I64 x.s1) ∧ (I64 x.a0 ∧ I64 x.a1) ∧ I64 x.b0 ∧ I64 x.b1
def lvi (i u v : Int) : Int := if i = 0 then u else v
def mx1 (n : Int) : Int := max n 1
def fv (f i : Int) (x : Lv) : Int := if f = 1 then x.n else if i < 0 ∨ 2 ≤ i then 0 else if f = 2 then lvi i x.s0 x.s1 else if f = 3 then lvi i x.a0 x.a1 else if f = 4 then lvi i x.b0 x.b1 else if f = 5 then lvi i x.s0 x.s1 else 0
def fw (f i : Int) (x : Lv) : Int := if f = 1 then 1 else if i < 0 ∨ 2 ≤ i then 1 else if f = 5 then mx1 x.n else 1
def av (f i : Int) (x y : Lv) : Int := calc.sg (fv f i y * fw f i x) (fv f i x * fw f i y)
theorem mx1_pos (n : Int) : 1 ≤ mx1 n := by unfold mx1; omega
theorem fw_pos (f i : Int) (x : Lv) : 1 ≤ fw f i x := by
  have := mx1_pos x.n
  unfold fw
  split
  · omega
  · split
    · omega
    · split <;> omega
theorem sg_cases (a b : Int) : (a < b ∧ calc.sg a b = -1) ∨ (a = b ∧ calc.sg a b = 0) ∨ (b < a ∧ calc.sg a b = 1) := by
  unfold calc.sg
  by_cases h : a < b
  · exact .inl ⟨h, by rw [if_pos h]⟩
  · by_cases k : b < a
    · exact .inr (.inr ⟨k, by rw [if_neg h, if_pos k]⟩)
    · exact .inr (.inl ⟨by omega, by rw [if_neg h, if_neg k]⟩)
theorem sg_swap (a b : Int) : calc.sg b a = - calc.sg a b := by
  rcases sg_cases a b with ⟨h, e⟩ | ⟨h, e⟩ | ⟨h, e⟩ <;> rcases sg_cases b a with ⟨k, g⟩ | ⟨k, g⟩ | ⟨k, g⟩ <;> rw [e, g] <;> omega
theorem av_swap (f i : Int) (x y : Lv) : av f i y x = - av f i x y := by unfold av; exact sg_swap _ _
theorem av_bd (f i : Int) (x y : Lv) : -1 ≤ av f i x y ∧ av f i x y ≤ 1 := by
  unfold av
  rcases sg_cases (fv f i y * fw f i x) (fv f i x * fw f i y) with ⟨h, e⟩ | ⟨h, e⟩ | ⟨h, e⟩ <;> rw [e] <;> omega
/-- Two fractions held against a third one. -/
theorem frac_le {a b c u v w : Int} (hu : 1 ≤ u) (hv : 1 ≤ v) (hw : 1 ≤ w) (h : b * u ≤ a * v) (k : c * v ≤ b * w) : c * u ≤ a * w ∧ (b * u < a * v ∨ c * v < b * w → c * u < a * w) := by
  have h1 : b * u * w ≤ a * v * w := Int.mul_le_mul_of_nonneg_right h (by omega)
  have k1 : c * v * u ≤ b * w * u := Int.mul_le_mul_of_nonneg_right k (by omega)
  have e1 : b * u * w = b * w * u := by rw [Int.mul_assoc, Int.mul_comm u w, ← Int.mul_assoc]
  have e2 : c * v * u = c * u * v := by rw [Int.mul_assoc, Int.mul_comm v u, ← Int.mul_assoc]
  have e3 : a * v * w = a * w * v := by rw [Int.mul_assoc, Int.mul_comm v w, ← Int.mul_assoc]
  rw [e1, e3] at h1
  rw [e2] at k1
  have hh : c * u * v ≤ a * w * v := Int.le_trans k1 h1
  refine ⟨Int.le_of_mul_le_mul_right hh (by omega), fun g => ?_⟩
  have hs : c * u * v < a * w * v := by
    rcases g with g | g
    · have g1 : b * u * w < a * v * w := Int.mul_lt_mul_of_pos_right g (by omega)
      rw [e1, e3] at g1
      omega
    · have g1 : c * v * u < b * w * u := Int.mul_lt_mul_of_pos_right g (by omega)
      rw [e2] at g1
      omega
  exact Int.lt_of_mul_lt_mul_right hs (by omega)
theorem av_le {f i : Int} {x y z : Lv} (p : av f i x y ≤ 0) (q : av f i y z ≤ 0) : av f i x z ≤ 0 ∧ (av f i x y + av f i y z < 0 → av f i x z < 0) := by
  have hx := fw_pos f i x
  have hy := fw_pos f i y
  have hz := fw_pos f i z
  unfold av at *
  have h1 : fv f i y * fw f i x ≤ fv f i x * fw f i y := by rcases sg_cases (fv f i y * fw f i x) (fv f i x * fw f i y) with ⟨h, e⟩ | ⟨h, e⟩ | ⟨h, e⟩ <;> omega
  have h2 : fv f i z * fw f i y ≤ fv f i y * fw f i z := by rcases sg_cases (fv f i z * fw f i y) (fv f i y * fw f i z) with ⟨h, e⟩ | ⟨h, e⟩ | ⟨h, e⟩ <;> omega
  obtain ⟨a, b⟩ := frac_le hx hy hz h1 h2
  rcases sg_cases (fv f i z * fw f i x) (fv f i x * fw f i z) with ⟨h, e⟩ | ⟨h, e⟩ | ⟨h, e⟩
  · rw [e]; exact ⟨by omega, fun _ => by omega⟩
  · rw [e]
    refine ⟨by omega, fun g => ?_⟩
    exfalso
    have : fv f i y * fw f i x < fv f i x * fw f i y ∨ fv f i z * fw f i y < fv f i y * fw f i z := by
      rcases sg_cases (fv f i y * fw f i x) (fv f i x * fw f i y) with ⟨h, e⟩ | ⟨h, e⟩ | ⟨h, e⟩ <;> rcases sg_cases (fv f i z * fw f i y) (fv f i y * fw f i z) with ⟨h', e'⟩ | ⟨h', e'⟩ | ⟨h', e'⟩ <;> first | exact .inl h | exact .inr h' | (rw [e, e'] at g; omega)
    have := b this
    omega
  · omega
theorem av_ge {f i : Int} {x y z : Lv} (p : 0 ≤ av f i x y) (q : 0 ≤ av f i y z) : 0 ≤ av f i x z ∧ (0 < av f i x y + av f i y z → 0 < av f i x z) := by
  have h := av_le (f := f) (i := i) (x := z) (y := y) (z := x) (by rw [av_swap f i y z]; omega) (by rw [av_swap f i x y]; omega)
  rw [av_swap f i x z, av_swap f i y z, av_swap f i x y] at h
  exact ⟨by omega, fun g => by have := h.2 (by omega); omega⟩
theorem sg1 (a b : Int) : calc.sg (a * 1) (b * 1) = calc.sg a b := by rw [Int.mul_one, Int.mul_one]
theorem av_1 (i : Int) (x y : Lv) : av 1 i x y = calc.sg y.n x.n := by unfold av fv fw; simp
theorem av_out {f i : Int} (hf : ¬ f = 1) (hi : i < 0 ∨ 2 ≤ i) (x y : Lv) : av f i x y = 0 := by unfold av fv fw; simp [hf, hi, calc.sg]
theorem av_none {f i : Int} (h1 : ¬ f = 1) (h2 : ¬ f = 2) (h3 : ¬ f = 3) (h4 : ¬ f = 4) (h5 : ¬ f = 5) (x y : Lv) : av f i x y = 0 := by unfold av fv fw; simp [h1, h2, h3, h4, h5, calc.sg]
theorem av_20 (x y : Lv) : av 2 0 x y = calc.sg y.s0 x.s0 := by unfold av fv fw lvi; simp
theorem av_21 (x y : Lv) : av 2 1 x y = calc.sg y.s1 x.s1 := by unfold av fv fw lvi; simp
theorem av_30 (x y : Lv) : av 3 0 x y = calc.sg y.a0 x.a0 := by unfold av fv fw lvi; simp
theorem av_31 (x y : Lv) : av 3 1 x y = calc.sg y.a1 x.a1 := by unfold av fv fw lvi; simp
theorem av_40 (x y : Lv) : av 4 0 x y = calc.sg y.b0 x.b0 := by unfold av fv fw lvi; simp
theorem av_41 (x y : Lv) : av 4 1 x y = calc.sg y.b1 x.b1 := by unfold av fv fw lvi; simp
theorem av_50 (x y : Lv) : av 5 0 x y = calc.sg (y.s0 * mx1 x.n) (x.s0 * mx1 y.n) := by unfold av fv fw lvi; simp
theorem av_51 (x y : Lv) : av 5 1 x y = calc.sg (y.s1 * mx1 x.n) (x.s1 * mx1 y.n) := by unfold av fv fw lvi; simp
theorem ccmp_m (a b C : Int) (w : World) (hC : Hid (calc.sg a b = C)) : Calls Try.prog 71 #[.int .i64 a, .int .i64 b] w fun e w' => e = .returned (.int .i64 C) ∧ Below w.heap.size w w' := by
  refine (calc.cmpi_any a b w).mono ?_
  rintro e w' ⟨rfl, rfl⟩
  exact ⟨by rw [hC.out], Below.refl _ _⟩
theorem cCmp_m (a b c d C : Int) (w : World) (ha : I64 a) (hb : I64 b) (hc : I64 c) (hd : I64 d) (hC : Hid (calc.sg (a * b) (c * d) = C)) : Calls Try.prog 72 #[.int .i64 a, .int .i64 b, .int .i64 c, .int .i64 d] w fun e w' => e = .returned (.int .i64 C) ∧ Below w.heap.size w w' := by
  have := calc.cmp_any a b c d w ha hb hc hd
  rw [hC.out] at this
  exact this
theorem mx1_i64 {n : Int} (h : I64 n) : I64 (mx1 n) := by unfold I64 mx1 at *; omega
/-- Two lines in boxes. -/
theorem Kq.cell1 {w W : World} {cs ds : Array Value} {t t' : TypeId} {j : Nat} {v : Value} (h : Kq w W (.cells cs t) (.cells ds t')) (hj : cs[j]? = some v) : W.cell? ⟨w.heap.size, j, none⟩ = some v := kp_cell h.1 hj
theorem Kq.cell2 {w W : World} {cs ds : Array Value} {t t' : TypeId} {j : Nat} {v : Value} (h : Kq w W (.cells cs t) (.cells ds t')) (hj : ds[j]? = some v) : W.cell? ⟨w.heap.size + 1, j, none⟩ = some v := kp_cell h.2 hj

set_option maxHeartbeats 32000000 in
theorem cahead_m (f i : Int) (x y : Lv) (u0 u1 u2 u3 v0 v1 v2 v3 C : Int) (w : World) (hx : okl x) (hy : okl y) (hC : Hid (av f i x y = C)) :
    Calls Try.prog 28 #[.int .i64 f, .int .i64 i, .agg #[.int .u8 u0, .int .u8 u1, .int .u8 u2, .int .u8 u3, .int .i64 x.n, .int .i64 x.s0, .int .i64 x.s1, .int .i64 x.a0, .int .i64 x.a1, .int .i64 x.b0, .int .i64 x.b1], .agg #[.int .u8 v0, .int .u8 v1, .int .u8 v2, .int .u8 v3, .int .i64 y.n, .int .i64 y.s0, .int .i64 y.s1, .int .i64 y.a0, .int .i64 y.a1, .int .i64 y.b0, .int .i64 y.b1]] w fun e w' => e = .returned (.int .i64 C) ∧ Below w.heap.size w w' := by
  have HX := hid hx
  have HY := hid hy
  have HC := hC
  have K0 := hid (kq_new w (.cells #[.int .u8 u0, .int .u8 u1, .int .u8 u2, .int .u8 u3, .int .i64 x.n, .int .i64 x.s0, .int .i64 x.s1, .int .i64 x.a0, .int .i64 x.a1, .int .i64 x.b0, .int .i64 x.b1] 44) (.cells #[.int .u8 v0, .int .u8 v1, .int .u8 v2, .int .u8 v3, .int .i64 y.n, .int .i64 y.s0, .int .i64 y.s1, .int .i64 y.a0, .int .i64 y.a1, .int .i64 y.b0, .int .i64 y.b1] 44))
  clear hx hy hC
  by_cases h1 : f = 1
  · subst h1
    go_enter Try.func28, Try.ntmps28
    go_upto_region 1 with fail
    generalize (w.alloc (.cells #[.int .u8 u0, .int .u8 u1, .int .u8 u2, .int .u8 u3, .int .i64 x.n, .int .i64 x.s0, .int .i64 x.s1, .int .i64 x.a0, .int .i64 x.a1, .int .i64 x.b0, .int .i64 x.b1] 44)).alloc (.cells #[.int .u8 v0, .int .u8 v1, .int .u8 v2, .int .u8 v3, .int .i64 y.n, .int .i64 y.s0, .int .i64 y.s1, .int .i64 y.a0, .int .i64 y.a1, .int .i64 y.b0, .int .i64 y.b1] 44) = W at K0 ⊢
    have c1 := K0.out.cell1 (j := 4) (v := .int .i64 x.n) rfl
    have c2 := K0.out.cell2 (j := 4) (v := .int .i64 y.n) rfl
    go_wp2_with (go_at_call 71; refine (ccmp_m _ _ _ _ (hid rfl)).mono ?_; rintro e w1 ⟨rfl, hb1⟩)
    go_ret
    exact ⟨ret_int (by rw [← HC.out, av_1]), bt K0.out.1.1 hb1⟩
  · by_cases hi : i < 0 ∨ 2 ≤ i
    · have hf1 : (f == 1) = false := by simp [h1]
      have HV := hid (av_out h1 hi x y)
      by_cases hi0 : i < 0
      · have q1 : decide (i < 0) = true := decide_eq_true hi0
        clear h1 hi
        go_enter Try.func28, Try.ntmps28
        go_upto_region 1 with fail
        generalize (w.alloc (.cells #[.int .u8 u0, .int .u8 u1, .int .u8 u2, .int .u8 u3, .int .i64 x.n, .int .i64 x.s0, .int .i64 x.s1, .int .i64 x.a0, .int .i64 x.a1, .int .i64 x.b0, .int .i64 x.b1] 44)).alloc (.cells #[.int .u8 v0, .int .u8 v1, .int .u8 v2, .int .u8 v3, .int .i64 y.n, .int .i64 y.s0, .int .i64 y.s1, .int .i64 y.a0, .int .i64 y.a1, .int .i64 y.b0, .int .i64 y.b1] 44) = W at K0 ⊢
        go_wp2
        go_ret
        exact ⟨ret_int (by rw [← HC.out, HV.out]), K0.out.1.1⟩
      · have q1 : decide (i < 0) = false := decide_eq_false hi0
        have q2 : decide (2 ≤ i) = true := decide_eq_true (by omega)
        clear h1 hi
        go_enter Try.func28, Try.ntmps28
        go_upto_region 1 with fail
        generalize (w.alloc (.cells #[.int .u8 u0, .int .u8 u1, .int .u8 u2, .int .u8 u3, .int .i64 x.n, .int .i64 x.s0, .int .i64 x.s1, .int .i64 x.a0, .int .i64 x.a1, .int .i64 x.b0, .int .i64 x.b1] 44)).alloc (.cells #[.int .u8 v0, .int .u8 v1, .int .u8 v2, .int .u8 v3, .int .i64 y.n, .int .i64 y.s0, .int .i64 y.s1, .int .i64 y.a0, .int .i64 y.a1, .int .i64 y.b0, .int .i64 y.b1] 44) = W at K0 ⊢
        go_wp2
        go_ret
        exact ⟨ret_int (by rw [← HC.out, HV.out]), K0.out.1.1⟩
    · have hi2 : i = 0 ∨ i = 1 := by omega
      clear hi
      by_cases h2 : f = 2
      · subst h2
        rcases hi2 with rfl | rfl
        · skip
          go_enter Try.func28, Try.ntmps28
          go_upto_region 1 with fail
          generalize (w.alloc (.cells #[.int .u8 u0, .int .u8 u1, .int .u8 u2, .int .u8 u3, .int .i64 x.n, .int .i64 x.s0, .int .i64 x.s1, .int .i64 x.a0, .int .i64 x.a1, .int .i64 x.b0, .int .i64 x.b1] 44)).alloc (.cells #[.int .u8 v0, .int .u8 v1, .int .u8 v2, .int .u8 v3, .int .i64 y.n, .int .i64 y.s0, .int .i64 y.s1, .int .i64 y.a0, .int .i64 y.a1, .int .i64 y.b0, .int .i64 y.b1] 44) = W at K0 ⊢
          have KS : Hid (∀ z, Below W.heap.size W z → Below W.heap.size W z ∧ z.cell? ⟨w.heap.size + 1, 5, none⟩ = some (.int .i64 y.s0) ∧ z.cell? ⟨w.heap.size, 5, none⟩ = some (.int .i64 x.s0)) := hid (fun z hb => ⟨hb, (K0.out.step hb).cell2 rfl, (K0.out.step hb).cell1 rfl⟩)
          go_wp2
          go_region_held3 (fun z => Below W.heap.size W z ∧ z.cell? ⟨w.heap.size + 1, 5, none⟩ = some (.int .i64 y.s0) ∧ z.cell? ⟨w.heap.size, 5, none⟩ = some (.int .i64 x.s0))
            (first | assumption | exact keep_drew KS | exact keep_step (by assumption) (by assumption) KS)
            (first
              | (go_at_call 71; refine (ccmp_m _ _ _ _ (hid rfl)).mono ?_; rintro e w1 ⟨rfl, hb1⟩)
            )
          go_wp2
          go_ret
          exact ⟨ret_int (by rw [← HC.out, av_20]), bt K0.out.1.1 (undrew hb1)⟩
        · skip
          go_enter Try.func28, Try.ntmps28
          go_upto_region 1 with fail
          generalize (w.alloc (.cells #[.int .u8 u0, .int .u8 u1, .int .u8 u2, .int .u8 u3, .int .i64 x.n, .int .i64 x.s0, .int .i64 x.s1, .int .i64 x.a0, .int .i64 x.a1, .int .i64 x.b0, .int .i64 x.b1] 44)).alloc (.cells #[.int .u8 v0, .int .u8 v1, .int .u8 v2, .int .u8 v3, .int .i64 y.n, .int .i64 y.s0, .int .i64 y.s1, .int .i64 y.a0, .int .i64 y.a1, .int .i64 y.b0, .int .i64 y.b1] 44) = W at K0 ⊢
          have KS : Hid (∀ z, Below W.heap.size W z → Below W.heap.size W z ∧ z.cell? ⟨w.heap.size + 1, 6, none⟩ = some (.int .i64 y.s1) ∧ z.cell? ⟨w.heap.size, 6, none⟩ = some (.int .i64 x.s1)) := hid (fun z hb => ⟨hb, (K0.out.step hb).cell2 rfl, (K0.out.step hb).cell1 rfl⟩)
          go_wp2
          go_region_held3 (fun z => Below W.heap.size W z ∧ z.cell? ⟨w.heap.size + 1, 6, none⟩ = some (.int .i64 y.s1) ∧ z.cell? ⟨w.heap.size, 6, none⟩ = some (.int .i64 x.s1))
            (first | assumption | exact keep_drew KS | exact keep_step (by assumption) (by assumption) KS)
            (first
              | (go_at_call 71; refine (ccmp_m _ _ _ _ (hid rfl)).mono ?_; rintro e w1 ⟨rfl, hb1⟩)
            )
          go_wp2
          go_ret
          exact ⟨ret_int (by rw [← HC.out, av_21]), bt K0.out.1.1 (undrew hb1)⟩
      · skip
        by_cases h3 : f = 3
        · subst h3
          rcases hi2 with rfl | rfl
          · skip
            go_enter Try.func28, Try.ntmps28
            go_upto_region 1 with fail
            generalize (w.alloc (.cells #[.int .u8 u0, .int .u8 u1, .int .u8 u2, .int .u8 u3, .int .i64 x.n, .int .i64 x.s0, .int .i64 x.s1, .int .i64 x.a0, .int .i64 x.a1, .int .i64 x.b0, .int .i64 x.b1] 44)).alloc (.cells #[.int .u8 v0, .int .u8 v1, .int .u8 v2, .int .u8 v3, .int .i64 y.n, .int .i64 y.s0, .int .i64 y.s1, .int .i64 y.a0, .int .i64 y.a1, .int .i64 y.b0, .int .i64 y.b1] 44) = W at K0 ⊢
            have KS : Hid (∀ z, Below W.heap.size W z → Below W.heap.size W z ∧ z.cell? ⟨w.heap.size + 1, 7, none⟩ = some (.int .i64 y.a0) ∧ z.cell? ⟨w.heap.size, 7, none⟩ = some (.int .i64 x.a0)) := hid (fun z hb => ⟨hb, (K0.out.step hb).cell2 rfl, (K0.out.step hb).cell1 rfl⟩)
            go_wp2
            go_region_held3 (fun z => Below W.heap.size W z ∧ z.cell? ⟨w.heap.size + 1, 7, none⟩ = some (.int .i64 y.a0) ∧ z.cell? ⟨w.heap.size, 7, none⟩ = some (.int .i64 x.a0))
              (first | assumption | exact keep_drew KS | exact keep_step (by assumption) (by assumption) KS)
              (first
                | (go_at_call 71; refine (ccmp_m _ _ _ _ (hid rfl)).mono ?_; rintro e w1 ⟨rfl, hb1⟩)
              )
            go_wp2
            go_ret
            exact ⟨ret_int (by rw [← HC.out, av_30]), bt K0.out.1.1 (undrew hb1)⟩
          · skip
            go_enter Try.func28, Try.ntmps28
            go_upto_region 1 with fail
            generalize (w.alloc (.cells #[.int .u8 u0, .int .u8 u1, .int .u8 u2, .int .u8 u3, .int .i64 x.n, .int .i64 x.s0, .int .i64 x.s1, .int .i64 x.a0, .int .i64 x.a1, .int .i64 x.b0, .int .i64 x.b1] 44)).alloc (.cells #[.int .u8 v0, .int .u8 v1, .int .u8 v2, .int .u8 v3, .int .i64 y.n, .int .i64 y.s0, .int .i64 y.s1, .int .i64 y.a0, .int .i64 y.a1, .int .i64 y.b0, .int .i64 y.b1] 44) = W at K0 ⊢
            have KS : Hid (∀ z, Below W.heap.size W z → Below W.heap.size W z ∧ z.cell? ⟨w.heap.size + 1, 8, none⟩ = some (.int .i64 y.a1) ∧ z.cell? ⟨w.heap.size, 8, none⟩ = some (.int .i64 x.a1)) := hid (fun z hb => ⟨hb, (K0.out.step hb).cell2 rfl, (K0.out.step hb).cell1 rfl⟩)
            go_wp2
            go_region_held3 (fun z => Below W.heap.size W z ∧ z.cell? ⟨w.heap.size + 1, 8, none⟩ = some (.int .i64 y.a1) ∧ z.cell? ⟨w.heap.size, 8, none⟩ = some (.int .i64 x.a1))
              (first | assumption | exact keep_drew KS | exact keep_step (by assumption) (by assumption) KS)
              (first
                | (go_at_call 71; refine (ccmp_m _ _ _ _ (hid rfl)).mono ?_; rintro e w1 ⟨rfl, hb1⟩)
              )
            go_wp2
            go_ret
            exact ⟨ret_int (by rw [← HC.out, av_31]), bt K0.out.1.1 (undrew hb1)⟩
        · skip
          by_cases h4 : f = 4
          · subst h4
            rcases hi2 with rfl | rfl
            · skip
              go_enter Try.func28, Try.ntmps28
              go_upto_region 1 with fail
              generalize (w.alloc (.cells #[.int .u8 u0, .int .u8 u1, .int .u8 u2, .int .u8 u3, .int .i64 x.n, .int .i64 x.s0, .int .i64 x.s1, .int .i64 x.a0, .int .i64 x.a1, .int .i64 x.b0, .int .i64 x.b1] 44)).alloc (.cells #[.int .u8 v0, .int .u8 v1, .int .u8 v2, .int .u8 v3, .int .i64 y.n, .int .i64 y.s0, .int .i64 y.s1, .int .i64 y.a0, .int .i64 y.a1, .int .i64 y.b0, .int .i64 y.b1] 44) = W at K0 ⊢
              have KS : Hid (∀ z, Below W.heap.size W z → Below W.heap.size W z ∧ z.cell? ⟨w.heap.size + 1, 9, none⟩ = some (.int .i64 y.b0) ∧ z.cell? ⟨w.heap.size, 9, none⟩ = some (.int .i64 x.b0)) := hid (fun z hb => ⟨hb, (K0.out.step hb).cell2 rfl, (K0.out.step hb).cell1 rfl⟩)
              go_wp2
              go_region_held3 (fun z => Below W.heap.size W z ∧ z.cell? ⟨w.heap.size + 1, 9, none⟩ = some (.int .i64 y.b0) ∧ z.cell? ⟨w.heap.size, 9, none⟩ = some (.int .i64 x.b0))
                (first | assumption | exact keep_drew KS | exact keep_step (by assumption) (by assumption) KS)
                (first
                  | (go_at_call 71; refine (ccmp_m _ _ _ _ (hid rfl)).mono ?_; rintro e w1 ⟨rfl, hb1⟩)
                )
              go_wp2
              go_ret
              exact ⟨ret_int (by rw [← HC.out, av_40]), bt K0.out.1.1 (undrew hb1)⟩
            · skip
              go_enter Try.func28, Try.ntmps28
              go_upto_region 1 with fail
              generalize (w.alloc (.cells #[.int .u8 u0, .int .u8 u1, .int .u8 u2, .int .u8 u3, .int .i64 x.n, .int .i64 x.s0, .int .i64 x.s1, .int .i64 x.a0, .int .i64 x.a1, .int .i64 x.b0, .int .i64 x.b1] 44)).alloc (.cells #[.int .u8 v0, .int .u8 v1, .int .u8 v2, .int .u8 v3, .int .i64 y.n, .int .i64 y.s0, .int .i64 y.s1, .int .i64 y.a0, .int .i64 y.a1, .int .i64 y.b0, .int .i64 y.b1] 44) = W at K0 ⊢
              have KS : Hid (∀ z, Below W.heap.size W z → Below W.heap.size W z ∧ z.cell? ⟨w.heap.size + 1, 10, none⟩ = some (.int .i64 y.b1) ∧ z.cell? ⟨w.heap.size, 10, none⟩ = some (.int .i64 x.b1)) := hid (fun z hb => ⟨hb, (K0.out.step hb).cell2 rfl, (K0.out.step hb).cell1 rfl⟩)
              go_wp2
              go_region_held3 (fun z => Below W.heap.size W z ∧ z.cell? ⟨w.heap.size + 1, 10, none⟩ = some (.int .i64 y.b1) ∧ z.cell? ⟨w.heap.size, 10, none⟩ = some (.int .i64 x.b1))
                (first | assumption | exact keep_drew KS | exact keep_step (by assumption) (by assumption) KS)
                (first
                  | (go_at_call 71; refine (ccmp_m _ _ _ _ (hid rfl)).mono ?_; rintro e w1 ⟨rfl, hb1⟩)
                )
              go_wp2
              go_ret
              exact ⟨ret_int (by rw [← HC.out, av_41]), bt K0.out.1.1 (undrew hb1)⟩
          · skip
            by_cases h5 : f = 5
            · subst h5
              obtain ⟨X, hX⟩ : ∃ z, mx1 x.n = z := ⟨_, rfl⟩
              obtain ⟨Y, hY⟩ : ∃ z, mx1 y.n = z := ⟨_, rfl⟩
              have eX : max x.n 1 = X := hX
              have eY : max y.n 1 = Y := hY
              have IX : Hid (I64 X) := hid (by rw [← hX]; exact mx1_i64 HX.out.1)
              have IY : Hid (I64 Y) := hid (by rw [← hY]; exact mx1_i64 HY.out.1)
              have FX := hid hX
              have FY := hid hY
              clear hX hY
              rcases hi2 with rfl | rfl
              · skip
                go_enter Try.func28, Try.ntmps28
                go_upto_region 1 with fail
                generalize (w.alloc (.cells #[.int .u8 u0, .int .u8 u1, .int .u8 u2, .int .u8 u3, .int .i64 x.n, .int .i64 x.s0, .int .i64 x.s1, .int .i64 x.a0, .int .i64 x.a1, .int .i64 x.b0, .int .i64 x.b1] 44)).alloc (.cells #[.int .u8 v0, .int .u8 v1, .int .u8 v2, .int .u8 v3, .int .i64 y.n, .int .i64 y.s0, .int .i64 y.s1, .int .i64 y.a0, .int .i64 y.a1, .int .i64 y.b0, .int .i64 y.b1] 44) = W at K0 ⊢
                have KS : Hid (∀ z, Below W.heap.size W z → (fun z => Below W.heap.size W z ∧ z.cell? ⟨w.heap.size + 1, 5, none⟩ = some (.int .i64 y.s0) ∧ z.cell? ⟨w.heap.size, 4, none⟩ = some (.int .i64 x.n) ∧ z.cell? ⟨w.heap.size, 5, none⟩ = some (.int .i64 x.s0) ∧ z.cell? ⟨w.heap.size + 1, 4, none⟩ = some (.int .i64 y.n)) z) := hid (fun z hb => ⟨hb, (K0.out.step hb).cell2 rfl, (K0.out.step hb).cell1 rfl, (K0.out.step hb).cell1 rfl, (K0.out.step hb).cell2 rfl⟩)
                go_wp2
                refine wp_region_noPanic ?_
                refine wp_region_held_drew (S := fun z => Below W.heap.size W z ∧ z.cell? ⟨w.heap.size + 1, 5, none⟩ = some (.int .i64 y.s0) ∧ z.cell? ⟨w.heap.size, 4, none⟩ = some (.int .i64 x.n) ∧ z.cell? ⟨w.heap.size, 5, none⟩ = some (.int .i64 x.s0) ∧ z.cell? ⟨w.heap.size + 1, 4, none⟩ = some (.int .i64 y.n)) (by kernel_rfl) (keep_drew KS) (fun hHeld => ?_)
                refine wpAnyH_take (i := 0) (v := ?_) (by simp only [List.getElem?_toArray, List.getElem?_cons_succ, List.getElem?_cons_zero]; exact rfl) (by kernel_rfl) (by kernel_rfl) (by kernel_rfl) (fun _ _ _ h => h) (Or.inl ⟨by rfl, ?_⟩) (by assumption) ?_
                rotate_left
                · intro w hSw
                  try dsimp only at hSw
                  go_simp
                  try with_reducible rfl
                try simp only [Act.put, List.setIfInBounds_toArray, List.set_cons_zero, List.set_cons_succ]
                refine wpAnyH_take (i := 1) (v := ?_) (by simp only [List.getElem?_toArray, List.getElem?_cons_succ, List.getElem?_cons_zero]; exact rfl) (by kernel_rfl) (by kernel_rfl) (by kernel_rfl) (fun _ _ _ h => h) (Or.inl ⟨by rfl, ?_⟩) (by assumption) ?_
                rotate_left
                · intro w hSw
                  try dsimp only at hSw
                  go_simp
                  try with_reducible rfl
                try simp only [Act.put, List.setIfInBounds_toArray, List.set_cons_zero, List.set_cons_succ]
                refine wpAnyH_take (i := 2) (v := ?_) (by simp only [List.getElem?_toArray, List.getElem?_cons_succ, List.getElem?_cons_zero]; exact rfl) (by kernel_rfl) (by kernel_rfl) (by kernel_rfl) (fun _ _ _ h => h) (Or.inl ⟨by rfl, ?_⟩) (by assumption) ?_
                rotate_left
                · intro w hSw
                  try dsimp only at hSw
                  go_simp
                  try with_reducible rfl
                try simp only [Act.put, List.setIfInBounds_toArray, List.set_cons_zero, List.set_cons_succ]
                refine wpAnyH_take (i := 3) (v := ?_) (by simp only [List.getElem?_toArray, List.getElem?_cons_succ, List.getElem?_cons_zero]; exact rfl) (by kernel_rfl) (by kernel_rfl) (by kernel_rfl) (fun _ _ _ h => h) (Or.inl ⟨by rfl, ?_⟩) (by assumption) ?_
                rotate_left
                · intro w hSw
                  try dsimp only at hSw
                  go_simp
                  try with_reducible rfl
                try simp only [Act.put, List.setIfInBounds_toArray, List.set_cons_zero, List.set_cons_succ]
                refine wpAnyH_take (i := 4) (v := ?_) (by simp only [List.getElem?_toArray, List.getElem?_cons_succ, List.getElem?_cons_zero]; exact rfl) (by kernel_rfl) (by kernel_rfl) (by kernel_rfl) (fun _ _ _ h => h) (Or.inl ⟨by rfl, ?_⟩) (by assumption) ?_
                rotate_left
                · intro w hSw
                  try dsimp only at hSw
                  go_simp
                  try with_reducible rfl
                try simp only [Act.put, List.setIfInBounds_toArray, List.set_cons_zero, List.set_cons_succ]
                refine wpAnyH_take (i := 5) (v := ?_) (by simp only [List.getElem?_toArray, List.getElem?_cons_succ, List.getElem?_cons_zero]; exact rfl) (by kernel_rfl) (by kernel_rfl) (by kernel_rfl) (fun _ _ _ h => h) (Or.inl ⟨by rfl, ?_⟩) (by assumption) ?_
                rotate_left
                · intro w hSw
                  try dsimp only at hSw
                  go_simp
                  try with_reducible rfl
                try simp only [Act.put, List.setIfInBounds_toArray, List.set_cons_zero, List.set_cons_succ]
                refine wpAnyH_take (i := 6) (v := ?_) (by simp only [List.getElem?_toArray, List.getElem?_cons_succ, List.getElem?_cons_zero]; exact rfl) (by kernel_rfl) (by kernel_rfl) (by kernel_rfl) (fun _ _ _ h => h) (Or.inl ⟨by rfl, ?_⟩) (by assumption) ?_
                rotate_left
                · intro w hSw
                  try dsimp only at hSw
                  go_simp
                  try with_reducible rfl
                try simp only [Act.put, List.setIfInBounds_toArray, List.set_cons_zero, List.set_cons_succ]
                refine wpAnyH_take (i := 7) (v := ?_) (by simp only [List.getElem?_toArray, List.getElem?_cons_succ, List.getElem?_cons_zero]; exact rfl) (by kernel_rfl) (by kernel_rfl) (by kernel_rfl) (fun _ _ _ h => h) (Or.inl ⟨by rfl, ?_⟩) (by assumption) ?_
                rotate_left
                · intro w hSw
                  try dsimp only at hSw
                  go_simp
                  try with_reducible rfl
                try simp only [Act.put, List.setIfInBounds_toArray, List.set_cons_zero, List.set_cons_succ]
                refine wpAnyH_take (i := 8) (v := ?_) (by simp only [List.getElem?_toArray, List.getElem?_cons_succ, List.getElem?_cons_zero]; exact rfl) (by kernel_rfl) (by kernel_rfl) (by kernel_rfl) (fun _ _ _ h => h) (Or.inl ⟨by rfl, ?_⟩) (by assumption) ?_
                rotate_left
                · intro w hSw
                  try dsimp only at hSw
                  go_simp
                  try with_reducible rfl
                try simp only [Act.put, List.setIfInBounds_toArray, List.set_cons_zero, List.set_cons_succ]
                refine wpAnyH_take (i := 9) (v := ?_) (by simp only [List.getElem?_toArray, List.getElem?_cons_succ, List.getElem?_cons_zero]; exact rfl) (by kernel_rfl) (by kernel_rfl) (by kernel_rfl) (fun _ _ _ h => h) (Or.inl ⟨by rfl, ?_⟩) (by assumption) ?_
                rotate_left
                · intro w hSw
                  try dsimp only at hSw
                  go_simp
                  try with_reducible rfl
                try simp only [Act.put, List.setIfInBounds_toArray, List.set_cons_zero, List.set_cons_succ]
                refine wpAnyH_take (i := 10) (v := ?_) (by simp only [List.getElem?_toArray, List.getElem?_cons_succ, List.getElem?_cons_zero]; exact rfl) (by kernel_rfl) (by kernel_rfl) (by kernel_rfl) (fun _ _ _ h => h) (Or.inl ⟨by rfl, ?_⟩) (by assumption) ?_
                rotate_left
                · intro w hSw
                  try dsimp only at hSw
                  go_simp
                  try with_reducible rfl
                try simp only [Act.put, List.setIfInBounds_toArray, List.set_cons_zero, List.set_cons_succ]
                refine wpAnyH_take (i := 11) (v := ?_) (by simp only [List.getElem?_toArray, List.getElem?_cons_succ, List.getElem?_cons_zero]; exact rfl) (by kernel_rfl) (by kernel_rfl) (by kernel_rfl) (fun _ _ _ h => h) (Or.inl ⟨by rfl, ?_⟩) (by assumption) ?_
                rotate_left
                · intro w hSw
                  try dsimp only at hSw
                  go_simp
                  try with_reducible rfl
                try simp only [Act.put, List.setIfInBounds_toArray, List.set_cons_zero, List.set_cons_succ]
                refine wpAnyH_take (i := 12) (v := ?_) (by simp only [List.getElem?_toArray, List.getElem?_cons_succ, List.getElem?_cons_zero]; exact rfl) (by kernel_rfl) (by kernel_rfl) (by kernel_rfl) (fun _ _ _ h => h) (Or.inl ⟨by rfl, ?_⟩) (by assumption) ?_
                rotate_left
                · intro w hSw
                  try dsimp only at hSw
                  go_simp
                  try with_reducible rfl
                try simp only [Act.put, List.setIfInBounds_toArray, List.set_cons_zero, List.set_cons_succ]
                refine wpAnyH_take (i := 13) (v := ?_) (by simp only [List.getElem?_toArray, List.getElem?_cons_succ, List.getElem?_cons_zero]; exact rfl) (by kernel_rfl) (by kernel_rfl) (by kernel_rfl) (fun _ _ _ h => h) (Or.inl ⟨by rfl, ?_⟩) (by assumption) ?_
                rotate_left
                · intro w hSw
                  try dsimp only at hSw
                  go_simp
                  try with_reducible rfl
                try simp only [Act.put, List.setIfInBounds_toArray, List.set_cons_zero, List.set_cons_succ]
                refine wpAnyH_ready (rs := [14]) (by kernel_rfl) (by simp) ?_
                refine (AllReadyH.cons (by simp only [List.getElem?_toArray, List.getElem?_cons_succ, List.getElem?_cons_zero]; exact rfl) (fun K hK => ?_) AllReadyH.nil)
                go_simp
                go_at_call 72; refine (cCmp_m _ _ _ _ _ _ HY.out.2.1.1 IX.out HX.out.2.1.1 IY.out (hid rfl)).mono ?_; rintro e w1 ⟨rfl, hb1⟩
                refine hK.out _ _ (keep_step hb1 hHeld KS) (fun hHeld2 => ?_)
                clear hK K hHeld
                have hHeld := hHeld2
                clear hHeld2
                try simp only [Act.put, List.setIfInBounds_toArray, List.set_cons_zero, List.set_cons_succ]
                refine wpAnyH_take (i := 15) (v := ?_) (by simp only [List.getElem?_toArray, List.getElem?_cons_succ, List.getElem?_cons_zero]; exact rfl) (by kernel_rfl) (by kernel_rfl) (by kernel_rfl) (fun _ _ _ h => h) (Or.inl ⟨by rfl, ?_⟩) (by assumption) ?_
                rotate_left
                · intro w hSw
                  try dsimp only at hSw
                  go_simp
                  try with_reducible rfl
                try simp only [Act.put, List.setIfInBounds_toArray, List.set_cons_zero, List.set_cons_succ]
                refine wpAnyH_done (by kernel_rfl) ?_ _
                refine NoPanic.normal ?_
                go_wp2
                go_ret
                exact ⟨ret_int (by rw [← HC.out, av_50, FX.out, FY.out]), bt K0.out.1.1 (undrew hb1)⟩
              · skip
                go_enter Try.func28, Try.ntmps28
                go_upto_region 1 with fail
                generalize (w.alloc (.cells #[.int .u8 u0, .int .u8 u1, .int .u8 u2, .int .u8 u3, .int .i64 x.n, .int .i64 x.s0, .int .i64 x.s1, .int .i64 x.a0, .int .i64 x.a1, .int .i64 x.b0, .int .i64 x.b1] 44)).alloc (.cells #[.int .u8 v0, .int .u8 v1, .int .u8 v2, .int .u8 v3, .int .i64 y.n, .int .i64 y.s0, .int .i64 y.s1, .int .i64 y.a0, .int .i64 y.a1, .int .i64 y.b0, .int .i64 y.b1] 44) = W at K0 ⊢
                have KS : Hid (∀ z, Below W.heap.size W z → (fun z => Below W.heap.size W z ∧ z.cell? ⟨w.heap.size + 1, 6, none⟩ = some (.int .i64 y.s1) ∧ z.cell? ⟨w.heap.size, 4, none⟩ = some (.int .i64 x.n) ∧ z.cell? ⟨w.heap.size, 6, none⟩ = some (.int .i64 x.s1) ∧ z.cell? ⟨w.heap.size + 1, 4, none⟩ = some (.int .i64 y.n)) z) := hid (fun z hb => ⟨hb, (K0.out.step hb).cell2 rfl, (K0.out.step hb).cell1 rfl, (K0.out.step hb).cell1 rfl, (K0.out.step hb).cell2 rfl⟩)
                go_wp2
                refine wp_region_noPanic ?_
                refine wp_region_held_drew (S := fun z => Below W.heap.size W z ∧ z.cell? ⟨w.heap.size + 1, 6, none⟩ = some (.int .i64 y.s1) ∧ z.cell? ⟨w.heap.size, 4, none⟩ = some (.int .i64 x.n) ∧ z.cell? ⟨w.heap.size, 6, none⟩ = some (.int .i64 x.s1) ∧ z.cell? ⟨w.heap.size + 1, 4, none⟩ = some (.int .i64 y.n)) (by kernel_rfl) (keep_drew KS) (fun hHeld => ?_)
                refine wpAnyH_take (i := 0) (v := ?_) (by simp only [List.getElem?_toArray, List.getElem?_cons_succ, List.getElem?_cons_zero]; exact rfl) (by kernel_rfl) (by kernel_rfl) (by kernel_rfl) (fun _ _ _ h => h) (Or.inl ⟨by rfl, ?_⟩) (by assumption) ?_
                rotate_left
                · intro w hSw
                  try dsimp only at hSw
                  go_simp
                  try with_reducible rfl
                try simp only [Act.put, List.setIfInBounds_toArray, List.set_cons_zero, List.set_cons_succ]
                refine wpAnyH_take (i := 1) (v := ?_) (by simp only [List.getElem?_toArray, List.getElem?_cons_succ, List.getElem?_cons_zero]; exact rfl) (by kernel_rfl) (by kernel_rfl) (by kernel_rfl) (fun _ _ _ h => h) (Or.inl ⟨by rfl, ?_⟩) (by assumption) ?_
                rotate_left
                · intro w hSw
                  try dsimp only at hSw
                  go_simp
                  try with_reducible rfl
                try simp only [Act.put, List.setIfInBounds_toArray, List.set_cons_zero, List.set_cons_succ]
                refine wpAnyH_take (i := 2) (v := ?_) (by simp only [List.getElem?_toArray, List.getElem?_cons_succ, List.getElem?_cons_zero]; exact rfl) (by kernel_rfl) (by kernel_rfl) (by kernel_rfl) (fun _ _ _ h => h) (Or.inl ⟨by rfl, ?_⟩) (by assumption) ?_
                rotate_left
                · intro w hSw
                  try dsimp only at hSw
                  go_simp
                  try with_reducible rfl
                try simp only [Act.put, List.setIfInBounds_toArray, List.set_cons_zero, List.set_cons_succ]
                refine wpAnyH_take (i := 3) (v := ?_) (by simp only [List.getElem?_toArray, List.getElem?_cons_succ, List.getElem?_cons_zero]; exact rfl) (by kernel_rfl) (by kernel_rfl) (by kernel_rfl) (fun _ _ _ h => h) (Or.inl ⟨by rfl, ?_⟩) (by assumption) ?_
                rotate_left
                · intro w hSw
                  try dsimp only at hSw
                  go_simp
                  try with_reducible rfl
                try simp only [Act.put, List.setIfInBounds_toArray, List.set_cons_zero, List.set_cons_succ]
                refine wpAnyH_take (i := 4) (v := ?_) (by simp only [List.getElem?_toArray, List.getElem?_cons_succ, List.getElem?_cons_zero]; exact rfl) (by kernel_rfl) (by kernel_rfl) (by kernel_rfl) (fun _ _ _ h => h) (Or.inl ⟨by rfl, ?_⟩) (by assumption) ?_
                rotate_left
                · intro w hSw
                  try dsimp only at hSw
                  go_simp
                  try with_reducible rfl
                try simp only [Act.put, List.setIfInBounds_toArray, List.set_cons_zero, List.set_cons_succ]
                refine wpAnyH_take (i := 5) (v := ?_) (by simp only [List.getElem?_toArray, List.getElem?_cons_succ, List.getElem?_cons_zero]; exact rfl) (by kernel_rfl) (by kernel_rfl) (by kernel_rfl) (fun _ _ _ h => h) (Or.inl ⟨by rfl, ?_⟩) (by assumption) ?_
                rotate_left
                · intro w hSw
                  try dsimp only at hSw
                  go_simp
                  try with_reducible rfl
                try simp only [Act.put, List.setIfInBounds_toArray, List.set_cons_zero, List.set_cons_succ]
                refine wpAnyH_take (i := 6) (v := ?_) (by simp only [List.getElem?_toArray, List.getElem?_cons_succ, List.getElem?_cons_zero]; exact rfl) (by kernel_rfl) (by kernel_rfl) (by kernel_rfl) (fun _ _ _ h => h) (Or.inl ⟨by rfl, ?_⟩) (by assumption) ?_
                rotate_left
                · intro w hSw
                  try dsimp only at hSw
                  go_simp
                  try with_reducible rfl
                try simp only [Act.put, List.setIfInBounds_toArray, List.set_cons_zero, List.set_cons_succ]
                refine wpAnyH_take (i := 7) (v := ?_) (by simp only [List.getElem?_toArray, List.getElem?_cons_succ, List.getElem?_cons_zero]; exact rfl) (by kernel_rfl) (by kernel_rfl) (by kernel_rfl) (fun _ _ _ h => h) (Or.inl ⟨by rfl, ?_⟩) (by assumption) ?_
                rotate_left
                · intro w hSw
                  try dsimp only at hSw
                  go_simp
                  try with_reducible rfl
                try simp only [Act.put, List.setIfInBounds_toArray, List.set_cons_zero, List.set_cons_succ]
                refine wpAnyH_take (i := 8) (v := ?_) (by simp only [List.getElem?_toArray, List.getElem?_cons_succ, List.getElem?_cons_zero]; exact rfl) (by kernel_rfl) (by kernel_rfl) (by kernel_rfl) (fun _ _ _ h => h) (Or.inl ⟨by rfl, ?_⟩) (by assumption) ?_
                rotate_left
                · intro w hSw
                  try dsimp only at hSw
                  go_simp
                  try with_reducible rfl
                try simp only [Act.put, List.setIfInBounds_toArray, List.set_cons_zero, List.set_cons_succ]
                refine wpAnyH_take (i := 9) (v := ?_) (by simp only [List.getElem?_toArray, List.getElem?_cons_succ, List.getElem?_cons_zero]; exact rfl) (by kernel_rfl) (by kernel_rfl) (by kernel_rfl) (fun _ _ _ h => h) (Or.inl ⟨by rfl, ?_⟩) (by assumption) ?_
                rotate_left
                · intro w hSw
                  try dsimp only at hSw
                  go_simp
                  try with_reducible rfl
                try simp only [Act.put, List.setIfInBounds_toArray, List.set_cons_zero, List.set_cons_succ]
                refine wpAnyH_take (i := 10) (v := ?_) (by simp only [List.getElem?_toArray, List.getElem?_cons_succ, List.getElem?_cons_zero]; exact rfl) (by kernel_rfl) (by kernel_rfl) (by kernel_rfl) (fun _ _ _ h => h) (Or.inl ⟨by rfl, ?_⟩) (by assumption) ?_
                rotate_left
                · intro w hSw
                  try dsimp only at hSw
                  go_simp
                  try with_reducible rfl
                try simp only [Act.put, List.setIfInBounds_toArray, List.set_cons_zero, List.set_cons_succ]
                refine wpAnyH_take (i := 11) (v := ?_) (by simp only [List.getElem?_toArray, List.getElem?_cons_succ, List.getElem?_cons_zero]; exact rfl) (by kernel_rfl) (by kernel_rfl) (by kernel_rfl) (fun _ _ _ h => h) (Or.inl ⟨by rfl, ?_⟩) (by assumption) ?_
                rotate_left
                · intro w hSw
                  try dsimp only at hSw
                  go_simp
                  try with_reducible rfl
                try simp only [Act.put, List.setIfInBounds_toArray, List.set_cons_zero, List.set_cons_succ]
                refine wpAnyH_take (i := 12) (v := ?_) (by simp only [List.getElem?_toArray, List.getElem?_cons_succ, List.getElem?_cons_zero]; exact rfl) (by kernel_rfl) (by kernel_rfl) (by kernel_rfl) (fun _ _ _ h => h) (Or.inl ⟨by rfl, ?_⟩) (by assumption) ?_
                rotate_left
                · intro w hSw
                  try dsimp only at hSw
                  go_simp
                  try with_reducible rfl
                try simp only [Act.put, List.setIfInBounds_toArray, List.set_cons_zero, List.set_cons_succ]
                refine wpAnyH_take (i := 13) (v := ?_) (by simp only [List.getElem?_toArray, List.getElem?_cons_succ, List.getElem?_cons_zero]; exact rfl) (by kernel_rfl) (by kernel_rfl) (by kernel_rfl) (fun _ _ _ h => h) (Or.inl ⟨by rfl, ?_⟩) (by assumption) ?_
                rotate_left
                · intro w hSw
                  try dsimp only at hSw
                  go_simp
                  try with_reducible rfl
                try simp only [Act.put, List.setIfInBounds_toArray, List.set_cons_zero, List.set_cons_succ]
                refine wpAnyH_ready (rs := [14]) (by kernel_rfl) (by simp) ?_
                refine (AllReadyH.cons (by simp only [List.getElem?_toArray, List.getElem?_cons_succ, List.getElem?_cons_zero]; exact rfl) (fun K hK => ?_) AllReadyH.nil)
                go_simp
                go_at_call 72; refine (cCmp_m _ _ _ _ _ _ HY.out.2.1.2 IX.out HX.out.2.1.2 IY.out (hid rfl)).mono ?_; rintro e w1 ⟨rfl, hb1⟩
                refine hK.out _ _ (keep_step hb1 hHeld KS) (fun hHeld2 => ?_)
                clear hK K hHeld
                have hHeld := hHeld2
                clear hHeld2
                try simp only [Act.put, List.setIfInBounds_toArray, List.set_cons_zero, List.set_cons_succ]
                refine wpAnyH_take (i := 15) (v := ?_) (by simp only [List.getElem?_toArray, List.getElem?_cons_succ, List.getElem?_cons_zero]; exact rfl) (by kernel_rfl) (by kernel_rfl) (by kernel_rfl) (fun _ _ _ h => h) (Or.inl ⟨by rfl, ?_⟩) (by assumption) ?_
                rotate_left
                · intro w hSw
                  try dsimp only at hSw
                  go_simp
                  try with_reducible rfl
                try simp only [Act.put, List.setIfInBounds_toArray, List.set_cons_zero, List.set_cons_succ]
                refine wpAnyH_done (by kernel_rfl) ?_ _
                refine NoPanic.normal ?_
                go_wp2
                go_ret
                exact ⟨ret_int (by rw [← HC.out, av_51, FX.out, FY.out]), bt K0.out.1.1 (undrew hb1)⟩
            · have HV := hid (av_none (i := i) h1 h2 h3 h4 h5 x y)
              have e1 : (f == 1) = false := by simp [h1]
              have e2 : (f == 2) = false := by simp [h2]
              have e3 : (f == 3) = false := by simp [h3]
              have e4 : (f == 4) = false := by simp [h4]
              have e5 : (f == 5) = false := by simp [h5]
              clear h1 h2 h3 h4 h5
              rcases hi2 with rfl | rfl
              · skip
                go_enter Try.func28, Try.ntmps28
                go_upto_region 1 with fail
                generalize (w.alloc (.cells #[.int .u8 u0, .int .u8 u1, .int .u8 u2, .int .u8 u3, .int .i64 x.n, .int .i64 x.s0, .int .i64 x.s1, .int .i64 x.a0, .int .i64 x.a1, .int .i64 x.b0, .int .i64 x.b1] 44)).alloc (.cells #[.int .u8 v0, .int .u8 v1, .int .u8 v2, .int .u8 v3, .int .i64 y.n, .int .i64 y.s0, .int .i64 y.s1, .int .i64 y.a0, .int .i64 y.a1, .int .i64 y.b0, .int .i64 y.b1] 44) = W at K0 ⊢
                go_wp2
                go_ret
                exact ⟨ret_int (by rw [← HC.out, HV.out]), K0.out.1.1⟩
              · skip
                go_enter Try.func28, Try.ntmps28
                go_upto_region 1 with fail
                generalize (w.alloc (.cells #[.int .u8 u0, .int .u8 u1, .int .u8 u2, .int .u8 u3, .int .i64 x.n, .int .i64 x.s0, .int .i64 x.s1, .int .i64 x.a0, .int .i64 x.a1, .int .i64 x.b0, .int .i64 x.b1] 44)).alloc (.cells #[.int .u8 v0, .int .u8 v1, .int .u8 v2, .int .u8 v3, .int .i64 y.n, .int .i64 y.s0, .int .i64 y.s1, .int .i64 y.a0, .int .i64 y.a1, .int .i64 y.b0, .int .i64 y.b1] 44) = W at K0 ⊢
                go_wp2
                go_ret
                exact ⟨ret_int (by rw [← HC.out, HV.out]), K0.out.1.1⟩

end Go.Proofs.Ytgmnnpecihcdhaa

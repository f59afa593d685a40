/-
  What is finer, or no node's, carries nothing: the walk of the law LiftNone.
  Conditions: as each theorem states them.
-/
import Derived.Test.YtfgphphaopcolaaWN
namespace Go.Proofs.Ytfgphphaopcolaa
open Go.ChangeShapes Go.WideShapes Go.ChangeAt Go.RowKit
set_option linter.unusedVariables false
set_option linter.unusedSimpArgs false

def eq4 (a b c d x y z u : Int) : Bool := a == x && (b == y && (c == z && d == u))
theorem eq4_no {a b c d x y z u : Int} (h : ¬ (a = x ∧ b = y ∧ c = z ∧ d = u)) : eq4 a b c d x y z u = false := by
  cases e : eq4 a b c d x y z u with
  | false => rfl
  | true => unfold eq4 at e; simp at e; exact absurd e h
theorem eq4_yes {a b c d x y z u : Int} (h : a = x ∧ b = y ∧ c = z ∧ d = u) : eq4 a b c d x y z u = true := by
  obtain ⟨rfl, rfl, rfl, rfl⟩ := h; unfold eq4; simp
theorem eqN4 (a b c d x y z u : Int) (w : World) : (Op.equalIn 10000 26 (.agg #[.int .u8 a, .int .u8 b, .int .u8 c, .int .u8 d]) (.agg #[.int .u8 x, .int .u8 y, .int .u8 z, .int .u8 u])).run Try.prog w = .ok (eq4 a b c d x y z u) w := eqN a b c d x y z u w
theorem eqC4 (a b c d x y z u : Int) (w : World) : (Op.equalIn 10000 27 (.agg #[.int .u8 a, .int .u8 b, .int .u8 c, .int .u8 d]) (.agg #[.int .u8 x, .int .u8 y, .int .u8 z, .int .u8 u])).run Try.prog w = .ok (eq4 a b c d x y z u) w := eqC a b c d x y z u w
theorem cat_none (w : World) : Cat w none 0 0 [] := ⟨rfl, Nat.le_refl _, by decide, fun _ => rfl, fun h => by cases h⟩
theorem lfiber_z (a : Option Addr) (n c : Nat) (ds : Dims) (M t0 t1 t2 t3 x0 x1 x2 x3 f0 f1 f2 f3 : Int) (w : World) (hc : Cat w a n c ds) (hM : I64 M) (hT : ∀ x ∈ [t0, t1, t2, t3], U8 x) (hA : ∀ x ∈ [x0, x1, x2, x3], U8 x) (hF : ∀ x ∈ [f0, f1, f2, f3], U8 x) (h : Hid (fib ds M t0 t1 t2 t3 x0 x1 x2 x3 f0 f1 f2 f3 = [])) :
    Calls Try.prog 16 #[.agg #[.slice a n c, .int .i64 M], .agg #[.int .u8 t0, .int .u8 t1, .int .u8 t2, .int .u8 t3], .agg #[.int .u8 x0, .int .u8 x1, .int .u8 x2, .int .u8 x3], .agg #[.int .u8 f0, .int .u8 f1, .int .u8 f2, .int .u8 f3]] w
      fun e w' => (∃ a' c', e = .returned (.slice a' 0 c')) ∧ Below w.heap.size w w' := by
  refine (lfiber_any a n c ds M t0 t1 t2 t3 x0 x1 x2 x3 f0 f1 f2 f3 w hc hM hT hA hF).mono ?_
  rintro e w' ⟨⟨a', n', c', rfl, hr⟩, hb⟩
  rw [h.out] at hr
  obtain rfl : n' = 0 := hr.1
  exact ⟨⟨a', c', rfl⟩, hb⟩
theorem within_n (a : Option Addr) (n c : Nat) (ds : Dims) (M v0 v1 v2 v3 x0 x1 x2 x3 d L y : Int) (t : TypeId) (v : Bool) (w : World) (hc : Cat w a n c ds) (hM : I64 M) (hV : ∀ x ∈ [v0, v1, v2, v3], U8 x) (hA : ∀ x ∈ [x0, x1, x2, x3], U8 x) (hd : I64 d) (hL : I64 L) (hv : Hid (wthn ds M [v0, v1, v2, v3] [x0, x1, x2, x3] d L [y] = v)) :
    Calls Try.prog 13 #[.agg #[.slice a n c, .int .i64 M], .agg #[.int .u8 v0, .int .u8 v1, .int .u8 v2, .int .u8 v3], .agg #[.int .u8 x0, .int .u8 x1, .int .u8 x2, .int .u8 x3], .agg #[.int .i64 d, .int .i64 L, .slice (some ⟨w.heap.size, 0, none⟩) 1 1]] (w.alloc (.cells #[.int .i64 y] t))
      fun e w' => e = .returned (.bool v) ∧ Below w.heap.size w w' := by
  have h0 : Below w.heap.size w (w.alloc (.cells #[.int .i64 y] t)) := (Below.refl _ _).alloc (Nat.le_refl _) _
  refine (within_m a n c ds M v0 v1 v2 v3 x0 x1 x2 x3 d L _ 1 1 [y] v _ (hc.below h0) hM hV hA hd hL (row_one w y t) hv).mono ?_
  rintro e w' ⟨rfl, hb⟩
  exact ⟨rfl, bt h0 hb⟩
/-- What lies beyond all levels is no node's. -/
theorem far_mem {ds : Dims} {M : Int} (h : goodC ds M = true) {k : Nat} {v : Int} (hv : 5 ≤ v) : memC ds k v = 0 := by
  have h1 := mem_pos h k (v := v) (by omega)
  have h2 := (whl_bd h k).2
  have h3 := (memC_bd ds k v).1
  by_cases h4 : 0 < memC ds k v
  · have := h1.mp h4; omega
  · omega

set_option maxHeartbeats 32000000 in
set_option maxRecDepth 100000 in
theorem none_walk (a : Option Addr) (n c : Nat) (ds : Dims) (M u0 u1 u2 u3 v0 v1 v2 v3 z0 z1 z2 z3 x0 x1 x2 x3 dim : Int) (w : World) (hc : Cat w a n c ds) (hM : I64 M) (hv : ∀ y ∈ [v0, v1, v2, v3], U8 y) (hx : ∀ y ∈ [x0, x1, x2, x3], U8 y) (hd : U8 dim) :
    Calls Try.prog 7 #[.agg (way a n c M u0 u1 u2 u3 v0 v1 v2 v3 z0 z1 z2 z3 x0 x1 x2 x3), .int .u8 dim] w fun e w' => e = .returned (.bool true) ∧ Below w.heap.size w w' := by
  unfold way
  have HC := hid hc
  have HM := hid hM
  have HV := hid hv
  have HX := hid hx
  have S0 := hid (st_start w (way a n c M u0 u1 u2 u3 v0 v1 v2 v3 z0 z1 z2 z3 x0 x1 x2 x3) 48)
  have eqn := eqN4
  have tk1 : True := trivial
  have tk2 : True := trivial
  have tk3 : True := trivial
  have tk4 : True := trivial
  have tk5 : True := trivial
  clear hc hM hv hx
  cases hr : rightC ds M [v0, v1, v2, v3] [x0, x1, x2, x3] with
  | false =>
    have HR := hid hr
    clear hr
    go_enter Try.func7, Try.ntmps7
    go_wp2_with (first
      | (go_at_call 19; refine (rright_n _ _ _ _ _ _ _ _ _ _ _ _ _ _ _ (HC.out.below S0.out.1) HM.out HV.out HX.out HR).mono ?_; rintro e w1 ⟨rfl, hb1⟩; have S1 := hid (S0.out.step hb1))
      | (go_at_call 9; refine (wakes6 _).mono ?_; rintro e w9 ⟨rfl, hb9⟩))
    go_ret
    exact ⟨rfl, bt S1.out.1 hb9⟩
  | true =>
    have HR := hid hr
    have hg := (rightC_is hr).1
    have hnv := right_nodeC hr HV.out HX.out
    obtain ⟨hd0, hd1⟩ := hd
    obtain ⟨k, hk, hk4⟩ : ∃ k : Nat, dim % 4 = (k : Int) ∧ k < 4 := ⟨(dim % 4).toNat, by omega, by omega⟩
    have hkt : dim.tmod 4 = (k : Int) := by rw [Int.tmod_eq_emod_of_nonneg hd0]; exact hk
    have hk4i : (k : Int) < 4 := by omega
    have hk0i : (0 : Int) ≤ (k : Int) := by omega
    have wd : IntKind.i64.wrap dim = dim := IntWalk.i64_in _ (by omega)
    have hlv := bel_at (node_bel_top hnv) hk4
    rw [tp_4 hk4] at hlv
    have htp := (tp_bd ds M k).2
    have huv := u8_at HV.out k
    have EV : Hid (∀ (x : World) (B : Nat) (t : TypeId), x.heap[B]? = some (.cells #[.int .u8 v0, .int .u8 v1, .int .u8 v2, .int .u8 v3] t) → x.cell? ⟨B, k, none⟩ = some (.int .u8 ([v0, v1, v2, v3].getD k 0))) := hid fun x B t h => n4_at (f := fun j => [v0, v1, v2, v3].getD j 0) h hk4
    have HFM : Hid (memC ds k ([v0, v1, v2, v3].getD k 0 + 5) = 0) := hid (far_mem hg (by omega))
    obtain ⟨vk, hvk⟩ : ∃ y, [v0, v1, v2, v3].getD k 0 = y := ⟨_, rfl⟩
    have HVK := hid hvk
    rw [hvk] at hlv huv EV HFM
    have wvk : IntKind.u8.wrap (vk + 5) = vk + 5 := IntWalk.u8_in _ (by omega)
    obtain ⟨fr, hfr⟩ : ∃ f, pt (v0, v1, v2, v3) (vk + 5) k = f := ⟨_, rfl⟩
    obtain ⟨f0, f1, f2, f3⟩ := fr
    have HFR := hid hfr
    have hfj : ∀ j, j < 4 → [f0, f1, f2, f3].getD j 0 = if j = k then vk + 5 else [v0, v1, v2, v3].getD j 0 := fun j hj => by
      have := nf_pt (v0, v1, v2, v3) (vk + 5) k hj
      rw [hfr] at this
      exact this
    have hfk : [f0, f1, f2, f3].getD k 0 = vk + 5 := by rw [hfj k hk4, if_pos rfl]
    have UF : Hid (∀ y ∈ [f0, f1, f2, f3], U8 y) := hid (by
      have h4 : ∀ j, j < 4 → U8 ([f0, f1, f2, f3].getD j 0) := fun j hj => by
        rw [hfj j hj]
        by_cases e : j = k
        · rw [if_pos e]; unfold U8; omega
        · rw [if_neg e]; exact u8_at HV.out j
      exact u8_mk ⟨h4 0 (by omega), h4 1 (by omega), h4 2 (by omega), h4 3 (by omega)⟩)
    have hrf : rightC ds M [f0, f1, f2, f3] [x0, x1, x2, x3] = false := rightC_no hk4 (by rw [hfk, HFM.out]; exact (u8_at HX.out k).1)
    have hnf : nodeC ds M f0 f1 f2 f3 = false := by
      rw [← right_node UF.out]
      exact rightC_no hk4 (by rw [hfk, HFM.out, zero_4 hk4]; exact Int.le_refl _)
    have hbf : bel f0 f1 f2 f3 v0 v1 v2 v3 = false := by
      cases e : bel f0 f1 f2 f3 v0 v1 v2 v3 with
      | false => rfl
      | true => have := bel_at e hk4; rw [hfk, hvk] at this; omega
    have Q1 := hid (toB_2 (f0 := v0) (f1 := v1) (f2 := v2) (f3 := v3) (x0 := x0) (x1 := x1) (x2 := x2) (x3 := x3) hnf)
    have Q2 := hid (toB_1 (t0 := f0) (t1 := f1) (t2 := f2) (t3 := f3) hrf)
    have Q3 : Hid (toB [] 0 v0 v1 v2 v3 v0 v1 v2 v3 x0 x1 x2 x3 = false) := hid (toB_1 (rightC_bad (by decide)))
    have Q4 := hid (fib_1 (f0 := v0) (f1 := v1) (f2 := v2) (f3 := v3) hrf)
    have Q5 := hid (fib_2 (ds := ds) (M := M) (x0 := x0) (x1 := x1) (x2 := x2) (x3 := x3) hbf)
    have Q6 : Hid (wthn ds M [f0, f1, f2, f3] [x0, x1, x2, x3] 0 0 [0] = false) := hid (wthn_bad hrf)
    clear hr hg hnv hlv htp hfr hfj hfk hrf hnf hbf hk hvk
    go_enter Try.func7, Try.ntmps7
    go_upto_region 5 with (go_at_call 19; refine (rright_n _ _ _ _ _ _ _ _ _ _ _ _ _ _ _ (HC.out.below S0.out.1) HM.out HV.out HX.out HR).mono ?_; rintro e w1 ⟨rfl, hb1⟩; have S1 := hid (S0.out.step hb1); obtain ⟨⟨ac0, ac1⟩, _, ⟨av0, av1, av2, av3⟩, _, ⟨ax0, ax1, ax2, ax3⟩⟩ := way_cells (S1.out.2 0 _ rfl); have lta := heap_lt (S1.out.2 0 _ rfl); have cv := EV.out (w1.alloc (.cells #[.int .u8 v0, .int .u8 v1, .int .u8 v2, .int .u8 v3] 26)) w1.heap.size 26 (heap_alloc_new _ _))
    rw [set4_pt v0 v1 v2 v3 (vk + 5) hk4, HFR.out]
    have S2 : Hid (St w (w1.alloc (.cells (n4 (nf (f0, f1, f2, f3))) 26)) [(w1.heap.size, #[.int .u8 f0, .int .u8 f1, .int .u8 f2, .int .u8 f3], 26), (w.heap.size, way a n c M u0 u1 u2 u3 v0 v1 v2 v3 z0 z1 z2 z3 x0 x1 x2 x3, 48)]) := hid (S1.out.new #[.int .u8 f0, .int .u8 f1, .int .u8 f2, .int .u8 f3] 26)
    have lt0 : w1.heap.size < (w1.alloc (.cells (n4 (nf (f0, f1, f2, f3))) 26)).heap.size := by simp
    clear cv
    generalize hW2 : w1.alloc (.cells (n4 (nf (f0, f1, f2, f3))) 26) = W2 at S2 lt0 ⊢
    generalize w1.heap.size = P at S2 lt0 ⊢
    clear hW2
    obtain ⟨⟨bc0, bc1⟩, _, ⟨bv0, bv1, bv2, bv3⟩, _, ⟨bx0, bx1, bx2, bx3⟩⟩ := way_cells (S2.out.2 1 _ rfl)
    obtain ⟨bf0, bf1, bf2, bf3⟩ := box4 (S2.out.2 0 _ rfl)
    cases hz0 : eq4 v0 v1 v2 v3 0 0 0 0 with
    | true =>
      go_wp2_with (first
        | (go_at_call 11; clear tk1; refine (lto_z _ _ _ _ _ _ _ _ _ _ _ _ _ _ _ _ _ _ (HC.out.below S2.out.1) HM.out HV.out UF.out HX.out Q1).mono ?_; rintro e w3 ⟨rfl, hb3⟩; have T3 := hid (S2.out.step hb3); obtain ⟨⟨dc0, dc1⟩, _, _, _, ⟨dx0, dx1, dx2, dx3⟩⟩ := way_cells (T3.out.2 1 _ rfl); obtain ⟨df0, df1, df2, df3⟩ := box4 (T3.out.2 0 _ rfl); have ltd0 := heap_lt (T3.out.2 0 _ rfl); have ltd1 := heap_lt (T3.out.2 1 _ rfl); have S3 := hid (T3.out.new #[.int .u8 0, .int .u8 0, .int .u8 0, .int .u8 0] 27))
        | (go_at_call 11; clear tk2; refine (lto_z _ _ _ _ _ _ _ _ _ _ _ _ _ _ _ _ _ _ (HC.out.below S3.out.1) HM.out UF.out UF.out HX.out Q2).mono ?_; rintro e w4 ⟨rfl, hb4⟩; have T4 := hid (S3.out.step hb4); obtain ⟨_, _, ⟨ev0, ev1, ev2, ev3⟩, _, ⟨ex0, ex1, ex2, ex3⟩⟩ := way_cells (T4.out.2 2 _ rfl); have lte1 := heap_lt (T4.out.2 2 _ rfl); have S4 := hid (T4.out.new #[.int .u8 0, .int .u8 0, .int .u8 0, .int .u8 0] 27))
        | (go_at_call 11; clear tk3; refine (lto_z _ _ _ _ _ _ _ _ _ _ _ _ _ _ _ _ _ _ (cat_none _) i64_0' HV.out HV.out HX.out Q3).mono ?_; rintro e w5 ⟨rfl, hb5⟩; have T5 := hid (S4.out.step hb5); obtain ⟨⟨gc0, gc1⟩, _, ⟨gv0, gv1, gv2, gv3⟩, _, ⟨gx0, gx1, gx2, gx3⟩⟩ := way_cells (T5.out.2 3 _ rfl); obtain ⟨gf0, gf1, gf2, gf3⟩ := box4 (T5.out.2 2 _ rfl); have ltg0 := heap_lt (T5.out.2 2 _ rfl); have ltg1 := heap_lt (T5.out.2 3 _ rfl); have S5 := hid (T5.out.new #[.int .u8 0, .int .u8 0, .int .u8 0, .int .u8 0] 27))
        | (go_at_call 16; clear tk4; refine (lfiber_z _ _ _ _ _ _ _ _ _ _ _ _ _ _ _ _ _ _ (HC.out.below S5.out.1) HM.out UF.out HX.out HV.out Q4).mono ?_; rintro e w6 ⟨⟨fa6, fc6, rfl⟩, hb6⟩; have S6 := hid (S5.out.step hb6); obtain ⟨⟨hc0, hc1⟩, _, ⟨hv0, hv1, hv2, hv3⟩, _, ⟨hx0, hx1, hx2, hx3⟩⟩ := way_cells (S6.out.2 4 _ rfl); obtain ⟨hf0, hf1, hf2, hf3⟩ := box4 (S6.out.2 3 _ rfl))
        | (go_at_call 16; clear tk5; refine (lfiber_z _ _ _ _ _ _ _ _ _ _ _ _ _ _ _ _ _ _ (HC.out.below S6.out.1) HM.out HV.out HX.out UF.out Q5).mono ?_; rintro e w7 ⟨⟨fa7, fc7, rfl⟩, hb7⟩; have S7 := hid (S6.out.step hb7); obtain ⟨⟨ic0, ic1⟩, _, ⟨iv0, iv1, iv2, iv3⟩, _, ⟨ix0, ix1, ix2, ix3⟩⟩ := way_cells (S7.out.2 4 _ rfl); obtain ⟨if0, if1, if2, if3⟩ := box4 (S7.out.2 3 _ rfl); have lti := heap_lt (S7.out.2 4 _ rfl))
        | (go_at_call 13; refine (within_n _ _ _ _ _ _ _ _ _ _ _ _ _ _ _ _ 3 _ _ (HC.out.below S7.out.1) HM.out UF.out HX.out i64_0' i64_0' Q6).mono ?_; rintro e w8 ⟨rfl, hb8⟩; have S8 := hid (S7.out.step hb8); obtain ⟨⟨jc0, jc1⟩, _, ⟨jv0, jv1, jv2, jv3⟩, _, ⟨jx0, jx1, jx2, jx3⟩⟩ := way_cells (S8.out.2 4 _ rfl))
        | (go_at_call 9; refine (wakes6 _).mono ?_; rintro e w12 ⟨rfl, hb12⟩))
      go_ret
      exact ⟨rfl, bt S8.out.1 hb12⟩
    | false =>
      have hbz : bel v0 v1 v2 v3 0 0 0 0 = false := by
        cases e : bel v0 v1 v2 v3 0 0 0 0 with
        | false => rfl
        | true =>
          have e0 := bel_at e (k := 0) (by omega)
          have e1 := bel_at e (k := 1) (by omega)
          have e2 := bel_at e (k := 2) (by omega)
          have e3 := bel_at e (k := 3) (by omega)
          have g0 := u8_at HV.out 0
          have g1 := u8_at HV.out 1
          have g2 := u8_at HV.out 2
          have g3 := u8_at HV.out 3
          simp at e0 e1 e2 e3 g0 g1 g2 g3
          have h0 : eq4 v0 v1 v2 v3 0 0 0 0 = true := eq4_yes (by omega)
          rw [hz0] at h0
          cases h0
      have Q7 := hid (toB_3 (ds := ds) (M := M) (x0 := x0) (x1 := x1) (x2 := x2) (x3 := x3) hbz)
      have Q8 := hid (fib_2 (ds := ds) (M := M) (x0 := 0) (x1 := 0) (x2 := 0) (x3 := 0) hbz)
      have UZ : Hid (∀ y ∈ [(0 : Int), 0, 0, 0], U8 y) := hid u8_a
      have tk6 : True := trivial
      have tk7 : True := trivial
      clear hbz
      go_wp2_with (first
        | (go_at_call 11; clear tk1; refine (lto_z _ _ _ _ _ _ _ _ _ _ _ _ _ _ _ _ _ _ (HC.out.below S2.out.1) HM.out HV.out UF.out HX.out Q1).mono ?_; rintro e w3 ⟨rfl, hb3⟩; have T3 := hid (S2.out.step hb3); obtain ⟨⟨dc0, dc1⟩, _, _, _, ⟨dx0, dx1, dx2, dx3⟩⟩ := way_cells (T3.out.2 1 _ rfl); obtain ⟨df0, df1, df2, df3⟩ := box4 (T3.out.2 0 _ rfl); have ltd0 := heap_lt (T3.out.2 0 _ rfl); have ltd1 := heap_lt (T3.out.2 1 _ rfl); have S3 := hid (T3.out.new #[.int .u8 0, .int .u8 0, .int .u8 0, .int .u8 0] 27))
        | (go_at_call 11; clear tk2; refine (lto_z _ _ _ _ _ _ _ _ _ _ _ _ _ _ _ _ _ _ (HC.out.below S3.out.1) HM.out UF.out UF.out HX.out Q2).mono ?_; rintro e w4 ⟨rfl, hb4⟩; have T4 := hid (S3.out.step hb4); obtain ⟨_, _, ⟨ev0, ev1, ev2, ev3⟩, _, ⟨ex0, ex1, ex2, ex3⟩⟩ := way_cells (T4.out.2 2 _ rfl); have lte1 := heap_lt (T4.out.2 2 _ rfl); have S4 := hid (T4.out.new #[.int .u8 0, .int .u8 0, .int .u8 0, .int .u8 0] 27))
        | (go_at_call 11; clear tk3; refine (lto_z _ _ _ _ _ _ _ _ _ _ _ _ _ _ _ _ _ _ (cat_none _) i64_0' HV.out HV.out HX.out Q3).mono ?_; rintro e w5 ⟨rfl, hb5⟩; have T5 := hid (S4.out.step hb5); obtain ⟨⟨gc0, gc1⟩, _, ⟨gv0, gv1, gv2, gv3⟩, _, ⟨gx0, gx1, gx2, gx3⟩⟩ := way_cells (T5.out.2 3 _ rfl); obtain ⟨gf0, gf1, gf2, gf3⟩ := box4 (T5.out.2 2 _ rfl); have ltg0 := heap_lt (T5.out.2 2 _ rfl); have ltg1 := heap_lt (T5.out.2 3 _ rfl); have S5 := hid (T5.out.new #[.int .u8 0, .int .u8 0, .int .u8 0, .int .u8 0] 27))
        | (go_at_call 16; clear tk4; refine (lfiber_z _ _ _ _ _ _ _ _ _ _ _ _ _ _ _ _ _ _ (HC.out.below S5.out.1) HM.out UF.out HX.out HV.out Q4).mono ?_; rintro e w6 ⟨⟨fa6, fc6, rfl⟩, hb6⟩; have S6 := hid (S5.out.step hb6); obtain ⟨⟨hc0, hc1⟩, _, ⟨hv0, hv1, hv2, hv3⟩, _, ⟨hx0, hx1, hx2, hx3⟩⟩ := way_cells (S6.out.2 4 _ rfl); obtain ⟨hf0, hf1, hf2, hf3⟩ := box4 (S6.out.2 3 _ rfl))
        | (go_at_call 16; clear tk5; refine (lfiber_z _ _ _ _ _ _ _ _ _ _ _ _ _ _ _ _ _ _ (HC.out.below S6.out.1) HM.out HV.out HX.out UF.out Q5).mono ?_; rintro e w7 ⟨⟨fa7, fc7, rfl⟩, hb7⟩; have S7 := hid (S6.out.step hb7); obtain ⟨⟨ic0, ic1⟩, _, ⟨iv0, iv1, iv2, iv3⟩, _, ⟨ix0, ix1, ix2, ix3⟩⟩ := way_cells (S7.out.2 4 _ rfl); obtain ⟨if0, if1, if2, if3⟩ := box4 (S7.out.2 3 _ rfl); have lti := heap_lt (S7.out.2 4 _ rfl))
        | (go_at_call 13; refine (within_n _ _ _ _ _ _ _ _ _ _ _ _ _ _ _ _ 3 _ _ (HC.out.below S7.out.1) HM.out UF.out HX.out i64_0' i64_0' Q6).mono ?_; rintro e w8 ⟨rfl, hb8⟩; have S8 := hid (S7.out.step hb8); obtain ⟨⟨jc0, jc1⟩, _, ⟨jv0, jv1, jv2, jv3⟩, _, ⟨jx0, jx1, jx2, jx3⟩⟩ := way_cells (S8.out.2 4 _ rfl))
        | (go_at_call 11; refine (lto_z _ _ _ _ _ _ _ _ _ _ _ _ _ _ _ _ _ _ (HC.out.below S8.out.1) HM.out HV.out UZ.out HX.out Q7).mono ?_; rintro e w9 ⟨rfl, hb9⟩; have T9 := hid (S8.out.step hb9); obtain ⟨⟨kc0, kc1⟩, _, ⟨kv0, kv1, kv2, kv3⟩, _, ⟨kx0, kx1, kx2, kx3⟩⟩ := way_cells (T9.out.2 4 _ rfl); have ltk := heap_lt (T9.out.2 4 _ rfl); have S9 := hid (T9.out.new #[.int .u8 0, .int .u8 0, .int .u8 0, .int .u8 0] 27))
        | (go_at_call 16; refine (lfiber_z _ _ _ _ _ _ _ _ _ _ _ _ _ _ _ _ _ _ (HC.out.below S9.out.1) HM.out UZ.out UZ.out HV.out Q8).mono ?_; rintro e w10 ⟨⟨fa10, fc10, rfl⟩, hb10⟩; have S10 := hid (S9.out.step hb10); skip)
        | (go_at_call 9; refine (wakes6 _).mono ?_; rintro e w12 ⟨rfl, hb12⟩))
      go_ret
      exact ⟨rfl, bt S10.out.1 hb12⟩

end Go.Proofs.Ytfgphphaopcolaa

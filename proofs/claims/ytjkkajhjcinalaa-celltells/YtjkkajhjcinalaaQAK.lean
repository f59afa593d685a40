/-
  -
  -
  -
  -
  -
  -
  Conditions: as each theorem states them.
-/
import Derived.Test.YtjkkajhjcinalaaQAD
import Derived.Test.YtjkkajhjcinalaaQAG
import Derived.Test.YtjkkajhjcinalaaQAI
import Derived.Test.YtjkkajhjcinalaaQAJ
namespace Go.Proofs.Ytjkkajhjcinalaa
open Go.ChangeShapes Go.WideShapes Go.ChangeAt Go.RowKit
set_option linter.unusedVariables false
set_option linter.unusedSimpArgs false
set_option maxRecDepth 100000

theorem cline_m (m x0 x1 x2 x3 : Int) (c : Cl) (a0 : Option Addr) (p0 k0 : Nat) (a1 : Option Addr) (p1 k1 : Nat) (V : Value) (w : World) (hw : CW w a0 p0 k0 a1 p1 k1 c) (hk : okc c) (hV : Hid (lineV m x0 x1 x2 x3 c = V)) :
    Calls Try.prog 21 #[.int .i64 m, .agg #[.int .u8 x0, .int .u8 x1, .int .u8 x2, .int .u8 x3], .agg #[.int .i64 c.n, .int .i64 c.s0, .int .i64 c.s1, .slice a0 p0 k0, .slice a1 p1 k1]] w fun e w' => e = .returned V ∧ Below w.heap.size w w' := by
  have := cline_any m x0 x1 x2 x3 c a0 p0 k0 a1 p1 k1 w hw hk
  rw [hV.out] at this
  exact this
theorem crline_m (m x0 x1 x2 x3 : Int) (c : Cl) (a0 : Option Addr) (p0 k0 : Nat) (a1 : Option Addr) (p1 k1 : Nat) (V : Value) (w : World) (hw : CW w a0 p0 k0 a1 p1 k1 c) (hk : okc c) (hV : Hid (lineV m x0 x1 x2 x3 c = V)) :
    Calls Try.prog 22 #[.int .i64 m, .agg #[.int .u8 x0, .int .u8 x1, .int .u8 x2, .int .u8 x3], .agg #[.int .i64 c.n, .int .i64 c.s0, .int .i64 c.s1, .slice a0 p0 k0, .slice a1 p1 k1]] w fun e w' => e = .returned V ∧ Below w.heap.size w w' := by
  have := crline_any m x0 x1 x2 x3 c a0 p0 k0 a1 p1 k1 w hw hk
  rw [hV.out] at this
  exact this
def WR : List Rw := [(0, 0, 0, 0, 5, 1), (0, 0, 0, 0, -2, 1)]
def WB : List Rn := [(-2, 1), (5, 1)]
def WJ : List Rn := [(-2, 2), (5, 2)]
theorem wr_ok : ∀ r ∈ WR, rok r := by
  intro r hr
  simp only [WR, List.mem_cons, List.not_mem_nil, or_false] at hr
  rcases hr with rfl | rfl <;> (refine ⟨⟨?_, ?_, ?_, ?_⟩, ?_, ?_⟩ <;> first | (unfold U8; omega) | (unfold I64; omega))
theorem wk_of : ofC 1 WR = ⟨2, 3, 0, WB, []⟩ := by
  have h : ofB 1 WR = true := by decide
  rw [ofC_yes h]
  rfl
theorem wk_ofb : ofB 1 WR = true := by decide
theorem wk_j : cjB 1 ⟨2, 3, 0, WB, []⟩ ⟨2, 3, 0, WB, []⟩ = true := by decide
theorem wk_jc : cjC 1 ⟨2, 3, 0, WB, []⟩ ⟨2, 3, 0, WB, []⟩ = ⟨4, 6, 0, WJ, []⟩ := by
  rw [cjC_yes wk_j]
  rfl
theorem wk_g1 : cg 1 ⟨4, 6, 0, WJ, []⟩ = true := by decide
theorem wk_g2 : cg 2 ⟨4, 6, 0, WJ, []⟩ = false := by decide
theorem wk_g0 : cg 1 ⟨2, 3, 0, WB, []⟩ = true := by decide
theorem wk_l : lineV 1 3 0 0 0 ⟨2, 3, 0, WB, []⟩ = .agg #[.int .u8 3, .int .u8 0, .int .u8 0, .int .u8 0, .int .i64 2, .int .i64 3, .int .i64 0, .int .i64 (-2), .int .i64 0, .int .i64 5, .int .i64 0] := by
  rw [lineV_1 wk_g0]; rfl
theorem wk_s0 : csm ⟨2, 3, 0, WB, []⟩ ⟨2, 3, 0, WB, []⟩ = true := csm_self _
theorem wk_s1 : csm ⟨2, 3, 0, WB, []⟩ ⟨4, 6, 0, WJ, []⟩ = false := by decide
theorem wk_a1 : av 5 0 ⟨2, 3, 0, 0, 0, 0, 0⟩ ⟨3, 4, 0, 0, 0, 0, 0⟩ = -1 := by decide
theorem wk_a2 : av 2 0 ⟨2, 3, 0, 0, 0, 0, 0⟩ ⟨3, 4, 0, 0, 0, 0, 0⟩ = 1 := by decide
theorem i64s {x : Int} (h : -1000 ≤ x ∧ x ≤ 1000) : I64 x := by unfold I64; omega
theorem wk_ok1 : okc ⟨2, 3, 0, WB, []⟩ := by
  refine ⟨i64s (by decide), i64s (by decide), i64s (by decide), fun r hr => ?_, fun r hr => by cases hr⟩
  simp only [WB, List.mem_cons, List.not_mem_nil, or_false] at hr
  rcases hr with rfl | rfl <;> exact ⟨i64s (by decide), i64s (by decide)⟩
theorem wk_ok2 : okc ⟨4, 6, 0, WJ, []⟩ := by
  refine ⟨i64s (by decide), i64s (by decide), i64s (by decide), fun r hr => ?_, fun r hr => by cases hr⟩
  simp only [WJ, List.mem_cons, List.not_mem_nil, or_false] at hr
  rcases hr with rfl | rfl <;> exact ⟨i64s (by decide), i64s (by decide)⟩
theorem wk_okl (n s : Int) (h : -1000 ≤ n ∧ n ≤ 1000) (k : -1000 ≤ s ∧ s ≤ 1000) : okl ⟨n, s, 0, 0, 0, 0, 0⟩ :=
  ⟨i64s h, ⟨i64s k, calc.i64_0⟩, ⟨calc.i64_0, calc.i64_0⟩, calc.i64_0, calc.i64_0⟩
theorem cw_len {w : World} {a0 a1 : Option Addr} {p0 k0 p1 k1 : Nat} {c : Cl} (h : CW w a0 p0 k0 a1 p1 k1 c) : p0 = c.b0.length ∧ p1 = c.b1.length := ⟨h.1.lens.1, h.2.lens.1⟩

set_option maxHeartbeats 32000000 in
theorem wakes_any (w : World) : Calls Try.prog 15 #[] w fun e w' => e = .returned (.bool true) ∧ Below w.heap.size w w' := by
  have t1 : True := trivial
  have t2 : True := trivial
  have t3 : True := trivial
  have eqn := eqP4
  have q3 : qp 3 0 0 0 3 0 0 0 = true := by decide
  have B2 := hid (bt (b1alloc w (.cells #[.int .u8 0, .int .u8 0, .int .u8 0, .int .u8 0, .int .i64 5, .int .i64 1] 53)) (b1alloc _ (.cells #[.int .u8 0, .int .u8 0, .int .u8 0, .int .u8 0, .int .i64 (-2), .int .i64 1] 53)))
  go_enter Try.func15, Try.ntmps15
  go_upto_region 2 with fail
  go_upto_region 3 with (first
    | (go_at_call 17; refine (cof_m 1 _ 2 2 WR ⟨2, 3, 0, WB, []⟩ true _ (rrow_two _ _ _ _ (by first | rfl | simp) 53) wr_ok (by decide) (hid wk_of) (hid wk_ofb)).mono ?_; rintro e w3 ⟨⟨a0, p0, k0, a1, p1, k1, rfl, hcw⟩, hb⟩; have C3 := hid hcw; have B3 := hid (bt (bt B2.out (b1alloc _ _)) hb); clear hcw hb))
  have K3 : Hid (Kp w (w3.alloc (.cells #[.int .i64 2, .int .i64 3, .int .i64 0, .slice a0 p0 k0, .slice a1 p1 k1] 26)) w3.heap.size (.cells #[.int .i64 2, .int .i64 3, .int .i64 0, .slice a0 p0 k0, .slice a1 p1 k1] 26)) := hid (kp_new2 B3.out _ _ rfl)
  replace C3 := hid (C3.out.below (b1alloc w3 (.cells #[.int .i64 2, .int .i64 3, .int .i64 0, .slice a0 p0 k0, .slice a1 p1 k1] 26)))
  have hlen := cw_len C3.out
  have HL := hid hlen
  clear B2 B3 hlen
  generalize w3.alloc (.cells #[.int .i64 2, .int .i64 3, .int .i64 0, .slice a0 p0 k0, .slice a1 p1 k1] 26) = W3 at K3 C3 ⊢
  generalize w3.heap.size = N3 at K3 ⊢
  obtain ⟨c0, c1, c2, c3, c4⟩ := box_five K3.out.2.2
  go_upto_region 4 with (go_at_call 21; refine (cline_m 1 3 0 0 0 ⟨2, 3, 0, WB, []⟩ _ _ _ _ _ _ _ _ C3.out wk_ok1 (hid wk_l)).mono ?_; rintro e w5 ⟨rfl, hb⟩; replace K3 := hid (K3.out.step hb); replace C3 := hid (C3.out.below hb); clear hb c0 c1 c2 c3 c4)
  have K5 : Hid (Kp w (w5.alloc (.cells #[.int .u8 3, .int .u8 0, .int .u8 0, .int .u8 0, .int .i64 2, .int .i64 3, .int .i64 0, .int .i64 (-2), .int .i64 0, .int .i64 5, .int .i64 0] 44)) w5.heap.size (.cells #[.int .u8 3, .int .u8 0, .int .u8 0, .int .u8 0, .int .i64 2, .int .i64 3, .int .i64 0, .int .i64 (-2), .int .i64 0, .int .i64 5, .int .i64 0] 44)) := hid (kp_new2 K3.out.1 _ _ rfl)
  replace K3 := hid (kp_alloc K3.out (.cells #[.int .u8 3, .int .u8 0, .int .u8 0, .int .u8 0, .int .i64 2, .int .i64 3, .int .i64 0, .int .i64 (-2), .int .i64 0, .int .i64 5, .int .i64 0] 44))
  replace C3 := hid (C3.out.below (b1alloc w5 (.cells #[.int .u8 3, .int .u8 0, .int .u8 0, .int .u8 0, .int .i64 2, .int .i64 3, .int .i64 0, .int .i64 (-2), .int .i64 0, .int .i64 5, .int .i64 0] 44)))
  generalize w5.alloc (.cells #[.int .u8 3, .int .u8 0, .int .u8 0, .int .u8 0, .int .i64 2, .int .i64 3, .int .i64 0, .int .i64 (-2), .int .i64 0, .int .i64 5, .int .i64 0] 44) = W5 at K3 K5 C3 ⊢
  generalize w5.heap.size = N5 at K5 ⊢
  obtain ⟨c0, c1, c2, c3, c4⟩ := box_five K3.out.2.2
  go_upto_region 5 with (go_at_call 23; refine (cjoin_m 1 ⟨2, 3, 0, WB, []⟩ ⟨2, 3, 0, WB, []⟩ _ _ _ _ _ _ _ _ _ _ _ _ ⟨4, 6, 0, WJ, []⟩ true _ C3.out C3.out wk_ok1 wk_ok1 (by have h := HL.out; simp only [WB, List.length_cons, List.length_nil] at h; omega) (hid wk_jc) (hid wk_j)).mono ?_; rintro e w6 ⟨⟨b0, q0, j0, b1, q1, j1, rfl, hcw⟩, hb⟩; have C6 := hid hcw; replace K3 := hid (K3.out.step hb); replace K5 := hid (K5.out.step hb); replace C3 := hid (C3.out.below hb); clear hcw hb c0 c1 c2 c3 c4)
  have K6 : Hid (Kp w (w6.alloc (.cells #[.int .i64 4, .int .i64 6, .int .i64 0, .slice b0 q0 j0, .slice b1 q1 j1] 26)) w6.heap.size (.cells #[.int .i64 4, .int .i64 6, .int .i64 0, .slice b0 q0 j0, .slice b1 q1 j1] 26)) := hid (kp_new2 K3.out.1 _ _ rfl)
  replace K3 := hid (kp_alloc K3.out (.cells #[.int .i64 4, .int .i64 6, .int .i64 0, .slice b0 q0 j0, .slice b1 q1 j1] 26))
  replace K5 := hid (kp_alloc K5.out (.cells #[.int .i64 4, .int .i64 6, .int .i64 0, .slice b0 q0 j0, .slice b1 q1 j1] 26))
  replace C3 := hid (C3.out.below (b1alloc w6 (.cells #[.int .i64 4, .int .i64 6, .int .i64 0, .slice b0 q0 j0, .slice b1 q1 j1] 26)))
  replace C6 := hid (C6.out.below (b1alloc w6 (.cells #[.int .i64 4, .int .i64 6, .int .i64 0, .slice b0 q0 j0, .slice b1 q1 j1] 26)))
  generalize w6.alloc (.cells #[.int .i64 4, .int .i64 6, .int .i64 0, .slice b0 q0 j0, .slice b1 q1 j1] 26) = W6 at K3 K5 K6 C3 C6 ⊢
  generalize w6.heap.size = N6 at K6 ⊢
  go_upto_region 6 with fail
  have K8 : Hid (Kp w ((W6.alloc (.cells #[.int .u8 0, .int .u8 0, .int .u8 0, .int .u8 0, .int .i64 2, .int .i64 0, .int .i64 0, .int .i64 0, .int .i64 0, .int .i64 0, .int .i64 0] 44)).alloc (.cells #[.int .u8 0, .int .u8 0, .int .u8 0, .int .u8 0, .int .i64 3, .int .i64 0, .int .i64 0, .int .i64 0, .int .i64 0, .int .i64 0, .int .i64 0] 44)) W6.heap.size (.cells #[.int .u8 0, .int .u8 0, .int .u8 0, .int .u8 0, .int .i64 2, .int .i64 0, .int .i64 0, .int .i64 0, .int .i64 0, .int .i64 0, .int .i64 0] 44)) := hid (kp_alloc (kp_new2 K3.out.1 _ _ rfl) _)
  have K9 : Hid (Kp w ((W6.alloc (.cells #[.int .u8 0, .int .u8 0, .int .u8 0, .int .u8 0, .int .i64 2, .int .i64 0, .int .i64 0, .int .i64 0, .int .i64 0, .int .i64 0, .int .i64 0] 44)).alloc (.cells #[.int .u8 0, .int .u8 0, .int .u8 0, .int .u8 0, .int .i64 3, .int .i64 0, .int .i64 0, .int .i64 0, .int .i64 0, .int .i64 0, .int .i64 0] 44)) (W6.heap.size + 1) (.cells #[.int .u8 0, .int .u8 0, .int .u8 0, .int .u8 0, .int .i64 3, .int .i64 0, .int .i64 0, .int .i64 0, .int .i64 0, .int .i64 0, .int .i64 0] 44)) := hid (kp_new2 (bt K3.out.1 (b1alloc _ _)) _ _ (by simp))
  have B67 : Hid (Below W6.heap.size W6 ((W6.alloc (.cells #[.int .u8 0, .int .u8 0, .int .u8 0, .int .u8 0, .int .i64 2, .int .i64 0, .int .i64 0, .int .i64 0, .int .i64 0, .int .i64 0, .int .i64 0] 44)).alloc (.cells #[.int .u8 0, .int .u8 0, .int .u8 0, .int .u8 0, .int .i64 3, .int .i64 0, .int .i64 0, .int .i64 0, .int .i64 0, .int .i64 0, .int .i64 0] 44))) := hid (bt (b1alloc W6 (.cells #[.int .u8 0, .int .u8 0, .int .u8 0, .int .u8 0, .int .i64 2, .int .i64 0, .int .i64 0, .int .i64 0, .int .i64 0, .int .i64 0, .int .i64 0] 44)) (b1alloc _ (.cells #[.int .u8 0, .int .u8 0, .int .u8 0, .int .u8 0, .int .i64 3, .int .i64 0, .int .i64 0, .int .i64 0, .int .i64 0, .int .i64 0, .int .i64 0] 44)))
  have hge := K3.out.1.size
  have HGE : Hid (w.heap.size ≤ W6.heap.size) := hid hge
  clear hge
  generalize (W6.alloc (.cells #[.int .u8 0, .int .u8 0, .int .u8 0, .int .u8 0, .int .i64 2, .int .i64 0, .int .i64 0, .int .i64 0, .int .i64 0, .int .i64 0, .int .i64 0] 44)).alloc (.cells #[.int .u8 0, .int .u8 0, .int .u8 0, .int .u8 0, .int .i64 3, .int .i64 0, .int .i64 0, .int .i64 0, .int .i64 0, .int .i64 0, .int .i64 0] 44) = W7 at K8 K9 B67 ⊢
  have z8 := kp_cell (j := 5) (v := .int .i64 0) K8.out rfl
  have z9 := kp_cell (j := 5) (v := .int .i64 0) K9.out rfl
  have f8 := kp_froz K8.out 5
  have f9 := kp_froz K9.out 5
  have B68 : Hid (Below W6.heap.size W6 ((W7.setCell ⟨W6.heap.size, 5, none⟩ (.int .i64 3)).setCell ⟨W6.heap.size + 1, 5, none⟩ (.int .i64 4))) := hid ((B67.out.setCell (p := ⟨W6.heap.size, 5, none⟩) (Nat.le_refl _) _).setCell (p := ⟨W6.heap.size + 1, 5, none⟩) (Nat.le_succ _) _)
  go_upto_region 7 with fail
  have K8' : Hid (Kp w _ W6.heap.size (.cells #[.int .u8 0, .int .u8 0, .int .u8 0, .int .u8 0, .int .i64 2, .int .i64 3, .int .i64 0, .int .i64 0, .int .i64 0, .int .i64 0, .int .i64 0] 44)) := hid (kp_other (M := W6.heap.size + 1) (j := 5) (v := .int .i64 4) (kp_set (j := 5) (v := .int .i64 3) K8.out) (by omega) (by have := HGE.out; omega))
  have K9' : Hid (Kp w _ (W6.heap.size + 1) (.cells #[.int .u8 0, .int .u8 0, .int .u8 0, .int .u8 0, .int .i64 3, .int .i64 4, .int .i64 0, .int .i64 0, .int .i64 0, .int .i64 0, .int .i64 0] 44)) := hid (kp_set (j := 5) (v := .int .i64 4) (kp_other (M := W6.heap.size) (j := 5) (v := .int .i64 3) K9.out (by omega) HGE.out))
  replace K3 := hid (K3.out.step B68.out)
  replace K5 := hid (K5.out.step B68.out)
  replace K6 := hid (K6.out.step B68.out)
  replace C3 := hid (C3.out.below B68.out)
  replace C6 := hid (C6.out.below B68.out)
  clear z8 z9 f8 f9 K8 K9 B67 B68 HGE
  generalize ((W7.setCell ⟨W6.heap.size, 5, none⟩ (.int .i64 3)).setCell ⟨W6.heap.size + 1, 5, none⟩ (.int .i64 4)) = W8 at K3 K5 K6 C3 C6 K8' K9' ⊢
  generalize W6.heap.size = N8 at K8' K9' ⊢
  obtain ⟨c0, c1, c2, c3, c4⟩ := box_five K3.out.2.2
  obtain ⟨e0, e1, e2, e3, e4⟩ := box_five K6.out.2.2
  obtain ⟨l0, l1, l2, l3, l4, l5, l6, l7, l8, l9, l10⟩ := box_elf K5.out.2.2
  go_wp2_with (first
    | (go_at_call 19; clear t1; refine (cgood_m 1 ⟨4, 6, 0, WJ, []⟩ _ _ _ _ _ _ true _ C6.out wk_ok2 (hid wk_g1)).mono ?_; rintro e wa ⟨rfl, hb⟩; replace K3 := hid (K3.out.step hb); replace K5 := hid (K5.out.step hb); replace K6 := hid (K6.out.step hb); replace K8' := hid (K8'.out.step hb); replace K9' := hid (K9'.out.step hb); replace C3 := hid (C3.out.below hb); replace C6 := hid (C6.out.below hb); obtain ⟨c0, c1, c2, c3, c4⟩ := box_five K3.out.2.2; obtain ⟨e0, e1, e2, e3, e4⟩ := box_five K6.out.2.2; clear hb)
    | (go_at_call 19; refine (cgood_m 2 ⟨4, 6, 0, WJ, []⟩ _ _ _ _ _ _ false _ C6.out wk_ok2 (hid wk_g2)).mono ?_; rintro e wb ⟨rfl, hb⟩; replace K3 := hid (K3.out.step hb); replace K5 := hid (K5.out.step hb); replace K6 := hid (K6.out.step hb); replace K8' := hid (K8'.out.step hb); replace K9' := hid (K9'.out.step hb); replace C3 := hid (C3.out.below hb); replace C6 := hid (C6.out.below hb); obtain ⟨c0, c1, c2, c3, c4⟩ := box_five K3.out.2.2; obtain ⟨e0, e1, e2, e3, e4⟩ := box_five K6.out.2.2; clear hb)
    | (go_at_call 25; clear t2; refine (csame_m ⟨2, 3, 0, WB, []⟩ ⟨2, 3, 0, WB, []⟩ _ _ _ _ _ _ _ _ _ _ _ _ true _ C3.out C3.out (hid wk_s0)).mono ?_; rintro e wc ⟨rfl, hb⟩; replace K3 := hid (K3.out.step hb); replace K5 := hid (K5.out.step hb); replace K6 := hid (K6.out.step hb); replace K8' := hid (K8'.out.step hb); replace K9' := hid (K9'.out.step hb); replace C3 := hid (C3.out.below hb); replace C6 := hid (C6.out.below hb); obtain ⟨c0, c1, c2, c3, c4⟩ := box_five K3.out.2.2; obtain ⟨e0, e1, e2, e3, e4⟩ := box_five K6.out.2.2; clear hb)
    | (go_at_call 25; refine (csame_m ⟨2, 3, 0, WB, []⟩ ⟨4, 6, 0, WJ, []⟩ _ _ _ _ _ _ _ _ _ _ _ _ false _ C3.out C6.out (hid wk_s1)).mono ?_; rintro e wd ⟨rfl, hb⟩; replace K3 := hid (K3.out.step hb); replace K5 := hid (K5.out.step hb); replace K6 := hid (K6.out.step hb); replace K8' := hid (K8'.out.step hb); replace K9' := hid (K9'.out.step hb); replace C3 := hid (C3.out.below hb); replace C6 := hid (C6.out.below hb); obtain ⟨p0', p1', p2', p3', p4', p5', p6', p7', p8', p9', p10'⟩ := box_elf K8'.out.2.2; obtain ⟨r0, r1, r2, r3, r4, r5, r6, r7, r8, r9, r10⟩ := box_elf K9'.out.2.2; clear hb)
    | (go_at_call 28; clear t3; refine (cahead_m 5 0 ⟨2, 3, 0, 0, 0, 0, 0⟩ ⟨3, 4, 0, 0, 0, 0, 0⟩ 0 0 0 0 0 0 0 0 (-1) _ (wk_okl 2 3 (by decide) (by decide)) (wk_okl 3 4 (by decide) (by decide)) (hid wk_a1)).mono ?_; rintro e wf ⟨rfl, hb⟩; replace K3 := hid (K3.out.step hb); replace K5 := hid (K5.out.step hb); replace K6 := hid (K6.out.step hb); replace K8' := hid (K8'.out.step hb); replace K9' := hid (K9'.out.step hb); replace C3 := hid (C3.out.below hb); replace C6 := hid (C6.out.below hb); obtain ⟨p0', p1', p2', p3', p4', p5', p6', p7', p8', p9', p10'⟩ := box_elf K8'.out.2.2; obtain ⟨r0, r1, r2, r3, r4, r5, r6, r7, r8, r9, r10⟩ := box_elf K9'.out.2.2; clear hb)
    | (go_at_call 28; refine (cahead_m 2 0 ⟨2, 3, 0, 0, 0, 0, 0⟩ ⟨3, 4, 0, 0, 0, 0, 0⟩ 0 0 0 0 0 0 0 0 1 _ (wk_okl 2 3 (by decide) (by decide)) (wk_okl 3 4 (by decide) (by decide)) (hid wk_a2)).mono ?_; rintro e wg ⟨rfl, hb⟩; replace K3 := hid (K3.out.step hb); replace K5 := hid (K5.out.step hb); replace K6 := hid (K6.out.step hb); replace K8' := hid (K8'.out.step hb); replace K9' := hid (K9'.out.step hb); replace C3 := hid (C3.out.below hb); replace C6 := hid (C6.out.below hb); clear hb))
  go_ret
  exact ⟨rfl, K3.out.1⟩

end Go.Proofs.Ytjkkajhjcinalaa

namespace Go.Proofs.Ytjkkajhjcinalaa
open Go.ChangeShapes Go.WideShapes Go.ChangeAt Go.RowKit
set_option linter.unusedVariables false
set_option linter.unusedSimpArgs false
set_option maxRecDepth 100000

theorem okc_0 : okc cl0 := ⟨calc.i64_0, calc.i64_0, calc.i64_0, nok_nil, nok_nil⟩
theorem ofC_ok {m : Int} {l : List Rw} (hk : ∀ r ∈ l, rok r) (hl : l.length ≤ 1000) : okc (ofC m l) := by
  cases h : ofB m l with
  | false => rw [ofC_no h]; exact okc_0
  | true =>
    rw [ofC_yes h]
    obtain ⟨hm, h0, f0, f1⟩ := ofB_iff.1 h
    refine ⟨by show I64 (l.length : Int); unfold I64; omega, fitB_iff.1 f0, ?_, bagOf_ok (V0_i64 hk) (by rw [V0_len]; omega), ?_⟩
    · show I64 (if m = 2 then calc.sumI (V1 l) else 0)
      rcases hm with rfl | rfl
      · exact calc.i64_0
      · rcases f1 with f1 | f1
        · cases f1
        · exact fitB_iff.1 f1
    · show ∀ r ∈ (if m = 2 then bagOf (V1 l) else []), nok r
      rcases hm with rfl | rfl
      · intro r hr; cases hr
      · exact bagOf_ok (V1_i64 hk) (by rw [V1_len]; omega)
theorem ofC_len (m : Int) (l : List Rw) : (ofC m l).b0.length ≤ l.length ∧ (ofC m l).b1.length ≤ l.length := by
  cases h : ofB m l with
  | false => rw [ofC_no h]; exact ⟨Nat.zero_le _, Nat.zero_le _⟩
  | true =>
    rw [ofC_yes h]
    have e0 := bagOf_len (V0 l)
    have e1 := bagOf_len (V1 l)
    rw [V0_len] at e0
    rw [V1_len] at e1
    refine ⟨e0, ?_⟩
    show (if m = 2 then bagOf (V1 l) else []).length ≤ l.length
    split
    · exact e1
    · exact Nat.zero_le _
end Go.Proofs.Ytjkkajhjcinalaa

namespace Go.Proofs.Ytjkkajhjcinalaa
open Go.ChangeShapes Go.WideShapes Go.ChangeAt Go.RowKit
set_option linter.unusedVariables false
set_option linter.unusedSimpArgs false
set_option maxRecDepth 100000

theorem eqL3 (x0 x1 x2 x3 n s0 s1 a0 a1 b0 b1 : Int) (w : World) : (Op.equalIn 10000 44 (.agg #[.int .u8 x0, .int .u8 x1, .int .u8 x2, .int .u8 x3, .int .i64 n, .int .i64 s0, .int .i64 s1, .int .i64 a0, .int .i64 a1, .int .i64 b0, .int .i64 b1]) (.agg #[.int .u8 x0, .int .u8 x1, .int .u8 x2, .int .u8 x3, .int .i64 n, .int .i64 s0, .int .i64 s1, .int .i64 a0, .int .i64 a1, .int .i64 b0, .int .i64 b1])).run Try.prog w = .ok true w := eqL2 x0 x1 x2 x3 n s0 s1 a0 a1 b0 b1 w
end Go.Proofs.Ytjkkajhjcinalaa

namespace Go.Proofs.Ytjkkajhjcinalaa
open Go.ChangeShapes Go.WideShapes Go.ChangeAt Go.RowKit
set_option linter.unusedVariables false
set_option linter.unusedSimpArgs false
set_option maxRecDepth 100000

theorem three_pick {w : World} {N : Nat} {t : TypeId} {a b c : Int} (h : w.heap[N]? = some (.cells #[.int .i64 a, .int .i64 b, .int .i64 c] t)) {q : Nat} (hq : q < 3) : ∃ x, w.cell? ⟨N, q, none⟩ = some (.int .i64 x) := by
  rw [cell_of_row _ _ _ _ t (0, 0) h]
  match q, hq with
  | 0, _ => exact ⟨a, rfl⟩
  | 1, _ => exact ⟨b, rfl⟩
  | 2, _ => exact ⟨c, rfl⟩

end Go.Proofs.Ytjkkajhjcinalaa

namespace Go.Proofs.Ytjkkajhjcinalaa
open Go.ChangeShapes Go.WideShapes Go.ChangeAt Go.RowKit
set_option linter.unusedVariables false
set_option linter.unusedSimpArgs false
set_option maxRecDepth 100000

theorem open_runs_cell {H : Type} {enc : TypeId × Value → H} {W : World} {base fuel : Nat} {c0 : Value} {x : DataW H × List MemPlace}
    (hf : DataW.trod enc Try.prog W base (fun _ => true) true fuel 23 [c0] = some x) : ∃ a n c l, c0 = .slice a n c ∧ NRun W a n c l ∧ ∀ r ∈ l, nok r := by
  rcases Go.Deep.open_slice Try.underlying23 hf with ⟨hcs, _⟩ | ⟨ad, len, cap, m, n', D, Pl, hcs, hb, hl, hm, hmm, _, hx⟩
  · simp at hcs
    subst hcs
    exact ⟨none, 0, 0, [], rfl, nrun_nil W, fun r hr => by cases hr⟩
  · simp at hcs
    subst hcs
    simp only [if_true] at hmm
    have each : ∀ i, i < len → ∃ q : Rn, nok q ∧ ∀ k v, (ncs q)[k]? = some v → W.cell? (ad.add (i * 2 + k)) = some v := by
      intro i hi
      obtain ⟨cs', h1, h2⟩ := hx i (by omega)
      rw [cells_nr] at h1
      obtain ⟨_, hlen, hcell⟩ := World.cells?_some h1
      match cs', hlen with
      | [c0, c1], _ =>
        obtain ⟨x0, x1, e, hr⟩ := open_run_cells h2
        refine ⟨_, hr, fun k v hk => ?_⟩
        rw [← e] at hk
        have hk6 : k < 2 := by
          have := (List.getElem?_eq_some_iff.1 hk).1
          simpa using this
        have := hcell k (by simpa using hk6)
        rw [Go.Deep.add_add] at this
        rw [this]
        exact hk
    obtain ⟨q, hq⟩ := Go.Deep.choose_lt each
    refine ⟨some ad, len, cap, (List.range len).map q, rfl, ⟨by simp, hl, hm, (fun h => by cases h), fun h0 => ?_⟩, ?_⟩
    · obtain ⟨b, off, spot⟩ := ad
      have hc0 := (hq 0 (by omega)).2 0
      obtain ⟨⟨x0, x1⟩, hq0⟩ : ∃ y, q 0 = y := ⟨_, rfl⟩
      have hc := hc0 (.int .i64 x0) (by rw [hq0]; rfl)
      have hspot : spot = none := by simpa [Addr.add] using World.cell?_spot hc
      subst hspot
      have hb' := World.block_lt_of_cell? _ _ hc
      refine ⟨b, off, rfl, by simpa [Addr.add] using hb', fun j r hj i v hi => ?_⟩
      have hjl : j < len := by
        have := (List.getElem?_eq_some_iff.1 hj).1
        simpa using this
      rw [List.getElem?_map, List.getElem?_range hjl] at hj
      simp at hj
      subst hj
      have := (hq j hjl).2 i v hi
      rw [add_at, ← Nat.add_assoc] at this
      exact this
    · intro r hr
      simp only [List.mem_map, List.mem_range] at hr
      obtain ⟨i, hi, rfl⟩ := hr
      exact (hq i hi).1
theorem open_cell_cells {H : Type} {enc : TypeId × Value → H} {W : World} {base fuel : Nat} {c0 c1 c2 c3 c4 : Value} {x : DataW H × List MemPlace}
    (hf : DataW.trod enc Try.prog W base (fun _ => true) true fuel 26 [c0, c1, c2, c3, c4] = some x) :
    ∃ (y : Cl) (a0 : Option Addr) (p0 k0 : Nat) (a1 : Option Addr) (p1 k1 : Nat), c0 = .int .i64 y.n ∧ c1 = .int .i64 y.s0 ∧ c2 = .int .i64 y.s1 ∧ c3 = .slice a0 p0 k0 ∧ c4 = .slice a1 p1 k1 ∧ CW W a0 p0 k0 a1 p1 k1 y ∧ okc y := by
  have hI : Try.prog.cellsOf 2 = 1 := by kernel_rfl
  have hM : Try.prog.cellsOf 22 = 2 := by kernel_rfl
  have hB : Try.prog.cellsOf 24 = 2 := by kernel_rfl
  have hR : Try.prog.cellsOf 23 = 1 := by kernel_rfl
  obtain ⟨xs, m, _, _, _, hl, hg⟩ := DataW.trod_struct Try.underlying26 hf
  have g0 := hg 0
  have g1 := hg 1
  have g2 := hg 2
  simp [hI, hM, hB] at g0 g1 g2
  match xs, hl with
  | [y0, y1, y2], _ =>
    obtain ⟨n, e0, _, w0⟩ := DataW.trod_int Try.underlying2 g0
    simp at e0
    subst e0
    obtain ⟨s0, s1, rfl, rfl, i0, i1⟩ := open_meas_cells (c0 := c1) (c1 := c2) g1
    obtain ⟨ys, m2, _, _, _, hl2, hg2⟩ := DataW.trod_array Try.underlying24 g2
    have h0 := hg2 0 (by decide)
    have h1 := hg2 1 (by decide)
    rw [hR] at h0 h1
    match ys, hl2 with
    | [z0, z1], _ =>
      simp at h0 h1
      obtain ⟨a0, p0, k0, l0, rfl, r0, o0⟩ := open_runs_cell h0
      obtain ⟨a1, p1, k1, l1, rfl, r1, o1⟩ := open_runs_cell h1
      exact ⟨⟨n, s0, s1, l0, l1⟩, a0, p0, k0, a1, p1, k1, rfl, rfl, rfl, rfl, rfl, ⟨r0, r1⟩, bounds_i64 w0, i0, i1, o0, o1⟩
theorem open_ask {H : Type} {enc : TypeId × Value → H} {W : World} {base b0 : Nat} {r : Reach} {v : Value} {d : DataW H} {p : List MemPlace}
    (hv : Value.okWide Try.prog W r b0 30 v) (h : DataW.Trod enc Try.prog W base (fun _ => true) true 30 v d p) :
    ∃ (m x0 x1 x2 x3 : Int) (cA : Cl) (a0 : Option Addr) (p0 k0 : Nat) (a1 : Option Addr) (p1 k1 : Nat) (cB : Cl) (b0 : Option Addr) (q0 j0 : Nat) (b1 : Option Addr) (q1 j1 : Nat),
      v = .agg #[.int .i64 m, .int .i64 cA.n, .int .i64 cA.s0, .int .i64 cA.s1, .slice a0 p0 k0, .slice a1 p1 k1, .int .i64 cB.n, .int .i64 cB.s0, .int .i64 cB.s1, .slice b0 q0 j0, .slice b1 q1 j1, .int .u8 x0, .int .u8 x1, .int .u8 x2, .int .u8 x3] ∧ CW W a0 p0 k0 a1 p1 k1 cA ∧ CW W b0 q0 j0 b1 q1 j1 cB ∧ okc cA ∧ okc cB := by
  have hC : Try.prog.cellsOf 30 = 15 := by kernel_rfl
  have hI : Try.prog.cellsOf 3 = 1 := by kernel_rfl
  have hL : Try.prog.cellsOf 26 = 5 := by kernel_rfl
  have hO : Try.prog.cellsOf 28 = 4 := by kernel_rfl
  obtain ⟨cs, rfl, hsz⟩ := okWide_struct Try.underlying30 hv
  rw [hC] at hsz
  obtain ⟨fuel, hf⟩ := h
  obtain ⟨c0 , c1 , c2 , c3 , c4 , c5 , c6 , c7 , c8 , c9 , c10 , c11 , c12 , c13 , c14, rfl⟩ : ∃ c0 c1 c2 c3 c4 c5 c6 c7 c8 c9 c10 c11 c12 c13 c14, cs = #[c0, c1, c2, c3, c4, c5, c6, c7, c8, c9, c10, c11, c12, c13, c14] := by
    obtain ⟨l⟩ := cs
    match l, hsz with
    | [c0, c1, c2, c3, c4, c5, c6, c7, c8, c9, c10, c11, c12, c13, c14], _ => exact ⟨_, _, _, _, _, _, _, _, _, _, _, _, _, _, _, rfl⟩
  have hf' : DataW.trod enc Try.prog W base (fun _ => true) true fuel 30 [c0, c1, c2, c3, c4, c5, c6, c7, c8, c9, c10, c11, c12, c13, c14] = some (d, p) := hf
  obtain ⟨xs, m, _, _, _, hl, hg⟩ := DataW.trod_struct Try.underlying30 hf'
  have g0 := hg 0
  have g1 := hg 1
  have g2 := hg 2
  have g3 := hg 3
  simp [hI, hL, hO] at g0 g1 g2 g3
  match xs, hl with
  | [y0, y1, y2, y3], _ =>
    obtain ⟨n, e0, _, w0⟩ := DataW.trod_int Try.underlying3 g0
    simp at e0
    subst e0
    obtain ⟨cA, a0, p0, k0, a1, p1, k1, rfl, rfl, rfl, rfl, rfl, wA, oA⟩ := open_cell_cells g1
    obtain ⟨cB, b0, q0, j0, b1, q1, j1, rfl, rfl, rfl, rfl, rfl, wB, oB⟩ := open_cell_cells g2
    obtain ⟨x0, x1, x2, x3, rfl, rfl, rfl, rfl, _⟩ := open_coord_cells (c0 := c11) (c1 := c12) (c2 := c13) (c3 := c14) g3
    exact ⟨n, x0, x1, x2, x3, cA, a0, p0, k0, a1, p1, k1, cB, b0, q0, j0, b1, q1, j1, rfl, wA, wB, oA, oB⟩
theorem box_15 {w : World} {D : Nat} {t : TypeId} {c0 c1 c2 c3 c4 c5 c6 c7 c8 c9 c10 c11 c12 c13 c14 : Value} (hD : w.heap[D]? = some (.cells #[c0, c1, c2, c3, c4, c5, c6, c7, c8, c9, c10, c11, c12, c13, c14] t)) : w.cell? ⟨D, 0, none⟩ = some c0 ∧ w.cell? ⟨D, 1, none⟩ = some c1 ∧ w.cell? ⟨D, 2, none⟩ = some c2 ∧ w.cell? ⟨D, 3, none⟩ = some c3 ∧ w.cell? ⟨D, 4, none⟩ = some c4 ∧ w.cell? ⟨D, 5, none⟩ = some c5 ∧ w.cell? ⟨D, 6, none⟩ = some c6 ∧ w.cell? ⟨D, 7, none⟩ = some c7 ∧ w.cell? ⟨D, 8, none⟩ = some c8 ∧ w.cell? ⟨D, 9, none⟩ = some c9 ∧ w.cell? ⟨D, 10, none⟩ = some c10 ∧ w.cell? ⟨D, 11, none⟩ = some c11 ∧ w.cell? ⟨D, 12, none⟩ = some c12 ∧ w.cell? ⟨D, 13, none⟩ = some c13 ∧ w.cell? ⟨D, 14, none⟩ = some c14 := by
  refine ⟨?_, ?_, ?_, ?_, ?_, ?_, ?_, ?_, ?_, ?_, ?_, ?_, ?_, ?_, ?_⟩ <;> simp [World.cell?, hD]
/-- A cell's five numbers at the place q of four. -/
def at5 (w : World) (N q : Nat) (a0 : Option Addr) (p0 k0 : Nat) (a1 : Option Addr) (p1 k1 : Nat) (c : Cl) : Prop :=
  w.cell? ⟨N, q * 5, none⟩ = some (.int .i64 c.n) ∧ w.cell? ⟨N, q * 5 + 1, none⟩ = some (.int .i64 c.s0) ∧ w.cell? ⟨N, q * 5 + 2, none⟩ = some (.int .i64 c.s1) ∧ w.cell? ⟨N, q * 5 + 3, none⟩ = some (.slice a0 p0 k0) ∧ w.cell? ⟨N, q * 5 + 4, none⟩ = some (.slice a1 p1 k1)

theorem set6_grown (w : World) (J : Nat) (v0 v1 v2 v3 v4 v5 : Value) : w.grownBy ((((((w.setCell ⟨J, 0, none⟩ v0).setCell ⟨J, 1, none⟩ v1).setCell ⟨J, 2, none⟩ v2).setCell ⟨J, 3, none⟩ v3).setCell ⟨J, 4, none⟩ v4).setCell ⟨J, 5, none⟩ v5) (some J) :=
  (((((set_grown w J 0 v0).trans (set_grown _ J 1 v1)).trans (set_grown _ J 2 v2)).trans (set_grown _ J 3 v3)).trans (set_grown _ J 4 v4)).trans (set_grown _ J 5 v5)
theorem kp_set6 {w wr : World} {J : Nat} {t : TypeId} {a b c d e f : Value} (v0 v1 v2 v3 v4 v5 : Value) (h : Kp w wr J (.cells #[a, b, c, d, e, f] t)) : Kp w ((((((wr.setCell ⟨J, 0, none⟩ v0).setCell ⟨J, 1, none⟩ v1).setCell ⟨J, 2, none⟩ v2).setCell ⟨J, 3, none⟩ v3).setCell ⟨J, 4, none⟩ v4).setCell ⟨J, 5, none⟩ v5) J (.cells #[v0, v1, v2, v3, v4, v5] t) :=
  kp_set (j := 5) (v := v5) (kp_set (j := 4) (v := v4) (kp_set (j := 3) (v := v3) (kp_set (j := 2) (v := v2) (kp_set (j := 1) (v := v1) (kp_set (j := 0) (v := v0) h)))))
theorem no_zr {w : World} {J : Nat} {t : TypeId} {s u z : Value} (hs : ∀ y, ¬ s = .int .i64 y) (hu : ∀ y, ¬ u = .int .i64 y) (hz : ∀ y, ¬ z = .int .i64 y) (h : w.heap[J]? = some (.cells #[.int .i64 0, .int .i64 0, .int .i64 0, s, u, z] t)) : ∀ j x y, w.cell? ⟨J, j, none⟩ = some (.int .i64 x) → w.cell? ⟨J, j + 1, none⟩ = some (.int .i64 y) → y = 0 := by
  intro j x y _ hy
  rw [cell_of_row _ _ _ _ t (0, 0) h] at hy
  match j, hy with
  | 0, hy => simp at hy; exact hy.symm
  | 1, hy => simp at hy; exact hy.symm
  | 2, hy => simp at hy; exact absurd hy (hs y)
  | 3, hy => simp at hy; exact absurd hy (hu y)
  | 4, hy => simp at hy; exact absurd hy (hz y)
  | j + 5, hy => simp at hy
theorem ofC_pos {m : Int} {l : List Rw} (hl : l.length ≤ 1000) : Pos (ofC m l).b0 ∧ Pos (ofC m l).b1 := by
  cases h : ofB m l with
  | true => exact cg_pos (cg_iff.1 (ofC_good h hl))
  | false => rw [ofC_no h]; exact ⟨pos_nil, pos_nil⟩
theorem cw_off {w w' : World} {a0 : Option Addr} {p0 k0 : Nat} {a1 : Option Addr} {p1 k1 J : Nat} {c : Cl} (h : CW w a0 p0 k0 a1 p1 k1 c) (hg : w.grownBy w' (some J)) (hJ : ∀ j x y, w.cell? ⟨J, j, none⟩ = some (.int .i64 x) → w.cell? ⟨J, j + 1, none⟩ = some (.int .i64 y) → y = 0) (hp : Pos c.b0 ∧ Pos c.b1) : CW w' a0 p0 k0 a1 p1 k1 c := ⟨h.1.off hg hJ hp.1, h.2.off hg hJ hp.2⟩
theorem box_6 {w : World} {D : Nat} {t : TypeId} {a b c d e f : Value} (hD : w.heap[D]? = some (.cells #[a, b, c, d, e, f] t)) : w.cell? ⟨D, 0, none⟩ = some a ∧ w.cell? ⟨D, 1, none⟩ = some b ∧ w.cell? ⟨D, 2, none⟩ = some c ∧ w.cell? ⟨D, 3, none⟩ = some d ∧ w.cell? ⟨D, 4, none⟩ = some e ∧ w.cell? ⟨D, 5, none⟩ = some f := by
  refine ⟨?_, ?_, ?_, ?_, ?_, ?_⟩ <;> simp [World.cell?, hD]

def good5 (w : World) (a0 : Option Addr) (p0 k0 : Nat) (a1 : Option Addr) (p1 k1 : Nat) (c : Cl) : Prop := CW w a0 p0 k0 a1 p1 k1 c ∧ okc c ∧ p0 ≤ 1000 ∧ p1 ≤ 1000
theorem four_pick {w : World} {N : Nat} {t : TypeId} {c0 c1 c2 c3 : Cl} {x0 : Option Addr} {x1 x2 : Nat} {x3 : Option Addr} {x4 x5 : Nat} {y0 : Option Addr} {y1 y2 : Nat} {y3 : Option Addr} {y4 y5 : Nat} {z0 : Option Addr} {z1 z2 : Nat} {z3 : Option Addr} {z4 z5 : Nat} {u0 : Option Addr} {u1 u2 : Nat} {u3 : Option Addr} {u4 u5 : Nat}
    (h : w.heap[N]? = some (.cells #[.int .i64 c0.n, .int .i64 c0.s0, .int .i64 c0.s1, .slice x0 x1 x2, .slice x3 x4 x5, .int .i64 c1.n, .int .i64 c1.s0, .int .i64 c1.s1, .slice y0 y1 y2, .slice y3 y4 y5, .int .i64 c2.n, .int .i64 c2.s0, .int .i64 c2.s1, .slice z0 z1 z2, .slice z3 z4 z5, .int .i64 c3.n, .int .i64 c3.s0, .int .i64 c3.s1, .slice u0 u1 u2, .slice u3 u4 u5] t)) (g0 : good5 w x0 x1 x2 x3 x4 x5 c0) (g1 : good5 w y0 y1 y2 y3 y4 y5 c1) (g2 : good5 w z0 z1 z2 z3 z4 z5 c2) (g3 : good5 w u0 u1 u2 u3 u4 u5 c3) {q : Nat} (hq : q < 4) :
    ∃ c a0 p0 k0 a1 p1 k1, at5 w N q a0 p0 k0 a1 p1 k1 c ∧ good5 w a0 p0 k0 a1 p1 k1 c := by
  have hq' : q = 0 ∨ q = 1 ∨ q = 2 ∨ q = 3 := by omega
  rcases hq' with rfl | rfl | rfl | rfl
  · exact ⟨c0, x0, x1, x2, x3, x4, x5, by refine ⟨?_, ?_, ?_, ?_, ?_⟩ <;> simp [World.cell?, h], g0⟩
  · exact ⟨c1, y0, y1, y2, y3, y4, y5, by refine ⟨?_, ?_, ?_, ?_, ?_⟩ <;> simp [World.cell?, h], g1⟩
  · exact ⟨c2, z0, z1, z2, z3, z4, z5, by refine ⟨?_, ?_, ?_, ?_, ?_⟩ <;> simp [World.cell?, h], g2⟩
  · exact ⟨c3, u0, u1, u2, u3, u4, u5, by refine ⟨?_, ?_, ?_, ?_, ?_⟩ <;> simp [World.cell?, h], g3⟩
theorem line_form (m x0 x1 x2 x3 : Int) (c : Cl) : ∃ t0 t1 t2 t3 t4 t5 t6 t7 t8 t9 t10 : Int, lineV m x0 x1 x2 x3 c = .agg #[.int .u8 t0, .int .u8 t1, .int .u8 t2, .int .u8 t3, .int .i64 t4, .int .i64 t5, .int .i64 t6, .int .i64 t7, .int .i64 t8, .int .i64 t9, .int .i64 t10] := by
  unfold lineV
  split <;> exact ⟨_, _, _, _, _, _, _, _, _, _, _, rfl⟩

theorem no_zr5 {w : World} {J : Nat} {t : TypeId} {s u : Value} (hs : ∀ y, ¬ s = .int .i64 y) (hu : ∀ y, ¬ u = .int .i64 y) (h : w.heap[J]? = some (.cells #[.int .i64 0, .int .i64 0, .int .i64 0, s, u] t)) : ∀ j x y, w.cell? ⟨J, j, none⟩ = some (.int .i64 x) → w.cell? ⟨J, j + 1, none⟩ = some (.int .i64 y) → y = 0 := by
  intro j x y _ hy
  rw [cell_of_row _ _ _ _ t (0, 0) h] at hy
  match j, hy with
  | 0, hy => simp at hy; exact hy.symm
  | 1, hy => simp at hy; exact hy.symm
  | 2, hy => simp at hy; exact absurd hy (hs y)
  | 3, hy => simp at hy; exact absurd hy (hu y)
  | j + 4, hy => simp at hy
theorem set5_grown (w : World) (J : Nat) (v0 v1 v2 v3 v4 : Value) : w.grownBy (((((w.setCell ⟨J, 0, none⟩ v0).setCell ⟨J, 1, none⟩ v1).setCell ⟨J, 2, none⟩ v2).setCell ⟨J, 3, none⟩ v3).setCell ⟨J, 4, none⟩ v4) (some J) :=
  ((((set_grown w J 0 v0).trans (set_grown _ J 1 v1)).trans (set_grown _ J 2 v2)).trans (set_grown _ J 3 v3)).trans (set_grown _ J 4 v4)
theorem kp_set5 {w wr : World} {J : Nat} {t : TypeId} {a b c d e : Value} (v0 v1 v2 v3 v4 : Value) (h : Kp w wr J (.cells #[a, b, c, d, e] t)) : Kp w (((((wr.setCell ⟨J, 0, none⟩ v0).setCell ⟨J, 1, none⟩ v1).setCell ⟨J, 2, none⟩ v2).setCell ⟨J, 3, none⟩ v3).setCell ⟨J, 4, none⟩ v4) J (.cells #[v0, v1, v2, v3, v4] t) :=
  kp_set (j := 4) (v := v4) (kp_set (j := 3) (v := v3) (kp_set (j := 2) (v := v2) (kp_set (j := 1) (v := v1) (kp_set (j := 0) (v := v0) h))))
theorem ite_goz {c : Prop} [Decidable c] {A B : Prop} (h : c) (hA : A) : if c then A else B := by
  rw [if_pos h]
  exact hA
/-- A whole row is stored, in a drawn region: the block holds it; no other block is turned. -/
theorem wp_store_wholez {P : Program} {o : Oper} {a : Act} {w : World} {K : Act → World → Prop} {Q : Exit → Act → World → Prop} (ty : TypeId) (x y : Operand) (ho : o.op = .store ty x y)
    (g : Nat) (X : Array Value) (hx : a.eval x = .pointer (some ⟨g, 0, none⟩)) (hy : a.eval y = .agg X) (t : TypeId) (cs : Array Value) (hg : w.heap[g]? = some (.cells cs t)) (hs : cs.size = X.size)
    (hi : (P.info? ty).map (·.size) = some X.size) (h1 : ∀ v ∈ X.toList, v.oneCell' = true)
    (h : ∀ w', w'.heap[g]? = some (.cells X t) → w.grownBy w' (some g) → K (a.put o.dst undef) w') : o.wp P a w K Q := by
  have ht : w.there g 0 X.size := fun j hj => by
    constructor
    · rw [Nat.zero_add, cell_of_row w g j cs t (0, 0) hg, Array.getElem?_eq_getElem (by omega)]; rfl
    · exact frozen_of_row w g _ _ _ hg
  refine wp_store_mid ty x y ho g 0 X hx hy ht hi (by have := all_oneCell_toArray h1; simpa using this) ?_
  refine h _ ?_ (setCells_grown g _ 0 w)
  obtain ⟨cs', e1, e2⟩ := setCells_heap g t X.toList 0 w cs hg
  rw [e1]
  have hr := World.rangeAt_setCells_same w g 0 X.toList (by simpa using ht)
  have : cs' = X := by
    apply Array.ext_getElem?
    intro j
    by_cases hj : j < X.size
    · have h2 := hr j X[j] (by simp [hj])
      rw [Nat.zero_add, cell_of_row _ g j cs' t (0, 0) e1] at h2
      rw [h2]; simp [hj]
    · rw [Array.getElem?_eq_none (by omega), Array.getElem?_eq_none (by omega)]
  rw [this]

end Go.Proofs.Ytjkkajhjcinalaa

namespace Go.Proofs.Ytjkkajhjcinalaa
open Go.ChangeShapes Go.WideShapes Go.ChangeAt Go.RowKit
set_option linter.unusedVariables false
set_option linter.unusedSimpArgs false
set_option maxRecDepth 100000

set_option maxHeartbeats 32000000 in
theorem crsame_m (c d : Cl) (a0 : Option Addr) (p0 k0 : Nat) (a1 : Option Addr) (p1 k1 : Nat) (b0 : Option Addr) (q0 j0 : Nat) (b1 : Option Addr) (q1 j1 : Nat) (v : Bool) (w : World) (hw : CW w a0 p0 k0 a1 p1 k1 c) (hz : CW w b0 q0 j0 b1 q1 j1 d) (hv : Hid (csm c d = v)) :
    Calls Try.prog 18 #[.agg #[.int .i64 c.n, .int .i64 c.s0, .int .i64 c.s1, .slice a0 p0 k0, .slice a1 p1 k1], .agg #[.int .i64 d.n, .int .i64 d.s0, .int .i64 d.s1, .slice b0 q0 j0, .slice b1 q1 j1]] w fun e w' => e = .returned (.bool v) ∧ Below w.heap.size w w' := by
  have h := hv.out
  subst h
  clear hv
  obtain ⟨l1, l2⟩ := hw.1.lens
  obtain ⟨u1, u2⟩ := hw.2.lens
  obtain ⟨l1', l2'⟩ := hz.1.lens
  obtain ⟨u1', u2'⟩ := hz.2.lens
  have HW := hid hw
  have HZ := hid hz
  have eqm := eqM2
  have K0 := hid (kq_new w (.cells #[.int .i64 c.n, .int .i64 c.s0, .int .i64 c.s1, .slice a0 p0 k0, .slice a1 p1 k1] 26) (.cells #[.int .i64 d.n, .int .i64 d.s0, .int .i64 d.s1, .slice b0 q0 j0, .slice b1 q1 j1] 26))
  clear hw hz l1 u1 l1' u1'
  go_enter Try.func18, Try.ntmps18
  go_upto_region 2 with fail
  generalize (w.alloc (.cells #[.int .i64 c.n, .int .i64 c.s0, .int .i64 c.s1, .slice a0 p0 k0, .slice a1 p1 k1] 26)).alloc (.cells #[.int .i64 d.n, .int .i64 d.s0, .int .i64 d.s1, .slice b0 q0 j0, .slice b1 q1 j1] 26) = W at K0 ⊢
  go_loopw [5] (fun i wr => Hid (Kq w wr (.cells #[.int .i64 c.n, .int .i64 c.s0, .int .i64 c.s1, .slice a0 p0 k0, .slice a1 p1 k1] 26) (.cells #[.int .i64 d.n, .int .i64 d.s0, .int .i64 d.s1, .slice b0 q0 j0, .slice b1 q1 j1] 26)) ∧ (i = .int .i64 0 ∨ (i = .int .i64 1 ∧ Hid (c.s0 = d.s0 ∧ sm c.b0 d.b0 = true)) ∨ (i = .int .i64 2 ∧ Hid ((c.s0 = d.s0 ∧ sm c.b0 d.b0 = true) ∧ (c.s1 = d.s1 ∧ sm c.b1 d.b1 = true))))) (fun i _ => 2 - (intOf i).toNat)
  case atStart => exact ⟨K0, .inl rfl⟩
  case round =>
    obtain ⟨KW, hi⟩ := hrel
    obtain ⟨_, d0, d1, d2, d3, d4, f0, f1, f2, f3, f4⟩ := KW.out.ten (Below.refl _ _)
    rcases hi with rfl | ⟨rfl, R0⟩ | ⟨rfl, R1⟩
    · skip
      by_cases hs : c.s0 = d.s0
      · have hst : (c.s0 != d.s0) = false := by simp [hs]
        have HS := hid hs
        clear hs
        obtain ⟨V, ev⟩ : ∃ x, sm c.b0 d.b0 = x := ⟨_, rfl⟩
        have EV := hid ev
        clear ev
        have KS : Hid (∀ y, Below wr.heap.size wr y → Below wr.heap.size wr y ∧ y.cell? ⟨w.heap.size, 0, none⟩ = some (.int .i64 c.n) ∧ y.cell? ⟨w.heap.size, 1, none⟩ = some (.int .i64 c.s0) ∧ y.cell? ⟨w.heap.size, 2, none⟩ = some (.int .i64 c.s1) ∧ y.cell? ⟨w.heap.size, 3, none⟩ = some (.slice a0 p0 k0) ∧ y.cell? ⟨w.heap.size, 4, none⟩ = some (.slice a1 p1 k1) ∧ y.cell? ⟨w.heap.size + 1, 0, none⟩ = some (.int .i64 d.n) ∧ y.cell? ⟨w.heap.size + 1, 1, none⟩ = some (.int .i64 d.s0) ∧ y.cell? ⟨w.heap.size + 1, 2, none⟩ = some (.int .i64 d.s1) ∧ y.cell? ⟨w.heap.size + 1, 3, none⟩ = some (.slice b0 q0 j0) ∧ y.cell? ⟨w.heap.size + 1, 4, none⟩ = some (.slice b1 q1 j1)) := hid (fun y hb => KW.out.ten hb)
        clear d0 d1 d2 d3 d4 f0 f1 f2 f3 f4
        go_wp2
        refine wp_region_noPanic ?_
        refine wp_region_held_drew (S := fun y => Below wr.heap.size wr y ∧ y.cell? ⟨w.heap.size, 0, none⟩ = some (.int .i64 c.n) ∧ y.cell? ⟨w.heap.size, 1, none⟩ = some (.int .i64 c.s0) ∧ y.cell? ⟨w.heap.size, 2, none⟩ = some (.int .i64 c.s1) ∧ y.cell? ⟨w.heap.size, 3, none⟩ = some (.slice a0 p0 k0) ∧ y.cell? ⟨w.heap.size, 4, none⟩ = some (.slice a1 p1 k1) ∧ y.cell? ⟨w.heap.size + 1, 0, none⟩ = some (.int .i64 d.n) ∧ y.cell? ⟨w.heap.size + 1, 1, none⟩ = some (.int .i64 d.s0) ∧ y.cell? ⟨w.heap.size + 1, 2, none⟩ = some (.int .i64 d.s1) ∧ y.cell? ⟨w.heap.size + 1, 3, none⟩ = some (.slice b0 q0 j0) ∧ y.cell? ⟨w.heap.size + 1, 4, none⟩ = some (.slice b1 q1 j1)) (by kernel_rfl) (keep_drew KS) (fun hHeld => ?_)
        refine tk 0 (v := ?_) ?_ ?_
        rotate_left
        · intro w hSw; (try dsimp only at hSw); go_simp; (try with_reducible rfl)
        try simp only [Act.put, List.setIfInBounds_toArray, List.set_cons_zero, List.set_cons_succ]
        refine tk 1 (v := ?_) ?_ ?_
        rotate_left
        · intro w hSw; (try dsimp only at hSw); go_simp; (try with_reducible rfl)
        try simp only [Act.put, List.setIfInBounds_toArray, List.set_cons_zero, List.set_cons_succ]
        refine tk 2 (v := ?_) ?_ ?_
        rotate_left
        · intro w hSw; (try dsimp only at hSw); go_simp; (try with_reducible rfl)
        try simp only [Act.put, List.setIfInBounds_toArray, List.set_cons_zero, List.set_cons_succ]
        refine tk 3 (v := ?_) ?_ ?_
        rotate_left
        · intro w hSw; (try dsimp only at hSw); go_simp; (try with_reducible rfl)
        try simp only [Act.put, List.setIfInBounds_toArray, List.set_cons_zero, List.set_cons_succ]
        refine tk 4 (v := ?_) ?_ ?_
        rotate_left
        · intro w hSw; (try dsimp only at hSw); go_simp; (try with_reducible rfl)
        try simp only [Act.put, List.setIfInBounds_toArray, List.set_cons_zero, List.set_cons_succ]
        refine tk 5 (v := ?_) ?_ ?_
        rotate_left
        · intro w hSw; (try dsimp only at hSw); go_simp; (try with_reducible rfl)
        try simp only [Act.put, List.setIfInBounds_toArray, List.set_cons_zero, List.set_cons_succ]
        refine tk 6 (v := ?_) ?_ ?_
        rotate_left
        · intro w hSw; (try dsimp only at hSw); go_simp; (try with_reducible rfl)
        try simp only [Act.put, List.setIfInBounds_toArray, List.set_cons_zero, List.set_cons_succ]
        refine tk 7 (v := ?_) ?_ ?_
        rotate_left
        · intro w hSw; (try dsimp only at hSw); go_simp; (try with_reducible rfl)
        try simp only [Act.put, List.setIfInBounds_toArray, List.set_cons_zero, List.set_cons_succ]
        refine tk 8 (v := ?_) ?_ ?_
        rotate_left
        · intro w hSw; (try dsimp only at hSw); go_simp; (try with_reducible rfl)
        try simp only [Act.put, List.setIfInBounds_toArray, List.set_cons_zero, List.set_cons_succ]
        refine tk 9 (v := ?_) ?_ ?_
        rotate_left
        · intro w hSw; (try dsimp only at hSw); go_simp; (try with_reducible rfl)
        try simp only [Act.put, List.setIfInBounds_toArray, List.set_cons_zero, List.set_cons_succ]
        refine tk 10 (v := ?_) ?_ ?_
        rotate_left
        · intro w hSw; (try dsimp only at hSw); go_simp; (try with_reducible rfl)
        try simp only [Act.put, List.setIfInBounds_toArray, List.set_cons_zero, List.set_cons_succ]
        refine tk 11 (v := ?_) ?_ ?_
        rotate_left
        · intro w hSw; (try dsimp only at hSw); go_simp; (try with_reducible rfl)
        try simp only [Act.put, List.setIfInBounds_toArray, List.set_cons_zero, List.set_cons_succ]
        refine tk 12 (v := ?_) ?_ ?_
        rotate_left
        · intro w hSw; (try dsimp only at hSw); go_simp; (try with_reducible rfl)
        try simp only [Act.put, List.setIfInBounds_toArray, List.set_cons_zero, List.set_cons_succ]
        refine tk 13 (v := ?_) ?_ ?_
        rotate_left
        · intro w hSw; (try dsimp only at hSw); go_simp; (try with_reducible rfl)
        try simp only [Act.put, List.setIfInBounds_toArray, List.set_cons_zero, List.set_cons_succ]
        refine tk 14 (v := ?_) ?_ ?_
        rotate_left
        · intro w hSw; (try dsimp only at hSw); go_simp; (try with_reducible rfl)
        try simp only [Act.put, List.setIfInBounds_toArray, List.set_cons_zero, List.set_cons_succ]
        refine tk 15 (v := ?_) ?_ ?_
        rotate_left
        · intro w hSw; (try dsimp only at hSw); go_simp; (try with_reducible rfl)
        try simp only [Act.put, List.setIfInBounds_toArray, List.set_cons_zero, List.set_cons_succ]
        refine tk 16 (v := ?_) ?_ ?_
        rotate_left
        · intro w hSw; (try dsimp only at hSw); go_simp; (try with_reducible rfl)
        try simp only [Act.put, List.setIfInBounds_toArray, List.set_cons_zero, List.set_cons_succ]
        refine tk 17 (v := ?_) ?_ ?_
        rotate_left
        · intro w hSw; (try dsimp only at hSw); go_simp; (try with_reducible rfl)
        try simp only [Act.put, List.setIfInBounds_toArray, List.set_cons_zero, List.set_cons_succ]
        refine rd1 18 (fun K hK => ?_)
        go_simp
        (go_at_call 57; refine (rsame_m _ _ _ _ _ _ _ _ _ _ (HW.out.1.below (bt KW.out.1.1 hHeld.1)) (HZ.out.1.below (bt KW.out.1.1 hHeld.1)) EV).mono ?_; rintro e w1 ⟨rfl, hb1⟩)
        refine hK.out _ _ (keep_step (by assumption) hHeld KS) (fun hHeld2 => ?_)
        clear hK K hHeld; have hHeld := hHeld2; clear hHeld2
        try simp only [Act.put, List.setIfInBounds_toArray, List.set_cons_zero, List.set_cons_succ]
        refine tk 19 (v := ?_) ?_ ?_
        rotate_left
        · intro w hSw; (try dsimp only at hSw); go_simp; (try with_reducible rfl)
        try simp only [Act.put, List.setIfInBounds_toArray, List.set_cons_zero, List.set_cons_succ]
        refine tk 20 (v := ?_) ?_ ?_
        rotate_left
        · intro w hSw; (try dsimp only at hSw); go_simp; (try with_reducible rfl)
        try simp only [Act.put, List.setIfInBounds_toArray, List.set_cons_zero, List.set_cons_succ]
        refine wpAnyH_done (by kernel_rfl) ?_ _
        refine NoPanic.normal ?_
        have K2 := hid (KW.out.step (undrew hb1))
        clear hb1 hHeld KS
        cases V with
        | false =>
          go_wp2
          go_ret
          exact ⟨ret_bool (csm_b0 EV.out).symm, K2.out.1.1⟩
        | true =>
          go_wp2
          go_roundw
          case rel => exact ⟨K2, .inr (.inl ⟨by go_num, hid ⟨HS.out, EV.out⟩⟩)⟩
          case measure => simp [intOf]
      · have hst : (c.s0 != d.s0) = true := by simp [hs]
        have HS := hid (csm_s (c := c) (d := d) (fun g => hs g.1))
        clear hs
        have KS : Hid (∀ y, Below wr.heap.size wr y → Below wr.heap.size wr y ∧ y.cell? ⟨w.heap.size, 0, none⟩ = some (.int .i64 c.n) ∧ y.cell? ⟨w.heap.size, 1, none⟩ = some (.int .i64 c.s0) ∧ y.cell? ⟨w.heap.size, 2, none⟩ = some (.int .i64 c.s1) ∧ y.cell? ⟨w.heap.size, 3, none⟩ = some (.slice a0 p0 k0) ∧ y.cell? ⟨w.heap.size, 4, none⟩ = some (.slice a1 p1 k1) ∧ y.cell? ⟨w.heap.size + 1, 0, none⟩ = some (.int .i64 d.n) ∧ y.cell? ⟨w.heap.size + 1, 1, none⟩ = some (.int .i64 d.s0) ∧ y.cell? ⟨w.heap.size + 1, 2, none⟩ = some (.int .i64 d.s1) ∧ y.cell? ⟨w.heap.size + 1, 3, none⟩ = some (.slice b0 q0 j0) ∧ y.cell? ⟨w.heap.size + 1, 4, none⟩ = some (.slice b1 q1 j1)) := hid (fun y hb => KW.out.ten hb)
        clear d0 d1 d2 d3 d4 f0 f1 f2 f3 f4
        go_wp2
        refine wp_region_noPanic ?_
        refine wp_region_held_drew (S := fun y => Below wr.heap.size wr y ∧ y.cell? ⟨w.heap.size, 0, none⟩ = some (.int .i64 c.n) ∧ y.cell? ⟨w.heap.size, 1, none⟩ = some (.int .i64 c.s0) ∧ y.cell? ⟨w.heap.size, 2, none⟩ = some (.int .i64 c.s1) ∧ y.cell? ⟨w.heap.size, 3, none⟩ = some (.slice a0 p0 k0) ∧ y.cell? ⟨w.heap.size, 4, none⟩ = some (.slice a1 p1 k1) ∧ y.cell? ⟨w.heap.size + 1, 0, none⟩ = some (.int .i64 d.n) ∧ y.cell? ⟨w.heap.size + 1, 1, none⟩ = some (.int .i64 d.s0) ∧ y.cell? ⟨w.heap.size + 1, 2, none⟩ = some (.int .i64 d.s1) ∧ y.cell? ⟨w.heap.size + 1, 3, none⟩ = some (.slice b0 q0 j0) ∧ y.cell? ⟨w.heap.size + 1, 4, none⟩ = some (.slice b1 q1 j1)) (by kernel_rfl) (keep_drew KS) (fun hHeld => ?_)
        refine tk 0 (v := ?_) ?_ ?_
        rotate_left
        · intro w hSw; (try dsimp only at hSw); go_simp; (try with_reducible rfl)
        try simp only [Act.put, List.setIfInBounds_toArray, List.set_cons_zero, List.set_cons_succ]
        refine tk 1 (v := ?_) ?_ ?_
        rotate_left
        · intro w hSw; (try dsimp only at hSw); go_simp; (try with_reducible rfl)
        try simp only [Act.put, List.setIfInBounds_toArray, List.set_cons_zero, List.set_cons_succ]
        refine tk 2 (v := ?_) ?_ ?_
        rotate_left
        · intro w hSw; (try dsimp only at hSw); go_simp; (try with_reducible rfl)
        try simp only [Act.put, List.setIfInBounds_toArray, List.set_cons_zero, List.set_cons_succ]
        refine tk 3 (v := ?_) ?_ ?_
        rotate_left
        · intro w hSw; (try dsimp only at hSw); go_simp; (try with_reducible rfl)
        try simp only [Act.put, List.setIfInBounds_toArray, List.set_cons_zero, List.set_cons_succ]
        refine tk 4 (v := ?_) ?_ ?_
        rotate_left
        · intro w hSw; (try dsimp only at hSw); go_simp; (try with_reducible rfl)
        try simp only [Act.put, List.setIfInBounds_toArray, List.set_cons_zero, List.set_cons_succ]
        refine tk 5 (v := ?_) ?_ ?_
        rotate_left
        · intro w hSw; (try dsimp only at hSw); go_simp; (try with_reducible rfl)
        try simp only [Act.put, List.setIfInBounds_toArray, List.set_cons_zero, List.set_cons_succ]
        refine tk 6 (v := ?_) ?_ ?_
        rotate_left
        · intro w hSw; (try dsimp only at hSw); go_simp; (try with_reducible rfl)
        try simp only [Act.put, List.setIfInBounds_toArray, List.set_cons_zero, List.set_cons_succ]
        refine tk 7 (v := ?_) ?_ ?_
        rotate_left
        · intro w hSw; (try dsimp only at hSw); go_simp; (try with_reducible rfl)
        try simp only [Act.put, List.setIfInBounds_toArray, List.set_cons_zero, List.set_cons_succ]
        refine tk 8 (v := ?_) ?_ ?_
        rotate_left
        · intro w hSw; (try dsimp only at hSw); go_simp; (try with_reducible rfl)
        try simp only [Act.put, List.setIfInBounds_toArray, List.set_cons_zero, List.set_cons_succ]
        refine tk 9 (v := ?_) ?_ ?_
        rotate_left
        · intro w hSw; (try dsimp only at hSw); go_simp; (try with_reducible rfl)
        try simp only [Act.put, List.setIfInBounds_toArray, List.set_cons_zero, List.set_cons_succ]
        refine tks 10 ?_
        try simp only [Act.put, List.setIfInBounds_toArray, List.set_cons_zero, List.set_cons_succ]
        refine tks 11 ?_
        try simp only [Act.put, List.setIfInBounds_toArray, List.set_cons_zero, List.set_cons_succ]
        refine tks 12 ?_
        try simp only [Act.put, List.setIfInBounds_toArray, List.set_cons_zero, List.set_cons_succ]
        refine tks 13 ?_
        try simp only [Act.put, List.setIfInBounds_toArray, List.set_cons_zero, List.set_cons_succ]
        refine tks 14 ?_
        try simp only [Act.put, List.setIfInBounds_toArray, List.set_cons_zero, List.set_cons_succ]
        refine tks 15 ?_
        try simp only [Act.put, List.setIfInBounds_toArray, List.set_cons_zero, List.set_cons_succ]
        refine tks 16 ?_
        try simp only [Act.put, List.setIfInBounds_toArray, List.set_cons_zero, List.set_cons_succ]
        refine tks 17 ?_
        try simp only [Act.put, List.setIfInBounds_toArray, List.set_cons_zero, List.set_cons_succ]
        refine tks 18 ?_
        try simp only [Act.put, List.setIfInBounds_toArray, List.set_cons_zero, List.set_cons_succ]
        refine tks 19 ?_
        try simp only [Act.put, List.setIfInBounds_toArray, List.set_cons_zero, List.set_cons_succ]
        refine tk 20 (v := ?_) ?_ ?_
        rotate_left
        · intro w hSw; (try dsimp only at hSw); go_simp; (try with_reducible rfl)
        try simp only [Act.put, List.setIfInBounds_toArray, List.set_cons_zero, List.set_cons_succ]
        refine wpAnyH_done (by kernel_rfl) ?_ _
        refine NoPanic.normal ?_
        go_wp2
        go_ret
        exact ⟨ret_bool HS.out.symm, (KW.out.step (Below.refl _ _).drew).1.1⟩
    · skip
      by_cases hs : c.s1 = d.s1
      · have hst : (c.s1 != d.s1) = false := by simp [hs]
        have HS := hid hs
        clear hs
        obtain ⟨V, ev⟩ : ∃ x, sm c.b1 d.b1 = x := ⟨_, rfl⟩
        have EV := hid ev
        clear ev
        have KS : Hid (∀ y, Below wr.heap.size wr y → Below wr.heap.size wr y ∧ y.cell? ⟨w.heap.size, 0, none⟩ = some (.int .i64 c.n) ∧ y.cell? ⟨w.heap.size, 1, none⟩ = some (.int .i64 c.s0) ∧ y.cell? ⟨w.heap.size, 2, none⟩ = some (.int .i64 c.s1) ∧ y.cell? ⟨w.heap.size, 3, none⟩ = some (.slice a0 p0 k0) ∧ y.cell? ⟨w.heap.size, 4, none⟩ = some (.slice a1 p1 k1) ∧ y.cell? ⟨w.heap.size + 1, 0, none⟩ = some (.int .i64 d.n) ∧ y.cell? ⟨w.heap.size + 1, 1, none⟩ = some (.int .i64 d.s0) ∧ y.cell? ⟨w.heap.size + 1, 2, none⟩ = some (.int .i64 d.s1) ∧ y.cell? ⟨w.heap.size + 1, 3, none⟩ = some (.slice b0 q0 j0) ∧ y.cell? ⟨w.heap.size + 1, 4, none⟩ = some (.slice b1 q1 j1)) := hid (fun y hb => KW.out.ten hb)
        clear d0 d1 d2 d3 d4 f0 f1 f2 f3 f4
        go_wp2
        refine wp_region_noPanic ?_
        refine wp_region_held_drew (S := fun y => Below wr.heap.size wr y ∧ y.cell? ⟨w.heap.size, 0, none⟩ = some (.int .i64 c.n) ∧ y.cell? ⟨w.heap.size, 1, none⟩ = some (.int .i64 c.s0) ∧ y.cell? ⟨w.heap.size, 2, none⟩ = some (.int .i64 c.s1) ∧ y.cell? ⟨w.heap.size, 3, none⟩ = some (.slice a0 p0 k0) ∧ y.cell? ⟨w.heap.size, 4, none⟩ = some (.slice a1 p1 k1) ∧ y.cell? ⟨w.heap.size + 1, 0, none⟩ = some (.int .i64 d.n) ∧ y.cell? ⟨w.heap.size + 1, 1, none⟩ = some (.int .i64 d.s0) ∧ y.cell? ⟨w.heap.size + 1, 2, none⟩ = some (.int .i64 d.s1) ∧ y.cell? ⟨w.heap.size + 1, 3, none⟩ = some (.slice b0 q0 j0) ∧ y.cell? ⟨w.heap.size + 1, 4, none⟩ = some (.slice b1 q1 j1)) (by kernel_rfl) (keep_drew KS) (fun hHeld => ?_)
        refine tk 0 (v := ?_) ?_ ?_
        rotate_left
        · intro w hSw; (try dsimp only at hSw); go_simp; (try with_reducible rfl)
        try simp only [Act.put, List.setIfInBounds_toArray, List.set_cons_zero, List.set_cons_succ]
        refine tk 1 (v := ?_) ?_ ?_
        rotate_left
        · intro w hSw; (try dsimp only at hSw); go_simp; (try with_reducible rfl)
        try simp only [Act.put, List.setIfInBounds_toArray, List.set_cons_zero, List.set_cons_succ]
        refine tk 2 (v := ?_) ?_ ?_
        rotate_left
        · intro w hSw; (try dsimp only at hSw); go_simp; (try with_reducible rfl)
        try simp only [Act.put, List.setIfInBounds_toArray, List.set_cons_zero, List.set_cons_succ]
        refine tk 3 (v := ?_) ?_ ?_
        rotate_left
        · intro w hSw; (try dsimp only at hSw); go_simp; (try with_reducible rfl)
        try simp only [Act.put, List.setIfInBounds_toArray, List.set_cons_zero, List.set_cons_succ]
        refine tk 4 (v := ?_) ?_ ?_
        rotate_left
        · intro w hSw; (try dsimp only at hSw); go_simp; (try with_reducible rfl)
        try simp only [Act.put, List.setIfInBounds_toArray, List.set_cons_zero, List.set_cons_succ]
        refine tk 5 (v := ?_) ?_ ?_
        rotate_left
        · intro w hSw; (try dsimp only at hSw); go_simp; (try with_reducible rfl)
        try simp only [Act.put, List.setIfInBounds_toArray, List.set_cons_zero, List.set_cons_succ]
        refine tk 6 (v := ?_) ?_ ?_
        rotate_left
        · intro w hSw; (try dsimp only at hSw); go_simp; (try with_reducible rfl)
        try simp only [Act.put, List.setIfInBounds_toArray, List.set_cons_zero, List.set_cons_succ]
        refine tk 7 (v := ?_) ?_ ?_
        rotate_left
        · intro w hSw; (try dsimp only at hSw); go_simp; (try with_reducible rfl)
        try simp only [Act.put, List.setIfInBounds_toArray, List.set_cons_zero, List.set_cons_succ]
        refine tk 8 (v := ?_) ?_ ?_
        rotate_left
        · intro w hSw; (try dsimp only at hSw); go_simp; (try with_reducible rfl)
        try simp only [Act.put, List.setIfInBounds_toArray, List.set_cons_zero, List.set_cons_succ]
        refine tk 9 (v := ?_) ?_ ?_
        rotate_left
        · intro w hSw; (try dsimp only at hSw); go_simp; (try with_reducible rfl)
        try simp only [Act.put, List.setIfInBounds_toArray, List.set_cons_zero, List.set_cons_succ]
        refine tk 10 (v := ?_) ?_ ?_
        rotate_left
        · intro w hSw; (try dsimp only at hSw); go_simp; (try with_reducible rfl)
        try simp only [Act.put, List.setIfInBounds_toArray, List.set_cons_zero, List.set_cons_succ]
        refine tk 11 (v := ?_) ?_ ?_
        rotate_left
        · intro w hSw; (try dsimp only at hSw); go_simp; (try with_reducible rfl)
        try simp only [Act.put, List.setIfInBounds_toArray, List.set_cons_zero, List.set_cons_succ]
        refine tk 12 (v := ?_) ?_ ?_
        rotate_left
        · intro w hSw; (try dsimp only at hSw); go_simp; (try with_reducible rfl)
        try simp only [Act.put, List.setIfInBounds_toArray, List.set_cons_zero, List.set_cons_succ]
        refine tk 13 (v := ?_) ?_ ?_
        rotate_left
        · intro w hSw; (try dsimp only at hSw); go_simp; (try with_reducible rfl)
        try simp only [Act.put, List.setIfInBounds_toArray, List.set_cons_zero, List.set_cons_succ]
        refine tk 14 (v := ?_) ?_ ?_
        rotate_left
        · intro w hSw; (try dsimp only at hSw); go_simp; (try with_reducible rfl)
        try simp only [Act.put, List.setIfInBounds_toArray, List.set_cons_zero, List.set_cons_succ]
        refine tk 15 (v := ?_) ?_ ?_
        rotate_left
        · intro w hSw; (try dsimp only at hSw); go_simp; (try with_reducible rfl)
        try simp only [Act.put, List.setIfInBounds_toArray, List.set_cons_zero, List.set_cons_succ]
        refine tk 16 (v := ?_) ?_ ?_
        rotate_left
        · intro w hSw; (try dsimp only at hSw); go_simp; (try with_reducible rfl)
        try simp only [Act.put, List.setIfInBounds_toArray, List.set_cons_zero, List.set_cons_succ]
        refine tk 17 (v := ?_) ?_ ?_
        rotate_left
        · intro w hSw; (try dsimp only at hSw); go_simp; (try with_reducible rfl)
        try simp only [Act.put, List.setIfInBounds_toArray, List.set_cons_zero, List.set_cons_succ]
        refine rd1 18 (fun K hK => ?_)
        go_simp
        (go_at_call 57; refine (rsame_m _ _ _ _ _ _ _ _ _ _ (HW.out.2.below (bt KW.out.1.1 hHeld.1)) (HZ.out.2.below (bt KW.out.1.1 hHeld.1)) EV).mono ?_; rintro e w1 ⟨rfl, hb1⟩)
        refine hK.out _ _ (keep_step (by assumption) hHeld KS) (fun hHeld2 => ?_)
        clear hK K hHeld; have hHeld := hHeld2; clear hHeld2
        try simp only [Act.put, List.setIfInBounds_toArray, List.set_cons_zero, List.set_cons_succ]
        refine tk 19 (v := ?_) ?_ ?_
        rotate_left
        · intro w hSw; (try dsimp only at hSw); go_simp; (try with_reducible rfl)
        try simp only [Act.put, List.setIfInBounds_toArray, List.set_cons_zero, List.set_cons_succ]
        refine tk 20 (v := ?_) ?_ ?_
        rotate_left
        · intro w hSw; (try dsimp only at hSw); go_simp; (try with_reducible rfl)
        try simp only [Act.put, List.setIfInBounds_toArray, List.set_cons_zero, List.set_cons_succ]
        refine wpAnyH_done (by kernel_rfl) ?_ _
        refine NoPanic.normal ?_
        have K2 := hid (KW.out.step (undrew hb1))
        clear hb1 hHeld KS
        cases V with
        | false =>
          go_wp2
          go_ret
          exact ⟨ret_bool (csm_b1 EV.out).symm, K2.out.1.1⟩
        | true =>
          go_wp2
          go_roundw
          case rel => exact ⟨K2, .inr (.inr ⟨by go_num, hid ⟨R0.out, HS.out, EV.out⟩⟩)⟩
          case measure => simp [intOf]
      · have hst : (c.s1 != d.s1) = true := by simp [hs]
        have HS := hid (csm_s (c := c) (d := d) (fun g => hs g.2))
        clear hs
        have KS : Hid (∀ y, Below wr.heap.size wr y → Below wr.heap.size wr y ∧ y.cell? ⟨w.heap.size, 0, none⟩ = some (.int .i64 c.n) ∧ y.cell? ⟨w.heap.size, 1, none⟩ = some (.int .i64 c.s0) ∧ y.cell? ⟨w.heap.size, 2, none⟩ = some (.int .i64 c.s1) ∧ y.cell? ⟨w.heap.size, 3, none⟩ = some (.slice a0 p0 k0) ∧ y.cell? ⟨w.heap.size, 4, none⟩ = some (.slice a1 p1 k1) ∧ y.cell? ⟨w.heap.size + 1, 0, none⟩ = some (.int .i64 d.n) ∧ y.cell? ⟨w.heap.size + 1, 1, none⟩ = some (.int .i64 d.s0) ∧ y.cell? ⟨w.heap.size + 1, 2, none⟩ = some (.int .i64 d.s1) ∧ y.cell? ⟨w.heap.size + 1, 3, none⟩ = some (.slice b0 q0 j0) ∧ y.cell? ⟨w.heap.size + 1, 4, none⟩ = some (.slice b1 q1 j1)) := hid (fun y hb => KW.out.ten hb)
        clear d0 d1 d2 d3 d4 f0 f1 f2 f3 f4
        go_wp2
        refine wp_region_noPanic ?_
        refine wp_region_held_drew (S := fun y => Below wr.heap.size wr y ∧ y.cell? ⟨w.heap.size, 0, none⟩ = some (.int .i64 c.n) ∧ y.cell? ⟨w.heap.size, 1, none⟩ = some (.int .i64 c.s0) ∧ y.cell? ⟨w.heap.size, 2, none⟩ = some (.int .i64 c.s1) ∧ y.cell? ⟨w.heap.size, 3, none⟩ = some (.slice a0 p0 k0) ∧ y.cell? ⟨w.heap.size, 4, none⟩ = some (.slice a1 p1 k1) ∧ y.cell? ⟨w.heap.size + 1, 0, none⟩ = some (.int .i64 d.n) ∧ y.cell? ⟨w.heap.size + 1, 1, none⟩ = some (.int .i64 d.s0) ∧ y.cell? ⟨w.heap.size + 1, 2, none⟩ = some (.int .i64 d.s1) ∧ y.cell? ⟨w.heap.size + 1, 3, none⟩ = some (.slice b0 q0 j0) ∧ y.cell? ⟨w.heap.size + 1, 4, none⟩ = some (.slice b1 q1 j1)) (by kernel_rfl) (keep_drew KS) (fun hHeld => ?_)
        refine tk 0 (v := ?_) ?_ ?_
        rotate_left
        · intro w hSw; (try dsimp only at hSw); go_simp; (try with_reducible rfl)
        try simp only [Act.put, List.setIfInBounds_toArray, List.set_cons_zero, List.set_cons_succ]
        refine tk 1 (v := ?_) ?_ ?_
        rotate_left
        · intro w hSw; (try dsimp only at hSw); go_simp; (try with_reducible rfl)
        try simp only [Act.put, List.setIfInBounds_toArray, List.set_cons_zero, List.set_cons_succ]
        refine tk 2 (v := ?_) ?_ ?_
        rotate_left
        · intro w hSw; (try dsimp only at hSw); go_simp; (try with_reducible rfl)
        try simp only [Act.put, List.setIfInBounds_toArray, List.set_cons_zero, List.set_cons_succ]
        refine tk 3 (v := ?_) ?_ ?_
        rotate_left
        · intro w hSw; (try dsimp only at hSw); go_simp; (try with_reducible rfl)
        try simp only [Act.put, List.setIfInBounds_toArray, List.set_cons_zero, List.set_cons_succ]
        refine tk 4 (v := ?_) ?_ ?_
        rotate_left
        · intro w hSw; (try dsimp only at hSw); go_simp; (try with_reducible rfl)
        try simp only [Act.put, List.setIfInBounds_toArray, List.set_cons_zero, List.set_cons_succ]
        refine tk 5 (v := ?_) ?_ ?_
        rotate_left
        · intro w hSw; (try dsimp only at hSw); go_simp; (try with_reducible rfl)
        try simp only [Act.put, List.setIfInBounds_toArray, List.set_cons_zero, List.set_cons_succ]
        refine tk 6 (v := ?_) ?_ ?_
        rotate_left
        · intro w hSw; (try dsimp only at hSw); go_simp; (try with_reducible rfl)
        try simp only [Act.put, List.setIfInBounds_toArray, List.set_cons_zero, List.set_cons_succ]
        refine tk 7 (v := ?_) ?_ ?_
        rotate_left
        · intro w hSw; (try dsimp only at hSw); go_simp; (try with_reducible rfl)
        try simp only [Act.put, List.setIfInBounds_toArray, List.set_cons_zero, List.set_cons_succ]
        refine tk 8 (v := ?_) ?_ ?_
        rotate_left
        · intro w hSw; (try dsimp only at hSw); go_simp; (try with_reducible rfl)
        try simp only [Act.put, List.setIfInBounds_toArray, List.set_cons_zero, List.set_cons_succ]
        refine tk 9 (v := ?_) ?_ ?_
        rotate_left
        · intro w hSw; (try dsimp only at hSw); go_simp; (try with_reducible rfl)
        try simp only [Act.put, List.setIfInBounds_toArray, List.set_cons_zero, List.set_cons_succ]
        refine tks 10 ?_
        try simp only [Act.put, List.setIfInBounds_toArray, List.set_cons_zero, List.set_cons_succ]
        refine tks 11 ?_
        try simp only [Act.put, List.setIfInBounds_toArray, List.set_cons_zero, List.set_cons_succ]
        refine tks 12 ?_
        try simp only [Act.put, List.setIfInBounds_toArray, List.set_cons_zero, List.set_cons_succ]
        refine tks 13 ?_
        try simp only [Act.put, List.setIfInBounds_toArray, List.set_cons_zero, List.set_cons_succ]
        refine tks 14 ?_
        try simp only [Act.put, List.setIfInBounds_toArray, List.set_cons_zero, List.set_cons_succ]
        refine tks 15 ?_
        try simp only [Act.put, List.setIfInBounds_toArray, List.set_cons_zero, List.set_cons_succ]
        refine tks 16 ?_
        try simp only [Act.put, List.setIfInBounds_toArray, List.set_cons_zero, List.set_cons_succ]
        refine tks 17 ?_
        try simp only [Act.put, List.setIfInBounds_toArray, List.set_cons_zero, List.set_cons_succ]
        refine tks 18 ?_
        try simp only [Act.put, List.setIfInBounds_toArray, List.set_cons_zero, List.set_cons_succ]
        refine tks 19 ?_
        try simp only [Act.put, List.setIfInBounds_toArray, List.set_cons_zero, List.set_cons_succ]
        refine tk 20 (v := ?_) ?_ ?_
        rotate_left
        · intro w hSw; (try dsimp only at hSw); go_simp; (try with_reducible rfl)
        try simp only [Act.put, List.setIfInBounds_toArray, List.set_cons_zero, List.set_cons_succ]
        refine wpAnyH_done (by kernel_rfl) ?_ _
        refine NoPanic.normal ?_
        go_wp2
        go_ret
        exact ⟨ret_bool HS.out.symm, (KW.out.step (Below.refl _ _).drew).1.1⟩
    · go_wp2
      go_ret
      exact ⟨ret_bool (csm_all R1.out.1.1 R1.out.2.1 R1.out.1.2 R1.out.2.2).symm, KW.out.1.1⟩

end Go.Proofs.Ytjkkajhjcinalaa

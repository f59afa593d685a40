/-
  The chapter's examples: what the law's own wakes returns.
  Conditions: as each theorem states them.
-/
import Derived.Test.YtgmnnpecihcdhaaS9
namespace Go.Proofs.Ytgmnnpecihcdhaa
open Go.ChangeShapes Go.WideShapes Go.ChangeAt Go.RowKit
set_option linter.unusedVariables false
set_option linter.unusedSimpArgs false
set_option maxRecDepth 100000

theorem cline_m (m x0 x1 x2 x3 : Int) (c : Cl) (a0 : Option Addr) (p0 k0 : Nat) (a1 : Option Addr) (p1 k1 : Nat) (V : Value) (w : World) (hw : CW w a0 p0 k0 a1 p1 k1 c) (hk : okc c) (hV : Hid (lineV m x0 x1 x2 x3 c = V)) :
    Calls Try.prog 21 #[.int .i64 m, .agg #[.int .u8 x0, .int .u8 x1, .int .u8 x2, .int .u8 x3], .agg #[.int .i64 c.n, .int .i64 c.s0, .int .i64 c.s1, .slice a0 p0 k0, .slice a1 p1 k1]] w fun e w' => e = .returned V ∧ Below w.heap.size w w' := by
  have := cline_any m x0 x1 x2 x3 c a0 p0 k0 a1 p1 k1 w hw hk
  rw [hV.out] at this
  exact this
theorem crline_m (m x0 x1 x2 x3 : Int) (c : Cl) (a0 : Option Addr) (p0 k0 : Nat) (a1 : Option Addr) (p1 k1 : Nat) (V : Value) (w : World) (hw : CW w a0 p0 k0 a1 p1 k1 c) (hk : okc c) (hV : Hid (lineV m x0 x1 x2 x3 c = V)) :
    Calls Try.prog 22 #[.int .i64 m, .agg #[.int .u8 x0, .int .u8 x1, .int .u8 x2, .int .u8 x3], .agg #[.int .i64 c.n, .int .i64 c.s0, .int .i64 c.s1, .slice a0 p0 k0, .slice a1 p1 k1]] w fun e w' => e = .returned V ∧ Below w.heap.size w w' := by
  have := crline_any m x0 x1 x2 x3 c a0 p0 k0 a1 p1 k1 w hw hk
  rw [hV.out] at this
  exact this
def WR : List Rw := [(0, 0, 0, 0, 5, 1), (0, 0, 0, 0, -2, 1)]
def WB : List Rn := [(-2, 1), (5, 1)]
def WJ : List Rn := [(-2, 2), (5, 2)]
theorem wr_ok : ∀ r ∈ WR, rok r := by
  intro r hr
  simp only [WR, List.mem_cons, List.not_mem_nil, or_false] at hr
  rcases hr with rfl | rfl <;> (refine ⟨⟨?_, ?_, ?_, ?_⟩, ?_, ?_⟩ <;> first | (unfold U8; omega) | (unfold I64; omega))
theorem wk_of : ofC 1 WR = ⟨2, 3, 0, WB, []⟩ := by
  have h : ofB 1 WR = true := by decide
  rw [ofC_yes h]
  rfl
theorem wk_ofb : ofB 1 WR = true := by decide
theorem wk_j : cjB 1 ⟨2, 3, 0, WB, []⟩ ⟨2, 3, 0, WB, []⟩ = true := by decide
theorem wk_jc : cjC 1 ⟨2, 3, 0, WB, []⟩ ⟨2, 3, 0, WB, []⟩ = ⟨4, 6, 0, WJ, []⟩ := by
  rw [cjC_yes wk_j]
  rfl
theorem wk_g1 : cg 1 ⟨4, 6, 0, WJ, []⟩ = true := by decide
theorem wk_g2 : cg 2 ⟨4, 6, 0, WJ, []⟩ = false := by decide
theorem wk_g0 : cg 1 ⟨2, 3, 0, WB, []⟩ = true := by decide
theorem wk_l : lineV 1 3 0 0 0 ⟨2, 3, 0, WB, []⟩ = .agg #[.int .u8 3, .int .u8 0, .int .u8 0, .int .u8 0, .int .i64 2, .int .i64 3, .int .i64 0, .int .i64 (-2), .int .i64 0, .int .i64 5, .int .i64 0] := by
  rw [lineV_1 wk_g0]; rfl
theorem wk_s0 : csm ⟨2, 3, 0, WB, []⟩ ⟨2, 3, 0, WB, []⟩ = true := csm_self _
theorem wk_s1 : csm ⟨2, 3, 0, WB, []⟩ ⟨4, 6, 0, WJ, []⟩ = false := by decide
theorem wk_a1 : av 5 0 ⟨2, 3, 0, 0, 0, 0, 0⟩ ⟨3, 4, 0, 0, 0, 0, 0⟩ = -1 := by decide
theorem wk_a2 : av 2 0 ⟨2, 3, 0, 0, 0, 0, 0⟩ ⟨3, 4, 0, 0, 0, 0, 0⟩ = 1 := by decide
theorem i64s {x : Int} (h : -1000 ≤ x ∧ x ≤ 1000) : I64 x := by unfold I64; omega
theorem wk_ok1 : okc ⟨2, 3, 0, WB, []⟩ := by
  refine ⟨i64s (by decide), i64s (by decide), i64s (by decide), fun r hr => ?_, fun r hr => by cases hr⟩
  simp only [WB, List.mem_cons, List.not_mem_nil, or_false] at hr
  rcases hr with rfl | rfl <;> exact ⟨i64s (by decide), i64s (by decide)⟩
theorem wk_ok2 : okc ⟨4, 6, 0, WJ, []⟩ := by
  refine ⟨i64s (by decide), i64s (by decide), i64s (by decide), fun r hr => ?_, fun r hr => by cases hr⟩
  simp only [WJ, List.mem_cons, List.not_mem_nil, or_false] at hr
  rcases hr with rfl | rfl <;> exact ⟨i64s (by decide), i64s (by decide)⟩
theorem wk_okl (n s : Int) (h : -1000 ≤ n ∧ n ≤ 1000) (k : -1000 ≤ s ∧ s ≤ 1000) : okl ⟨n, s, 0, 0, 0, 0, 0⟩ :=
  ⟨i64s h, ⟨i64s k, calc.i64_0⟩, ⟨calc.i64_0, calc.i64_0⟩, calc.i64_0, calc.i64_0⟩
theorem cw_len {w : World} {a0 a1 : Option Addr} {p0 k0 p1 k1 : Nat} {c : Cl} (h : CW w a0 p0 k0 a1 p1 k1 c) : p0 = c.b0.length ∧ p1 = c.b1.length := ⟨h.1.lens.1, h.2.lens.1⟩

set_option maxHeartbeats 32000000 in
theorem wakes_any (w : World) : Calls Try.prog 15 #[] w fun e w' => e = .returned (.bool true) ∧ Below w.heap.size w w' := by
  have t1 : True := trivial
  have t2 : True := trivial
  have t3 : True := trivial
  have eqn := eqP4
  have q3 : qp 3 0 0 0 3 0 0 0 = true := by decide
  have B2 := hid (bt (b1alloc w (.cells #[.int .u8 0, .int .u8 0, .int .u8 0, .int .u8 0, .int .i64 5, .int .i64 1] 53)) (b1alloc _ (.cells #[.int .u8 0, .int .u8 0, .int .u8 0, .int .u8 0, .int .i64 (-2), .int .i64 1] 53)))
  go_enter Try.func15, Try.ntmps15
  go_upto_region 2 with fail
  go_upto_region 3 with (first
    | (go_at_call 17; refine (cof_m 1 _ 2 2 WR ⟨2, 3, 0, WB, []⟩ true _ (rrow_two _ _ _ _ (by first | rfl | simp) 53) wr_ok (by decide) (hid wk_of) (hid wk_ofb)).mono ?_; rintro e w3 ⟨⟨a0, p0, k0, a1, p1, k1, rfl, hcw⟩, hb⟩; have C3 := hid hcw; have B3 := hid (bt (bt B2.out (b1alloc _ _)) hb); clear hcw hb))
  have K3 : Hid (Kp w (w3.alloc (.cells #[.int .i64 2, .int .i64 3, .int .i64 0, .slice a0 p0 k0, .slice a1 p1 k1] 26)) w3.heap.size (.cells #[.int .i64 2, .int .i64 3, .int .i64 0, .slice a0 p0 k0, .slice a1 p1 k1] 26)) := hid (kp_new2 B3.out _ _ rfl)
  replace C3 := hid (C3.out.below (b1alloc w3 (.cells #[.int .i64 2, .int .i64 3, .int .i64 0, .slice a0 p0 k0, .slice a1 p1 k1] 26)))
  have hlen := cw_len C3.out
  have HL := hid hlen
  clear B2 B3 hlen
  generalize w3.alloc (.cells #[.int .i64 2, .int .i64 3, .int .i64 0, .slice a0 p0 k0, .slice a1 p1 k1] 26) = W3 at K3 C3 ⊢
  generalize w3.heap.size = N3 at K3 ⊢
  obtain ⟨c0, c1, c2, c3, c4⟩ := box_five K3.out.2.2
  go_upto_region 4 with (go_at_call 21; refine (cline_m 1 3 0 0 0 ⟨2, 3, 0, WB, []⟩ _ _ _ _ _ _ _ _ C3.out wk_ok1 (hid wk_l)).mono ?_; rintro e w5 ⟨rfl, hb⟩; replace K3 := hid (K3.out.step hb); replace C3 := hid (C3.out.below hb); clear hb c0 c1 c2 c3 c4)
  have K5 : Hid (Kp w (w5.alloc (.cells #[.int .u8 3, .int .u8 0, .int .u8 0, .int .u8 0, .int .i64 2, .int .i64 3, .int .i64 0, .int .i64 (-2), .int .i64 0, .int .i64 5, .int .i64 0] 44)) w5.heap.size (.cells #[.int .u8 3, .int .u8 0, .int .u8 0, .int .u8 0, .int .i64 2, .int .i64 3, .int .i64 0, .int .i64 (-2), .int .i64 0, .int .i64 5, .int .i64 0] 44)) := hid (kp_new2 K3.out.1 _ _ rfl)
  replace K3 := hid (kp_alloc K3.out (.cells #[.int .u8 3, .int .u8 0, .int .u8 0, .int .u8 0, .int .i64 2, .int .i64 3, .int .i64 0, .int .i64 (-2), .int .i64 0, .int .i64 5, .int .i64 0] 44))
  replace C3 := hid (C3.out.below (b1alloc w5 (.cells #[.int .u8 3, .int .u8 0, .int .u8 0, .int .u8 0, .int .i64 2, .int .i64 3, .int .i64 0, .int .i64 (-2), .int .i64 0, .int .i64 5, .int .i64 0] 44)))
  generalize w5.alloc (.cells #[.int .u8 3, .int .u8 0, .int .u8 0, .int .u8 0, .int .i64 2, .int .i64 3, .int .i64 0, .int .i64 (-2), .int .i64 0, .int .i64 5, .int .i64 0] 44) = W5 at K3 K5 C3 ⊢
  generalize w5.heap.size = N5 at K5 ⊢
  obtain ⟨c0, c1, c2, c3, c4⟩ := box_five K3.out.2.2
  go_upto_region 5 with (go_at_call 23; refine (cjoin_m 1 ⟨2, 3, 0, WB, []⟩ ⟨2, 3, 0, WB, []⟩ _ _ _ _ _ _ _ _ _ _ _ _ ⟨4, 6, 0, WJ, []⟩ true _ C3.out C3.out wk_ok1 wk_ok1 (by have h := HL.out; simp only [WB, List.length_cons, List.length_nil] at h; omega) (hid wk_jc) (hid wk_j)).mono ?_; rintro e w6 ⟨⟨b0, q0, j0, b1, q1, j1, rfl, hcw⟩, hb⟩; have C6 := hid hcw; replace K3 := hid (K3.out.step hb); replace K5 := hid (K5.out.step hb); replace C3 := hid (C3.out.below hb); clear hcw hb c0 c1 c2 c3 c4)
  have K6 : Hid (Kp w (w6.alloc (.cells #[.int .i64 4, .int .i64 6, .int .i64 0, .slice b0 q0 j0, .slice b1 q1 j1] 26)) w6.heap.size (.cells #[.int .i64 4, .int .i64 6, .int .i64 0, .slice b0 q0 j0, .slice b1 q1 j1] 26)) := hid (kp_new2 K3.out.1 _ _ rfl)
  replace K3 := hid (kp_alloc K3.out (.cells #[.int .i64 4, .int .i64 6, .int .i64 0, .slice b0 q0 j0, .slice b1 q1 j1] 26))
  replace K5 := hid (kp_alloc K5.out (.cells #[.int .i64 4, .int .i64 6, .int .i64 0, .slice b0 q0 j0, .slice b1 q1 j1] 26))
  replace C3 := hid (C3.out.below (b1alloc w6 (.cells #[.int .i64 4, .int .i64 6, .int .i64 0, .slice b0 q0 j0, .slice b1 q1 j1] 26)))
  replace C6 := hid (C6.out.below (b1alloc w6 (.cells #[.int .i64 4, .int .i64 6, .int .i64 0, .slice b0 q0 j0, .slice b1 q1 j1] 26)))
  generalize w6.alloc (.cells #[.int .i64 4, .int .i64 6, .int .i64 0, .slice b0 q0 j0, .slice b1 q1 j1] 26) = W6 at K3 K5 K6 C3 C6 ⊢
  generalize w6.heap.size = N6 at K6 ⊢
  go_upto_region 6 with fail
  have K8 : Hid (Kp w ((W6.alloc (.cells #[.int .u8 0, .int .u8 0, .int .u8 0, .int .u8 0, .int .i64 2, .int .i64 0, .int .i64 0, .int .i64 0, .int .i64 0, .int .i64 0, .int .i64 0] 44)).alloc (.cells #[.int .u8 0, .int .u8 0, .int .u8 0, .int .u8 0, .int .i64 3, .int .i64 0, .int .i64 0, .int .i64 0, .int .i64 0, .int .i64 0, .int .i64 0] 44)) W6.heap.size (.cells #[.int .u8 0, .int .u8 0, .int .u8 0, .int .u8 0, .int .i64 2, .int .i64 0, .int .i64 0, .int .i64 0, .int .i64 0, .int .i64 0, .int .i64 0] 44)) := hid (kp_alloc (kp_new2 K3.out.1 _ _ rfl) _)
  have K9 : Hid (Kp w ((W6.alloc (.cells #[.int .u8 0, .int .u8 0, .int .u8 0, .int .u8 0, .int .i64 2, .int .i64 0, .int .i64 0, .int .i64 0, .int .i64 0, .int .i64 0, .int .i64 0] 44)).alloc (.cells #[.int .u8 0, .int .u8 0, .int .u8 0, .int .u8 0, .int .i64 3, .int .i64 0, .int .i64 0, .int .i64 0, .int .i64 0, .int .i64 0, .int .i64 0] 44)) (W6.heap.size + 1) (.cells #[.int .u8 0, .int .u8 0, .int .u8 0, .int .u8 0, .int .i64 3, .int .i64 0, .int .i64 0, .int .i64 0, .int .i64 0, .int .i64 0, .int .i64 0] 44)) := hid (kp_new2 (bt K3.out.1 (b1alloc _ _)) _ _ (by simp))
  have B67 : Hid (Below W6.heap.size W6 ((W6.alloc (.cells #[.int .u8 0, .int .u8 0, .int .u8 0, .int .u8 0, .int .i64 2, .int .i64 0, .int .i64 0, .int .i64 0, .int .i64 0, .int .i64 0, .int .i64 0] 44)).alloc (.cells #[.int .u8 0, .int .u8 0, .int .u8 0, .int .u8 0, .int .i64 3, .int .i64 0, .int .i64 0, .int .i64 0, .int .i64 0, .int .i64 0, .int .i64 0] 44))) := hid (bt (b1alloc W6 (.cells #[.int .u8 0, .int .u8 0, .int .u8 0, .int .u8 0, .int .i64 2, .int .i64 0, .int .i64 0, .int .i64 0, .int .i64 0, .int .i64 0, .int .i64 0] 44)) (b1alloc _ (.cells #[.int .u8 0, .int .u8 0, .int .u8 0, .int .u8 0, .int .i64 3, .int .i64 0, .int .i64 0, .int .i64 0, .int .i64 0, .int .i64 0, .int .i64 0] 44)))
  have hge := K3.out.1.size
  have HGE : Hid (w.heap.size ≤ W6.heap.size) := hid hge
  clear hge
  generalize (W6.alloc (.cells #[.int .u8 0, .int .u8 0, .int .u8 0, .int .u8 0, .int .i64 2, .int .i64 0, .int .i64 0, .int .i64 0, .int .i64 0, .int .i64 0, .int .i64 0] 44)).alloc (.cells #[.int .u8 0, .int .u8 0, .int .u8 0, .int .u8 0, .int .i64 3, .int .i64 0, .int .i64 0, .int .i64 0, .int .i64 0, .int .i64 0, .int .i64 0] 44) = W7 at K8 K9 B67 ⊢
  have z8 := kp_cell (j := 5) (v := .int .i64 0) K8.out rfl
  have z9 := kp_cell (j := 5) (v := .int .i64 0) K9.out rfl
  have f8 := kp_froz K8.out 5
  have f9 := kp_froz K9.out 5
  have B68 : Hid (Below W6.heap.size W6 ((W7.setCell ⟨W6.heap.size, 5, none⟩ (.int .i64 3)).setCell ⟨W6.heap.size + 1, 5, none⟩ (.int .i64 4))) := hid ((B67.out.setCell (p := ⟨W6.heap.size, 5, none⟩) (Nat.le_refl _) _).setCell (p := ⟨W6.heap.size + 1, 5, none⟩) (Nat.le_succ _) _)
  go_upto_region 7 with fail
  have K8' : Hid (Kp w _ W6.heap.size (.cells #[.int .u8 0, .int .u8 0, .int .u8 0, .int .u8 0, .int .i64 2, .int .i64 3, .int .i64 0, .int .i64 0, .int .i64 0, .int .i64 0, .int .i64 0] 44)) := hid (kp_other (M := W6.heap.size + 1) (j := 5) (v := .int .i64 4) (kp_set (j := 5) (v := .int .i64 3) K8.out) (by omega) (by have := HGE.out; omega))
  have K9' : Hid (Kp w _ (W6.heap.size + 1) (.cells #[.int .u8 0, .int .u8 0, .int .u8 0, .int .u8 0, .int .i64 3, .int .i64 4, .int .i64 0, .int .i64 0, .int .i64 0, .int .i64 0, .int .i64 0] 44)) := hid (kp_set (j := 5) (v := .int .i64 4) (kp_other (M := W6.heap.size) (j := 5) (v := .int .i64 3) K9.out (by omega) HGE.out))
  replace K3 := hid (K3.out.step B68.out)
  replace K5 := hid (K5.out.step B68.out)
  replace K6 := hid (K6.out.step B68.out)
  replace C3 := hid (C3.out.below B68.out)
  replace C6 := hid (C6.out.below B68.out)
  clear z8 z9 f8 f9 K8 K9 B67 B68 HGE
  generalize ((W7.setCell ⟨W6.heap.size, 5, none⟩ (.int .i64 3)).setCell ⟨W6.heap.size + 1, 5, none⟩ (.int .i64 4)) = W8 at K3 K5 K6 C3 C6 K8' K9' ⊢
  generalize W6.heap.size = N8 at K8' K9' ⊢
  obtain ⟨c0, c1, c2, c3, c4⟩ := box_five K3.out.2.2
  obtain ⟨e0, e1, e2, e3, e4⟩ := box_five K6.out.2.2
  obtain ⟨l0, l1, l2, l3, l4, l5, l6, l7, l8, l9, l10⟩ := box_elf K5.out.2.2
  go_wp2_with (first
    | (go_at_call 19; clear t1; refine (cgood_m 1 ⟨4, 6, 0, WJ, []⟩ _ _ _ _ _ _ true _ C6.out wk_ok2 (hid wk_g1)).mono ?_; rintro e wa ⟨rfl, hb⟩; replace K3 := hid (K3.out.step hb); replace K5 := hid (K5.out.step hb); replace K6 := hid (K6.out.step hb); replace K8' := hid (K8'.out.step hb); replace K9' := hid (K9'.out.step hb); replace C3 := hid (C3.out.below hb); replace C6 := hid (C6.out.below hb); obtain ⟨c0, c1, c2, c3, c4⟩ := box_five K3.out.2.2; obtain ⟨e0, e1, e2, e3, e4⟩ := box_five K6.out.2.2; clear hb)
    | (go_at_call 19; refine (cgood_m 2 ⟨4, 6, 0, WJ, []⟩ _ _ _ _ _ _ false _ C6.out wk_ok2 (hid wk_g2)).mono ?_; rintro e wb ⟨rfl, hb⟩; replace K3 := hid (K3.out.step hb); replace K5 := hid (K5.out.step hb); replace K6 := hid (K6.out.step hb); replace K8' := hid (K8'.out.step hb); replace K9' := hid (K9'.out.step hb); replace C3 := hid (C3.out.below hb); replace C6 := hid (C6.out.below hb); obtain ⟨c0, c1, c2, c3, c4⟩ := box_five K3.out.2.2; obtain ⟨e0, e1, e2, e3, e4⟩ := box_five K6.out.2.2; clear hb)
    | (go_at_call 25; clear t2; refine (csame_m ⟨2, 3, 0, WB, []⟩ ⟨2, 3, 0, WB, []⟩ _ _ _ _ _ _ _ _ _ _ _ _ true _ C3.out C3.out (hid wk_s0)).mono ?_; rintro e wc ⟨rfl, hb⟩; replace K3 := hid (K3.out.step hb); replace K5 := hid (K5.out.step hb); replace K6 := hid (K6.out.step hb); replace K8' := hid (K8'.out.step hb); replace K9' := hid (K9'.out.step hb); replace C3 := hid (C3.out.below hb); replace C6 := hid (C6.out.below hb); obtain ⟨c0, c1, c2, c3, c4⟩ := box_five K3.out.2.2; obtain ⟨e0, e1, e2, e3, e4⟩ := box_five K6.out.2.2; clear hb)
    | (go_at_call 25; refine (csame_m ⟨2, 3, 0, WB, []⟩ ⟨4, 6, 0, WJ, []⟩ _ _ _ _ _ _ _ _ _ _ _ _ false _ C3.out C6.out (hid wk_s1)).mono ?_; rintro e wd ⟨rfl, hb⟩; replace K3 := hid (K3.out.step hb); replace K5 := hid (K5.out.step hb); replace K6 := hid (K6.out.step hb); replace K8' := hid (K8'.out.step hb); replace K9' := hid (K9'.out.step hb); replace C3 := hid (C3.out.below hb); replace C6 := hid (C6.out.below hb); obtain ⟨p0', p1', p2', p3', p4', p5', p6', p7', p8', p9', p10'⟩ := box_elf K8'.out.2.2; obtain ⟨r0, r1, r2, r3, r4, r5, r6, r7, r8, r9, r10⟩ := box_elf K9'.out.2.2; clear hb)
    | (go_at_call 28; clear t3; refine (cahead_m 5 0 ⟨2, 3, 0, 0, 0, 0, 0⟩ ⟨3, 4, 0, 0, 0, 0, 0⟩ 0 0 0 0 0 0 0 0 (-1) _ (wk_okl 2 3 (by decide) (by decide)) (wk_okl 3 4 (by decide) (by decide)) (hid wk_a1)).mono ?_; rintro e wf ⟨rfl, hb⟩; replace K3 := hid (K3.out.step hb); replace K5 := hid (K5.out.step hb); replace K6 := hid (K6.out.step hb); replace K8' := hid (K8'.out.step hb); replace K9' := hid (K9'.out.step hb); replace C3 := hid (C3.out.below hb); replace C6 := hid (C6.out.below hb); obtain ⟨p0', p1', p2', p3', p4', p5', p6', p7', p8', p9', p10'⟩ := box_elf K8'.out.2.2; obtain ⟨r0, r1, r2, r3, r4, r5, r6, r7, r8, r9, r10⟩ := box_elf K9'.out.2.2; clear hb)
    | (go_at_call 28; refine (cahead_m 2 0 ⟨2, 3, 0, 0, 0, 0, 0⟩ ⟨3, 4, 0, 0, 0, 0, 0⟩ 0 0 0 0 0 0 0 0 1 _ (wk_okl 2 3 (by decide) (by decide)) (wk_okl 3 4 (by decide) (by decide)) (hid wk_a2)).mono ?_; rintro e wg ⟨rfl, hb⟩; replace K3 := hid (K3.out.step hb); replace K5 := hid (K5.out.step hb); replace K6 := hid (K6.out.step hb); replace K8' := hid (K8'.out.step hb); replace K9' := hid (K9'.out.step hb); replace C3 := hid (C3.out.below hb); replace C6 := hid (C6.out.below hb); clear hb))
  go_ret
  exact ⟨rfl, K3.out.1⟩

end Go.Proofs.Ytgmnnpecihcdhaa

/-
  Which line is ahead: what the document's own Ahead returns.
  Conditions: as each theorem states them.
-/
import Derived.Test.YtgmnnpecihcdhaaN9
namespace Go.Proofs.Ytgmnnpecihcdhaa
open Go.ChangeShapes Go.WideShapes Go.ChangeAt Go.RowKit
set_option linter.unusedVariables false
set_option linter.unusedSimpArgs false
set_option maxRecDepth 100000

set_option maxHeartbeats 32000000 in
theorem crahead_m (f i : Int) (x y : Lv) (u0 u1 u2 u3 v0 v1 v2 v3 C : Int) (w : World) (hx : okl x) (hy : okl y) (hC : Hid (av f i x y = C)) :
    Calls Try.prog 29 #[.int .i64 f, .int .i64 i, .agg #[.int .u8 u0, .int .u8 u1, .int .u8 u2, .int .u8 u3, .int .i64 x.n, .int .i64 x.s0, .int .i64 x.s1, .int .i64 x.a0, .int .i64 x.a1, .int .i64 x.b0, .int .i64 x.b1], .agg #[.int .u8 v0, .int .u8 v1, .int .u8 v2, .int .u8 v3, .int .i64 y.n, .int .i64 y.s0, .int .i64 y.s1, .int .i64 y.a0, .int .i64 y.a1, .int .i64 y.b0, .int .i64 y.b1]] w fun e w' => e = .returned (.int .i64 C) ∧ Below w.heap.size w w' := by
  have HX := hid hx
  have HY := hid hy
  have HC := hC
  have K0 := hid (kq_new w (.cells #[.int .u8 u0, .int .u8 u1, .int .u8 u2, .int .u8 u3, .int .i64 x.n, .int .i64 x.s0, .int .i64 x.s1, .int .i64 x.a0, .int .i64 x.a1, .int .i64 x.b0, .int .i64 x.b1] 44) (.cells #[.int .u8 v0, .int .u8 v1, .int .u8 v2, .int .u8 v3, .int .i64 y.n, .int .i64 y.s0, .int .i64 y.s1, .int .i64 y.a0, .int .i64 y.a1, .int .i64 y.b0, .int .i64 y.b1] 44))
  clear hx hy hC
  by_cases h1 : f = 1
  · subst h1
    have t1 : True := trivial
    go_enter Try.func29, Try.ntmps29
    go_upto_region 1 with fail
    generalize (w.alloc (.cells #[.int .u8 u0, .int .u8 u1, .int .u8 u2, .int .u8 u3, .int .i64 x.n, .int .i64 x.s0, .int .i64 x.s1, .int .i64 x.a0, .int .i64 x.a1, .int .i64 x.b0, .int .i64 x.b1] 44)).alloc (.cells #[.int .u8 v0, .int .u8 v1, .int .u8 v2, .int .u8 v3, .int .i64 y.n, .int .i64 y.s0, .int .i64 y.s1, .int .i64 y.a0, .int .i64 y.a1, .int .i64 y.b0, .int .i64 y.b1] 44) = W at K0 ⊢
    have KS : Hid (∀ z, Below W.heap.size W z → Below W.heap.size W z ∧ z.cell? ⟨w.heap.size + 1, 4, none⟩ = some (.int .i64 y.n) ∧ z.cell? ⟨w.heap.size, 4, none⟩ = some (.int .i64 x.n)) := hid (fun z hb => ⟨hb, (K0.out.step hb).cell2 rfl, (K0.out.step hb).cell1 rfl⟩)
    go_wp2
    go_region_held3 (fun z => Below W.heap.size W z ∧ z.cell? ⟨w.heap.size + 1, 4, none⟩ = some (.int .i64 y.n) ∧ z.cell? ⟨w.heap.size, 4, none⟩ = some (.int .i64 x.n))
      (first | assumption | exact keep_drew KS | exact keep_step (by assumption) (by assumption) KS)
      (first
        | (go_at_call 62; clear t1; refine (calc.of_any y.n _ HY.out.1).mono ?_; rintro e w1 ⟨rfl, hb1⟩)
        | (go_at_call 62; refine (calc.of_any x.n _ HX.out.1).mono ?_; rintro e w2 ⟨rfl, hb2⟩)
        | (go_at_call 73; refine (calc.order_any y.n x.n _).mono ?_; rintro e w3 ⟨rfl, hb3⟩)
      )
    go_wp2
    go_ret
    exact ⟨ret_int (by rw [← HC.out, av_1]), bt K0.out.1.1 (bt (bt (undrew hb1) hb2) hb3)⟩
  · by_cases hi : i < 0 ∨ 2 ≤ i
    · have hf1 : (f == 1) = false := by simp [h1]
      have HV := hid (av_out h1 hi x y)
      by_cases hi0 : i < 0
      · have q1 : decide (i < 0) = true := decide_eq_true hi0
        clear h1 hi
        go_enter Try.func29, Try.ntmps29
        go_upto_region 1 with fail
        generalize (w.alloc (.cells #[.int .u8 u0, .int .u8 u1, .int .u8 u2, .int .u8 u3, .int .i64 x.n, .int .i64 x.s0, .int .i64 x.s1, .int .i64 x.a0, .int .i64 x.a1, .int .i64 x.b0, .int .i64 x.b1] 44)).alloc (.cells #[.int .u8 v0, .int .u8 v1, .int .u8 v2, .int .u8 v3, .int .i64 y.n, .int .i64 y.s0, .int .i64 y.s1, .int .i64 y.a0, .int .i64 y.a1, .int .i64 y.b0, .int .i64 y.b1] 44) = W at K0 ⊢
        go_wp2
        go_ret
        exact ⟨ret_int (by rw [← HC.out, HV.out]), K0.out.1.1⟩
      · have q1 : decide (i < 0) = false := decide_eq_false hi0
        have q2 : decide (2 ≤ i) = true := decide_eq_true (by omega)
        clear h1 hi
        go_enter Try.func29, Try.ntmps29
        go_upto_region 1 with fail
        generalize (w.alloc (.cells #[.int .u8 u0, .int .u8 u1, .int .u8 u2, .int .u8 u3, .int .i64 x.n, .int .i64 x.s0, .int .i64 x.s1, .int .i64 x.a0, .int .i64 x.a1, .int .i64 x.b0, .int .i64 x.b1] 44)).alloc (.cells #[.int .u8 v0, .int .u8 v1, .int .u8 v2, .int .u8 v3, .int .i64 y.n, .int .i64 y.s0, .int .i64 y.s1, .int .i64 y.a0, .int .i64 y.a1, .int .i64 y.b0, .int .i64 y.b1] 44) = W at K0 ⊢
        go_wp2
        go_ret
        exact ⟨ret_int (by rw [← HC.out, HV.out]), K0.out.1.1⟩
    · have hi2 : i = 0 ∨ i = 1 := by omega
      clear hi
      by_cases h2 : f = 2
      · subst h2
        rcases hi2 with rfl | rfl
        · skip
          have t1 : True := trivial
          go_enter Try.func29, Try.ntmps29
          go_upto_region 1 with fail
          generalize (w.alloc (.cells #[.int .u8 u0, .int .u8 u1, .int .u8 u2, .int .u8 u3, .int .i64 x.n, .int .i64 x.s0, .int .i64 x.s1, .int .i64 x.a0, .int .i64 x.a1, .int .i64 x.b0, .int .i64 x.b1] 44)).alloc (.cells #[.int .u8 v0, .int .u8 v1, .int .u8 v2, .int .u8 v3, .int .i64 y.n, .int .i64 y.s0, .int .i64 y.s1, .int .i64 y.a0, .int .i64 y.a1, .int .i64 y.b0, .int .i64 y.b1] 44) = W at K0 ⊢
          have KS : Hid (∀ z, Below W.heap.size W z → Below W.heap.size W z ∧ z.cell? ⟨w.heap.size + 1, 5, none⟩ = some (.int .i64 y.s0) ∧ z.cell? ⟨w.heap.size, 5, none⟩ = some (.int .i64 x.s0)) := hid (fun z hb => ⟨hb, (K0.out.step hb).cell2 rfl, (K0.out.step hb).cell1 rfl⟩)
          go_wp2
          go_region_held3 (fun z => Below W.heap.size W z ∧ z.cell? ⟨w.heap.size + 1, 5, none⟩ = some (.int .i64 y.s0) ∧ z.cell? ⟨w.heap.size, 5, none⟩ = some (.int .i64 x.s0))
            (first | assumption | exact keep_drew KS | exact keep_step (by assumption) (by assumption) KS)
            (first
              | (go_at_call 62; clear t1; refine (calc.of_any y.s0 _ HY.out.2.1.1).mono ?_; rintro e w1 ⟨rfl, hb1⟩)
              | (go_at_call 62; refine (calc.of_any x.s0 _ HX.out.2.1.1).mono ?_; rintro e w2 ⟨rfl, hb2⟩)
              | (go_at_call 73; refine (calc.order_any y.s0 x.s0 _).mono ?_; rintro e w3 ⟨rfl, hb3⟩)
            )
          go_wp2
          go_ret
          exact ⟨ret_int (by rw [← HC.out, av_20]), bt K0.out.1.1 (bt (bt (undrew hb1) hb2) hb3)⟩
        · skip
          have t1 : True := trivial
          go_enter Try.func29, Try.ntmps29
          go_upto_region 1 with fail
          generalize (w.alloc (.cells #[.int .u8 u0, .int .u8 u1, .int .u8 u2, .int .u8 u3, .int .i64 x.n, .int .i64 x.s0, .int .i64 x.s1, .int .i64 x.a0, .int .i64 x.a1, .int .i64 x.b0, .int .i64 x.b1] 44)).alloc (.cells #[.int .u8 v0, .int .u8 v1, .int .u8 v2, .int .u8 v3, .int .i64 y.n, .int .i64 y.s0, .int .i64 y.s1, .int .i64 y.a0, .int .i64 y.a1, .int .i64 y.b0, .int .i64 y.b1] 44) = W at K0 ⊢
          have KS : Hid (∀ z, Below W.heap.size W z → Below W.heap.size W z ∧ z.cell? ⟨w.heap.size + 1, 6, none⟩ = some (.int .i64 y.s1) ∧ z.cell? ⟨w.heap.size, 6, none⟩ = some (.int .i64 x.s1)) := hid (fun z hb => ⟨hb, (K0.out.step hb).cell2 rfl, (K0.out.step hb).cell1 rfl⟩)
          go_wp2
          go_region_held3 (fun z => Below W.heap.size W z ∧ z.cell? ⟨w.heap.size + 1, 6, none⟩ = some (.int .i64 y.s1) ∧ z.cell? ⟨w.heap.size, 6, none⟩ = some (.int .i64 x.s1))
            (first | assumption | exact keep_drew KS | exact keep_step (by assumption) (by assumption) KS)
            (first
              | (go_at_call 62; clear t1; refine (calc.of_any y.s1 _ HY.out.2.1.2).mono ?_; rintro e w1 ⟨rfl, hb1⟩)
              | (go_at_call 62; refine (calc.of_any x.s1 _ HX.out.2.1.2).mono ?_; rintro e w2 ⟨rfl, hb2⟩)
              | (go_at_call 73; refine (calc.order_any y.s1 x.s1 _).mono ?_; rintro e w3 ⟨rfl, hb3⟩)
            )
          go_wp2
          go_ret
          exact ⟨ret_int (by rw [← HC.out, av_21]), bt K0.out.1.1 (bt (bt (undrew hb1) hb2) hb3)⟩
      · skip
        by_cases h3 : f = 3
        · subst h3
          rcases hi2 with rfl | rfl
          · skip
            have t1 : True := trivial
            go_enter Try.func29, Try.ntmps29
            go_upto_region 1 with fail
            generalize (w.alloc (.cells #[.int .u8 u0, .int .u8 u1, .int .u8 u2, .int .u8 u3, .int .i64 x.n, .int .i64 x.s0, .int .i64 x.s1, .int .i64 x.a0, .int .i64 x.a1, .int .i64 x.b0, .int .i64 x.b1] 44)).alloc (.cells #[.int .u8 v0, .int .u8 v1, .int .u8 v2, .int .u8 v3, .int .i64 y.n, .int .i64 y.s0, .int .i64 y.s1, .int .i64 y.a0, .int .i64 y.a1, .int .i64 y.b0, .int .i64 y.b1] 44) = W at K0 ⊢
            have KS : Hid (∀ z, Below W.heap.size W z → Below W.heap.size W z ∧ z.cell? ⟨w.heap.size + 1, 7, none⟩ = some (.int .i64 y.a0) ∧ z.cell? ⟨w.heap.size, 7, none⟩ = some (.int .i64 x.a0)) := hid (fun z hb => ⟨hb, (K0.out.step hb).cell2 rfl, (K0.out.step hb).cell1 rfl⟩)
            go_wp2
            go_region_held3 (fun z => Below W.heap.size W z ∧ z.cell? ⟨w.heap.size + 1, 7, none⟩ = some (.int .i64 y.a0) ∧ z.cell? ⟨w.heap.size, 7, none⟩ = some (.int .i64 x.a0))
              (first | assumption | exact keep_drew KS | exact keep_step (by assumption) (by assumption) KS)
              (first
                | (go_at_call 62; clear t1; refine (calc.of_any y.a0 _ HY.out.2.2.1.1).mono ?_; rintro e w1 ⟨rfl, hb1⟩)
                | (go_at_call 62; refine (calc.of_any x.a0 _ HX.out.2.2.1.1).mono ?_; rintro e w2 ⟨rfl, hb2⟩)
                | (go_at_call 73; refine (calc.order_any y.a0 x.a0 _).mono ?_; rintro e w3 ⟨rfl, hb3⟩)
              )
            go_wp2
            go_ret
            exact ⟨ret_int (by rw [← HC.out, av_30]), bt K0.out.1.1 (bt (bt (undrew hb1) hb2) hb3)⟩
          · skip
            have t1 : True := trivial
            go_enter Try.func29, Try.ntmps29
            go_upto_region 1 with fail
            generalize (w.alloc (.cells #[.int .u8 u0, .int .u8 u1, .int .u8 u2, .int .u8 u3, .int .i64 x.n, .int .i64 x.s0, .int .i64 x.s1, .int .i64 x.a0, .int .i64 x.a1, .int .i64 x.b0, .int .i64 x.b1] 44)).alloc (.cells #[.int .u8 v0, .int .u8 v1, .int .u8 v2, .int .u8 v3, .int .i64 y.n, .int .i64 y.s0, .int .i64 y.s1, .int .i64 y.a0, .int .i64 y.a1, .int .i64 y.b0, .int .i64 y.b1] 44) = W at K0 ⊢
            have KS : Hid (∀ z, Below W.heap.size W z → Below W.heap.size W z ∧ z.cell? ⟨w.heap.size + 1, 8, none⟩ = some (.int .i64 y.a1) ∧ z.cell? ⟨w.heap.size, 8, none⟩ = some (.int .i64 x.a1)) := hid (fun z hb => ⟨hb, (K0.out.step hb).cell2 rfl, (K0.out.step hb).cell1 rfl⟩)
            go_wp2
            go_region_held3 (fun z => Below W.heap.size W z ∧ z.cell? ⟨w.heap.size + 1, 8, none⟩ = some (.int .i64 y.a1) ∧ z.cell? ⟨w.heap.size, 8, none⟩ = some (.int .i64 x.a1))
              (first | assumption | exact keep_drew KS | exact keep_step (by assumption) (by assumption) KS)
              (first
                | (go_at_call 62; clear t1; refine (calc.of_any y.a1 _ HY.out.2.2.1.2).mono ?_; rintro e w1 ⟨rfl, hb1⟩)
                | (go_at_call 62; refine (calc.of_any x.a1 _ HX.out.2.2.1.2).mono ?_; rintro e w2 ⟨rfl, hb2⟩)
                | (go_at_call 73; refine (calc.order_any y.a1 x.a1 _).mono ?_; rintro e w3 ⟨rfl, hb3⟩)
              )
            go_wp2
            go_ret
            exact ⟨ret_int (by rw [← HC.out, av_31]), bt K0.out.1.1 (bt (bt (undrew hb1) hb2) hb3)⟩
        · skip
          by_cases h4 : f = 4
          · subst h4
            rcases hi2 with rfl | rfl
            · skip
              have t1 : True := trivial
              go_enter Try.func29, Try.ntmps29
              go_upto_region 1 with fail
              generalize (w.alloc (.cells #[.int .u8 u0, .int .u8 u1, .int .u8 u2, .int .u8 u3, .int .i64 x.n, .int .i64 x.s0, .int .i64 x.s1, .int .i64 x.a0, .int .i64 x.a1, .int .i64 x.b0, .int .i64 x.b1] 44)).alloc (.cells #[.int .u8 v0, .int .u8 v1, .int .u8 v2, .int .u8 v3, .int .i64 y.n, .int .i64 y.s0, .int .i64 y.s1, .int .i64 y.a0, .int .i64 y.a1, .int .i64 y.b0, .int .i64 y.b1] 44) = W at K0 ⊢
              have KS : Hid (∀ z, Below W.heap.size W z → Below W.heap.size W z ∧ z.cell? ⟨w.heap.size + 1, 9, none⟩ = some (.int .i64 y.b0) ∧ z.cell? ⟨w.heap.size, 9, none⟩ = some (.int .i64 x.b0)) := hid (fun z hb => ⟨hb, (K0.out.step hb).cell2 rfl, (K0.out.step hb).cell1 rfl⟩)
              go_wp2
              go_region_held3 (fun z => Below W.heap.size W z ∧ z.cell? ⟨w.heap.size + 1, 9, none⟩ = some (.int .i64 y.b0) ∧ z.cell? ⟨w.heap.size, 9, none⟩ = some (.int .i64 x.b0))
                (first | assumption | exact keep_drew KS | exact keep_step (by assumption) (by assumption) KS)
                (first
                  | (go_at_call 62; clear t1; refine (calc.of_any y.b0 _ HY.out.2.2.2.1).mono ?_; rintro e w1 ⟨rfl, hb1⟩)
                  | (go_at_call 62; refine (calc.of_any x.b0 _ HX.out.2.2.2.1).mono ?_; rintro e w2 ⟨rfl, hb2⟩)
                  | (go_at_call 73; refine (calc.order_any y.b0 x.b0 _).mono ?_; rintro e w3 ⟨rfl, hb3⟩)
                )
              go_wp2
              go_ret
              exact ⟨ret_int (by rw [← HC.out, av_40]), bt K0.out.1.1 (bt (bt (undrew hb1) hb2) hb3)⟩
            · skip
              have t1 : True := trivial
              go_enter Try.func29, Try.ntmps29
              go_upto_region 1 with fail
              generalize (w.alloc (.cells #[.int .u8 u0, .int .u8 u1, .int .u8 u2, .int .u8 u3, .int .i64 x.n, .int .i64 x.s0, .int .i64 x.s1, .int .i64 x.a0, .int .i64 x.a1, .int .i64 x.b0, .int .i64 x.b1] 44)).alloc (.cells #[.int .u8 v0, .int .u8 v1, .int .u8 v2, .int .u8 v3, .int .i64 y.n, .int .i64 y.s0, .int .i64 y.s1, .int .i64 y.a0, .int .i64 y.a1, .int .i64 y.b0, .int .i64 y.b1] 44) = W at K0 ⊢
              have KS : Hid (∀ z, Below W.heap.size W z → Below W.heap.size W z ∧ z.cell? ⟨w.heap.size + 1, 10, none⟩ = some (.int .i64 y.b1) ∧ z.cell? ⟨w.heap.size, 10, none⟩ = some (.int .i64 x.b1)) := hid (fun z hb => ⟨hb, (K0.out.step hb).cell2 rfl, (K0.out.step hb).cell1 rfl⟩)
              go_wp2
              go_region_held3 (fun z => Below W.heap.size W z ∧ z.cell? ⟨w.heap.size + 1, 10, none⟩ = some (.int .i64 y.b1) ∧ z.cell? ⟨w.heap.size, 10, none⟩ = some (.int .i64 x.b1))
                (first | assumption | exact keep_drew KS | exact keep_step (by assumption) (by assumption) KS)
                (first
                  | (go_at_call 62; clear t1; refine (calc.of_any y.b1 _ HY.out.2.2.2.2).mono ?_; rintro e w1 ⟨rfl, hb1⟩)
                  | (go_at_call 62; refine (calc.of_any x.b1 _ HX.out.2.2.2.2).mono ?_; rintro e w2 ⟨rfl, hb2⟩)
                  | (go_at_call 73; refine (calc.order_any y.b1 x.b1 _).mono ?_; rintro e w3 ⟨rfl, hb3⟩)
                )
              go_wp2
              go_ret
              exact ⟨ret_int (by rw [← HC.out, av_41]), bt K0.out.1.1 (bt (bt (undrew hb1) hb2) hb3)⟩
          · skip
            by_cases h5 : f = 5
            · subst h5
              obtain ⟨X, hX⟩ : ∃ z, mx1 x.n = z := ⟨_, rfl⟩
              obtain ⟨Y, hY⟩ : ∃ z, mx1 y.n = z := ⟨_, rfl⟩
              have eX : max x.n 1 = X := hX
              have eY : max y.n 1 = Y := hY
              have IX : Hid (I64 X) := hid (by rw [← hX]; exact mx1_i64 HX.out.1)
              have IY : Hid (I64 Y) := hid (by rw [← hY]; exact mx1_i64 HY.out.1)
              have FX := hid hX
              have FY := hid hY
              clear hX hY
              rcases hi2 with rfl | rfl
              · skip
                go_enter Try.func29, Try.ntmps29
                go_upto_region 1 with fail
                generalize (w.alloc (.cells #[.int .u8 u0, .int .u8 u1, .int .u8 u2, .int .u8 u3, .int .i64 x.n, .int .i64 x.s0, .int .i64 x.s1, .int .i64 x.a0, .int .i64 x.a1, .int .i64 x.b0, .int .i64 x.b1] 44)).alloc (.cells #[.int .u8 v0, .int .u8 v1, .int .u8 v2, .int .u8 v3, .int .i64 y.n, .int .i64 y.s0, .int .i64 y.s1, .int .i64 y.a0, .int .i64 y.a1, .int .i64 y.b0, .int .i64 y.b1] 44) = W at K0 ⊢
                have KS : Hid (∀ z, Below W.heap.size W z → (fun z => Below W.heap.size W z ∧ z.cell? ⟨w.heap.size + 1, 5, none⟩ = some (.int .i64 y.s0) ∧ z.cell? ⟨w.heap.size, 4, none⟩ = some (.int .i64 x.n) ∧ z.cell? ⟨w.heap.size, 5, none⟩ = some (.int .i64 x.s0) ∧ z.cell? ⟨w.heap.size + 1, 4, none⟩ = some (.int .i64 y.n)) z) := hid (fun z hb => ⟨hb, (K0.out.step hb).cell2 rfl, (K0.out.step hb).cell1 rfl, (K0.out.step hb).cell1 rfl, (K0.out.step hb).cell2 rfl⟩)
                go_wp2
                refine wp_region_noPanic ?_
                refine wp_region_held_drew (S := fun z => Below W.heap.size W z ∧ z.cell? ⟨w.heap.size + 1, 5, none⟩ = some (.int .i64 y.s0) ∧ z.cell? ⟨w.heap.size, 4, none⟩ = some (.int .i64 x.n) ∧ z.cell? ⟨w.heap.size, 5, none⟩ = some (.int .i64 x.s0) ∧ z.cell? ⟨w.heap.size + 1, 4, none⟩ = some (.int .i64 y.n)) (by kernel_rfl) (keep_drew KS) (fun hHeld => ?_)
                refine wpAnyH_take (i := 0) (v := ?_) (by simp only [List.getElem?_toArray, List.getElem?_cons_succ, List.getElem?_cons_zero]; exact rfl) (by kernel_rfl) (by kernel_rfl) (by kernel_rfl) (fun _ _ _ h => h) (Or.inl ⟨by rfl, ?_⟩) (by assumption) ?_
                rotate_left
                · intro w hSw
                  try dsimp only at hSw
                  go_simp
                  try with_reducible rfl
                try simp only [Act.put, List.setIfInBounds_toArray, List.set_cons_zero, List.set_cons_succ]
                refine wpAnyH_take (i := 1) (v := ?_) (by simp only [List.getElem?_toArray, List.getElem?_cons_succ, List.getElem?_cons_zero]; exact rfl) (by kernel_rfl) (by kernel_rfl) (by kernel_rfl) (fun _ _ _ h => h) (Or.inl ⟨by rfl, ?_⟩) (by assumption) ?_
                rotate_left
                · intro w hSw
                  try dsimp only at hSw
                  go_simp
                  try with_reducible rfl
                try simp only [Act.put, List.setIfInBounds_toArray, List.set_cons_zero, List.set_cons_succ]
                refine wpAnyH_take (i := 2) (v := ?_) (by simp only [List.getElem?_toArray, List.getElem?_cons_succ, List.getElem?_cons_zero]; exact rfl) (by kernel_rfl) (by kernel_rfl) (by kernel_rfl) (fun _ _ _ h => h) (Or.inl ⟨by rfl, ?_⟩) (by assumption) ?_
                rotate_left
                · intro w hSw
                  try dsimp only at hSw
                  go_simp
                  try with_reducible rfl
                try simp only [Act.put, List.setIfInBounds_toArray, List.set_cons_zero, List.set_cons_succ]
                refine wpAnyH_take (i := 3) (v := ?_) (by simp only [List.getElem?_toArray, List.getElem?_cons_succ, List.getElem?_cons_zero]; exact rfl) (by kernel_rfl) (by kernel_rfl) (by kernel_rfl) (fun _ _ _ h => h) (Or.inl ⟨by rfl, ?_⟩) (by assumption) ?_
                rotate_left
                · intro w hSw
                  try dsimp only at hSw
                  go_simp
                  try with_reducible rfl
                try simp only [Act.put, List.setIfInBounds_toArray, List.set_cons_zero, List.set_cons_succ]
                refine wpAnyH_take (i := 4) (v := ?_) (by simp only [List.getElem?_toArray, List.getElem?_cons_succ, List.getElem?_cons_zero]; exact rfl) (by kernel_rfl) (by kernel_rfl) (by kernel_rfl) (fun _ _ _ h => h) (Or.inl ⟨by rfl, ?_⟩) (by assumption) ?_
                rotate_left
                · intro w hSw
                  try dsimp only at hSw
                  go_simp
                  try with_reducible rfl
                try simp only [Act.put, List.setIfInBounds_toArray, List.set_cons_zero, List.set_cons_succ]
                refine wpAnyH_take (i := 5) (v := ?_) (by simp only [List.getElem?_toArray, List.getElem?_cons_succ, List.getElem?_cons_zero]; exact rfl) (by kernel_rfl) (by kernel_rfl) (by kernel_rfl) (fun _ _ _ h => h) (Or.inl ⟨by rfl, ?_⟩) (by assumption) ?_
                rotate_left
                · intro w hSw
                  try dsimp only at hSw
                  go_simp
                  try with_reducible rfl
                try simp only [Act.put, List.setIfInBounds_toArray, List.set_cons_zero, List.set_cons_succ]
                refine wpAnyH_take (i := 6) (v := ?_) (by simp only [List.getElem?_toArray, List.getElem?_cons_succ, List.getElem?_cons_zero]; exact rfl) (by kernel_rfl) (by kernel_rfl) (by kernel_rfl) (fun _ _ _ h => h) (Or.inl ⟨by rfl, ?_⟩) (by assumption) ?_
                rotate_left
                · intro w hSw
                  try dsimp only at hSw
                  go_simp
                  try with_reducible rfl
                try simp only [Act.put, List.setIfInBounds_toArray, List.set_cons_zero, List.set_cons_succ]
                refine wpAnyH_take (i := 8) (v := ?_) (by simp only [List.getElem?_toArray, List.getElem?_cons_succ, List.getElem?_cons_zero]; exact rfl) (by kernel_rfl) (by kernel_rfl) (by kernel_rfl) (fun _ _ _ h => h) (Or.inl ⟨by rfl, ?_⟩) (by assumption) ?_
                rotate_left
                · intro w hSw
                  try dsimp only at hSw
                  go_simp
                  try with_reducible rfl
                try simp only [Act.put, List.setIfInBounds_toArray, List.set_cons_zero, List.set_cons_succ]
                refine wpAnyH_take (i := 9) (v := ?_) (by simp only [List.getElem?_toArray, List.getElem?_cons_succ, List.getElem?_cons_zero]; exact rfl) (by kernel_rfl) (by kernel_rfl) (by kernel_rfl) (fun _ _ _ h => h) (Or.inl ⟨by rfl, ?_⟩) (by assumption) ?_
                rotate_left
                · intro w hSw
                  try dsimp only at hSw
                  go_simp
                  try with_reducible rfl
                try simp only [Act.put, List.setIfInBounds_toArray, List.set_cons_zero, List.set_cons_succ]
                refine wpAnyH_take (i := 10) (v := ?_) (by simp only [List.getElem?_toArray, List.getElem?_cons_succ, List.getElem?_cons_zero]; exact rfl) (by kernel_rfl) (by kernel_rfl) (by kernel_rfl) (fun _ _ _ h => h) (Or.inl ⟨by rfl, ?_⟩) (by assumption) ?_
                rotate_left
                · intro w hSw
                  try dsimp only at hSw
                  go_simp
                  try with_reducible rfl
                try simp only [Act.put, List.setIfInBounds_toArray, List.set_cons_zero, List.set_cons_succ]
                refine wpAnyH_take (i := 11) (v := ?_) (by simp only [List.getElem?_toArray, List.getElem?_cons_succ, List.getElem?_cons_zero]; exact rfl) (by kernel_rfl) (by kernel_rfl) (by kernel_rfl) (fun _ _ _ h => h) (Or.inl ⟨by rfl, ?_⟩) (by assumption) ?_
                rotate_left
                · intro w hSw
                  try dsimp only at hSw
                  go_simp
                  try with_reducible rfl
                try simp only [Act.put, List.setIfInBounds_toArray, List.set_cons_zero, List.set_cons_succ]
                refine wpAnyH_take (i := 12) (v := ?_) (by simp only [List.getElem?_toArray, List.getElem?_cons_succ, List.getElem?_cons_zero]; exact rfl) (by kernel_rfl) (by kernel_rfl) (by kernel_rfl) (fun _ _ _ h => h) (Or.inl ⟨by rfl, ?_⟩) (by assumption) ?_
                rotate_left
                · intro w hSw
                  try dsimp only at hSw
                  go_simp
                  try with_reducible rfl
                try simp only [Act.put, List.setIfInBounds_toArray, List.set_cons_zero, List.set_cons_succ]
                refine wpAnyH_take (i := 13) (v := ?_) (by simp only [List.getElem?_toArray, List.getElem?_cons_succ, List.getElem?_cons_zero]; exact rfl) (by kernel_rfl) (by kernel_rfl) (by kernel_rfl) (fun _ _ _ h => h) (Or.inl ⟨by rfl, ?_⟩) (by assumption) ?_
                rotate_left
                · intro w hSw
                  try dsimp only at hSw
                  go_simp
                  try with_reducible rfl
                try simp only [Act.put, List.setIfInBounds_toArray, List.set_cons_zero, List.set_cons_succ]
                refine wpAnyH_take (i := 14) (v := ?_) (by simp only [List.getElem?_toArray, List.getElem?_cons_succ, List.getElem?_cons_zero]; exact rfl) (by kernel_rfl) (by kernel_rfl) (by kernel_rfl) (fun _ _ _ h => h) (Or.inl ⟨by rfl, ?_⟩) (by assumption) ?_
                rotate_left
                · intro w hSw
                  try dsimp only at hSw
                  go_simp
                  try with_reducible rfl
                try simp only [Act.put, List.setIfInBounds_toArray, List.set_cons_zero, List.set_cons_succ]
                refine wpAnyH_ready (rs := [7]) (by kernel_rfl) (by simp) ?_
                refine (AllReadyH.cons (by simp only [List.getElem?_toArray, List.getElem?_cons_succ, List.getElem?_cons_zero]; exact rfl) (fun K hK => ?_) AllReadyH.nil)
                go_simp
                go_at_call 74; refine (calc.times_any y.s0 X _ HY.out.2.1.1 IX.out).mono ?_; rintro e w1 ⟨rfl, hb1⟩
                refine hK.out _ _ (keep_step hb1 hHeld KS) (fun hHeld2 => ?_)
                clear hK K hHeld
                have hHeld := hHeld2
                clear hHeld2
                try simp only [Act.put, List.setIfInBounds_toArray, List.set_cons_zero, List.set_cons_succ]
                refine wpAnyH_ready (rs := [15]) (by kernel_rfl) (by simp) ?_
                refine (AllReadyH.cons (by simp only [List.getElem?_toArray, List.getElem?_cons_succ, List.getElem?_cons_zero]; exact rfl) (fun K hK => ?_) AllReadyH.nil)
                go_simp
                go_at_call 74; refine (calc.times_any x.s0 Y _ HX.out.2.1.1 IY.out).mono ?_; rintro e w2 ⟨rfl, hb2⟩
                refine hK.out _ _ (keep_step hb2 hHeld KS) (fun hHeld2 => ?_)
                clear hK K hHeld
                have hHeld := hHeld2
                clear hHeld2
                try simp only [Act.put, List.setIfInBounds_toArray, List.set_cons_zero, List.set_cons_succ]
                refine wpAnyH_ready (rs := [16]) (by kernel_rfl) (by simp) ?_
                refine (AllReadyH.cons (by simp only [List.getElem?_toArray, List.getElem?_cons_succ, List.getElem?_cons_zero]; exact rfl) (fun K hK => ?_) AllReadyH.nil)
                go_simp
                go_at_call 73; refine (calc.order_any (y.s0 * X) (x.s0 * Y) _).mono ?_; rintro e w3 ⟨rfl, hb3⟩
                refine hK.out _ _ (keep_step hb3 hHeld KS) (fun hHeld2 => ?_)
                clear hK K hHeld
                have hHeld := hHeld2
                clear hHeld2
                try simp only [Act.put, List.setIfInBounds_toArray, List.set_cons_zero, List.set_cons_succ]
                refine wpAnyH_take (i := 17) (v := ?_) (by simp only [List.getElem?_toArray, List.getElem?_cons_succ, List.getElem?_cons_zero]; exact rfl) (by kernel_rfl) (by kernel_rfl) (by kernel_rfl) (fun _ _ _ h => h) (Or.inl ⟨by rfl, ?_⟩) (by assumption) ?_
                rotate_left
                · intro w hSw
                  try dsimp only at hSw
                  go_simp
                  try with_reducible rfl
                try simp only [Act.put, List.setIfInBounds_toArray, List.set_cons_zero, List.set_cons_succ]
                refine wpAnyH_done (by kernel_rfl) ?_ _
                refine NoPanic.normal ?_
                go_wp2
                go_ret
                exact ⟨ret_int (by rw [← HC.out, av_50, FX.out, FY.out]), bt K0.out.1.1 (bt (bt (undrew hb1) hb2) hb3)⟩
              · skip
                go_enter Try.func29, Try.ntmps29
                go_upto_region 1 with fail
                generalize (w.alloc (.cells #[.int .u8 u0, .int .u8 u1, .int .u8 u2, .int .u8 u3, .int .i64 x.n, .int .i64 x.s0, .int .i64 x.s1, .int .i64 x.a0, .int .i64 x.a1, .int .i64 x.b0, .int .i64 x.b1] 44)).alloc (.cells #[.int .u8 v0, .int .u8 v1, .int .u8 v2, .int .u8 v3, .int .i64 y.n, .int .i64 y.s0, .int .i64 y.s1, .int .i64 y.a0, .int .i64 y.a1, .int .i64 y.b0, .int .i64 y.b1] 44) = W at K0 ⊢
                have KS : Hid (∀ z, Below W.heap.size W z → (fun z => Below W.heap.size W z ∧ z.cell? ⟨w.heap.size + 1, 6, none⟩ = some (.int .i64 y.s1) ∧ z.cell? ⟨w.heap.size, 4, none⟩ = some (.int .i64 x.n) ∧ z.cell? ⟨w.heap.size, 6, none⟩ = some (.int .i64 x.s1) ∧ z.cell? ⟨w.heap.size + 1, 4, none⟩ = some (.int .i64 y.n)) z) := hid (fun z hb => ⟨hb, (K0.out.step hb).cell2 rfl, (K0.out.step hb).cell1 rfl, (K0.out.step hb).cell1 rfl, (K0.out.step hb).cell2 rfl⟩)
                go_wp2
                refine wp_region_noPanic ?_
                refine wp_region_held_drew (S := fun z => Below W.heap.size W z ∧ z.cell? ⟨w.heap.size + 1, 6, none⟩ = some (.int .i64 y.s1) ∧ z.cell? ⟨w.heap.size, 4, none⟩ = some (.int .i64 x.n) ∧ z.cell? ⟨w.heap.size, 6, none⟩ = some (.int .i64 x.s1) ∧ z.cell? ⟨w.heap.size + 1, 4, none⟩ = some (.int .i64 y.n)) (by kernel_rfl) (keep_drew KS) (fun hHeld => ?_)
                refine wpAnyH_take (i := 0) (v := ?_) (by simp only [List.getElem?_toArray, List.getElem?_cons_succ, List.getElem?_cons_zero]; exact rfl) (by kernel_rfl) (by kernel_rfl) (by kernel_rfl) (fun _ _ _ h => h) (Or.inl ⟨by rfl, ?_⟩) (by assumption) ?_
                rotate_left
                · intro w hSw
                  try dsimp only at hSw
                  go_simp
                  try with_reducible rfl
                try simp only [Act.put, List.setIfInBounds_toArray, List.set_cons_zero, List.set_cons_succ]
                refine wpAnyH_take (i := 1) (v := ?_) (by simp only [List.getElem?_toArray, List.getElem?_cons_succ, List.getElem?_cons_zero]; exact rfl) (by kernel_rfl) (by kernel_rfl) (by kernel_rfl) (fun _ _ _ h => h) (Or.inl ⟨by rfl, ?_⟩) (by assumption) ?_
                rotate_left
                · intro w hSw
                  try dsimp only at hSw
                  go_simp
                  try with_reducible rfl
                try simp only [Act.put, List.setIfInBounds_toArray, List.set_cons_zero, List.set_cons_succ]
                refine wpAnyH_take (i := 2) (v := ?_) (by simp only [List.getElem?_toArray, List.getElem?_cons_succ, List.getElem?_cons_zero]; exact rfl) (by kernel_rfl) (by kernel_rfl) (by kernel_rfl) (fun _ _ _ h => h) (Or.inl ⟨by rfl, ?_⟩) (by assumption) ?_
                rotate_left
                · intro w hSw
                  try dsimp only at hSw
                  go_simp
                  try with_reducible rfl
                try simp only [Act.put, List.setIfInBounds_toArray, List.set_cons_zero, List.set_cons_succ]
                refine wpAnyH_take (i := 3) (v := ?_) (by simp only [List.getElem?_toArray, List.getElem?_cons_succ, List.getElem?_cons_zero]; exact rfl) (by kernel_rfl) (by kernel_rfl) (by kernel_rfl) (fun _ _ _ h => h) (Or.inl ⟨by rfl, ?_⟩) (by assumption) ?_
                rotate_left
                · intro w hSw
                  try dsimp only at hSw
                  go_simp
                  try with_reducible rfl
                try simp only [Act.put, List.setIfInBounds_toArray, List.set_cons_zero, List.set_cons_succ]
                refine wpAnyH_take (i := 4) (v := ?_) (by simp only [List.getElem?_toArray, List.getElem?_cons_succ, List.getElem?_cons_zero]; exact rfl) (by kernel_rfl) (by kernel_rfl) (by kernel_rfl) (fun _ _ _ h => h) (Or.inl ⟨by rfl, ?_⟩) (by assumption) ?_
                rotate_left
                · intro w hSw
                  try dsimp only at hSw
                  go_simp
                  try with_reducible rfl
                try simp only [Act.put, List.setIfInBounds_toArray, List.set_cons_zero, List.set_cons_succ]
                refine wpAnyH_take (i := 5) (v := ?_) (by simp only [List.getElem?_toArray, List.getElem?_cons_succ, List.getElem?_cons_zero]; exact rfl) (by kernel_rfl) (by kernel_rfl) (by kernel_rfl) (fun _ _ _ h => h) (Or.inl ⟨by rfl, ?_⟩) (by assumption) ?_
                rotate_left
                · intro w hSw
                  try dsimp only at hSw
                  go_simp
                  try with_reducible rfl
                try simp only [Act.put, List.setIfInBounds_toArray, List.set_cons_zero, List.set_cons_succ]
                refine wpAnyH_take (i := 6) (v := ?_) (by simp only [List.getElem?_toArray, List.getElem?_cons_succ, List.getElem?_cons_zero]; exact rfl) (by kernel_rfl) (by kernel_rfl) (by kernel_rfl) (fun _ _ _ h => h) (Or.inl ⟨by rfl, ?_⟩) (by assumption) ?_
                rotate_left
                · intro w hSw
                  try dsimp only at hSw
                  go_simp
                  try with_reducible rfl
                try simp only [Act.put, List.setIfInBounds_toArray, List.set_cons_zero, List.set_cons_succ]
                refine wpAnyH_take (i := 8) (v := ?_) (by simp only [List.getElem?_toArray, List.getElem?_cons_succ, List.getElem?_cons_zero]; exact rfl) (by kernel_rfl) (by kernel_rfl) (by kernel_rfl) (fun _ _ _ h => h) (Or.inl ⟨by rfl, ?_⟩) (by assumption) ?_
                rotate_left
                · intro w hSw
                  try dsimp only at hSw
                  go_simp
                  try with_reducible rfl
                try simp only [Act.put, List.setIfInBounds_toArray, List.set_cons_zero, List.set_cons_succ]
                refine wpAnyH_take (i := 9) (v := ?_) (by simp only [List.getElem?_toArray, List.getElem?_cons_succ, List.getElem?_cons_zero]; exact rfl) (by kernel_rfl) (by kernel_rfl) (by kernel_rfl) (fun _ _ _ h => h) (Or.inl ⟨by rfl, ?_⟩) (by assumption) ?_
                rotate_left
                · intro w hSw
                  try dsimp only at hSw
                  go_simp
                  try with_reducible rfl
                try simp only [Act.put, List.setIfInBounds_toArray, List.set_cons_zero, List.set_cons_succ]
                refine wpAnyH_take (i := 10) (v := ?_) (by simp only [List.getElem?_toArray, List.getElem?_cons_succ, List.getElem?_cons_zero]; exact rfl) (by kernel_rfl) (by kernel_rfl) (by kernel_rfl) (fun _ _ _ h => h) (Or.inl ⟨by rfl, ?_⟩) (by assumption) ?_
                rotate_left
                · intro w hSw
                  try dsimp only at hSw
                  go_simp
                  try with_reducible rfl
                try simp only [Act.put, List.setIfInBounds_toArray, List.set_cons_zero, List.set_cons_succ]
                refine wpAnyH_take (i := 11) (v := ?_) (by simp only [List.getElem?_toArray, List.getElem?_cons_succ, List.getElem?_cons_zero]; exact rfl) (by kernel_rfl) (by kernel_rfl) (by kernel_rfl) (fun _ _ _ h => h) (Or.inl ⟨by rfl, ?_⟩) (by assumption) ?_
                rotate_left
                · intro w hSw
                  try dsimp only at hSw
                  go_simp
                  try with_reducible rfl
                try simp only [Act.put, List.setIfInBounds_toArray, List.set_cons_zero, List.set_cons_succ]
                refine wpAnyH_take (i := 12) (v := ?_) (by simp only [List.getElem?_toArray, List.getElem?_cons_succ, List.getElem?_cons_zero]; exact rfl) (by kernel_rfl) (by kernel_rfl) (by kernel_rfl) (fun _ _ _ h => h) (Or.inl ⟨by rfl, ?_⟩) (by assumption) ?_
                rotate_left
                · intro w hSw
                  try dsimp only at hSw
                  go_simp
                  try with_reducible rfl
                try simp only [Act.put, List.setIfInBounds_toArray, List.set_cons_zero, List.set_cons_succ]
                refine wpAnyH_take (i := 13) (v := ?_) (by simp only [List.getElem?_toArray, List.getElem?_cons_succ, List.getElem?_cons_zero]; exact rfl) (by kernel_rfl) (by kernel_rfl) (by kernel_rfl) (fun _ _ _ h => h) (Or.inl ⟨by rfl, ?_⟩) (by assumption) ?_
                rotate_left
                · intro w hSw
                  try dsimp only at hSw
                  go_simp
                  try with_reducible rfl
                try simp only [Act.put, List.setIfInBounds_toArray, List.set_cons_zero, List.set_cons_succ]
                refine wpAnyH_take (i := 14) (v := ?_) (by simp only [List.getElem?_toArray, List.getElem?_cons_succ, List.getElem?_cons_zero]; exact rfl) (by kernel_rfl) (by kernel_rfl) (by kernel_rfl) (fun _ _ _ h => h) (Or.inl ⟨by rfl, ?_⟩) (by assumption) ?_
                rotate_left
                · intro w hSw
                  try dsimp only at hSw
                  go_simp
                  try with_reducible rfl
                try simp only [Act.put, List.setIfInBounds_toArray, List.set_cons_zero, List.set_cons_succ]
                refine wpAnyH_ready (rs := [7]) (by kernel_rfl) (by simp) ?_
                refine (AllReadyH.cons (by simp only [List.getElem?_toArray, List.getElem?_cons_succ, List.getElem?_cons_zero]; exact rfl) (fun K hK => ?_) AllReadyH.nil)
                go_simp
                go_at_call 74; refine (calc.times_any y.s1 X _ HY.out.2.1.2 IX.out).mono ?_; rintro e w1 ⟨rfl, hb1⟩
                refine hK.out _ _ (keep_step hb1 hHeld KS) (fun hHeld2 => ?_)
                clear hK K hHeld
                have hHeld := hHeld2
                clear hHeld2
                try simp only [Act.put, List.setIfInBounds_toArray, List.set_cons_zero, List.set_cons_succ]
                refine wpAnyH_ready (rs := [15]) (by kernel_rfl) (by simp) ?_
                refine (AllReadyH.cons (by simp only [List.getElem?_toArray, List.getElem?_cons_succ, List.getElem?_cons_zero]; exact rfl) (fun K hK => ?_) AllReadyH.nil)
                go_simp
                go_at_call 74; refine (calc.times_any x.s1 Y _ HX.out.2.1.2 IY.out).mono ?_; rintro e w2 ⟨rfl, hb2⟩
                refine hK.out _ _ (keep_step hb2 hHeld KS) (fun hHeld2 => ?_)
                clear hK K hHeld
                have hHeld := hHeld2
                clear hHeld2
                try simp only [Act.put, List.setIfInBounds_toArray, List.set_cons_zero, List.set_cons_succ]
                refine wpAnyH_ready (rs := [16]) (by kernel_rfl) (by simp) ?_
                refine (AllReadyH.cons (by simp only [List.getElem?_toArray, List.getElem?_cons_succ, List.getElem?_cons_zero]; exact rfl) (fun K hK => ?_) AllReadyH.nil)
                go_simp
                go_at_call 73; refine (calc.order_any (y.s1 * X) (x.s1 * Y) _).mono ?_; rintro e w3 ⟨rfl, hb3⟩
                refine hK.out _ _ (keep_step hb3 hHeld KS) (fun hHeld2 => ?_)
                clear hK K hHeld
                have hHeld := hHeld2
                clear hHeld2
                try simp only [Act.put, List.setIfInBounds_toArray, List.set_cons_zero, List.set_cons_succ]
                refine wpAnyH_take (i := 17) (v := ?_) (by simp only [List.getElem?_toArray, List.getElem?_cons_succ, List.getElem?_cons_zero]; exact rfl) (by kernel_rfl) (by kernel_rfl) (by kernel_rfl) (fun _ _ _ h => h) (Or.inl ⟨by rfl, ?_⟩) (by assumption) ?_
                rotate_left
                · intro w hSw
                  try dsimp only at hSw
                  go_simp
                  try with_reducible rfl
                try simp only [Act.put, List.setIfInBounds_toArray, List.set_cons_zero, List.set_cons_succ]
                refine wpAnyH_done (by kernel_rfl) ?_ _
                refine NoPanic.normal ?_
                go_wp2
                go_ret
                exact ⟨ret_int (by rw [← HC.out, av_51, FX.out, FY.out]), bt K0.out.1.1 (bt (bt (undrew hb1) hb2) hb3)⟩
            · have HV := hid (av_none (i := i) h1 h2 h3 h4 h5 x y)
              have e1 : (f == 1) = false := by simp [h1]
              have e2 : (f == 2) = false := by simp [h2]
              have e3 : (f == 3) = false := by simp [h3]
              have e4 : (f == 4) = false := by simp [h4]
              have e5 : (f == 5) = false := by simp [h5]
              clear h1 h2 h3 h4 h5
              rcases hi2 with rfl | rfl
              · skip
                go_enter Try.func29, Try.ntmps29
                go_upto_region 1 with fail
                generalize (w.alloc (.cells #[.int .u8 u0, .int .u8 u1, .int .u8 u2, .int .u8 u3, .int .i64 x.n, .int .i64 x.s0, .int .i64 x.s1, .int .i64 x.a0, .int .i64 x.a1, .int .i64 x.b0, .int .i64 x.b1] 44)).alloc (.cells #[.int .u8 v0, .int .u8 v1, .int .u8 v2, .int .u8 v3, .int .i64 y.n, .int .i64 y.s0, .int .i64 y.s1, .int .i64 y.a0, .int .i64 y.a1, .int .i64 y.b0, .int .i64 y.b1] 44) = W at K0 ⊢
                go_wp2
                go_ret
                exact ⟨ret_int (by rw [← HC.out, HV.out]), K0.out.1.1⟩
              · skip
                go_enter Try.func29, Try.ntmps29
                go_upto_region 1 with fail
                generalize (w.alloc (.cells #[.int .u8 u0, .int .u8 u1, .int .u8 u2, .int .u8 u3, .int .i64 x.n, .int .i64 x.s0, .int .i64 x.s1, .int .i64 x.a0, .int .i64 x.a1, .int .i64 x.b0, .int .i64 x.b1] 44)).alloc (.cells #[.int .u8 v0, .int .u8 v1, .int .u8 v2, .int .u8 v3, .int .i64 y.n, .int .i64 y.s0, .int .i64 y.s1, .int .i64 y.a0, .int .i64 y.a1, .int .i64 y.b0, .int .i64 y.b1] 44) = W at K0 ⊢
                go_wp2
                go_ret
                exact ⟨ret_int (by rw [← HC.out, HV.out]), K0.out.1.1⟩

end Go.Proofs.Ytgmnnpecihcdhaa

/-
  What the document's Less returns.
  Conditions: as each theorem states them.
-/
import Derived.Test.YtikgbcdmeikjfaaRC
import Derived.BigQuiet
namespace Go.Proofs.Ytikgbcdmeikjfaa
open Go.ChangeShapes Go.WideShapes Go.ChangeAt Go.RowKit
set_option linter.unusedVariables false
set_option linter.unusedSimpArgs false
set_option maxRecDepth 100000

theorem two_boxes (x0 x1 x2 x3 m0 m1 y0 y1 y2 y3 n0 n1 : Int) (w x : World) (hb : Below ((w.alloc (.cells #[.int .u8 x0, .int .u8 x1, .int .u8 x2, .int .u8 x3, .int .i64 m0, .int .i64 m1] 33)).alloc (.cells #[.int .u8 y0, .int .u8 y1, .int .u8 y2, .int .u8 y3, .int .i64 n0, .int .i64 n1] 33)).heap.size ((w.alloc (.cells #[.int .u8 x0, .int .u8 x1, .int .u8 x2, .int .u8 x3, .int .i64 m0, .int .i64 m1] 33)).alloc (.cells #[.int .u8 y0, .int .u8 y1, .int .u8 y2, .int .u8 y3, .int .i64 n0, .int .i64 n1] 33)) x) :
    ((x.cell? ⟨w.heap.size, 0, none⟩ = some (.int .u8 x0) ∧ x.cell? ⟨w.heap.size, 1, none⟩ = some (.int .u8 x1) ∧ x.cell? ⟨w.heap.size, 2, none⟩ = some (.int .u8 x2) ∧ x.cell? ⟨w.heap.size, 3, none⟩ = some (.int .u8 x3)) ∧ x.cell? ⟨w.heap.size, 4, none⟩ = some (.int .i64 m0) ∧ x.cell? ⟨w.heap.size, 5, none⟩ = some (.int .i64 m1)) ∧ (x.cell? ⟨w.heap.size + 1, 0, none⟩ = some (.int .u8 y0) ∧ x.cell? ⟨w.heap.size + 1, 1, none⟩ = some (.int .u8 y1) ∧ x.cell? ⟨w.heap.size + 1, 2, none⟩ = some (.int .u8 y2) ∧ x.cell? ⟨w.heap.size + 1, 3, none⟩ = some (.int .u8 y3)) ∧ x.cell? ⟨w.heap.size + 1, 4, none⟩ = some (.int .i64 n0) ∧ x.cell? ⟨w.heap.size + 1, 5, none⟩ = some (.int .i64 n1) := by
  have g1 : x.heap[w.heap.size]? = some (.cells #[.int .u8 x0, .int .u8 x1, .int .u8 x2, .int .u8 x3, .int .i64 m0, .int .i64 m1] 33) := by
    rw [hb.block _ (by simp; omega), Below.heap_alloc _ _ _ (by simp)]; exact heap_alloc_new _ _
  have g2 : x.heap[w.heap.size + 1]? = some (.cells #[.int .u8 y0, .int .u8 y1, .int .u8 y2, .int .u8 y3, .int .i64 n0, .int .i64 n1] 33) := by
    rw [hb.block _ (by simp)]
    have := heap_alloc_new (w.alloc (.cells #[.int .u8 x0, .int .u8 x1, .int .u8 x2, .int .u8 x3, .int .i64 m0, .int .i64 m1] 33)) (.cells #[.int .u8 y0, .int .u8 y1, .int .u8 y2, .int .u8 y3, .int .i64 n0, .int .i64 n1] 33)
    simpa using this
  obtain ⟨p0, p1, p2, p3, p4, p5⟩ := box6 g1
  obtain ⟨q0, q1, q2, q3, q4, q5⟩ := box6 g2
  exact ⟨⟨⟨p0, p1, p2, p3⟩, p4, p5⟩, ⟨q0, q1, q2, q3⟩, q4, q5⟩
theorem rkey_m (a b c d K : Int) (w : World) (ha : U8 a) (hb : U8 b) (hc : U8 c) (hd : U8 d) (hK : Hid (code.key a b c d = K)) :
    Calls Try.prog 32 #[.agg #[.int .u8 a, .int .u8 b, .int .u8 c, .int .u8 d]] w fun e w' => e = .returned (.int .u32 K) ∧ Below w.heap.size w w' := by
  have h := code.rkey_any a b c d w ha hb hc hd
  rw [hK.out] at h
  exact h

set_option maxHeartbeats 8000000 in
theorem rless_m (x0 x1 x2 x3 m0 m1 y0 y1 y2 y3 n0 n1 : Int) (L : Bool) (w : World) (hx : rok (x0, x1, x2, x3, m0, m1)) (hy : rok (y0, y1, y2, y3, n0, n1)) (hL : Hid (rlt (x0, x1, x2, x3, m0, m1) (y0, y1, y2, y3, n0, n1) = L)) :
    Calls Try.prog 14 #[.agg #[.int .u8 x0, .int .u8 x1, .int .u8 x2, .int .u8 x3, .int .i64 m0, .int .i64 m1], .agg #[.int .u8 y0, .int .u8 y1, .int .u8 y2, .int .u8 y3, .int .i64 n0, .int .i64 n1]] w fun e w' => e = .returned (.bool L) ∧ Below w.heap.size w w' := by
  have HX := hid hx
  have HY := hid hy
  have g2 : Hid (Below w.heap.size w ((w.alloc (.cells #[.int .u8 x0, .int .u8 x1, .int .u8 x2, .int .u8 x3, .int .i64 m0, .int .i64 m1] 33)).alloc (.cells #[.int .u8 y0, .int .u8 y1, .int .u8 y2, .int .u8 y3, .int .i64 n0, .int .i64 n1] 33))) := hid (((Gr.refl _).alloc _).alloc _).below
  have KC : Hid (∀ x, Below ((w.alloc (.cells #[.int .u8 x0, .int .u8 x1, .int .u8 x2, .int .u8 x3, .int .i64 m0, .int .i64 m1] 33)).alloc (.cells #[.int .u8 y0, .int .u8 y1, .int .u8 y2, .int .u8 y3, .int .i64 n0, .int .i64 n1] 33)).heap.size ((w.alloc (.cells #[.int .u8 x0, .int .u8 x1, .int .u8 x2, .int .u8 x3, .int .i64 m0, .int .i64 m1] 33)).alloc (.cells #[.int .u8 y0, .int .u8 y1, .int .u8 y2, .int .u8 y3, .int .i64 n0, .int .i64 n1] 33)) x → ((x.cell? ⟨w.heap.size, 0, none⟩ = some (.int .u8 x0) ∧ x.cell? ⟨w.heap.size, 1, none⟩ = some (.int .u8 x1) ∧ x.cell? ⟨w.heap.size, 2, none⟩ = some (.int .u8 x2) ∧ x.cell? ⟨w.heap.size, 3, none⟩ = some (.int .u8 x3)) ∧ x.cell? ⟨w.heap.size, 4, none⟩ = some (.int .i64 m0) ∧ x.cell? ⟨w.heap.size, 5, none⟩ = some (.int .i64 m1)) ∧ (x.cell? ⟨w.heap.size + 1, 0, none⟩ = some (.int .u8 y0) ∧ x.cell? ⟨w.heap.size + 1, 1, none⟩ = some (.int .u8 y1) ∧ x.cell? ⟨w.heap.size + 1, 2, none⟩ = some (.int .u8 y2) ∧ x.cell? ⟨w.heap.size + 1, 3, none⟩ = some (.int .u8 y3)) ∧ x.cell? ⟨w.heap.size + 1, 4, none⟩ = some (.int .i64 n0) ∧ x.cell? ⟨w.heap.size + 1, 5, none⟩ = some (.int .i64 n1)) := hid (fun x h => two_boxes x0 x1 x2 x3 m0 m1 y0 y1 y2 y3 n0 n1 w x h)
  have tk1 : True := trivial
  have eqn := eqP4
  have h := hL.out
  rw [rlt_dec] at h
  by_cases hp : x0 = y0 ∧ x1 = y1 ∧ x2 = y2 ∧ x3 = y3
  · have hq : qp x0 x1 x2 x3 y0 y1 y2 y3 = true := qp_iff.2 hp
    have hk : rky (x0, x1, x2, x3, m0, m1) = rky (y0, y1, y2, y3, n0, n1) := by obtain ⟨rfl, rfl, rfl, rfl⟩ := hp; rfl
    clear hp
    have h' : decide (m0 < n0 ∨ (m0 = n0 ∧ m1 < n1)) = L := by
      rw [← h]
      refine decide_eq_decide.mpr ⟨fun g => .inr ⟨hk, g⟩, fun g => ?_⟩
      rcases g with g | g
      · omega
      · exact g.2
    clear h hk
    by_cases e0 : m0 = n0
    · by_cases e1 : m1 = n1
      · have q0 : (m0 == n0) = true := by simpa using e0
        have q1 : (m1 == n1) = true := by simpa using e1
        have hl : L = false := by rw [← h']; exact decide_eq_false (by omega)
        subst hl
        clear h' e0 e1
        go_enter Try.func14, Try.ntmps14
        go_upto_region 3 with fail
        generalize ((w.alloc (.cells #[.int .u8 x0, .int .u8 x1, .int .u8 x2, .int .u8 x3, .int .i64 m0, .int .i64 m1] 33)).alloc (.cells #[.int .u8 y0, .int .u8 y1, .int .u8 y2, .int .u8 y3, .int .i64 n0, .int .i64 n1] 33)) = W at g2 KC ⊢
        generalize w.heap.size + 1 = B2 at KC ⊢
        obtain ⟨⟨_, c4, c5⟩, _, d4, d5⟩ := KC.out _ (Below.refl _ _)
        go_wp2
        refine wp_loop_rounds 3 ?_
        rw [rounds_succ]; go_wp2
        go_quiet (fail)
        go_wp2
        rw [rounds_succ]; go_wp2
        go_quiet (fail)
        go_wp2
        rw [rounds_succ]; go_wp2
        go_ret
        exact ⟨rfl, g2.out.os, g2.out.tape, g2.out.output, g2.out.size, g2.out.block⟩
      · have q0 : (m0 == n0) = true := by simpa using e0
        have q1 : (m1 == n1) = false := by simpa using e1
        have hl : decide (m1 < n1) = L := by rw [← h']; exact decide_eq_decide.mpr (by omega)
        clear h' e0 e1
        go_enter Try.func14, Try.ntmps14
        go_upto_region 3 with fail
        generalize ((w.alloc (.cells #[.int .u8 x0, .int .u8 x1, .int .u8 x2, .int .u8 x3, .int .i64 m0, .int .i64 m1] 33)).alloc (.cells #[.int .u8 y0, .int .u8 y1, .int .u8 y2, .int .u8 y3, .int .i64 n0, .int .i64 n1] 33)) = W at g2 KC ⊢
        generalize w.heap.size + 1 = B2 at KC ⊢
        obtain ⟨⟨_, c4, c5⟩, _, d4, d5⟩ := KC.out _ (Below.refl _ _)
        go_wp2
        refine wp_loop_rounds 2 ?_
        rw [rounds_succ]; go_wp2
        go_quiet (fail)
        go_wp2
        rw [rounds_succ]; go_wp2
        go_quiet (fail)
        go_wp2
        go_quiet (fail)
        go_wp2
        go_ret
        exact ⟨rfl, g2.out.os, g2.out.tape, g2.out.output, g2.out.size, g2.out.block⟩
    · have q0 : (m0 == n0) = false := by simpa using e0
      have hl : decide (m0 < n0) = L := by rw [← h']; exact decide_eq_decide.mpr (by omega)
      clear h' e0
      go_enter Try.func14, Try.ntmps14
      go_upto_region 3 with fail
      generalize ((w.alloc (.cells #[.int .u8 x0, .int .u8 x1, .int .u8 x2, .int .u8 x3, .int .i64 m0, .int .i64 m1] 33)).alloc (.cells #[.int .u8 y0, .int .u8 y1, .int .u8 y2, .int .u8 y3, .int .i64 n0, .int .i64 n1] 33)) = W at g2 KC ⊢
      generalize w.heap.size + 1 = B2 at KC ⊢
      obtain ⟨⟨_, c4, c5⟩, _, d4, d5⟩ := KC.out _ (Below.refl _ _)
      go_wp2
      refine wp_loop_rounds 1 ?_
      rw [rounds_succ]; go_wp2
      go_quiet (fail)
      go_wp2
      go_quiet (fail)
      go_wp2
      go_ret
      exact ⟨rfl, g2.out.os, g2.out.tape, g2.out.output, g2.out.size, g2.out.block⟩
  · have hq : qp x0 x1 x2 x3 y0 y1 y2 y3 = false := by
      cases e : qp x0 x1 x2 x3 y0 y1 y2 y3 with
      | false => rfl
      | true => exact absurd (qp_iff.1 e) hp
    obtain ⟨KA, eA⟩ : ∃ y, code.key x0 x1 x2 x3 = y := ⟨_, rfl⟩
    obtain ⟨KB, eB⟩ : ∃ y, code.key y0 y1 y2 y3 = y := ⟨_, rfl⟩
    have hk : ¬ KA = KB := fun hk => hp (key_inj hx.1.1 hx.1.2.1 hx.1.2.2.1 hx.1.2.2.2 hy.1.1 hy.1.2.1 hy.1.2.2.1 hy.1.2.2.2 (by rw [eA, eB]; exact hk))
    have h' : decide (KA < KB) = L := by
      rw [← h]
      refine decide_eq_decide.mpr ⟨fun g => .inl (by simp only [rky]; rw [eA, eB]; exact g), fun g => ?_⟩
      simp only [rky] at g
      rw [eA, eB] at g
      omega
    have EA := hid eA
    have EB := hid eB
    clear h hk eA eB hp
    go_enter Try.func14, Try.ntmps14
    go_upto_region 2 with fail
    generalize ((w.alloc (.cells #[.int .u8 x0, .int .u8 x1, .int .u8 x2, .int .u8 x3, .int .i64 m0, .int .i64 m1] 33)).alloc (.cells #[.int .u8 y0, .int .u8 y1, .int .u8 y2, .int .u8 y3, .int .i64 n0, .int .i64 n1] 33)) = W at g2 KC ⊢
    generalize w.heap.size + 1 = B2 at KC ⊢
    have KS : Hid (∀ x, Below W.heap.size W x → Below W.heap.size W x ∧ (x.cell? ⟨w.heap.size, 0, none⟩ = some (.int .u8 x0) ∧ x.cell? ⟨w.heap.size, 1, none⟩ = some (.int .u8 x1) ∧ x.cell? ⟨w.heap.size, 2, none⟩ = some (.int .u8 x2) ∧ x.cell? ⟨w.heap.size, 3, none⟩ = some (.int .u8 x3)) ∧ x.cell? ⟨B2, 0, none⟩ = some (.int .u8 y0) ∧ x.cell? ⟨B2, 1, none⟩ = some (.int .u8 y1) ∧ x.cell? ⟨B2, 2, none⟩ = some (.int .u8 y2) ∧ x.cell? ⟨B2, 3, none⟩ = some (.int .u8 y3)) := hid (by
      intro x h
      obtain ⟨⟨p, _⟩, q, _⟩ := KC.out x h
      exact ⟨h, p, q⟩)
    go_region_held3 (fun x => Below W.heap.size W x ∧ (x.cell? ⟨w.heap.size, 0, none⟩ = some (.int .u8 x0) ∧ x.cell? ⟨w.heap.size, 1, none⟩ = some (.int .u8 x1) ∧ x.cell? ⟨w.heap.size, 2, none⟩ = some (.int .u8 x2) ∧ x.cell? ⟨w.heap.size, 3, none⟩ = some (.int .u8 x3)) ∧ x.cell? ⟨B2, 0, none⟩ = some (.int .u8 y0) ∧ x.cell? ⟨B2, 1, none⟩ = some (.int .u8 y1) ∧ x.cell? ⟨B2, 2, none⟩ = some (.int .u8 y2) ∧ x.cell? ⟨B2, 3, none⟩ = some (.int .u8 y3))
      (first | assumption | exact keep_drew KS | exact keep_step (by assumption) (by assumption) KS)
      (first
        | (go_at_call 32; clear tk1; refine (rkey_m x0 x1 x2 x3 KA _ HX.out.1.1 HX.out.1.2.1 HX.out.1.2.2.1 HX.out.1.2.2.2 EA).mono ?_; rintro e w5 ⟨rfl, hb5⟩)
        | (go_at_call 32; refine (rkey_m y0 y1 y2 y3 KB _ HY.out.1.1 HY.out.1.2.1 HY.out.1.2.2.1 HY.out.1.2.2.2 EB).mono ?_; rintro e w6 ⟨rfl, hb6⟩))
    go_wp2
    go_ret
    exact ⟨rfl, bt (bt g2.out (undrew hb5)) hb6⟩

end Go.Proofs.Ytikgbcdmeikjfaa

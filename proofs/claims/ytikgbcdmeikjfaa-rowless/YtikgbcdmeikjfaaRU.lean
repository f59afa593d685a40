/-
  The walk of the law RowLess.
  Conditions: as each theorem states them.
-/
import Derived.Test.YtikgbcdmeikjfaaRM
namespace Go.Proofs.Ytikgbcdmeikjfaa
open Go.ChangeShapes Go.WideShapes Go.ChangeAt Go.RowKit
set_option linter.unusedVariables false
set_option linter.unusedSimpArgs false
set_option maxRecDepth 100000

theorem rlt_self (r : Rw) : rlt r r = false := by rw [rlt_dec, decide_eq_false_iff_not]; omega
theorem rlt_anti {r s : Rw} (h : rlt r s = true) : rlt s r = false := by
  rw [rlt_dec, decide_eq_true_iff] at h
  rw [rlt_dec, decide_eq_false_iff_not]
  omega
theorem rlt_trans {r s t : Rw} (h : rlt r s = true) (h' : rlt s t = true) : rlt r t = true := by
  rw [rlt_dec, decide_eq_true_iff] at h h' ⊢
  omega
theorem three_boxes (x0 x1 x2 x3 m0 m1 y0 y1 y2 y3 n0 n1 z0 z1 z2 z3 o0 o1 : Int) (w x : World) (hb : Below (((w.alloc (.cells #[.int .u8 x0, .int .u8 x1, .int .u8 x2, .int .u8 x3, .int .i64 m0, .int .i64 m1] 33)).alloc (.cells #[.int .u8 y0, .int .u8 y1, .int .u8 y2, .int .u8 y3, .int .i64 n0, .int .i64 n1] 33)).alloc (.cells #[.int .u8 z0, .int .u8 z1, .int .u8 z2, .int .u8 z3, .int .i64 o0, .int .i64 o1] 33)).heap.size (((w.alloc (.cells #[.int .u8 x0, .int .u8 x1, .int .u8 x2, .int .u8 x3, .int .i64 m0, .int .i64 m1] 33)).alloc (.cells #[.int .u8 y0, .int .u8 y1, .int .u8 y2, .int .u8 y3, .int .i64 n0, .int .i64 n1] 33)).alloc (.cells #[.int .u8 z0, .int .u8 z1, .int .u8 z2, .int .u8 z3, .int .i64 o0, .int .i64 o1] 33)) x) :
    (x.cell? ⟨w.heap.size, 0, none⟩ = some (.int .u8 x0) ∧ x.cell? ⟨w.heap.size, 1, none⟩ = some (.int .u8 x1) ∧ x.cell? ⟨w.heap.size, 2, none⟩ = some (.int .u8 x2) ∧ x.cell? ⟨w.heap.size, 3, none⟩ = some (.int .u8 x3) ∧ x.cell? ⟨w.heap.size, 4, none⟩ = some (.int .i64 m0) ∧ x.cell? ⟨w.heap.size, 5, none⟩ = some (.int .i64 m1)) ∧ (x.cell? ⟨w.heap.size + 1, 0, none⟩ = some (.int .u8 y0) ∧ x.cell? ⟨w.heap.size + 1, 1, none⟩ = some (.int .u8 y1) ∧ x.cell? ⟨w.heap.size + 1, 2, none⟩ = some (.int .u8 y2) ∧ x.cell? ⟨w.heap.size + 1, 3, none⟩ = some (.int .u8 y3) ∧ x.cell? ⟨w.heap.size + 1, 4, none⟩ = some (.int .i64 n0) ∧ x.cell? ⟨w.heap.size + 1, 5, none⟩ = some (.int .i64 n1)) ∧ x.cell? ⟨w.heap.size + 1 + 1, 0, none⟩ = some (.int .u8 z0) ∧ x.cell? ⟨w.heap.size + 1 + 1, 1, none⟩ = some (.int .u8 z1) ∧ x.cell? ⟨w.heap.size + 1 + 1, 2, none⟩ = some (.int .u8 z2) ∧ x.cell? ⟨w.heap.size + 1 + 1, 3, none⟩ = some (.int .u8 z3) ∧ x.cell? ⟨w.heap.size + 1 + 1, 4, none⟩ = some (.int .i64 o0) ∧ x.cell? ⟨w.heap.size + 1 + 1, 5, none⟩ = some (.int .i64 o1) := by
  have g1 : x.heap[w.heap.size]? = some (.cells #[.int .u8 x0, .int .u8 x1, .int .u8 x2, .int .u8 x3, .int .i64 m0, .int .i64 m1] 33) := by
    rw [hb.block _ (by simp only [World.size_alloc]; omega), Below.heap_alloc _ _ _ (by simp only [World.size_alloc]; omega), Below.heap_alloc _ _ _ (by simp only [World.size_alloc]; omega)]; exact heap_alloc_new _ _
  have g2 : x.heap[w.heap.size + 1]? = some (.cells #[.int .u8 y0, .int .u8 y1, .int .u8 y2, .int .u8 y3, .int .i64 n0, .int .i64 n1] 33) := by
    rw [hb.block _ (by simp only [World.size_alloc]; omega), Below.heap_alloc _ _ _ (by simp only [World.size_alloc]; omega)]
    have := heap_alloc_new (w.alloc (.cells #[.int .u8 x0, .int .u8 x1, .int .u8 x2, .int .u8 x3, .int .i64 m0, .int .i64 m1] 33)) (.cells #[.int .u8 y0, .int .u8 y1, .int .u8 y2, .int .u8 y3, .int .i64 n0, .int .i64 n1] 33)
    simpa using this
  have g3 : x.heap[w.heap.size + 1 + 1]? = some (.cells #[.int .u8 z0, .int .u8 z1, .int .u8 z2, .int .u8 z3, .int .i64 o0, .int .i64 o1] 33) := by
    rw [hb.block _ (by simp only [World.size_alloc]; omega)]
    have := heap_alloc_new ((w.alloc (.cells #[.int .u8 x0, .int .u8 x1, .int .u8 x2, .int .u8 x3, .int .i64 m0, .int .i64 m1] 33)).alloc (.cells #[.int .u8 y0, .int .u8 y1, .int .u8 y2, .int .u8 y3, .int .i64 n0, .int .i64 n1] 33)) (.cells #[.int .u8 z0, .int .u8 z1, .int .u8 z2, .int .u8 z3, .int .i64 o0, .int .i64 o1] 33)
    simpa using this
  exact ⟨box6 g1, box6 g2, box6 g3⟩

set_option maxHeartbeats 16000000 in
theorem less_walk (x0 x1 x2 x3 m0 m1 y0 y1 y2 y3 n0 n1 z0 z1 z2 z3 o0 o1 : Int) (w : World) (hx : rok (x0, x1, x2, x3, m0, m1)) (hy : rok (y0, y1, y2, y3, n0, n1)) (hz : rok (z0, z1, z2, z3, o0, o1)) :
    Calls Try.prog 5 #[.agg #[.int .u8 x0, .int .u8 x1, .int .u8 x2, .int .u8 x3, .int .i64 m0, .int .i64 m1], .agg #[.int .u8 y0, .int .u8 y1, .int .u8 y2, .int .u8 y3, .int .i64 n0, .int .i64 n1], .agg #[.int .u8 z0, .int .u8 z1, .int .u8 z2, .int .u8 z3, .int .i64 o0, .int .i64 o1]] w fun e w' => e = .returned (.bool true) ∧ Below w.heap.size w w' := by
  have HX := hid hx
  have HY := hid hy
  have HZ := hid hz
  have B0 : Hid (Below w.heap.size w (((w.alloc (.cells #[.int .u8 x0, .int .u8 x1, .int .u8 x2, .int .u8 x3, .int .i64 m0, .int .i64 m1] 33)).alloc (.cells #[.int .u8 y0, .int .u8 y1, .int .u8 y2, .int .u8 y3, .int .i64 n0, .int .i64 n1] 33)).alloc (.cells #[.int .u8 z0, .int .u8 z1, .int .u8 z2, .int .u8 z3, .int .i64 o0, .int .i64 o1] 33))) := hid ((((Below.refl _ _).alloc (Nat.le_refl _) _).alloc (by simp) _).alloc (by simp; omega) _)
  have KC : Hid (∀ x, Below (((w.alloc (.cells #[.int .u8 x0, .int .u8 x1, .int .u8 x2, .int .u8 x3, .int .i64 m0, .int .i64 m1] 33)).alloc (.cells #[.int .u8 y0, .int .u8 y1, .int .u8 y2, .int .u8 y3, .int .i64 n0, .int .i64 n1] 33)).alloc (.cells #[.int .u8 z0, .int .u8 z1, .int .u8 z2, .int .u8 z3, .int .i64 o0, .int .i64 o1] 33)).heap.size (((w.alloc (.cells #[.int .u8 x0, .int .u8 x1, .int .u8 x2, .int .u8 x3, .int .i64 m0, .int .i64 m1] 33)).alloc (.cells #[.int .u8 y0, .int .u8 y1, .int .u8 y2, .int .u8 y3, .int .i64 n0, .int .i64 n1] 33)).alloc (.cells #[.int .u8 z0, .int .u8 z1, .int .u8 z2, .int .u8 z3, .int .i64 o0, .int .i64 o1] 33)) x → (x.cell? ⟨w.heap.size, 0, none⟩ = some (.int .u8 x0) ∧ x.cell? ⟨w.heap.size, 1, none⟩ = some (.int .u8 x1) ∧ x.cell? ⟨w.heap.size, 2, none⟩ = some (.int .u8 x2) ∧ x.cell? ⟨w.heap.size, 3, none⟩ = some (.int .u8 x3) ∧ x.cell? ⟨w.heap.size, 4, none⟩ = some (.int .i64 m0) ∧ x.cell? ⟨w.heap.size, 5, none⟩ = some (.int .i64 m1)) ∧ (x.cell? ⟨w.heap.size + 1, 0, none⟩ = some (.int .u8 y0) ∧ x.cell? ⟨w.heap.size + 1, 1, none⟩ = some (.int .u8 y1) ∧ x.cell? ⟨w.heap.size + 1, 2, none⟩ = some (.int .u8 y2) ∧ x.cell? ⟨w.heap.size + 1, 3, none⟩ = some (.int .u8 y3) ∧ x.cell? ⟨w.heap.size + 1, 4, none⟩ = some (.int .i64 n0) ∧ x.cell? ⟨w.heap.size + 1, 5, none⟩ = some (.int .i64 n1)) ∧ x.cell? ⟨w.heap.size + 1 + 1, 0, none⟩ = some (.int .u8 z0) ∧ x.cell? ⟨w.heap.size + 1 + 1, 1, none⟩ = some (.int .u8 z1) ∧ x.cell? ⟨w.heap.size + 1 + 1, 2, none⟩ = some (.int .u8 z2) ∧ x.cell? ⟨w.heap.size + 1 + 1, 3, none⟩ = some (.int .u8 z3) ∧ x.cell? ⟨w.heap.size + 1 + 1, 4, none⟩ = some (.int .i64 o0) ∧ x.cell? ⟨w.heap.size + 1 + 1, 5, none⟩ = some (.int .i64 o1)) := hid (fun x h => three_boxes x0 x1 x2 x3 m0 m1 y0 y1 y2 y3 n0 n1 z0 z1 z2 z3 o0 o1 w x h)
  obtain ⟨P, eP⟩ : ∃ b, rlt (x0, x1, x2, x3, m0, m1) (y0, y1, y2, y3, n0, n1) = b := ⟨_, rfl⟩
  obtain ⟨Q, eQ⟩ : ∃ b, rlt (y0, y1, y2, y3, n0, n1) (x0, x1, x2, x3, m0, m1) = b := ⟨_, rfl⟩
  obtain ⟨R, eR⟩ : ∃ b, rlt (y0, y1, y2, y3, n0, n1) (z0, z1, z2, z3, o0, o1) = b := ⟨_, rfl⟩
  obtain ⟨S, eS⟩ : ∃ b, rlt (x0, x1, x2, x3, m0, m1) (z0, z1, z2, z3, o0, o1) = b := ⟨_, rfl⟩
  obtain ⟨D, eD⟩ : ∃ b, qr (x0, x1, x2, x3, m0, m1) (y0, y1, y2, y3, n0, n1) = b := ⟨_, rfl⟩
  have EP := hid eP
  have EQ := hid eQ
  have ER := hid eR
  have ES := hid eS
  have EF := hid (rlt_self (x0, x1, x2, x3, m0, m1))
  have F : Hid (D = !(P != Q)) := hid (by
    cases P with
    | true => have := rlt_anti eP; rw [this] at eQ; subst eQ; cases D with
      | false => rfl
      | true => have := qr_iff.1 eD; rw [this] at eP; rw [rlt_self] at eP; cases eP
    | false => cases Q with
      | true => cases D with
        | false => rfl
        | true => have := qr_iff.1 eD; rw [this] at eQ; rw [rlt_self] at eQ; cases eQ
      | false => have := rlt_tri hx hy eP eQ; rw [this, qr_self] at eD; subst eD; rfl)
  have A : Hid (¬ (P = true ∧ Q = true)) := hid (fun h => by rw [h.1] at eP; rw [h.2] at eQ; have := rlt_anti eP; rw [this] at eQ; cases eQ)
  have T : Hid (P = true → R = true → S = true) := hid (fun h1 h2 => by rw [h1] at eP; rw [h2] at eR; rw [← eS]; exact rlt_trans eP eR)
  have eqn := eqR6
  have f := F.out
  have EDD : qr (x0, x1, x2, x3, m0, m1) (y0, y1, y2, y3, n0, n1) = D := eD
  clear hx hy hz eP eQ eR eS F eD
  have tk1 : True := trivial
  go_enter Try.func5, Try.ntmps5
  go_upto_region 1 with fail
  generalize (((w.alloc (.cells #[.int .u8 x0, .int .u8 x1, .int .u8 x2, .int .u8 x3, .int .i64 m0, .int .i64 m1] 33)).alloc (.cells #[.int .u8 y0, .int .u8 y1, .int .u8 y2, .int .u8 y3, .int .i64 n0, .int .i64 n1] 33)).alloc (.cells #[.int .u8 z0, .int .u8 z1, .int .u8 z2, .int .u8 z3, .int .i64 o0, .int .i64 o1] 33)) = W at B0 KC ⊢
  have KS : Hid (∀ x, Below W.heap.size W x → Below W.heap.size W x ∧ (x.cell? ⟨w.heap.size, 0, none⟩ = some (.int .u8 x0) ∧ x.cell? ⟨w.heap.size, 1, none⟩ = some (.int .u8 x1) ∧ x.cell? ⟨w.heap.size, 2, none⟩ = some (.int .u8 x2) ∧ x.cell? ⟨w.heap.size, 3, none⟩ = some (.int .u8 x3) ∧ x.cell? ⟨w.heap.size, 4, none⟩ = some (.int .i64 m0) ∧ x.cell? ⟨w.heap.size, 5, none⟩ = some (.int .i64 m1)) ∧ x.cell? ⟨w.heap.size + 1, 0, none⟩ = some (.int .u8 y0) ∧ x.cell? ⟨w.heap.size + 1, 1, none⟩ = some (.int .u8 y1) ∧ x.cell? ⟨w.heap.size + 1, 2, none⟩ = some (.int .u8 y2) ∧ x.cell? ⟨w.heap.size + 1, 3, none⟩ = some (.int .u8 y3) ∧ x.cell? ⟨w.heap.size + 1, 4, none⟩ = some (.int .i64 n0) ∧ x.cell? ⟨w.heap.size + 1, 5, none⟩ = some (.int .i64 n1)) := hid (fun x h => ⟨h, (KC.out x h).1, (KC.out x h).2.1⟩)
  go_region_held3 (fun x => Below W.heap.size W x ∧ (x.cell? ⟨w.heap.size, 0, none⟩ = some (.int .u8 x0) ∧ x.cell? ⟨w.heap.size, 1, none⟩ = some (.int .u8 x1) ∧ x.cell? ⟨w.heap.size, 2, none⟩ = some (.int .u8 x2) ∧ x.cell? ⟨w.heap.size, 3, none⟩ = some (.int .u8 x3) ∧ x.cell? ⟨w.heap.size, 4, none⟩ = some (.int .i64 m0) ∧ x.cell? ⟨w.heap.size, 5, none⟩ = some (.int .i64 m1)) ∧ x.cell? ⟨w.heap.size + 1, 0, none⟩ = some (.int .u8 y0) ∧ x.cell? ⟨w.heap.size + 1, 1, none⟩ = some (.int .u8 y1) ∧ x.cell? ⟨w.heap.size + 1, 2, none⟩ = some (.int .u8 y2) ∧ x.cell? ⟨w.heap.size + 1, 3, none⟩ = some (.int .u8 y3) ∧ x.cell? ⟨w.heap.size + 1, 4, none⟩ = some (.int .i64 n0) ∧ x.cell? ⟨w.heap.size + 1, 5, none⟩ = some (.int .i64 n1))
    (first | assumption | exact keep_drew KS | exact keep_step (by assumption) (by assumption) KS)
    (first
      | (go_at_call 13; clear tk1; refine (less_m x0 x1 x2 x3 m0 m1 y0 y1 y2 y3 n0 n1 P _ HX.out HY.out EP).mono ?_; rintro e w5 ⟨rfl, hb5⟩)
      | (go_at_call 13; refine (less_m y0 y1 y2 y3 n0 n1 x0 x1 x2 x3 m0 m1 Q _ HY.out HX.out EQ).mono ?_; rintro e w6 ⟨rfl, hb6⟩))
  have B6 : Hid (Below W.heap.size W w6) := hid (bt (undrew hb5) hb6)
  obtain ⟨⟨c0, c1, c2, c3, c4, c5⟩, ⟨d0, d1, d2, d3, d4, d5⟩, e0, e1, e2, e3, e4, e5⟩ := KC.out _ B6.out
  clear hb5 hb6
  have t2 : True := trivial
  have t3 : True := trivial
  have t4 : True := trivial
  cases P with
  | true =>
    obtain rfl : Q = false := by cases Q with
      | false => rfl
      | true => exact absurd ⟨rfl, rfl⟩ A.out
    simp at f
    subst f
    cases R with
    | true =>
      obtain rfl : S = true := T.out rfl rfl
      clear T A
      go_wp2_with (first
        | (go_at_call 13; clear t2; refine (less_m y0 y1 y2 y3 n0 n1 z0 z1 z2 z3 o0 o1 true _ HY.out HZ.out ER).mono ?_; rintro e w7 ⟨rfl, hb7⟩; have B7 := hid (bt B6.out hb7); obtain ⟨⟨i0, i1, i2, i3, i4, i5⟩, ⟨j0, j1, j2, j3, j4, j5⟩, k0, k1, k2, k3, k4, k5⟩ := KC.out _ B7.out; clear hb7)
        | (go_at_call 13; clear t3; refine (less_m x0 x1 x2 x3 m0 m1 z0 z1 z2 z3 o0 o1 true _ HX.out HZ.out ES).mono ?_; rintro e w8 ⟨rfl, hb8⟩; have B8 := hid (bt B7.out hb8); obtain ⟨⟨l0, l1, l2, l3, l4, l5⟩, _, _⟩ := KC.out _ B8.out; clear hb8)
        | (go_at_call 13; refine (less_m x0 x1 x2 x3 m0 m1 x0 x1 x2 x3 m0 m1 false _ HX.out HX.out EF).mono ?_; rintro e w9 ⟨rfl, hb9⟩; have B9 := hid (bt B8.out hb9); clear hb9)
        | (go_at_call 10; refine (wakes_any _).mono ?_; rintro e wa ⟨rfl, hba⟩; have Ba := hid (bt B9.out hba); clear hba))
      go_ret
      exact ⟨rfl, bt B0.out Ba.out⟩
    | false =>
      clear T A
      go_wp2_with (first
        | (go_at_call 13; clear t2; refine (less_m y0 y1 y2 y3 n0 n1 z0 z1 z2 z3 o0 o1 false _ HY.out HZ.out ER).mono ?_; rintro e w7 ⟨rfl, hb7⟩; have B7 := hid (bt B6.out hb7); obtain ⟨⟨i0, i1, i2, i3, i4, i5⟩, ⟨j0, j1, j2, j3, j4, j5⟩, k0, k1, k2, k3, k4, k5⟩ := KC.out _ B7.out; clear hb7)
        | (go_at_call 13; refine (less_m x0 x1 x2 x3 m0 m1 x0 x1 x2 x3 m0 m1 false _ HX.out HX.out EF).mono ?_; rintro e w9 ⟨rfl, hb9⟩; have B9 := hid (bt B7.out hb9); clear hb9)
        | (go_at_call 10; refine (wakes_any _).mono ?_; rintro e wa ⟨rfl, hba⟩; have Ba := hid (bt B9.out hba); clear hba))
      go_ret
      exact ⟨rfl, bt B0.out Ba.out⟩
  | false =>
    clear T A
    cases Q with
    | true =>
      simp at f
      subst f
      go_wp2_with (first
        | (go_at_call 13; refine (less_m x0 x1 x2 x3 m0 m1 x0 x1 x2 x3 m0 m1 false _ HX.out HX.out EF).mono ?_; rintro e w9 ⟨rfl, hb9⟩; have B9 := hid (bt B6.out hb9); clear hb9)
        | (go_at_call 10; refine (wakes_any _).mono ?_; rintro e wa ⟨rfl, hba⟩; have Ba := hid (bt B9.out hba); clear hba))
      go_ret
      exact ⟨rfl, bt B0.out Ba.out⟩
    | false =>
      simp at f
      subst f
      go_wp2_with (first
        | (go_at_call 13; refine (less_m x0 x1 x2 x3 m0 m1 x0 x1 x2 x3 m0 m1 false _ HX.out HX.out EF).mono ?_; rintro e w9 ⟨rfl, hb9⟩; have B9 := hid (bt B6.out hb9); clear hb9)
        | (go_at_call 10; refine (wakes_any _).mono ?_; rintro e wa ⟨rfl, hba⟩; have Ba := hid (bt B9.out hba); clear hba))
      go_ret
      exact ⟨rfl, bt B0.out Ba.out⟩

end Go.Proofs.Ytikgbcdmeikjfaa

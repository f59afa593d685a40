/-
  What row.Good returns, and the document's Good.
  Conditions: as each theorem states them.
-/
import Derived.Test.YtikgbcdmeikjfaaRD
import Derived.Test.YtikgbcdmeikjfaaLE
import Derived.Test.YtikgbcdmeikjfaaOP
namespace Go.Proofs.Ytikgbcdmeikjfaa
open Go.ChangeShapes Go.WideShapes Go.ChangeAt Go.RowKit
set_option linter.unusedVariables false
set_option linter.unusedSimpArgs false
set_option maxRecDepth 100000

/-- A row may be of a catalog. -/
def growC (ds : Dims) (M : Int) : Rw → Bool | (a, b, c, d, m, n) => rightC ds M [0, 0, 0, 0] [a, b, c, d] && (decide (M = 2) || decide (n = 0))
theorem sright_z (a : Option Addr) (n c : Nat) (ds : Dims) (M : Int) (x0 x1 x2 x3 : Int) (v : Bool) (w : World) (hc : Cat w a n c ds) (hM : I64 M) (hA : ∀ x ∈ [x0, x1, x2, x3], U8 x) (hv : Hid (rightC ds M [0, 0, 0, 0] [x0, x1, x2, x3] = v)) :
    Calls Try.prog 27 #[.agg #[.slice a n c, .int .i64 M], .agg #[.int .u8 0, .int .u8 0, .int .u8 0, .int .u8 0], .agg #[.int .u8 x0, .int .u8 x1, .int .u8 x2, .int .u8 x3]] w fun e w' => e = .returned (.bool v) ∧ Below w.heap.size w w' := by
  have := sright_any a n c ds M 0 0 0 0 x0 x1 x2 x3 w hc hM (by intro x hx; simp at hx; subst hx; exact ⟨by decide, by decide⟩) hA
  rw [hv.out] at this
  exact this
theorem rright_z (a : Option Addr) (n c : Nat) (ds : Dims) (M : Int) (x0 x1 x2 x3 : Int) (v : Bool) (w : World) (hc : Cat w a n c ds) (hM : I64 M) (hA : ∀ x ∈ [x0, x1, x2, x3], U8 x) (hv : Hid (rightC ds M [0, 0, 0, 0] [x0, x1, x2, x3] = v)) :
    Calls Try.prog 29 #[.agg #[.slice a n c, .int .i64 M], .agg #[.int .u8 0, .int .u8 0, .int .u8 0, .int .u8 0], .agg #[.int .u8 x0, .int .u8 x1, .int .u8 x2, .int .u8 x3]] w fun e w' => e = .returned (.bool v) ∧ Below w.heap.size w w' := by
  have := rright_any a n c ds M 0 0 0 0 x0 x1 x2 x3 w hc hM (by intro x hx; simp at hx; subst hx; exact ⟨by decide, by decide⟩) hA
  rw [hv.out] at this
  exact this
theorem rlgood_z (a : Option Addr) (n c : Nat) (ds : Dims) (M : Int) (v : Bool) (w : World) (hc : Cat w a n c ds) (hM : I64 M) (hv : Hid (nodeC ds M 0 0 0 0 = v)) :
    Calls Try.prog 30 #[.agg #[.slice a n c, .int .i64 M], .agg #[.int .u8 0, .int .u8 0, .int .u8 0, .int .u8 0]] w fun e w' => e = .returned (.bool v) ∧ Below w.heap.size w w' := by
  have := rlgood_any a n c ds M 0 0 0 0 w hc hM (by intro x hx; simp at hx; subst hx; exact ⟨by decide, by decide⟩)
  rw [hv.out] at this
  exact this
theorem right_base {ds : Dims} {M : Int} {A : List Int} (h : rightC ds M [0, 0, 0, 0] A = true) (hA : ∀ i, i < 4 → 0 ≤ A.getD i 0) : nodeC ds M 0 0 0 0 = true := by
  rw [← right_node (by intro x hx; simp at hx; subst hx; exact ⟨by decide, by decide⟩)]
  obtain ⟨h1, h2⟩ := rightC_is h
  refine rightC_yes h1 (fun i hi => ?_)
  have t1 := h2 i hi
  have t2 := hA i hi
  have e : ([0, 0, 0, 0] : List Int).getD i 0 = 0 := by
    match i, hi with
    | 0, _ => rfl
    | 1, _ => rfl
    | 2, _ => rfl
    | 3, _ => rfl
  rw [e] at t1 ⊢
  omega
theorem gr_boxes {a : Option Addr} {n c : Nat} {M x0 x1 x2 x3 m0 m1 : Int} {w x : World} (hb : Below ((w.alloc (.cells #[.slice a n c, .int .i64 M] 24)).alloc (.cells #[.int .u8 x0, .int .u8 x1, .int .u8 x2, .int .u8 x3, .int .i64 m0, .int .i64 m1] 33)).heap.size ((w.alloc (.cells #[.slice a n c, .int .i64 M] 24)).alloc (.cells #[.int .u8 x0, .int .u8 x1, .int .u8 x2, .int .u8 x3, .int .i64 m0, .int .i64 m1] 33)) x) :
    x.cell? ⟨w.heap.size, 0, none⟩ = some (.slice a n c) ∧ x.cell? ⟨w.heap.size, 1, none⟩ = some (.int .i64 M) ∧ x.cell? ⟨w.heap.size + 1, 0, none⟩ = some (.int .u8 x0) ∧ x.cell? ⟨w.heap.size + 1, 1, none⟩ = some (.int .u8 x1) ∧ x.cell? ⟨w.heap.size + 1, 2, none⟩ = some (.int .u8 x2) ∧ x.cell? ⟨w.heap.size + 1, 3, none⟩ = some (.int .u8 x3) ∧ x.cell? ⟨w.heap.size + 1, 4, none⟩ = some (.int .i64 m0) ∧ x.cell? ⟨w.heap.size + 1, 5, none⟩ = some (.int .i64 m1) := by
  have g1 : x.heap[w.heap.size]? = some (.cells #[.slice a n c, .int .i64 M] 24) := by
    rw [hb.block _ (by simp; omega), Below.heap_alloc _ _ _ (by simp)]; exact heap_alloc_new _ _
  have g2 : x.heap[w.heap.size + 1]? = some (.cells #[.int .u8 x0, .int .u8 x1, .int .u8 x2, .int .u8 x3, .int .i64 m0, .int .i64 m1] 33) := by
    rw [hb.block _ (by simp)]
    have := heap_alloc_new (w.alloc (.cells #[.slice a n c, .int .i64 M] 24)) (.cells #[.int .u8 x0, .int .u8 x1, .int .u8 x2, .int .u8 x3, .int .i64 m0, .int .i64 m1] 33)
    simpa using this
  obtain ⟨p0, p1⟩ := box_two g1
  obtain ⟨q0, q1, q2, q3, q4, q5⟩ := box6 g2
  exact ⟨p0, p1, q0, q1, q2, q3, q4, q5⟩

set_option maxHeartbeats 16000000 in
theorem grow_m (a : Option Addr) (n c : Nat) (ds : Dims) (M x0 x1 x2 x3 m0 m1 : Int) (G : Bool) (w : World) (hc : Cat w a n c ds) (hM : I64 M) (hr : rok (x0, x1, x2, x3, m0, m1)) (hG : Hid (growC ds M (x0, x1, x2, x3, m0, m1) = G)) :
    Calls Try.prog 11 #[.agg #[.slice a n c, .int .i64 M], .agg #[.int .u8 x0, .int .u8 x1, .int .u8 x2, .int .u8 x3, .int .i64 m0, .int .i64 m1]] w fun e w' => e = .returned (.bool G) ∧ Below w.heap.size w w' := by
  have HC := hid hc
  have HM := hid hM
  have HA : Hid (∀ x ∈ [x0, x1, x2, x3], U8 x) := hid (by
    obtain ⟨⟨q1, q2, q3, q4⟩, _, _⟩ := hr
    intro x h
    simp only [List.mem_cons, List.not_mem_nil, or_false] at h
    rcases h with rfl | rfl | rfl | rfl <;> assumption)
  have B2 : Hid (Below w.heap.size w ((w.alloc (.cells #[.slice a n c, .int .i64 M] 24)).alloc (.cells #[.int .u8 x0, .int .u8 x1, .int .u8 x2, .int .u8 x3, .int .i64 m0, .int .i64 m1] 33))) := hid (((Below.refl _ _).alloc (Nat.le_refl _) _).alloc (by simp) _)
  have KC : Hid (∀ x, Below ((w.alloc (.cells #[.slice a n c, .int .i64 M] 24)).alloc (.cells #[.int .u8 x0, .int .u8 x1, .int .u8 x2, .int .u8 x3, .int .i64 m0, .int .i64 m1] 33)).heap.size ((w.alloc (.cells #[.slice a n c, .int .i64 M] 24)).alloc (.cells #[.int .u8 x0, .int .u8 x1, .int .u8 x2, .int .u8 x3, .int .i64 m0, .int .i64 m1] 33)) x → x.cell? ⟨w.heap.size, 0, none⟩ = some (.slice a n c) ∧ x.cell? ⟨w.heap.size, 1, none⟩ = some (.int .i64 M) ∧ x.cell? ⟨w.heap.size + 1, 0, none⟩ = some (.int .u8 x0) ∧ x.cell? ⟨w.heap.size + 1, 1, none⟩ = some (.int .u8 x1) ∧ x.cell? ⟨w.heap.size + 1, 2, none⟩ = some (.int .u8 x2) ∧ x.cell? ⟨w.heap.size + 1, 3, none⟩ = some (.int .u8 x3) ∧ x.cell? ⟨w.heap.size + 1, 4, none⟩ = some (.int .i64 m0) ∧ x.cell? ⟨w.heap.size + 1, 5, none⟩ = some (.int .i64 m1)) := hid (fun x h => gr_boxes h)
  have hg := hG.out
  simp only [growC] at hg
  clear hG hM hc hr
  have tk1 : True := trivial
  cases hR : rightC ds M [0, 0, 0, 0] [x0, x1, x2, x3] with
  | false =>
    rw [hR] at hg
    simp only [Bool.false_and] at hg
    subst hg
    have HR := hid hR
    clear hR
    go_enter Try.func11, Try.ntmps11
    go_upto_region 1 with fail
    generalize ((w.alloc (.cells #[.slice a n c, .int .i64 M] 24)).alloc (.cells #[.int .u8 x0, .int .u8 x1, .int .u8 x2, .int .u8 x3, .int .i64 m0, .int .i64 m1] 33)) = W at B2 KC ⊢
    have KS : Hid (∀ x, Below W.heap.size W x → Below W.heap.size W x ∧ x.cell? ⟨w.heap.size, 0, none⟩ = some (.slice a n c) ∧ x.cell? ⟨w.heap.size, 1, none⟩ = some (.int .i64 M) ∧ x.cell? ⟨w.heap.size + 1, 0, none⟩ = some (.int .u8 x0) ∧ x.cell? ⟨w.heap.size + 1, 1, none⟩ = some (.int .u8 x1) ∧ x.cell? ⟨w.heap.size + 1, 2, none⟩ = some (.int .u8 x2) ∧ x.cell? ⟨w.heap.size + 1, 3, none⟩ = some (.int .u8 x3) ∧ x.cell? ⟨w.heap.size + 1, 4, none⟩ = some (.int .i64 m0) ∧ x.cell? ⟨w.heap.size + 1, 5, none⟩ = some (.int .i64 m1)) := hid (fun x h => ⟨h, KC.out x h⟩)
    go_region_held3 (fun x => Below W.heap.size W x ∧ x.cell? ⟨w.heap.size, 0, none⟩ = some (.slice a n c) ∧ x.cell? ⟨w.heap.size, 1, none⟩ = some (.int .i64 M) ∧ x.cell? ⟨w.heap.size + 1, 0, none⟩ = some (.int .u8 x0) ∧ x.cell? ⟨w.heap.size + 1, 1, none⟩ = some (.int .u8 x1) ∧ x.cell? ⟨w.heap.size + 1, 2, none⟩ = some (.int .u8 x2) ∧ x.cell? ⟨w.heap.size + 1, 3, none⟩ = some (.int .u8 x3) ∧ x.cell? ⟨w.heap.size + 1, 4, none⟩ = some (.int .i64 m0) ∧ x.cell? ⟨w.heap.size + 1, 5, none⟩ = some (.int .i64 m1))
      (first | assumption | exact keep_drew KS | exact keep_step (by assumption) (by assumption) KS)
      (first
        | (go_at_call 28; refine (base_any _).mono ?_; rintro e w5 ⟨rfl, hb5⟩)
        | (go_at_call 27; refine (sright_z a n c ds M x0 x1 x2 x3 false _ (HC.out.below (bt B2.out (undrew hb5))) HM.out HA.out HR).mono ?_; rintro e w6 ⟨rfl, hb6⟩))
    have B6 : Hid (Below W.heap.size W w6) := hid (bt (undrew hb5) hb6)
    obtain ⟨c0, c1, d0, d1, d2, d3, d4, d5⟩ := KC.out _ B6.out
    clear hb5 hb6
    go_wp2
    go_ret
    exact ⟨rfl, bt B2.out B6.out⟩
  | true =>
    rw [hR] at hg
    simp only [Bool.true_and] at hg
    have HNODE : Hid (nodeC ds M 0 0 0 0 = true) := hid (right_base hR (fun i hi => by
      have := HA.out
      match i, hi with
      | 0, _ => exact (this x0 (by simp)).1
      | 1, _ => exact (this x1 (by simp)).1
      | 2, _ => exact (this x2 (by simp)).1
      | 3, _ => exact (this x3 (by simp)).1))
    obtain ⟨_, _, hM1, hM2, _⟩ := goodC_p (rightC_is hR).1
    have HR := hid hR
    clear hR
    by_cases h2 : M = 2
    · subst h2
      have hGt : G = true := by rw [← hg]; simp
      subst hGt
      clear hg hM1 hM2
      go_enter Try.func11, Try.ntmps11
      go_upto_region 1 with fail
      generalize ((w.alloc (.cells #[.slice a n c, .int .i64 2] 24)).alloc (.cells #[.int .u8 x0, .int .u8 x1, .int .u8 x2, .int .u8 x3, .int .i64 m0, .int .i64 m1] 33)) = W at B2 KC ⊢
      have KS : Hid (∀ x, Below W.heap.size W x → Below W.heap.size W x ∧ x.cell? ⟨w.heap.size, 0, none⟩ = some (.slice a n c) ∧ x.cell? ⟨w.heap.size, 1, none⟩ = some (.int .i64 2) ∧ x.cell? ⟨w.heap.size + 1, 0, none⟩ = some (.int .u8 x0) ∧ x.cell? ⟨w.heap.size + 1, 1, none⟩ = some (.int .u8 x1) ∧ x.cell? ⟨w.heap.size + 1, 2, none⟩ = some (.int .u8 x2) ∧ x.cell? ⟨w.heap.size + 1, 3, none⟩ = some (.int .u8 x3) ∧ x.cell? ⟨w.heap.size + 1, 4, none⟩ = some (.int .i64 m0) ∧ x.cell? ⟨w.heap.size + 1, 5, none⟩ = some (.int .i64 m1)) := hid (fun x h => ⟨h, KC.out x h⟩)
      go_region_held3 (fun x => Below W.heap.size W x ∧ x.cell? ⟨w.heap.size, 0, none⟩ = some (.slice a n c) ∧ x.cell? ⟨w.heap.size, 1, none⟩ = some (.int .i64 2) ∧ x.cell? ⟨w.heap.size + 1, 0, none⟩ = some (.int .u8 x0) ∧ x.cell? ⟨w.heap.size + 1, 1, none⟩ = some (.int .u8 x1) ∧ x.cell? ⟨w.heap.size + 1, 2, none⟩ = some (.int .u8 x2) ∧ x.cell? ⟨w.heap.size + 1, 3, none⟩ = some (.int .u8 x3) ∧ x.cell? ⟨w.heap.size + 1, 4, none⟩ = some (.int .i64 m0) ∧ x.cell? ⟨w.heap.size + 1, 5, none⟩ = some (.int .i64 m1))
        (first | assumption | exact keep_drew KS | exact keep_step (by assumption) (by assumption) KS)
        (first
          | (go_at_call 28; refine (base_any _).mono ?_; rintro e w5 ⟨rfl, hb5⟩)
          | (go_at_call 27; refine (sright_z a n c ds 2 x0 x1 x2 x3 true _ (HC.out.below (bt B2.out (undrew hb5))) HM.out HA.out HR).mono ?_; rintro e w6 ⟨rfl, hb6⟩))
      have B6 : Hid (Below W.heap.size W w6) := hid (bt (undrew hb5) hb6)
      obtain ⟨c0, c1, d0, d1, d2, d3, d4, d5⟩ := KC.out _ B6.out
      clear hb5 hb6
      go_wp2
      refine wp_loop_rounds 1 ?_
      rw [rounds_succ]; go_wp2
      go_ret
      exact ⟨rfl, bt B2.out B6.out⟩
    · obtain rfl : M = 1 := by omega
      have hg' : decide (m1 = 0) = G := by rw [← hg]; simp
      clear hg hM1 hM2 h2
      by_cases h0 : m1 = 0
      · have z0 : (m1 == 0) = true := by simpa using h0
        rw [decide_eq_true h0] at hg'
        subst hg'
        clear h0
        go_enter Try.func11, Try.ntmps11
        go_upto_region 1 with fail
        generalize ((w.alloc (.cells #[.slice a n c, .int .i64 1] 24)).alloc (.cells #[.int .u8 x0, .int .u8 x1, .int .u8 x2, .int .u8 x3, .int .i64 m0, .int .i64 m1] 33)) = W at B2 KC ⊢
        have KS : Hid (∀ x, Below W.heap.size W x → Below W.heap.size W x ∧ x.cell? ⟨w.heap.size, 0, none⟩ = some (.slice a n c) ∧ x.cell? ⟨w.heap.size, 1, none⟩ = some (.int .i64 1) ∧ x.cell? ⟨w.heap.size + 1, 0, none⟩ = some (.int .u8 x0) ∧ x.cell? ⟨w.heap.size + 1, 1, none⟩ = some (.int .u8 x1) ∧ x.cell? ⟨w.heap.size + 1, 2, none⟩ = some (.int .u8 x2) ∧ x.cell? ⟨w.heap.size + 1, 3, none⟩ = some (.int .u8 x3) ∧ x.cell? ⟨w.heap.size + 1, 4, none⟩ = some (.int .i64 m0) ∧ x.cell? ⟨w.heap.size + 1, 5, none⟩ = some (.int .i64 m1)) := hid (fun x h => ⟨h, KC.out x h⟩)
        go_region_held3 (fun x => Below W.heap.size W x ∧ x.cell? ⟨w.heap.size, 0, none⟩ = some (.slice a n c) ∧ x.cell? ⟨w.heap.size, 1, none⟩ = some (.int .i64 1) ∧ x.cell? ⟨w.heap.size + 1, 0, none⟩ = some (.int .u8 x0) ∧ x.cell? ⟨w.heap.size + 1, 1, none⟩ = some (.int .u8 x1) ∧ x.cell? ⟨w.heap.size + 1, 2, none⟩ = some (.int .u8 x2) ∧ x.cell? ⟨w.heap.size + 1, 3, none⟩ = some (.int .u8 x3) ∧ x.cell? ⟨w.heap.size + 1, 4, none⟩ = some (.int .i64 m0) ∧ x.cell? ⟨w.heap.size + 1, 5, none⟩ = some (.int .i64 m1))
          (first | assumption | exact keep_drew KS | exact keep_step (by assumption) (by assumption) KS)
          (first
            | (go_at_call 28; refine (base_any _).mono ?_; rintro e w5 ⟨rfl, hb5⟩)
            | (go_at_call 27; refine (sright_z a n c ds 1 x0 x1 x2 x3 true _ (HC.out.below (bt B2.out (undrew hb5))) HM.out HA.out HR).mono ?_; rintro e w6 ⟨rfl, hb6⟩))
        have B6 : Hid (Below W.heap.size W w6) := hid (bt (undrew hb5) hb6)
        obtain ⟨c0, c1, d0, d1, d2, d3, d4, d5⟩ := KC.out _ B6.out
        clear hb5 hb6
        go_wp2
        refine wp_loop_rounds 2 ?_
        rw [rounds_succ]; go_wp2
        rw [rounds_succ]; go_wp2
        go_ret
        exact ⟨rfl, bt B2.out B6.out⟩
      · have z0 : (m1 == 0) = false := by simpa using h0
        rw [decide_eq_false h0] at hg'
        subst hg'
        clear h0
        go_enter Try.func11, Try.ntmps11
        go_upto_region 1 with fail
        generalize ((w.alloc (.cells #[.slice a n c, .int .i64 1] 24)).alloc (.cells #[.int .u8 x0, .int .u8 x1, .int .u8 x2, .int .u8 x3, .int .i64 m0, .int .i64 m1] 33)) = W at B2 KC ⊢
        have KS : Hid (∀ x, Below W.heap.size W x → Below W.heap.size W x ∧ x.cell? ⟨w.heap.size, 0, none⟩ = some (.slice a n c) ∧ x.cell? ⟨w.heap.size, 1, none⟩ = some (.int .i64 1) ∧ x.cell? ⟨w.heap.size + 1, 0, none⟩ = some (.int .u8 x0) ∧ x.cell? ⟨w.heap.size + 1, 1, none⟩ = some (.int .u8 x1) ∧ x.cell? ⟨w.heap.size + 1, 2, none⟩ = some (.int .u8 x2) ∧ x.cell? ⟨w.heap.size + 1, 3, none⟩ = some (.int .u8 x3) ∧ x.cell? ⟨w.heap.size + 1, 4, none⟩ = some (.int .i64 m0) ∧ x.cell? ⟨w.heap.size + 1, 5, none⟩ = some (.int .i64 m1)) := hid (fun x h => ⟨h, KC.out x h⟩)
        go_region_held3 (fun x => Below W.heap.size W x ∧ x.cell? ⟨w.heap.size, 0, none⟩ = some (.slice a n c) ∧ x.cell? ⟨w.heap.size, 1, none⟩ = some (.int .i64 1) ∧ x.cell? ⟨w.heap.size + 1, 0, none⟩ = some (.int .u8 x0) ∧ x.cell? ⟨w.heap.size + 1, 1, none⟩ = some (.int .u8 x1) ∧ x.cell? ⟨w.heap.size + 1, 2, none⟩ = some (.int .u8 x2) ∧ x.cell? ⟨w.heap.size + 1, 3, none⟩ = some (.int .u8 x3) ∧ x.cell? ⟨w.heap.size + 1, 4, none⟩ = some (.int .i64 m0) ∧ x.cell? ⟨w.heap.size + 1, 5, none⟩ = some (.int .i64 m1))
          (first | assumption | exact keep_drew KS | exact keep_step (by assumption) (by assumption) KS)
          (first
            | (go_at_call 28; refine (base_any _).mono ?_; rintro e w5 ⟨rfl, hb5⟩)
            | (go_at_call 27; refine (sright_z a n c ds 1 x0 x1 x2 x3 true _ (HC.out.below (bt B2.out (undrew hb5))) HM.out HA.out HR).mono ?_; rintro e w6 ⟨rfl, hb6⟩))
        have B6 : Hid (Below W.heap.size W w6) := hid (bt (undrew hb5) hb6)
        obtain ⟨c0, c1, d0, d1, d2, d3, d4, d5⟩ := KC.out _ B6.out
        clear hb5 hb6
        go_wp2
        refine wp_loop_rounds 1 ?_
        rw [rounds_succ]; go_wp2
        go_ret
        exact ⟨rfl, bt B2.out B6.out⟩

set_option maxHeartbeats 16000000 in
theorem rgrow_m (a : Option Addr) (n c : Nat) (ds : Dims) (M x0 x1 x2 x3 m0 m1 : Int) (G : Bool) (w : World) (hc : Cat w a n c ds) (hM : I64 M) (hr : rok (x0, x1, x2, x3, m0, m1)) (hG : Hid (growC ds M (x0, x1, x2, x3, m0, m1) = G)) :
    Calls Try.prog 12 #[.agg #[.slice a n c, .int .i64 M], .agg #[.int .u8 x0, .int .u8 x1, .int .u8 x2, .int .u8 x3, .int .i64 m0, .int .i64 m1]] w fun e w' => e = .returned (.bool G) ∧ Below w.heap.size w w' := by
  have HC := hid hc
  have HM := hid hM
  have HA : Hid (∀ x ∈ [x0, x1, x2, x3], U8 x) := hid (by
    obtain ⟨⟨q1, q2, q3, q4⟩, _, _⟩ := hr
    intro x h
    simp only [List.mem_cons, List.not_mem_nil, or_false] at h
    rcases h with rfl | rfl | rfl | rfl <;> assumption)
  have B2 : Hid (Below w.heap.size w ((w.alloc (.cells #[.slice a n c, .int .i64 M] 24)).alloc (.cells #[.int .u8 x0, .int .u8 x1, .int .u8 x2, .int .u8 x3, .int .i64 m0, .int .i64 m1] 33))) := hid (((Below.refl _ _).alloc (Nat.le_refl _) _).alloc (by simp) _)
  have KC : Hid (∀ x, Below ((w.alloc (.cells #[.slice a n c, .int .i64 M] 24)).alloc (.cells #[.int .u8 x0, .int .u8 x1, .int .u8 x2, .int .u8 x3, .int .i64 m0, .int .i64 m1] 33)).heap.size ((w.alloc (.cells #[.slice a n c, .int .i64 M] 24)).alloc (.cells #[.int .u8 x0, .int .u8 x1, .int .u8 x2, .int .u8 x3, .int .i64 m0, .int .i64 m1] 33)) x → x.cell? ⟨w.heap.size, 0, none⟩ = some (.slice a n c) ∧ x.cell? ⟨w.heap.size, 1, none⟩ = some (.int .i64 M) ∧ x.cell? ⟨w.heap.size + 1, 0, none⟩ = some (.int .u8 x0) ∧ x.cell? ⟨w.heap.size + 1, 1, none⟩ = some (.int .u8 x1) ∧ x.cell? ⟨w.heap.size + 1, 2, none⟩ = some (.int .u8 x2) ∧ x.cell? ⟨w.heap.size + 1, 3, none⟩ = some (.int .u8 x3) ∧ x.cell? ⟨w.heap.size + 1, 4, none⟩ = some (.int .i64 m0) ∧ x.cell? ⟨w.heap.size + 1, 5, none⟩ = some (.int .i64 m1)) := hid (fun x h => gr_boxes h)
  have hg := hG.out
  simp only [growC] at hg
  clear hG hM hc hr
  have tk1 : True := trivial
  cases hR : rightC ds M [0, 0, 0, 0] [x0, x1, x2, x3] with
  | false =>
    rw [hR] at hg
    simp only [Bool.false_and] at hg
    subst hg
    have HR := hid hR
    clear hR
    go_enter Try.func12, Try.ntmps12
    go_wp2_with (first
      | (go_at_call 29; refine (rright_z a n c ds M x0 x1 x2 x3 false _ (HC.out.below B2.out) HM.out HA.out HR).mono ?_; rintro e w5 ⟨rfl, hb5⟩; obtain ⟨c0, c1, d0, d1, d2, d3, d4, d5⟩ := KC.out _ hb5; have B5 := hid hb5; clear hb5)
      | (go_at_call 30; refine (rlgood_z a n c ds M true _ (HC.out.below (bt B2.out B5.out)) HM.out HNODE).mono ?_; rintro e w6 ⟨rfl, hb6⟩; obtain ⟨e0, e1, f0, f1, f2, f3, f4, f5⟩ := KC.out _ (bt B5.out hb6); have B6 := hid (bt B5.out hb6); clear hb6))
    go_ret
    exact ⟨rfl, bt B2.out B5.out⟩
  | true =>
    rw [hR] at hg
    simp only [Bool.true_and] at hg
    have HNODE : Hid (nodeC ds M 0 0 0 0 = true) := hid (right_base hR (fun i hi => by
      have := HA.out
      match i, hi with
      | 0, _ => exact (this x0 (by simp)).1
      | 1, _ => exact (this x1 (by simp)).1
      | 2, _ => exact (this x2 (by simp)).1
      | 3, _ => exact (this x3 (by simp)).1))
    obtain ⟨_, _, hM1, hM2, _⟩ := goodC_p (rightC_is hR).1
    have HR := hid hR
    clear hR
    by_cases h2 : M = 2
    · subst h2
      have hGt : G = true := by rw [← hg]; simp
      subst hGt
      clear hg hM1 hM2
      go_enter Try.func12, Try.ntmps12
      go_wp2_with (first
        | (go_at_call 29; refine (rright_z a n c ds 2 x0 x1 x2 x3 true _ (HC.out.below B2.out) HM.out HA.out HR).mono ?_; rintro e w5 ⟨rfl, hb5⟩; obtain ⟨c0, c1, d0, d1, d2, d3, d4, d5⟩ := KC.out _ hb5; have B5 := hid hb5; clear hb5)
        | (go_at_call 30; refine (rlgood_z a n c ds 2 true _ (HC.out.below (bt B2.out B5.out)) HM.out HNODE).mono ?_; rintro e w6 ⟨rfl, hb6⟩; obtain ⟨e0, e1, f0, f1, f2, f3, f4, f5⟩ := KC.out _ (bt B5.out hb6); have B6 := hid (bt B5.out hb6); clear hb6))
      refine wp_loop_rounds 1 ?_
      rw [rounds_succ]; go_wp2
      go_ret
      exact ⟨rfl, bt B2.out B6.out⟩
    · obtain rfl : M = 1 := by omega
      have hg' : decide (m1 = 0) = G := by rw [← hg]; simp
      clear hg hM1 hM2 h2
      by_cases h0 : m1 = 0
      · have z0 : (m1 == 0) = true := by simpa using h0
        rw [decide_eq_true h0] at hg'
        subst hg'
        clear h0
        go_enter Try.func12, Try.ntmps12
        go_wp2_with (first
          | (go_at_call 29; refine (rright_z a n c ds 1 x0 x1 x2 x3 true _ (HC.out.below B2.out) HM.out HA.out HR).mono ?_; rintro e w5 ⟨rfl, hb5⟩; obtain ⟨c0, c1, d0, d1, d2, d3, d4, d5⟩ := KC.out _ hb5; have B5 := hid hb5; clear hb5)
          | (go_at_call 30; refine (rlgood_z a n c ds 1 true _ (HC.out.below (bt B2.out B5.out)) HM.out HNODE).mono ?_; rintro e w6 ⟨rfl, hb6⟩; obtain ⟨e0, e1, f0, f1, f2, f3, f4, f5⟩ := KC.out _ (bt B5.out hb6); have B6 := hid (bt B5.out hb6); clear hb6))
        refine wp_loop_rounds 2 ?_
        rw [rounds_succ]; go_wp2
        rw [rounds_succ]; go_wp2
        go_ret
        exact ⟨rfl, bt B2.out B6.out⟩
      · have z0 : (m1 == 0) = false := by simpa using h0
        rw [decide_eq_false h0] at hg'
        subst hg'
        clear h0
        go_enter Try.func12, Try.ntmps12
        go_wp2_with (first
          | (go_at_call 29; refine (rright_z a n c ds 1 x0 x1 x2 x3 true _ (HC.out.below B2.out) HM.out HA.out HR).mono ?_; rintro e w5 ⟨rfl, hb5⟩; obtain ⟨c0, c1, d0, d1, d2, d3, d4, d5⟩ := KC.out _ hb5; have B5 := hid hb5; clear hb5)
          | (go_at_call 30; refine (rlgood_z a n c ds 1 true _ (HC.out.below (bt B2.out B5.out)) HM.out HNODE).mono ?_; rintro e w6 ⟨rfl, hb6⟩; obtain ⟨e0, e1, f0, f1, f2, f3, f4, f5⟩ := KC.out _ (bt B5.out hb6); have B6 := hid (bt B5.out hb6); clear hb6))
        refine wp_loop_rounds 1 ?_
        rw [rounds_succ]; go_wp2
        go_ret
        exact ⟨rfl, bt B2.out B6.out⟩

end Go.Proofs.Ytikgbcdmeikjfaa

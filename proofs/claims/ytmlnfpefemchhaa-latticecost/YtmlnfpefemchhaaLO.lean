/-
  The chapter's examples: what the law's own wakes returns.
  Conditions: as each theorem states them.
-/
import Derived.Test.YtmlnfpefemchhaaLN
namespace Go.Proofs.Ytmlnfpefemchhaa
open Go.ChangeShapes Go.WideShapes Go.ChangeAt Go.RowKit
set_option linter.unusedVariables false
set_option linter.unusedSimpArgs false

def D1 : Dims := [([2], []), ([3], [])]
theorem good_D1 : goodC D1 1 = true := by decide
theorem tp_D1 : tp D1 1 0 = (1 : Nat) ∧ tp D1 1 1 = (1 : Nat) ∧ tp D1 1 2 = (0 : Nat) ∧ tp D1 1 3 = (0 : Nat) := by decide
theorem all_D1 : allN 1 1 0 0 = [(0, 0, 0, 0), (0, 1, 0, 0), (1, 0, 0, 0), (1, 1, 0, 0)] := by decide
theorem cnt_D1 : cnt D1 1 = 4 := by decide
theorem cost_D1 : cost D1 1 0 0 0 0 = 6 := by decide
theorem node_D1 : nodeC D1 1 1 0 0 0 = true := by decide
theorem node_D1' : nodeC D1 1 2 0 0 0 = false := by decide
def B5 (w wr : World) : Prop := w.heap.size + 3 < wr.heap.size ∧ Below w.heap.size w wr ∧ wr.cell? ⟨w.heap.size + 3, 0, none⟩ = some (.slice (some ⟨w.heap.size + 2, 0, none⟩) 2 2) ∧ wr.cell? ⟨w.heap.size + 3, 1, none⟩ = some (.int .i64 1) ∧ Cat wr (some ⟨w.heap.size + 2, 0, none⟩) 2 2 D1
theorem B5.step {w wr w' : World} (h : B5 w wr) (hb : Below wr.heap.size wr w') : B5 w w' := by
  obtain ⟨h1, h2, h3, h4, h5⟩ := h
  exact ⟨Nat.lt_of_lt_of_le h1 hb.size, bt h2 hb, ((bcell hb).1 _ _ h1).trans h3, ((bcell hb).1 _ _ h1).trans h4, h5.below hb⟩
theorem b5_new (w : World) : B5 w ((((w.alloc (.cells #[.int .i64 2] 3)).alloc (.cells #[.int .i64 3] 3)).alloc (.cells #[.slice (some ⟨w.heap.size, 0, none⟩) 1 1, .slice none 0 0, .slice (some ⟨w.heap.size + 1, 0, none⟩) 1 1, .slice none 0 0] 59)).alloc (.cells #[.slice (some ⟨w.heap.size + 2, 0, none⟩) 2 2, .int .i64 1] 25)) := by
  refine ⟨by simp, ((((Below.refl _ _).alloc (Nat.le_refl _) _).alloc (by simp) _).alloc (by simp; omega) _).alloc (by simp; omega) _, by simp [go_sem], by simp [go_sem], rfl, Nat.le_refl _, by decide, (fun e => by cases e), fun _ => ⟨w.heap.size + 2, 0, rfl, by simp, fun j hj => ?_⟩⟩
  have : j = 0 ∨ j = 1 := by omega
  rcases this with rfl | rfl
  · refine ⟨some ⟨w.heap.size, 0, none⟩, 1, 1, none, 0, 0, by simp [go_sem], by simp [go_sem], ⟨rfl, Nat.le_refl _, by decide, (fun e => by cases e), fun _ => ⟨w.heap.size, 0, rfl, by simp; omega, fun i hi => ?_⟩⟩, rows_nil _ _, fun x hx => ?_, fun l hl => by simp [D1] at hl⟩
    · obtain rfl : i = 0 := by simp [D1] at hi; omega
      simp [go_sem, D1]
    · simp [D1] at hx; subst hx; unfold I64; omega
  · refine ⟨some ⟨w.heap.size + 1, 0, none⟩, 1, 1, none, 0, 0, by simp [go_sem], by simp [go_sem], ⟨rfl, Nat.le_refl _, by decide, (fun e => by cases e), fun _ => ⟨w.heap.size + 1, 0, rfl, by simp, fun i hi => ?_⟩⟩, rows_nil _ _, fun x hx => ?_, fun l hl => by simp [D1] at hl⟩
    · obtain rfl : i = 0 := by simp [D1] at hi; omega
      simp [go_sem, D1]
    · simp [D1] at hx; subst hx; unfold I64; omega
theorem i64_one : I64 1 := by unfold I64; omega
theorem all_wake (a : Option Addr) (n c : Nat) (w : World) (hc : Cat w a n c D1) :
    Calls Try.prog 36 #[.agg #[.slice a n c, .int .i64 1]] w fun e w' => (∃ g cap : Nat, e = .returned (.slice (some ⟨g, 0, none⟩) 4 cap) ∧ g < w'.heap.size ∧ (w'.cell? ⟨g, 4, none⟩ = some (.int .u8 0) ∧ w'.cell? ⟨g, 5, none⟩ = some (.int .u8 1) ∧ w'.cell? ⟨g, 6, none⟩ = some (.int .u8 0) ∧ w'.cell? ⟨g, 7, none⟩ = some (.int .u8 0)) ∧ (w'.cell? ⟨g, 8, none⟩ = some (.int .u8 1) ∧ w'.cell? ⟨g, 9, none⟩ = some (.int .u8 0) ∧ w'.cell? ⟨g, 10, none⟩ = some (.int .u8 0) ∧ w'.cell? ⟨g, 11, none⟩ = some (.int .u8 0))) ∧ Below w.heap.size w w' := by
  refine (all_any a n c D1 1 w hc i64_one 1 1 0 0 good_D1 tp_D1.1 tp_D1.2.1 tp_D1.2.2.1 tp_D1.2.2.2).mono ?_
  rintro e w' ⟨⟨v, rfl, ho⟩, hb⟩
  rw [all_D1] at ho
  refine ⟨?_, hb⟩
  rcases ho.2 with ⟨_, h0⟩ | ⟨g, cap, cur, hv, _⟩
  · cases h0
  · subst hv
    refine ⟨g, cap, rfl, (ho.lt g rfl).2, ⟨?_, ?_, ?_, ?_⟩, ?_, ?_, ?_, ?_⟩
    · have := ho.cells (g := g) rfl 4 _ rfl; rw [add_at] at this; simpa using this
    · have := ho.cells (g := g) rfl 5 _ rfl; rw [add_at] at this; simpa using this
    · have := ho.cells (g := g) rfl 6 _ rfl; rw [add_at] at this; simpa using this
    · have := ho.cells (g := g) rfl 7 _ rfl; rw [add_at] at this; simpa using this
    · have := ho.cells (g := g) rfl 8 _ rfl; rw [add_at] at this; simpa using this
    · have := ho.cells (g := g) rfl 9 _ rfl; rw [add_at] at this; simpa using this
    · have := ho.cells (g := g) rfl 10 _ rfl; rw [add_at] at this; simpa using this
    · have := ho.cells (g := g) rfl 11 _ rfl; rw [add_at] at this; simpa using this
theorem whole_wake (a : Option Addr) (n c : Nat) (w : World) (hc : Cat w a n c D1) :
    Calls Try.prog 34 #[.agg #[.slice a n c, .int .i64 1]] w fun e w' => e = .returned (.agg #[.int .u8 1, .int .u8 1, .int .u8 0, .int .u8 0]) ∧ Below w.heap.size w w' := by
  have := whole_any a n c D1 1 w hc i64_one
  rw [tp_D1.1, tp_D1.2.1, tp_D1.2.2.1, tp_D1.2.2.2] at this
  exact this
theorem count_wake (a : Option Addr) (n c : Nat) (w : World) (hc : Cat w a n c D1) :
    Calls Try.prog 35 #[.agg #[.slice a n c, .int .i64 1]] w fun e w' => e = .returned (.int .i64 4) ∧ Below w.heap.size w w' := by
  have := count_any a n c D1 1 w hc i64_one
  rw [cnt_D1] at this
  exact this
theorem u8_all0 : ∀ x ∈ [(0 : Int), 0, 0, 0], U8 x := by intro x hx; simp at hx; unfold U8; omega
theorem u8_12 : ∀ x ∈ [(1 : Int), 2, 0, 0], U8 x := by intro x hx; simp at hx; unfold U8; omega
theorem cost_wake (a : Option Addr) (n c : Nat) (w : World) (hc : Cat w a n c D1) :
    Calls Try.prog 28 #[.agg #[.slice a n c, .int .i64 1], .agg #[.int .u8 0, .int .u8 0, .int .u8 0, .int .u8 0]] w fun e w' => e = .returned (.int .i64 6) ∧ Below w.heap.size w w' := by
  have := cost_any a n c D1 1 0 0 0 0 w hc i64_one u8_all0
  rw [cost_D1] at this
  exact this
theorem below_wake (w : World) : Calls Try.prog 17 #[.agg #[.int .u8 0, .int .u8 0, .int .u8 0, .int .u8 0], .agg #[.int .u8 1, .int .u8 0, .int .u8 0, .int .u8 0]] w fun e w' => e = .returned (.bool true) ∧ Below w.heap.size w w' :=
  below_any 0 0 0 0 1 0 0 0 w
theorem rank_wake (w : World) : Calls Try.prog 23 #[.agg #[.int .u8 1, .int .u8 2, .int .u8 0, .int .u8 0]] w fun e w' => e = .returned (.int .i64 3) ∧ Below w.heap.size w w' :=
  rank_any 1 2 0 0 w u8_12

set_option maxHeartbeats 4000000 in
set_option maxRecDepth 100000 in
theorem wakes5 (w : World) : Calls Try.prog 15 #[] w fun e w' => e = .returned (.bool true) ∧ Below w.heap.size w w' := by
  have X0 : Hid (B5 w _) := b5_new w
  have t1 : True := trivial
  have eqn := eqN
  have HN1 : Hid (nodeC D1 1 1 0 0 0 = true) := node_D1
  have HN2 : Hid (nodeC D1 1 2 0 0 0 = false) := node_D1'
  go_enter Try.func15, Try.ntmps15
  go_wp2_with (first
    | (go_at_call 36; refine (all_wake _ _ _ _ X0.out.2.2.2.2).mono ?_; rintro e w1 ⟨⟨g, cap, rfl, hgs, ⟨k0, k1, k2, k3⟩, k4, k5, k6, k7⟩, hb1⟩; have X1 := hid (X0.out.step hb1); obtain ⟨z1, _, x0, x1, _⟩ := X1.out)
    | (go_at_call 35; refine (count_wake _ _ _ _ X1.out.2.2.2.2).mono ?_; rintro e w2 ⟨rfl, hb2⟩; have X2 := hid (X1.out.step hb2); obtain ⟨z2, _, x2, x3, _⟩ := X2.out)
    | (go_at_call 28; refine (cost_wake _ _ _ _ X2.out.2.2.2.2).mono ?_; rintro e w3 ⟨rfl, hb3⟩; have X3 := hid (X2.out.step hb3); obtain ⟨z3, _, x4, x5, _⟩ := X3.out)
    | (go_at_call 34; refine (whole_wake _ _ _ _ X3.out.2.2.2.2).mono ?_; rintro e w4 ⟨rfl, hb4⟩; have X4 := hid (X3.out.step hb4); obtain ⟨z4, _, x6, x7, _⟩ := X4.out)
    | (go_at_call 26; clear t1; refine (lgood_m _ _ _ _ _ _ _ _ _ _ _ X4.out.2.2.2.2 i64_one HN1).mono ?_; rintro e w5 ⟨rfl, hb5⟩; have X5 := hid (X4.out.step hb5); obtain ⟨z5, _, x8, x9, _⟩ := X5.out)
    | (go_at_call 26; refine (lgood_m _ _ _ _ _ _ _ _ _ _ _ X5.out.2.2.2.2 i64_one HN2).mono ?_; rintro e w6 ⟨rfl, hb6⟩; have X6 := hid (X5.out.step hb6))
    | (go_at_call 17; refine (below_wake _).mono ?_; rintro e w7 ⟨rfl, hb7⟩)
    | (go_at_call 23; refine (rank_wake _).mono ?_; rintro e w8 ⟨rfl, hb8⟩))
  go_ret
  exact ⟨rfl, bt (bt X6.out.2.1 hb7) hb8⟩

end Go.Proofs.Ytmlnfpefemchhaa

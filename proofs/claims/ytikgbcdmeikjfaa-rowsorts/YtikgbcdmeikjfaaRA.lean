/-
  Rows as numbers, how they are held against each other; what row.compare, Less and the document's Less return.
  Conditions: as each theorem states them.
-/
import Derived.Test.YtikgbcdmeikjfaaCA
import Derived.Test.YtikgbcdmeikjfaaSD
import Derived.Test.YtikgbcdmeikjfaaLib7
import Derived.Sort.Grow
import Derived.Deep.RegionHeld3
namespace Go.Proofs.Ytikgbcdmeikjfaa
open Go.ChangeShapes Go.WideShapes Go.ChangeAt Go.RowKit
set_option linter.unusedVariables false
set_option linter.unusedSimpArgs false
set_option maxRecDepth 100000

/-- Two numbers held against each other. -/
def ci (a b : Int) : Int := if a < b then -1 else if b < a then 1 else 0
/-- A row: a place, two measures. -/
abbrev Rw := Int × Int × Int × Int × Int × Int
def rky : Rw → Int | (a, b, c, d, _, _) => code.key a b c d
def rm0 : Rw → Int | (_, _, _, _, m, _) => m
def rm1 : Rw → Int | (_, _, _, _, _, m) => m
def rok : Rw → Prop | (a, b, c, d, m, n) => (U8 a ∧ U8 b ∧ U8 c ∧ U8 d) ∧ I64 m ∧ I64 n
def rcs : Rw → List Value | (a, b, c, d, m, n) => [.int .u8 a, .int .u8 b, .int .u8 c, .int .u8 d, .int .i64 m, .int .i64 n]
def rcmp (r s : Rw) : Int := if ci (rky r) (rky s) ≠ 0 then ci (rky r) (rky s) else if ci (rm0 r) (rm0 s) ≠ 0 then ci (rm0 r) (rm0 s) else ci (rm1 r) (rm1 s)
def rlt (r s : Rw) : Bool := decide (rcmp r s < 0)

/-- A world with draws and blocks behind. -/
def Gr (w w' : World) : Prop := ∃ q os, w' = Go.Sort.grow (w.drewN q) os
theorem Gr.refl (w : World) : Gr w w := ⟨0, #[], by rw [Go.Sort.grow_empty]; rfl⟩
theorem Gr.trans {a b c : World} (h : Gr a b) (k : Gr b c) : Gr a c := by
  obtain ⟨q, os, rfl⟩ := h
  obtain ⟨p, os', rfl⟩ := k
  refine ⟨q + p, os ++ os', ?_⟩
  rw [← Go.Sort.grow_grow]
  simp only [Go.Sort.grow, World.drewN, Nat.add_assoc]
theorem Gr.alloc {a b : World} (h : Gr a b) (o : Obj) : Gr a (b.alloc o) := h.trans ⟨0, #[o], by rw [Go.Sort.alloc_eq_grow]; rfl⟩
theorem Gr.drew {a b : World} (h : Gr a b) : Gr a b.drew := h.trans ⟨1, #[], by rw [Go.Sort.grow_empty]; rfl⟩
theorem Gr.below {a b : World} (h : Gr a b) : Below a.heap.size a b := by
  obtain ⟨q, os, rfl⟩ := h
  exact ⟨rfl, rfl, rfl, by simp [World.drewN], fun k hk => Go.Sort.heap_grow_old (a.drewN q) os hk⟩
theorem Gr.cell {a b : World} (h : Gr a b) {B j : Nat} {v : Value} (hb : B < a.heap.size) (hc : a.cell? ⟨B, j, none⟩ = some v) : b.cell? ⟨B, j, none⟩ = some v := ((bcell h.below).1 B j hb).trans hc
theorem kg_drew {W : World} {Q : World → Prop} (K : Hid (∀ x, Gr W x → Q x)) : Q W.drew := K.out _ (Gr.refl W).drew
theorem kg_step {W w' w'' : World} {R : Prop} {Q : World → Prop} (hb : Gr w' w'') (h : Gr W w' ∧ R) (K : Hid (∀ x, Gr W x → Q x)) : Q w'' := K.out _ (h.1.trans hb)
theorem kg_same {W w' w'' : World} {R : Prop} {Q : World → Prop} (hb : w'' = w') (h : Gr W w' ∧ R) (K : Hid (∀ x, Gr W x → Q x)) : Q w'' := K.out _ (hb ▸ h.1)

theorem nan32 (a : Int) (w : World) : Calls Try.prog 64 #[.int .u32 a] w fun e w' => e = .returned (.bool false) ∧ w' = w := by
  go_enter Try.func64, Try.ntmps64
  go_wp2
  go_ret
  exact ⟨by simp, rfl⟩
theorem nan64 (a : Int) (w : World) : Calls Try.prog 79 #[.int .i64 a] w fun e w' => e = .returned (.bool false) ∧ w' = w := by
  go_enter Try.func79, Try.ntmps79
  go_wp2
  go_ret
  exact ⟨by simp, rfl⟩
set_option maxHeartbeats 1000000 in
theorem cmp32 (a b C : Int) (w : World) (hC : Hid (ci a b = C)) : Calls Try.prog 54 #[.int .u32 a, .int .u32 b] w fun e w' => e = .returned (.int .i64 C) ∧ w' = w := by
  have h := hC.out
  unfold ci at h
  have tk1 : True := trivial
  by_cases h1 : a < b
  · rw [if_pos h1] at h
    subst h
    go_enter Try.func54, Try.ntmps54
    go_wp2_with (go_at_call 64; refine (nan32 _ _).mono ?_; rintro e w' ⟨rfl, rfl⟩)
    go_ret
    exact ⟨rfl, rfl⟩
  · rw [if_neg h1] at h
    have h1' : decide (a < b) = false := decide_eq_false h1
    by_cases h2 : b < a
    · rw [if_pos h2] at h
      subst h
      go_enter Try.func54, Try.ntmps54
      go_wp2_with (go_at_call 64; refine (nan32 _ _).mono ?_; rintro e w' ⟨rfl, rfl⟩)
      go_ret
      exact ⟨rfl, rfl⟩
    · rw [if_neg h2] at h
      subst h
      have h2' : decide (b < a) = false := decide_eq_false h2
      go_enter Try.func54, Try.ntmps54
      go_wp2_with (go_at_call 64; refine (nan32 _ _).mono ?_; rintro e w' ⟨rfl, rfl⟩)
      go_ret
      exact ⟨rfl, rfl⟩
set_option maxHeartbeats 1000000 in
theorem cmp64 (a b C : Int) (w : World) (hC : Hid (ci a b = C)) : Calls Try.prog 65 #[.int .i64 a, .int .i64 b] w fun e w' => e = .returned (.int .i64 C) ∧ w' = w := by
  have h := hC.out
  unfold ci at h
  by_cases h1 : a < b
  · rw [if_pos h1] at h
    subst h
    go_enter Try.func65, Try.ntmps65
    go_wp2_with (go_at_call 79; refine (nan64 _ _).mono ?_; rintro e w' ⟨rfl, rfl⟩)
    go_ret
    exact ⟨rfl, rfl⟩
  · rw [if_neg h1] at h
    have h1' : decide (a < b) = false := decide_eq_false h1
    by_cases h2 : b < a
    · rw [if_pos h2] at h
      subst h
      go_enter Try.func65, Try.ntmps65
      go_wp2_with (go_at_call 79; refine (nan64 _ _).mono ?_; rintro e w' ⟨rfl, rfl⟩)
      go_ret
      exact ⟨rfl, rfl⟩
    · rw [if_neg h2] at h
      subst h
      have h2' : decide (b < a) = false := decide_eq_false h2
      go_enter Try.func65, Try.ntmps65
      go_wp2_with (go_at_call 79; refine (nan64 _ _).mono ?_; rintro e w' ⟨rfl, rfl⟩)
      go_ret
      exact ⟨rfl, rfl⟩
set_option maxHeartbeats 4000000 in
theorem scmp (A B p q : Nat) (m0 m1 n0 n1 C : Int) (w : World) (a0 : w.cell? ⟨A, p, none⟩ = some (.int .i64 m0)) (a1 : w.cell? ⟨A, p + 1, none⟩ = some (.int .i64 m1)) (b0 : w.cell? ⟨B, q, none⟩ = some (.int .i64 n0)) (b1 : w.cell? ⟨B, q + 1, none⟩ = some (.int .i64 n1))
    (hC : Hid ((if ci m0 n0 ≠ 0 then ci m0 n0 else ci m1 n1) = C)) : Calls Try.prog 56 #[.slice (some ⟨A, p, none⟩) 2 2, .slice (some ⟨B, q, none⟩) 2 2] w fun e w' => e = .returned (.int .i64 C) ∧ w' = w := by
  have h := hC.out
  obtain ⟨C0, e0⟩ : ∃ y, ci m0 n0 = y := ⟨_, rfl⟩
  obtain ⟨C1, e1⟩ : ∃ y, ci m1 n1 = y := ⟨_, rfl⟩
  rw [e0, e1] at h
  have E0 := hid e0
  have E1 := hid e1
  clear e0 e1 hC
  have tk1 : True := trivial
  by_cases hz : C0 = 0
  · subst hz
    simp only [ne_eq, not_true_eq_false, if_false] at h
    subst h
    by_cases hy : C1 = 0
    · subst hy
      go_enter Try.func56, Try.ntmps56
      go_wp2
      refine wp_loop_rounds 3 ?_
      rw [rounds_succ]; go_wp2_with (go_at_call 65; refine (cmp64 m0 n0 0 _ E0).mono ?_; rintro e w' ⟨rfl, rfl⟩)
      rw [rounds_succ]; go_wp2_with (go_at_call 65; refine (cmp64 m1 n1 0 _ E1).mono ?_; rintro e w' ⟨rfl, rfl⟩)
      rw [rounds_succ]; go_wp2
      go_ret
      exact ⟨rfl, rfl⟩
    · have hy' : (C1 == 0) = false := by simpa using hy
      go_enter Try.func56, Try.ntmps56
      go_wp2
      refine wp_loop_rounds 2 ?_
      rw [rounds_succ]; go_wp2_with (go_at_call 65; refine (cmp64 m0 n0 0 _ E0).mono ?_; rintro e w' ⟨rfl, rfl⟩)
      rw [rounds_succ]; go_wp2_with (go_at_call 65; refine (cmp64 m1 n1 C1 _ E1).mono ?_; rintro e w' ⟨rfl, rfl⟩)
      go_ret
      exact ⟨rfl, rfl⟩
  · have hz' : (C0 == 0) = false := by simpa using hz
    rw [if_pos hz] at h
    subst h
    go_enter Try.func56, Try.ntmps56
    go_wp2
    refine wp_loop_rounds 1 ?_
    rw [rounds_succ]; go_wp2_with (go_at_call 65; refine (cmp64 m0 n0 C0 _ E0).mono ?_; rintro e w' ⟨rfl, rfl⟩)
    go_ret
    exact ⟨rfl, rfl⟩

end Go.Proofs.Ytikgbcdmeikjfaa

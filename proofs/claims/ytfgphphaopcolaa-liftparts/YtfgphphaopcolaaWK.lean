/-
  The chapter's examples: what the law's own some and wakes return.
  Conditions: as each theorem states them.
-/
import Derived.Test.YtfgphphaopcolaaWJ
namespace Go.Proofs.Ytfgphphaopcolaa
open Go.ChangeShapes Go.WideShapes Go.ChangeAt Go.RowKit
set_option linter.unusedVariables false
set_option linter.unusedSimpArgs false

theorem cat_D6 {w : World} {b0 b1 b2 b3 : Nat} (h0 : w.heap[b0]? = some (.cells #[.int .i64 4, .int .i64 2] 3)) (h1 : w.heap[b1]? = some (.cells #[.int .i64 0, .int .i64 0, .int .i64 1, .int .i64 1] 3)) (h2 : w.heap[b2]? = some (.cells #[.slice (some ⟨b1, 0, none⟩) 4 4] 28)) (h3 : w.heap[b3]? = some (.cells #[.slice (some ⟨b0, 0, none⟩) 2 2, .slice (some ⟨b2, 0, none⟩) 1 1] 61)) :
    Cat w (some ⟨b3, 0, none⟩) 1 1 D6 := by
  obtain ⟨c0, c1⟩ := box_two h0
  obtain ⟨d0, d1, d2, d3⟩ := box4 h1
  have e0 : w.cell? ⟨b2, 0, none⟩ = some (.slice (some ⟨b1, 0, none⟩) 4 4) := by simp [World.cell?, h2]
  obtain ⟨f0, f1⟩ := box_two h3
  refine ⟨rfl, Nat.le_refl _, by decide, (fun e => by cases e), fun _ => ⟨b3, 0, rfl, heap_lt h3, fun j hj => ?_⟩⟩
  obtain rfl : j = 0 := by omega
  refine ⟨some ⟨b0, 0, none⟩, 2, 2, some ⟨b2, 0, none⟩, 1, 1, f0, f1, ⟨rfl, Nat.le_refl _, by decide, (fun e => by cases e), fun _ => ⟨b0, 0, rfl, heap_lt h0, fun i hi => ?_⟩⟩, ⟨rfl, Nat.le_refl _, by decide, (fun e => by cases e), fun _ => ⟨b2, 0, rfl, heap_lt h2, fun i hi => ?_⟩⟩, fun x hx => ?_, fun l hl x hx => ?_⟩
  · have : i = 0 ∨ i = 1 := by simp [D6] at hi; omega
    rcases this with rfl | rfl
    · exact c0
    · exact c1
  · obtain rfl : i = 0 := by omega
    refine ⟨some ⟨b1, 0, none⟩, 4, 4, e0, rfl, Nat.le_refl _, by decide, (fun e => by cases e), fun _ => ⟨b1, 0, rfl, heap_lt h1, fun q hq => ?_⟩⟩
    have : q = 0 ∨ q = 1 ∨ q = 2 ∨ q = 3 := by simp [D6] at hq; omega
    rcases this with rfl | rfl | rfl | rfl
    · exact d0
    · exact d1
    · exact d2
    · exact d3
  · simp [D6] at hx; unfold I64; omega
  · simp [D6] at hl; subst hl; simp at hx; unfold I64; omega

set_option maxHeartbeats 2000000 in
theorem some6 (w : World) : Calls Try.prog 27 #[] w fun e w' => (∃ a, e = .returned (.agg #[.slice a 1 1, .int .i64 1]) ∧ Cat w' a 1 1 D6) ∧ Below w.heap.size w w' := by
  go_enter Try.func27, Try.ntmps27
  go_wp2
  refine bodyPost_ret (v := .agg #[.slice (some ⟨w.heap.size + 4, 0, none⟩) 1 1, .int .i64 1]) (by simp [results, Try.results27, go_sem]) rfl ⟨⟨_, rfl, ?_⟩, ?_⟩
  · refine cat_D6 (b0 := w.heap.size + 1) (b1 := w.heap.size + 2) (b2 := w.heap.size + 3) ?_ ?_ ?_ ?_ <;> simp only [heap_alloc2, World.size_alloc]
    · rw [if_neg (by omega), if_neg (by omega), if_neg (by omega)]; simp
    · rw [if_neg (by omega), if_neg (by omega)]; simp
    · rw [if_neg (by omega)]; simp
    · simp
  · exact (((((Below.refl _ _).alloc (Nat.le_refl _) _).alloc (by simp) _).alloc (by simp; omega) _).alloc (by simp; omega) _).alloc (by simp; omega) _

theorem to_wake (a : Option Addr) (w : World) (hc : Cat w a 1 1 D6) :
    Calls Try.prog 11 #[.agg #[.slice a 1 1, .int .i64 1], .agg #[.int .u8 0, .int .u8 0, .int .u8 0, .int .u8 0], .agg #[.int .u8 1, .int .u8 0, .int .u8 0, .int .u8 0], .agg #[.int .u8 3, .int .u8 0, .int .u8 0, .int .u8 0]] w
      fun e w' => e = .returned (.tuple #[.agg #[.int .u8 1, .int .u8 0, .int .u8 0, .int .u8 0], .bool true]) ∧ Below w.heap.size w w' := by
  have := lto_any a 1 1 D6 1 0 0 0 0 1 0 0 0 3 0 0 0 w hc i64_1' u8_a u8_b u8_c
  rw [toB_D6] at this
  unfold n4 at this
  rw [toR_D6.1, toR_D6.2.1, toR_D6.2.2.1, toR_D6.2.2.2] at this
  exact this
/-- Two places, read. -/
def Two (e : Ending) (w' : World) : Prop := ∃ b off cap, e = .returned (.slice (some ⟨b, off, none⟩) 2 cap) ∧ b < w'.heap.size ∧
  (w'.cell? ⟨b, off, none⟩ = some (.int .u8 2) ∧ w'.cell? ⟨b, off + 1, none⟩ = some (.int .u8 0) ∧ w'.cell? ⟨b, off + 2, none⟩ = some (.int .u8 0) ∧ w'.cell? ⟨b, off + 3, none⟩ = some (.int .u8 0)) ∧
  (w'.cell? ⟨b, off + 4, none⟩ = some (.int .u8 3) ∧ w'.cell? ⟨b, off + 5, none⟩ = some (.int .u8 0) ∧ w'.cell? ⟨b, off + 6, none⟩ = some (.int .u8 0) ∧ w'.cell? ⟨b, off + 7, none⟩ = some (.int .u8 0))
theorem fiber_wake (a : Option Addr) (w : World) (hc : Cat w a 1 1 D6) :
    Calls Try.prog 16 #[.agg #[.slice a 1 1, .int .i64 1], .agg #[.int .u8 1, .int .u8 0, .int .u8 0, .int .u8 0], .agg #[.int .u8 1, .int .u8 0, .int .u8 0, .int .u8 0], .agg #[.int .u8 0, .int .u8 0, .int .u8 0, .int .u8 0]] w
      fun e w' => Two e w' ∧ Below w.heap.size w w' := by
  refine (lfiber_any a 1 1 D6 1 1 0 0 0 1 0 0 0 0 0 0 0 w hc i64_1' u8_b u8_b u8_a).mono ?_
  rintro e w' ⟨⟨a', n', c', rfl, hr⟩, hb⟩
  rw [fib_D6] at hr
  obtain ⟨b, off, rfl, hlt, c0, c1, c2, c3⟩ := hr.at (k := 0) rfl
  obtain ⟨b', off', e', _, d0, d1, d2, d3⟩ := hr.at (k := 1) rfl
  cases e'
  obtain rfl : n' = 2 := hr.1
  exact ⟨⟨b, off, c', rfl, hlt, ⟨c0, c1, c2, c3⟩, d0, d1, d2, d3⟩, hb⟩
theorem row_one (w : World) (x : Int) (t : TypeId) : IRow .i64 (w.alloc (.cells #[.int .i64 x] t)) (some ⟨w.heap.size, 0, none⟩) 1 1 [x] := by
  refine ⟨rfl, Nat.le_refl _, by decide, (fun h => by cases h), fun _ => ⟨w.heap.size, 0, rfl, by simp, fun j hj => ?_⟩⟩
  obtain rfl : j = 0 := by simp at hj; omega
  simp [go_sem]
theorem within_m (a : Option Addr) (n c : Nat) (ds : Dims) (M v0 v1 v2 v3 x0 x1 x2 x3 d L : Int) (ma : Option Addr) (ml mc : Nat) (Ms : List Int) (v : Bool) (w : World) (hc : Cat w a n c ds) (hM : I64 M) (hV : ∀ x ∈ [v0, v1, v2, v3], U8 x) (hA : ∀ x ∈ [x0, x1, x2, x3], U8 x) (hd : I64 d) (hL : I64 L) (hm : IRow .i64 w ma ml mc Ms) (hv : Hid (wthn ds M [v0, v1, v2, v3] [x0, x1, x2, x3] d L Ms = v)) :
    Calls Try.prog 13 #[.agg #[.slice a n c, .int .i64 M], .agg #[.int .u8 v0, .int .u8 v1, .int .u8 v2, .int .u8 v3], .agg #[.int .u8 x0, .int .u8 x1, .int .u8 x2, .int .u8 x3], .agg #[.int .i64 d, .int .i64 L, .slice ma ml mc]] w
      fun e w' => e = .returned (.bool v) ∧ Below w.heap.size w w' := by
  have := lwithin_any a n c ds M v0 v1 v2 v3 x0 x1 x2 x3 d L ma ml mc Ms w hc hM hV hA hd hL hm
  rw [hv.out] at this
  exact this
theorem within_wake (a : Option Addr) (x : Int) (t : TypeId) (v : Bool) (w : World) (hc : Cat w a 1 1 D6) (hv : Hid (wthn D6 1 [0, 0, 0, 0] [3, 0, 0, 0] 0 1 [x] = v)) :
    Calls Try.prog 13 #[.agg #[.slice a 1 1, .int .i64 1], .agg #[.int .u8 0, .int .u8 0, .int .u8 0, .int .u8 0], .agg #[.int .u8 3, .int .u8 0, .int .u8 0, .int .u8 0], .agg #[.int .i64 0, .int .i64 1, .slice (some ⟨w.heap.size, 0, none⟩) 1 1]] (w.alloc (.cells #[.int .i64 x] t))
      fun e w' => e = .returned (.bool v) ∧ Below w.heap.size w w' := by
  have h0 : Below w.heap.size w (w.alloc (.cells #[.int .i64 x] t)) := (Below.refl _ _).alloc (Nat.le_refl _) _
  refine (within_m a 1 1 D6 1 0 0 0 0 3 0 0 0 0 1 _ 1 1 [x] v _ (hc.below h0) i64_1' u8_a u8_c i64_0' i64_1' (row_one w x t) hv).mono ?_
  rintro e w' ⟨rfl, hb⟩
  exact ⟨rfl, bt h0 hb⟩
/-- The catalog in its block. -/
def B6 (w wr : World) (P : Nat) (a : Option Addr) : Prop := P < wr.heap.size ∧ Below w.heap.size w wr ∧ wr.cell? ⟨P, 0, none⟩ = some (.slice a 1 1) ∧ wr.cell? ⟨P, 1, none⟩ = some (.int .i64 1) ∧ Cat wr a 1 1 D6
theorem B6.step {w wr w' : World} {P : Nat} {a : Option Addr} (h : B6 w wr P a) (hb : Below wr.heap.size wr w') : B6 w w' P a := by
  obtain ⟨h1, h2, h3, h4, h5⟩ := h
  exact ⟨Nat.lt_of_lt_of_le h1 hb.size, bt h2 hb, ((bcell hb).1 _ _ h1).trans h3, ((bcell hb).1 _ _ h1).trans h4, h5.below hb⟩
theorem b6_new {w w1 : World} {a : Option Addr} (hb : Below w.heap.size w w1) (hc : Cat w1 a 1 1 D6) : B6 w (w1.alloc (.cells #[.slice a 1 1, .int .i64 1] 24)) w1.heap.size a := by
  have h0 : Below w1.heap.size w1 (w1.alloc (.cells #[.slice a 1 1, .int .i64 1] 24)) := (Below.refl _ _).alloc (Nat.le_refl _) _
  obtain ⟨c0, c1⟩ := box_two (heap_alloc_new w1 (.cells #[.slice a 1 1, .int .i64 1] 24))
  exact ⟨by simp, bt hb h0, c0, c1, hc.below h0⟩

set_option maxHeartbeats 8000000 in
set_option maxRecDepth 100000 in
theorem wakes6 (w : World) : Calls Try.prog 9 #[] w fun e w' => e = .returned (.bool true) ∧ Below w.heap.size w w' := by
  have t1 : True := trivial
  have eqn := eqC
  have HW1 := hid win_D6
  have HW2 := hid win_D6'
  go_enter Try.func9, Try.ntmps9
  go_wp2_with (first
    | (go_at_call 27; refine (some6 _).mono ?_; rintro e w1 ⟨⟨a, rfl, hc⟩, hb1⟩; have X1 := hid (b6_new hb1 hc); clear hc)
    | (go_at_call 11; refine (to_wake _ _ X1.out.2.2.2.2).mono ?_; rintro e w2 ⟨rfl, hb2⟩; have X2 := hid ((X1.out.step hb2).step ((Below.refl _ _).alloc (Nat.le_refl _) (.cells #[.int .u8 1, .int .u8 0, .int .u8 0, .int .u8 0] 27))); have Y2 := hid (heap_alloc_new w2 (.cells #[.int .u8 1, .int .u8 0, .int .u8 0, .int .u8 0] 27)); obtain ⟨z2, _, x0, x1, _⟩ := X2.out)
    | (go_at_call 16; refine (fiber_wake _ _ X2.out.2.2.2.2).mono ?_; rintro e w3 ⟨⟨b, off, cap, rfl, hlt, ⟨k0, k1, k2, k3⟩, k4, k5, k6, k7⟩, hb3⟩; have X3 := hid (X2.out.step hb3); obtain ⟨p0, p1, p2, p3⟩ := box4 (keep_blk Y2.out hb3); obtain ⟨z3, _, x2, x3, _⟩ := X3.out)
    | (go_at_call 13; clear t1; refine (within_wake _ 1 _ _ _ X3.out.2.2.2.2 HW1).mono ?_; rintro e w4 ⟨rfl, hb4⟩; have X4 := hid (X3.out.step hb4); obtain ⟨z4, _, x4, x5, _⟩ := X4.out)
    | (go_at_call 13; refine (within_wake _ 0 _ _ _ X4.out.2.2.2.2 HW2).mono ?_; rintro e w5 ⟨rfl, hb5⟩; have X5 := hid (X4.out.step hb5)))
  go_ret
  exact ⟨rfl, X5.out.2.1⟩

end Go.Proofs.Ytfgphphaopcolaa

/-
  The chapter's examples: what the law's own wakes returns.
  Conditions: as each theorem states them.
-/
import Derived.Test.YtikgbcdmeikjfaaRG
import Derived.Test.YtikgbcdmeikjfaaRK
import Derived.Test.YtikgbcdmeikjfaaRL
namespace Go.Proofs.Ytikgbcdmeikjfaa
open Go.ChangeShapes Go.WideShapes Go.ChangeAt Go.RowKit
set_option linter.unusedVariables false
set_option linter.unusedSimpArgs false
set_option maxRecDepth 100000

def D2 : Dims := [([2], [])]
def R1 : Rw := (1, 0, 0, 0, -1, 5)
theorem rok1 : rok R1 := ⟨⟨⟨by decide, by decide⟩, ⟨by decide, by decide⟩, ⟨by decide, by decide⟩, ⟨by decide, by decide⟩⟩, ⟨by decide, by decide⟩, ⟨by decide, by decide⟩⟩
theorem rok0 : rok (0, 0, 0, 0, 0, 0) := ⟨⟨⟨by decide, by decide⟩, ⟨by decide, by decide⟩, ⟨by decide, by decide⟩, ⟨by decide, by decide⟩⟩, ⟨by decide, by decide⟩, ⟨by decide, by decide⟩⟩
theorem bts1 : bts R1 = [1, 0, 0, 0, 1, 10] := by decide
theorem rdR1 : rdR [1, 0, 0, 0, 1, 10, 9] = (1, 0, 0, 0, -1, 5) := by decide
theorem rdN1 : rdN [1, 0, 0, 0, 1, 10, 9] = 6 := by decide
theorem rdB1 : rdB [1, 0, 0, 0, 1, 10, 9] = true := by decide
theorem grow1 : growC D2 2 (1, 0, 0, 0, -1, 5) = true := by decide
theorem grow0 : growC [] 0 (1, 0, 0, 0, -1, 5) = false := by decide
theorem mok1 : mok [R1, R1] = true ∧ mv0 [R1, R1] = 2 ∧ mv1 [R1, R1] = 10 := by decide
theorem rlt1 : rlt (0, 0, 0, 0, 0, 0) (1, 0, 0, 0, -1, 5) = true := by decide
theorem txt1 : txt [1, 0, 0, 0, 1, 10] = ⟨#[1, 0, 0, 0, 1, 10]⟩ := rfl
abbrev r1c : Array Value := #[.int .u8 1, .int .u8 0, .int .u8 0, .int .u8 0, .int .i64 (-1), .int .i64 5]
/-- The row and the catalog, in blocks behind a world. -/
def Wk (w wr : World) : Prop := Below w.heap.size w wr ∧ wr.heap[w.heap.size]? = some (.cells r1c 33) ∧ wr.heap[w.heap.size + 3]? = some (.cells #[.slice (some ⟨w.heap.size + 2, 0, none⟩) 1 1, .int .i64 2] 24) ∧ Cat wr (some ⟨w.heap.size + 2, 0, none⟩) 1 1 D2
theorem Wk.step {w wr w' : World} (h : Wk w wr) (hb : Below wr.heap.size wr w') : Wk w w' := ⟨bt h.1 hb, keep_blk h.2.1 hb, keep_blk h.2.2.1 hb, h.2.2.2.below hb⟩
theorem wk_new (w : World) : Wk w ((((w.alloc (.cells r1c 33)).alloc (.cells #[.int .i64 2] 3)).alloc (.cells #[.slice (some ⟨w.heap.size + 1, 0, none⟩) 1 1, .slice none 0 0] 63)).alloc (.cells #[.slice (some ⟨w.heap.size + 2, 0, none⟩) 1 1, .int .i64 2] 24)) := by
  refine ⟨((((Below.refl _ _).alloc (Nat.le_refl _) _).alloc (by simp) _).alloc (by simp; omega) _).alloc (by simp; omega) _, ?_, ?_, rfl, Nat.le_refl _, by decide, (fun e => by cases e), fun _ => ⟨w.heap.size + 2, 0, rfl, by simp, fun j hj => ?_⟩⟩
  · rw [Below.heap_alloc _ _ _ (by simp; omega), Below.heap_alloc _ _ _ (by simp; omega), Below.heap_alloc _ _ _ (by simp)]; exact heap_alloc_new _ _
  · have := heap_alloc_new (((w.alloc (.cells r1c 33)).alloc (.cells #[.int .i64 2] 3)).alloc (.cells #[.slice (some ⟨w.heap.size + 1, 0, none⟩) 1 1, .slice none 0 0] 63)) (.cells #[.slice (some ⟨w.heap.size + 2, 0, none⟩) 1 1, .int .i64 2] 24); simpa using this
  obtain rfl : j = 0 := by omega
  refine ⟨some ⟨w.heap.size + 1, 0, none⟩, 1, 1, none, 0, 0, by simp [go_sem], by simp [go_sem], ⟨rfl, Nat.le_refl _, by decide, (fun e => by cases e), fun _ => ⟨w.heap.size + 1, 0, rfl, by simp only [World.size_alloc]; omega, fun i hi => ?_⟩⟩, rows_nil _ _, fun x hx => ?_, fun l hl => by simp [D2] at hl⟩
  · obtain rfl : i = 0 := by simp [D2] at hi; omega
    simp [go_sem, D2]
  · simp [D2] at hx; subst hx; unfold I64; omega
theorem row8_7n (w : World) (N : Nat) (hN : w.heap.size = N) : code.Row8 (w.alloc (.cells #[.int .u8 1, .int .u8 0, .int .u8 0, .int .u8 0, .int .u8 1, .int .u8 10, .int .u8 9] 5)) (some ⟨N, 0, none⟩) 7 7 [1, 0, 0, 0, 1, 10, 9] := by
  subst hN; exact row8_new w [1, 0, 0, 0, 1, 10, 9] (by intro x hx; simp at hx; unfold U8; omega) (by decide)
/-- Two rows in a new block. -/
theorem rrow_two (w : World) (r s : Rw) (N : Nat) (hN : w.heap.size = N) (t : TypeId) : RRow (w.alloc (.cells (rcs r ++ rcs s).toArray t)) (some ⟨N, 0, none⟩) 2 2 [r, s] := by
  subst hN
  refine ⟨rfl, Nat.le_refl _, by decide, (fun e => by cases e), fun _ => ⟨w.heap.size, 0, rfl, by simp, fun j q hj i v hi => ?_⟩⟩
  have hg := heap_alloc_new w (.cells (rcs r ++ rcs s).toArray t)
  rw [cell_of_row _ _ _ _ t (0, 0) hg]
  obtain ⟨a, b, c, d, e, f⟩ := r
  obtain ⟨a', b', c', d', e', f'⟩ := s
  match j, hj with
  | 0, hj =>
    simp at hj; subst hj
    match i, hi with
    | 0, hi => exact hi
    | 1, hi => exact hi
    | 2, hi => exact hi
    | 3, hi => exact hi
    | 4, hi => exact hi
    | 5, hi => exact hi
    | i + 6, hi => simp [rcs] at hi
  | 1, hj =>
    simp at hj; subst hj
    match i, hi with
    | 0, hi => exact hi
    | 1, hi => exact hi
    | 2, hi => exact hi
    | 3, hi => exact hi
    | 4, hi => exact hi
    | 5, hi => exact hi
    | i + 6, hi => simp [rcs] at hi
theorem cat_none (w : World) : Cat w none 0 0 [] := ⟨rfl, Nat.le_refl _, by decide, fun _ => rfl, fun h => by cases h⟩
theorem wk_step1 {w wr w' : World} {o : Obj} (h : Wk w wr) (hb : Below (wr.alloc o).heap.size (wr.alloc o) w') : Wk w w' := h.step (bt ((Below.refl _ _).alloc (Nat.le_refl _) _) hb)

set_option maxHeartbeats 4000000 in
theorem wakes_any (w : World) : Calls Try.prog 10 #[] w fun e w' => e = .returned (.bool true) ∧ Below w.heap.size w w' := by
  have X0 := hid (wk_new w)
  have t1 : True := trivial
  go_enter Try.func10, Try.ntmps10
  go_upto_region 3 with fail
  generalize ((((w.alloc (.cells r1c 33)).alloc (.cells #[.int .i64 2] 3)).alloc (.cells #[.slice (some ⟨w.heap.size + 1, 0, none⟩) 1 1, .slice none 0 0] 63)).alloc (.cells #[.slice (some ⟨w.heap.size + 2, 0, none⟩) 1 1, .int .i64 2] 24)) = W0 at X0 ⊢
  go_upto_region 4 with (first
    | (go_at_call 24; refine (read_m _ 7 7 [1, 0, 0, 0, 1, 10, 9] 1 0 0 0 (-1) 5 6 true _ (row8_7n W0 _ rfl) (hid rdR1) (hid rdN1) (hid rdB1)).mono ?_; rintro e w1 ⟨rfl, hb1⟩; have X1 := hid (wk_step1 X0.out hb1); clear hb1))
  have X2 := hid (X1.out.step ((Below.refl _ _).alloc (Nat.le_refl _) (.cells r1c 33)))
  have Y2 := hid (heap_alloc_new w1 (.cells r1c 33))
  generalize (w1.alloc (.cells r1c 33)) = W2 at X2 Y2 ⊢
  obtain ⟨c0, c1, c2, c3, c4, c5⟩ := box6 X2.out.2.1
  have hlt2 : w.heap.size < W2.heap.size := heap_lt X2.out.2.1
  go_upto_region 5 with (first
    | (go_at_call 19; refine (mass_m _ 2 2 [R1, R1] 2 10 true _ (rrow_two W2 R1 R1 _ rfl _) (by intro r hr; simp at hr; subst hr; exact rok1) (hid mok1.2.1) (hid mok1.2.2) (hid mok1.1)).mono ?_; rintro e w3 ⟨rfl, hb3⟩; have X3 := hid (wk_step1 X2.out hb3); have Y3 := hid (keep_blk Y2.out (bt ((Below.refl _ _).alloc (Nat.le_refl _) _) hb3)); clear hb3))
  have X4 := hid (X3.out.step ((Below.refl _ _).alloc (Nat.le_refl _) (.cells #[.int .i64 2, .int .i64 10] 31)))
  have Y4 := hid (keep_blk Y3.out ((Below.refl _ _).alloc (Nat.le_refl _) (.cells #[.int .i64 2, .int .i64 10] 31)))
  have Z4 := hid (heap_alloc_new w3 (.cells #[.int .i64 2, .int .i64 10] 31))
  generalize (w3.alloc (.cells #[.int .i64 2, .int .i64 10] 31)) = W4 at X4 Y4 Z4 ⊢
  clear c0 c1 c2 c3 c4 c5
  obtain ⟨c0, c1, c2, c3, c4, c5⟩ := box6 X4.out.2.1
  have t2 : True := trivial
  have qrr : qr (1, 0, 0, 0, -1, 5) (1, 0, 0, 0, -1, 5) = true := by decide
  have eqn := eqR6
  have SC : Hid (∀ x, Below W4.heap.size W4 x → (x.cell? ⟨w.heap.size, 0, none⟩ = some (.int .u8 1) ∧ x.cell? ⟨w.heap.size, 1, none⟩ = some (.int .u8 0) ∧ x.cell? ⟨w.heap.size, 2, none⟩ = some (.int .u8 0) ∧ x.cell? ⟨w.heap.size, 3, none⟩ = some (.int .u8 0) ∧ x.cell? ⟨w.heap.size, 4, none⟩ = some (.int .i64 (-1)) ∧ x.cell? ⟨w.heap.size, 5, none⟩ = some (.int .i64 5)) ∧
      (x.cell? ⟨w1.heap.size, 0, none⟩ = some (.int .u8 1) ∧ x.cell? ⟨w1.heap.size, 1, none⟩ = some (.int .u8 0) ∧ x.cell? ⟨w1.heap.size, 2, none⟩ = some (.int .u8 0) ∧ x.cell? ⟨w1.heap.size, 3, none⟩ = some (.int .u8 0) ∧ x.cell? ⟨w1.heap.size, 4, none⟩ = some (.int .i64 (-1)) ∧ x.cell? ⟨w1.heap.size, 5, none⟩ = some (.int .i64 5)) ∧
      (x.cell? ⟨w.heap.size + 1 + 1 + 1, 0, none⟩ = some (.slice (some ⟨w.heap.size + 1 + 1, 0, none⟩) 1 1) ∧ x.cell? ⟨w.heap.size + 1 + 1 + 1, 1, none⟩ = some (.int .i64 2)) ∧
      x.cell? ⟨w3.heap.size, 0, none⟩ = some (.int .i64 2) ∧ x.cell? ⟨w3.heap.size, 1, none⟩ = some (.int .i64 10)) := hid fun x h => ⟨box6 (X4.out.step h).2.1, box6 (keep_blk Y4.out h), box_two (X4.out.step h).2.2.1, box_two (keep_blk Z4.out h)⟩
  have hL1 : Hid ((bts (1, 0, 0, 0, -1, 5)).length = 6) := hid (by decide)
  go_wp2_with (first
    | (go_at_call 22; refine (rbytes_m 1 0 0 0 (-1) 5 6 _ rok1 hL1).mono ?_; rintro e w5 ⟨⟨g5, rfl, hr5⟩, hb5⟩; rw [show bts (1, 0, 0, 0, -1, 5) = [1, 0, 0, 0, 1, 10] from bts1] at hr5; have cv := conv8 hr5; rw [txt1] at cv; have B5 := hid hb5; obtain ⟨⟨d0, d1, d2, d3, d4, d5⟩, ⟨e0, e1, e2, e3, e4, e5⟩, ⟨f0, f1⟩, g0, g1⟩ := SC.out _ hb5; clear hb5 hr5)
    | (go_at_call 11; clear t1; refine (grow_m _ 1 1 D2 2 1 0 0 0 (-1) 5 true _ (X4.out.step B5.out).2.2.2 ⟨by decide, by decide⟩ rok1 (hid grow1)).mono ?_; rintro e w6 ⟨rfl, hb6⟩; have B6 := hid (bt B5.out hb6); obtain ⟨⟨h0, h1, h2, h3, h4, h5⟩, _, _, _, _⟩ := SC.out _ (bt B5.out hb6); clear hb6)
    | (go_at_call 11; refine (grow_m none 0 0 [] 0 1 0 0 0 (-1) 5 false _ (cat_none _) ⟨by decide, by decide⟩ rok1 (hid grow0)).mono ?_; rintro e w7 ⟨rfl, hb7⟩; have B7 := hid (bt B6.out hb7); obtain ⟨⟨i0, i1, i2, i3, i4, i5⟩, _, _, k0, k1⟩ := SC.out _ (bt B6.out hb7); clear hb7)
    | (go_at_call 13; refine (less_m 0 0 0 0 0 0 1 0 0 0 (-1) 5 true _ rok0 rok1 (hid rlt1)).mono ?_; rintro e w8 ⟨rfl, hb8⟩; have B8 := hid (bt B7.out hb8); clear hb8))
  go_ret
  exact ⟨rfl, (X4.out.step B8.out).1⟩

end Go.Proofs.Ytikgbcdmeikjfaa

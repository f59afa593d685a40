/-
  The chapter's examples: what the law's own wakes returns; slices written out.
  Conditions: as each theorem states them.
-/
import Derived.Test.YtgmnnpecihcdhabBU
namespace Go.Proofs.Ytgmnnpecihcdhab
open Go.ChangeShapes Go.WideShapes Go.ChangeAt Go.RowKit
set_option linter.unusedVariables false
set_option linter.unusedSimpArgs false
set_option maxRecDepth 100000

/-- Whole numbers written out, in a new block. -/
theorem irow_lit (w : World) (N : Nat) (l : List Int) (t : TypeId) (hN : w.heap.size = N) (hl : l.length ≤ 1000000) : IRow .i64 (w.alloc (.cells (vals .i64 l).toArray t)) (some ⟨N, 0, none⟩) l.length l.length l := by
  refine ⟨rfl, Nat.le_refl _, by unfold maxLen; omega, (fun e => by cases e), fun _ => ⟨N, 0, rfl, by simp; omega, fun j hj => ?_⟩⟩
  rw [cell_of_row _ _ _ _ t (0, 0) (hnew hN)]
  simp [vals, List.getD_eq_getElem?_getD, List.getElem?_eq_getElem hj]
/-- One run written out, in a new block. -/
theorem nrun_one (w : World) (N : Nat) (p q : Int) (t : TypeId) (hN : w.heap.size = N) : NRun (w.alloc (.cells #[.int .i64 p, .int .i64 q] t)) (some ⟨N, 0, none⟩) 1 1 [(p, q)] :=
  nrun_heap (l := [(p, q)]) (t := t) (hnew hN) (by simp)
theorem nok1 {p q : Int} (hp : I64 p) (hq : I64 q) : ∀ r ∈ [(p, q)], nok r := by
  intro r hr
  simp at hr; subst hr
  exact ⟨hp, hq⟩
theorem nok2 {p q x y : Int} (hp : I64 p) (hq : I64 q) (hx : I64 x) (hy : I64 y) : ∀ r ∈ [(p, q), (x, y)], nok r := by
  intro r hr
  simp at hr
  rcases hr with rfl | rfl
  · exact ⟨hp, hq⟩
  · exact ⟨hx, hy⟩
theorem i64n {x : Int} (h : -9223372036854775808 ≤ x ∧ x ≤ 9223372036854775807) : I64 x := h
def W2 : List Rn := [(1, 1), (3, 2)]
theorem okW2 : ∀ r ∈ W2, nok r := nok2 (i64n (by decide)) (i64n (by decide)) (i64n (by decide)) (i64n (by decide))
theorem ok31 : ∀ r ∈ [((3 : Int), (1 : Int))], nok r := nok1 (i64n (by decide)) (i64n (by decide))
theorem ok12 : ∀ r ∈ [((1 : Int), (2 : Int))], nok r := nok1 (i64n (by decide)) (i64n (by decide))
theorem okM2 : ∀ r ∈ [((1 : Int), (1 : Int)), (3, 1)], nok r := nok2 (i64n (by decide)) (i64n (by decide)) (i64n (by decide)) (i64n (by decide))
theorem ok10 : ∀ r ∈ [((1 : Int), (0 : Int))], nok r := nok1 (i64n (by decide)) (i64n (by decide))
theorem wof1 : bagOf [3, 1, 3] = W2 := by decide
theorem wof2 : bagOf [3] = [(3, 1)] := by decide
theorem wof3 : bagOf [1, 1] = [(1, 2)] := by decide
theorem wsum1 : sv W2 = 7 ∧ sb W2 = true := by decide
theorem wmin1 : Ml W2 [(3, 1)] = [(1, 1), (3, 1)] ∧ Mn W2 [(3, 1)] = true := by decide
theorem wmin2 : Ml W2 [(1, 2)] = [] ∧ Mn W2 [(1, 2)] = false := by decide
theorem whas1 : hs 3 [(1, 1), (3, 1)] = 1 := by decide
theorem wgd1 : gd W2 = true ∧ tl W2 = 3 ∧ gd [(1, 0)] = false := by decide

set_option maxHeartbeats 8000000 in
theorem wakes_any (w : World) : Calls Try.prog 8 #[] w fun e w' => e = .returned (.bool true) ∧ Below w.heap.size w w' := by
  have t1 : True := trivial
  have t2 : True := trivial
  have t3 : True := trivial
  have t4 : True := trivial
  have eqn := eqN2
  have q32 : qn 3 2 3 2 = true := by decide
  go_enter Try.func8, Try.ntmps8
  go_upto_region 2 with (first
    | (go_at_call 24; refine (of_m _ 3 3 2 [3, 1, 3] W2 _ (irow_lit _ _ [3, 1, 3] 2 (by first | rfl | simp) (by decide)) (by decide) (hid wof1) (hid rfl)).mono ?_; rintro e w1 ⟨⟨A1, c1, rfl, hn1⟩, hb1⟩; have N1 := hid hn1; have B1 := hid (bt (b1alloc _ _) hb1); clear hn1 hb1))
  go_upto_region 3 with (first
    | (go_at_call 26; refine (bsum_m A1 2 c1 W2 7 true _ N1.out okW2 (hid wsum1.1) (hid wsum1.2)).mono ?_; rintro e w2 ⟨rfl, hb2⟩; have N2 := hid (N1.out.below hb2); have B2 := hid (bt B1.out hb2); clear hb2))
  go_upto_region 4 with (first
    | (go_at_call 24; refine (of_m _ 1 1 1 [3] [(3, 1)] _ (irow_lit _ _ [3] 2 (by first | rfl | simp) (by decide)) (by decide) (hid wof2) (hid rfl)).mono ?_; rintro e w3 ⟨⟨A3, c3, rfl, hn3⟩, hb3⟩; have P3 := hid hn3; have b3 := bt (b1alloc _ _) hb3; have N3 := hid (N2.out.below b3); have B3 := hid (bt B2.out b3); clear hn3 hb3 b3)
    | (go_at_call 19; refine (minus_m A1 A3 2 c1 1 c3 2 W2 [(3, 1)] [(1, 1), (3, 1)] true _ N3.out P3.out okW2 ok31 (by decide) (by decide) (hid wmin1.1) (hid wmin1.2) (hid rfl)).mono ?_; rintro e w4 ⟨⟨A4, c4, rfl, hn4⟩, hb4⟩; have P4 := hid hn4; have N4 := hid (N3.out.below hb4); have B4 := hid (bt B3.out hb4); clear hn4 hb4))
  go_upto_region 5 with (first
    | (go_at_call 24; refine (of_m _ 2 2 1 [1, 1] [(1, 2)] _ (irow_lit _ _ [1, 1] 2 (by first | rfl | simp) (by decide)) (by decide) (hid wof3) (hid rfl)).mono ?_; rintro e w5 ⟨⟨A5, c5, rfl, hn5⟩, hb5⟩; have P5 := hid hn5; have b5 := bt (b1alloc _ _) hb5; have N5 := hid (N4.out.below b5); have M5 := hid (P4.out.below b5); have B5 := hid (bt B4.out b5); clear hn5 hb5 b5)
    | (go_at_call 19; refine (minus_m A1 A5 2 c1 1 c5 0 W2 [(1, 2)] [] false _ N5.out P5.out okW2 ok12 (by decide) (by decide) (hid wmin2.1) (hid wmin2.2) (hid rfl)).mono ?_; rintro e w6 ⟨⟨A6, c6, rfl, hn6⟩, hb6⟩; have N6 := hid (N5.out.below hb6); have M6 := hid (M5.out.below hb6); have B6 := hid (bt B5.out hb6); clear hn6 hb6))
  obtain ⟨b, off, x0, x1, e1, hb, hr, p0, p1⟩ := N6.out.pick (Below.refl _ w6) (k := 1) (by decide)
  simp [W2] at hr
  obtain ⟨rfl, rfl⟩ := hr
  subst e1
  simp only [Nat.one_mul] at p0 p1
  clear t1 t2
  go_wp2_with (first
    | (go_at_call 16; refine (has_m A4 2 c4 [(1, 1), (3, 1)] 3 1 _ M6.out okM2 (by decide) (hid whas1)).mono ?_; rintro e w7 ⟨rfl, hb7⟩; have N7 := hid (N6.out.below hb7); have B7 := hid (bt B6.out hb7); clear hb7)
    | (go_at_call 10; clear t3; refine (good_m _ 2 c1 W2 true _ N7.out okW2 (hid wgd1.1)).mono ?_; rintro e w8 ⟨rfl, hb8⟩; have N8 := hid (N7.out.below hb8); have B8 := hid (bt B7.out hb8); clear hb8)
    | (go_at_call 12; refine (count_m _ 2 c1 W2 3 _ N8.out okW2 (hid wgd1.2.1)).mono ?_; rintro e w9 ⟨rfl, hb9⟩; have B9 := hid (bt B8.out hb9); clear hb9)
    | (go_at_call 10; refine (good_m _ 1 1 [(1, 0)] false _ (nrun_one _ _ 1 0 47 (by first | rfl | simp)) ok10 (hid wgd1.2.2)).mono ?_; rintro e wa ⟨rfl, hba⟩; have Ba := hid (bt B9.out (bt (b1alloc _ _) hba)); clear hba))
  go_ret
  exact ⟨rfl, Ba.out⟩

end Go.Proofs.Ytgmnnpecihcdhab

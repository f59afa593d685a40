/-
  What the number of the document's own reader returns.
  Conditions: as each theorem states them.
-/
import Derived.Test.YtmlnfpefemchhaaSM
import Derived.Test.YtmlnfpefemchhaaCG
namespace Go.Proofs.Ytmlnfpefemchhaa
open Go.ChangeShapes Go.WideShapes Go.ChangeAt Go.RowKit
set_option linter.unusedVariables false
set_option linter.unusedSimpArgs false

theorem rget_m (a : Option Addr) (len cap : Nat) (l : List Int) (w : World) (V N : Int) (h : code.Row8 w a len cap l) (hV : Hid (code.getV l = V)) (hN : Hid (code.getN l = N)) :
    Calls Try.prog 65 #[.slice a len cap] w fun e w' => e = .returned (.tuple #[.int .u64 V, .int .i64 N]) ∧ w' = w := by
  have := code.rget_any a len cap l w h
  rw [hV.out, hN.out] at this
  exact this

set_option maxHeartbeats 400000 in
theorem rnum_ok (w0 : World) (B b off n c : Nat) (l : List Int) (x : Int) (w : World) (h2 : B < w.heap.size) (h4 : w.frozen? ⟨B, 0, none⟩ = false) (h5 : w.frozen? ⟨B, 1, none⟩ = false)
    (c0 : w.cell? ⟨B, 0, none⟩ = some (.slice (some ⟨b, off, none⟩) n c)) (HR : Hid (code.Row8 w0 (some ⟨b, off, none⟩) n c l)) (HB : Hid (Below w0.heap.size w0 w))
    (HGV : Hid (code.getV l = x)) (HGN : Hid (code.getN l = 1)) (hx0 : 0 ≤ x) (hx : x ≤ 40) (hn1 : 1 ≤ n) (hnc : n ≤ c) (hcm : c ≤ 9223372036854775807) :
    Calls Try.prog 50 #[.pointer (some ⟨B, 0, none⟩)] w fun e w' => e = .returned (.int .i64 x) ∧ w' = w.setCell ⟨B, 0, none⟩ (.slice (some (if c = 1 then ⟨b, off, none⟩ else ⟨b, off + 1, none⟩)) (n - 1) (c - 1)) := by
  have wx : IntKind.i64.wrap x = x := IntWalk.i64_in _ (by omega)
  have hx2 : decide (40 < x) = false := decide_eq_false (by omega)
  have hn2 : (1 : Int) ≤ (n : Int) := by omega
  by_cases hc1 : c = 1
  · subst hc1
    obtain rfl : n = 1 := by omega
    have HGT : Hid (Calls Try.prog 65 #[.slice (some ⟨b, off, none⟩) 1 1] w fun e w' => e = .returned (.tuple #[.int .u64 x, .int .i64 1]) ∧ w' = w) := rget_m _ _ _ l _ x 1 (HR.out.below HB.out) HGV HGN
    go_enter Try.func50, Try.ntmps50
    go_wp2_with (go_at_call 65; refine HGT.out.mono ?_; rintro e w1 ⟨rfl, hw⟩; have hw2 := hw.symm; clear hw; subst hw2)
    go_ret
    exact ⟨rfl, rfl⟩
  · have HGT : Hid (Calls Try.prog 65 #[.slice (some ⟨b, off, none⟩) n c] w fun e w' => e = .returned (.tuple #[.int .u64 x, .int .i64 1]) ∧ w' = w) := rget_m _ _ _ l _ x 1 (HR.out.below HB.out) HGV HGN
    go_enter Try.func50, Try.ntmps50
    go_wp2_with (go_at_call 65; refine HGT.out.mono ?_; rintro e w1 ⟨rfl, hw⟩; have hw2 := hw.symm; clear hw; subst hw2)
    go_ret
    simp [hc1]

set_option maxHeartbeats 400000 in
theorem rnum_no (w0 : World) (B : Nat) (a : Option Addr) (n c : Nat) (l : List Int) (V N : Int) (st : Bool) (w : World) (h2 : B < w.heap.size) (h4 : w.frozen? ⟨B, 0, none⟩ = false) (h5 : w.frozen? ⟨B, 1, none⟩ = false)
    (c0 : w.cell? ⟨B, 0, none⟩ = some (.slice a n c)) (c1 : w.cell? ⟨B, 1, none⟩ = some (.bool st)) (HR : Hid (code.Row8 w0 a n c l)) (HB : Hid (Below w0.heap.size w0 w))
    (HGV : Hid (code.getV l = V)) (HGN : Hid (code.getN l = N)) (hno : N = 0 ∨ (¬ N = 0 ∧ 40 < V)) :
    Calls Try.prog 50 #[.pointer (some ⟨B, 0, none⟩)] w fun e w' => e = .returned (.int .i64 0) ∧ w' = w.setCell ⟨B, 1, none⟩ (.bool true) := by
  rcases hno with rfl | ⟨hN, h40⟩
  · have HGT : Hid (Calls Try.prog 65 #[.slice a n c] w fun e w' => e = .returned (.tuple #[.int .u64 V, .int .i64 0]) ∧ w' = w) := rget_m _ _ _ l _ V 0 (HR.out.below HB.out) HGV HGN
    go_enter Try.func50, Try.ntmps50
    go_wp2_with (go_at_call 65; refine HGT.out.mono ?_; rintro e w1 ⟨rfl, hw⟩; have hw2 := hw.symm; clear hw; subst hw2)
    go_ret
    exact ⟨rfl, rfl⟩
  · have hN2 : (N == 0) = false := by simp; exact hN
    have HGT : Hid (Calls Try.prog 65 #[.slice a n c] w fun e w' => e = .returned (.tuple #[.int .u64 V, .int .i64 N]) ∧ w' = w) := rget_m _ _ _ l _ V N (HR.out.below HB.out) HGV HGN
    go_enter Try.func50, Try.ntmps50
    go_wp2_with (go_at_call 65; refine HGT.out.mono ?_; rintro e w1 ⟨rfl, hw⟩; have hw2 := hw.symm; clear hw; subst hw2)
    go_ret
    exact ⟨rfl, rfl⟩
theorem get_not2 {l : List Int} (h : code.getB l = false ∨ 40 < code.getV l) : code.getN l = 0 ∨ (¬ code.getN l = 0 ∧ 40 < code.getV l) := by
  cases hb : code.getB l with
  | false => left; unfold code.getN; rw [hb]; rfl
  | true =>
    right
    rcases h with h | h
    · rw [hb] at h; cases h
    · refine ⟨?_, h⟩
      unfold code.getN
      rw [hb]
      simp
      omega
theorem rdr_leftT {t : TypeId} {w0 w : World} {B : Nat} {a a' : Option Addr} {n c n' c' : Nat} {r : List Int} (h1 : w0.heap.size ≤ B) (h2 : B < w.heap.size) (h3 : Below w0.heap.size w0 w)
    (hc : w.heap[B]? = some (.cells #[.slice a n c, .bool true] t)) (hr : code.Row8 w0 a' n' c' r) : Rdr t w0 (w.setCell ⟨B, 0, none⟩ (.slice a' n' c')) B none :=
  ⟨h1, by simpa using h2, h3.setCell h1 _, a', n', c', r, true, heap_setCell_same w B 0 _ t _ hc, hr, .inr ⟨rfl, rfl⟩⟩
theorem rnum_any (w0 : World) (B : Nat) (s : St) (w : World) (h : Rdr 70 w0 w B s) :
    Calls Try.prog 50 #[.pointer (some ⟨B, 0, none⟩)] w fun e w' => (∃ x, e = .returned (.int .i64 x) ∧ 0 ≤ x ∧ x ≤ 40 ∧ (¬ s = none → x = (pnum s).1)) ∧ Rdr 70 w0 w' B (pnum s).2 ∧ w.grownBy w' (some B) := by
  have H := h
  obtain ⟨h1, h2, h3, a, n, c, l, st, hcs, hr, hs⟩ := h
  obtain ⟨c0, c1⟩ := box_two hcs
  have h4 := frozen_of_row w B 0 _ _ hcs
  have h5 := frozen_of_row w B 1 _ _ hcs
  by_cases hq : (pnum (some l)).2 = none
  · refine (rnum_no w0 B a n c l _ _ st w h2 h4 h5 c0 c1 hr h3 rfl rfl (get_not2 (get_not hr.2.2.2.1 hq))).mono ?_
    rintro e w' ⟨rfl, rfl⟩
    have hz : pnum s = (0, none) := by
      rcases hs with ⟨_, rfl⟩ | ⟨_, rfl⟩
      · exact pnum_stuck hq
      · rfl
    rw [hz]
    exact ⟨⟨0, rfl, by decide, by decide, fun _ => rfl⟩, rdr_stuck H, set_grown _ _ _ _⟩
  · match l, hq, hr, hs with
    | [], hq, _, _ => exact absurd rfl hq
    | x :: r, hq, hr, hs =>
      have hx : x ≤ 40 := by
        by_cases hx : x ≤ 40
        · exact hx
        · rw [pnum_no hx] at hq; exact absurd rfl hq
      have hu := (hr.2.2.2.1 x (by simp)).1
      obtain ⟨gb, gv, gnn⟩ := get_small (r := r) hu (show x < 128 by omega)
      have hn1 : 1 ≤ n := by have := hr.1; rw [List.length_cons] at this; omega
      have hcm : c ≤ 9223372036854775807 := by have := hr.2.2.1; unfold maxLen at this; omega
      obtain ⟨b, off, rfl, hbb, _⟩ := hr.2.2.2.2.2 (by omega)
      refine (rnum_ok w0 B b off n c (x :: r) x w h2 h4 h5 c0 hr h3 gv gnn hu hx hn1 hr.2.1 hcm).mono ?_
      rintro e w' ⟨rfl, rfl⟩
      rcases hs with ⟨rfl, rfl⟩ | ⟨rfl, rfl⟩
      · rw [pnum_yes hx]
        exact ⟨⟨x, rfl, hu, hx, fun _ => rfl⟩, rdr_left h1 h2 h3 hcs (row8_cut hr), set_grown _ _ _ _⟩
      · exact ⟨⟨x, rfl, hu, hx, fun hne => absurd rfl hne⟩, rdr_leftT h1 h2 h3 hcs (row8_cut hr), set_grown _ _ _ _⟩

end Go.Proofs.Ytmlnfpefemchhaa

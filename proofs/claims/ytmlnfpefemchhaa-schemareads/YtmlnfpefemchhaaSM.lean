/-
  What schema's number returns.
  Conditions: as each theorem states them.
-/
import Derived.Test.YtmlnfpefemchhaaSL
namespace Go.Proofs.Ytmlnfpefemchhaa
open Go.ChangeShapes Go.WideShapes Go.ChangeAt Go.RowKit
set_option linter.unusedVariables false
set_option linter.unusedSimpArgs false

theorem get_m (a : Option Addr) (len cap : Nat) (l : List Int) (w : World) (V N : Int) (b : Bool) (h : code.Row8 w a len cap l) (hV : Hid (code.getV l = V)) (hN : Hid (code.getN l = N)) (hb : Hid (code.getB l = b)) :
    Calls Try.prog 63 #[.slice a len cap] w fun e w' => e = .returned (.tuple #[.int .u64 V, .int .i64 N, .bool b]) ∧ w' = w := by
  have := code.get_any a len cap l w h
  rw [hV.out, hN.out, hb.out] at this
  exact this

set_option maxHeartbeats 400000 in
theorem snum_ok (w0 : World) (B b off n c : Nat) (l : List Int) (x : Int) (w : World) (h2 : B < w.heap.size) (h4 : w.frozen? ⟨B, 0, none⟩ = false) (h5 : w.frozen? ⟨B, 1, none⟩ = false)
    (c0 : w.cell? ⟨B, 0, none⟩ = some (.slice (some ⟨b, off, none⟩) n c)) (c1 : w.cell? ⟨B, 1, none⟩ = some (.bool false)) (HR : Hid (code.Row8 w0 (some ⟨b, off, none⟩) n c l)) (HB : Hid (Below w0.heap.size w0 w))
    (HGV : Hid (code.getV l = x)) (HGN : Hid (code.getN l = 1)) (HGB : Hid (code.getB l = true)) (hx0 : 0 ≤ x) (hx : x ≤ 40) (hn1 : 1 ≤ n) (hnc : n ≤ c) (hcm : c ≤ 9223372036854775807) :
    Calls Try.prog 48 #[.pointer (some ⟨B, 0, none⟩)] w fun e w' => e = .returned (.int .i64 x) ∧ w' = w.setCell ⟨B, 0, none⟩ (.slice (some (if c = 1 then ⟨b, off, none⟩ else ⟨b, off + 1, none⟩)) (n - 1) (c - 1)) := by
  have wx : IntKind.i64.wrap x = x := IntWalk.i64_in _ (by omega)
  have hx2 : decide (40 < x) = false := decide_eq_false (by omega)
  have hn2 : (1 : Int) ≤ (n : Int) := by omega
  by_cases hc1 : c = 1
  · subst hc1
    obtain rfl : n = 1 := by omega
    have HRw : Hid (code.Row8 w (some ⟨b, off, none⟩) 1 1 l) := HR.out.below HB.out
    have HGT : Hid (Calls Try.prog 63 #[.slice (some ⟨b, off, none⟩) 1 1] w fun e w' => e = .returned (.tuple #[.int .u64 x, .int .i64 1, .bool true]) ∧ w' = w) := get_m _ _ _ l _ x 1 true HRw.out HGV HGN HGB
    go_enter Try.func48, Try.ntmps48
    go_wp2_with (go_at_call 63; refine HGT.out.mono ?_; rintro e w1 ⟨rfl, hw⟩; have hw2 := hw.symm; clear hw; subst hw2)
    go_ret
    exact ⟨rfl, rfl⟩
  · have HRw : Hid (code.Row8 w (some ⟨b, off, none⟩) n c l) := HR.out.below HB.out
    have HGT : Hid (Calls Try.prog 63 #[.slice (some ⟨b, off, none⟩) n c] w fun e w' => e = .returned (.tuple #[.int .u64 x, .int .i64 1, .bool true]) ∧ w' = w) := get_m _ _ _ l _ x 1 true HRw.out HGV HGN HGB
    go_enter Try.func48, Try.ntmps48
    go_wp2_with (go_at_call 63; refine HGT.out.mono ?_; rintro e w1 ⟨rfl, hw⟩; have hw2 := hw.symm; clear hw; subst hw2)
    go_ret
    simp [hc1]

set_option maxHeartbeats 1000000 in
theorem snum_no (w0 : World) (B : Nat) (a : Option Addr) (n c : Nat) (l : List Int) (V N : Int) (gb : Bool) (w : World) (h2 : B < w.heap.size) (h4 : w.frozen? ⟨B, 0, none⟩ = false) (h5 : w.frozen? ⟨B, 1, none⟩ = false)
    (c0 : w.cell? ⟨B, 0, none⟩ = some (.slice a n c)) (c1 : w.cell? ⟨B, 1, none⟩ = some (.bool false)) (HR : Hid (code.Row8 w0 a n c l)) (HB : Hid (Below w0.heap.size w0 w))
    (HGV : Hid (code.getV l = V)) (HGN : Hid (code.getN l = N)) (HGB : Hid (code.getB l = gb)) (hno : gb = false ∨ 40 < V) :
    Calls Try.prog 48 #[.pointer (some ⟨B, 0, none⟩)] w fun e w' => e = .returned (.int .i64 0) ∧ w' = w.setCell ⟨B, 1, none⟩ (.bool true) := by
  cases gb with
  | false =>
    clear hno
    go_enter Try.func48, Try.ntmps48
    go_wp2_with (go_at_call 63; refine (get_m _ _ _ l _ V N false (HR.out.below HB.out) HGV HGN HGB).mono ?_; rintro e w1 ⟨rfl, hw⟩; have hw2 := hw.symm; clear hw; subst hw2)
    go_ret
    exact ⟨rfl, rfl⟩
  | true =>
    have h40 : 40 < V := by rcases hno with e | e; cases e; exact e
    clear hno
    go_enter Try.func48, Try.ntmps48
    go_wp2_with (go_at_call 63; refine (get_m _ _ _ l _ V N true (HR.out.below HB.out) HGV HGN HGB).mono ?_; rintro e w1 ⟨rfl, hw⟩; have hw2 := hw.symm; clear hw; subst hw2)
    go_ret
    exact ⟨rfl, rfl⟩
set_option maxHeartbeats 1000000 in
theorem snum_st (w0 : World) (B : Nat) (a : Option Addr) (n c : Nat) (l : List Int) (V N : Int) (gb : Bool) (w : World) (h2 : B < w.heap.size) (h4 : w.frozen? ⟨B, 0, none⟩ = false) (h5 : w.frozen? ⟨B, 1, none⟩ = false)
    (c0 : w.cell? ⟨B, 0, none⟩ = some (.slice a n c)) (c1 : w.cell? ⟨B, 1, none⟩ = some (.bool true)) (HR : Hid (code.Row8 w0 a n c l)) (HB : Hid (Below w0.heap.size w0 w))
    (HGV : Hid (code.getV l = V)) (HGN : Hid (code.getN l = N)) (HGB : Hid (code.getB l = gb)) :
    Calls Try.prog 48 #[.pointer (some ⟨B, 0, none⟩)] w fun e w' => e = .returned (.int .i64 0) ∧ w' = w.setCell ⟨B, 1, none⟩ (.bool true) := by
  go_enter Try.func48, Try.ntmps48
  go_wp2_with (go_at_call 63; refine (get_m _ _ _ l _ V N gb (HR.out.below HB.out) HGV HGN HGB).mono ?_; rintro e w1 ⟨rfl, hw⟩; have hw2 := hw.symm; clear hw; subst hw2)
  go_ret
  exact ⟨rfl, rfl⟩
theorem pnum_stuck {l : List Int} (hq : (pnum (some l)).2 = none) : pnum (some l) = (0, none) := by
  match l, hq with
  | [], _ => rfl
  | x :: r, hq =>
    by_cases hx : x ≤ 40
    · rw [pnum_yes hx] at hq; cases hq
    · exact pnum_no hx
theorem row8_cut {w : World} {b off n c : Nat} {x : Int} {r : List Int} (h : code.Row8 w (some ⟨b, off, none⟩) n c (x :: r)) : code.Row8 w (some (if c = 1 then ⟨b, off, none⟩ else ⟨b, off + 1, none⟩)) (n - 1) (c - 1) r := by
  by_cases hc : c = 1
  · rw [if_pos hc]; exact row8_tail1 h hc
  · rw [if_neg hc]; exact row8_tail h hc
theorem snum_any (w0 : World) (B : Nat) (s : St) (w : World) (h : Rdr 65 w0 w B s) :
    Calls Try.prog 48 #[.pointer (some ⟨B, 0, none⟩)] w fun e w' => e = .returned (.int .i64 (pnum s).1) ∧ Rdr 65 w0 w' B (pnum s).2 ∧ w.grownBy w' (some B) := by
  have H := h
  obtain ⟨h1, h2, h3, a, n, c, l, st, hcs, hr, hs⟩ := h
  obtain ⟨c0, c1⟩ := box_two hcs
  have h4 := frozen_of_row w B 0 _ _ hcs
  have h5 := frozen_of_row w B 1 _ _ hcs
  rcases hs with ⟨rfl, rfl⟩ | ⟨rfl, rfl⟩
  · by_cases hq : (pnum (some l)).2 = none
    · refine (snum_no w0 B a n c l _ _ _ w h2 h4 h5 c0 c1 hr h3 rfl rfl rfl (get_not hr.2.2.2.1 hq)).mono ?_
      rintro e w' ⟨rfl, rfl⟩
      rw [pnum_stuck hq]
      exact ⟨rfl, rdr_stuck H, set_grown _ _ _ _⟩
    · match l, hq, hr with
      | [], hq, _ => exact absurd rfl hq
      | x :: r, hq, hr =>
        have hx : x ≤ 40 := by
          by_cases hx : x ≤ 40
          · exact hx
          · rw [pnum_no hx] at hq; exact absurd rfl hq
        have hu := (hr.2.2.2.1 x (by simp)).1
        obtain ⟨gb, gv, gnn⟩ := get_small (r := r) hu (show x < 128 by omega)
        have hn1 : 1 ≤ n := by have := hr.1; rw [List.length_cons] at this; omega
        have hcm : c ≤ 9223372036854775807 := by have := hr.2.2.1; unfold maxLen at this; omega
        obtain ⟨b, off, rfl, hbb, _⟩ := hr.2.2.2.2.2 (by omega)
        refine (snum_ok w0 B b off n c (x :: r) x w h2 h4 h5 c0 c1 hr h3 gv gnn gb hu hx hn1 hr.2.1 hcm).mono ?_
        rintro e w' ⟨rfl, rfl⟩
        rw [pnum_yes hx]
        exact ⟨rfl, rdr_left h1 h2 h3 hcs (row8_cut hr), set_grown _ _ _ _⟩
  · refine (snum_st w0 B a n c l _ _ _ w h2 h4 h5 c0 c1 hr h3 rfl rfl rfl).mono ?_
    rintro e w' ⟨rfl, rfl⟩
    exact ⟨rfl, rdr_stuck H, set_grown _ _ _ _⟩

end Go.Proofs.Ytmlnfpefemchhaa

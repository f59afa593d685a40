/-
  Whether two rows, two dimensions, two catalogs are alike: what slices.Equal, slices.EqualFunc and schema.Same return.
  Conditions: as each theorem states them.
-/
import Derived.Test.YtmlnfpefemchhaaSA
namespace Go.Proofs.Ytmlnfpefemchhaa
open Go.ChangeShapes Go.WideShapes Go.ChangeAt Go.RowKit
set_option linter.unusedVariables false
set_option linter.unusedSimpArgs false

theorem list_ext {l l2 : List Int} (hl : l.length = l2.length) (h : ∀ j, j < l.length → l.getD j 0 = l2.getD j 0) : l = l2 := by
  apply List.ext_getElem hl
  intro i h1 h2
  have := h i h1
  simpa [List.getD_eq_getElem?_getD, List.getElem?_eq_getElem h1, List.getElem?_eq_getElem h2] using this
theorem list_ext2 {l l2 : List (List Int)} (hl : l.length = l2.length) (h : ∀ j, j < l.length → l.getD j [] = l2.getD j []) : l = l2 := by
  apply List.ext_getElem hl
  intro i h1 h2
  have := h i h1
  simpa [List.getD_eq_getElem?_getD, List.getElem?_eq_getElem h1, List.getElem?_eq_getElem h2] using this
theorem list_ext3 {l l2 : Dims} (hl : l.length = l2.length) (h : ∀ j, j < l.length → l.getD j ([], []) = l2.getD j ([], [])) : l = l2 := by
  apply List.ext_getElem hl
  intro i h1 h2
  have := h i h1
  simpa [List.getD_eq_getElem?_getD, List.getElem?_eq_getElem h1, List.getElem?_eq_getElem h2] using this

set_option maxHeartbeats 1000000 in
theorem equal_any (a b : Option Addr) (n c n2 c2 : Nat) (l l2 : List Int) (w : World) (h1 : IRow .i64 w a n c l) (h2 : IRow .i64 w b n2 c2 l2) :
    Calls Try.prog 70 #[.slice a n c, .slice b n2 c2] w fun e w' => e = .returned (.bool (decide (l = l2))) ∧ Below w.heap.size w w' := by
  obtain ⟨e1, e2⟩ := h1.lens
  obtain ⟨e3, e4⟩ := h2.lens
  have E1 : Hid (n = l.length) := e1
  have E3 : Hid (n2 = l2.length) := e3
  have H1 : Hid (IRow .i64 w a n c l) := h1
  have H2 : Hid (IRow .i64 w b n2 c2 l2) := h2
  clear h1 h2 e1 e3
  by_cases hn : n = n2
  · have hn2 : ((n : Int) != (n2 : Int)) = false := by simp; omega
    have HN : Hid (n = n2) := hn
    clear hn
    go_enter Try.func70, Try.ntmps70
    go_wp2
    go_loopw [13] (fun i wr => ∃ k : Nat, k ≤ n ∧ i = .int .i64 k ∧ Hid (∀ j, j < k → l.getD j 0 = l2.getD j 0) ∧ Below w.heap.size w wr) (fun i _ => n - (intOf i).toNat)
    case atStart => exact ⟨0, Nat.zero_le _, rfl, hid fun j hj => by omega, Below.refl _ _⟩
    case round =>
      obtain ⟨k, hk, rfl, hall, bel⟩ := hrel
      by_cases hlt : k < n
      · have hlt2 : (k : Int) < (n : Int) := by omega
        have hk2 : k < n2 := by rw [← HN.out]; exact hlt
        have hlt3 : (k : Int) < (n2 : Int) := by omega
        obtain ⟨b1, off1, rfl, hb1, hc1⟩ := (H1.out.below bel).cell hlt
        obtain ⟨b2, off2, rfl, hb2, hc2⟩ := (H2.out.below bel).cell hk2
        have d1 := hc1 k hlt
        have d2 := hc2 k hk2
        obtain ⟨x, hx⟩ : ∃ x, l.getD k 0 = x := ⟨_, rfl⟩
        obtain ⟨y, hy⟩ : ∃ y, l2.getD k 0 = y := ⟨_, rfl⟩
        rw [hx] at d1
        rw [hy] at d2
        have HX : Hid (l.getD k 0 = x) := hx
        have HY : Hid (l2.getD k 0 = y) := hy
        clear hc1 hc2 hx hy
        by_cases hxy : x = y
        · have hb : (x != y) = false := by simp [hxy]
          have HXY : Hid (x = y) := hxy
          clear hxy
          go_wp2
          go_quiet (fail)
          go_wp2
          go_roundw
          case rel =>
            refine ⟨k + 1, by omega, by go_num, hid fun j hj => ?_, below_drewN bel _⟩
            by_cases e : j = k
            · subst e; rw [HX.out, HY.out]; exact HXY.out
            · exact hall.out j (by omega)
          case measure => simp [intOf]; omega
        · have hb : (x != y) = true := by simp [hxy]
          go_wp2
          go_quiet (fail)
          go_wp2
          go_ret
          exact ⟨ret_bool (decide_eq_false fun e => hxy (by rw [← HX.out, ← HY.out, e])).symm, below_drewN bel _⟩
      · obtain rfl : k = n := by omega
        go_wp2
        go_ret
        exact ⟨ret_bool (decide_eq_true (list_ext (by rw [← E1.out, ← E3.out]; exact HN.out) (by rw [← E1.out]; exact hall.out))).symm, bel⟩
  · have hn2 : ((n : Int) != (n2 : Int)) = true := by simp; omega
    go_enter Try.func70, Try.ntmps70
    go_wp2
    go_ret
    exact ⟨ret_bool (decide_eq_false fun e => hn (by rw [E1.out, E3.out, e])).symm, Below.refl _ _⟩

set_option maxHeartbeats 1000000 in
theorem rints_any (a b : Option Addr) (n c n2 c2 : Nat) (l l2 : List Int) (w : World) (h1 : IRow .i64 w a n c l) (h2 : IRow .i64 w b n2 c2 l2) :
    Calls Try.prog 51 #[.slice a n c, .slice b n2 c2] w fun e w' => e = .returned (.bool (decide (l = l2))) ∧ Below w.heap.size w w' := by
  obtain ⟨e1, e2⟩ := h1.lens
  obtain ⟨e3, e4⟩ := h2.lens
  have E1 : Hid (n = l.length) := e1
  have E3 : Hid (n2 = l2.length) := e3
  have H1 : Hid (IRow .i64 w a n c l) := h1
  have H2 : Hid (IRow .i64 w b n2 c2 l2) := h2
  clear h1 h2 e1 e3
  by_cases hn : n = n2
  · have hn2 : ((n : Int) != (n2 : Int)) = false := by simp; omega
    have HN : Hid (n = n2) := hn
    clear hn
    go_enter Try.func51, Try.ntmps51
    go_wp2
    go_loopw [5] (fun i wr => ∃ k : Nat, k ≤ n ∧ i = .int .i64 k ∧ Hid (∀ j, j < k → l.getD j 0 = l2.getD j 0) ∧ Below w.heap.size w wr) (fun i _ => n - (intOf i).toNat)
    case atStart => exact ⟨0, Nat.zero_le _, rfl, hid fun j hj => by omega, Below.refl _ _⟩
    case round =>
      obtain ⟨k, hk, rfl, hall, bel⟩ := hrel
      by_cases hlt : k < n
      · have hlt2 : (k : Int) < (n : Int) := by omega
        have hk2 : k < n2 := by rw [← HN.out]; exact hlt
        have hlt3 : (k : Int) < (n2 : Int) := by omega
        obtain ⟨b1, off1, rfl, hb1, hc1⟩ := (H1.out.below bel).cell hlt
        obtain ⟨b2, off2, rfl, hb2, hc2⟩ := (H2.out.below bel).cell hk2
        have d1 := hc1 k hlt
        have d2 := hc2 k hk2
        obtain ⟨x, hx⟩ : ∃ x, l.getD k 0 = x := ⟨_, rfl⟩
        obtain ⟨y, hy⟩ : ∃ y, l2.getD k 0 = y := ⟨_, rfl⟩
        rw [hx] at d1
        rw [hy] at d2
        have HX : Hid (l.getD k 0 = x) := hx
        have HY : Hid (l2.getD k 0 = y) := hy
        clear hc1 hc2 hx hy
        by_cases hxy : x = y
        · have hb : (x != y) = false := by simp [hxy]
          have HXY : Hid (x = y) := hxy
          clear hxy
          go_wp2
          go_quiet (fail)
          go_wp2
          go_roundw
          case rel =>
            refine ⟨k + 1, by omega, by go_num, hid fun j hj => ?_, below_drewN bel _⟩
            by_cases e : j = k
            · subst e; rw [HX.out, HY.out]; exact HXY.out
            · exact hall.out j (by omega)
          case measure => simp [intOf]; omega
        · have hb : (x != y) = true := by simp [hxy]
          go_wp2
          go_quiet (fail)
          go_wp2
          go_ret
          exact ⟨ret_bool (decide_eq_false fun e => hxy (by rw [← HX.out, ← HY.out, e])).symm, below_drewN bel _⟩
      · obtain rfl : k = n := by omega
        go_wp2
        go_ret
        exact ⟨ret_bool (decide_eq_true (list_ext (by rw [← E1.out, ← E3.out]; exact HN.out) (by rw [← E1.out]; exact hall.out))).symm, bel⟩
  · have hn2 : ((n : Int) != (n2 : Int)) = true := by simp; omega
    go_enter Try.func51, Try.ntmps51
    go_wp2
    go_ret
    exact ⟨ret_bool (decide_eq_false fun e => hn (by rw [E1.out, E3.out, e])).symm, Below.refl _ _⟩

/-- One row of a row of rows, read in a later world. -/
theorem IRows.get {w wr : World} {a : Option Addr} {n c : Nat} {U : List (List Int)} (h : IRows .i64 w a n c U) (bel : Below w.heap.size w wr) {k : Nat} (hk : k < n) :
    ∃ b off, a = some ⟨b, off, none⟩ ∧ b < w.heap.size ∧ ∃ ra rl rc l, wr.cell? ⟨b, off + k, none⟩ = some (.slice ra rl rc) ∧ Hid (IRow .i64 wr ra rl rc l) ∧ Hid (U.getD k [] = l) := by
  obtain ⟨h1, h2, h3, h4, h5⟩ := h
  obtain ⟨b, off, e, hlt, hl⟩ := h5 (by omega)
  obtain ⟨ra, rl, rc, c1, c2⟩ := hl k hk
  exact ⟨b, off, e, hlt, ra, rl, rc, _, ((bcell bel).1 b _ hlt).trans c1, c2.below bel, rfl⟩
theorem IRows.lens {w : World} {a : Option Addr} {n c : Nat} {U : List (List Int)} (h : IRows .i64 w a n c U) : n = U.length ∧ n ≤ 9223372036854775807 := by
  obtain ⟨h1, h2, h3, _⟩ := h
  unfold maxLen at h3
  exact ⟨h1, by omega⟩
theorem equal_m (a b : Option Addr) (n c n2 c2 : Nat) (l l2 : List Int) (v : Bool) (w : World) (h1 : IRow .i64 w a n c l) (h2 : IRow .i64 w b n2 c2 l2) (hv : Hid (decide (l = l2) = v)) :
    Calls Try.prog 70 #[.slice a n c, .slice b n2 c2] w fun e w' => e = .returned (.bool v) ∧ Below w.heap.size w w' := by
  have := equal_any a b n c n2 c2 l l2 w h1 h2
  rw [hv.out] at this
  exact this

set_option maxHeartbeats 1000000 in
theorem equalRows_any (a b : Option Addr) (n c n2 c2 : Nat) (U V : List (List Int)) (w : World) (h1 : IRows .i64 w a n c U) (h2 : IRows .i64 w b n2 c2 V) :
    Calls Try.prog 71 #[.slice a n c, .slice b n2 c2, .func (.func 70) #[] #[]] w fun e w' => e = .returned (.bool (decide (U = V))) ∧ Below w.heap.size w w' := by
  obtain ⟨e1, e2⟩ := h1.lens
  obtain ⟨e3, e4⟩ := h2.lens
  have E1 : Hid (n = U.length) := e1
  have E3 : Hid (n2 = V.length) := e3
  have H1 : Hid (IRows .i64 w a n c U) := h1
  have H2 : Hid (IRows .i64 w b n2 c2 V) := h2
  clear h1 h2 e1 e3
  by_cases hn : n = n2
  · have hn2 : ((n : Int) != (n2 : Int)) = false := by simp; omega
    have HN : Hid (n = n2) := hn
    clear hn
    go_enter Try.func71, Try.ntmps71
    go_wp2
    go_loopw [17] (fun i wr => ∃ k : Nat, k ≤ n ∧ i = .int .i64 k ∧ Hid (∀ j, j < k → U.getD j [] = V.getD j []) ∧ Below w.heap.size w wr) (fun i _ => n - (intOf i).toNat)
    case atStart => exact ⟨0, Nat.zero_le _, rfl, hid fun j hj => by omega, Below.refl _ _⟩
    case round =>
      obtain ⟨k, hk, rfl, hall, bel⟩ := hrel
      by_cases hlt : k < n
      · have hlt2 : (k : Int) < (n : Int) := by omega
        have hk2 : k < n2 := by rw [← HN.out]; exact hlt
        have hlt3 : (k : Int) < (n2 : Int) := by omega
        obtain ⟨b1, off1, rfl, hb1, ra, rl, rc, l, d1, R1, L1⟩ := H1.out.get bel hlt
        obtain ⟨b2, off2, rfl, hb2, sa, sl, sc, l2, d2, R2, L2⟩ := H2.out.get bel hk2
        obtain ⟨v, hv⟩ : ∃ v, decide (l = l2) = v := ⟨_, rfl⟩
        have HV : Hid (decide (l = l2) = v) := hv
        clear hv
        cases v with
        | true =>
          go_wp2_with (go_at_call 70; refine (equal_m _ _ _ _ _ _ l l2 true _ R1.out R2.out HV).mono ?_; rintro e w1 ⟨rfl, hb⟩)
          go_roundw
          case rel =>
            refine ⟨k + 1, by omega, by go_num, hid fun j hj => ?_, bt bel hb⟩
            by_cases e : j = k
            · subst e; rw [L1.out, L2.out]; exact of_decide_eq_true HV.out
            · exact hall.out j (by omega)
          case measure => simp [intOf]; omega
        | false =>
          go_wp2_with (go_at_call 70; refine (equal_m _ _ _ _ _ _ l l2 false _ R1.out R2.out HV).mono ?_; rintro e w1 ⟨rfl, hb⟩)
          go_ret
          exact ⟨ret_bool (decide_eq_false fun e => of_decide_eq_false HV.out (by rw [← L1.out, ← L2.out, e])).symm, bt bel hb⟩
      · obtain rfl : k = n := by omega
        go_wp2
        go_ret
        exact ⟨ret_bool (decide_eq_true (list_ext2 (by rw [← E1.out, ← E3.out]; exact HN.out) (by rw [← E1.out]; exact hall.out))).symm, bel⟩
  · have hn2 : ((n : Int) != (n2 : Int)) = true := by simp; omega
    go_enter Try.func71, Try.ntmps71
    go_wp2
    go_ret
    exact ⟨ret_bool (decide_eq_false fun e => hn (by rw [E1.out, E3.out, e])).symm, Below.refl _ _⟩

end Go.Proofs.Ytmlnfpefemchhaa

/-
  What hier.above, carry, Lift, Under and Kids return.
  Conditions: as each theorem states them.
-/
import Derived.Test.YtfgphphaopcolaaD
namespace Go.Proofs.Ytfgphphaopcolaa
open Go.ChangeShapes Go.WideShapes Go.ChangeAt Go.RowKit
set_option linter.unusedVariables false
set_option linter.unusedSimpArgs false

/-- One level up. -/
def abv (U : List (List Int)) (k : Nat) (m : Int) : Int := if k = U.length then 0 else (U.getD k []).getD m.toNat 0

set_option maxHeartbeats 1000000 in
theorem above_any (sa : Option Addr) (sl sc : Nat) (ua : Option Addr) (ul uc : Nat) (S : List Int) (U : List (List Int)) (k : Nat) (m : Int) (w : World) (hd : Dim w sa sl sc ua ul uc S U) (hk : k ≤ ul) (hm0 : 0 ≤ m) (hm : k < ul → m.toNat < (U.getD k []).length) :
    Calls Try.prog 51 #[.agg #[.slice sa sl sc, .slice ua ul uc], .int .i64 k, .int .i64 m] w fun e w' => e = .returned (.int .i64 (abv U k m)) ∧ Below w.heap.size w w' := by
  obtain ⟨e1, e2, e3, e4⟩ := hd.lens
  have E2 : Hid (ul = U.length) := e2
  have HD : Hid (Dim w sa sl sc ua ul uc S U) := hd
  have HM : Hid (k < ul → m.toNat < (U.getD k []).length) := hm
  clear e1 e2 hd hm
  by_cases h1 : k = ul
  · subst h1
    go_enter Try.func51, Try.ntmps51
    go_wp2
    go_ret
    refine ⟨ret_int ?_, (Below.refl _ _).alloc (Nat.le_refl _) _⟩
    unfold abv; rw [if_pos E2.out]
  · have h2 : ((k : Int) == (ul : Int)) = false := by simp; omega
    have h3 : (k : Int) < (ul : Int) := by omega
    obtain ⟨b, off, rfl, hb, ra, rl, rc, hcu, hru, hlu⟩ := (HD.out.box (.cells #[.slice sa sl sc, .slice ua ul uc] 61)).up_cell (k := k) (by omega)
    have hml := HM.out (by omega)
    obtain ⟨r1, r2⟩ := hru.lens
    obtain ⟨j, rfl⟩ : ∃ j : Nat, m = j := ⟨m.toNat, by omega⟩
    rw [← r1, Int.toNat_natCast] at hml
    obtain ⟨b2, off2, rfl, hb2, hcell⟩ := hru.cell hml
    have hc := hcell j hml
    obtain ⟨x, hx⟩ : ∃ x, (U.getD k []).getD j 0 = x := ⟨_, rfl⟩
    rw [hx] at hc
    have HX : Hid ((U.getD k []).getD j 0 = x) := hx
    clear hx hcell hru hlu r1
    go_enter Try.func51, Try.ntmps51
    go_wp2
    go_ret
    refine ⟨ret_int ?_, (Below.refl _ _).alloc (Nat.le_refl _) _⟩
    unfold abv; rw [if_neg (by rw [← E2.out]; exact h1), Int.toNat_natCast, HX.out]

/-- One level more. -/
theorem lift_next {S : List Int} {U : List (List Int)} {a i : Nat} {m : Int} (hg : good S U = true) (h1 : a + i < S.length) (hm : 0 ≤ m) (hm2 : m < size S U a) :
    lift S U a ((a + i : Nat) + 1 : Int) m = abv U (a + i) (lift S U a (a + i : Nat) m) ∧ 0 ≤ lift S U a (a + i : Nat) m ∧ (a + i < U.length → (lift S U a (a + i : Nat) m).toNat < (U.getD (a + i) []).length) := by
  have hU := (good_p hg).2.2.1
  have p1 := size_pos hg (lv := ((a + i : Nat) : Int)) (by omega) (by omega)
  have p2 := size_pos hg (lv := ((a + i : Nat) : Int) + 1) (by omega) (by omega)
  obtain ⟨l1, l2⟩ := lift_in (S := S) (U := U) (f := a) (t := (a + i : Nat)) (m := m) (by omega) (by omega) (by omega) hm hm2
  rw [size_at hg h1] at l2
  refine ⟨?_, l1, fun hlt => (step_in hg hlt l1 l2).1⟩
  rw [lift_yes (by omega) (by omega) (by omega) hm hm2]
  unfold abv
  by_cases e : a + i = U.length
  · rw [if_pos (by omega), if_pos e]
  · rw [if_neg (by omega), if_neg e, lift_yes (by omega) (by omega) (by omega) hm hm2, if_neg (by omega)]
    have e1 : (((a + i : Nat) : Int) + 1 - (a : Int)).toNat = i + 1 := by omega
    have e2 : (((a + i : Nat) : Int) - (a : Int)).toNat = i := by omega
    rw [e1, e2, Int.toNat_natCast, up_succ]

set_option maxHeartbeats 2000000 in
theorem carry_any (sa : Option Addr) (sl sc : Nat) (ua : Option Addr) (ul uc : Nat) (S : List Int) (U : List (List Int)) (f t m : Int) (w : World) (hd : Dim w sa sl sc ua ul uc S U) (hg : Hid (good S U = true)) (h0 : 0 ≤ f) (h1 : f ≤ t) (h2 : t ≤ (sl : Int)) (hm : 0 ≤ m) (hm2 : Hid (m < size S U f)) :
    Calls Try.prog 47 #[.agg #[.slice sa sl sc, .slice ua ul uc], .int .i64 f, .int .i64 t, .int .i64 m] w fun e w' => e = .returned (.int .i64 (lift S U f t m)) ∧ Below w.heap.size w w' := by
  obtain ⟨e1, e2, e3, e4⟩ := hd.lens
  have E1 : Hid (sl = S.length) := e1
  have E2 : Hid (ul = U.length) := e2
  have hU := (good_p hg.out).2.2.1
  rw [← e1, ← e2] at hU
  have HD : Hid (Dim w sa sl sc ua ul uc S U) := hd
  clear e1 e2 hd
  obtain ⟨a, rfl⟩ : ∃ k : Nat, f = k := ⟨f.toNat, by omega⟩
  obtain ⟨n, rfl⟩ : ∃ n : Nat, t = (a : Int) + (n : Int) := ⟨(t - a).toNat, by omega⟩
  have hb0 := size_bd S U a
  have hm40 : m < 40 := by have := hm2.out; omega
  have hn : (n : Int) ≤ 4 := by have := (good_p hg.out).2.1; rw [← E1.out] at this; omega
  clear hb0
  go_enter Try.func47, Try.ntmps47
  go_wp2
  go_loopw [13, 3] (fun i mv wr => ∃ (j : Nat), j ≤ n ∧ i = .int .i64 j ∧ mv = .int .i64 (lift S U a (a + j : Nat) m) ∧ Box w wr w.heap.size (.slice sa sl sc) (.slice ua ul uc) ∧ w.heap.size < wr.heap.size) (fun i _ _ => n - (intOf i).toNat)
  case atStart =>
    refine ⟨0, Nat.zero_le _, rfl, ?_, box_new _ _ _ _, by simp⟩
    rw [Nat.add_zero, lift_self (by omega) hm hm2.out]
  case round =>
    obtain ⟨j, hj, rfl, rfl, hbx, hsz⟩ := hrel
    have HB : Hid (Box w wr w.heap.size (.slice sa sl sc) (.slice ua ul uc)) := hbx
    obtain ⟨bel, c0, c1⟩ := hbx
    by_cases hlt : j < n
    · obtain ⟨n1, n2, n3⟩ := lift_next (S := S) (U := U) (a := a) (i := j) (m := m) hg.out (by rw [← E1.out]; omega) hm hm2.out
      rw [← E2.out] at n3
      have ge := lift_ge S U a (a + j : Nat) m
      obtain ⟨x, hx⟩ : ∃ x, lift S U a (a + j : Nat) m = x := ⟨_, rfl⟩
      rw [hx] at n1 n2 n3 ge ⊢
      have N1 : Hid (lift S U a ((a + j : Nat) + 1 : Int) m = abv U (a + j) x) := n1
      have N3 : Hid (a + j < ul → x.toNat < (U.getD (a + j) []).length) := n3
      clear n1 n3 hx
      go_wp2_with (go_at_call 51; rw [show (a : Int) + (j : Int) = ((a + j : Nat) : Int) by omega]; refine (above_any _ _ _ _ _ _ S U (a + j) _ _ (HD.out.below bel) (by omega) n2 N3.out).mono ?_; rintro e w1 ⟨rfl, hb⟩)
      go_roundw
      case rel =>
        refine ⟨j + 1, by omega, by go_num, ?_, ⟨bt bel hb, ((bcell hb).1 _ _ hsz).trans c0, ((bcell hb).1 _ _ hsz).trans c1⟩, Nat.lt_of_lt_of_le hsz hb.size⟩
        rw [← N1.out]; congr 1
      case measure => simp [intOf]; omega
    · obtain rfl : j = n := by omega
      go_wp2
      go_ret
      refine ⟨ret_int ?_, bel⟩
      congr 1

/-! Lift. -/
def liftV (S : List Int) (U : List (List Int)) (f t m : Int) : Int := max (lift S U f t m) 0
def liftB (S : List Int) (U : List (List Int)) (f t m : Int) : Bool := decide (0 ≤ lift S U f t m)
theorem liftV_i64 (S : List Int) (U : List (List Int)) (f t m : Int) : 0 ≤ liftV S U f t m ∧ liftV S U f t m ≤ 39 := by
  have := lift_ge S U f t m
  unfold liftV
  rw [Int.max_def]; split <;> omega
theorem ret_lift {S : List Int} {U : List (List Int)} {f t m x : Int} (h : lift S U f t m = x) (h0 : 0 ≤ x) : Ending.returned (.tuple #[.int .i64 x, .bool true]) = .returned (.tuple #[.int .i64 (liftV S U f t m), .bool (liftB S U f t m)]) := by
  have e1 : liftV S U f t m = x := by unfold liftV; rw [h, Int.max_def]; split <;> omega
  have e2 : liftB S U f t m = true := by unfold liftB; rw [h]; exact decide_eq_true h0
  rw [e1, e2]
theorem ret_none {S : List Int} {U : List (List Int)} {f t m : Int} (h : lift S U f t m = -1) : Ending.returned (.tuple #[.int .i64 0, .bool false]) = .returned (.tuple #[.int .i64 (liftV S U f t m), .bool (liftB S U f t m)]) := by
  have e1 : liftV S U f t m = 0 := by unfold liftV; rw [h]; rfl
  have e2 : liftB S U f t m = false := by unfold liftB; rw [h]; rfl
  rw [e1, e2]
theorem span_lift {S : List Int} {U : List (List Int)} {f t : Int} (h : span S U f t = false) (m : Int) : lift S U f t m = -1 := by
  refine lift_no ?_
  by_cases h0 : f < 0
  · exact .inl h0
  by_cases h1 : t < f
  · exact .inr (.inl h1)
  refine .inr (.inr (.inl ?_))
  cases hg : good S U with
  | false => exact size_bad hg t
  | true =>
    by_cases h2 : (S.length : Int) < t
    · exact size_out (.inr h2)
    · have := span_is (S := S) (U := U) (f := f) (t := t) ⟨hg, by omega, by omega, by omega⟩
      rw [h] at this; cases this

set_option maxHeartbeats 2000000 in
theorem lift_any (sa : Option Addr) (sl sc : Nat) (ua : Option Addr) (ul uc : Nat) (S : List Int) (U : List (List Int)) (f t m : Int) (w : World) (hd : Dim w sa sl sc ua ul uc S U) (hf : I64 f) (ht : I64 t) (hm : I64 m) :
    Calls Try.prog 31 #[.agg #[.slice sa sl sc, .slice ua ul uc], .int .i64 f, .int .i64 t, .int .i64 m] w fun e w' => e = .returned (.tuple #[.int .i64 (liftV S U f t m), .bool (liftB S U f t m)]) ∧ Below w.heap.size w w' := by
  obtain ⟨e1, e2, e3, e4⟩ := hd.lens
  have HD : Hid (Dim w sa sl sc ua ul uc S U) := hd
  have HF : Hid (I64 f) := hf
  have HT : Hid (I64 t) := ht
  obtain ⟨m1, m2⟩ := hm
  clear hf ht
  cases hs : span S U f t with
  | false =>
    have HS : Hid (span S U f t = false) := hs
    clear e1 e2 hd
    go_enter Try.func31, Try.ntmps31
    go_wp2_with (go_at_call 45; refine (span_any _ _ _ _ _ _ S U _ _ _ (HD.out.box _) HF.out HT.out).mono ?_; rintro e w1 ⟨rfl, hb⟩)
    go_ret2
    exact ⟨ret_none (span_lift HS.out m), box_bt hb⟩
  | true =>
    obtain ⟨g1, g2, g3, g4⟩ := span_yes hs
    have E1 : Hid (sl = S.length) := e1
    rw [← e1] at g4
    have HG : Hid (good S U = true) := g1
    clear e1 e2 hd g1
    by_cases h0 : m < 0
    · go_enter Try.func31, Try.ntmps31
      go_wp2_with (go_at_call 45; refine (span_any _ _ _ _ _ _ S U _ _ _ (HD.out.box _) HF.out HT.out).mono ?_; rintro e w1 ⟨rfl, hb⟩)
      go_ret2
      exact ⟨ret_none (lift_no (by omega)), box_bt hb⟩
    · have hsz := size_bd S U f
      obtain ⟨z, hz⟩ : ∃ z, size S U f = z := ⟨_, rfl⟩
      rw [hz] at hsz
      by_cases h1 : z ≤ m
      · go_enter Try.func31, Try.ntmps31
        go_wp2_with (first
          | (go_at_call 45; refine (span_any _ _ _ _ _ _ S U _ _ _ (HD.out.box _) HF.out HT.out).mono ?_; rintro e w1 ⟨rfl, hb⟩; obtain ⟨c0, c1⟩ := box_cells hb)
          | (go_at_call 46; refine (members_any _ _ _ _ _ _ S U _ _ (HD.out.below (box_bt hb)) HG g2 (by omega)).mono ?_; rintro e w2 ⟨rfl, hb2⟩))
        go_ret2
        exact ⟨ret_none (lift_no (.inr (.inr (.inr (.inr (by rw [hz]; exact h1)))))), bt (box_bt hb) hb2⟩
      · have HM : Hid (m < size S U f) := by show m < size S U f; omega
        have hl := lift_in (S := S) (U := U) (f := f) (t := t) (m := m) g2 g3 (by have := size_pos HG.out (lv := t) (by omega) (by rw [← E1.out]; exact g4); omega) (by omega) (by omega)
        have HL : Hid (0 ≤ lift S U f t m) := hl.1
        clear hl
        go_enter Try.func31, Try.ntmps31
        go_wp2_with (first
          | (go_at_call 45; refine (span_any _ _ _ _ _ _ S U _ _ _ (HD.out.box _) HF.out HT.out).mono ?_; rintro e w1 ⟨rfl, hb⟩; obtain ⟨c0, c1⟩ := box_cells hb)
          | (go_at_call 46; refine (members_any _ _ _ _ _ _ S U _ _ (HD.out.below (box_bt hb)) HG g2 (by omega)).mono ?_; rintro e w2 ⟨rfl, hb2⟩; have sz1 := hb.size; simp only [World.size_alloc] at sz1; have c2 := ((bcell hb2).1 _ _ sz1).trans c0; have c3 := ((bcell hb2).1 _ _ sz1).trans c1)
          | (go_at_call 47; refine (carry_any _ _ _ _ _ _ S U _ _ _ _ (HD.out.below (bt (box_bt hb) hb2)) HG g2 g3 g4 (by omega) HM).mono ?_; rintro e w3 ⟨rfl, hb3⟩))
        go_ret2
        exact ⟨ret_lift rfl HL.out, bt (bt (box_bt hb) hb2) hb3⟩

end Go.Proofs.Ytfgphphaopcolaa

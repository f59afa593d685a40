/-
  What code.Get returns: the number at the beginning of some bytes, or none.
  Conditions: as each theorem states them.
-/
import Derived.Test.YtikgbcdmeikjfaaCE
namespace Go.Proofs.Ytikgbcdmeikjfaa.code
open Go.RowKit
set_option linter.unusedVariables false
set_option linter.unusedSimpArgs false
set_option maxRecDepth 100000

theorem lead_ge (l : List Int) (k : Nat) (hk : k ≤ l.length) (h : ∀ j, j < k → 127 < l.getD j 0) : k ≤ lead l := by
  induction l generalizing k with
  | nil => simp at hk; omega
  | cons d r ih =>
    cases k with
    | zero => omega
    | succ k =>
      have h0 := h 0 (by omega)
      have := ih k (by simpa using hk) (fun j hj => by have := h (j + 1) (by omega); simpa using this)
      simp at h0
      simp only [lead]
      rw [if_pos h0]; omega
theorem lead_at (l : List Int) (k : Nat) (hk : k < l.length) (h : ∀ j, j < k → 127 < l.getD j 0) (hd : l.getD k 0 ≤ 127) : lead l = k := by
  induction l generalizing k with
  | nil => simp at hk
  | cons d r ih =>
    cases k with
    | zero => simp at hd; simp only [lead]; rw [if_neg (by omega)]
    | succ k =>
      have h0 := h 0 (by omega)
      have := ih k (by simpa using hk) (fun j hj => by have := h (j + 1) (by omega); simpa using this) (by simpa using hd)
      simp at h0
      simp only [lead]
      rw [if_pos h0]; omega
theorem top_pow (k : Nat) : top k = 2 ^ (k * 7) := by
  induction k with
  | zero => rfl
  | succ k ih => rw [top, ih, Nat.add_mul, Int.pow_add]; omega
theorem top_le (k : Nat) (h : k ≤ 9) : top k ≤ 9223372036854775808 := by
  rcases k with _ | _ | _ | _ | _ | _ | _ | _ | _ | _ | k <;> first | omega | decide
theorem top_le8 (k : Nat) (h : k ≤ 8) : top k ≤ 72057594037927936 := by
  rcases k with _ | _ | _ | _ | _ | _ | _ | _ | _ | k <;> first | omega | decide
theorem mul_le_of {D : Nat} {T M c : Int} (hT : 0 ≤ T) (h1 : T ≤ M) (hD : (D : Int) ≤ c) (hM : 0 ≤ M) : (D : Int) * T ≤ c * M :=
  Int.le_trans (Int.mul_le_mul_of_nonneg_left h1 (by omega)) (Int.mul_le_mul_of_nonneg_right hD hM)
theorem join_bd {D : Int} {k : Nat} (hD : 0 ≤ D) (hD2 : D < 128) (hk : k ≤ 9) (h9 : k = 9 → D < 2) : 0 ≤ D * top k ∧ D * top k ≤ 9223372036854775808 := by
  have tp := top_pos k
  obtain ⟨n, rfl⟩ : ∃ n : Nat, D = n := ⟨D.toNat, by omega⟩
  refine ⟨Int.mul_nonneg hD (by omega), ?_⟩
  by_cases h : k = 9
  · have := mul_le_of (D := n) (by omega) (top_le k hk) (show (n : Int) ≤ 1 by have := h9 h; omega) (by decide)
    omega
  · have := mul_le_of (D := n) (by omega) (top_le8 k (by omega)) (show (n : Int) ≤ 127 by omega) (by decide)
    omega
theorem join_ok {L D : Int} {k : Nat} (hL : 0 ≤ L) (hL2 : L < top k) (hD : 0 ≤ D) (hD2 : D < 128) (hk : k ≤ 9) (h9 : k = 9 → D < 2) :
    bits .or .u64 L (IntKind.u64.wrap (D * 2 ^ (k * 7))) = L + D * top k ∧ ((L + D * top k) / 2 ^ (k * 7) != D) = false := by
  obtain ⟨j1, j2⟩ := join_bd hD hD2 hk h9
  have tp := top_pos k
  have tl := top_le k hk
  rw [← top_pow]
  constructor
  · rw [IntKind.wrap_u64, Int.emod_eq_of_lt j1 (by omega), u64_or _ _ (by omega) (by omega) (by omega) (by omega), Nat.or_comm, nat_join (k * 7)]
    · omega
    · obtain ⟨n, rfl⟩ : ∃ n : Nat, D = n := ⟨D.toNat, by omega⟩
      rw [top_pow]
      have : ((n : Int) * 2 ^ (k * 7)).toNat = n * 2 ^ (k * 7) := by
        have e : ((n : Int) * 2 ^ (k * 7)) = ((n * 2 ^ (k * 7) : Nat) : Int) := by push_cast; rfl
        rw [e]; rfl
      rw [this]
      exact Nat.mul_mod_left _ _
    · rw [top_pow] at hL2
      have : (L.toNat : Int) < ((2 ^ (k * 7) : Nat) : Int) := by push_cast; omega
      omega
  · rw [Int.add_mul_ediv_right _ _ (by omega), Int.ediv_eq_zero_of_lt hL hL2]
    simp
theorem u64_or_lt (x y : Int) (h1 : 0 ≤ x) (h2 : x < 18446744073709551616) (h3 : 0 ≤ y) (h4 : y < 18446744073709551616) : bits .or .u64 x y < 18446744073709551616 := by
  rw [u64_or _ _ h1 h2 h3 h4]
  have := Nat.or_lt_two_pow (x := x.toNat) (y := y.toNat) (n := 64) (by omega) (by omega)
  omega
theorem join_over {L D : Int} {k : Nat} (hL : 0 ≤ L) (hL2 : L < top k) (hD : 2 ≤ D) (hk : k = 9) :
    (bits .or .u64 L (IntKind.u64.wrap (D * 2 ^ (k * 7))) / 2 ^ (k * 7) != D) = true := by
  subst hk
  rw [top9] at hL2
  have h := u64_or_lt L (IntKind.u64.wrap (D * 2 ^ (9 * 7))) hL (by omega) (by rw [IntKind.wrap_u64]; omega) (by rw [IntKind.wrap_u64]; omega)
  simp only [bne_iff_ne, ne_eq]
  intro e
  have : bits .or .u64 L (IntKind.u64.wrap (D * 2 ^ (9 * 7))) / 2 ^ (9 * 7) < 2 := by
    have : (2 : Int) ^ (9 * 7) = 9223372036854775808 := by decide
    rw [this]; omega
  omega
theorem u64_or_0 {x : Int} (h1 : 0 ≤ x) (h2 : x < 18446744073709551616) : bits .or .u64 x 0 = x := by
  rw [u64_or _ _ h1 h2 (by decide) (by decide)]
  simp; omega
theorem ret_no {l : List Int} (h : getB l = false) : Ending.returned (.tuple #[.int .u64 0, .int .i64 0, .bool false]) = .returned (.tuple #[.int .u64 (getV l), .int .i64 (getN l), .bool (getB l)]) := by
  unfold getV getN; rw [h]; rfl
theorem ret_yes {l : List Int} {x : Int} {k : Nat} (hk : lead l = k) (hl : k < l.length) (h9 : k ≤ 9) (h0 : 0 < k → l.getD k 0 ≠ 0) (h1 : k = 9 → l.getD k 0 ≤ 1) (hx : x = low l (k + 1)) : Ending.returned (.tuple #[.int .u64 x, .int .i64 ((k : Int) + 1), .bool true]) = .returned (.tuple #[.int .u64 (getV l), .int .i64 (getN l), .bool (getB l)]) := by
  have hb : getB l = true := by
    unfold getB
    rw [hk]
    exact decide_eq_true ⟨hl, h9, fun ⟨a, b⟩ => h0 a b, fun ⟨a, b⟩ => by have := h1 a; omega⟩
  unfold getV getN
  rw [hb, hk, hx]; rfl
theorem no_long {l : List Int} {k m : Nat} (hl : k ≤ l.length) (hk : k = min l.length 10) (h : ∀ j, j < k → 127 < l.getD j 0) : getB l = false := by
  have := lead_ge l k hl h
  have := lead_le l
  unfold getB
  refine decide_eq_false ?_
  rintro ⟨h1, h2, _⟩
  omega
theorem no_over {l : List Int} {d : Int} (hl : 9 < l.length) (h : ∀ j, j < 9 → 127 < l.getD j 0) (hd : l.getD 9 0 = d) (hd0 : 0 ≤ d) (h2 : 2 ≤ d % 128) : getB l = false := by
  unfold getB
  refine decide_eq_false ?_
  rintro ⟨h1, h3, h4, h5⟩
  by_cases h6 : d ≤ 127
  · have := lead_at l 9 hl h (by omega)
    exact h5 ⟨this, by rw [this, hd]; omega⟩
  · have := lead_ge l 10 (by omega) (fun j hj => by
      by_cases e : j = 9
      · subst e; omega
      · exact h j (by omega))
    omega
theorem no_zero {l : List Int} {k : Nat} (hl : k < l.length) (hk : 0 < k) (h : ∀ j, j < k → 127 < l.getD j 0) (hd : l.getD k 0 = 0) : getB l = false := by
  have := lead_at l k hl h (by omega)
  unfold getB
  rw [this]
  refine decide_eq_false ?_
  rintro ⟨_, _, h3, _⟩
  exact h3 ⟨hk, hd⟩
theorem getD_u8 {l : List Int} (hu : ∀ x ∈ l, U8 x) (k : Nat) (h : k < l.length) : 0 ≤ l.getD k 0 ∧ l.getD k 0 ≤ 255 := by
  have : l.getD k 0 = l[k] := by simp [List.getD_eq_getElem?_getD, List.getElem?_eq_getElem h]
  rw [this]
  exact hu _ (List.getElem_mem h)

set_option maxHeartbeats 400000 in
theorem get_0 (a : Option Addr) (cap : Nat) (w : World) (hc : cap ≤ 9223372036854775807) :
    Calls Try.prog 46 #[.slice a 0 cap] w fun e w' => e = .returned (.tuple #[.int .u64 0, .int .i64 0, .bool false]) ∧ w' = w := by
  go_enter Try.func46, Try.ntmps46
  go_wp2
  go_loop [5, 16] (fun v i => i = .int .i64 0)
    (fun _ _ => 0)
  case atStart => exact rfl
  case round =>
    obtain rfl := hrel
    go_wp2
    go_ret3
    exact ⟨rfl, rfl⟩

set_option maxHeartbeats 2000000 in
theorem get_k (b off len cap m : Nat) (l : List Int) (w : World) (hl : l.length = len) (h0 : 0 < m) (hml : m ≤ len) (hm : Hid (m = min len 10)) (hmi : (if (10 : Int) < (len : Int) then 10 else (len : Int)) = m) (hlc : len ≤ cap) (hcm : cap ≤ 9223372036854775807) (hc : Lies w b off l) (hu : ∀ x ∈ l, U8 x) :
    Calls Try.prog 46 #[.slice (some ⟨b, off, none⟩) len cap] w fun e w' => e = .returned (.tuple #[.int .u64 (getV l), .int .i64 (getN l), .bool (getB l)]) ∧ w' = w := by
  go_enter Try.func46, Try.ntmps46
  go_wp2
  go_loop [5, 16] (fun v i => ∃ k : Nat, k ≤ m ∧ i = .int .i64 k ∧ v = .int .u64 (low l k) ∧ ∀ j, j < k → 127 < l.getD j 0)
    (fun _ i => m - (intOf i).toNat)
  case atStart => exact ⟨0, Nat.zero_le _, rfl, by cases l <;> rfl, fun j hj => by omega⟩
  case round =>
    obtain ⟨k, hk, rfl, rfl, hlead0⟩ := hrel
    have hlead : Hid (∀ j, j < k → 127 < l.getD j 0) := hlead0
    clear hlead0
    have hm10 : m ≤ 10 := by rw [hm.out]; omega
    clear hmi
    by_cases hlt : k < m
    · have hcx := hc k (by omega)
      obtain ⟨hd1, hd2⟩ := getD_u8 hu k (by omega)
      have hst := low_step l k (by omega)
      obtain ⟨d, hd0⟩ : ∃ d, l.getD k 0 = d := ⟨_, rfl⟩
      rw [hd0] at hcx hd1 hd2 hst
      have hd : Hid (l.getD k 0 = d) := hd0
      clear hd0
      have l1 := low_nonneg l k
      have l2 := low_lt l k
      have tl := top_le k (by omega)
      by_cases hov : k = 9 ∧ 2 ≤ d % 128
      · have hB : Hid (getB l = false) := by
          obtain ⟨rfl, h2⟩ := hov
          exact no_over (by omega) hlead.out hd.out hd1 h2
        have ht := join_over (L := low l k) (D := d % 128) l1 l2 hov.2 hov.1
        clear hov hst
        go_wp2
        go_ret3
        exact ⟨ret_no hB.out, rfl⟩
      · obtain ⟨hE, ht⟩ := join_ok (L := low l k) (D := d % 128) (k := k) l1 l2 (by omega) (by omega) (by omega) (by omega)
        rw [← hst] at hE ht
        have hov' : Hid (¬ (k = 9 ∧ 2 ≤ d % 128)) := hov
        clear hov hst
        by_cases h128 : 128 ≤ d
        · go_wp2
          go_round
          case rel =>
            refine ⟨k + 1, by omega, by go_num, rfl, fun j hj => ?_⟩
            by_cases e : j = k
            · subst e; rw [hd.out]; omega
            · exact hlead.out j (by omega)
          case measure => simp [intOf]; omega
        · by_cases hz : d = 0
          · have hE0 := u64_or_0 (x := low l k) l1 (by omega)
            have hs : low l (k + 1) = low l k := by
              rw [low_step l k (by omega), hd.out, hz]; simp
            have ht0 : (low l k / 2 ^ (k * 7) != 0) = false := by
              rw [← top_pow, Int.ediv_eq_zero_of_lt l1 l2]; rfl
            subst hz
            clear hE ht
            by_cases hk0 : 0 < k
            · have hB : Hid (getB l = false) := no_zero (by omega) hk0 hlead.out hd.out
              go_wp2
              go_ret3
              exact ⟨ret_no hB.out, rfl⟩
            · go_wp2
              go_ret3
              exact ⟨ret_yes (lead_at l k (by omega) hlead.out (by rw [hd.out]; omega)) (by omega) (by omega) (fun h => absurd h hk0) (fun h => by omega) hs.symm, rfl⟩
          · have hz1 : ¬ d % 128 = 0 := by omega
            go_wp2
            go_ret3
            exact ⟨ret_yes (lead_at l k (by omega) hlead.out (by rw [hd.out]; omega)) (by omega) (by omega) (fun _ => by rw [hd.out]; exact hz) (fun h => by rw [hd.out]; have := hov'.out; omega) rfl, rfl⟩
    · have : k = m := by omega
      have hB : Hid (getB l = false) := no_long (k := k) (m := m) (by omega) (by rw [this, hm.out, hl]) hlead.out
      go_wp2
      go_ret3
      exact ⟨ret_no hB.out, rfl⟩

/-- Get, of whatever slice of bytes. -/
theorem get_any (a : Option Addr) (len cap : Nat) (l : List Int) (w : World) (h : Row8 w a len cap l) :
    Calls Try.prog 46 #[.slice a len cap] w fun e w' => e = .returned (.tuple #[.int .u64 (getV l), .int .i64 (getN l), .bool (getB l)]) ∧ w' = w := by
  obtain ⟨r1, r2, r3, r4, r5, r6⟩ := h
  unfold maxLen at r3
  by_cases h0 : 0 < len
  · obtain ⟨b, off, rfl, hb, hl⟩ := r6 h0
    exact get_k b off len cap (min len 10) l w r1.symm (by omega) (by omega) rfl (by split <;> omega) r2 (by omega) hl r4
  · obtain rfl : len = 0 := by omega
    have hn : l = [] := List.length_eq_zero_iff.mp r1.symm
    subst hn
    exact get_0 a cap w (by omega)

end Go.Proofs.Ytikgbcdmeikjfaa.code

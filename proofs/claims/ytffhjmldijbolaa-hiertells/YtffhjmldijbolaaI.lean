/-
  What the law's own held, Mod, Ints, LightDim and some return.
  Conditions: as each theorem states them.
-/
import Derived.Test.YtffhjmldijbolaaH
namespace Go.Proofs.Ytffhjmldijbolaa
open Go.ChangeShapes Go.WideShapes Go.ChangeAt Go.RowKit
set_option linter.unusedVariables false
set_option linter.unusedSimpArgs false

/-- A number held below another one. -/
def hld (n b : Int) : Int := n % max b 1
theorem hld_bd (n b : Int) (h : U8 n) : 0 ≤ hld n b ∧ hld n b ≤ 255 ∧ hld n b < max b 1 := by
  obtain ⟨h1, h2⟩ := h
  unfold hld
  have h3 : 0 < max b 1 := by rw [Int.max_def]; split <;> omega
  have h4 := Int.emod_nonneg n (show max b 1 ≠ 0 by omega)
  have h5 := Int.emod_lt_of_pos n h3
  refine ⟨h4, ?_, h5⟩
  obtain ⟨a, rfl⟩ : ∃ a : Nat, n = a := ⟨n.toNat, by omega⟩
  obtain ⟨c, hc⟩ : ∃ c : Nat, max b 1 = c := ⟨(max b 1).toNat, by omega⟩
  rw [hc]
  have := Nat.mod_le a c
  omega
theorem hld_tmod {n b : Int} (h : U8 n) : n.tmod (max b 1) = hld n b := by
  unfold hld
  exact Int.tmod_eq_emod_of_nonneg h.1

set_option maxHeartbeats 1000000 in
theorem held_any (n b : Int) (w : World) (hn : U8 n) (hb : I64 b) :
    Calls Try.prog 13 #[.int .u8 n, .int .i64 b] w fun e w' => e = .returned (.int .i64 (hld n b)) ∧ w' = w := by
  obtain ⟨b1, b2⟩ := hb
  obtain ⟨n1, n2⟩ := hn
  go_enter Try.func13, Try.ntmps13
  go_wp2
  · go_ret
    refine ⟨ret_int ?_, rfl⟩
    unfold hld; rw [Int.max_eq_right (by omega)]; omega
  · go_ret
    refine ⟨ret_int ?_, rfl⟩
    unfold hld; rw [Int.max_eq_left (by omega)]

set_option maxHeartbeats 1000000 in
theorem mod_any (n m : Int) (w : World) (hn : I64 n) (h0 : 0 < m) (h1 : m ≤ 1000) :
    Calls Try.prog 10 #[.int .i64 n, .int .i64 m] w fun e w' => e = .returned (.int .i64 (n % m)) ∧ w' = w := by
  obtain ⟨n1, n2⟩ := hn
  have h2 := Int.emod_nonneg n (show m ≠ 0 by omega)
  have h3 := Int.emod_lt_of_pos n h0
  have hr : -m < n.tmod m ∧ n.tmod m < m ∧ ((n.tmod m < 0 ∧ n.tmod m + m = n % m) ∨ (0 ≤ n.tmod m ∧ n.tmod m = n % m)) := by
    have e1 : (n.tmod m = n % m ∨ n.tmod m = n % m - m) ∧ (n % m = 0 → n.tmod m = 0) := by
      rw [Int.tmod_eq_emod]
      split
      · exact ⟨.inl (by omega), fun h => by omega⟩
      · rename_i hh
        refine ⟨.inr (by omega), fun h => ?_⟩
        exact absurd (.inr (Int.dvd_of_emod_eq_zero h)) hh
    omega
  obtain ⟨r, hrr⟩ : ∃ r, n.tmod m = r := ⟨_, rfl⟩
  rw [hrr] at hr
  obtain ⟨e, he⟩ : ∃ e, n % m = e := ⟨_, rfl⟩
  rw [he] at hr h2 h3
  have HE : Hid (n % m = e) := he
  obtain ⟨r1, r2, r3⟩ := hr
  clear he
  by_cases hneg : r < 0
  · go_enter Try.func10, Try.ntmps10
    go_wp2
    go_ret
    refine ⟨ret_int ?_, rfl⟩
    rw [HE.out]; omega
  · go_enter Try.func10, Try.ntmps10
    go_wp2
    go_ret
    refine ⟨ret_int ?_, rfl⟩
    rw [HE.out]; omega

set_option maxHeartbeats 1000000 in
/-- Two rows that hold the same are alike. -/
theorem ints_same (a b : Option Addr) (n c n2 c2 : Nat) (l : List Int) (w : World) (h1 : IRow .i64 w a n c l) (h2 : IRow .i64 w b n2 c2 l) :
    Calls Try.prog 23 #[.slice a n c, .slice b n2 c2] w fun e w' => e = .returned (.bool true) ∧ Below w.heap.size w w' := by
  obtain ⟨e1, e2⟩ := h1.lens
  obtain rfl : n2 = n := by rw [h2.lens.1, e1]
  clear e1
  have H1 : Hid (IRow .i64 w a n2 c l) := h1
  have H2 : Hid (IRow .i64 w b n2 c2 l) := h2
  clear h1 h2
  go_enter Try.func23, Try.ntmps23
  go_wp2
  go_loopw [5] (fun i wr => ∃ k : Nat, k ≤ n2 ∧ i = .int .i64 k ∧ Below w.heap.size w wr) (fun i _ => n2 - (intOf i).toNat)
  case atStart => exact ⟨0, Nat.zero_le _, rfl, Below.refl _ _⟩
  case round =>
    obtain ⟨k, hk, rfl, bel⟩ := hrel
    by_cases hlt : k < n2
    · have hlt2 : (k : Int) < (n2 : Int) := by omega
      obtain ⟨b1, off1, rfl, hb1, hc1⟩ := (H1.out.below bel).cell hlt
      obtain ⟨b2, off2, rfl, hb2, hc2⟩ := (H2.out.below bel).cell hlt
      have d1 := hc1 k hlt
      have d2 := hc2 k hlt
      obtain ⟨x, hx⟩ : ∃ x, l.getD k 0 = x := ⟨_, rfl⟩
      rw [hx] at d1 d2
      clear hc1 hc2 hx
      go_wp2
      go_quiet (fail)
      go_wp2
      go_roundw
      case rel => exact ⟨k + 1, by omega, by go_num, below_drewN bel _⟩
      case measure => simp [intOf]; omega
    · obtain rfl : k = n2 := by omega
      go_wp2
      go_ret
      exact ⟨rfl, bel⟩

def SomeBool (e : Ending) : Prop := ∃ v, e = .returned (.bool v)
set_option maxHeartbeats 1000000 in
theorem light_any (sa : Option Addr) (sl sc : Nat) (ua : Option Addr) (ul uc : Nat) (S : List Int) (U : List (List Int)) (w : World) (hd : Dim w sa sl sc ua ul uc S U) :
    Calls Try.prog 8 #[.agg #[.slice sa sl sc, .slice ua ul uc]] w fun e w' => SomeBool e ∧ Below w.heap.size w w' := by
  obtain ⟨e1, e2, e3, e4⟩ := hd.lens
  have HD : Hid (Dim w sa sl sc ua ul uc S U) := hd
  have bel := (box_new w (.slice sa sl sc) (.slice ua ul uc) 25).1
  clear e1 e2 hd
  by_cases h1 : (10 : Int) < (sl : Int)
  · go_enter Try.func8, Try.ntmps8
    go_wp2
    go_ret
    exact ⟨⟨_, rfl⟩, bel⟩
  by_cases h2 : (10 : Int) < (ul : Int)
  · go_enter Try.func8, Try.ntmps8
    go_wp2
    go_ret
    exact ⟨⟨_, rfl⟩, bel⟩
  go_enter Try.func8, Try.ntmps8
  go_wp2
  go_loop [3] (fun i => ∃ k : Nat, k ≤ ul ∧ i = .int .i64 k) (fun i => ul - (intOf i).toNat)
  case atStart => exact ⟨0, Nat.zero_le _, rfl⟩
  case round =>
    obtain ⟨k, hk, rfl⟩ := hrel
    by_cases hlt : k < ul
    · obtain ⟨b, off, rfl, hb, ra, rl, rc, hcu, hru, hlu⟩ := (HD.out.below bel).up_cell hlt
      have r2 := hru.lens.2
      clear hru hlu
      by_cases h3 : (60 : Int) < (rl : Int)
      · go_wp2
        go_ret
        exact ⟨⟨_, rfl⟩, bel⟩
      · go_wp2
        go_round
        case rel => exact ⟨k + 1, by omega, by go_num⟩
        case measure => simp [intOf]; omega
    · obtain rfl : k = ul := by omega
      go_wp2
      go_ret
      exact ⟨⟨_, rfl⟩, bel⟩

/-- The chapter's example. -/
def S0 : List Int := [4, 2]
def U0 : List (List Int) := [[0, 0, 1, 1]]

theorem S0_i64 : ∀ x ∈ S0, I64 x := by
  intro x hx
  simp [S0] at hx
  unfold I64; omega
theorem U0_i64 : ∀ l ∈ U0, ∀ x ∈ l, I64 x := by
  intro l hl x hx
  simp [U0] at hl
  subst hl
  simp at hx
  unfold I64; omega
theorem S0_lies {w : World} {b off : Nat} (h0 : w.cell? ⟨b, off, none⟩ = some (.int .i64 4)) (h1 : w.cell? ⟨b, off + 1, none⟩ = some (.int .i64 2)) : Lies .i64 w b off S0 := by
  intro j hj
  match j, hj with
  | 0, _ => exact h0
  | 1, _ => exact h1
theorem R0_lies {w : World} {b off : Nat} (h0 : w.cell? ⟨b, off, none⟩ = some (.int .i64 0)) (h1 : w.cell? ⟨b, off + 1, none⟩ = some (.int .i64 0)) (h2 : w.cell? ⟨b, off + 2, none⟩ = some (.int .i64 1)) (h3 : w.cell? ⟨b, off + 3, none⟩ = some (.int .i64 1)) : Lies .i64 w b off [0, 0, 1, 1] := by
  intro j hj
  match j, hj with
  | 0, _ => exact h0
  | 1, _ => exact h1
  | 2, _ => exact h2
  | 3, _ => exact h3
theorem dim0 {w : World} {b1 b2 b3 : Nat} (k1 : b1 < w.heap.size) (k2 : b2 < w.heap.size) (k3 : b3 < w.heap.size) (h1 : Lies .i64 w b1 0 S0) (h2 : Lies .i64 w b2 0 [0, 0, 1, 1]) (h3 : w.cell? ⟨b3, 0, none⟩ = some (.slice (some ⟨b2, 0, none⟩) 4 4)) : Dim w (some ⟨b1, 0, none⟩) 2 2 (some ⟨b3, 0, none⟩) 1 1 S0 U0 := by
  refine ⟨row_at k1 h1 (Nat.le_refl _) (by decide), ⟨rfl, Nat.le_refl _, by decide, (fun h => by cases h), fun _ => ⟨b3, 0, rfl, k3, fun j hj => ?_⟩⟩, S0_i64, U0_i64⟩
  obtain rfl : j = 0 := by omega
  exact ⟨some ⟨b2, 0, none⟩, 4, 4, h3, row_at k2 h2 (Nat.le_refl _) (by decide)⟩

set_option maxHeartbeats 1000000 in
theorem some_any (w : World) :
    Calls Try.prog 20 #[] w fun e w' => (∃ sa ua, e = .returned (.agg #[.slice sa 2 2, .slice ua 1 1]) ∧ Dim w' sa 2 2 ua 1 1 S0 U0) ∧ Below w.heap.size w w' := by
  go_enter Try.func20, Try.ntmps20
  go_wp2
  refine bodyPost_ret (v := .agg #[.slice (some ⟨w.heap.size + 1, 0, none⟩) 2 2, .slice (some ⟨w.heap.size + 1 + 1 + 1, 0, none⟩) 1 1]) (by simp [results, Try.results20, go_sem]) rfl ⟨⟨_, _, rfl, ?_⟩, ?_⟩
  · exact dim0 (b2 := w.heap.size + 1 + 1) (by simp) (by simp) (by simp) (S0_lies (by simp [go_sem]) (by simp [go_sem])) (R0_lies (by simp [go_sem]) (by simp [go_sem]) (by simp [go_sem]) (by simp [go_sem])) (by simp [go_sem])
  · exact ((((Below.refl _ _).alloc (Nat.le_refl _) _).alloc (by simp) _).alloc (by simp; omega) _).alloc (by simp; omega) _

/-! What is told of it. -/
theorem g0 : good S0 U0 = true := by decide
theorem l0 : liftV S0 U0 0 1 3 = 1 ∧ liftB S0 U0 0 1 3 = true := by decide
theorem u0 : under S0 U0 1 1 0 = [2, 3] := by decide
theorem k0 : kids S0 U0 2 0 = [0, 1] := by decide
theorem s0 : size S0 U0 2 = 1 := by decide
theorem gn : good [] [] = false := by decide
theorem dimN (w : World) : Dim w none 0 0 none 0 0 [] [] := ⟨row_nil _ _, rows_nil _ _, by simp, by simp⟩
theorem i64_lit : I64 0 ∧ I64 1 ∧ I64 2 ∧ I64 3 := by unfold I64; omega

theorem good0 (sa ua : Option Addr) (w : World) (hd : Dim w sa 2 2 ua 1 1 S0 U0) :
    Calls Try.prog 18 #[.agg #[.slice sa 2 2, .slice ua 1 1]] w fun e w' => e = .returned (.bool true) ∧ Below w.heap.size w w' := by
  have := good_any _ _ _ _ _ _ _ _ _ hd
  rw [g0] at this; exact this
theorem goodN (w : World) : Calls Try.prog 18 #[.agg #[.slice none 0 0, .slice none 0 0]] w fun e w' => e = .returned (.bool false) ∧ Below w.heap.size w w' := by
  have := good_any _ _ _ _ _ _ _ _ _ (dimN w)
  rw [gn] at this; exact this
theorem lift0 (sa ua : Option Addr) (w : World) (hd : Dim w sa 2 2 ua 1 1 S0 U0) :
    Calls Try.prog 15 #[.agg #[.slice sa 2 2, .slice ua 1 1], .int .i64 0, .int .i64 1, .int .i64 3] w fun e w' => e = .returned (.tuple #[.int .i64 1, .bool true]) ∧ Below w.heap.size w w' := by
  have := lift_any _ _ _ _ _ _ _ _ 0 1 3 _ hd i64_lit.1 i64_lit.2.1 i64_lit.2.2.2
  rw [l0.1, l0.2] at this; exact this
theorem size0 (sa ua : Option Addr) (w : World) (hd : Dim w sa 2 2 ua 1 1 S0 U0) :
    Calls Try.prog 19 #[.agg #[.slice sa 2 2, .slice ua 1 1], .int .i64 2] w fun e w' => e = .returned (.int .i64 1) ∧ Below w.heap.size w w' := by
  have := size_any _ _ _ _ _ _ _ _ 2 _ hd i64_lit.2.2.1
  rw [s0] at this; exact this
theorem told_two {e : Ending} {w : World} {x y : Int} (h : Told e w [x, y]) : ∃ b off cap, e = .returned (.slice (some ⟨b, off, none⟩) 2 cap) ∧ b < w.heap.size ∧ w.cell? ⟨b, off, none⟩ = some (.int .i64 x) ∧ w.cell? ⟨b, off + 1, none⟩ = some (.int .i64 y) := by
  obtain ⟨a, cap, e, hr⟩ := h
  obtain ⟨b, off, rfl, hb, hc⟩ := hr.cell (k := 0) (by simp)
  exact ⟨b, off, cap, e, hb, hc 0 (by simp), hc 1 (by simp)⟩
theorem under0 (sa ua : Option Addr) (w : World) (hd : Dim w sa 2 2 ua 1 1 S0 U0) :
    Calls Try.prog 16 #[.agg #[.slice sa 2 2, .slice ua 1 1], .int .i64 1, .int .i64 1, .int .i64 0] w fun e w' => (∃ b off cap, e = .returned (.slice (some ⟨b, off, none⟩) 2 cap) ∧ b < w'.heap.size ∧ w'.cell? ⟨b, off, none⟩ = some (.int .i64 2) ∧ w'.cell? ⟨b, off + 1, none⟩ = some (.int .i64 3)) ∧ Below w.heap.size w w' := by
  have := under_any _ _ _ _ _ _ _ _ 1 1 0 _ hd i64_lit.2.1 i64_lit.2.1 i64_lit.1
  rw [u0] at this
  exact this.mono fun e w' ⟨h1, h2⟩ => ⟨told_two h1, h2⟩
theorem kids0 (sa ua : Option Addr) (w : World) (hd : Dim w sa 2 2 ua 1 1 S0 U0) :
    Calls Try.prog 17 #[.agg #[.slice sa 2 2, .slice ua 1 1], .int .i64 2, .int .i64 0] w fun e w' => (∃ b off cap, e = .returned (.slice (some ⟨b, off, none⟩) 2 cap) ∧ b < w'.heap.size ∧ w'.cell? ⟨b, off, none⟩ = some (.int .i64 0) ∧ w'.cell? ⟨b, off + 1, none⟩ = some (.int .i64 1)) ∧ Below w.heap.size w w' := by
  have := kids_any _ _ _ _ _ _ _ _ 2 0 _ hd i64_lit.2.2.1 i64_lit.1
  rw [k0] at this
  exact this.mono fun e w' ⟨h1, h2⟩ => ⟨told_two h1, h2⟩

end Go.Proofs.Ytffhjmldijbolaa

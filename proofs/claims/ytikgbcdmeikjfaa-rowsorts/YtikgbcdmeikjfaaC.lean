/-
  What hier.within and hier.Good return: may a dimension be.
  Conditions: as each theorem states them.
-/
import Derived.Test.YtikgbcdmeikjfaaChecked
import Derived.Test.YtikgbcdmeikjfaaB
import Derived.Deep.QuietTactic
import Derived.BigQuiet
import Derived.WalkSmall
namespace Go.Proofs.Ytikgbcdmeikjfaa
open Go.ChangeShapes Go.WideShapes Go.ChangeAt Go.RowKit
set_option linter.unusedVariables false
set_option linter.unusedSimpArgs false
set_option maxRecDepth 100000

theorem hid {p : Prop} (h : p) : Hid p := h
/-- A dimension, in a world. -/
def Dim (w : World) (sa : Option Addr) (sl sc : Nat) (ua : Option Addr) (ul uc : Nat) (S : List Int) (U : List (List Int)) : Prop :=
  IRow .i64 w sa sl sc S ∧ IRows .i64 w ua ul uc U ∧ (∀ x ∈ S, I64 x) ∧ ∀ l ∈ U, ∀ x ∈ l, I64 x
theorem Dim.below {w w' : World} {sa : Option Addr} {sl sc : Nat} {ua : Option Addr} {ul uc : Nat} {S : List Int} {U : List (List Int)} (h : Dim w sa sl sc ua ul uc S U) (hb : Below w.heap.size w w') : Dim w' sa sl sc ua ul uc S U :=
  ⟨h.1.below hb, h.2.1.below hb, h.2.2.1, h.2.2.2⟩
theorem Dim.lens {w : World} {sa : Option Addr} {sl sc : Nat} {ua : Option Addr} {ul uc : Nat} {S : List Int} {U : List (List Int)} (h : Dim w sa sl sc ua ul uc S U) : sl = S.length ∧ ul = U.length ∧ sl ≤ 9223372036854775807 ∧ ul ≤ 9223372036854775807 := by
  obtain ⟨⟨a1, a2, a3, _⟩, ⟨b1, b2, b3, _⟩, _⟩ := h
  unfold maxLen at a3 b3
  exact ⟨a1, b1, by omega, by omega⟩
/-- A level's size, read. -/
theorem Dim.size_cell {w : World} {sa : Option Addr} {sl sc : Nat} {ua : Option Addr} {ul uc : Nat} {S : List Int} {U : List (List Int)} (h : Dim w sa sl sc ua ul uc S U) {k : Nat} (hk : k < sl) :
    ∃ b off, sa = some ⟨b, off, none⟩ ∧ b < w.heap.size ∧ (∀ j, j < sl → w.cell? ⟨b, off + j, none⟩ = some (.int .i64 (S.getD j 0))) ∧ ∀ j, j < sl → I64 (S.getD j 0) := by
  obtain ⟨⟨a1, a2, a3, a4, a5⟩, _, hS, _⟩ := h
  obtain ⟨b, off, e, hlt, hl⟩ := a5 (by omega)
  exact ⟨b, off, e, hlt, fun j hj => hl j (by omega), fun j hj => getD_of hS j (by omega)⟩
theorem getD_mem2 {U : List (List Int)} {k : Nat} (h : k < U.length) : U.getD k [] ∈ U := by
  have : U.getD k [] = U[k] := by simp [List.getD_eq_getElem?_getD, List.getElem?_eq_getElem h]
  rw [this]; exact List.getElem_mem h
/-- A list of whom members belong to, read. -/
theorem Dim.up_cell {w : World} {sa : Option Addr} {sl sc : Nat} {ua : Option Addr} {ul uc : Nat} {S : List Int} {U : List (List Int)} (h : Dim w sa sl sc ua ul uc S U) {k : Nat} (hk : k < ul) :
    ∃ b off, ua = some ⟨b, off, none⟩ ∧ b < w.heap.size ∧ ∃ ra rl rc, w.cell? ⟨b, off + k, none⟩ = some (.slice ra rl rc) ∧ IRow .i64 w ra rl rc (U.getD k []) ∧ ∀ x ∈ U.getD k [], I64 x := by
  obtain ⟨_, ⟨a1, a2, a3, a4, a5⟩, _, hU⟩ := h
  obtain ⟨b, off, e, hlt, hl⟩ := a5 (by omega)
  obtain ⟨ra, rl, rc, hc, hr⟩ := hl k hk
  exact ⟨b, off, e, hlt, ra, rl, rc, hc, hr, fun x hx => hU _ (getD_mem2 (by omega)) x hx⟩
theorem IRow.lens {w : World} {a : Option Addr} {n c : Nat} {l : List Int} (h : IRow .i64 w a n c l) : n = l.length ∧ n ≤ 9223372036854775807 := by
  obtain ⟨a1, a2, a3, _⟩ := h
  unfold maxLen at a3
  exact ⟨a1, by omega⟩
theorem IRow.cell {w : World} {a : Option Addr} {n c : Nat} {l : List Int} (h : IRow .i64 w a n c l) {k : Nat} (hk : k < n) : ∃ b off, a = some ⟨b, off, none⟩ ∧ b < w.heap.size ∧ ∀ j, j < n → w.cell? ⟨b, off + j, none⟩ = some (.int .i64 (l.getD j 0)) := by
  obtain ⟨a1, a2, a3, a4, a5⟩ := h
  obtain ⟨b, off, e, hlt, hl⟩ := a5 (by omega)
  exact ⟨b, off, e, hlt, fun j hj => hl j (by omega)⟩

/-- Each of a list is one of the first so many. -/
def win (l : List Int) (n : Int) : Bool := decide (∀ x ∈ l, 0 ≤ x ∧ x < n)
theorem win_all {l : List Int} {n : Int} (h : ∀ j, j < l.length → 0 ≤ l.getD j 0 ∧ l.getD j 0 < n) : win l n = true := by
  refine decide_eq_true fun x hx => ?_
  obtain ⟨j, hj, rfl⟩ := List.getElem_of_mem hx
  have := h j hj
  simpa [List.getD_eq_getElem?_getD, List.getElem?_eq_getElem hj] using this
theorem win_not {l : List Int} {n : Int} {j : Nat} (hj : j < l.length) (h : ¬ (0 ≤ l.getD j 0 ∧ l.getD j 0 < n)) : win l n = false :=
  decide_eq_false fun g => h (getD_of g j hj)
theorem win_lit {l : List Int} {n : Int} {v : Bool} (hv : win l n = v) : Ending.returned (.bool v) = .returned (.bool (win l n)) := by rw [hv]

set_option maxHeartbeats 1000000 in
theorem within_any (ra : Option Addr) (rl rc : Nat) (l : List Int) (n : Int) (w : World) (hr : IRow .i64 w ra rl rc l) (hl : ∀ x ∈ l, I64 x) (hn : I64 n) :
    Calls Try.prog 76 #[.slice ra rl rc, .int .i64 n] w fun e w' => e = .returned (.bool (win l n)) ∧ w' = w := by
  obtain ⟨e0, e1⟩ := hr.lens
  have E0 : Hid (rl = l.length) := e0
  have HR : Hid (IRow .i64 w ra rl rc l) := hr
  have HL : Hid (∀ x ∈ l, I64 x) := hl
  obtain ⟨n1, n2⟩ := hn
  clear e0 hr hl
  go_enter Try.func76, Try.ntmps76
  go_wp2
  go_loop [9] (fun i => ∃ k : Nat, k ≤ rl ∧ i = .int .i64 k ∧ Hid (∀ j, j < k → 0 ≤ l.getD j 0 ∧ l.getD j 0 < n)) (fun i => rl - (intOf i).toNat)
  case atStart => exact ⟨0, Nat.zero_le _, rfl, hid fun j hj => by omega⟩
  case round =>
    obtain ⟨k, hk, rfl, hall⟩ := hrel
    by_cases hlt : k < rl
    · obtain ⟨b, off, rfl, hb, hcell⟩ := HR.out.cell hlt
      have hc := hcell k hlt
      have hi : I64 (l.getD k 0) := getD_of HL.out k (by rw [← E0.out]; exact hlt)
      obtain ⟨x, hx⟩ : ∃ x, l.getD k 0 = x := ⟨_, rfl⟩
      rw [hx] at hc hi
      obtain ⟨i1, i2⟩ := hi
      have HX : Hid (l.getD k 0 = x) := hx
      clear hcell hx
      by_cases h1 : x < 0
      · go_wp2
        go_ret
        exact ⟨win_lit (win_not (j := k) (by rw [← E0.out]; exact hlt) (by rw [HX.out]; omega)), rfl⟩
      · by_cases h2 : n ≤ x
        · go_wp2
          go_ret
          exact ⟨win_lit (win_not (j := k) (by rw [← E0.out]; exact hlt) (by rw [HX.out]; omega)), rfl⟩
        · go_wp2
          go_round
          case rel =>
            refine ⟨k + 1, by omega, by go_num, hid fun j hj => ?_⟩
            by_cases e : j = k
            · subst e; rw [HX.out]; omega
            · exact hall.out j (by omega)
          case measure => simp [intOf]; omega
    · obtain rfl : k = rl := by omega
      go_wp2
      go_ret
      exact ⟨win_lit (win_all (by rw [← E0.out]; exact hall.out)), rfl⟩

/-! May it be. -/
theorem good_lens {S : List Int} {U : List (List Int)} (h : ¬ (1 ≤ S.length ∧ S.length ≤ 4 ∧ U.length + 1 = S.length)) : good S U = false :=
  decide_eq_false fun g => h ⟨g.1, g.2.1, g.2.2.1⟩
theorem good_size {S : List Int} {U : List (List Int)} {k : Nat} (hk : k < S.length) (h : ¬ (1 ≤ S.getD k 0 ∧ S.getD k 0 ≤ 40)) : good S U = false :=
  decide_eq_false fun g => h (getD_of g.2.2.2.1 k hk)
theorem good_many {S : List Int} {U : List (List Int)} {k : Nat} (hk : k < U.length) (h : ¬ ((U.getD k []).length : Int) = S.getD k 0) : good S U = false :=
  decide_eq_false fun g => h (g.2.2.2.2 k hk).1
theorem good_win {S : List Int} {U : List (List Int)} {k : Nat} (hk : k < U.length) (h : win (U.getD k []) (S.getD (k + 1) 0) = false) : good S U = false :=
  decide_eq_false fun g => of_decide_eq_false h (g.2.2.2.2 k hk).2
theorem good_yes {S : List Int} {U : List (List Int)} (h0 : 1 ≤ S.length ∧ S.length ≤ 4 ∧ U.length + 1 = S.length) (h1 : ∀ j, j < S.length → 1 ≤ S.getD j 0 ∧ S.getD j 0 ≤ 40)
    (h2 : ∀ j, j < U.length → ((U.getD j []).length : Int) = S.getD j 0 ∧ win (U.getD j []) (S.getD (j + 1) 0) = true) : good S U = true := by
  refine decide_eq_true ⟨h0.1, h0.2.1, h0.2.2, fun x hx => ?_, fun k hk => ⟨(h2 k hk).1, of_decide_eq_true (h2 k hk).2⟩⟩
  obtain ⟨j, hj, rfl⟩ := List.getElem_of_mem hx
  have := h1 j hj
  simpa [List.getD_eq_getElem?_getD, List.getElem?_eq_getElem hj] using this
theorem ret_good {S : List Int} {U : List (List Int)} {v : Bool} (hv : good S U = v) : Ending.returned (.bool v) = .returned (.bool (good S U)) := by rw [hv]
/-- A dimension's two cells, in a block behind a world. -/
def Box (w wr : World) (B : Nat) (s u : Value) : Prop := Below w.heap.size w wr ∧ wr.cell? ⟨B, 0, none⟩ = some s ∧ wr.cell? ⟨B, 1, none⟩ = some u
theorem box_new (w : World) (s u : Value) (t : TypeId) : Box w (w.alloc (.cells #[s, u] t)) w.heap.size s u := by
  refine ⟨(Below.refl _ _).alloc (Nat.le_refl _) _, ?_, ?_⟩ <;> simp [go_sem]

set_option maxHeartbeats 4000000 in
theorem good_any (sa : Option Addr) (sl sc : Nat) (ua : Option Addr) (ul uc : Nat) (S : List Int) (U : List (List Int)) (w : World) (hd : Dim w sa sl sc ua ul uc S U) :
    Calls Try.prog 61 #[.agg #[.slice sa sl sc, .slice ua ul uc]] w fun e w' => e = .returned (.bool (good S U)) ∧ Below w.heap.size w w' := by
  obtain ⟨e1, e2, e3, e4⟩ := hd.lens
  have E1 : Hid (sl = S.length) := e1
  have E2 : Hid (ul = U.length) := e2
  have HD : Hid (Dim w sa sl sc ua ul uc S U) := hd
  have bx := box_new w (.slice sa sl sc) (.slice ua ul uc) 63
  have bel := bx.1
  clear e1 e2 hd bx
  by_cases h1 : sl < 1
  · go_enter Try.func61, Try.ntmps61
    go_wp2
    go_ret
    exact ⟨ret_good (good_lens (by rw [← E1.out]; omega)), bel⟩
  by_cases h2 : 4 < sl
  · go_enter Try.func61, Try.ntmps61
    go_wp2
    go_ret
    exact ⟨ret_good (good_lens (by rw [← E1.out]; omega)), bel⟩
  by_cases h3 : ¬ ul + 1 = sl
  · go_enter Try.func61, Try.ntmps61
    have h4 : ((ul : Int) != (sl : Int) - 1) = true := by simp; omega
    go_wp2
    go_ret
    exact ⟨ret_good (good_lens (by rw [← E1.out, ← E2.out]; omega)), bel⟩
  have h4 : ((ul : Int) != (sl : Int) - 1) = false := by simp; omega
  go_enter Try.func61, Try.ntmps61
  go_wp2
  go_loop [24] (fun i => ∃ k : Nat, k ≤ sl ∧ i = .int .i64 k ∧ Hid (∀ j, j < k → 1 ≤ S.getD j 0 ∧ S.getD j 0 ≤ 40)) (fun i => sl - (intOf i).toNat)
  case atStart => exact ⟨0, Nat.zero_le _, rfl, hid fun j hj => by omega⟩
  case round =>
    obtain ⟨k, hk, rfl, hall⟩ := hrel
    by_cases hlt : k < sl
    · obtain ⟨b, off, rfl, hb, hcell, hi64⟩ := (HD.out.below bel).size_cell hlt
      have hc := hcell k hlt
      have hi := hi64 k hlt
      obtain ⟨x, hx⟩ : ∃ x, S.getD k 0 = x := ⟨_, rfl⟩
      rw [hx] at hc hi
      obtain ⟨i1, i2⟩ := hi
      have HX : Hid (S.getD k 0 = x) := hx
      clear hcell hx hi64
      by_cases h5 : x < 1
      · go_wp2
        go_ret
        exact ⟨ret_good (good_size (k := k) (by rw [← E1.out]; exact hlt) (by rw [HX.out]; omega)), bel⟩
      · by_cases h6 : 40 < x
        · go_wp2
          go_ret
          exact ⟨ret_good (good_size (k := k) (by rw [← E1.out]; exact hlt) (by rw [HX.out]; omega)), bel⟩
        · go_wp2
          go_round
          case rel =>
            refine ⟨k + 1, by omega, by go_num, hid fun j hj => ?_⟩
            by_cases e : j = k
            · subst e; rw [HX.out]; omega
            · exact hall.out j (by omega)
          case measure => simp [intOf]; omega
    · obtain rfl : k = sl := by omega
      go_wp2
      go_loopw [44] (fun i wr => ∃ m : Nat, m ≤ ul ∧ i = .int .i64 m ∧ Hid (∀ j, j < m → ((U.getD j []).length : Int) = S.getD j 0 ∧ win (U.getD j []) (S.getD (j + 1) 0) = true) ∧ Box w wr w.heap.size (.slice sa k sc) (.slice ua ul uc)) (fun i _ => ul - (intOf i).toNat)
      case atStart => exact ⟨0, Nat.zero_le _, rfl, hid fun j hj => by omega, box_new _ _ _ _⟩
      case round =>
        obtain ⟨m, hm, rfl, hall2, hbx⟩ := hrel
        have HB : Hid (Box w wr w.heap.size (.slice sa k sc) (.slice ua ul uc)) := hbx
        obtain ⟨bel2, c0, c1⟩ := hbx
        by_cases hlt2 : m < ul
        · have hm1 : (m : Int) < (ul : Int) := by omega
          have hm2 : (m : Int) < (k : Int) := by omega
          have hm3 : (m : Int) + 1 < (k : Int) := by omega
          obtain ⟨b, off, rfl, hb, hcell, hi64⟩ := (HD.out.below bel2).size_cell (k := 0) (by omega)
          obtain ⟨b2, off2, rfl, hb2, ra, rl, rc, hcu, hru, hlu⟩ := (HD.out.below bel2).up_cell hlt2
          have hcA := hcell m (by omega)
          have hcB := hcell (m + 1) (by omega)
          have hiB := hi64 (m + 1) (by omega)
          obtain ⟨x, hx⟩ : ∃ x, S.getD m 0 = x := ⟨_, rfl⟩
          obtain ⟨y, hy⟩ : ∃ y, S.getD (m + 1) 0 = y := ⟨_, rfl⟩
          obtain ⟨l, hl⟩ : ∃ l, U.getD m [] = l := ⟨_, rfl⟩
          rw [hx] at hcA
          rw [hy] at hcB hiB
          rw [hl] at hru hlu
          have hrl := hru.lens
          obtain ⟨r1, r2⟩ := hrl
          have R1 : Hid (rl = l.length) := r1
          have HRU : Hid (IRow .i64 wr ra rl rc l) := hru
          have HLU : Hid (∀ x ∈ l, I64 x) := hlu
          have HX : Hid (S.getD m 0 = x) := hx
          have HY : Hid (S.getD (m + 1) 0 = y) := hy
          have HL : Hid (U.getD m [] = l) := hl
          have HIB : Hid (I64 y) := hiB
          clear hcell hx hy hl hi64 hru hlu hiB r1
          by_cases h7 : (rl : Int) = x
          · have h8 : ((rl : Int) != x) = false := by simp; omega
            cases h9 : win l y with
            | false =>
              have H9 : Hid (win l y = false) := h9
              go_wp2
              go_quiet ((go_at_call 76; exact Calls.quiet_of_same (within_any _ _ _ _ _ _ HRU.out HLU.out HIB.out)))
              go_wp2
              go_ret
              exact ⟨ret_good (good_win (k := m) (by rw [← E2.out]; exact hlt2) (by rw [HL.out, HY.out]; exact H9.out)), below_drewN bel2 _⟩
            | true =>
              have H9 : Hid (win l y = true) := h9
              go_wp2
              go_quiet ((go_at_call 76; exact Calls.quiet_of_same (within_any _ _ _ _ _ _ HRU.out HLU.out HIB.out)))
              go_wp2
              go_roundw
              case rel =>
                refine ⟨m + 1, by omega, by go_num, hid fun j hj => ?_, below_drewN bel2 _, c0, c1⟩
                by_cases e : j = m
                · subst e; rw [HX.out, HY.out, HL.out, ← R1.out]; exact ⟨h7, H9.out⟩
                · exact hall2.out j (by omega)
              case measure => simp [intOf]; omega
          · have h8 : ((rl : Int) != x) = true := by simp; omega
            go_wp2
            go_quiet (fail)
            go_wp2
            go_ret
            exact ⟨ret_good (good_many (k := m) (by rw [← E2.out]; exact hlt2) (by rw [HX.out, HL.out, ← R1.out]; exact h7)), below_drewN bel2 _⟩
        · obtain rfl : m = ul := by omega
          go_wp2
          go_ret
          exact ⟨ret_good (good_yes (by rw [← E1.out, ← E2.out]; omega) (by rw [← E1.out]; exact hall.out) (by rw [← E2.out]; exact hall2.out)), bel2⟩

end Go.Proofs.Ytikgbcdmeikjfaa

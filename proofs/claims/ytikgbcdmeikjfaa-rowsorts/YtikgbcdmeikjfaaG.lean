/-
  What the document's own Good and Size return.
  Conditions: as each theorem states them.
-/
import Derived.Test.YtikgbcdmeikjfaaD
namespace Go.Proofs.Ytikgbcdmeikjfaa
open Go.ChangeShapes Go.WideShapes Go.ChangeAt Go.RowKit
set_option linter.unusedVariables false
set_option linter.unusedSimpArgs false
set_option maxRecDepth 100000

/-- A dimension's two cells, in a block behind a world; the block is there. -/
def Bx (w wr : World) (s u : Value) : Prop := w.heap.size < wr.heap.size ∧ Below w.heap.size w wr ∧ wr.cell? ⟨w.heap.size, 0, none⟩ = some s ∧ wr.cell? ⟨w.heap.size, 1, none⟩ = some u
theorem bx_new (w : World) (s u : Value) (t : TypeId) : Bx w (w.alloc (.cells #[s, u] t)) s u := by
  have h := box_new w s u t
  exact ⟨by simp, h.1, h.2.1, h.2.2⟩
theorem Bx.step {w wr w' : World} {s u : Value} (h : Bx w wr s u) (hb : Below wr.heap.size wr w') : Bx w w' s u := by
  obtain ⟨h0, h1, h2, h3⟩ := h
  exact ⟨Nat.lt_of_lt_of_le h0 hb.size, bt h1 hb, ((bcell hb).1 _ _ h0).trans h2, ((bcell hb).1 _ _ h0).trans h3⟩
theorem Bx.drew {w wr : World} {s u : Value} (h : Bx w wr s u) (n : Nat) : Bx w (wr.drewN n) s u := ⟨h.1, below_drewN h.2.1 n, h.2.2.1, h.2.2.2⟩

set_option maxHeartbeats 4000000 in
theorem rgood_any (sa : Option Addr) (sl sc : Nat) (ua : Option Addr) (ul uc : Nat) (S : List Int) (U : List (List Int)) (w : World) (hd : Dim w sa sl sc ua ul uc S U) :
    Calls Try.prog 63 #[.agg #[.slice sa sl sc, .slice ua ul uc]] w fun e w' => e = .returned (.bool (good S U)) ∧ Below w.heap.size w w' := by
  obtain ⟨e1, e2, e3, e4⟩ := hd.lens
  have E1 : Hid (sl = S.length) := e1
  have E2 : Hid (ul = U.length) := e2
  have HD : Hid (Dim w sa sl sc ua ul uc S U) := hd
  have bx := box_new w (.slice sa sl sc) (.slice ua ul uc) 63
  have bel := bx.1
  clear e1 e2 hd bx
  by_cases h1 : sl < 1
  · go_enter Try.func63, Try.ntmps63
    go_wp2
    go_ret
    exact ⟨ret_good (good_lens (by rw [← E1.out]; omega)), bel⟩
  by_cases h2 : 4 < sl
  · go_enter Try.func63, Try.ntmps63
    go_wp2
    go_ret
    exact ⟨ret_good (good_lens (by rw [← E1.out]; omega)), bel⟩
  by_cases h3 : ¬ ul + 1 = sl
  · go_enter Try.func63, Try.ntmps63
    have h4 : ((ul : Int) != (sl : Int) - 1) = true := by simp; omega
    go_wp2
    go_ret
    exact ⟨ret_good (good_lens (by rw [← E1.out, ← E2.out]; omega)), bel⟩
  have h4 : ((ul : Int) != (sl : Int) - 1) = false := by simp; omega
  go_enter Try.func63, Try.ntmps63
  go_wp2
  go_loop [4] (fun i => ∃ k : Nat, k ≤ sl ∧ i = .int .i64 k ∧ Hid (∀ j, j < k → 1 ≤ S.getD j 0 ∧ S.getD j 0 ≤ 40)) (fun i => sl - (intOf i).toNat)
  case atStart => exact ⟨0, Nat.zero_le _, rfl, hid fun j hj => by omega⟩
  case round =>
    obtain ⟨k, hk, rfl, hall⟩ := hrel
    by_cases hlt : k < sl
    · obtain ⟨b, off, rfl, hb, hcell, hi64⟩ := (HD.out.below bel).size_cell hlt
      have hc := hcell k hlt
      have hi := hi64 k hlt
      obtain ⟨x, hx⟩ : ∃ x, S.getD k 0 = x := ⟨_, rfl⟩
      rw [hx] at hc hi
      obtain ⟨i1, i2⟩ := hi
      have HX : Hid (S.getD k 0 = x) := hx
      clear hcell hx hi64
      by_cases h5 : x < 1
      · go_wp2
        go_ret
        exact ⟨ret_good (good_size (k := k) (by rw [← E1.out]; exact hlt) (by rw [HX.out]; omega)), bel⟩
      · by_cases h6 : 40 < x
        · go_wp2
          go_ret
          exact ⟨ret_good (good_size (k := k) (by rw [← E1.out]; exact hlt) (by rw [HX.out]; omega)), bel⟩
        · go_wp2
          go_round
          case rel =>
            refine ⟨k + 1, by omega, by go_num, hid fun j hj => ?_⟩
            by_cases e : j = k
            · subst e; rw [HX.out]; omega
            · exact hall.out j (by omega)
          case measure => simp [intOf]; omega
    · obtain rfl : k = sl := by omega
      clear hlt
      go_wp2
      go_loopw [5] (fun i wr => ∃ m : Nat, m ≤ ul ∧ i = .int .i64 m ∧ Hid (∀ j, j < m → ((U.getD j []).length : Int) = S.getD j 0 ∧ win (U.getD j []) (S.getD (j + 1) 0) = true) ∧ Bx w wr (.slice sa k sc) (.slice ua ul uc)) (fun i _ => ul - (intOf i).toNat)
      case atStart => exact ⟨0, Nat.zero_le _, rfl, hid fun j hj => by omega, bx_new _ _ _ _⟩
      case round =>
        obtain ⟨m, hm, rfl, hall2, hbx⟩ := hrel
        have HB : Hid (Bx w wr (.slice sa k sc) (.slice ua ul uc)) := hbx
        obtain ⟨hsz, bel2, c0, c1⟩ := hbx
        by_cases hlt2 : m < ul
        · have hm1 : (m : Int) < (ul : Int) := by omega
          have hm2 : (m : Int) < (k : Int) := by omega
          have hm3 : (m : Int) + 1 < (k : Int) := by omega
          have hm4 : decide ((m : Int) < (k : Int) - 1) = true := decide_eq_true (by omega)
          obtain ⟨b, off, rfl, hb, hcell, hi64⟩ := HD.out.size_cell (k := 0) (by omega)
          obtain ⟨b2, off2, rfl, hb2, ra, rl, rc, hcu, hru, hlu⟩ := HD.out.up_cell hlt2
          have hcA := hcell m (by omega)
          have hcB := hcell (m + 1) (by omega)
          have hiB := hi64 (m + 1) (by omega)
          obtain ⟨x, hx⟩ : ∃ x, S.getD m 0 = x := ⟨_, rfl⟩
          obtain ⟨y, hy⟩ : ∃ y, S.getD (m + 1) 0 = y := ⟨_, rfl⟩
          obtain ⟨l, hl⟩ : ∃ l, U.getD m [] = l := ⟨_, rfl⟩
          rw [hx] at hcA
          rw [hy] at hcB hiB
          rw [hl] at hru hlu
          obtain ⟨r1, r2⟩ := hru.lens
          have R1 : Hid (rl = l.length) := r1
          have HRU : Hid (IRow .i64 w ra rl rc l) := hru
          have HLU : Hid (∀ x ∈ l, I64 x) := hlu
          have HX : Hid (S.getD m 0 = x) := hx
          have HY : Hid (S.getD (m + 1) 0 = y) := hy
          have HL : Hid (U.getD m [] = l) := hl
          obtain ⟨y1, y2⟩ := hiB
          clear hcell hx hy hl hi64 hru hlu r1
          have d1 := ((bcell bel2).1 _ _ hb).trans hcA
          have d2 := ((bcell bel2).1 _ _ hb2).trans hcu
          by_cases h7 : (rl : Int) = x
          · have h8 : ((rl : Int) != x) = false := by simp; omega
            have H7 : Hid ((rl : Int) = x) := h7
            clear h7
            go_wp2
            go_quiet (fail)
            go_wp2
            clear d1 d2 c0 c1
            go_loopw [6] (fun i wr => ∃ n : Nat, n ≤ rl ∧ i = .int .i64 n ∧ Hid (∀ j, j < n → 0 ≤ l.getD j 0 ∧ l.getD j 0 < y) ∧ Bx w wr (.slice (some ⟨b, off, none⟩) k sc) (.slice (some ⟨b2, off2, none⟩) ul uc)) (fun i _ => rl - (intOf i).toNat)
            case atStart => exact ⟨0, Nat.zero_le _, rfl, hid fun j hj => by omega, HB.out.drew _⟩
            case round =>
              obtain ⟨n, hn, rfl, hall3, hbx3⟩ := hrel
              have HB3 : Hid (Bx w wr (.slice (some ⟨b, off, none⟩) k sc) (.slice (some ⟨b2, off2, none⟩) ul uc)) := hbx3
              obtain ⟨hsz3, bel3, c3, c4⟩ := hbx3
              have d3 := ((bcell bel3).1 _ _ hb).trans hcB
              have d4 := ((bcell bel3).1 _ _ hb2).trans hcu
              by_cases hlt3 : n < rl
              · have hn1 : (n : Int) < (rl : Int) := by omega
                obtain ⟨b5, off5, rfl, hb5, hcell5⟩ := HRU.out.cell hlt3
                have d5 := ((bcell bel3).1 _ _ hb5).trans (hcell5 n hlt3)
                have hi5 : I64 (l.getD n 0) := getD_of HLU.out n (by rw [← R1.out]; exact hlt3)
                obtain ⟨z, hz⟩ : ∃ z, l.getD n 0 = z := ⟨_, rfl⟩
                rw [hz] at d5 hi5
                have HZ : Hid (l.getD n 0 = z) := hz
                obtain ⟨z1, z2⟩ := hi5
                clear hcell5 hz
                by_cases h9 : z < 0
                · go_wp2
                  go_quiet (fail)
                  go_wp2
                  go_ret
                  exact ⟨ret_good (good_win (k := m) (by rw [← E2.out]; exact hlt2) (by rw [HL.out, HY.out]; exact win_not (j := n) (by rw [← R1.out]; exact hlt3) (by rw [HZ.out]; omega))), below_drewN bel3 _⟩
                · have h9f : decide (z < 0) = false := decide_eq_false h9
                  by_cases h10 : y ≤ z
                  · go_wp2
                    go_quiet (fail)
                    go_wp2
                    go_ret
                    exact ⟨ret_good (good_win (k := m) (by rw [← E2.out]; exact hlt2) (by rw [HL.out, HY.out]; exact win_not (j := n) (by rw [← R1.out]; exact hlt3) (by rw [HZ.out]; omega))), below_drewN bel3 _⟩
                  · have h10f : decide (y ≤ z) = false := decide_eq_false h10
                    go_wp2
                    go_quiet (fail)
                    go_wp2
                    go_roundw
                    case rel =>
                      refine ⟨n + 1, by omega, by go_num, hid fun j hj => ?_, HB3.out.drew _⟩
                      by_cases e : j = n
                      · subst e; rw [HZ.out]; omega
                      · exact hall3.out j (by omega)
                    case measure => simp [intOf]; omega
              · obtain rfl : n = rl := by omega
                go_wp2
                go_roundw
                case rel =>
                  refine ⟨m + 1, by omega, by go_num, hid fun j hj => ?_, HB3.out⟩
                  by_cases e : j = m
                  · subst e; rw [HX.out, HY.out, HL.out, ← R1.out]; exact ⟨H7.out, win_all (by rw [← R1.out]; exact hall3.out)⟩
                  · exact hall2.out j (by omega)
                case measure => simp [intOf]; omega
          · have h8 : ((rl : Int) != x) = true := by simp; omega
            go_wp2
            go_quiet (fail)
            go_wp2
            go_ret
            exact ⟨ret_good (good_many (k := m) (by rw [← E2.out]; exact hlt2) (by rw [HX.out, HL.out, ← R1.out]; exact h7)), below_drewN bel2 _⟩
        · obtain rfl : m = ul := by omega
          go_wp2
          go_ret
          exact ⟨ret_good (good_yes (by rw [← E1.out, ← E2.out]; omega) (by rw [← E1.out]; exact hall.out) (by rw [← E2.out]; exact hall2.out)), bel2⟩

end Go.Proofs.Ytikgbcdmeikjfaa

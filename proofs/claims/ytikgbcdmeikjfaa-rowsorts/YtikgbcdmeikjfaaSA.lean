/-
  What schema.Good and Levels, and the document's own, return: may a catalog be, how many levels a dimension has.
  Conditions: as each theorem states them.
-/
import Derived.Test.YtikgbcdmeikjfaaHS
import Derived.Test.YtikgbcdmeikjfaaS4
import Derived.Test.YtikgbcdmeikjfaaLib5
namespace Go.Proofs.Ytikgbcdmeikjfaa
open Go.ChangeShapes Go.WideShapes Go.ChangeAt Go.RowKit
set_option linter.unusedVariables false
set_option linter.unusedSimpArgs false
set_option maxRecDepth 100000

theorem goodC_no {ds : Dims} {M : Int} (h : ¬ (1 ≤ ds.length ∧ ds.length ≤ 4 ∧ 1 ≤ M ∧ M ≤ 2)) : goodC ds M = false := by
  unfold goodC; rw [decide_eq_false h]; rfl
theorem getD_mem3 {ds : Dims} {k : Nat} (h : k < ds.length) : ds.getD k ([], []) ∈ ds := by
  have : ds.getD k ([], []) = ds[k] := by simp [List.getD_eq_getElem?_getD, List.getElem?_eq_getElem h]
  rw [this]; exact List.getElem_mem h
theorem goodC_dim {ds : Dims} {M : Int} {k : Nat} (hk : k < ds.length) (h : good (ds.getD k ([], [])).1 (ds.getD k ([], [])).2 = false) : goodC ds M = false := by
  cases e : goodC ds M with
  | false => rfl
  | true =>
    have := (goodC_p e).2.2.2.2 _ (getD_mem3 hk)
    rw [h] at this; cases this
theorem goodC_all {ds : Dims} {M : Int} (h : 1 ≤ ds.length ∧ ds.length ≤ 4 ∧ 1 ≤ M ∧ M ≤ 2) (ha : ∀ j, j < ds.length → good (ds.getD j ([], [])).1 (ds.getD j ([], [])).2 = true) : goodC ds M = true := by
  unfold goodC goodD
  rw [decide_eq_true h, Bool.true_and, List.all_eq_true]
  intro d hd
  obtain ⟨j, hj, rfl⟩ := List.getElem_of_mem hd
  have := ha j hj
  simpa [List.getD_eq_getElem?_getD, List.getElem?_eq_getElem hj] using this
theorem ret_goodC {ds : Dims} {M : Int} {v : Bool} (hv : goodC ds M = v) : Ending.returned (.bool v) = .returned (.bool (goodC ds M)) := by rw [hv]
/-- One dimension, read in a later world. -/
theorem Cat.get {w wr : World} {a : Option Addr} {n c : Nat} {ds : Dims} (h : Cat w a n c ds) (bel : Below w.heap.size w wr) {k : Nat} (hk : k < n) :
    ∃ b off, a = some ⟨b, off, none⟩ ∧ b < w.heap.size ∧ ∃ sa sl sc ua ul uc S U, wr.cell? ⟨b, off + k * 2, none⟩ = some (.slice sa sl sc) ∧ wr.cell? ⟨b, off + k * 2 + 1, none⟩ = some (.slice ua ul uc) ∧ Hid (Dim wr sa sl sc ua ul uc S U) ∧ Hid (ds.getD k ([], []) = (S, U)) := by
  obtain ⟨b, off, e, hb0, _⟩ := h.at hk
  obtain ⟨b', off', e', hb, sa, sl, sc, ua, ul, uc, c1, c2, hd⟩ := (h.below bel).at hk
  rw [e] at e'
  cases e'
  exact ⟨b, off, e, hb0, sa, sl, sc, ua, ul, uc, _, _, c1, by rw [Nat.add_assoc]; exact c2, hd, rfl⟩
theorem dims_good {ds : Dims} {M : Int} {k : Nat} {S : List Int} {U : List (List Int)} (hg : goodC ds M = true) (hk : k < ds.length) (h : ds.getD k ([], []) = (S, U)) : good S U = true := by
  have := (goodC_p hg).2.2.2.2 _ (getD_mem3 hk)
  rw [h] at this; exact this
theorem goodC_at {ds : Dims} {M : Int} {k : Nat} {S : List Int} {U : List (List Int)} (hk : k < ds.length) (h : ds.getD k ([], []) = (S, U)) (hg : good S U = false) : goodC ds M = false :=
  goodC_dim hk (by rw [h]; exact hg)

set_option maxHeartbeats 4000000 in
theorem sgood_any (a : Option Addr) (n c : Nat) (ds : Dims) (M : Int) (w : World) (hc : Cat w a n c ds) (hM : I64 M) :
    Calls Try.prog 50 #[.agg #[.slice a n c, .int .i64 M]] w fun e w' => e = .returned (.bool (goodC ds M)) ∧ Below w.heap.size w w' := by
  obtain ⟨e1, e2⟩ := hc.lens
  have E1 : Hid (n = ds.length) := e1
  have HC : Hid (Cat w a n c ds) := hc
  obtain ⟨m1, m2⟩ := hM
  have bx := box_new w (.slice a n c) (.int .i64 M) 24
  have bel := bx.1
  clear e1 hc bx
  by_cases h1 : n < 1
  · go_enter Try.func50, Try.ntmps50
    go_wp2
    go_ret
    exact ⟨ret_goodC (goodC_no (by rw [← E1.out]; omega)), bel⟩
  by_cases h2 : 4 < n
  · go_enter Try.func50, Try.ntmps50
    go_wp2
    go_ret
    exact ⟨ret_goodC (goodC_no (by rw [← E1.out]; omega)), bel⟩
  by_cases h3 : M < 1
  · go_enter Try.func50, Try.ntmps50
    go_wp2
    go_ret
    exact ⟨ret_goodC (goodC_no (by omega)), bel⟩
  by_cases h4 : 2 < M
  · go_enter Try.func50, Try.ntmps50
    go_wp2
    go_ret
    exact ⟨ret_goodC (goodC_no (by omega)), bel⟩
  go_enter Try.func50, Try.ntmps50
  go_wp2
  go_loopw [25] (fun i wr => ∃ k : Nat, k ≤ n ∧ i = .int .i64 k ∧ Hid (∀ j, j < k → good (ds.getD j ([], [])).1 (ds.getD j ([], [])).2 = true) ∧ Bx w wr (.slice a n c) (.int .i64 M)) (fun i _ => n - (intOf i).toNat)
  case atStart => exact ⟨0, Nat.zero_le _, rfl, hid fun j hj => by omega, bx_new _ _ _ _⟩
  case round =>
    obtain ⟨k, hk, rfl, hall, hbx⟩ := hrel
    have HB : Hid (Bx w wr (.slice a n c) (.int .i64 M)) := hbx
    obtain ⟨hsz, bel2, c0, c1⟩ := hbx
    by_cases hlt : k < n
    · have hkn : (k : Int) < (n : Int) := by omega
      obtain ⟨b, off, rfl, hb0, sa, sl, sc, ua, ul, uc, S, U, d1, d2, HDm, HSU⟩ := HC.out.get bel2 hlt
      cases hg : good S U with
      | false =>
        have HG : Hid (good S U = false) := hg
        go_wp2_with (go_at_call 61; refine (good_any _ _ _ _ _ _ _ _ _ HDm.out).mono ?_; rintro e w1 ⟨rfl, hb⟩)
        go_ret
        exact ⟨ret_goodC (goodC_at (by rw [← E1.out]; exact hlt) HSU.out HG.out), bt bel2 hb⟩
      | true =>
        have HG : Hid (good S U = true) := hg
        go_wp2_with (go_at_call 61; refine (good_any _ _ _ _ _ _ _ _ _ HDm.out).mono ?_; rintro e w1 ⟨rfl, hb⟩)
        go_roundw
        case rel =>
          refine ⟨k + 1, by omega, by go_num, hid fun j hj => ?_, HB.out.step hb⟩
          by_cases e : j = k
          · subst e; rw [HSU.out]; exact HG.out
          · exact hall.out j (by omega)
        case measure => simp [intOf]; omega
    · obtain rfl : k = n := by omega
      go_wp2
      go_ret
      exact ⟨ret_goodC (goodC_all (by rw [← E1.out]; omega) (by rw [← E1.out]; exact hall.out)), bel2⟩

set_option maxHeartbeats 4000000 in
theorem rgoodC_any (a : Option Addr) (n c : Nat) (ds : Dims) (M : Int) (w : World) (hc : Cat w a n c ds) (hM : I64 M) :
    Calls Try.prog 52 #[.agg #[.slice a n c, .int .i64 M]] w fun e w' => e = .returned (.bool (goodC ds M)) ∧ Below w.heap.size w w' := by
  obtain ⟨e1, e2⟩ := hc.lens
  have E1 : Hid (n = ds.length) := e1
  have HC : Hid (Cat w a n c ds) := hc
  obtain ⟨m1, m2⟩ := hM
  have bx := box_new w (.slice a n c) (.int .i64 M) 24
  have bel := bx.1
  clear e1 hc bx
  by_cases h1 : n < 1
  · go_enter Try.func52, Try.ntmps52
    go_wp2
    go_ret
    exact ⟨ret_goodC (goodC_no (by rw [← E1.out]; omega)), bel⟩
  by_cases h2 : 4 < n
  · go_enter Try.func52, Try.ntmps52
    go_wp2
    go_ret
    exact ⟨ret_goodC (goodC_no (by rw [← E1.out]; omega)), bel⟩
  by_cases h3 : M < 1
  · go_enter Try.func52, Try.ntmps52
    go_wp2
    go_ret
    exact ⟨ret_goodC (goodC_no (by omega)), bel⟩
  by_cases h4 : 2 < M
  · go_enter Try.func52, Try.ntmps52
    go_wp2
    go_ret
    exact ⟨ret_goodC (goodC_no (by omega)), bel⟩
  go_enter Try.func52, Try.ntmps52
  go_wp2
  go_loopw [3] (fun i wr => ∃ k : Nat, k ≤ n ∧ i = .int .i64 k ∧ Hid (∀ j, j < k → good (ds.getD j ([], [])).1 (ds.getD j ([], [])).2 = true) ∧ Bx w wr (.slice a n c) (.int .i64 M)) (fun i _ => n - (intOf i).toNat)
  case atStart => exact ⟨0, Nat.zero_le _, rfl, hid fun j hj => by omega, bx_new _ _ _ _⟩
  case round =>
    obtain ⟨k, hk, rfl, hall, hbx⟩ := hrel
    have HB : Hid (Bx w wr (.slice a n c) (.int .i64 M)) := hbx
    obtain ⟨hsz, bel2, c0, c1⟩ := hbx
    by_cases hlt : k < n
    · have hkn : (k : Int) < (n : Int) := by omega
      obtain ⟨b, off, rfl, hb0, sa, sl, sc, ua, ul, uc, S, U, d1, d2, HDm, HSU⟩ := HC.out.get bel2 hlt
      cases hg : good S U with
      | false =>
        have HG : Hid (good S U = false) := hg
        go_wp2_with (go_at_call 63; refine (rgood_any _ _ _ _ _ _ _ _ _ HDm.out).mono ?_; rintro e w1 ⟨rfl, hb⟩)
        go_ret
        exact ⟨ret_goodC (goodC_at (by rw [← E1.out]; exact hlt) HSU.out HG.out), bt bel2 hb⟩
      | true =>
        have HG : Hid (good S U = true) := hg
        go_wp2_with (go_at_call 63; refine (rgood_any _ _ _ _ _ _ _ _ _ HDm.out).mono ?_; rintro e w1 ⟨rfl, hb⟩)
        go_roundw
        case rel =>
          refine ⟨k + 1, by omega, by go_num, hid fun j hj => ?_, HB.out.step hb⟩
          by_cases e : j = k
          · subst e; rw [HSU.out]; exact HG.out
          · exact hall.out j (by omega)
        case measure => simp [intOf]; omega
    · obtain rfl : k = n := by omega
      go_wp2
      go_ret
      exact ⟨ret_goodC (goodC_all (by rw [← E1.out]; omega) (by rw [← E1.out]; exact hall.out)), bel2⟩

/-! How many levels. -/
def levC (ds : Dims) (M : Int) (d : Int) : Int := if goodC ds M = true ∧ 0 ≤ d ∧ d < ds.length then ((ds.getD d.toNat ([], [])).1.length : Int) + 1 else 0
theorem levC_no {ds : Dims} {M d : Int} (h : ¬ (goodC ds M = true ∧ 0 ≤ d ∧ d < ds.length)) : levC ds M d = 0 := by unfold levC; rw [if_neg h]
theorem levC_yes {ds : Dims} {M : Int} {k : Nat} (h : goodC ds M = true) (hk : k < ds.length) : levC ds M k = ((ds.getD k ([], [])).1.length : Int) + 1 := by
  unfold levC; rw [if_pos ⟨h, by omega, by omega⟩]; rfl

end Go.Proofs.Ytikgbcdmeikjfaa

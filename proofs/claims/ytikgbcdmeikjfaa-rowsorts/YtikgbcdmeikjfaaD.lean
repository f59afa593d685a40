/-
  What hier.span, members, Size, above, carry and Lift return.
  Conditions: as each theorem states them.
-/
import Derived.Test.YtikgbcdmeikjfaaC
namespace Go.Proofs.Ytikgbcdmeikjfaa
open Go.ChangeShapes Go.WideShapes Go.ChangeAt Go.RowKit
set_option linter.unusedVariables false
set_option linter.unusedSimpArgs false
set_option maxRecDepth 100000

/-- A dimension may be and has both levels. -/
def span (S : List Int) (U : List (List Int)) (f t : Int) : Bool := good S U && decide (0 ≤ f ∧ f ≤ t ∧ t ≤ (S.length : Int))
theorem span_yes {S : List Int} {U : List (List Int)} {f t : Int} (h : span S U f t = true) : good S U = true ∧ 0 ≤ f ∧ f ≤ t ∧ t ≤ (S.length : Int) := by
  unfold span at h
  rw [Bool.and_eq_true] at h
  exact ⟨h.1, of_decide_eq_true h.2⟩
theorem span_is {S : List Int} {U : List (List Int)} {f t : Int} (h : good S U = true ∧ 0 ≤ f ∧ f ≤ t ∧ t ≤ (S.length : Int)) : span S U f t = true := by
  unfold span; rw [h.1, decide_eq_true h.2]; rfl
theorem span_not {S : List Int} {U : List (List Int)} {f t : Int} (h : ¬ (good S U = true ∧ 0 ≤ f ∧ f ≤ t ∧ t ≤ (S.length : Int))) : span S U f t = false := by
  cases e : span S U f t with
  | false => rfl
  | true => exact absurd (span_yes e) h
theorem ret_span {S : List Int} {U : List (List Int)} {f t : Int} {v : Bool} (hv : span S U f t = v) : Ending.returned (.bool v) = .returned (.bool (span S U f t)) := by rw [hv]
theorem box_bt {w w1 : World} {o : Obj} (h : Below (w.alloc o).heap.size (w.alloc o) w1) : Below w.heap.size w w1 := bt1 (Below.refl _ _) (Nat.le_refl _) h
theorem Dim.box {w : World} {sa : Option Addr} {sl sc : Nat} {ua : Option Addr} {ul uc : Nat} {S : List Int} {U : List (List Int)} (h : Dim w sa sl sc ua ul uc S U) (o : Obj) : Dim (w.alloc o) sa sl sc ua ul uc S U :=
  h.below ((Below.refl _ _).alloc (Nat.le_refl _) _)
/-- The box's cells behind a callee. -/
theorem box_cells {w w1 : World} {s u : Value} {t : TypeId} (h : Below (w.alloc (.cells #[s, u] t)).heap.size (w.alloc (.cells #[s, u] t)) w1) : w1.cell? ⟨w.heap.size, 0, none⟩ = some s ∧ w1.cell? ⟨w.heap.size, 1, none⟩ = some u := by
  have b := box_new w s u t
  exact ⟨((bcell h).1 _ _ (by simp)).trans b.2.1, ((bcell h).1 _ _ (by simp)).trans b.2.2⟩

set_option maxHeartbeats 1000000 in
theorem span_any (sa : Option Addr) (sl sc : Nat) (ua : Option Addr) (ul uc : Nat) (S : List Int) (U : List (List Int)) (f t : Int) (w : World) (hd : Dim w sa sl sc ua ul uc S U) (hf : I64 f) (ht : I64 t) :
    Calls Try.prog 77 #[.agg #[.slice sa sl sc, .slice ua ul uc], .int .i64 f, .int .i64 t] w fun e w' => e = .returned (.bool (span S U f t)) ∧ Below w.heap.size w w' := by
  obtain ⟨e1, e2, e3, e4⟩ := hd.lens
  have E1 : Hid (sl = S.length) := e1
  have HD : Hid (Dim w sa sl sc ua ul uc S U) := hd
  clear e1 e2 hd
  obtain ⟨f1, f2⟩ := hf
  obtain ⟨t1, t2⟩ := ht
  cases hg : good S U with
  | false =>
    have HG : Hid (good S U = false) := hg
    go_enter Try.func77, Try.ntmps77
    go_wp2_with (go_at_call 61; refine (good_any _ _ _ _ _ _ S U _ (HD.out.box _)).mono ?_; rintro e w1 ⟨rfl, hb⟩)
    go_ret
    exact ⟨ret_span (span_not (by rw [HG.out]; simp)), box_bt hb⟩
  | true =>
    have HG : Hid (good S U = true) := hg
    by_cases h0 : 0 ≤ f
    · by_cases h1 : f ≤ t
      · by_cases h2 : t ≤ (sl : Int)
        · go_enter Try.func77, Try.ntmps77
          go_wp2_with (go_at_call 61; refine (good_any _ _ _ _ _ _ S U _ (HD.out.box _)).mono ?_; rintro e w1 ⟨rfl, hb⟩; obtain ⟨c0, c1⟩ := box_cells hb)
          go_ret
          exact ⟨ret_span (span_is ⟨HG.out, h0, h1, by rw [← E1.out]; exact h2⟩), box_bt hb⟩
        · have h3 : decide (t ≤ (sl : Int)) = false := decide_eq_false h2
          go_enter Try.func77, Try.ntmps77
          go_wp2_with (go_at_call 61; refine (good_any _ _ _ _ _ _ S U _ (HD.out.box _)).mono ?_; rintro e w1 ⟨rfl, hb⟩; obtain ⟨c0, c1⟩ := box_cells hb)
          go_ret
          exact ⟨ret_span (span_not (S := S) (U := U) (f := f) (t := t) (by rw [← E1.out]; omega)), box_bt hb⟩
      · have h3 : t < f := by omega
        go_enter Try.func77, Try.ntmps77
        go_wp2_with (go_at_call 61; refine (good_any _ _ _ _ _ _ S U _ (HD.out.box _)).mono ?_; rintro e w1 ⟨rfl, hb⟩; obtain ⟨c0, c1⟩ := box_cells hb)
        go_ret
        exact ⟨ret_span (span_not (by omega)), box_bt hb⟩
    · have h3 : f < 0 := by omega
      go_enter Try.func77, Try.ntmps77
      go_wp2_with (go_at_call 61; refine (good_any _ _ _ _ _ _ S U _ (HD.out.box _)).mono ?_; rintro e w1 ⟨rfl, hb⟩; obtain ⟨c0, c1⟩ := box_cells hb)
      go_ret
      exact ⟨ret_span (span_not (by omega)), box_bt hb⟩

set_option maxHeartbeats 1000000 in
theorem members_any (sa : Option Addr) (sl sc : Nat) (ua : Option Addr) (ul uc : Nat) (S : List Int) (U : List (List Int)) (f : Int) (w : World) (hd : Dim w sa sl sc ua ul uc S U) (hg : Hid (good S U = true)) (h0 : 0 ≤ f) (h1 : f ≤ (sl : Int)) :
    Calls Try.prog 78 #[.agg #[.slice sa sl sc, .slice ua ul uc], .int .i64 f] w fun e w' => e = .returned (.int .i64 (size S U f)) ∧ Below w.heap.size w w' := by
  obtain ⟨e1, e2, e3, e4⟩ := hd.lens
  have E1 : Hid (sl = S.length) := e1
  have HD : Hid (Dim w sa sl sc ua ul uc S U) := hd
  clear e1 e2 hd
  obtain ⟨k, rfl⟩ : ∃ k : Nat, f = k := ⟨f.toNat, by omega⟩
  by_cases hk : k = sl
  · subst hk
    go_enter Try.func78, Try.ntmps78
    go_wp2
    go_ret
    refine ⟨ret_int ?_, (Below.refl _ _).alloc (Nat.le_refl _) _⟩
    rw [E1.out, size_top hg.out]
  · have h2 : ((k : Int) == (sl : Int)) = false := by simp; omega
    have h3 : (k : Int) < (sl : Int) := by omega
    obtain ⟨b, off, rfl, hb, hcell, hi64⟩ := (HD.out.box (.cells #[.slice sa sl sc, .slice ua ul uc] 63)).size_cell (k := k) (by omega)
    have hc := hcell k (by omega)
    clear hcell hi64
    obtain ⟨x, hx⟩ : ∃ x, S.getD k 0 = x := ⟨_, rfl⟩
    rw [hx] at hc
    have HX : Hid (S.getD k 0 = x) := hx
    clear hx
    go_enter Try.func78, Try.ntmps78
    go_wp2
    go_ret
    refine ⟨ret_int ?_, (Below.refl _ _).alloc (Nat.le_refl _) _⟩
    rw [size_at hg.out (by rw [← E1.out]; omega), HX.out]

theorem span_size {S : List Int} {U : List (List Int)} {f : Int} (h : span S U f f = false) : size S U f = 0 := by
  cases hg : good S U with
  | false => exact size_bad hg f
  | true =>
    refine size_out ?_
    by_cases h' : f < 0 ∨ (S.length : Int) < f
    · exact h'
    · have := span_is (S := S) (U := U) (f := f) (t := f) ⟨hg, by omega, by omega, by omega⟩
      rw [h] at this; cases this

set_option maxHeartbeats 1000000 in
theorem size_any (sa : Option Addr) (sl sc : Nat) (ua : Option Addr) (ul uc : Nat) (S : List Int) (U : List (List Int)) (f : Int) (w : World) (hd : Dim w sa sl sc ua ul uc S U) (hf : I64 f) :
    Calls Try.prog 62 #[.agg #[.slice sa sl sc, .slice ua ul uc], .int .i64 f] w fun e w' => e = .returned (.int .i64 (size S U f)) ∧ Below w.heap.size w w' := by
  obtain ⟨e1, e2, e3, e4⟩ := hd.lens
  have HD : Hid (Dim w sa sl sc ua ul uc S U) := hd
  have HF : Hid (I64 f) := hf
  cases hs : span S U f f with
  | false =>
    have HS : Hid (span S U f f = false) := hs
    clear e1 e2 hd
    go_enter Try.func62, Try.ntmps62
    go_wp2_with (go_at_call 77; refine (span_any _ _ _ _ _ _ S U _ _ _ (HD.out.box _) HF.out HF.out).mono ?_; rintro e w1 ⟨rfl, hb⟩)
    go_ret
    exact ⟨ret_int (span_size HS.out).symm, box_bt hb⟩
  | true =>
    obtain ⟨g1, g2, g3, g4⟩ := span_yes hs
    rw [← e1] at g4
    have HG : Hid (good S U = true) := g1
    clear e1 e2 hd g1
    go_enter Try.func62, Try.ntmps62
    go_wp2_with (first
      | (go_at_call 77; refine (span_any _ _ _ _ _ _ S U _ _ _ (HD.out.box _) HF.out HF.out).mono ?_; rintro e w1 ⟨rfl, hb⟩; obtain ⟨c0, c1⟩ := box_cells hb)
      | (go_at_call 78; refine (members_any _ _ _ _ _ _ S U _ _ (HD.out.below (box_bt hb)) HG g2 g4).mono ?_; rintro e w2 ⟨rfl, hb2⟩))
    go_ret
    exact ⟨rfl, bt (box_bt hb) hb2⟩

end Go.Proofs.Ytikgbcdmeikjfaa

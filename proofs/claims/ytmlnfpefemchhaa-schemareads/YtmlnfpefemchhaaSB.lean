/-
  What schema.Right, and the document's own, return: is it a place of a node.
  Conditions: as each theorem states them.
-/
import Derived.Test.YtmlnfpefemchhaaSA
import Derived.Deep.RegionHeld3
namespace Go.Proofs.Ytmlnfpefemchhaa
open Go.ChangeShapes Go.WideShapes Go.ChangeAt Go.RowKit
set_option linter.unusedVariables false
set_option linter.unusedSimpArgs false

/-- How many members a level of a dimension has; beyond the dimensions there is one level of one. -/
def memC (ds : Dims) (k : Nat) (lv : Int) : Int := if k < ds.length then size (ds.getD k ([], [])).1 (ds.getD k ([], [])).2 lv else if lv = 0 then 1 else 0
theorem memC_bd (ds : Dims) (k : Nat) (lv : Int) : 0 ≤ memC ds k lv ∧ memC ds k lv ≤ 40 := by
  unfold memC
  split
  · exact size_bd _ _ _
  · split <;> decide
theorem memC_at {ds : Dims} {k : Nat} {lv : Int} {S : List Int} {U : List (List Int)} (hk : k < ds.length) (h : ds.getD k ([], []) = (S, U)) : memC ds k lv = size S U lv := by
  unfold memC; rw [if_pos hk, h]
theorem memC_0 {ds : Dims} {k : Nat} {lv : Int} (hk : ¬ k < ds.length) (h : lv = 0) : memC ds k lv = 1 := by
  unfold memC; rw [if_neg hk, if_pos h]
theorem memC_1 {ds : Dims} {k : Nat} {lv : Int} (hk : ¬ k < ds.length) (h : ¬ lv = 0) : memC ds k lv = 0 := by
  unfold memC; rw [if_neg hk, if_neg h]
/-- A place of a node. -/
abbrev RightP (ds : Dims) (V A : List Int) : Prop := ∀ i, i < 4 → A.getD i 0 < memC ds i (V.getD i 0)
def rightC (ds : Dims) (M : Int) (V A : List Int) : Bool := goodC ds M && decide (RightP ds V A)
theorem rightC_bad {ds : Dims} {M : Int} {V A : List Int} (h : goodC ds M = false) : rightC ds M V A = false := by unfold rightC; rw [h]; rfl
theorem rightC_no {ds : Dims} {M : Int} {V A : List Int} {i : Nat} (hi : i < 4) (h : memC ds i (V.getD i 0) ≤ A.getD i 0) : rightC ds M V A = false := by
  unfold rightC
  rw [decide_eq_false (p := RightP ds V A) (fun hp => by have := hp i hi; omega), Bool.and_false]
theorem rightC_yes {ds : Dims} {M : Int} {V A : List Int} (h : goodC ds M = true) (hp : ∀ i, i < 4 → A.getD i 0 < memC ds i (V.getD i 0)) : rightC ds M V A = true := by
  unfold rightC; rw [h, decide_eq_true (p := RightP ds V A) hp]; rfl
theorem rightC_is {ds : Dims} {M : Int} {V A : List Int} (h : rightC ds M V A = true) : goodC ds M = true ∧ RightP ds V A := by
  unfold rightC at h
  rw [Bool.and_eq_true] at h
  exact ⟨h.1, of_decide_eq_true h.2⟩
theorem ret_right {ds : Dims} {M : Int} {V A : List Int} {v : Bool} (hv : rightC ds M V A = v) : Ending.returned (.bool v) = .returned (.bool (rightC ds M V A)) := by rw [hv]

set_option maxHeartbeats 1000000 in
theorem smembers_any (a : Option Addr) (n c : Nat) (ds : Dims) (M : Int) (k : Nat) (lv m : Int) (w : World) (hc : Cat w a n c ds) (hk : k < 4) (hl : I64 lv) (hm : Hid (memC ds k lv = m)) :
    Calls Try.prog 62 #[.agg #[.slice a n c, .int .i64 M], .int .i64 k, .int .i64 lv] w fun e w' => e = .returned (.int .i64 m) ∧ Below w.heap.size w w' := by
  obtain ⟨e1, e2⟩ := hc.lens
  have E1 : Hid (n = ds.length) := e1
  have HC : Hid (Cat w a n c ds) := hc
  have HL : Hid (I64 lv) := hl
  obtain ⟨l1, l2⟩ := hl
  have BX : Hid (Bx w (w.alloc (.cells #[.slice a n c, .int .i64 M] 25)) (.slice a n c) (.int .i64 M)) := bx_new _ _ _ _
  clear e1 hc
  by_cases h1 : k < n
  · have h1g : (k : Int) < (n : Int) := by omega
    obtain ⟨b, off, rfl, hb0, sa, sl, sc, ua, ul, uc, S, U, f1, f2, HDm, HSU⟩ := HC.out.get BX.out.2.1 h1
    go_enter Try.func62, Try.ntmps62
    go_wp2_with (go_at_call 53; refine (size_any _ _ _ _ _ _ S U _ _ HDm.out HL.out).mono ?_; rintro e w1 ⟨rfl, hb⟩)
    go_ret
    exact ⟨ret_int ((memC_at (by rw [← E1.out]; exact h1) HSU.out).symm.trans hm.out), bt BX.out.2.1 hb⟩
  · have h1f : decide ((k : Int) < (n : Int)) = false := decide_eq_false (by omega)
    by_cases h2 : lv = 0
    · subst h2
      go_enter Try.func62, Try.ntmps62
      go_wp2
      go_ret
      exact ⟨ret_int ((memC_0 (by rw [← E1.out]; exact h1) rfl).symm.trans hm.out), BX.out.2.1⟩
    · have h2f : (lv == 0) = false := by simp; omega
      go_enter Try.func62, Try.ntmps62
      go_wp2
      go_ret
      exact ⟨ret_int ((memC_1 (by rw [← E1.out]; exact h1) h2).symm.trans hm.out), BX.out.2.1⟩

/-- A catalog, a node, a place, in blocks behind a world. -/
def R3 (w wr : World) (s u : Value) (V A : List Int) : Prop :=
  w.heap.size + 2 < wr.heap.size ∧ Below w.heap.size w wr ∧ wr.cell? ⟨w.heap.size, 0, none⟩ = some s ∧ wr.cell? ⟨w.heap.size, 1, none⟩ = some u ∧
    (∀ i, i < 4 → wr.cell? ⟨w.heap.size + 1, i, none⟩ = some (.int .u8 (V.getD i 0))) ∧ ∀ i, i < 4 → wr.cell? ⟨w.heap.size + 2, i, none⟩ = some (.int .u8 (A.getD i 0))
theorem R3.step {w wr w' : World} {s u : Value} {V A : List Int} (h : R3 w wr s u V A) (hb : Below wr.heap.size wr w') : R3 w w' s u V A := by
  obtain ⟨h0, h1, h2, h3, h4, h5⟩ := h
  exact ⟨Nat.lt_of_lt_of_le h0 hb.size, bt h1 hb, ((bcell hb).1 _ _ (by omega)).trans h2, ((bcell hb).1 _ _ (by omega)).trans h3, fun i hi => ((bcell hb).1 _ _ (by omega)).trans (h4 i hi), fun i hi => ((bcell hb).1 _ _ (by omega)).trans (h5 i hi)⟩
theorem r3_new (w : World) (s u : Value) (v0 v1 v2 v3 x0 x1 x2 x3 : Int) (t t1 t2 : TypeId) :
    R3 w (((w.alloc (.cells #[s, u] t)).alloc (.cells #[.int .u8 v0, .int .u8 v1, .int .u8 v2, .int .u8 v3] t1)).alloc (.cells #[.int .u8 x0, .int .u8 x1, .int .u8 x2, .int .u8 x3] t2)) s u [v0, v1, v2, v3] [x0, x1, x2, x3] := by
  refine ⟨by simp, (((Below.refl _ _).alloc (Nat.le_refl _) _).alloc (by simp) _).alloc (by simp; omega) _, ?_, ?_, fun i hi => ?_, fun i hi => ?_⟩
  · simp [go_sem]
  · simp [go_sem]
  · rcases i with _ | _ | _ | _ | i <;> first | omega | simp [go_sem]
  · rcases i with _ | _ | _ | _ | i <;> first | omega | simp [go_sem]
/-- What is borne through the loop's region. -/
theorem cur4 {w wr w' : World} {s u : Value} {q1 q2 : Value} {k : Nat} (hb : Below wr.heap.size wr w') (h : w.heap.size + 2 < wr.heap.size ∧ Below w.heap.size w wr ∧ wr.cell? ⟨w.heap.size, 0, none⟩ = some s ∧ wr.cell? ⟨w.heap.size, 1, none⟩ = some u ∧ wr.cell? ⟨w.heap.size + 1, k, none⟩ = some q1 ∧ wr.cell? ⟨w.heap.size + 2, k, none⟩ = some q2) :
    w.heap.size + 2 < w'.heap.size ∧ Below w.heap.size w w' ∧ w'.cell? ⟨w.heap.size, 0, none⟩ = some s ∧ w'.cell? ⟨w.heap.size, 1, none⟩ = some u ∧ w'.cell? ⟨w.heap.size + 1, k, none⟩ = some q1 ∧ w'.cell? ⟨w.heap.size + 2, k, none⟩ = some q2 := by
  obtain ⟨h0, h1, h2, h3, h4, h5⟩ := h
  exact ⟨Nat.lt_of_lt_of_le h0 hb.size, bt h1 hb, ((bcell hb).1 _ _ (by omega)).trans h2, ((bcell hb).1 _ _ (by omega)).trans h3, ((bcell hb).1 _ _ (by omega)).trans h4, ((bcell hb).1 _ _ (by omega)).trans h5⟩
theorem cur4_drew {w wr : World} {s u : Value} {q1 q2 : Value} {k : Nat} (h0 : w.heap.size + 2 < wr.heap.size) (h1 : Below w.heap.size w wr) (h2 : wr.cell? ⟨w.heap.size, 0, none⟩ = some s) (h3 : wr.cell? ⟨w.heap.size, 1, none⟩ = some u) (h4 : wr.cell? ⟨w.heap.size + 1, k, none⟩ = some q1) (h5 : wr.cell? ⟨w.heap.size + 2, k, none⟩ = some q2) :
    w.heap.size + 2 < wr.drew.heap.size ∧ Below w.heap.size w wr.drew ∧ wr.drew.cell? ⟨w.heap.size, 0, none⟩ = some s ∧ wr.drew.cell? ⟨w.heap.size, 1, none⟩ = some u ∧ wr.drew.cell? ⟨w.heap.size + 1, k, none⟩ = some q1 ∧ wr.drew.cell? ⟨w.heap.size + 2, k, none⟩ = some q2 :=
  ⟨h0, h1.drew, h2, h3, h4, h5⟩

theorem cur4_bel {w wr : World} {s u : Value} {q1 q2 : Value} {k : Nat} (h : w.heap.size + 2 < wr.heap.size ∧ Below w.heap.size w wr ∧ wr.cell? ⟨w.heap.size, 0, none⟩ = some s ∧ wr.cell? ⟨w.heap.size, 1, none⟩ = some u ∧ wr.cell? ⟨w.heap.size + 1, k, none⟩ = some q1 ∧ wr.cell? ⟨w.heap.size + 2, k, none⟩ = some q2) : Below w.heap.size w wr := h.2.1
theorem u8_at {V : List Int} (h : ∀ x ∈ V, U8 x) (k : Nat) : 0 ≤ V.getD k 0 ∧ V.getD k 0 ≤ 255 := by
  by_cases hk : k < V.length
  · exact getD_of h k hk
  · rw [List.getD_eq_getElem?_getD, List.getElem?_eq_none (by omega)]; decide

end Go.Proofs.Ytmlnfpefemchhaa

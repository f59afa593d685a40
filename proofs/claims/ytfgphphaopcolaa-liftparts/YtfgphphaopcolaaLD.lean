/-
  What lattice.top, Whole, Good return, and the document's own Whole, Good.
  Conditions: as each theorem states them.
-/
import Derived.Test.YtfgphphaopcolaaLC
import Derived.Test.YtfgphphaopcolaaLib6
namespace Go.Proofs.Ytfgphphaopcolaa
open Go.ChangeShapes Go.WideShapes Go.ChangeAt Go.RowKit
set_option linter.unusedVariables false
set_option linter.unusedSimpArgs false

/-- The whole of a dimension; 0 beyond. -/
def whl (ds : Dims) (k : Nat) : Int := if k < ds.length then ((ds.getD k ([], [])).1.length : Int) else 0
/-- That of a catalog, 0 of one that may not be. -/
def tp (ds : Dims) (M : Int) (k : Nat) : Int := if goodC ds M then whl ds k else 0
theorem tp_bad {ds : Dims} {M : Int} (h : goodC ds M = false) (k : Nat) : tp ds M k = 0 := by unfold tp; rw [h]; rfl
theorem tp_good {ds : Dims} {M : Int} (h : goodC ds M = true) (k : Nat) : tp ds M k = whl ds k := by unfold tp; rw [if_pos h]
theorem whl_out {ds : Dims} {k : Nat} (h : ds.length ≤ k) : whl ds k = 0 := by unfold whl; rw [if_neg (by omega)]
theorem whl_at {ds : Dims} {k : Nat} {S : List Int} {U : List (List Int)} (hk : k < ds.length) (h : ds.getD k ([], []) = (S, U)) : whl ds k = S.length := by unfold whl; rw [if_pos hk, h]
theorem whl_bd {ds : Dims} {M : Int} (h : goodC ds M = true) (k : Nat) : 0 ≤ whl ds k ∧ whl ds k ≤ 4 := by
  by_cases hk : k < ds.length
  · have := dims_good (S := (ds.getD k ([], [])).1) (U := (ds.getD k ([], [])).2) h hk rfl
    have g := (good_p this).2.1
    rw [whl_at (S := (ds.getD k ([], [])).1) (U := (ds.getD k ([], [])).2) hk rfl]; omega
  · rw [whl_out (by omega)]; decide
theorem tp_bd (ds : Dims) (M : Int) (k : Nat) : 0 ≤ tp ds M k ∧ tp ds M k ≤ 4 := by
  cases h : goodC ds M with
  | false => rw [tp_bad h]; decide
  | true => rw [tp_good h]; exact whl_bd h k

/-- The first so many wholes. -/
def pre (ds : Dims) (k j : Nat) : Int := if j < k then whl ds j else 0
theorem pre_all {ds : Dims} {k : Nat} (h : k = ds.length) (j : Nat) : pre ds k j = whl ds j := by
  unfold pre
  by_cases hj : j < k
  · rw [if_pos hj]
  · rw [if_neg hj, whl_out (by omega)]
theorem pre_put {ds : Dims} {k : Nat} (hk : k < 4) (sl : Nat) (hw : whl ds k = sl) : #[Value.int .u8 (pre ds k 0), Value.int .u8 (pre ds k 1), Value.int .u8 (pre ds k 2), Value.int .u8 (pre ds k 3)].setIfInBounds k (.int .u8 sl) = #[Value.int .u8 (pre ds (k + 1) 0), Value.int .u8 (pre ds (k + 1) 1), Value.int .u8 (pre ds (k + 1) 2), Value.int .u8 (pre ds (k + 1) 3)] := by
  have : k = 0 ∨ k = 1 ∨ k = 2 ∨ k = 3 := by omega
  rcases this with rfl | rfl | rfl | rfl <;> simp [pre, hw]
/-- A catalog in its box, the result's block, the whole's block. -/
def T4 (w wr : World) (s u : Value) (q cs : Array Value) : Prop :=
  Below w.heap.size w wr ∧ wr.heap[w.heap.size]? = some (.cells #[s, u] 24) ∧ wr.heap[w.heap.size + 1]? = some (.cells q 26) ∧ wr.heap[w.heap.size + 2]? = some (.cells cs 26)
theorem T4.step {w wr w' : World} {s u : Value} {q cs : Array Value} (h : T4 w wr s u q cs) (hb : Below wr.heap.size wr w') : T4 w w' s u q cs :=
  ⟨bt h.1 hb, keep_blk h.2.1 hb, keep_blk h.2.2.1 hb, keep_blk h.2.2.2 hb⟩
theorem T4.put {w wr : World} {s u : Value} {q cs cs' : Array Value} (h : T4 w wr s u q cs) (j : Nat) (v : Value) (e : cs.setIfInBounds j v = cs') : T4 w (wr.setCell ⟨w.heap.size + 2, j, none⟩ v) s u q cs' := by
  obtain ⟨h1, h2, h3, h4⟩ := h
  refine ⟨h1.setCell (by simp) _, ?_, ?_, ?_⟩
  · rw [Below.heap_setCell _ _ _ _ (by simp)]; exact h2
  · rw [Below.heap_setCell _ _ _ _ (by simp)]; exact h3
  · rw [← e]; exact heap_setCell_same wr _ j _ _ _ h4
theorem t4_new (w : World) (s u : Value) : T4 w (((w.alloc (.cells #[s, u] 24)).alloc (.cells #[.int .u8 0, .int .u8 0, .int .u8 0, .int .u8 0] 26)).alloc (.cells #[.int .u8 0, .int .u8 0, .int .u8 0, .int .u8 0] 26)) s u #[.int .u8 0, .int .u8 0, .int .u8 0, .int .u8 0] #[.int .u8 0, .int .u8 0, .int .u8 0, .int .u8 0] := by
  refine ⟨(((Below.refl _ _).alloc (Nat.le_refl _) _).alloc (by simp) _).alloc (by simp; omega) _, ?_, ?_, ?_⟩ <;> simp only [heap_alloc2, World.size_alloc]
  · rw [if_neg (by omega), if_neg (by omega)]; simp
  · rw [if_neg (by omega)]; simp
  · simp

set_option maxHeartbeats 4000000 in
theorem top_any (a : Option Addr) (n c : Nat) (ds : Dims) (M : Int) (w : World) (hc : Cat w a n c ds) (hM : I64 M) :
    Calls Try.prog 43 #[.agg #[.slice a n c, .int .i64 M]] w fun e w' => e = .returned (.tuple #[.agg #[.int .u8 (tp ds M 0), .int .u8 (tp ds M 1), .int .u8 (tp ds M 2), .int .u8 (tp ds M 3)], .bool (goodC ds M)]) ∧ Below w.heap.size w w' := by
  obtain ⟨e1, e2⟩ := hc.lens
  have E1 : Hid (n = ds.length) := e1
  have HC : Hid (Cat w a n c ds) := hc
  have HM : Hid (I64 M) := hM
  have TX : Hid (T4 w _ (.slice a n c) (.int .i64 M) _ _) := t4_new w (.slice a n c) (.int .i64 M)
  clear e1 hc hM
  cases hg : goodC ds M with
  | false =>
    have HG : Hid (goodC ds M = false) := hg
    rw [tp_bad hg, tp_bad hg, tp_bad hg, tp_bad hg]
    go_enter Try.func43, Try.ntmps43
    go_wp2_with (go_at_call 41; refine (sgood_any _ _ _ _ _ _ (HC.out.below TX.out.1) HM.out).mono ?_; rintro e w1 ⟨rfl, hb⟩; have TX1 := TX.out.step hb; obtain ⟨d0, d1, d2, d3⟩ := box4 TX1.2.2.1; obtain ⟨c0, c1, c2, c3⟩ := box4 TX1.2.2.2; obtain ⟨f0, f1, f2, f3⟩ := froz4 TX1.2.2.1; have TX1 := hid TX1)
    obtain ⟨r0, r1, r2, r3⟩ := box4 (store4 TX1.out.2.2.1 (.int .u8 0) (.int .u8 0) (.int .u8 0) (.int .u8 0))
    exact bodyPost_ret (v := .tuple #[.agg #[.int .u8 0, .int .u8 0, .int .u8 0, .int .u8 0], .bool false]) (by simp [results, Try.results43, go_sem, r0, r1, r2, r3]) rfl ⟨rfl, below4 TX1.out.1 (by omega) _ _ _ _⟩
  | true =>
    have HG : Hid (goodC ds M = true) := hg
    rw [tp_good hg, tp_good hg, tp_good hg, tp_good hg]
    have hn := goodC_p hg
    rw [← E1.out] at hn
    obtain ⟨n1, n4, _, _, _⟩ := hn
    go_enter Try.func43, Try.ntmps43
    go_wp2_with (go_at_call 41; refine (sgood_any _ _ _ _ _ _ (HC.out.below TX.out.1) HM.out).mono ?_; rintro e w1 ⟨rfl, hb⟩; have TX1 := TX.out.step hb; obtain ⟨c0, c1⟩ := box_two TX1.2.1; have TX1 := hid TX1)
    go_loopw [14] (fun i wr => ∃ k : Nat, k ≤ n ∧ i = .int .i64 k ∧ Hid (T4 w wr (.slice a n c) (.int .i64 M) #[.int .u8 0, .int .u8 0, .int .u8 0, .int .u8 0] #[.int .u8 (pre ds k 0), .int .u8 (pre ds k 1), .int .u8 (pre ds k 2), .int .u8 (pre ds k 3)])) (fun i _ => n - (intOf i).toNat)
    case atStart => exact ⟨0, by omega, rfl, TX1⟩
    case round =>
      obtain ⟨k, hk, rfl, TX2⟩ := hrel
      have hsz := heap_lt TX2.out.2.2.2
      have bel2 := TX2.out.1
      by_cases hlt : k < n
      · have hkn : (k : Int) < (n : Int) := by omega
        obtain ⟨b, off, rfl, hb0, sa, sl, sc, ua, ul, uc, S, U, d1, d2, HDm, HSU⟩ := HC.out.get bel2 hlt
        have hw := whl_at (by rw [← E1.out]; exact hlt) HSU.out
        have wb := whl_bd HG.out k
        rw [hw] at wb
        obtain ⟨l1, _, _, _⟩ := HDm.out.lens
        rw [← l1] at hw wb
        have HW : Hid (whl ds k = sl) := hw
        have wl : IntKind.u8.wrap (sl : Int) = sl := IntWalk.u8_in _ (by omega)
        have hbw : b < wr.heap.size := Nat.lt_of_lt_of_le hb0 bel2.size
        have hk4 : (k : Int) < 4 := by omega
        obtain ⟨qv, q0⟩ := cell_in4 TX2.out.2.2.2 (k := k) (by omega)
        have f0 := frozen_of_row wr (w.heap.size + 2) k _ _ TX2.out.2.2.2
        clear hw l1
        go_wp2
        go_roundw
        case rel =>
          refine ⟨k + 1, by omega, by go_num, hid ?_⟩
          exact (TX2.out.put k _ (pre_put (by omega) sl HW.out)).step ((Below.refl _ _).alloc (Nat.le_refl _) _)
        case measure => simp [intOf]; omega
      · obtain rfl : k = n := by omega
        obtain ⟨q0, q1, q2, q3⟩ := box4 TX2.out.2.2.2
        obtain ⟨g0, g1, g2, g3⟩ := box4 TX2.out.2.2.1
        obtain ⟨f0, f1, f2, f3⟩ := froz4 TX2.out.2.2.1
        go_wp2
        obtain ⟨r0, r1, r2, r3⟩ := box4 (store4 TX2.out.2.2.1 (.int .u8 (pre ds k 0)) (.int .u8 (pre ds k 1)) (.int .u8 (pre ds k 2)) (.int .u8 (pre ds k 3)))
        refine bodyPost_ret (v := .tuple #[.agg #[.int .u8 (pre ds k 0), .int .u8 (pre ds k 1), .int .u8 (pre ds k 2), .int .u8 (pre ds k 3)], .bool true]) (by simp [results, Try.results43, go_sem, r0, r1, r2, r3]) rfl ⟨?_, below4 TX2.out.1 (by omega) _ _ _ _⟩
        rw [pre_all E1.out, pre_all E1.out, pre_all E1.out, pre_all E1.out]

theorem bx2 (w : World) (s u : Value) (t : TypeId) (o : Obj) : Below w.heap.size w ((w.alloc (.cells #[s, u] t)).alloc o) := ((Below.refl _ _).alloc (Nat.le_refl _) _).alloc (by simp) _

set_option maxHeartbeats 4000000 in
theorem lgood_any (a : Option Addr) (n c : Nat) (ds : Dims) (M v0 v1 v2 v3 : Int) (w : World) (hc : Cat w a n c ds) (hM : I64 M) :
    Calls Try.prog 29 #[.agg #[.slice a n c, .int .i64 M], .agg #[.int .u8 v0, .int .u8 v1, .int .u8 v2, .int .u8 v3]] w fun e w' => e = .returned (.bool (goodC ds M && bel v0 v1 v2 v3 (tp ds M 0) (tp ds M 1) (tp ds M 2) (tp ds M 3))) ∧ Below w.heap.size w w' := by
  have HC : Hid (Cat w a n c ds) := hc
  have HM : Hid (I64 M) := hM
  clear hc hM
  cases hg : goodC ds M with
  | false =>
    go_enter Try.func29, Try.ntmps29
    go_wp2_with (go_at_call 43; refine (top_any _ _ _ _ _ _ (HC.out.below (bx2 _ _ _ _ _)) HM.out).mono ?_; rintro e w1 ⟨rfl, hb⟩)
    go_ret
    exact ⟨rfl, ((bx2 _ _ _ _ _).trans (hb.mono (by simp; omega))).alloc (by have := hb.size; simp at this; omega) _⟩
  | true =>
    go_enter Try.func29, Try.ntmps29
    go_wp2_with (first
      | (go_at_call 43; refine (top_any _ _ _ _ _ _ (HC.out.below (bx2 _ _ _ _ _)) HM.out).mono ?_; rintro e w1 ⟨rfl, hb⟩; obtain ⟨hcc, hff⟩ := bcell hb; have hz : w.heap.size + 1 < w1.heap.size := (by have := hb.size; simp at this; omega))
      | (go_at_call 30; refine (below_any _ _ _ _ _ _ _ _ _).mono ?_; rintro e w2 ⟨rfl, hb2⟩))
    go_ret
    exact ⟨ret_bool (by simp), (((bx2 _ _ _ _ _).trans (hb.mono (by simp; omega))).alloc (by have := hb.size; simp at this; omega) _).trans (hb2.mono (by have := hb.size; simp at this ⊢; omega))⟩

end Go.Proofs.Ytfgphphaopcolaa

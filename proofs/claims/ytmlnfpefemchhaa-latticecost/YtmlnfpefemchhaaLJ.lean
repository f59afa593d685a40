/-
  What lattice.Covers returns.
  Conditions: as each theorem states them.
-/
import Derived.Test.YtmlnfpefemchhaaLI
namespace Go.Proofs.Ytmlnfpefemchhaa
open Go.ChangeShapes Go.WideShapes Go.ChangeAt Go.RowKit
set_option linter.unusedVariables false
set_option linter.unusedSimpArgs false

/-- One more in one dimension. -/
def inc (v0 v1 v2 v3 : Int) (k : Nat) : Nd := if k = 0 then (v0 + 1, v1, v2, v3) else if k = 1 then (v0, v1 + 1, v2, v3) else if k = 2 then (v0, v1, v2 + 1, v3) else (v0, v1, v2, v3 + 1)
/-- What a node covers in the first so many dimensions. -/
def cvs (v0 v1 v2 v3 : Int) (T : List Int) : Nat → List Nd
  | 0 => []
  | k + 1 => cvs v0 v1 v2 v3 T k ++ (if [v0, v1, v2, v3].getD k 0 < T.getD k 0 then [inc v0 v1 v2 v3 k] else [])
theorem cvs_len (v0 v1 v2 v3 : Int) (T : List Int) (k : Nat) : (cvs v0 v1 v2 v3 T k).length ≤ k := by
  induction k with
  | zero => simp [cvs]
  | succ k ih => rw [cvs, List.length_append]; split <;> simp <;> omega
theorem cvs_yes {v0 v1 v2 v3 : Int} {T : List Int} {k : Nat} (h : [v0, v1, v2, v3].getD k 0 < T.getD k 0) : cvs v0 v1 v2 v3 T (k + 1) = cvs v0 v1 v2 v3 T k ++ [inc v0 v1 v2 v3 k] := by rw [cvs, if_pos h]
theorem cvs_no {v0 v1 v2 v3 : Int} {T : List Int} {k : Nat} (h : ¬ [v0, v1, v2, v3].getD k 0 < T.getD k 0) : cvs v0 v1 v2 v3 T (k + 1) = cvs v0 v1 v2 v3 T k := by rw [cvs, if_neg h, List.append_nil]
def covL (ds : Dims) (M v0 v1 v2 v3 : Int) : List Nd := if nodeC ds M v0 v1 v2 v3 then cvs v0 v1 v2 v3 [tp ds M 0, tp ds M 1, tp ds M 2, tp ds M 3] 4 else []
theorem cell4_at {w : World} {D : Nat} {t : TypeId} {a b c d : Int} (hD : w.heap[D]? = some (.cells #[.int .u8 a, .int .u8 b, .int .u8 c, .int .u8 d] t)) {k : Nat} (hk : k < 4) : w.cell? ⟨D, k, none⟩ = some (.int .u8 ([a, b, c, d].getD k 0)) := by
  obtain ⟨h0, h1, h2, h3⟩ := box4 hD
  have : k = 0 ∨ k = 1 ∨ k = 2 ∨ k = 3 := by omega
  rcases this with rfl | rfl | rfl | rfl <;> assumption
/-- A row of nodes of one's own behind a world. -/
def CovSt (W wr : World) (v : Value) (l : List Nd) : Prop := Below W.heap.size W wr ∧ wr.ownsRow W.heap.size 36 4 v l.length (ncells l)
theorem cov_step {W wr w3 : World} {g cap : Nat} {x : Nd} {o : Obj} {v : Value} {l : List Nd} (h : CovSt W wr v l)
    (ho : w3.ownsRow W.heap.size 36 4 (.slice (some ⟨g, 0, none⟩) (l.length + 1) cap) (l.length + 1) (ncells (l ++ [x]))) (hg : (wr.alloc o).grownBy w3 v.ownBlock) : CovSt W w3 (.slice (some ⟨g, 0, none⟩) (l.length + 1) cap) (l ++ [x]) := by
  refine ⟨(h.1.alloc h.1.size _).grown hg (by simp; have := h.1.size; omega) (fun j hj => (h.2.lt j hj).1), ?_⟩
  rw [show (l ++ [x]).length = l.length + 1 by simp]
  exact ho
theorem cov_done {w W wr : World} {v : Value} {l : List Nd} (h : CovSt W wr v l) (hb : Below w.heap.size w W) : wr.ownsRow w.heap.size 36 4 v l.length (ncells l) ∧ Below w.heap.size w wr :=
  ⟨h.2.mono hb.size, hb.trans (h.1.mono hb.size)⟩

set_option maxHeartbeats 8000000 in
theorem covers_any (a : Option Addr) (n c : Nat) (ds : Dims) (M v0 v1 v2 v3 : Int) (w : World) (hc : Cat w a n c ds) (hM : I64 M) (hV : ∀ x ∈ [v0, v1, v2, v3], U8 x) :
    Calls Try.prog 31 #[.agg #[.slice a n c, .int .i64 M], .agg #[.int .u8 v0, .int .u8 v1, .int .u8 v2, .int .u8 v3]] w fun e w' => (∃ v, e = .returned v ∧ w'.ownsRow w.heap.size 36 4 v (covL ds M v0 v1 v2 v3).length (ncells (covL ds M v0 v1 v2 v3))) ∧ Below w.heap.size w w' := by
  have HC : Hid (Cat w a n c ds) := hc
  have HM : Hid (I64 M) := hM
  have HV : Hid (∀ x ∈ [v0, v1, v2, v3], U8 x) := hV
  have NX : Hid (N2 w _ (.slice a n c) (.int .i64 M) [v0, v1, v2, v3]) := n2_new w (.slice a n c) (.int .i64 M) v0 v1 v2 v3
  clear hc hM hV
  cases hg : goodC ds M with
  | false =>
    have HN : Hid (nodeC ds M v0 v1 v2 v3 = false) := by show _ = _; unfold nodeC; rw [hg]; rfl
    go_enter Try.func31, Try.ntmps31
    go_wp2_with (go_at_call 52; refine (top_any _ _ _ _ _ _ (HC.out.below NX.out.1) HM.out).mono ?_; rintro e w1 ⟨rfl, hb⟩; have NX1 := NX.out.step hb; have NX1 := hid NX1)
    go_ret
    refine ⟨⟨_, rfl, ?_⟩, NX1.out.1.alloc NX1.out.1.size _⟩
    unfold covL; rw [HN.out]; exact World.ownsRow_nil _ _ _ _
  | true =>
    have HG : Hid (goodC ds M = true) := hg
    have b0 := tp_bd ds M 0; have b1 := tp_bd ds M 1; have b2 := tp_bd ds M 2; have b3 := tp_bd ds M 3
    cases hbl : bel v0 v1 v2 v3 (tp ds M 0) (tp ds M 1) (tp ds M 2) (tp ds M 3) with
    | false =>
      have HN : Hid (nodeC ds M v0 v1 v2 v3 = false) := by show _ = _; unfold nodeC; rw [hg, hbl]; rfl
      go_enter Try.func31, Try.ntmps31
      go_wp2_with (first
        | (go_at_call 52; refine (top_any _ _ _ _ _ _ (HC.out.below NX.out.1) HM.out).mono ?_; rintro e w1 ⟨rfl, hb⟩; have NX1 := NX.out.step hb; obtain ⟨x0, x1, x2, x3⟩ := box4 NX1.2.2; have hz1 := heap_lt NX1.2.2; have NX1 := hid NX1)
        | (go_at_call 17; refine (below_any _ _ _ _ _ _ _ _ _).mono ?_; rintro e w2 ⟨rfl, hb2⟩))
      go_ret
      refine ⟨⟨_, rfl, ?_⟩, (NX1.out.1.alloc NX1.out.1.size _).trans (hb2.mono (by have := NX1.out.1.size; simp; omega))⟩
      unfold covL; rw [HN.out]; exact World.ownsRow_nil _ _ _ _
    | true =>
      have HN : Hid (nodeC ds M v0 v1 v2 v3 = true) := by show _ = _; unfold nodeC; rw [hg, hbl]; rfl
      have HQ : Hid (covL ds M v0 v1 v2 v3 = cvs v0 v1 v2 v3 [tp ds M 0, tp ds M 1, tp ds M 2, tp ds M 3] 4) := by show _ = _; unfold covL; rw [if_pos HN.out]
      obtain ⟨t0, h0⟩ : ∃ t, tp ds M 0 = t := ⟨_, rfl⟩
      obtain ⟨t1, h1⟩ : ∃ t, tp ds M 1 = t := ⟨_, rfl⟩
      obtain ⟨t2, h2⟩ : ∃ t, tp ds M 2 = t := ⟨_, rfl⟩
      obtain ⟨t3, h3⟩ : ∃ t, tp ds M 3 = t := ⟨_, rfl⟩
      rw [h0] at b0; rw [h1] at b1; rw [h2] at b2; rw [h3] at b3
      rw [h0, h1, h2, h3] at HQ hbl
      go_enter Try.func31, Try.ntmps31
      go_wp2_with (first
        | (go_at_call 52; refine (top_any _ _ _ _ _ _ (HC.out.below NX.out.1) HM.out).mono ?_; rintro e w1 ⟨rfl, hb⟩; rw [h0, h1, h2, h3]; have NX1 := NX.out.step hb; obtain ⟨x0, x1, x2, x3⟩ := box4 NX1.2.2; have hz1 := heap_lt NX1.2.2; have NX1 := hid NX1)
        | (go_at_call 17; refine (below_any _ _ _ _ _ _ _ _ _).mono ?_; rintro e w2 ⟨rfl, hb2⟩))
      have BW : Hid (Below w.heap.size w w2) := hid ((NX1.out.1.alloc NX1.out.1.size _).trans (hb2.mono (by have := NX1.out.1.size; simp; omega)))
      have VB : Hid (w2.heap[w.heap.size + 1]? = some (.cells #[.int .u8 v0, .int .u8 v1, .int .u8 v2, .int .u8 v3] 36)) := hid (keep_blk (keep_blk NX1.out.2.2 ((Below.refl _ _).alloc (Nat.le_refl _) _)) hb2)
      have TB : Hid (w2.heap[w1.heap.size]? = some (.cells #[.int .u8 t0, .int .u8 t1, .int .u8 t2, .int .u8 t3] 36)) := hid (keep_blk (heap_alloc_new _ _) hb2)
      have CS0 : Hid (CovSt w2 w2 (.slice none 0 0) []) := hid ⟨Below.refl _ _, World.ownsRow_nil _ _ _ _⟩
      clear hb hb2 x0 x1 x2 x3 NX NX1 hz1
      go_loopg [7, 23] 4 (fun gk va vi wr => ∃ (k : Nat) (j : Int), vi = .int .i64 j ∧ Hid (j = k ∧ gk + k = 4) ∧ Hid (CovSt w2 wr va (cvs v0 v1 v2 v3 [t0, t1, t2, t3] k)))
      case atStart => exact ⟨0, 0, rfl, hid (by omega), CS0⟩
      case round =>
        obtain ⟨k, j, rfl, HK, CS⟩ := hrel
        have kv := keep_blk VB.out CS.out.1
        have kt := keep_blk TB.out CS.out.1
        have hz1 := heap_lt kv
        have hz2 := heap_lt kt
        by_cases hlt : k < 4
        · obtain ⟨x0, x1, x2, x3⟩ := box4 kv
          obtain ⟨y0, y1, y2, y3⟩ := box4 kt
          have hV0 := HV.out v0 (by simp); have hV1 := HV.out v1 (by simp); have hV2 := HV.out v2 (by simp); have hV3 := HV.out v3 (by simp)
          unfold U8 at hV0 hV1 hV2 hV3
          clear kv kt
          have hk4 : k = 0 ∨ k = 1 ∨ k = 2 ∨ k = 3 := by omega
          rcases hk4 with rfl | rfl | rfl | rfl
          · obtain rfl : j = 0 := by have := HK.out; omega
            by_cases hc : v0 < t0
            · go_wp2
              go_region
              have CSq : CovSt w2 wr.drew _ _ := ⟨CS.out.1.drew, CS.out.2.drew⟩
              generalize wr.drew = wq at CSq ⊢
              have CSQ := hid CSq
              obtain ⟨x0, x1, x2, x3⟩ := box4 (keep_blk VB.out CSq.1)
              have hz1 := heap_lt (keep_blk VB.out CSq.1)
              clear CSq
              go_wp2_with (at_builtin; refine append_four Try.underlying42 info_node (by decide) (by decide) rfl (.tmp 39) (.tmp 41) rfl w2.heap.size (cvs v0 v1 v2 v3 [t0, t1, t2, t3] 0).length _ (v0 + 1) v1 v2 v3 (cvs v0 v1 v2 v3 [t0, t1, t2, t3] 0) (wq.heap.size + 1) (by simp) rfl (World.ownsRow.alloc CSQ.out.2 _) rfl (by have := cvs_len v0 v1 v2 v3 [t0, t1, t2, t3] 0; omega) (by have := CSQ.out.1.size; simp; omega) ?_; rintro v5 w5 ho5 ⟨g, cap, rfl, hgc⟩ hgr5; have HO5 := hid ho5; have HG5 := hid hgr5; clear ho5 hgr5)
              go_roundg (gk - 1)
              case measure => have := HK.out; omega
              case rel =>
                refine ⟨0 + 1, 0 + 1, rfl, hid (by have := HK.out; omega), hid ?_⟩
                have hcv : cvs v0 v1 v2 v3 [t0, t1, t2, t3] (0 + 1) = cvs v0 v1 v2 v3 [t0, t1, t2, t3] 0 ++ [((v0 + 1), v1, v2, v3)] := cvs_yes hc
                rw [hcv]
                exact cov_step CSQ.out HO5.out HG5.out
            · have hcf : decide (v0 < t0) = false := decide_eq_false hc
              go_wp2
              go_region
              go_wp2
              go_roundg (gk - 1)
              case measure => have := HK.out; omega
              case rel =>
                refine ⟨0 + 1, 0 + 1, rfl, hid (by have := HK.out; omega), hid ?_⟩
                have hcv : cvs v0 v1 v2 v3 [t0, t1, t2, t3] (0 + 1) = cvs v0 v1 v2 v3 [t0, t1, t2, t3] 0 := cvs_no (by simpa using hc)
                rw [hcv]
                exact ⟨CS.out.1.drew, CS.out.2.drew⟩
          · obtain rfl : j = 1 := by have := HK.out; omega
            by_cases hc : v1 < t1
            · go_wp2
              go_region
              have CSq : CovSt w2 wr.drew _ _ := ⟨CS.out.1.drew, CS.out.2.drew⟩
              generalize wr.drew = wq at CSq ⊢
              have CSQ := hid CSq
              obtain ⟨x0, x1, x2, x3⟩ := box4 (keep_blk VB.out CSq.1)
              have hz1 := heap_lt (keep_blk VB.out CSq.1)
              clear CSq
              go_wp2_with (at_builtin; refine append_four Try.underlying42 info_node (by decide) (by decide) rfl (.tmp 39) (.tmp 41) rfl w2.heap.size (cvs v0 v1 v2 v3 [t0, t1, t2, t3] 1).length _ v0 (v1 + 1) v2 v3 (cvs v0 v1 v2 v3 [t0, t1, t2, t3] 1) (wq.heap.size + 1) (by simp) rfl (World.ownsRow.alloc CSQ.out.2 _) rfl (by have := cvs_len v0 v1 v2 v3 [t0, t1, t2, t3] 1; omega) (by have := CSQ.out.1.size; simp; omega) ?_; rintro v5 w5 ho5 ⟨g, cap, rfl, hgc⟩ hgr5; have HO5 := hid ho5; have HG5 := hid hgr5; clear ho5 hgr5)
              go_roundg (gk - 1)
              case measure => have := HK.out; omega
              case rel =>
                refine ⟨1 + 1, 1 + 1, rfl, hid (by have := HK.out; omega), hid ?_⟩
                have hcv : cvs v0 v1 v2 v3 [t0, t1, t2, t3] (1 + 1) = cvs v0 v1 v2 v3 [t0, t1, t2, t3] 1 ++ [(v0, (v1 + 1), v2, v3)] := cvs_yes hc
                rw [hcv]
                exact cov_step CSQ.out HO5.out HG5.out
            · have hcf : decide (v1 < t1) = false := decide_eq_false hc
              go_wp2
              go_region
              go_wp2
              go_roundg (gk - 1)
              case measure => have := HK.out; omega
              case rel =>
                refine ⟨1 + 1, 1 + 1, rfl, hid (by have := HK.out; omega), hid ?_⟩
                have hcv : cvs v0 v1 v2 v3 [t0, t1, t2, t3] (1 + 1) = cvs v0 v1 v2 v3 [t0, t1, t2, t3] 1 := cvs_no (by simpa using hc)
                rw [hcv]
                exact ⟨CS.out.1.drew, CS.out.2.drew⟩
          · obtain rfl : j = 2 := by have := HK.out; omega
            by_cases hc : v2 < t2
            · go_wp2
              go_region
              have CSq : CovSt w2 wr.drew _ _ := ⟨CS.out.1.drew, CS.out.2.drew⟩
              generalize wr.drew = wq at CSq ⊢
              have CSQ := hid CSq
              obtain ⟨x0, x1, x2, x3⟩ := box4 (keep_blk VB.out CSq.1)
              have hz1 := heap_lt (keep_blk VB.out CSq.1)
              clear CSq
              go_wp2_with (at_builtin; refine append_four Try.underlying42 info_node (by decide) (by decide) rfl (.tmp 39) (.tmp 41) rfl w2.heap.size (cvs v0 v1 v2 v3 [t0, t1, t2, t3] 2).length _ v0 v1 (v2 + 1) v3 (cvs v0 v1 v2 v3 [t0, t1, t2, t3] 2) (wq.heap.size + 1) (by simp) rfl (World.ownsRow.alloc CSQ.out.2 _) rfl (by have := cvs_len v0 v1 v2 v3 [t0, t1, t2, t3] 2; omega) (by have := CSQ.out.1.size; simp; omega) ?_; rintro v5 w5 ho5 ⟨g, cap, rfl, hgc⟩ hgr5; have HO5 := hid ho5; have HG5 := hid hgr5; clear ho5 hgr5)
              go_roundg (gk - 1)
              case measure => have := HK.out; omega
              case rel =>
                refine ⟨2 + 1, 2 + 1, rfl, hid (by have := HK.out; omega), hid ?_⟩
                have hcv : cvs v0 v1 v2 v3 [t0, t1, t2, t3] (2 + 1) = cvs v0 v1 v2 v3 [t0, t1, t2, t3] 2 ++ [(v0, v1, (v2 + 1), v3)] := cvs_yes hc
                rw [hcv]
                exact cov_step CSQ.out HO5.out HG5.out
            · have hcf : decide (v2 < t2) = false := decide_eq_false hc
              go_wp2
              go_region
              go_wp2
              go_roundg (gk - 1)
              case measure => have := HK.out; omega
              case rel =>
                refine ⟨2 + 1, 2 + 1, rfl, hid (by have := HK.out; omega), hid ?_⟩
                have hcv : cvs v0 v1 v2 v3 [t0, t1, t2, t3] (2 + 1) = cvs v0 v1 v2 v3 [t0, t1, t2, t3] 2 := cvs_no (by simpa using hc)
                rw [hcv]
                exact ⟨CS.out.1.drew, CS.out.2.drew⟩
          · obtain rfl : j = 3 := by have := HK.out; omega
            by_cases hc : v3 < t3
            · go_wp2
              go_region
              have CSq : CovSt w2 wr.drew _ _ := ⟨CS.out.1.drew, CS.out.2.drew⟩
              generalize wr.drew = wq at CSq ⊢
              have CSQ := hid CSq
              obtain ⟨x0, x1, x2, x3⟩ := box4 (keep_blk VB.out CSq.1)
              have hz1 := heap_lt (keep_blk VB.out CSq.1)
              clear CSq
              go_wp2_with (at_builtin; refine append_four Try.underlying42 info_node (by decide) (by decide) rfl (.tmp 39) (.tmp 41) rfl w2.heap.size (cvs v0 v1 v2 v3 [t0, t1, t2, t3] 3).length _ v0 v1 v2 (v3 + 1) (cvs v0 v1 v2 v3 [t0, t1, t2, t3] 3) (wq.heap.size + 1) (by simp) rfl (World.ownsRow.alloc CSQ.out.2 _) rfl (by have := cvs_len v0 v1 v2 v3 [t0, t1, t2, t3] 3; omega) (by have := CSQ.out.1.size; simp; omega) ?_; rintro v5 w5 ho5 ⟨g, cap, rfl, hgc⟩ hgr5; have HO5 := hid ho5; have HG5 := hid hgr5; clear ho5 hgr5)
              go_roundg (gk - 1)
              case measure => have := HK.out; omega
              case rel =>
                refine ⟨3 + 1, 3 + 1, rfl, hid (by have := HK.out; omega), hid ?_⟩
                have hcv : cvs v0 v1 v2 v3 [t0, t1, t2, t3] (3 + 1) = cvs v0 v1 v2 v3 [t0, t1, t2, t3] 3 ++ [(v0, v1, v2, (v3 + 1))] := cvs_yes hc
                rw [hcv]
                exact cov_step CSQ.out HO5.out HG5.out
            · have hcf : decide (v3 < t3) = false := decide_eq_false hc
              go_wp2
              go_region
              go_wp2
              go_roundg (gk - 1)
              case measure => have := HK.out; omega
              case rel =>
                refine ⟨3 + 1, 3 + 1, rfl, hid (by have := HK.out; omega), hid ?_⟩
                have hcv : cvs v0 v1 v2 v3 [t0, t1, t2, t3] (3 + 1) = cvs v0 v1 v2 v3 [t0, t1, t2, t3] 3 := cvs_no (by simpa using hc)
                rw [hcv]
                exact ⟨CS.out.1.drew, CS.out.2.drew⟩
        · have hj : j = 4 := by have := HK.out; omega
          subst hj
          go_wp2
          go_ret
          have e4 : k = 4 := by have := HK.out; omega
          subst e4
          have := cov_done CS.out BW.out
          rw [HQ.out]
          exact ⟨⟨_, rfl, this.1⟩, this.2⟩

end Go.Proofs.Ytmlnfpefemchhaa

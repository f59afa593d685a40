/-
  What the document's own Covers returns.
  Conditions: as each theorem states them.
-/
import Derived.Test.YtmlnfpefemchhaaLJ
namespace Go.Proofs.Ytmlnfpefemchhaa
open Go.ChangeShapes Go.WideShapes Go.ChangeAt Go.RowKit
set_option linter.unusedVariables false
set_option linter.unusedSimpArgs false

theorem CovSt.step {W wr w' : World} {v : Value} {l : List Nd} (h : CovSt W wr v l) (hb : Below wr.heap.size wr w') : CovSt W w' v l := by
  refine ⟨bt h.1 hb, h.2.kept (below_grow hb none) ?_⟩
  cases hv : v.ownBlock with
  | none => exact .inl rfl
  | some j => exact .inr (by simp)
theorem CovSt.alloc {W wr : World} {v : Value} {l : List Nd} (h : CovSt W wr v l) (o : Obj) : CovSt W (wr.alloc o) v l := ⟨h.1.alloc h.1.size _, h.2.alloc _⟩
theorem cov_step0 {W wr w3 : World} {g cap : Nat} {x : Nd} {v : Value} {l : List Nd} (h : CovSt W wr v l)
    (ho : w3.ownsRow W.heap.size 36 4 (.slice (some ⟨g, 0, none⟩) (l.length + 1) cap) (l.length + 1) (ncells (l ++ [x]))) (hg : wr.grownBy w3 v.ownBlock) : CovSt W w3 (.slice (some ⟨g, 0, none⟩) (l.length + 1) cap) (l ++ [x]) := by
  refine ⟨h.1.grown hg h.1.size (fun j hj => (h.2.lt j hj).1), ?_⟩
  rw [show (l ++ [x]).length = l.length + 1 by simp]
  exact ho
theorem nodeC_le {ds : Dims} {M v0 v1 v2 v3 : Int} (h : nodeC ds M v0 v1 v2 v3 = true) : v0 ≤ tp ds M 0 ∧ v1 ≤ tp ds M 1 ∧ v2 ≤ tp ds M 2 ∧ v3 ≤ tp ds M 3 := by
  unfold nodeC bel at h
  rw [Bool.and_eq_true] at h
  exact of_decide_eq_true h.2
theorem nodeC_is {ds : Dims} {M v0 v1 v2 v3 : Int} (h : goodC ds M = true) : nodeC ds M v0 v1 v2 v3 = decide (v0 ≤ tp ds M 0 ∧ v1 ≤ tp ds M 1 ∧ v2 ≤ tp ds M 2 ∧ v3 ≤ tp ds M 3) := by
  unfold nodeC bel; rw [h]; rfl
theorem inc_node0 {ds : Dims} {M v0 v1 v2 v3 : Int} (h : nodeC ds M v0 v1 v2 v3 = true) : nodeC ds M (v0 + 1) v1 v2 v3 = decide (v0 < tp ds M 0) := by
  rw [nodeC_is (nodeC_good h)]; have := nodeC_le h; exact decide_eq_decide.mpr (by omega)
theorem inc_node1 {ds : Dims} {M v0 v1 v2 v3 : Int} (h : nodeC ds M v0 v1 v2 v3 = true) : nodeC ds M v0 (v1 + 1) v2 v3 = decide (v1 < tp ds M 1) := by
  rw [nodeC_is (nodeC_good h)]; have := nodeC_le h; exact decide_eq_decide.mpr (by omega)
theorem inc_node2 {ds : Dims} {M v0 v1 v2 v3 : Int} (h : nodeC ds M v0 v1 v2 v3 = true) : nodeC ds M v0 v1 (v2 + 1) v3 = decide (v2 < tp ds M 2) := by
  rw [nodeC_is (nodeC_good h)]; have := nodeC_le h; exact decide_eq_decide.mpr (by omega)
theorem inc_node3 {ds : Dims} {M v0 v1 v2 v3 : Int} (h : nodeC ds M v0 v1 v2 v3 = true) : nodeC ds M v0 v1 v2 (v3 + 1) = decide (v3 < tp ds M 3) := by
  rw [nodeC_is (nodeC_good h)]; have := nodeC_le h; exact decide_eq_decide.mpr (by omega)
/-- Beyond the dimensions nothing is covered. -/
theorem cvs_beyond {ds : Dims} {M v0 v1 v2 v3 : Int} (h : nodeC ds M v0 v1 v2 v3 = true) (hV : ∀ x ∈ [v0, v1, v2, v3], U8 x) {n : Nat} (hn : ds.length ≤ n) (h4 : n ≤ 4) : cvs v0 v1 v2 v3 [tp ds M 0, tp ds M 1, tp ds M 2, tp ds M 3] 4 = cvs v0 v1 v2 v3 [tp ds M 0, tp ds M 1, tp ds M 2, tp ds M 3] n := by
  have hg := nodeC_good h
  have step : ∀ k, ds.length ≤ k → k < 4 → cvs v0 v1 v2 v3 [tp ds M 0, tp ds M 1, tp ds M 2, tp ds M 3] (k + 1) = cvs v0 v1 v2 v3 [tp ds M 0, tp ds M 1, tp ds M 2, tp ds M 3] k := by
    intro k hk hk4
    refine cvs_no ?_
    have ht : [tp ds M 0, tp ds M 1, tp ds M 2, tp ds M 3].getD k 0 = tp ds M k := by
      have : k = 0 ∨ k = 1 ∨ k = 2 ∨ k = 3 := by omega
      rcases this with rfl | rfl | rfl | rfl <;> rfl
    rw [ht, tp_good hg, whl_out hk]
    have := u8_at hV k
    omega
  have : n = 0 ∨ n = 1 ∨ n = 2 ∨ n = 3 ∨ n = 4 := by omega
  rcases this with rfl | rfl | rfl | rfl | rfl
  · rw [step 3 (by omega) (by omega), step 2 (by omega) (by omega), step 1 (by omega) (by omega), step 0 (by omega) (by omega)]
  · rw [step 3 (by omega) (by omega), step 2 (by omega) (by omega), step 1 (by omega) (by omega)]
  · rw [step 3 (by omega) (by omega), step 2 (by omega) (by omega)]
  · rw [step 3 (by omega) (by omega)]
  · rfl

set_option maxHeartbeats 8000000 in
theorem rcovers_any (a : Option Addr) (n c : Nat) (ds : Dims) (M v0 v1 v2 v3 : Int) (w : World) (hc : Cat w a n c ds) (hM : I64 M) (hV : ∀ x ∈ [v0, v1, v2, v3], U8 x) :
    Calls Try.prog 32 #[.agg #[.slice a n c, .int .i64 M], .agg #[.int .u8 v0, .int .u8 v1, .int .u8 v2, .int .u8 v3]] w fun e w' => (∃ v, e = .returned v ∧ w'.ownsRow w.heap.size 36 4 v (covL ds M v0 v1 v2 v3).length (ncells (covL ds M v0 v1 v2 v3))) ∧ Below w.heap.size w w' := by
  obtain ⟨e1, e2⟩ := hc.lens
  have E1 : Hid (n = ds.length) := e1
  have HC : Hid (Cat w a n c ds) := hc
  have HM : Hid (I64 M) := hM
  have HV : Hid (∀ x ∈ [v0, v1, v2, v3], U8 x) := hV
  have NX : Hid (N2 w _ (.slice a n c) (.int .i64 M) [v0, v1, v2, v3]) := n2_new w (.slice a n c) (.int .i64 M) v0 v1 v2 v3
  clear hc hM hV e1
  cases hn : nodeC ds M v0 v1 v2 v3 with
  | false =>
    have HN : Hid (nodeC ds M v0 v1 v2 v3 = false) := hn
    clear hn
    go_enter Try.func32, Try.ntmps32
    go_wp2
    refine wp_loop_rounds 1 ?_
    rw [rounds_succ]
    go_wp2_with (go_at_call 27; refine (rlgood_m _ _ _ _ _ _ _ _ _ _ _ (HC.out.below NX.out.1) HM.out HV.out HN).mono ?_; rintro e w1 ⟨rfl, hb⟩)
    go_ret
    refine ⟨⟨_, rfl, ?_⟩, bt NX.out.1 hb⟩
    unfold covL; rw [HN.out]; exact World.ownsRow_nil _ _ _ _
  | true =>
    have HN : Hid (nodeC ds M v0 v1 v2 v3 = true) := hn
    have HQ : Hid (covL ds M v0 v1 v2 v3 = cvs v0 v1 v2 v3 [tp ds M 0, tp ds M 1, tp ds M 2, tp ds M 3] n) := by
      show _ = _; unfold covL; rw [if_pos hn, cvs_beyond hn HV.out (n := n) (by rw [← E1.out]; exact Nat.le_refl _) (by have := goodC_p (nodeC_good hn); rw [← E1.out] at this; omega)]
    have hgp := goodC_p (nodeC_good hn)
    rw [← E1.out] at hgp
    obtain ⟨n1, n4, _, _, _⟩ := hgp
    have LE := nodeC_le hn
    have b0 := tp_bd ds M 0; have b1 := tp_bd ds M 1; have b2 := tp_bd ds M 2; have b3 := tp_bd ds M 3
    have hV0 := HV.out v0 (by simp); have hV1 := HV.out v1 (by simp); have hV2 := HV.out v2 (by simp); have hV3 := HV.out v3 (by simp)
    unfold U8 at hV0 hV1 hV2 hV3
    have i0 := hid (inc_node0 hn); have i1 := hid (inc_node1 hn); have i2 := hid (inc_node2 hn); have i3 := hid (inc_node3 hn)
    obtain ⟨t0, h0⟩ : ∃ t, tp ds M 0 = t := ⟨_, rfl⟩
    obtain ⟨t1, h1⟩ : ∃ t, tp ds M 1 = t := ⟨_, rfl⟩
    obtain ⟨t2, h2⟩ : ∃ t, tp ds M 2 = t := ⟨_, rfl⟩
    obtain ⟨t3, h3⟩ : ∃ t, tp ds M 3 = t := ⟨_, rfl⟩
    rw [h0] at b0 i0; rw [h1] at b1 i1; rw [h2] at b2 i2; rw [h3] at b3 i3
    rw [h0, h1, h2, h3] at HQ LE
    clear hn h0 h1 h2 h3
    go_enter Try.func32, Try.ntmps32
    go_wp2
    generalize (w.alloc (.cells #[.slice a n c, .int .i64 M] 25)).alloc (.cells #[.int .u8 v0, .int .u8 v1, .int .u8 v2, .int .u8 v3] 36) = W at NX ⊢
    have CS0 : Hid (CovSt W W (.slice none 0 0) []) := hid ⟨Below.refl _ _, World.ownsRow_nil _ _ _ _⟩
    go_loopg [5, 6] 4 (fun gk va vi wr => ∃ (k : Nat) (j : Int), vi = .int .i64 j ∧ Hid (j = k ∧ gk + k = 4 ∧ k ≤ n) ∧ Hid (CovSt W wr va (cvs v0 v1 v2 v3 [t0, t1, t2, t3] k)))
    case atStart => exact ⟨0, 0, rfl, hid (by omega), CS0⟩
    case round =>
      obtain ⟨k, j, rfl, HK, CS⟩ := hrel
      have kb := keep_blk NX.out.2.1 CS.out.1
      have kv := keep_blk NX.out.2.2 CS.out.1
      obtain ⟨c0, c1⟩ := box_two kb
      obtain ⟨x0, x1, x2, x3⟩ := box4 kv
      clear kb kv
      by_cases hlt : k < n
      · have tok : True := trivial
        have hk4 : k = 0 ∨ k = 1 ∨ k = 2 ∨ k = 3 := by omega
        rcases hk4 with rfl | rfl | rfl | rfl
        · obtain rfl : j = 0 := by have := HK.out; omega
          have hkn : (0 : Int) < (n : Int) := by omega
          by_cases hc : v0 < t0
          · have HI : Hid (nodeC ds M (v0 + 1) v1 v2 v3 = true) := hid (by rw [i0.out, decide_eq_true hc])
            go_wp2_with (first
              | (go_at_call 27; clear tok; refine (rlgood_m _ _ _ _ _ _ _ _ _ _ _ (HC.out.below (bt NX.out.1 CS.out.1)) HM.out HV.out HN).mono ?_; rintro e w3 ⟨rfl, hb3⟩; have CS3 := CS.out.step hb3; obtain ⟨p0, p1⟩ := box_two (keep_blk NX.out.2.1 CS3.1); obtain ⟨q0, q1, q2, q3⟩ := box4 (keep_blk NX.out.2.2 CS3.1); have hz3 := heap_lt (keep_blk NX.out.2.2 CS3.1); have hz30 := heap_lt (keep_blk NX.out.2.1 CS3.1); have CS3 := hid CS3; clear hb3)
              | (go_at_call 27; refine (rlgood_m _ _ _ _ _ _ _ _ _ _ _ (HC.out.below (bt NX.out.1 (CS3.out.alloc _).1)) HM.out (by intro x hx; simp at hx; unfold U8; rcases hx with rfl | rfl | rfl | rfl <;> omega) HI).mono ?_; rintro e w4 ⟨rfl, hb4⟩; have CS4 := (CS3.out.alloc _).step hb4; have CS4 := hid CS4; have KC := keep_blk (heap_alloc_new w3 _) hb4; obtain ⟨r0, r1, r2, r3⟩ := box4 KC; have hz4 := heap_lt KC; clear hb4 KC)
              | (at_builtin; refine append_four Try.underlying42 info_node (by decide) (by decide) rfl (.tmp 29) (.tmp 31) rfl W.heap.size (cvs v0 v1 v2 v3 [t0, t1, t2, t3] 0).length _ (v0 + 1) v1 v2 v3 (cvs v0 v1 v2 v3 [t0, t1, t2, t3] 0) _ rfl rfl CS4.out.2 rfl (by have := cvs_len v0 v1 v2 v3 [t0, t1, t2, t3] 0; omega) CS4.out.1.size ?_; rintro v5 w5 ho5 ⟨g, cap, rfl, hgc⟩ hgr5; have HO5 := hid ho5; have HG5 := hid hgr5; clear ho5 hgr5))
            go_roundg (gk - 1)
            case measure => have := HK.out; omega
            case rel =>
              refine ⟨0 + 1, 0 + 1, rfl, hid (by have := HK.out; omega), hid ?_⟩
              have hcv : cvs v0 v1 v2 v3 [t0, t1, t2, t3] (0 + 1) = cvs v0 v1 v2 v3 [t0, t1, t2, t3] 0 ++ [((v0 + 1), v1, v2, v3)] := cvs_yes hc
              rw [hcv]
              exact cov_step0 CS4.out HO5.out HG5.out
          · have HI : Hid (nodeC ds M (v0 + 1) v1 v2 v3 = false) := hid (by rw [i0.out, decide_eq_false hc])
            go_wp2_with (first
              | (go_at_call 27; clear tok; refine (rlgood_m _ _ _ _ _ _ _ _ _ _ _ (HC.out.below (bt NX.out.1 CS.out.1)) HM.out HV.out HN).mono ?_; rintro e w3 ⟨rfl, hb3⟩; have CS3 := CS.out.step hb3; obtain ⟨p0, p1⟩ := box_two (keep_blk NX.out.2.1 CS3.1); obtain ⟨q0, q1, q2, q3⟩ := box4 (keep_blk NX.out.2.2 CS3.1); have hz3 := heap_lt (keep_blk NX.out.2.2 CS3.1); have hz30 := heap_lt (keep_blk NX.out.2.1 CS3.1); have CS3 := hid CS3; clear hb3)
              | (go_at_call 27; refine (rlgood_m _ _ _ _ _ _ _ _ _ _ _ (HC.out.below (bt NX.out.1 (CS3.out.alloc _).1)) HM.out (by intro x hx; simp at hx; unfold U8; rcases hx with rfl | rfl | rfl | rfl <;> omega) HI).mono ?_; rintro e w4 ⟨rfl, hb4⟩; have CS4 := (CS3.out.alloc _).step hb4; have CS4 := hid CS4; have KC := keep_blk (heap_alloc_new w3 _) hb4; obtain ⟨r0, r1, r2, r3⟩ := box4 KC; have hz4 := heap_lt KC; clear hb4 KC))
            go_roundg (gk - 1)
            case measure => have := HK.out; omega
            case rel =>
              refine ⟨0 + 1, 0 + 1, rfl, hid (by have := HK.out; omega), hid ?_⟩
              have hcv : cvs v0 v1 v2 v3 [t0, t1, t2, t3] (0 + 1) = cvs v0 v1 v2 v3 [t0, t1, t2, t3] 0 := cvs_no (by simpa using hc)
              rw [hcv]
              exact CS4.out
        · obtain rfl : j = 1 := by have := HK.out; omega
          have hkn : (1 : Int) < (n : Int) := by omega
          by_cases hc : v1 < t1
          · have HI : Hid (nodeC ds M v0 (v1 + 1) v2 v3 = true) := hid (by rw [i1.out, decide_eq_true hc])
            go_wp2_with (first
              | (go_at_call 27; clear tok; refine (rlgood_m _ _ _ _ _ _ _ _ _ _ _ (HC.out.below (bt NX.out.1 CS.out.1)) HM.out HV.out HN).mono ?_; rintro e w3 ⟨rfl, hb3⟩; have CS3 := CS.out.step hb3; obtain ⟨p0, p1⟩ := box_two (keep_blk NX.out.2.1 CS3.1); obtain ⟨q0, q1, q2, q3⟩ := box4 (keep_blk NX.out.2.2 CS3.1); have hz3 := heap_lt (keep_blk NX.out.2.2 CS3.1); have hz30 := heap_lt (keep_blk NX.out.2.1 CS3.1); have CS3 := hid CS3; clear hb3)
              | (go_at_call 27; refine (rlgood_m _ _ _ _ _ _ _ _ _ _ _ (HC.out.below (bt NX.out.1 (CS3.out.alloc _).1)) HM.out (by intro x hx; simp at hx; unfold U8; rcases hx with rfl | rfl | rfl | rfl <;> omega) HI).mono ?_; rintro e w4 ⟨rfl, hb4⟩; have CS4 := (CS3.out.alloc _).step hb4; have CS4 := hid CS4; have KC := keep_blk (heap_alloc_new w3 _) hb4; obtain ⟨r0, r1, r2, r3⟩ := box4 KC; have hz4 := heap_lt KC; clear hb4 KC)
              | (at_builtin; refine append_four Try.underlying42 info_node (by decide) (by decide) rfl (.tmp 29) (.tmp 31) rfl W.heap.size (cvs v0 v1 v2 v3 [t0, t1, t2, t3] 1).length _ v0 (v1 + 1) v2 v3 (cvs v0 v1 v2 v3 [t0, t1, t2, t3] 1) _ rfl rfl CS4.out.2 rfl (by have := cvs_len v0 v1 v2 v3 [t0, t1, t2, t3] 1; omega) CS4.out.1.size ?_; rintro v5 w5 ho5 ⟨g, cap, rfl, hgc⟩ hgr5; have HO5 := hid ho5; have HG5 := hid hgr5; clear ho5 hgr5))
            go_roundg (gk - 1)
            case measure => have := HK.out; omega
            case rel =>
              refine ⟨1 + 1, 1 + 1, rfl, hid (by have := HK.out; omega), hid ?_⟩
              have hcv : cvs v0 v1 v2 v3 [t0, t1, t2, t3] (1 + 1) = cvs v0 v1 v2 v3 [t0, t1, t2, t3] 1 ++ [(v0, (v1 + 1), v2, v3)] := cvs_yes hc
              rw [hcv]
              exact cov_step0 CS4.out HO5.out HG5.out
          · have HI : Hid (nodeC ds M v0 (v1 + 1) v2 v3 = false) := hid (by rw [i1.out, decide_eq_false hc])
            go_wp2_with (first
              | (go_at_call 27; clear tok; refine (rlgood_m _ _ _ _ _ _ _ _ _ _ _ (HC.out.below (bt NX.out.1 CS.out.1)) HM.out HV.out HN).mono ?_; rintro e w3 ⟨rfl, hb3⟩; have CS3 := CS.out.step hb3; obtain ⟨p0, p1⟩ := box_two (keep_blk NX.out.2.1 CS3.1); obtain ⟨q0, q1, q2, q3⟩ := box4 (keep_blk NX.out.2.2 CS3.1); have hz3 := heap_lt (keep_blk NX.out.2.2 CS3.1); have hz30 := heap_lt (keep_blk NX.out.2.1 CS3.1); have CS3 := hid CS3; clear hb3)
              | (go_at_call 27; refine (rlgood_m _ _ _ _ _ _ _ _ _ _ _ (HC.out.below (bt NX.out.1 (CS3.out.alloc _).1)) HM.out (by intro x hx; simp at hx; unfold U8; rcases hx with rfl | rfl | rfl | rfl <;> omega) HI).mono ?_; rintro e w4 ⟨rfl, hb4⟩; have CS4 := (CS3.out.alloc _).step hb4; have CS4 := hid CS4; have KC := keep_blk (heap_alloc_new w3 _) hb4; obtain ⟨r0, r1, r2, r3⟩ := box4 KC; have hz4 := heap_lt KC; clear hb4 KC))
            go_roundg (gk - 1)
            case measure => have := HK.out; omega
            case rel =>
              refine ⟨1 + 1, 1 + 1, rfl, hid (by have := HK.out; omega), hid ?_⟩
              have hcv : cvs v0 v1 v2 v3 [t0, t1, t2, t3] (1 + 1) = cvs v0 v1 v2 v3 [t0, t1, t2, t3] 1 := cvs_no (by simpa using hc)
              rw [hcv]
              exact CS4.out
        · obtain rfl : j = 2 := by have := HK.out; omega
          have hkn : (2 : Int) < (n : Int) := by omega
          by_cases hc : v2 < t2
          · have HI : Hid (nodeC ds M v0 v1 (v2 + 1) v3 = true) := hid (by rw [i2.out, decide_eq_true hc])
            go_wp2_with (first
              | (go_at_call 27; clear tok; refine (rlgood_m _ _ _ _ _ _ _ _ _ _ _ (HC.out.below (bt NX.out.1 CS.out.1)) HM.out HV.out HN).mono ?_; rintro e w3 ⟨rfl, hb3⟩; have CS3 := CS.out.step hb3; obtain ⟨p0, p1⟩ := box_two (keep_blk NX.out.2.1 CS3.1); obtain ⟨q0, q1, q2, q3⟩ := box4 (keep_blk NX.out.2.2 CS3.1); have hz3 := heap_lt (keep_blk NX.out.2.2 CS3.1); have hz30 := heap_lt (keep_blk NX.out.2.1 CS3.1); have CS3 := hid CS3; clear hb3)
              | (go_at_call 27; refine (rlgood_m _ _ _ _ _ _ _ _ _ _ _ (HC.out.below (bt NX.out.1 (CS3.out.alloc _).1)) HM.out (by intro x hx; simp at hx; unfold U8; rcases hx with rfl | rfl | rfl | rfl <;> omega) HI).mono ?_; rintro e w4 ⟨rfl, hb4⟩; have CS4 := (CS3.out.alloc _).step hb4; have CS4 := hid CS4; have KC := keep_blk (heap_alloc_new w3 _) hb4; obtain ⟨r0, r1, r2, r3⟩ := box4 KC; have hz4 := heap_lt KC; clear hb4 KC)
              | (at_builtin; refine append_four Try.underlying42 info_node (by decide) (by decide) rfl (.tmp 29) (.tmp 31) rfl W.heap.size (cvs v0 v1 v2 v3 [t0, t1, t2, t3] 2).length _ v0 v1 (v2 + 1) v3 (cvs v0 v1 v2 v3 [t0, t1, t2, t3] 2) _ rfl rfl CS4.out.2 rfl (by have := cvs_len v0 v1 v2 v3 [t0, t1, t2, t3] 2; omega) CS4.out.1.size ?_; rintro v5 w5 ho5 ⟨g, cap, rfl, hgc⟩ hgr5; have HO5 := hid ho5; have HG5 := hid hgr5; clear ho5 hgr5))
            go_roundg (gk - 1)
            case measure => have := HK.out; omega
            case rel =>
              refine ⟨2 + 1, 2 + 1, rfl, hid (by have := HK.out; omega), hid ?_⟩
              have hcv : cvs v0 v1 v2 v3 [t0, t1, t2, t3] (2 + 1) = cvs v0 v1 v2 v3 [t0, t1, t2, t3] 2 ++ [(v0, v1, (v2 + 1), v3)] := cvs_yes hc
              rw [hcv]
              exact cov_step0 CS4.out HO5.out HG5.out
          · have HI : Hid (nodeC ds M v0 v1 (v2 + 1) v3 = false) := hid (by rw [i2.out, decide_eq_false hc])
            go_wp2_with (first
              | (go_at_call 27; clear tok; refine (rlgood_m _ _ _ _ _ _ _ _ _ _ _ (HC.out.below (bt NX.out.1 CS.out.1)) HM.out HV.out HN).mono ?_; rintro e w3 ⟨rfl, hb3⟩; have CS3 := CS.out.step hb3; obtain ⟨p0, p1⟩ := box_two (keep_blk NX.out.2.1 CS3.1); obtain ⟨q0, q1, q2, q3⟩ := box4 (keep_blk NX.out.2.2 CS3.1); have hz3 := heap_lt (keep_blk NX.out.2.2 CS3.1); have hz30 := heap_lt (keep_blk NX.out.2.1 CS3.1); have CS3 := hid CS3; clear hb3)
              | (go_at_call 27; refine (rlgood_m _ _ _ _ _ _ _ _ _ _ _ (HC.out.below (bt NX.out.1 (CS3.out.alloc _).1)) HM.out (by intro x hx; simp at hx; unfold U8; rcases hx with rfl | rfl | rfl | rfl <;> omega) HI).mono ?_; rintro e w4 ⟨rfl, hb4⟩; have CS4 := (CS3.out.alloc _).step hb4; have CS4 := hid CS4; have KC := keep_blk (heap_alloc_new w3 _) hb4; obtain ⟨r0, r1, r2, r3⟩ := box4 KC; have hz4 := heap_lt KC; clear hb4 KC))
            go_roundg (gk - 1)
            case measure => have := HK.out; omega
            case rel =>
              refine ⟨2 + 1, 2 + 1, rfl, hid (by have := HK.out; omega), hid ?_⟩
              have hcv : cvs v0 v1 v2 v3 [t0, t1, t2, t3] (2 + 1) = cvs v0 v1 v2 v3 [t0, t1, t2, t3] 2 := cvs_no (by simpa using hc)
              rw [hcv]
              exact CS4.out
        · obtain rfl : j = 3 := by have := HK.out; omega
          have hkn : (3 : Int) < (n : Int) := by omega
          by_cases hc : v3 < t3
          · have HI : Hid (nodeC ds M v0 v1 v2 (v3 + 1) = true) := hid (by rw [i3.out, decide_eq_true hc])
            go_wp2_with (first
              | (go_at_call 27; clear tok; refine (rlgood_m _ _ _ _ _ _ _ _ _ _ _ (HC.out.below (bt NX.out.1 CS.out.1)) HM.out HV.out HN).mono ?_; rintro e w3 ⟨rfl, hb3⟩; have CS3 := CS.out.step hb3; obtain ⟨p0, p1⟩ := box_two (keep_blk NX.out.2.1 CS3.1); obtain ⟨q0, q1, q2, q3⟩ := box4 (keep_blk NX.out.2.2 CS3.1); have hz3 := heap_lt (keep_blk NX.out.2.2 CS3.1); have hz30 := heap_lt (keep_blk NX.out.2.1 CS3.1); have CS3 := hid CS3; clear hb3)
              | (go_at_call 27; refine (rlgood_m _ _ _ _ _ _ _ _ _ _ _ (HC.out.below (bt NX.out.1 (CS3.out.alloc _).1)) HM.out (by intro x hx; simp at hx; unfold U8; rcases hx with rfl | rfl | rfl | rfl <;> omega) HI).mono ?_; rintro e w4 ⟨rfl, hb4⟩; have CS4 := (CS3.out.alloc _).step hb4; have CS4 := hid CS4; have KC := keep_blk (heap_alloc_new w3 _) hb4; obtain ⟨r0, r1, r2, r3⟩ := box4 KC; have hz4 := heap_lt KC; clear hb4 KC)
              | (at_builtin; refine append_four Try.underlying42 info_node (by decide) (by decide) rfl (.tmp 29) (.tmp 31) rfl W.heap.size (cvs v0 v1 v2 v3 [t0, t1, t2, t3] 3).length _ v0 v1 v2 (v3 + 1) (cvs v0 v1 v2 v3 [t0, t1, t2, t3] 3) _ rfl rfl CS4.out.2 rfl (by have := cvs_len v0 v1 v2 v3 [t0, t1, t2, t3] 3; omega) CS4.out.1.size ?_; rintro v5 w5 ho5 ⟨g, cap, rfl, hgc⟩ hgr5; have HO5 := hid ho5; have HG5 := hid hgr5; clear ho5 hgr5))
            go_roundg (gk - 1)
            case measure => have := HK.out; omega
            case rel =>
              refine ⟨3 + 1, 3 + 1, rfl, hid (by have := HK.out; omega), hid ?_⟩
              have hcv : cvs v0 v1 v2 v3 [t0, t1, t2, t3] (3 + 1) = cvs v0 v1 v2 v3 [t0, t1, t2, t3] 3 ++ [(v0, v1, v2, (v3 + 1))] := cvs_yes hc
              rw [hcv]
              exact cov_step0 CS4.out HO5.out HG5.out
          · have HI : Hid (nodeC ds M v0 v1 v2 (v3 + 1) = false) := hid (by rw [i3.out, decide_eq_false hc])
            go_wp2_with (first
              | (go_at_call 27; clear tok; refine (rlgood_m _ _ _ _ _ _ _ _ _ _ _ (HC.out.below (bt NX.out.1 CS.out.1)) HM.out HV.out HN).mono ?_; rintro e w3 ⟨rfl, hb3⟩; have CS3 := CS.out.step hb3; obtain ⟨p0, p1⟩ := box_two (keep_blk NX.out.2.1 CS3.1); obtain ⟨q0, q1, q2, q3⟩ := box4 (keep_blk NX.out.2.2 CS3.1); have hz3 := heap_lt (keep_blk NX.out.2.2 CS3.1); have hz30 := heap_lt (keep_blk NX.out.2.1 CS3.1); have CS3 := hid CS3; clear hb3)
              | (go_at_call 27; refine (rlgood_m _ _ _ _ _ _ _ _ _ _ _ (HC.out.below (bt NX.out.1 (CS3.out.alloc _).1)) HM.out (by intro x hx; simp at hx; unfold U8; rcases hx with rfl | rfl | rfl | rfl <;> omega) HI).mono ?_; rintro e w4 ⟨rfl, hb4⟩; have CS4 := (CS3.out.alloc _).step hb4; have CS4 := hid CS4; have KC := keep_blk (heap_alloc_new w3 _) hb4; obtain ⟨r0, r1, r2, r3⟩ := box4 KC; have hz4 := heap_lt KC; clear hb4 KC))
            go_roundg (gk - 1)
            case measure => have := HK.out; omega
            case rel =>
              refine ⟨3 + 1, 3 + 1, rfl, hid (by have := HK.out; omega), hid ?_⟩
              have hcv : cvs v0 v1 v2 v3 [t0, t1, t2, t3] (3 + 1) = cvs v0 v1 v2 v3 [t0, t1, t2, t3] 3 := cvs_no (by simpa using hc)
              rw [hcv]
              exact CS4.out
      · obtain rfl : k = n := by have := HK.out; omega
        obtain rfl : j = k := HK.out.1
        go_wp2_with (go_at_call 27; refine (rlgood_m _ _ _ _ _ _ _ _ _ _ _ (HC.out.below (bt NX.out.1 CS.out.1)) HM.out HV.out HN).mono ?_; rintro e w3 ⟨rfl, hb3⟩; have CS3 := CS.out.step hb3; obtain ⟨p0, p1⟩ := box_two (keep_blk NX.out.2.1 CS3.1); have CS3 := hid CS3; clear hb3)
        go_ret
        have := cov_done CS3.out NX.out.1
        rw [HQ.out]
        exact ⟨⟨_, rfl, this.1⟩, this.2⟩

end Go.Proofs.Ytmlnfpefemchhaa

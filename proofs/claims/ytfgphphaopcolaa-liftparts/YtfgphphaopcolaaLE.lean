/-
  What the document's own Good, Whole return.
  Conditions: as each theorem states them.
-/
import Derived.Test.YtfgphphaopcolaaLD
namespace Go.Proofs.Ytfgphphaopcolaa
open Go.ChangeShapes Go.WideShapes Go.ChangeAt Go.RowKit
set_option linter.unusedVariables false
set_option linter.unusedSimpArgs false

/-- A node is one of a catalog's. -/
def nodeC (ds : Dims) (M v0 v1 v2 v3 : Int) : Bool := goodC ds M && bel v0 v1 v2 v3 (tp ds M 0) (tp ds M 1) (tp ds M 2) (tp ds M 3)
theorem mem_pos {ds : Dims} {M : Int} (h : goodC ds M = true) (k : Nat) {v : Int} (hv : 0 ≤ v) : 0 < memC ds k v ↔ v ≤ whl ds k := by
  by_cases hk : k < ds.length
  · have hg := dims_good (S := (ds.getD k ([], [])).1) (U := (ds.getD k ([], [])).2) h hk rfl
    rw [memC_at (S := (ds.getD k ([], [])).1) (U := (ds.getD k ([], [])).2) hk rfl, whl_at (S := (ds.getD k ([], [])).1) (U := (ds.getD k ([], [])).2) hk rfl]
    constructor
    · intro h0
      exact (size_in (S := (ds.getD k ([], [])).1) (U := (ds.getD k ([], [])).2) (lv := v) (by omega)).2.2
    · intro h0
      have := size_pos hg hv h0
      omega
  · rw [whl_out (by omega)]
    by_cases h0 : v = 0
    · rw [memC_0 hk h0]; omega
    · rw [memC_1 hk h0]; omega
theorem right_node {ds : Dims} {M v0 v1 v2 v3 : Int} (hV : ∀ x ∈ [v0, v1, v2, v3], U8 x) : rightC ds M [v0, v1, v2, v3] [0, 0, 0, 0] = nodeC ds M v0 v1 v2 v3 := by
  unfold nodeC
  cases h : goodC ds M with
  | false => rw [rightC_bad h]; rfl
  | true =>
    have p0 := (hV v0 (by simp)).1
    have p1 := (hV v1 (by simp)).1
    have p2 := (hV v2 (by simp)).1
    have p3 := (hV v3 (by simp)).1
    have m0 := mem_pos h 0 p0
    have m1 := mem_pos h 1 p1
    have m2 := mem_pos h 2 p2
    have m3 := mem_pos h 3 p3
    unfold rightC bel
    rw [tp_good h, tp_good h, tp_good h, tp_good h, h, Bool.true_and, Bool.true_and]
    refine decide_eq_decide.mpr ?_
    unfold RightP
    constructor
    · intro g
      have g0 := g 0 (by omega); have g1 := g 1 (by omega); have g2 := g 2 (by omega); have g3 := g 3 (by omega)
      simp at g0 g1 g2 g3
      exact ⟨m0.mp g0, m1.mp g1, m2.mp g2, m3.mp g3⟩
    · rintro ⟨g0, g1, g2, g3⟩ i hi
      have : i = 0 ∨ i = 1 ∨ i = 2 ∨ i = 3 := by omega
      rcases this with rfl | rfl | rfl | rfl
      · simpa using m0.mpr g0
      · simpa using m1.mpr g1
      · simpa using m2.mpr g2
      · simpa using m3.mpr g3

set_option maxHeartbeats 4000000 in
theorem rlgood_any (a : Option Addr) (n c : Nat) (ds : Dims) (M v0 v1 v2 v3 : Int) (w : World) (hc : Cat w a n c ds) (hM : I64 M) (hV : ∀ x ∈ [v0, v1, v2, v3], U8 x) :
    Calls Try.prog 18 #[.agg #[.slice a n c, .int .i64 M], .agg #[.int .u8 v0, .int .u8 v1, .int .u8 v2, .int .u8 v3]] w fun e w' => e = .returned (.bool (nodeC ds M v0 v1 v2 v3)) ∧ Below w.heap.size w w' := by
  rw [← right_node hV]
  have HC : Hid (Cat w a n c ds) := hc
  have HM : Hid (I64 M) := hM
  have HV : Hid (∀ x ∈ [v0, v1, v2, v3], U8 x) := hV
  have HZ : Hid (∀ x ∈ [(0 : Int), 0, 0, 0], U8 x) := by intro x hx; simp at hx; subst hx; unfold U8; decide
  clear hc hM hV
  go_enter Try.func18, Try.ntmps18
  go_wp2_with (go_at_call 19; refine (rright_any _ _ _ _ _ _ _ _ _ _ _ _ _ _ (HC.out.below (bx2 _ _ _ _ _)) HM.out HV.out HZ.out).mono ?_; rintro e w1 ⟨rfl, hb⟩)
  go_ret
  exact ⟨rfl, (bx2 _ _ _ _ _).trans (hb.mono (by simp; omega))⟩

set_option maxHeartbeats 4000000 in
theorem rwhole_any (a : Option Addr) (n c : Nat) (ds : Dims) (M : Int) (w : World) (hc : Cat w a n c ds) (hM : I64 M) :
    Calls Try.prog 20 #[.agg #[.slice a n c, .int .i64 M]] w fun e w' => e = .returned (.agg #[.int .u8 (tp ds M 0), .int .u8 (tp ds M 1), .int .u8 (tp ds M 2), .int .u8 (tp ds M 3)]) ∧ Below w.heap.size w w' := by
  obtain ⟨e1, e2⟩ := hc.lens
  have E1 : Hid (n = ds.length) := e1
  have HC : Hid (Cat w a n c ds) := hc
  have HM : Hid (I64 M) := hM
  have TX : Hid (T4 w _ (.slice a n c) (.int .i64 M) _ _) := t4_new w (.slice a n c) (.int .i64 M)
  clear e1 hc hM
  cases hg : goodC ds M with
  | false =>
    rw [tp_bad hg, tp_bad hg, tp_bad hg, tp_bad hg]
    go_enter Try.func20, Try.ntmps20
    go_wp2
    refine wp_loop_rounds 1 ?_
    rw [rounds_succ]
    go_wp2_with (go_at_call 38; refine (rgoodC_any _ _ _ _ _ _ (HC.out.below TX.out.1) HM.out).mono ?_; rintro e w1 ⟨rfl, hb⟩; have TX1 := TX.out.step hb; obtain ⟨d0, d1, d2, d3⟩ := box4 TX1.2.2.1; obtain ⟨c0, c1, c2, c3⟩ := box4 TX1.2.2.2; obtain ⟨f0, f1, f2, f3⟩ := froz4 TX1.2.2.1; have TX1 := hid TX1)
    obtain ⟨r0, r1, r2, r3⟩ := box4 (store4 TX1.out.2.2.1 (.int .u8 0) (.int .u8 0) (.int .u8 0) (.int .u8 0))
    exact bodyPost_ret (v := .agg #[.int .u8 0, .int .u8 0, .int .u8 0, .int .u8 0]) (by simp [results, Try.results20, go_sem, r0, r1, r2, r3]) rfl ⟨rfl, below4 TX1.out.1 (by omega) _ _ _ _⟩
  | true =>
    have HG : Hid (goodC ds M = true) := hg
    rw [tp_good hg, tp_good hg, tp_good hg, tp_good hg]
    have hn := goodC_p hg
    rw [← E1.out] at hn
    obtain ⟨n1, n4, _, _, _⟩ := hn
    go_enter Try.func20, Try.ntmps20
    go_wp2
    go_loopw [4] (fun i wr => ∃ k : Nat, k ≤ n ∧ i = .int .i64 k ∧ Hid (T4 w wr (.slice a n c) (.int .i64 M) #[.int .u8 0, .int .u8 0, .int .u8 0, .int .u8 0] #[.int .u8 (pre ds k 0), .int .u8 (pre ds k 1), .int .u8 (pre ds k 2), .int .u8 (pre ds k 3)])) (fun i _ => n - (intOf i).toNat)
    case atStart => exact ⟨0, by omega, rfl, TX⟩
    case round =>
      obtain ⟨k, hk, rfl, TX2⟩ := hrel
      obtain ⟨p0, p1⟩ := box_two TX2.out.2.1
      by_cases hlt : k < n
      · have hkn : (k : Int) < (n : Int) := by omega
        have hk4 : (k : Int) < 4 := by omega
        obtain ⟨b, off, hab, hb0⟩ : ∃ b off, a = some ⟨b, off, none⟩ ∧ b < w.heap.size := by
          obtain ⟨b, off, h1, h2, _⟩ := HC.out.get (Below.refl _ _) hlt
          exact ⟨b, off, h1, h2⟩
        subst hab
        go_wp2_with (go_at_call 38; refine (rgoodC_any _ _ _ _ _ _ (HC.out.below TX2.out.1) HM.out).mono ?_; rintro e w1 ⟨rfl, hb⟩; have TX3 := TX2.out.step hb; obtain ⟨c0, c1⟩ := box_two TX3.2.1; obtain ⟨qv, q0⟩ := cell_in4 TX3.2.2.2 (k := k) (by omega); have f0 := frozen_of_row w1 (w.heap.size + 2) k _ _ TX3.2.2.2; obtain ⟨b', off', hab, hb1, sa, sl, sc, ua, ul, uc, S, U, d1, d2, HDm, HSU⟩ := HC.out.get TX3.1 hlt; cases hab; have hw := whl_at (by rw [← E1.out]; exact hlt) HSU.out; have wb := whl_bd HG.out k; rw [hw] at wb; obtain ⟨l1, _, _, _⟩ := HDm.out.lens; rw [← l1] at hw wb; have HW : Hid (whl ds k = sl) := hw; have wl : IntKind.u8.wrap (sl : Int) = sl := IntWalk.u8_in _ (by omega); have hbw : b < w1.heap.size := (Nat.lt_of_lt_of_le hb0 TX3.1.size); have TX3 := hid TX3; clear hw l1)
        go_roundw
        case rel =>
          refine ⟨k + 1, by omega, by go_num, hid ?_⟩
          exact TX3.out.put k _ (pre_put (by omega) sl HW.out)
        case measure => simp [intOf]; omega
      · obtain rfl : k = n := by omega
        go_wp2_with (go_at_call 38; refine (rgoodC_any _ _ _ _ _ _ (HC.out.below TX2.out.1) HM.out).mono ?_; rintro e w1 ⟨rfl, hb⟩; have TX3 := TX2.out.step hb; obtain ⟨c0, c1⟩ := box_two TX3.2.1; obtain ⟨q0, q1, q2, q3⟩ := box4 TX3.2.2.2; obtain ⟨g0, g1, g2, g3⟩ := box4 TX3.2.2.1; obtain ⟨f0, f1, f2, f3⟩ := froz4 TX3.2.2.1; have TX3 := hid TX3)
        obtain ⟨r0, r1, r2, r3⟩ := box4 (store4 TX3.out.2.2.1 (.int .u8 (pre ds k 0)) (.int .u8 (pre ds k 1)) (.int .u8 (pre ds k 2)) (.int .u8 (pre ds k 3)))
        refine bodyPost_ret (v := .agg #[.int .u8 (pre ds k 0), .int .u8 (pre ds k 1), .int .u8 (pre ds k 2), .int .u8 (pre ds k 3)]) (by simp [results, Try.results20, go_sem, r0, r1, r2, r3]) rfl ⟨?_, below4 TX3.out.1 (by omega) _ _ _ _⟩
        rw [pre_all E1.out, pre_all E1.out, pre_all E1.out, pre_all E1.out]

end Go.Proofs.Ytfgphphaopcolaa

/-
  Carried twice is carried once: the walk of the law LiftTwice.
  Conditions: as each theorem states them.
-/
import Derived.Test.YtfgphphaopcolaaWM
namespace Go.Proofs.Ytfgphphaopcolaa
open Go.ChangeShapes Go.WideShapes Go.ChangeAt Go.RowKit
set_option linter.unusedVariables false
set_option linter.unusedSimpArgs false

/-- Blocks that are kept behind a world. -/
def St (w wr : World) (L : List (Nat × Array Value × TypeId)) : Prop := Below w.heap.size w wr ∧ ∀ (i : Nat) p, L[i]? = some p → wr.heap[p.1]? = some (.cells p.2.1 p.2.2)
theorem St.step {w wr w' : World} {L : List (Nat × Array Value × TypeId)} (h : St w wr L) (hb : Below wr.heap.size wr w') : St w w' L := ⟨bt h.1 hb, fun i p hp => keep_blk (h.2 i p hp) hb⟩
theorem St.new {w wr : World} {L : List (Nat × Array Value × TypeId)} (h : St w wr L) (cs : Array Value) (t : TypeId) : St w (wr.alloc (.cells cs t)) ((wr.heap.size, cs, t) :: L) := by
  refine ⟨bt h.1 ((Below.refl _ _).alloc (Nat.le_refl _) _), fun i p hp => ?_⟩
  cases i with
  | zero => simp at hp; subst hp; exact heap_alloc_new _ _
  | succ i => exact keep_blk (h.2 i p (by simpa using hp)) ((Below.refl _ _).alloc (Nat.le_refl _) _)
theorem st_set4 {w wr : World} {L : List (Nat × Array Value × TypeId)} (h : St w wr L) {B : Nat} (hB : ∀ (i : Nat) p, L[i]? = some p → p.1 < B) (hw : w.heap.size ≤ B) {a b c d : Value} :
    St w ((((wr.setCell ⟨B, 0, none⟩ a).setCell ⟨B, 1, none⟩ b).setCell ⟨B, 2, none⟩ c).setCell ⟨B, 3, none⟩ d) L := by
  refine ⟨below4 h.1 hw a b c d, fun i p hp => ?_⟩
  have := hB i p hp
  rw [Below.heap_setCell _ _ _ _ (by simp; omega), Below.heap_setCell _ _ _ _ (by simp; omega), Below.heap_setCell _ _ _ _ (by simp; omega), Below.heap_setCell _ _ _ _ (by simp; omega)]
  exact h.2 i p hp
theorem st_start (w : World) (cs : Array Value) (t : TypeId) : St w (w.alloc (.cells cs t)) [(w.heap.size, cs, t)] := by
  refine ⟨(Below.refl _ _).alloc (Nat.le_refl _) _, fun i p hp => ?_⟩
  cases i with
  | zero => simp at hp; subst hp; exact heap_alloc_new _ _
  | succ i => simp at hp
theorem rmeet_m (a0 a1 a2 a3 b0 b1 b2 b3 m0 m1 m2 m3 : Int) (w : World) (h : Hid (mn a0 b0 = m0 ∧ mn a1 b1 = m1 ∧ mn a2 b2 = m2 ∧ mn a3 b3 = m3)) :
    Calls Try.prog 10 #[.agg #[.int .u8 a0, .int .u8 a1, .int .u8 a2, .int .u8 a3], .agg #[.int .u8 b0, .int .u8 b1, .int .u8 b2, .int .u8 b3]] w
      fun e w' => e = .returned (.agg #[.int .u8 m0, .int .u8 m1, .int .u8 m2, .int .u8 m3]) ∧ Below w.heap.size w w' := by
  have := rmeet_any a0 a1 a2 a3 b0 b1 b2 b3 w
  obtain ⟨rfl, rfl, rfl, rfl⟩ := h.out
  exact this
theorem rwhole_m (a : Option Addr) (n c : Nat) (ds : Dims) (M t0 t1 t2 t3 : Int) (w : World) (hc : Cat w a n c ds) (hM : I64 M) (h : Hid (tp ds M 0 = t0 ∧ tp ds M 1 = t1 ∧ tp ds M 2 = t2 ∧ tp ds M 3 = t3)) :
    Calls Try.prog 20 #[.agg #[.slice a n c, .int .i64 M]] w fun e w' => e = .returned (.agg #[.int .u8 t0, .int .u8 t1, .int .u8 t2, .int .u8 t3]) ∧ Below w.heap.size w w' := by
  have := rwhole_any a n c ds M w hc hM
  obtain ⟨rfl, rfl, rfl, rfl⟩ := h.out
  exact this

set_option maxHeartbeats 32000000 in
set_option maxRecDepth 100000 in
theorem twice_walk (a : Option Addr) (n c : Nat) (ds : Dims) (M u0 u1 u2 u3 v0 v1 v2 v3 z0 z1 z2 z3 x0 x1 x2 x3 : Int) (w : World) (hc : Cat w a n c ds) (hM : I64 M) (hu : ∀ y ∈ [u0, u1, u2, u3], U8 y) (hv : ∀ y ∈ [v0, v1, v2, v3], U8 y) (hz : ∀ y ∈ [z0, z1, z2, z3], U8 y) (hx : ∀ y ∈ [x0, x1, x2, x3], U8 y) :
    Calls Try.prog 4 #[.agg (way a n c M u0 u1 u2 u3 v0 v1 v2 v3 z0 z1 z2 z3 x0 x1 x2 x3)] w fun e w' => e = .returned (.bool true) ∧ Below w.heap.size w w' := by
  unfold way
  have HC := hid hc
  have HM := hid hM
  have HU := hid hu
  have HV := hid hv
  have HX := hid hx
  have S0 := hid (st_start w (way a n c M u0 u1 u2 u3 v0 v1 v2 v3 z0 z1 z2 z3 x0 x1 x2 x3) 48)
  obtain ⟨b0, h0⟩ : ∃ y, mn u0 v0 = y := ⟨_, rfl⟩
  obtain ⟨b1, h1⟩ : ∃ y, mn u1 v1 = y := ⟨_, rfl⟩
  obtain ⟨b2, h2⟩ : ∃ y, mn u2 v2 = y := ⟨_, rfl⟩
  obtain ⟨b3, h3⟩ : ∃ y, mn u3 v3 = y := ⟨_, rfl⟩
  obtain ⟨a0, g0⟩ : ∃ y, mn b0 z0 = y := ⟨_, rfl⟩
  obtain ⟨a1, g1⟩ : ∃ y, mn b1 z1 = y := ⟨_, rfl⟩
  obtain ⟨a2, g2⟩ : ∃ y, mn b2 z2 = y := ⟨_, rfl⟩
  obtain ⟨a3, g3⟩ : ∃ y, mn b3 z3 = y := ⟨_, rfl⟩
  have HB := hid (show mn u0 v0 = b0 ∧ mn u1 v1 = b1 ∧ mn u2 v2 = b2 ∧ mn u3 v3 = b3 from ⟨h0, h1, h2, h3⟩)
  have HA := hid (show mn b0 z0 = a0 ∧ mn b1 z1 = a1 ∧ mn b2 z2 = a2 ∧ mn b3 z3 = a3 from ⟨g0, g1, g2, g3⟩)
  have UB : Hid (∀ y ∈ [b0, b1, b2, b3], U8 y) := hid (by rw [← h0, ← h1, ← h2, ← h3]; exact mn4_u8 hu hv)
  have UA : Hid (∀ y ∈ [a0, a1, a2, a3], U8 y) := hid (by rw [← g0, ← g1, ← g2, ← g3]; exact mn4_u8 UB.out hz)
  have BBU : Hid (bel b0 b1 b2 b3 u0 u1 u2 u3 = true) := hid (by rw [← h0, ← h1, ← h2, ← h3]; exact bel_mn.1)
  have BAB : Hid (bel a0 a1 a2 a3 b0 b1 b2 b3 = true) := hid (by rw [← g0, ← g1, ← g2, ← g3]; exact bel_mn.1)
  clear h0 h1 h2 h3 g0 g1 g2 g3 hc hM hu hv hz hx
  have tk1 : True := trivial
  have tk2 : True := trivial
  have tk3 : True := trivial
  have tk4 : True := trivial
  have tk5 : True := trivial
  have tk6 : True := trivial
  cases hn1 : nodeC ds M u0 u1 u2 u3 with
  | false =>
    have HN1 := hid hn1
    clear hn1
    go_enter Try.func4, Try.ntmps4
    go_wp2_with (first
      | (go_at_call 10; clear tk1; refine (rmeet_m _ _ _ _ _ _ _ _ b0 b1 b2 b3 _ HB).mono ?_; rintro e w1 ⟨rfl, hb1⟩; have T1 := hid (S0.out.step hb1); obtain ⟨_, _, _, ⟨pz0, pz1, pz2, pz3⟩, _⟩ := way_cells (T1.out.2 0 _ rfl); have lt1 := heap_lt (T1.out.2 0 _ rfl); have S1 := hid (T1.out.new #[.int .u8 b0, .int .u8 b1, .int .u8 b2, .int .u8 b3] 26))
      | (go_at_call 10; refine (rmeet_m _ _ _ _ _ _ _ _ a0 a1 a2 a3 _ HA).mono ?_; rintro e w2 ⟨rfl, hb2⟩; have T2 := hid (S1.out.step hb2); obtain ⟨⟨qc0, qc1⟩, ⟨qu0, qu1, qu2, qu3⟩, _, _, _⟩ := way_cells (T2.out.2 1 _ rfl); have lt2 := heap_lt (T2.out.2 1 _ rfl); have S2 := hid (T2.out.new #[.int .u8 a0, .int .u8 a1, .int .u8 a2, .int .u8 a3] 26))
      | (go_at_call 18; refine (rlgood_m _ _ _ _ _ _ _ _ _ _ _ (HC.out.below S2.out.1) HM.out HU.out HN1).mono ?_; rintro e w3 ⟨rfl, hb3⟩; have S3 := hid (S2.out.step hb3); skip)
      | (go_at_call 9; refine (wakes6 _).mono ?_; rintro e w9 ⟨rfl, hb9⟩))
    go_ret
    exact ⟨rfl, bt S3.out.1 hb9⟩
  | true =>
    have HN1 := hid hn1
    clear hn1
    cases hn2 : nodeC ds M v0 v1 v2 v3 with
    | false =>
      have HN2 := hid hn2
      clear hn2
      go_enter Try.func4, Try.ntmps4
      go_wp2_with (first
        | (go_at_call 10; clear tk1; refine (rmeet_m _ _ _ _ _ _ _ _ b0 b1 b2 b3 _ HB).mono ?_; rintro e w1 ⟨rfl, hb1⟩; have T1 := hid (S0.out.step hb1); obtain ⟨_, _, _, ⟨pz0, pz1, pz2, pz3⟩, _⟩ := way_cells (T1.out.2 0 _ rfl); have lt1 := heap_lt (T1.out.2 0 _ rfl); have S1 := hid (T1.out.new #[.int .u8 b0, .int .u8 b1, .int .u8 b2, .int .u8 b3] 26))
        | (go_at_call 10; refine (rmeet_m _ _ _ _ _ _ _ _ a0 a1 a2 a3 _ HA).mono ?_; rintro e w2 ⟨rfl, hb2⟩; have T2 := hid (S1.out.step hb2); obtain ⟨⟨qc0, qc1⟩, ⟨qu0, qu1, qu2, qu3⟩, _, _, _⟩ := way_cells (T2.out.2 1 _ rfl); have lt2 := heap_lt (T2.out.2 1 _ rfl); have S2 := hid (T2.out.new #[.int .u8 a0, .int .u8 a1, .int .u8 a2, .int .u8 a3] 26))
        | (go_at_call 18; clear tk2; refine (rlgood_m _ _ _ _ _ _ _ _ _ _ _ (HC.out.below S2.out.1) HM.out HU.out HN1).mono ?_; rintro e w3 ⟨rfl, hb3⟩; have S3 := hid (S2.out.step hb3); obtain ⟨⟨rc0, rc1⟩, _, ⟨rv0, rv1, rv2, rv3⟩, _, _⟩ := way_cells (S3.out.2 2 _ rfl))
        | (go_at_call 18; refine (rlgood_m _ _ _ _ _ _ _ _ _ _ _ (HC.out.below S3.out.1) HM.out HV.out HN2).mono ?_; rintro e w4 ⟨rfl, hb4⟩; have S4 := hid (S3.out.step hb4); skip)
        | (go_at_call 9; refine (wakes6 _).mono ?_; rintro e w9 ⟨rfl, hb9⟩))
      go_ret
      exact ⟨rfl, bt S4.out.1 hb9⟩
    | true =>
      have HN2 := hid hn2
      clear hn2
      cases hr : rightC ds M [a0, a1, a2, a3] [x0, x1, x2, x3] with
      | false =>
        have HR := hid hr
        clear hr
        go_enter Try.func4, Try.ntmps4
        go_wp2_with (first
          | (go_at_call 10; clear tk1; refine (rmeet_m _ _ _ _ _ _ _ _ b0 b1 b2 b3 _ HB).mono ?_; rintro e w1 ⟨rfl, hb1⟩; have T1 := hid (S0.out.step hb1); obtain ⟨_, _, _, ⟨pz0, pz1, pz2, pz3⟩, _⟩ := way_cells (T1.out.2 0 _ rfl); have lt1 := heap_lt (T1.out.2 0 _ rfl); have S1 := hid (T1.out.new #[.int .u8 b0, .int .u8 b1, .int .u8 b2, .int .u8 b3] 26))
          | (go_at_call 10; refine (rmeet_m _ _ _ _ _ _ _ _ a0 a1 a2 a3 _ HA).mono ?_; rintro e w2 ⟨rfl, hb2⟩; have T2 := hid (S1.out.step hb2); obtain ⟨⟨qc0, qc1⟩, ⟨qu0, qu1, qu2, qu3⟩, _, _, _⟩ := way_cells (T2.out.2 1 _ rfl); have lt2 := heap_lt (T2.out.2 1 _ rfl); have S2 := hid (T2.out.new #[.int .u8 a0, .int .u8 a1, .int .u8 a2, .int .u8 a3] 26))
          | (go_at_call 18; clear tk2; refine (rlgood_m _ _ _ _ _ _ _ _ _ _ _ (HC.out.below S2.out.1) HM.out HU.out HN1).mono ?_; rintro e w3 ⟨rfl, hb3⟩; have S3 := hid (S2.out.step hb3); obtain ⟨⟨rc0, rc1⟩, _, ⟨rv0, rv1, rv2, rv3⟩, _, _⟩ := way_cells (S3.out.2 2 _ rfl))
          | (go_at_call 18; refine (rlgood_m _ _ _ _ _ _ _ _ _ _ _ (HC.out.below S3.out.1) HM.out HV.out HN2).mono ?_; rintro e w4 ⟨rfl, hb4⟩; have S4 := hid (S3.out.step hb4); obtain ⟨⟨sc0, sc1⟩, _, _, _, ⟨sx0, sx1, sx2, sx3⟩⟩ := way_cells (S4.out.2 2 _ rfl); obtain ⟨sa0, sa1, sa2, sa3⟩ := box4 (S4.out.2 0 _ rfl))
          | (go_at_call 19; refine (rright_n _ _ _ _ _ _ _ _ _ _ _ _ _ _ _ (HC.out.below S4.out.1) HM.out UA.out HX.out HR).mono ?_; rintro e w5 ⟨rfl, hb5⟩; have S5 := hid (S4.out.step hb5); skip)
          | (go_at_call 9; refine (wakes6 _).mono ?_; rintro e w9 ⟨rfl, hb9⟩))
        go_ret
        exact ⟨rfl, bt S5.out.1 hb9⟩
      | true =>
        have HR := hid hr
        have BAU := hid (bel_trans BAB.out BBU.out)
        have HNB := hid (node_below HN1.out BBU.out)
        have HNA := hid (node_below HNB.out BAB.out)
        obtain ⟨y0, hy0⟩ : ∃ y, toX ds [a0, a1, a2, a3] [b0, b1, b2, b3] [x0, x1, x2, x3] 0 = y := ⟨_, rfl⟩
        obtain ⟨y1, hy1⟩ : ∃ y, toX ds [a0, a1, a2, a3] [b0, b1, b2, b3] [x0, x1, x2, x3] 1 = y := ⟨_, rfl⟩
        obtain ⟨y2, hy2⟩ : ∃ y, toX ds [a0, a1, a2, a3] [b0, b1, b2, b3] [x0, x1, x2, x3] 2 = y := ⟨_, rfl⟩
        obtain ⟨y3, hy3⟩ : ∃ y, toX ds [a0, a1, a2, a3] [b0, b1, b2, b3] [x0, x1, x2, x3] 3 = y := ⟨_, rfl⟩
        obtain ⟨o0, ho0⟩ : ∃ y, toX ds [a0, a1, a2, a3] [u0, u1, u2, u3] [x0, x1, x2, x3] 0 = y := ⟨_, rfl⟩
        obtain ⟨o1, ho1⟩ : ∃ y, toX ds [a0, a1, a2, a3] [u0, u1, u2, u3] [x0, x1, x2, x3] 1 = y := ⟨_, rfl⟩
        obtain ⟨o2, ho2⟩ : ∃ y, toX ds [a0, a1, a2, a3] [u0, u1, u2, u3] [x0, x1, x2, x3] 2 = y := ⟨_, rfl⟩
        obtain ⟨o3, ho3⟩ : ∃ y, toX ds [a0, a1, a2, a3] [u0, u1, u2, u3] [x0, x1, x2, x3] 3 = y := ⟨_, rfl⟩
        have HY : Hid (∀ k, k < 4 → toX ds [a0, a1, a2, a3] [b0, b1, b2, b3] [x0, x1, x2, x3] k = [y0, y1, y2, y3].getD k 0) := hid (by
          intro k hk
          have : k = 0 ∨ k = 1 ∨ k = 2 ∨ k = 3 := by omega
          rcases this with rfl | rfl | rfl | rfl <;> assumption)
        have HO : Hid (∀ k, k < 4 → toX ds [a0, a1, a2, a3] [u0, u1, u2, u3] [x0, x1, x2, x3] k = [o0, o1, o2, o3].getD k 0) := hid (by
          intro k hk
          have : k = 0 ∨ k = 1 ∨ k = 2 ∨ k = 3 := by omega
          rcases this with rfl | rfl | rfl | rfl <;> assumption)
        clear hy0 hy1 hy2 hy3 ho0 ho1 ho2 ho3
        have HRY := hid (to_right hr HNB.out BAB.out UA.out UB.out HX.out HY.out)
        have Q1 := hid (And.intro (toB_4 hr HNB.out BAB.out) HY.out)
        have Q2 : Hid (toB ds M b0 b1 b2 b3 u0 u1 u2 u3 y0 y1 y2 y3 = true ∧ ∀ k, k < 4 → toX ds [b0, b1, b2, b3] [u0, u1, u2, u3] [y0, y1, y2, y3] k = [o0, o1, o2, o3].getD k 0) := hid ⟨toB_4 HRY.out.1 HN1.out BBU.out, fun k hk => by rw [to_twice hr HN1.out BAB.out BBU.out UA.out HU.out HX.out HY.out hk]; exact HO.out k hk⟩
        have Q3 := hid (And.intro (toB_4 hr HN1.out BAU.out) HO.out)
        have Q4 : Hid (toB ds M a0 a1 a2 a3 a0 a1 a2 a3 x0 x1 x2 x3 = true ∧ ∀ k, k < 4 → toX ds [a0, a1, a2, a3] [a0, a1, a2, a3] [x0, x1, x2, x3] k = [x0, x1, x2, x3].getD k 0) := hid ⟨toB_4 hr HNA.out bel_self, fun k hk => to_self hr UA.out HX.out hk⟩
        obtain ⟨t0, ht0⟩ : ∃ y, tp ds M 0 = y := ⟨_, rfl⟩
        obtain ⟨t1, ht1⟩ : ∃ y, tp ds M 1 = y := ⟨_, rfl⟩
        obtain ⟨t2, ht2⟩ : ∃ y, tp ds M 2 = y := ⟨_, rfl⟩
        obtain ⟨t3, ht3⟩ : ∃ y, tp ds M 3 = y := ⟨_, rfl⟩
        have HTP := hid (show tp ds M 0 = t0 ∧ tp ds M 1 = t1 ∧ tp ds M 2 = t2 ∧ tp ds M 3 = t3 from ⟨ht0, ht1, ht2, ht3⟩)
        have UT : Hid (∀ y ∈ [t0, t1, t2, t3], U8 y) := hid (by rw [← ht0, ← ht1, ← ht2, ← ht3]; exact tp_u8 ds M)
        have Q5 : Hid (toB ds M a0 a1 a2 a3 t0 t1 t2 t3 x0 x1 x2 x3 = true ∧ ∀ k, k < 4 → toX ds [a0, a1, a2, a3] [t0, t1, t2, t3] [x0, x1, x2, x3] k = ([0, 0, 0, 0] : List Int).getD k 0) := hid (by rw [← ht0, ← ht1, ← ht2, ← ht3]; exact ⟨toB_4 hr (node_top (rightC_is hr).1) (node_bel_top HNA.out), fun k hk => to_whole hr UA.out HX.out hk⟩)
        clear hr ht0 ht1 ht2 ht3
        go_enter Try.func4, Try.ntmps4
        go_wp2_with (first
          | (go_at_call 10; clear tk1; refine (rmeet_m _ _ _ _ _ _ _ _ b0 b1 b2 b3 _ HB).mono ?_; rintro e w1 ⟨rfl, hb1⟩; have T1 := hid (S0.out.step hb1); obtain ⟨_, _, _, ⟨pz0, pz1, pz2, pz3⟩, _⟩ := way_cells (T1.out.2 0 _ rfl); have lt1 := heap_lt (T1.out.2 0 _ rfl); have S1 := hid (T1.out.new #[.int .u8 b0, .int .u8 b1, .int .u8 b2, .int .u8 b3] 26))
          | (go_at_call 10; refine (rmeet_m _ _ _ _ _ _ _ _ a0 a1 a2 a3 _ HA).mono ?_; rintro e w2 ⟨rfl, hb2⟩; have T2 := hid (S1.out.step hb2); obtain ⟨⟨qc0, qc1⟩, ⟨qu0, qu1, qu2, qu3⟩, _, _, _⟩ := way_cells (T2.out.2 1 _ rfl); have lt2 := heap_lt (T2.out.2 1 _ rfl); have S2 := hid (T2.out.new #[.int .u8 a0, .int .u8 a1, .int .u8 a2, .int .u8 a3] 26))
          | (go_at_call 18; clear tk2; refine (rlgood_m _ _ _ _ _ _ _ _ _ _ _ (HC.out.below S2.out.1) HM.out HU.out HN1).mono ?_; rintro e w3 ⟨rfl, hb3⟩; have S3 := hid (S2.out.step hb3); obtain ⟨⟨rc0, rc1⟩, _, ⟨rv0, rv1, rv2, rv3⟩, _, _⟩ := way_cells (S3.out.2 2 _ rfl))
          | (go_at_call 18; refine (rlgood_m _ _ _ _ _ _ _ _ _ _ _ (HC.out.below S3.out.1) HM.out HV.out HN2).mono ?_; rintro e w4 ⟨rfl, hb4⟩; have S4 := hid (S3.out.step hb4); obtain ⟨⟨sc0, sc1⟩, _, _, _, ⟨sx0, sx1, sx2, sx3⟩⟩ := way_cells (S4.out.2 2 _ rfl); obtain ⟨sa0, sa1, sa2, sa3⟩ := box4 (S4.out.2 0 _ rfl))
          | (go_at_call 19; refine (rright_n _ _ _ _ _ _ _ _ _ _ _ _ _ _ _ (HC.out.below S4.out.1) HM.out UA.out HX.out HR).mono ?_; rintro e w5 ⟨rfl, hb5⟩; have S5 := hid (S4.out.step hb5); obtain ⟨⟨fc0, fc1⟩, _, _, _, ⟨fx0, fx1, fx2, fx3⟩⟩ := way_cells (S5.out.2 2 _ rfl); obtain ⟨fa0, fa1, fa2, fa3⟩ := box4 (S5.out.2 0 _ rfl); obtain ⟨fb0, fb1, fb2, fb3⟩ := box4 (S5.out.2 1 _ rfl))
          | (go_at_call 11; clear tk3; refine (lto_m _ _ _ _ _ _ _ _ _ _ _ _ _ _ _ _ _ y0 y1 y2 y3 _ (HC.out.below S5.out.1) HM.out UA.out UB.out HX.out Q1).mono ?_; rintro e w6 ⟨rfl, hb6⟩; have T6 := hid (S5.out.step hb6); obtain ⟨⟨gc0, gc1⟩, ⟨gu0, gu1, gu2, gu3⟩, _, _, _⟩ := way_cells (T6.out.2 2 _ rfl); obtain ⟨gb0, gb1, gb2, gb3⟩ := box4 (T6.out.2 1 _ rfl); have ltg1 := heap_lt (T6.out.2 1 _ rfl); have ltg2 := heap_lt (T6.out.2 2 _ rfl); have S6 := hid (T6.out.new #[.int .u8 y0, .int .u8 y1, .int .u8 y2, .int .u8 y3] 27))
          | (go_at_call 11; clear tk4; refine (lto_m _ _ _ _ _ _ _ _ _ _ _ _ _ _ _ _ _ o0 o1 o2 o3 _ (HC.out.below S6.out.1) HM.out UB.out HU.out HRY.out.2 Q2).mono ?_; rintro e w7 ⟨rfl, hb7⟩; have T7 := hid (S6.out.step hb7); obtain ⟨⟨hc0, hc1⟩, ⟨hu0, hu1, hu2, hu3⟩, _, _, ⟨hx0, hx1, hx2, hx3⟩⟩ := way_cells (T7.out.2 3 _ rfl); obtain ⟨ha0, ha1, ha2, ha3⟩ := box4 (T7.out.2 1 _ rfl); have lth1 := heap_lt (T7.out.2 1 _ rfl); have lth2 := heap_lt (T7.out.2 3 _ rfl); have S7 := hid (T7.out.new #[.int .u8 o0, .int .u8 o1, .int .u8 o2, .int .u8 o3] 27))
          | (go_at_call 11; clear tk5; refine (lto_m _ _ _ _ _ _ _ _ _ _ _ _ _ _ _ _ _ o0 o1 o2 o3 _ (HC.out.below S7.out.1) HM.out UA.out HU.out HX.out Q3).mono ?_; rintro e w8 ⟨rfl, hb8⟩; have T8 := hid (S7.out.step hb8); obtain ⟨⟨ic0, ic1⟩, _, _, _, ⟨ix0, ix1, ix2, ix3⟩⟩ := way_cells (T8.out.2 4 _ rfl); obtain ⟨ia0, ia1, ia2, ia3⟩ := box4 (T8.out.2 2 _ rfl); have lti1 := heap_lt (T8.out.2 2 _ rfl); have lti2 := heap_lt (T8.out.2 4 _ rfl); have S8 := hid (T8.out.new #[.int .u8 o0, .int .u8 o1, .int .u8 o2, .int .u8 o3] 27))
          | (go_at_call 11; clear tk6; refine (lto_m _ _ _ _ _ _ _ _ _ _ _ _ _ _ _ _ _ x0 x1 x2 x3 _ (HC.out.below S8.out.1) HM.out UA.out UA.out HX.out Q4).mono ?_; rintro e w9 ⟨rfl, hb9⟩; have T9 := hid (S8.out.step hb9); obtain ⟨⟨jc0, jc1⟩, _, _, _, ⟨jx0, jx1, jx2, jx3⟩⟩ := way_cells (T9.out.2 5 _ rfl); obtain ⟨ja0, ja1, ja2, ja3⟩ := box4 (T9.out.2 3 _ rfl); have ltj1 := heap_lt (T9.out.2 3 _ rfl); have ltj2 := heap_lt (T9.out.2 5 _ rfl); have S9 := hid (T9.out.new #[.int .u8 x0, .int .u8 x1, .int .u8 x2, .int .u8 x3] 27)))
        obtain ⟨LL, hLL⟩ : ∃ LL : List (Nat × Array Value × TypeId), [(w9.heap.size, #[.int .u8 x0, .int .u8 x1, .int .u8 x2, .int .u8 x3], 27), (w8.heap.size, #[.int .u8 o0, .int .u8 o1, .int .u8 o2, .int .u8 o3], 27), (w7.heap.size, #[.int .u8 o0, .int .u8 o1, .int .u8 o2, .int .u8 o3], 27), (w6.heap.size, #[.int .u8 y0, .int .u8 y1, .int .u8 y2, .int .u8 y3], 27), (w2.heap.size, #[.int .u8 a0, .int .u8 a1, .int .u8 a2, .int .u8 a3], 26), (w1.heap.size, #[.int .u8 b0, .int .u8 b1, .int .u8 b2, .int .u8 b3], 26), (w.heap.size, way a n c M u0 u1 u2 u3 v0 v1 v2 v3 z0 z1 z2 z3 x0 x1 x2 x3, 48)] = LL := ⟨_, rfl⟩
        have HLL := hid hLL
        have SL : Hid (St w (w9.alloc (.cells #[.int .u8 x0, .int .u8 x1, .int .u8 x2, .int .u8 x3] 27)) LL) := hid (by rw [← hLL]; exact S9.out)
        have KS : Hid (∀ x, St w x LL → St w x LL ∧ x.cell? ⟨w.heap.size, 0, none⟩ = some (.slice a n c) ∧ x.cell? ⟨w.heap.size, 1, none⟩ = some (.int .i64 M) ∧ x.cell? ⟨w2.heap.size, 0, none⟩ = some (.int .u8 a0) ∧ x.cell? ⟨w2.heap.size, 1, none⟩ = some (.int .u8 a1) ∧ x.cell? ⟨w2.heap.size, 2, none⟩ = some (.int .u8 a2) ∧ x.cell? ⟨w2.heap.size, 3, none⟩ = some (.int .u8 a3) ∧ x.cell? ⟨w.heap.size, 14, none⟩ = some (.int .u8 x0) ∧ x.cell? ⟨w.heap.size, 15, none⟩ = some (.int .u8 x1) ∧ x.cell? ⟨w.heap.size, 16, none⟩ = some (.int .u8 x2) ∧ x.cell? ⟨w.heap.size, 17, none⟩ = some (.int .u8 x3)) := hid (by
          intro x h
          have h' := h
          rw [← hLL] at h'
          obtain ⟨⟨k0, k1⟩, _, _, _, k2, k3, k4, k5⟩ := way_cells (h'.2 6 _ rfl)
          obtain ⟨k6, k7, k8, k9⟩ := box4 (h'.2 4 _ rfl)
          exact ⟨h, k0, k1, k6, k7, k8, k9, k2, k3, k4, k5⟩)
        have FIN : Hid (∀ x, St w x LL → ((x.cell? ⟨w7.heap.size, 0, none⟩ = some (.int .u8 o0) ∧ x.cell? ⟨w7.heap.size, 1, none⟩ = some (.int .u8 o1) ∧ x.cell? ⟨w7.heap.size, 2, none⟩ = some (.int .u8 o2) ∧ x.cell? ⟨w7.heap.size, 3, none⟩ = some (.int .u8 o3)) ∧ (x.cell? ⟨w8.heap.size, 0, none⟩ = some (.int .u8 o0) ∧ x.cell? ⟨w8.heap.size, 1, none⟩ = some (.int .u8 o1) ∧ x.cell? ⟨w8.heap.size, 2, none⟩ = some (.int .u8 o2) ∧ x.cell? ⟨w8.heap.size, 3, none⟩ = some (.int .u8 o3)) ∧ (x.cell? ⟨w9.heap.size, 0, none⟩ = some (.int .u8 x0) ∧ x.cell? ⟨w9.heap.size, 1, none⟩ = some (.int .u8 x1) ∧ x.cell? ⟨w9.heap.size, 2, none⟩ = some (.int .u8 x2) ∧ x.cell? ⟨w9.heap.size, 3, none⟩ = some (.int .u8 x3)))) := hid (by
          intro x h
          rw [← hLL] at h
          exact ⟨box4 (h.2 2 _ rfl), box4 (h.2 1 _ rfl), box4 (h.2 0 _ rfl)⟩)
        clear hLL T1 T2 S1 S2 S3 S4 S5 T6 T7 T8 T9 S6 S7 S8 S9
        generalize (w9.alloc (.cells #[.int .u8 x0, .int .u8 x1, .int .u8 x2, .int .u8 x3] 27)) = W9 at SL ⊢
        have LTQ : Hid (∀ (i : Nat) p, LL[i]? = some p → p.1 < W9.heap.size) := hid fun i p hp => heap_lt (SL.out.2 i p hp)
        have STP : Hid (∀ x y, Below x.heap.size x y → St w x LL → St w y LL) := hid fun x y hb h => h.step hb
        have tkw : True := trivial
        have eqn := eqC
        refine wp_region_noPanic ?_
        refine wp_region_held_drew (S := fun x => St w x LL ∧ x.cell? ⟨w.heap.size, 0, none⟩ = some (.slice a n c) ∧ x.cell? ⟨w.heap.size, 1, none⟩ = some (.int .i64 M) ∧ x.cell? ⟨w2.heap.size, 0, none⟩ = some (.int .u8 a0) ∧ x.cell? ⟨w2.heap.size, 1, none⟩ = some (.int .u8 a1) ∧ x.cell? ⟨w2.heap.size, 2, none⟩ = some (.int .u8 a2) ∧ x.cell? ⟨w2.heap.size, 3, none⟩ = some (.int .u8 a3) ∧ x.cell? ⟨w.heap.size, 14, none⟩ = some (.int .u8 x0) ∧ x.cell? ⟨w.heap.size, 15, none⟩ = some (.int .u8 x1) ∧ x.cell? ⟨w.heap.size, 16, none⟩ = some (.int .u8 x2) ∧ x.cell? ⟨w.heap.size, 17, none⟩ = some (.int .u8 x3)) (by kernel_rfl) (kq_drew SL STP KS) (fun hHeld => ?_)
        refine wpAnyH_take (i := 0) (v := ?_) (by simp only [List.getElem?_toArray, List.getElem?_cons_succ, List.getElem?_cons_zero]; exact rfl) (by kernel_rfl) (by kernel_rfl) (by kernel_rfl) (fun _ _ _ h => h) (Or.inl ⟨by rfl, ?_⟩) (by assumption) ?_
        rotate_left
        · intro w hSw
          try dsimp only at hSw
          go_simp
          try with_reducible rfl
        try simp only [Act.put, List.setIfInBounds_toArray, List.set_cons_zero, List.set_cons_succ]
        refine wpAnyH_take (i := 1) (v := ?_) (by simp only [List.getElem?_toArray, List.getElem?_cons_succ, List.getElem?_cons_zero]; exact rfl) (by kernel_rfl) (by kernel_rfl) (by kernel_rfl) (fun _ _ _ h => h) (Or.inl ⟨by rfl, ?_⟩) (by assumption) ?_
        rotate_left
        · intro w hSw
          try dsimp only at hSw
          go_simp
          try with_reducible rfl
        try simp only [Act.put, List.setIfInBounds_toArray, List.set_cons_zero, List.set_cons_succ]
        refine wpAnyH_take (i := 2) (v := ?_) (by simp only [List.getElem?_toArray, List.getElem?_cons_succ, List.getElem?_cons_zero]; exact rfl) (by kernel_rfl) (by kernel_rfl) (by kernel_rfl) (fun _ _ _ h => h) (Or.inl ⟨by rfl, ?_⟩) (by assumption) ?_
        rotate_left
        · intro w hSw
          try dsimp only at hSw
          go_simp
          try with_reducible rfl
        try simp only [Act.put, List.setIfInBounds_toArray, List.set_cons_zero, List.set_cons_succ]
        refine wpAnyH_take (i := 3) (v := ?_) (by simp only [List.getElem?_toArray, List.getElem?_cons_succ, List.getElem?_cons_zero]; exact rfl) (by kernel_rfl) (by kernel_rfl) (by kernel_rfl) (fun _ _ _ h => h) (Or.inl ⟨by rfl, ?_⟩) (by assumption) ?_
        rotate_left
        · intro w hSw
          try dsimp only at hSw
          go_simp
          try with_reducible rfl
        try simp only [Act.put, List.setIfInBounds_toArray, List.set_cons_zero, List.set_cons_succ]
        refine wpAnyH_take (i := 4) (v := ?_) (by simp only [List.getElem?_toArray, List.getElem?_cons_succ, List.getElem?_cons_zero]; exact rfl) (by kernel_rfl) (by kernel_rfl) (by kernel_rfl) (fun _ _ _ h => h) (Or.inl ⟨by rfl, ?_⟩) (by assumption) ?_
        rotate_left
        · intro w hSw
          try dsimp only at hSw
          go_simp
          try with_reducible rfl
        try simp only [Act.put, List.setIfInBounds_toArray, List.set_cons_zero, List.set_cons_succ]
        refine wpAnyH_take (i := 6) (v := ?_) (by simp only [List.getElem?_toArray, List.getElem?_cons_succ, List.getElem?_cons_zero]; exact rfl) (by kernel_rfl) (by kernel_rfl) (by kernel_rfl) (fun _ _ _ h => h) (Or.inl ⟨by rfl, ?_⟩) (by assumption) ?_
        rotate_left
        · intro w hSw
          try dsimp only at hSw
          go_simp
          try with_reducible rfl
        try simp only [Act.put, List.setIfInBounds_toArray, List.set_cons_zero, List.set_cons_succ]
        refine wpAnyH_take (i := 7) (v := ?_) (by simp only [List.getElem?_toArray, List.getElem?_cons_succ, List.getElem?_cons_zero]; exact rfl) (by kernel_rfl) (by kernel_rfl) (by kernel_rfl) (fun _ _ _ h => h) (Or.inl ⟨by rfl, ?_⟩) (by assumption) ?_
        rotate_left
        · intro w hSw
          try dsimp only at hSw
          go_simp
          try with_reducible rfl
        try simp only [Act.put, List.setIfInBounds_toArray, List.set_cons_zero, List.set_cons_succ]
        refine wpAnyH_ready (rs := [5, 12]) (by kernel_rfl) (by simp) ?_
        refine (AllReadyH.cons (by simp only [List.getElem?_toArray, List.getElem?_cons_succ, List.getElem?_cons_zero]; exact rfl) (fun K hK => ?_) (AllReadyH.cons (by simp only [List.getElem?_toArray, List.getElem?_cons_succ, List.getElem?_cons_zero]; exact rfl) (fun K hK => ?_) AllReadyH.nil))
        · go_simp
          go_at_call 20; refine (rwhole_m _ _ _ _ _ t0 t1 t2 t3 _ (HC.out.below hHeld.1.1) HM.out HTP).mono ?_; rintro e wA ⟨rfl, hbA⟩
          have HBA := hid hbA
          refine hK.out _ _ (kq_step hbA hHeld STP KS) (fun hHeld2 => ?_)
          clear hK K hHeld
          have hHeld := hHeld2
          clear hHeld2
          clear hbA
          try simp only [Act.put, List.setIfInBounds_toArray, List.set_cons_zero, List.set_cons_succ]
          refine wpAnyH_ready (rs := [8, 12]) (by kernel_rfl) (by simp) ?_
          refine (AllReadyH.cons (by simp only [List.getElem?_toArray, List.getElem?_cons_succ, List.getElem?_cons_zero]; exact rfl) (fun K hK => ?_) (AllReadyH.cons (by simp only [List.getElem?_toArray, List.getElem?_cons_succ, List.getElem?_cons_zero]; exact rfl) (fun K hK => ?_) AllReadyH.nil))
          · go_simp
            go_at_call 11; refine (lto_m _ _ _ _ _ _ _ _ _ _ _ _ _ _ _ _ _ 0 0 0 0 _ (HC.out.below hHeld.1.1) HM.out UA.out UT.out HX.out Q5).mono ?_; rintro e wB ⟨rfl, hbB⟩
            have HBB := hid hbB
            refine hK.out _ _ (kq_step hbB hHeld STP KS) (fun hHeld2 => ?_)
            clear hK K hHeld
            have hHeld := hHeld2
            clear hHeld2
            clear hbB
            try simp only [Act.put, List.setIfInBounds_toArray, List.set_cons_zero, List.set_cons_succ]
            refine wpAnyH_take (i := 9) (v := ?_) (by simp only [List.getElem?_toArray, List.getElem?_cons_succ, List.getElem?_cons_zero]; exact rfl) (by kernel_rfl) (by kernel_rfl) (by kernel_rfl) (fun _ _ _ h => h) (Or.inl ⟨by rfl, ?_⟩) (by assumption) ?_
            rotate_left
            · intro w hSw
              try dsimp only at hSw
              go_simp
              try with_reducible rfl
            try simp only [Act.put, List.setIfInBounds_toArray, List.set_cons_zero, List.set_cons_succ]
            refine wpAnyH_take (i := 10) (v := ?_) (by simp only [List.getElem?_toArray, List.getElem?_cons_succ, List.getElem?_cons_zero]; exact rfl) (by kernel_rfl) (by kernel_rfl) (by kernel_rfl) (fun _ _ _ h => h) (Or.inl ⟨by rfl, ?_⟩) (by assumption) ?_
            rotate_left
            · intro w hSw
              try dsimp only at hSw
              go_simp
              try with_reducible rfl
            try simp only [Act.put, List.setIfInBounds_toArray, List.set_cons_zero, List.set_cons_succ]
            refine wpAnyH_take (i := 11) (v := ?_) (by simp only [List.getElem?_toArray, List.getElem?_cons_succ, List.getElem?_cons_zero]; exact rfl) (by kernel_rfl) (by kernel_rfl) (by kernel_rfl) (fun _ _ _ h => h) (Or.inl ⟨by rfl, ?_⟩) (by assumption) ?_
            rotate_left
            · intro w hSw
              try dsimp only at hSw
              go_simp
              try with_reducible rfl
            try simp only [Act.put, List.setIfInBounds_toArray, List.set_cons_zero, List.set_cons_succ]
            refine wpAnyH_ready (rs := [12]) (by kernel_rfl) (by simp) ?_
            refine (AllReadyH.cons (by simp only [List.getElem?_toArray, List.getElem?_cons_succ, List.getElem?_cons_zero]; exact rfl) (fun K hK => ?_) AllReadyH.nil)
            go_simp
            refine hK.out _ _ (kq_step ((Below.refl _ _).alloc (Nat.le_refl _) _) hHeld STP KS) (fun hHeld2 => ?_)
            clear hK K hHeld
            have hHeld := hHeld2
            clear hHeld2
            have HQ := hid (heap_alloc_new wB (.cells #[.int .u8 0, .int .u8 0, .int .u8 0, .int .u8 0] 27))
            try simp only [Act.put, List.setIfInBounds_toArray, List.set_cons_zero, List.set_cons_succ]
            refine wpAnyH_ready (rs := [13]) (by kernel_rfl) (by simp) ?_
            refine (AllReadyH.cons (by simp only [List.getElem?_toArray, List.getElem?_cons_succ, List.getElem?_cons_zero]; exact rfl) (fun K hK => ?_) AllReadyH.nil)
            go_simp
            refine hK.out _ _ hHeld (fun hHeld2 => ?_)
            clear hK K hHeld
            have hHeld := hHeld2
            clear hHeld2
            have OF := HQ.out
            try simp only [Act.put, List.setIfInBounds_toArray, List.set_cons_zero, List.set_cons_succ]
            refine wpAnyH_take (i := 14) (v := ?_) (by simp only [List.getElem?_toArray, List.getElem?_cons_succ, List.getElem?_cons_zero]; exact rfl) (by kernel_rfl) (by kernel_rfl) (by kernel_rfl) (fun _ _ _ h => h) (Or.inl ⟨by rfl, ?_⟩) (by assumption) ?_
            rotate_left
            · intro w hSw
              try dsimp only at hSw
              go_simp
              try with_reducible rfl
            try simp only [Act.put, List.setIfInBounds_toArray, List.set_cons_zero, List.set_cons_succ]
            refine wpAnyH_done (by kernel_rfl) ?_ _
            refine NoPanic.normal ?_
            generalize (wB.alloc (.cells #[.int .u8 0, .int .u8 0, .int .u8 0, .int .u8 0] 27)) = WF at OF hHeld ⊢
            obtain ⟨o0', o1', o2', o3'⟩ := box4 OF
            obtain ⟨⟨z0', z1', z2', z3'⟩, ⟨y0', y1', y2', y3'⟩, s0', s1', s2', s3'⟩ := FIN.out _ hHeld.1
            obtain ⟨HSF, k0, k1, _, _, _, _, k2, k3, k4, k5⟩ := hHeld
            have HSF := hid HSF
            go_wp2_with (go_at_call 9; refine (wakes6 _).mono ?_; rintro e wE ⟨rfl, hbE⟩)
            go_ret
            exact ⟨rfl, bt HSF.out.1 hbE⟩
          · go_simp
            refine hK.out _ _ (kq_step ((Below.refl _ _).alloc (Nat.le_refl _) _) hHeld STP KS) (fun hHeld2 => ?_)
            clear hK K hHeld
            have hHeld := hHeld2
            clear hHeld2
            have HQ := hid (heap_alloc_new wA (.cells #[.int .u8 0, .int .u8 0, .int .u8 0, .int .u8 0] 27))
            try simp only [Act.put, List.setIfInBounds_toArray, List.set_cons_zero, List.set_cons_succ]
            refine wpAnyH_ready (rs := [8]) (by kernel_rfl) (by simp) ?_
            refine (AllReadyH.cons (by simp only [List.getElem?_toArray, List.getElem?_cons_succ, List.getElem?_cons_zero]; exact rfl) (fun K hK => ?_) AllReadyH.nil)
            go_simp
            go_at_call 11; refine (lto_m _ _ _ _ _ _ _ _ _ _ _ _ _ _ _ _ _ 0 0 0 0 _ (HC.out.below hHeld.1.1) HM.out UA.out UT.out HX.out Q5).mono ?_; rintro e wB ⟨rfl, hbB⟩
            have HBB := hid hbB
            refine hK.out _ _ (kq_step hbB hHeld STP KS) (fun hHeld2 => ?_)
            clear hK K hHeld
            have hHeld := hHeld2
            clear hHeld2
            have HQB := hid (keep_blk HQ.out hbB)
            obtain ⟨r0, r1, r2, r3⟩ := box4 HQB.out
            obtain ⟨g0, g1, g2, g3⟩ := froz4 HQB.out
            clear hbB
            try simp only [Act.put, List.setIfInBounds_toArray, List.set_cons_zero, List.set_cons_succ]
            refine wpAnyH_take (i := 9) (v := ?_) (by simp only [List.getElem?_toArray, List.getElem?_cons_succ, List.getElem?_cons_zero]; exact rfl) (by kernel_rfl) (by kernel_rfl) (by kernel_rfl) (fun _ _ _ h => h) (Or.inl ⟨by rfl, ?_⟩) (by assumption) ?_
            rotate_left
            · intro w hSw
              try dsimp only at hSw
              go_simp
              try with_reducible rfl
            try simp only [Act.put, List.setIfInBounds_toArray, List.set_cons_zero, List.set_cons_succ]
            refine wpAnyH_take (i := 10) (v := ?_) (by simp only [List.getElem?_toArray, List.getElem?_cons_succ, List.getElem?_cons_zero]; exact rfl) (by kernel_rfl) (by kernel_rfl) (by kernel_rfl) (fun _ _ _ h => h) (Or.inl ⟨by rfl, ?_⟩) (by assumption) ?_
            rotate_left
            · intro w hSw
              try dsimp only at hSw
              go_simp
              try with_reducible rfl
            try simp only [Act.put, List.setIfInBounds_toArray, List.set_cons_zero, List.set_cons_succ]
            refine wpAnyH_take (i := 11) (v := ?_) (by simp only [List.getElem?_toArray, List.getElem?_cons_succ, List.getElem?_cons_zero]; exact rfl) (by kernel_rfl) (by kernel_rfl) (by kernel_rfl) (fun _ _ _ h => h) (Or.inl ⟨by rfl, ?_⟩) (by assumption) ?_
            rotate_left
            · intro w hSw
              try dsimp only at hSw
              go_simp
              try with_reducible rfl
            try simp only [Act.put, List.setIfInBounds_toArray, List.set_cons_zero, List.set_cons_succ]
            refine wpAnyH_ready (rs := [13]) (by kernel_rfl) (by simp) ?_
            refine (AllReadyH.cons (by simp only [List.getElem?_toArray, List.getElem?_cons_succ, List.getElem?_cons_zero]; exact rfl) (fun K hK => ?_) AllReadyH.nil)
            go_simp
            have OF := store4 HQB.out (.int .u8 0) (.int .u8 0) (.int .u8 0) (.int .u8 0)
            refine hK.out _ _ (KS.out _ (st_set4 hHeld.1 (fun i p hp => Nat.lt_of_lt_of_le (LTQ.out i p hp) (HBA.out.size)) (Nat.le_trans SL.out.1.size (HBA.out.size)))) (fun hHeld2 => ?_)
            clear hK K hHeld
            have hHeld := hHeld2
            clear hHeld2
            try simp only [Act.put, List.setIfInBounds_toArray, List.set_cons_zero, List.set_cons_succ]
            refine wpAnyH_take (i := 14) (v := ?_) (by simp only [List.getElem?_toArray, List.getElem?_cons_succ, List.getElem?_cons_zero]; exact rfl) (by kernel_rfl) (by kernel_rfl) (by kernel_rfl) (fun _ _ _ h => h) (Or.inl ⟨by rfl, ?_⟩) (by assumption) ?_
            rotate_left
            · intro w hSw
              try dsimp only at hSw
              go_simp
              try with_reducible rfl
            try simp only [Act.put, List.setIfInBounds_toArray, List.set_cons_zero, List.set_cons_succ]
            refine wpAnyH_done (by kernel_rfl) ?_ _
            refine NoPanic.normal ?_
            generalize ((((wB.setCell ⟨wA.heap.size, 0, none⟩ (.int .u8 0)).setCell ⟨wA.heap.size, 1, none⟩ (.int .u8 0)).setCell ⟨wA.heap.size, 2, none⟩ (.int .u8 0)).setCell ⟨wA.heap.size, 3, none⟩ (.int .u8 0)) = WF at OF hHeld ⊢
            obtain ⟨o0', o1', o2', o3'⟩ := box4 OF
            obtain ⟨⟨z0', z1', z2', z3'⟩, ⟨y0', y1', y2', y3'⟩, s0', s1', s2', s3'⟩ := FIN.out _ hHeld.1
            obtain ⟨HSF, k0, k1, _, _, _, _, k2, k3, k4, k5⟩ := hHeld
            have HSF := hid HSF
            go_wp2_with (go_at_call 9; refine (wakes6 _).mono ?_; rintro e wE ⟨rfl, hbE⟩)
            go_ret
            exact ⟨rfl, bt HSF.out.1 hbE⟩
        · go_simp
          refine hK.out _ _ (KS.out _ (SL.out.step (((Below.refl _ _).alloc (Nat.le_refl _) _).drew))) (fun hHeld2 => ?_)
          clear hK K hHeld
          have hHeld := hHeld2
          clear hHeld2
          have HQ := hid (heap_alloc_new W9 (.cells #[.int .u8 0, .int .u8 0, .int .u8 0, .int .u8 0] 27))
          try simp only [Act.put, List.setIfInBounds_toArray, List.set_cons_zero, List.set_cons_succ]
          refine wpAnyH_ready (rs := [5]) (by kernel_rfl) (by simp) ?_
          refine (AllReadyH.cons (by simp only [List.getElem?_toArray, List.getElem?_cons_succ, List.getElem?_cons_zero]; exact rfl) (fun K hK => ?_) AllReadyH.nil)
          go_simp
          go_at_call 20; refine (rwhole_m _ _ _ _ _ t0 t1 t2 t3 _ (HC.out.below hHeld.1.1) HM.out HTP).mono ?_; rintro e wA ⟨rfl, hbA⟩
          have HBA := hid hbA
          refine hK.out _ _ (kq_step hbA hHeld STP KS) (fun hHeld2 => ?_)
          clear hK K hHeld
          have hHeld := hHeld2
          clear hHeld2
          have HQA := hid (keep_blk HQ.out (undrew hbA))
          clear hbA
          try simp only [Act.put, List.setIfInBounds_toArray, List.set_cons_zero, List.set_cons_succ]
          refine wpAnyH_ready (rs := [8]) (by kernel_rfl) (by simp) ?_
          refine (AllReadyH.cons (by simp only [List.getElem?_toArray, List.getElem?_cons_succ, List.getElem?_cons_zero]; exact rfl) (fun K hK => ?_) AllReadyH.nil)
          go_simp
          go_at_call 11; refine (lto_m _ _ _ _ _ _ _ _ _ _ _ _ _ _ _ _ _ 0 0 0 0 _ (HC.out.below hHeld.1.1) HM.out UA.out UT.out HX.out Q5).mono ?_; rintro e wB ⟨rfl, hbB⟩
          have HBB := hid hbB
          refine hK.out _ _ (kq_step hbB hHeld STP KS) (fun hHeld2 => ?_)
          clear hK K hHeld
          have hHeld := hHeld2
          clear hHeld2
          have HQB := hid (keep_blk HQA.out hbB)
          obtain ⟨r0, r1, r2, r3⟩ := box4 HQB.out
          obtain ⟨g0, g1, g2, g3⟩ := froz4 HQB.out
          clear hbB
          try simp only [Act.put, List.setIfInBounds_toArray, List.set_cons_zero, List.set_cons_succ]
          refine wpAnyH_take (i := 9) (v := ?_) (by simp only [List.getElem?_toArray, List.getElem?_cons_succ, List.getElem?_cons_zero]; exact rfl) (by kernel_rfl) (by kernel_rfl) (by kernel_rfl) (fun _ _ _ h => h) (Or.inl ⟨by rfl, ?_⟩) (by assumption) ?_
          rotate_left
          · intro w hSw
            try dsimp only at hSw
            go_simp
            try with_reducible rfl
          try simp only [Act.put, List.setIfInBounds_toArray, List.set_cons_zero, List.set_cons_succ]
          refine wpAnyH_take (i := 10) (v := ?_) (by simp only [List.getElem?_toArray, List.getElem?_cons_succ, List.getElem?_cons_zero]; exact rfl) (by kernel_rfl) (by kernel_rfl) (by kernel_rfl) (fun _ _ _ h => h) (Or.inl ⟨by rfl, ?_⟩) (by assumption) ?_
          rotate_left
          · intro w hSw
            try dsimp only at hSw
            go_simp
            try with_reducible rfl
          try simp only [Act.put, List.setIfInBounds_toArray, List.set_cons_zero, List.set_cons_succ]
          refine wpAnyH_take (i := 11) (v := ?_) (by simp only [List.getElem?_toArray, List.getElem?_cons_succ, List.getElem?_cons_zero]; exact rfl) (by kernel_rfl) (by kernel_rfl) (by kernel_rfl) (fun _ _ _ h => h) (Or.inl ⟨by rfl, ?_⟩) (by assumption) ?_
          rotate_left
          · intro w hSw
            try dsimp only at hSw
            go_simp
            try with_reducible rfl
          try simp only [Act.put, List.setIfInBounds_toArray, List.set_cons_zero, List.set_cons_succ]
          refine wpAnyH_ready (rs := [13]) (by kernel_rfl) (by simp) ?_
          refine (AllReadyH.cons (by simp only [List.getElem?_toArray, List.getElem?_cons_succ, List.getElem?_cons_zero]; exact rfl) (fun K hK => ?_) AllReadyH.nil)
          go_simp
          have OF := store4 HQB.out (.int .u8 0) (.int .u8 0) (.int .u8 0) (.int .u8 0)
          refine hK.out _ _ (KS.out _ (st_set4 hHeld.1 (fun i p hp => Nat.lt_of_lt_of_le (LTQ.out i p hp) (Nat.le_refl _)) (Nat.le_trans SL.out.1.size (Nat.le_refl _)))) (fun hHeld2 => ?_)
          clear hK K hHeld
          have hHeld := hHeld2
          clear hHeld2
          try simp only [Act.put, List.setIfInBounds_toArray, List.set_cons_zero, List.set_cons_succ]
          refine wpAnyH_take (i := 14) (v := ?_) (by simp only [List.getElem?_toArray, List.getElem?_cons_succ, List.getElem?_cons_zero]; exact rfl) (by kernel_rfl) (by kernel_rfl) (by kernel_rfl) (fun _ _ _ h => h) (Or.inl ⟨by rfl, ?_⟩) (by assumption) ?_
          rotate_left
          · intro w hSw
            try dsimp only at hSw
            go_simp
            try with_reducible rfl
          try simp only [Act.put, List.setIfInBounds_toArray, List.set_cons_zero, List.set_cons_succ]
          refine wpAnyH_done (by kernel_rfl) ?_ _
          refine NoPanic.normal ?_
          generalize ((((wB.setCell ⟨W9.heap.size, 0, none⟩ (.int .u8 0)).setCell ⟨W9.heap.size, 1, none⟩ (.int .u8 0)).setCell ⟨W9.heap.size, 2, none⟩ (.int .u8 0)).setCell ⟨W9.heap.size, 3, none⟩ (.int .u8 0)) = WF at OF hHeld ⊢
          obtain ⟨o0', o1', o2', o3'⟩ := box4 OF
          obtain ⟨⟨z0', z1', z2', z3'⟩, ⟨y0', y1', y2', y3'⟩, s0', s1', s2', s3'⟩ := FIN.out _ hHeld.1
          obtain ⟨HSF, k0, k1, _, _, _, _, k2, k3, k4, k5⟩ := hHeld
          have HSF := hid HSF
          go_wp2_with (go_at_call 9; refine (wakes6 _).mono ?_; rintro e wE ⟨rfl, hbE⟩)
          go_ret
          exact ⟨rfl, bt HSF.out.1 hbE⟩

end Go.Proofs.Ytfgphphaopcolaa

/-
  A node's places are parted by those of a coarser one: the walk of the law LiftParts.
  Conditions: as each theorem states them.
-/
import Derived.Test.YtfgphphaopcolaaWV
import Derived.Test.YtfgphphaopcolaaWO
import Derived.Deep.Cut
import Derived.Deep.DeepCutAuto
namespace Go.Proofs.Ytfgphphaopcolaa
open Go.ChangeShapes Go.WideShapes Go.ChangeAt Go.RowKit
set_option linter.unusedVariables false
set_option linter.unusedSimpArgs false

theorem lst_u8 {x : Nd} (h : ∀ j, j < 4 → U8 (nf x j)) : ∀ y ∈ lst x, U8 y := by
  obtain ⟨x0, x1, x2, x3⟩ := x
  exact u8_mk ⟨h 0 (by omega), h 1 (by omega), h 2 (by omega), h 3 (by omega)⟩
theorem pls_right {ds : Dims} {M v0 v1 v2 v3 : Int} (hn : nodeC ds M v0 v1 v2 v3 = true) (hV : ∀ x ∈ [v0, v1, v2, v3], U8 x) (hd4 : ds.length ≤ 4) (i : Nat) :
    rightC ds M [v0, v1, v2, v3] (lst (dgr ds [v0, v1, v2, v3] ds.length i (0, 0, 0, 0))) = true ∧ ∀ j, j < 4 → U8 (nf (dgr ds [v0, v1, v2, v3] ds.length i (0, 0, 0, 0)) j) := by
  have hs : ∀ l, l < ds.length → 0 < sz ds [v0, v1, v2, v3] l := fun l hl => by
    have := node_mem hn hV (k := l) (by omega)
    rw [← sz_int] at this
    omega
  have hb : ∀ j, j < 4 → 0 ≤ nf (dgr ds [v0, v1, v2, v3] ds.length i (0, 0, 0, 0)) j ∧ nf (dgr ds [v0, v1, v2, v3] ds.length i (0, 0, 0, 0)) j < memC ds j ([v0, v1, v2, v3].getD j 0) := fun j hj => by
    by_cases h : j < ds.length
    · exact dgr_bd ds _ _ _ _ hs hj h
    · rw [dgr_out _ _ _ _ _ hj (by omega)]
      have := node_mem hn hV hj
      have e : nf (0, 0, 0, 0) j = 0 := by
        have : j = 0 ∨ j = 1 ∨ j = 2 ∨ j = 3 := by omega
        rcases this with rfl | rfl | rfl | rfl <;> rfl
      rw [e]; omega
  refine ⟨rightC_yes (nodeC_good hn) fun j hj => (hb j hj).2, fun j hj => ?_⟩
  have h1 := hb j hj
  have h2 := (memC_bd ds j ([v0, v1, v2, v3].getD j 0)).2
  unfold U8; omega
theorem uL_le {ds : Dims} {T A F : List Int} {k : Nat} (hk : k < ds.length) : (uL ds T A F k).length ≤ sz ds F k := by
  obtain ⟨S, U, hSU⟩ : ∃ S U, ds.getD k ([], []) = (S, U) := ⟨_, _, rfl⟩
  rw [uL_at hSU]
  have h1 := sz_int ds F k
  rw [memC_at hk hSU] at h1
  by_cases h : 0 ≤ A.getD k 0 ∧ A.getD k 0 < size S U (T.getD k 0)
  · rw [under_yes h.1 h.2]
    have := und_len S U (T.getD k 0) (A.getD k 0) (F.getD k 0) (size S U (F.getD k 0)).toNat
    omega
  · rw [under_no (by omega)]; simp
theorem fibs_cost {ds : Dims} {T A F : List Int} : ∀ k, k ≤ ds.length → ((fibs ds T A F k).length : Int) ≤ costP ds F k
  | 0, _ => by simp [fibs, costP]
  | k + 1, h => by
    rw [fibs_len, costP, Int.natCast_mul]
    have h1 := fibs_cost (ds := ds) (T := T) (A := A) (F := F) k (by omega)
    have h2 := uL_le (ds := ds) (T := T) (A := A) (F := F) (show k < ds.length by omega)
    have h3 := sz_int ds F k
    exact Int.mul_le_mul h1 (by omega) (by omega) (by have := (costP_bd ds F k).1; omega)
theorem fib_right {ds : Dims} {M f0 f1 f2 f3 : Int} {T A : List Int} (hn : nodeC ds M f0 f1 f2 f3 = true) (hF : ∀ x ∈ [f0, f1, f2, f3], U8 x) (hd4 : ds.length ≤ 4) {y : Nd} (hy : y ∈ fibs ds T A [f0, f1, f2, f3] ds.length) :
    rightC ds M [f0, f1, f2, f3] (lst y) = true ∧ ∀ j, j < 4 → U8 (nf y j) := by
  have hb : ∀ j, j < 4 → 0 ≤ nf y j ∧ nf y j < memC ds j ([f0, f1, f2, f3].getD j 0) := fun j hj => by
    have hm := mem_fibs ds.length hd4 hy j hj
    by_cases h : j < ds.length
    · obtain ⟨S, U, hSU⟩ : ∃ S U, ds.getD j ([], []) = (S, U) := ⟨_, _, rfl⟩
      have h1 := hm.1 h
      rw [uL_at hSU] at h1
      have h2 := under_bd h1
      rw [memC_at h hSU]; exact h2
    · rw [hm.2 (by omega)]
      exact ⟨Int.le_refl _, node_mem hn hF hj⟩
  refine ⟨rightC_yes (nodeC_good hn) fun j hj => (hb j hj).2, fun j hj => ?_⟩
  have h1 := hb j hj
  have h2 := (memC_bd ds j ([f0, f1, f2, f3].getD j 0)).2
  unfold U8; omega
theorem fib_to {ds : Dims} {M : Int} {T A F : List Int} (hr : rightC ds M T A = true) (hA : ∀ x ∈ A, U8 x) (hd4 : ds.length ≤ 4) {y : Nd} (hy : y ∈ fibs ds T A F ds.length) {k : Nat} (hk : k < 4) : toX ds F T (lst y) k = A.getD k 0 := by
  have hm := mem_fibs ds.length hd4 hy k hk
  by_cases h : k < ds.length
  · obtain ⟨S, U, hSU⟩ : ∃ S U, ds.getD k ([], []) = (S, U) := ⟨_, _, rfl⟩
    have h1 := hm.1 h
    rw [uL_at hSU] at h1
    rw [toX_at h hSU, lst_nf]
    exact (mem_under.mp h1).2.2.2.2
  · rw [toX_out (by omega), right_beyond hr hA hk (by omega)]
theorem lfiber_n (a : Option Addr) (n c : Nat) (ds : Dims) (M t0 t1 t2 t3 x0 x1 x2 x3 f0 f1 f2 f3 : Int) (l : List Nd) (fl : Nat) (w : World) (hc : Cat w a n c ds) (hM : I64 M) (hT : ∀ x ∈ [t0, t1, t2, t3], U8 x) (hA : ∀ x ∈ [x0, x1, x2, x3], U8 x) (hF : ∀ x ∈ [f0, f1, f2, f3], U8 x) (h : Hid (fib ds M t0 t1 t2 t3 x0 x1 x2 x3 f0 f1 f2 f3 = l ∧ l.length = fl)) :
    Calls Try.prog 16 #[.agg #[.slice a n c, .int .i64 M], .agg #[.int .u8 t0, .int .u8 t1, .int .u8 t2, .int .u8 t3], .agg #[.int .u8 x0, .int .u8 x1, .int .u8 x2, .int .u8 x3], .agg #[.int .u8 f0, .int .u8 f1, .int .u8 f2, .int .u8 f3]] w
      fun e w' => ∃ a' c', e = .returned (.slice a' fl c') ∧ NRow w' a' fl c' l ∧ Below w.heap.size w w' := by
  refine (lfiber_any a n c ds M t0 t1 t2 t3 x0 x1 x2 x3 f0 f1 f2 f3 w hc hM hT hA hF).mono ?_
  rintro e w' ⟨⟨a', n', c', rfl, hr⟩, hb⟩
  rw [h.out.1] at hr
  obtain rfl : n' = fl := by rw [← h.out.2]; exact hr.1
  exact ⟨a', c', rfl, hr, hb⟩
theorem st_three (w : World) (A B D : Array Value) (s t r : TypeId) : St w (((w.alloc (.cells A s)).alloc (.cells B t)).alloc (.cells D r)) [(w.heap.size + 2, D, r), (w.heap.size + 1, B, t), (w.heap.size, A, s)] := by
  have h := ((st_start w A s).new B t).new D r
  simp only [World.size_alloc] at h
  exact h

set_option maxHeartbeats 64000000 in
set_option maxRecDepth 100000 in
theorem parts_walk (a : Option Addr) (n c : Nat) (ds : Dims) (M v0 v1 v2 v3 z0 z1 z2 z3 : Int) (w : World) (hc : Cat w a n c ds) (hM : I64 M) (hv : ∀ y ∈ [v0, v1, v2, v3], U8 y) (hz : ∀ y ∈ [z0, z1, z2, z3], U8 y) :
    Calls Try.prog 5 #[.agg #[.slice a n c, .int .i64 M], .agg #[.int .u8 v0, .int .u8 v1, .int .u8 v2, .int .u8 v3], .agg #[.int .u8 z0, .int .u8 z1, .int .u8 z2, .int .u8 z3]] w fun e w' => e = .returned (.bool true) ∧ Below w.heap.size w w' := by
  obtain ⟨e1, e2⟩ := hc.lens
  have E1 : Hid (n = ds.length) := e1
  have HC := hid hc
  have HM := hid hM
  have HV := hid hv
  have S0 := hid (st_three w #[.slice a n c, .int .i64 M] #[.int .u8 v0, .int .u8 v1, .int .u8 v2, .int .u8 v3] #[.int .u8 z0, .int .u8 z1, .int .u8 z2, .int .u8 z3] 24 26 26)
  obtain ⟨u0, h0⟩ : ∃ y, mn v0 z0 = y := ⟨_, rfl⟩
  obtain ⟨u1, h1⟩ : ∃ y, mn v1 z1 = y := ⟨_, rfl⟩
  obtain ⟨u2, h2⟩ : ∃ y, mn v2 z2 = y := ⟨_, rfl⟩
  obtain ⟨u3, h3⟩ : ∃ y, mn v3 z3 = y := ⟨_, rfl⟩
  have HB := hid (show mn v0 z0 = u0 ∧ mn v1 z1 = u1 ∧ mn v2 z2 = u2 ∧ mn v3 z3 = u3 from ⟨h0, h1, h2, h3⟩)
  have UU : Hid (∀ y ∈ [u0, u1, u2, u3], U8 y) := hid (by rw [← h0, ← h1, ← h2, ← h3]; exact mn4_u8 hv hz)
  have BUV : Hid (bel u0 u1 u2 u3 v0 v1 v2 v3 = true) := hid (by rw [← h0, ← h1, ← h2, ← h3]; exact bel_mn.1)
  clear h0 h1 h2 h3 hc hM hv hz e1
  obtain ⟨cu, hcu⟩ : ∃ y, cost ds M u0 u1 u2 u3 = y := ⟨_, rfl⟩
  obtain ⟨cv, hcv⟩ : ∃ y, cost ds M v0 v1 v2 v3 = y := ⟨_, rfl⟩
  have HCU := hid hcu
  have HCV := hid hcv
  have eqn := eqC
  have tk1 : True := trivial
  have tk2 : True := trivial
  clear hcu hcv
  cases hnv : nodeC ds M v0 v1 v2 v3 with
  | false =>
    have HNV := hid hnv
    clear hnv
    go_enter Try.func5, Try.ntmps5
    go_wp2_with (first
      | (go_at_call 10; refine (rmeet_m _ _ _ _ _ _ _ _ u0 u1 u2 u3 _ HB).mono ?_; rintro e w1 ⟨rfl, hb1⟩; have T1 := hid (S0.out.step hb1); obtain ⟨pc0, pc1⟩ := box_two (T1.out.2 2 _ rfl); obtain ⟨pv0, pv1, pv2, pv3⟩ := box4 (T1.out.2 1 _ rfl); have lt1 := heap_lt (T1.out.2 2 _ rfl); have lt2 := heap_lt (T1.out.2 1 _ rfl); have S1 := hid (T1.out.new #[.int .u8 u0, .int .u8 u1, .int .u8 u2, .int .u8 u3] 26))
      | (go_at_call 18; refine (rlgood_m _ _ _ _ _ _ _ _ _ _ _ (HC.out.below S1.out.1) HM.out HV.out HNV).mono ?_; rintro e w2 ⟨rfl, hb2⟩; have S2 := hid (S1.out.step hb2); skip)
      | (go_at_call 9; refine (wakes6 _).mono ?_; rintro e w9 ⟨rfl, hb9⟩))
    go_ret
    exact ⟨rfl, bt S2.out.1 hb9⟩
  | true =>
    have HNV := hid hnv
    have hnu := node_below hnv BUV.out
    have HNU := hid hnu
    have hgp := goodC_p (nodeC_good hnv)
    rw [← E1.out] at hgp
    obtain ⟨n1, n4', _, _, _⟩ := hgp
    clear hnv hnu
    by_cases hbu : (5000 : Int) < cu
    · have hbut : decide ((5000 : Int) < cu) = true := decide_eq_true hbu
      go_enter Try.func5, Try.ntmps5
      go_wp2_with (first
        | (go_at_call 10; refine (rmeet_m _ _ _ _ _ _ _ _ u0 u1 u2 u3 _ HB).mono ?_; rintro e w1 ⟨rfl, hb1⟩; have T1 := hid (S0.out.step hb1); obtain ⟨pc0, pc1⟩ := box_two (T1.out.2 2 _ rfl); obtain ⟨pv0, pv1, pv2, pv3⟩ := box4 (T1.out.2 1 _ rfl); have lt1 := heap_lt (T1.out.2 2 _ rfl); have lt2 := heap_lt (T1.out.2 1 _ rfl); have S1 := hid (T1.out.new #[.int .u8 u0, .int .u8 u1, .int .u8 u2, .int .u8 u3] 26))
        | (go_at_call 18; clear tk1; refine (rlgood_m _ _ _ _ _ _ _ _ _ _ _ (HC.out.below S1.out.1) HM.out HV.out HNV).mono ?_; rintro e w2 ⟨rfl, hb2⟩; have S2 := hid (S1.out.step hb2); obtain ⟨qc0, qc1⟩ := box_two (S2.out.2 3 _ rfl); obtain ⟨qu0, qu1, qu2, qu3⟩ := box4 (S2.out.2 0 _ rfl))
        | (go_at_call 18; refine (rlgood_m _ _ _ _ _ _ _ _ _ _ _ (HC.out.below S2.out.1) HM.out UU.out HNU).mono ?_; rintro e w3 ⟨rfl, hb3⟩; have S3 := hid (S2.out.step hb3); obtain ⟨rc0, rc1⟩ := box_two (S3.out.2 3 _ rfl); obtain ⟨ru0, ru1, ru2, ru3⟩ := box4 (S3.out.2 0 _ rfl))
        | (go_at_call 21; refine (rcost_n _ _ _ _ _ _ _ _ _ cu _ (HC.out.below S3.out.1) HM.out UU.out HCU).mono ?_; rintro e w4 ⟨rfl, hb4⟩; have S4 := hid (S3.out.step hb4); skip)
        | (go_at_call 9; refine (wakes6 _).mono ?_; rintro e w9 ⟨rfl, hb9⟩))
      go_ret
      exact ⟨rfl, bt S4.out.1 hb9⟩
    · have hbut : decide ((5000 : Int) < cu) = false := decide_eq_false hbu
      by_cases hbv : (600 : Int) < cv
      · have hbvt : decide ((600 : Int) < cv) = true := decide_eq_true hbv
        go_enter Try.func5, Try.ntmps5
        go_wp2_with (first
          | (go_at_call 10; refine (rmeet_m _ _ _ _ _ _ _ _ u0 u1 u2 u3 _ HB).mono ?_; rintro e w1 ⟨rfl, hb1⟩; have T1 := hid (S0.out.step hb1); obtain ⟨pc0, pc1⟩ := box_two (T1.out.2 2 _ rfl); obtain ⟨pv0, pv1, pv2, pv3⟩ := box4 (T1.out.2 1 _ rfl); have lt1 := heap_lt (T1.out.2 2 _ rfl); have lt2 := heap_lt (T1.out.2 1 _ rfl); have S1 := hid (T1.out.new #[.int .u8 u0, .int .u8 u1, .int .u8 u2, .int .u8 u3] 26))
          | (go_at_call 18; clear tk1; refine (rlgood_m _ _ _ _ _ _ _ _ _ _ _ (HC.out.below S1.out.1) HM.out HV.out HNV).mono ?_; rintro e w2 ⟨rfl, hb2⟩; have S2 := hid (S1.out.step hb2); obtain ⟨qc0, qc1⟩ := box_two (S2.out.2 3 _ rfl); obtain ⟨qu0, qu1, qu2, qu3⟩ := box4 (S2.out.2 0 _ rfl))
          | (go_at_call 18; refine (rlgood_m _ _ _ _ _ _ _ _ _ _ _ (HC.out.below S2.out.1) HM.out UU.out HNU).mono ?_; rintro e w3 ⟨rfl, hb3⟩; have S3 := hid (S2.out.step hb3); obtain ⟨rc0, rc1⟩ := box_two (S3.out.2 3 _ rfl); obtain ⟨ru0, ru1, ru2, ru3⟩ := box4 (S3.out.2 0 _ rfl))
          | (go_at_call 21; clear tk2; refine (rcost_n _ _ _ _ _ _ _ _ _ cu _ (HC.out.below S3.out.1) HM.out UU.out HCU).mono ?_; rintro e w4 ⟨rfl, hb4⟩; have S4 := hid (S3.out.step hb4); obtain ⟨sc0, sc1⟩ := box_two (S4.out.2 3 _ rfl); obtain ⟨sv0, sv1, sv2, sv3⟩ := box4 (S4.out.2 2 _ rfl))
          | (go_at_call 21; refine (rcost_n _ _ _ _ _ _ _ _ _ cv _ (HC.out.below S4.out.1) HM.out HV.out HCV).mono ?_; rintro e w5 ⟨rfl, hb5⟩; have S5 := hid (S4.out.step hb5); skip)
          | (go_at_call 9; refine (wakes6 _).mono ?_; rintro e w9 ⟨rfl, hb9⟩))
        go_ret
        exact ⟨rfl, bt S5.out.1 hb9⟩
      · have hbvt : decide ((600 : Int) < cv) = false := decide_eq_false hbv
        have HSM : Hid (cost ds M v0 v1 v2 v3 ≤ 600) := hid (by rw [HCV.out]; omega)
        obtain ⟨pn, hpn⟩ : ∃ y, (pls ds [v0, v1, v2, v3] n).length = y := ⟨_, rfl⟩
        have HPN := hid hpn
        have hpn6 : pn ≤ 600 := by
          have h1 := pls_len ds [v0, v1, v2, v3] n
          have h2 := HSM.out
          unfold cost at h2
          rw [if_pos HNV.out, ← E1.out, ← h1, hpn] at h2
          omega
        have hcuP : cu = costP ds [u0, u1, u2, u3] n := by rw [← HCU.out, E1.out]; unfold cost; rw [if_pos HNU.out]
        have HTOT : Hid ((tot ds [v0, v1, v2, v3] [u0, u1, u2, u3] n (pls ds [v0, v1, v2, v3] n) : Int) = cu) := hid (by rw [hcuP, E1.out]; exact tot_all (nodeC_good HNV.out) HNV.out BUV.out UU.out HV.out (by rw [← E1.out]; exact n4') ds.length (Nat.le_refl _))
        have HFIB : Hid (∀ i, rightC ds M [v0, v1, v2, v3] (lst (dgr ds [v0, v1, v2, v3] n i (0, 0, 0, 0))) = true ∧ (∀ j, j < 4 → U8 (nf (dgr ds [v0, v1, v2, v3] n i (0, 0, 0, 0)) j))) := hid (by rw [E1.out]; exact fun i => pls_right HNV.out HV.out (by rw [← E1.out]; exact n4') i)
        have HFL : Hid (∀ A : List Int, (fibs ds [v0, v1, v2, v3] A [u0, u1, u2, u3] n).length ≤ 5000) := hid fun A => by
          have := fibs_cost (ds := ds) (T := [v0, v1, v2, v3]) (A := A) (F := [u0, u1, u2, u3]) n (by rw [E1.out]; exact Nat.le_refl _)
          rw [← hcuP] at this
          omega
        clear hpn hcuP
        go_enter Try.func5, Try.ntmps5
        go_wp2_with (first
          | (go_at_call 10; refine (rmeet_m _ _ _ _ _ _ _ _ u0 u1 u2 u3 _ HB).mono ?_; rintro e w1 ⟨rfl, hb1⟩; have T1 := hid (S0.out.step hb1); obtain ⟨pc0, pc1⟩ := box_two (T1.out.2 2 _ rfl); obtain ⟨pv0, pv1, pv2, pv3⟩ := box4 (T1.out.2 1 _ rfl); have lt1 := heap_lt (T1.out.2 2 _ rfl); have lt2 := heap_lt (T1.out.2 1 _ rfl); have S1 := hid (T1.out.new #[.int .u8 u0, .int .u8 u1, .int .u8 u2, .int .u8 u3] 26))
          | (go_at_call 18; clear tk1; refine (rlgood_m _ _ _ _ _ _ _ _ _ _ _ (HC.out.below S1.out.1) HM.out HV.out HNV).mono ?_; rintro e w2 ⟨rfl, hb2⟩; have S2 := hid (S1.out.step hb2); obtain ⟨qc0, qc1⟩ := box_two (S2.out.2 3 _ rfl); obtain ⟨qu0, qu1, qu2, qu3⟩ := box4 (S2.out.2 0 _ rfl))
          | (go_at_call 18; refine (rlgood_m _ _ _ _ _ _ _ _ _ _ _ (HC.out.below S2.out.1) HM.out UU.out HNU).mono ?_; rintro e w3 ⟨rfl, hb3⟩; have S3 := hid (S2.out.step hb3); obtain ⟨rc0, rc1⟩ := box_two (S3.out.2 3 _ rfl); obtain ⟨ru0, ru1, ru2, ru3⟩ := box4 (S3.out.2 0 _ rfl))
          | (go_at_call 21; clear tk2; refine (rcost_n _ _ _ _ _ _ _ _ _ cu _ (HC.out.below S3.out.1) HM.out UU.out HCU).mono ?_; rintro e w4 ⟨rfl, hb4⟩; have S4 := hid (S3.out.step hb4); obtain ⟨sc0, sc1⟩ := box_two (S4.out.2 3 _ rfl); obtain ⟨sv0, sv1, sv2, sv3⟩ := box4 (S4.out.2 2 _ rfl))
          | (go_at_call 21; refine (rcost_n _ _ _ _ _ _ _ _ _ cv _ (HC.out.below S4.out.1) HM.out HV.out HCV).mono ?_; rintro e w5 ⟨rfl, hb5⟩; have S5 := hid (S4.out.step hb5); obtain ⟨tc0, tc1⟩ := box_two (S5.out.2 3 _ rfl); obtain ⟨tv0, tv1, tv2, tv3⟩ := box4 (S5.out.2 2 _ rfl))
          | (go_at_call 22; refine (places6 _ _ _ _ _ _ _ _ _ _ (HC.out.below S5.out.1) HM.out HV.out HNV.out HSM.out).mono ?_; rintro e w6 ⟨⟨pa, pn', pc, rfl, hpr⟩, hb6⟩; have S6 := hid (S5.out.step hb6)))
        obtain rfl : pn' = pn := by rw [← HPN.out]; exact hpr.1
        have HPR := hid hpr
        obtain ⟨LS, hLS⟩ : ∃ LS : List (Nat × Array Value × TypeId), [(w1.heap.size, #[.int .u8 u0, .int .u8 u1, .int .u8 u2, .int .u8 u3], 26), (w.heap.size + 2, #[.int .u8 z0, .int .u8 z1, .int .u8 z2, .int .u8 z3], 26), (w.heap.size + 1, #[.int .u8 v0, .int .u8 v1, .int .u8 v2, .int .u8 v3], 26), (w.heap.size, #[.slice a n c, .int .i64 M], 24)] = LS := ⟨_, rfl⟩
        have SL : Hid (St w w6 LS) := hid (by rw [← hLS]; exact S6.out)
        have GL : Hid (∀ x, St w x LS → (x.cell? ⟨w.heap.size, 0, none⟩ = some (.slice a n c) ∧ x.cell? ⟨w.heap.size, 1, none⟩ = some (.int .i64 M)) ∧ (x.cell? ⟨w.heap.size + 1, 0, none⟩ = some (.int .u8 v0) ∧ x.cell? ⟨w.heap.size + 1, 1, none⟩ = some (.int .u8 v1) ∧ x.cell? ⟨w.heap.size + 1, 2, none⟩ = some (.int .u8 v2) ∧ x.cell? ⟨w.heap.size + 1, 3, none⟩ = some (.int .u8 v3)) ∧ (x.cell? ⟨w1.heap.size, 0, none⟩ = some (.int .u8 u0) ∧ x.cell? ⟨w1.heap.size, 1, none⟩ = some (.int .u8 u1) ∧ x.cell? ⟨w1.heap.size, 2, none⟩ = some (.int .u8 u2) ∧ x.cell? ⟨w1.heap.size, 3, none⟩ = some (.int .u8 u3))) := hid (by
          intro x h
          rw [← hLS] at h
          exact ⟨box_two (h.2 3 _ rfl), box4 (h.2 2 _ rfl), box4 (h.2 0 _ rfl)⟩)
        have LTS : Hid (∀ (i : Nat) p, LS[i]? = some p → p.1 < w6.heap.size) := hid fun i p hp => heap_lt (SL.out.2 i p hp)
        have P0 : Hid (((0 : Nat) : Int) = (tot ds [v0, v1, v2, v3] [u0, u1, u2, u3] n ((pls ds [v0, v1, v2, v3] n).take 0) : Int)) := hid (by simp [tot])
        clear hpr hLS T1 S1 S2 S3 S4 S5 S6
        generalize w1.heap.size = P7 at GL
        go_loopg [9, 10] pn' (fun g vn vi wr => ∃ (i N : Nat), vi = .int .i64 i ∧ vn = .int .i64 N ∧ Hid (g + i = pn') ∧ N ≤ 5000 * 600 ∧ Hid ((N : Int) = (tot ds [v0, v1, v2, v3] [u0, u1, u2, u3] n ((pls ds [v0, v1, v2, v3] n).take i) : Int)) ∧ N ≤ i * 5000 ∧ Hid (St w wr LS) ∧ Hid (Below w6.heap.size w6 wr))
        case atStart => exact ⟨0, 0, rfl, rfl, hid (by omega), by omega, P0, by omega, SL, hid (Below.refl _ _)⟩
        case round =>
          obtain ⟨i, N, rfl, rfl, HG, hN, HT, hNi, SR, BR⟩ := hrel
          rename World => W7
          have hgi := HG.out
          obtain ⟨⟨c0, c1⟩, ⟨cv0, cv1, cv2, cv3⟩, ⟨cu0, cu1, cu2, cu3⟩⟩ := GL.out _ SR.out
          by_cases hi : i < pn'
          · have hii : (i : Int) < (pn' : Int) := by omega
            obtain ⟨pb, poff, rfl, hpb, p0, p1, p2, p3, hpx, x0, x1, x2, x3⟩ := HPR.out.pick BR.out hi
            have hpg := pls_get ds [v0, v1, v2, v3] n i (by rw [HPN.out]; exact hi)
            rw [hpx] at hpg
            have hpe : ((p0, p1, p2, p3) : Nd) = dgr ds [v0, v1, v2, v3] n i (0, 0, 0, 0) := by simpa using hpg
            have hfi := HFIB.out i
            rw [← hpe] at hfi
            have HRP := hid hfi.1
            have UP := hid (lst_u8 hfi.2)
            have HPX := hid hpx
            have hfe : fib ds M v0 v1 v2 v3 p0 p1 p2 p3 u0 u1 u2 u3 = fibs ds [v0, v1, v2, v3] [p0, p1, p2, p3] [u0, u1, u2, u3] n := by rw [E1.out]; exact fib_4 hfi.1 BUV.out (by rw [← E1.out]; exact HFL.out _)
            obtain ⟨fl, hfl⟩ : ∃ y, (fibs ds [v0, v1, v2, v3] [p0, p1, p2, p3] [u0, u1, u2, u3] n).length = y := ⟨_, rfl⟩
            have hfl5 := HFL.out [p0, p1, p2, p3]
            rw [hfl] at hfl5
            obtain ⟨l, hl⟩ : ∃ y, fibs ds [v0, v1, v2, v3] [p0, p1, p2, p3] [u0, u1, u2, u3] n = y := ⟨_, rfl⟩
            have HFE : Hid (fib ds M v0 v1 v2 v3 p0 p1 p2 p3 u0 u1 u2 u3 = l ∧ l.length = fl) := hid ⟨by rw [hfe, hl], by rw [← hl]; exact hfl⟩
            have HRI : Hid (l.Pairwise (fun a b => kv a < kv b)) := hid (by rw [← hl]; exact fibs_rise ds _ _ _ n n4')
            have HRL : Hid (∀ y ∈ l, rightC ds M [u0, u1, u2, u3] (lst y) = true ∧ ∀ j, j < 4 → U8 (nf y j)) := hid fun y hy => fib_right HNU.out UU.out (by rw [← E1.out]; exact n4') (by rw [← hl, E1.out] at hy; exact hy)
            have HTL : Hid (∀ y ∈ l, ∀ k, k < 4 → toX ds [u0, u1, u2, u3] [v0, v1, v2, v3] (lst y) k = [p0, p1, p2, p3].getD k 0) := hid fun y hy k hk => fib_to HRP.out UP.out (by rw [← E1.out]; exact n4') (by rw [← hl, E1.out] at hy; exact hy) hk
            have HFT : Hid ((fibs ds [v0, v1, v2, v3] [p0, p1, p2, p3] [u0, u1, u2, u3] n).length = fl) := hid hfl
            have hfll := HFE.out.2
            clear hpg hpe hfi hpx hfe hfl hl
            have hpbw : pb < W7.heap.size := hpb
            have hw7 : w.heap.size + 1 < W7.heap.size := by
              by_cases h : w.heap.size + 1 < W7.heap.size
              · exact h
              · have := World.block_lt_of_cell? _ _ cv0; exact absurd this h
            have hP7 : P7 < W7.heap.size := World.block_lt_of_cell? _ _ cu0
            have KS : Hid (∀ x', Below W7.heap.size W7 x' → Below W7.heap.size W7 x' ∧ x'.cell? ⟨w.heap.size, 0, none⟩ = some (.slice a n c) ∧ x'.cell? ⟨w.heap.size, 1, none⟩ = some (.int .i64 M) ∧ x'.cell? ⟨w.heap.size + 1, 0, none⟩ = some (.int .u8 v0) ∧ x'.cell? ⟨w.heap.size + 1, 1, none⟩ = some (.int .u8 v1) ∧ x'.cell? ⟨w.heap.size + 1, 2, none⟩ = some (.int .u8 v2) ∧ x'.cell? ⟨w.heap.size + 1, 3, none⟩ = some (.int .u8 v3) ∧ x'.cell? ⟨P7, 0, none⟩ = some (.int .u8 u0) ∧ x'.cell? ⟨P7, 1, none⟩ = some (.int .u8 u1) ∧ x'.cell? ⟨P7, 2, none⟩ = some (.int .u8 u2) ∧ x'.cell? ⟨P7, 3, none⟩ = some (.int .u8 u3) ∧ x'.cell? ⟨pb, poff + i * 4, none⟩ = some (.int .u8 p0) ∧ x'.cell? ⟨pb, poff + i * 4 + 1, none⟩ = some (.int .u8 p1) ∧ x'.cell? ⟨pb, poff + i * 4 + 2, none⟩ = some (.int .u8 p2) ∧ x'.cell? ⟨pb, poff + i * 4 + 3, none⟩ = some (.int .u8 p3)) :=
              hid fun x' hB => ⟨hB, ((bcell hB).1 _ _ (by omega)).trans c0, ((bcell hB).1 _ _ (by omega)).trans c1, ((bcell hB).1 _ _ hw7).trans cv0, ((bcell hB).1 _ _ hw7).trans cv1, ((bcell hB).1 _ _ hw7).trans cv2, ((bcell hB).1 _ _ hw7).trans cv3, ((bcell hB).1 _ _ hP7).trans cu0, ((bcell hB).1 _ _ hP7).trans cu1, ((bcell hB).1 _ _ hP7).trans cu2, ((bcell hB).1 _ _ hP7).trans cu3, ((bcell hB).1 _ _ hpbw).trans x0, ((bcell hB).1 _ _ hpbw).trans x1, ((bcell hB).1 _ _ hpbw).trans x2, ((bcell hB).1 _ _ hpbw).trans x3⟩
            go_wp2
            go_region_held3 (fun x' => Below W7.heap.size W7 x' ∧ x'.cell? ⟨w.heap.size, 0, none⟩ = some (.slice a n c) ∧ x'.cell? ⟨w.heap.size, 1, none⟩ = some (.int .i64 M) ∧ x'.cell? ⟨w.heap.size + 1, 0, none⟩ = some (.int .u8 v0) ∧ x'.cell? ⟨w.heap.size + 1, 1, none⟩ = some (.int .u8 v1) ∧ x'.cell? ⟨w.heap.size + 1, 2, none⟩ = some (.int .u8 v2) ∧ x'.cell? ⟨w.heap.size + 1, 3, none⟩ = some (.int .u8 v3) ∧ x'.cell? ⟨P7, 0, none⟩ = some (.int .u8 u0) ∧ x'.cell? ⟨P7, 1, none⟩ = some (.int .u8 u1) ∧ x'.cell? ⟨P7, 2, none⟩ = some (.int .u8 u2) ∧ x'.cell? ⟨P7, 3, none⟩ = some (.int .u8 u3) ∧ x'.cell? ⟨pb, poff + i * 4, none⟩ = some (.int .u8 p0) ∧ x'.cell? ⟨pb, poff + i * 4 + 1, none⟩ = some (.int .u8 p1) ∧ x'.cell? ⟨pb, poff + i * 4 + 2, none⟩ = some (.int .u8 p2) ∧ x'.cell? ⟨pb, poff + i * 4 + 3, none⟩ = some (.int .u8 p3))
              (first | assumption | exact keep_drew KS | exact keep_step (by assumption) (by assumption) KS)
              (first
                | (go_at_call 16; refine (lfiber_n _ _ _ _ _ _ _ _ _ _ _ _ _ _ _ _ _ l fl _ (HC.out.below (bt SR.out.1 (And.left (by assumption)))) HM.out HV.out UP.out UU.out HFE).mono ?_; rintro e w8 ⟨fa, fc, rfl, hfr, hb8⟩; have HFR := hid hfr; clear hfr))
            have B8 : Below W7.heap.size W7 w8 := undrew hb8
            have S8 := hid (SR.out.step B8)
            have BR8 := hid (bt BR.out B8)
            clear hb8 B8 KS c0 c1 cv0 cv1 cv2 cv3 cu0 cu1 cu2 cu3 x0 x1 x2 x3
            go_wp2_with (go_at_call 23; refine (rising_any _ _ _ l _ HFR.out HRI.out (fun y hy => (HRL.out y hy).2)).mono ?_; rintro e w9 ⟨rfl, hb9⟩)
            have S9' := hid (S8.out.step hb9)
            have BR9 := hid (bt BR8.out hb9)
            have HF9 := hid (HFR.out.below hb9)
            clear hb9
            go_loopg [12] fl (fun g2 vi wr => ∃ (k : Nat), vi = .int .i64 k ∧ Hid (g2 + k = fl) ∧ Hid (St w wr LS) ∧ Hid (Below w9.heap.size w9 wr))
            case atStart => exact ⟨0, rfl, hid (by omega), S9', hid (Below.refl _ _)⟩
            case round =>
              obtain ⟨k, rfl, HK, SK, BK⟩ := hrel
              rename World => WA
              have hgk := HK.out
              by_cases hk : k < fl
              · have hki : (k : Int) < (fl : Int) := by omega
                obtain ⟨fb, foff, rfl, hfb, y0, y1, y2, y3, hyx, fy0, fy1, fy2, fy3⟩ := HF9.out.pick BK.out hk
                have hym := List.mem_of_getElem? hyx
                have HYR := hid (HRL.out _ hym).1
                have UY := hid (lst_u8 (HRL.out _ hym).2)
                have HTO : Hid (toB ds M u0 u1 u2 u3 v0 v1 v2 v3 y0 y1 y2 y3 = true ∧ ∀ k, k < 4 → toX ds [u0, u1, u2, u3] [v0, v1, v2, v3] [y0, y1, y2, y3] k = [p0, p1, p2, p3].getD k 0) := hid ⟨toB_4 HYR.out HNV.out BUV.out, HTL.out _ hym⟩
                have HPK := hid (HPR.out.below (bt BR9.out BK.out))
                obtain ⟨pb', poff', epp, hpb', q0, q1, q2, q3⟩ := HPK.out.at HPX.out
                cases epp
                clear hym hyx
                have LTQ : Hid (∀ (i : Nat) p, LS[i]? = some p → p.1 < WA.heap.size) := hid fun i p hp => heap_lt (SK.out.2 i p hp)
                obtain ⟨TT, hTT⟩ : ∃ TT : World → Prop, (fun x => St w x LS ∧ Below w9.heap.size w9 x ∧ (x.cell? ⟨fb, foff + k * 4, none⟩ = some (.int .u8 y0) ∧ x.cell? ⟨fb, foff + k * 4 + 1, none⟩ = some (.int .u8 y1) ∧ x.cell? ⟨fb, foff + k * 4 + 2, none⟩ = some (.int .u8 y2) ∧ x.cell? ⟨fb, foff + k * 4 + 3, none⟩ = some (.int .u8 y3)) ∧ (x.cell? ⟨pb, poff + i * 4, none⟩ = some (.int .u8 p0) ∧ x.cell? ⟨pb, poff + i * 4 + 1, none⟩ = some (.int .u8 p1) ∧ x.cell? ⟨pb, poff + i * 4 + 2, none⟩ = some (.int .u8 p2) ∧ x.cell? ⟨pb, poff + i * 4 + 3, none⟩ = some (.int .u8 p3)) ∧ fb < WA.heap.size ∧ pb < WA.heap.size ∧ WA.heap.size ≤ x.heap.size) = TT := ⟨_, rfl⟩
                have T0 : Hid (TT WA) := hid (by rw [← hTT]; exact ⟨SK.out, BK.out, ⟨fy0, fy1, fy2, fy3⟩, ⟨q0, q1, q2, q3⟩, hfb, hpb', Nat.le_refl _⟩)
                have STP : Hid (∀ x y, Below x.heap.size x y → TT x → TT y) := hid (by
                  rw [← hTT]
                  rintro x y hb ⟨a1, a2, ⟨b1, b2, b3, b4⟩, ⟨d1, d2, d3, d4⟩, a5, a6, a7⟩
                  have l1 : fb < x.heap.size := by omega
                  have l2 : pb < x.heap.size := by omega
                  exact ⟨a1.step hb, bt a2 hb, ⟨((bcell hb).1 _ _ l1).trans b1, ((bcell hb).1 _ _ l1).trans b2, ((bcell hb).1 _ _ l1).trans b3, ((bcell hb).1 _ _ l1).trans b4⟩, ⟨((bcell hb).1 _ _ l2).trans d1, ((bcell hb).1 _ _ l2).trans d2, ((bcell hb).1 _ _ l2).trans d3, ((bcell hb).1 _ _ l2).trans d4⟩, a5, a6, Nat.le_trans a7 hb.size⟩)
                have LW9 : Hid (w9.heap.size ≤ WA.heap.size ∧ w.heap.size ≤ WA.heap.size) := hid ⟨BK.out.size, SK.out.1.size⟩
                have ST4 : Hid (∀ x Q (a b c d : Value), TT x → WA.heap.size ≤ Q → TT ((((x.setCell ⟨Q, 0, none⟩ a).setCell ⟨Q, 1, none⟩ b).setCell ⟨Q, 2, none⟩ c).setCell ⟨Q, 3, none⟩ d)) := hid (by
                  rw [← hTT]
                  rintro x Q a b c d ⟨a1, a2, ⟨b1, b2, b3, b4⟩, ⟨d1, d2, d3, d4⟩, a5, a6, a7⟩ hQ
                  have hl := LW9.out
                  have e : ∀ B o, B < WA.heap.size → ((((x.setCell ⟨Q, 0, none⟩ a).setCell ⟨Q, 1, none⟩ b).setCell ⟨Q, 2, none⟩ c).setCell ⟨Q, 3, none⟩ d).cell? ⟨B, o, none⟩ = x.cell? ⟨B, o, none⟩ := fun B o hB => by
                    rw [cell_other (by omega), cell_other (by omega), cell_other (by omega), cell_other (by omega)]
                  refine ⟨st_set4 a1 (fun i p hp => Nat.lt_of_lt_of_le (LTQ.out i p hp) hQ) (by omega), ?_, ⟨by rw [e _ _ a5]; exact b1, by rw [e _ _ a5]; exact b2, by rw [e _ _ a5]; exact b3, by rw [e _ _ a5]; exact b4⟩, ⟨by rw [e _ _ a6]; exact d1, by rw [e _ _ a6]; exact d2, by rw [e _ _ a6]; exact d3, by rw [e _ _ a6]; exact d4⟩, a5, a6, by simpa using a7⟩
                  exact below4 a2 (show w9.heap.size ≤ Q by omega) a b c d)
                have GT : Hid (∀ x, TT x → St w x LS ∧ Below w9.heap.size w9 x) := hid (by rw [← hTT]; exact fun x h => ⟨h.1, h.2.1⟩)
                have KT : Hid (∀ x, TT x → TT x ∧ x.cell? ⟨w.heap.size, 0, none⟩ = some (.slice a n c) ∧ x.cell? ⟨w.heap.size, 1, none⟩ = some (.int .i64 M) ∧ x.cell? ⟨w.heap.size + 1, 0, none⟩ = some (.int .u8 v0) ∧ x.cell? ⟨w.heap.size + 1, 1, none⟩ = some (.int .u8 v1) ∧ x.cell? ⟨w.heap.size + 1, 2, none⟩ = some (.int .u8 v2) ∧ x.cell? ⟨w.heap.size + 1, 3, none⟩ = some (.int .u8 v3) ∧ x.cell? ⟨P7, 0, none⟩ = some (.int .u8 u0) ∧ x.cell? ⟨P7, 1, none⟩ = some (.int .u8 u1) ∧ x.cell? ⟨P7, 2, none⟩ = some (.int .u8 u2) ∧ x.cell? ⟨P7, 3, none⟩ = some (.int .u8 u3) ∧ x.cell? ⟨fb, foff + k * 4, none⟩ = some (.int .u8 y0) ∧ x.cell? ⟨fb, foff + k * 4 + 1, none⟩ = some (.int .u8 y1) ∧ x.cell? ⟨fb, foff + k * 4 + 2, none⟩ = some (.int .u8 y2) ∧ x.cell? ⟨fb, foff + k * 4 + 3, none⟩ = some (.int .u8 y3) ∧ x.cell? ⟨pb, poff + i * 4, none⟩ = some (.int .u8 p0) ∧ x.cell? ⟨pb, poff + i * 4 + 1, none⟩ = some (.int .u8 p1) ∧ x.cell? ⟨pb, poff + i * 4 + 2, none⟩ = some (.int .u8 p2) ∧ x.cell? ⟨pb, poff + i * 4 + 3, none⟩ = some (.int .u8 p3)) := hid (by
                  intro x h
                  have h' := h
                  rw [← hTT] at h'
                  obtain ⟨a1, a2, ⟨b1, b2, b3, b4⟩, ⟨d1, d2, d3, d4⟩, _⟩ := h'
                  obtain ⟨⟨k0, k1⟩, ⟨k2, k3, k4, k5⟩, ⟨k6, k7, k8, k9⟩⟩ := GL.out _ a1
                  exact ⟨h, k0, k1, k2, k3, k4, k5, k6, k7, k8, k9, b1, b2, b3, b4, d1, d2, d3, d4⟩)
                clear hTT fy0 fy1 fy2 fy3 q0 q1 q2 q3
                go_upto_region 15 with fail
                go_cut [13, 14] (fun pp bb wx => ∃ Q, pp = .pointer (some ⟨Q, 0, none⟩) ∧ bb = .bool true ∧ Hid (TT wx) ∧ Hid (wx.heap[Q]? = some (.cells #[.int .u8 p0, .int .u8 p1, .int .u8 p2, .int .u8 p3] 27)))
                case first =>
                  refine wp_region_noPanic ?_
                  refine wp_region_held_drew (S := fun x => TT x ∧ x.cell? ⟨w.heap.size, 0, none⟩ = some (.slice a n c) ∧ x.cell? ⟨w.heap.size, 1, none⟩ = some (.int .i64 M) ∧ x.cell? ⟨w.heap.size + 1, 0, none⟩ = some (.int .u8 v0) ∧ x.cell? ⟨w.heap.size + 1, 1, none⟩ = some (.int .u8 v1) ∧ x.cell? ⟨w.heap.size + 1, 2, none⟩ = some (.int .u8 v2) ∧ x.cell? ⟨w.heap.size + 1, 3, none⟩ = some (.int .u8 v3) ∧ x.cell? ⟨P7, 0, none⟩ = some (.int .u8 u0) ∧ x.cell? ⟨P7, 1, none⟩ = some (.int .u8 u1) ∧ x.cell? ⟨P7, 2, none⟩ = some (.int .u8 u2) ∧ x.cell? ⟨P7, 3, none⟩ = some (.int .u8 u3) ∧ x.cell? ⟨fb, foff + k * 4, none⟩ = some (.int .u8 y0) ∧ x.cell? ⟨fb, foff + k * 4 + 1, none⟩ = some (.int .u8 y1) ∧ x.cell? ⟨fb, foff + k * 4 + 2, none⟩ = some (.int .u8 y2) ∧ x.cell? ⟨fb, foff + k * 4 + 3, none⟩ = some (.int .u8 y3) ∧ x.cell? ⟨pb, poff + i * 4, none⟩ = some (.int .u8 p0) ∧ x.cell? ⟨pb, poff + i * 4 + 1, none⟩ = some (.int .u8 p1) ∧ x.cell? ⟨pb, poff + i * 4 + 2, none⟩ = some (.int .u8 p2) ∧ x.cell? ⟨pb, poff + i * 4 + 3, none⟩ = some (.int .u8 p3)) (by kernel_rfl) (kq_drew T0 STP KT) (fun hHeld => ?_)
                  refine wpAnyH_take (i := 0) (v := ?_) (by simp only [List.getElem?_toArray, List.getElem?_cons_succ, List.getElem?_cons_zero]; exact rfl) (by kernel_rfl) (by kernel_rfl) (by kernel_rfl) (fun _ _ _ h => h) (Or.inl ⟨by rfl, ?_⟩) (by assumption) ?_
                  rotate_left
                  · intro w hSw
                    try dsimp only at hSw
                    go_simp
                    try with_reducible rfl
                  try simp only [Act.put, List.setIfInBounds_toArray, List.set_cons_zero, List.set_cons_succ]
                  refine wpAnyH_take (i := 1) (v := ?_) (by simp only [List.getElem?_toArray, List.getElem?_cons_succ, List.getElem?_cons_zero]; exact rfl) (by kernel_rfl) (by kernel_rfl) (by kernel_rfl) (fun _ _ _ h => h) (Or.inl ⟨by rfl, ?_⟩) (by assumption) ?_
                  rotate_left
                  · intro w hSw
                    try dsimp only at hSw
                    go_simp
                    try with_reducible rfl
                  try simp only [Act.put, List.setIfInBounds_toArray, List.set_cons_zero, List.set_cons_succ]
                  refine wpAnyH_take (i := 2) (v := ?_) (by simp only [List.getElem?_toArray, List.getElem?_cons_succ, List.getElem?_cons_zero]; exact rfl) (by kernel_rfl) (by kernel_rfl) (by kernel_rfl) (fun _ _ _ h => h) (Or.inl ⟨by rfl, ?_⟩) (by assumption) ?_
                  rotate_left
                  · intro w hSw
                    try dsimp only at hSw
                    go_simp
                    try with_reducible rfl
                  try simp only [Act.put, List.setIfInBounds_toArray, List.set_cons_zero, List.set_cons_succ]
                  refine wpAnyH_take (i := 3) (v := ?_) (by simp only [List.getElem?_toArray, List.getElem?_cons_succ, List.getElem?_cons_zero]; exact rfl) (by kernel_rfl) (by kernel_rfl) (by kernel_rfl) (fun _ _ _ h => h) (Or.inl ⟨by rfl, ?_⟩) (by assumption) ?_
                  rotate_left
                  · intro w hSw
                    try dsimp only at hSw
                    go_simp
                    try with_reducible rfl
                  try simp only [Act.put, List.setIfInBounds_toArray, List.set_cons_zero, List.set_cons_succ]
                  refine wpAnyH_take (i := 4) (v := ?_) (by simp only [List.getElem?_toArray, List.getElem?_cons_succ, List.getElem?_cons_zero]; exact rfl) (by kernel_rfl) (by kernel_rfl) (by kernel_rfl) (fun _ _ _ h => h) (Or.inl ⟨by rfl, ?_⟩) (by assumption) ?_
                  rotate_left
                  · intro w hSw
                    try dsimp only at hSw
                    go_simp
                    try with_reducible rfl
                  try simp only [Act.put, List.setIfInBounds_toArray, List.set_cons_zero, List.set_cons_succ]
                  refine wpAnyH_take (i := 5) (v := ?_) (by simp only [List.getElem?_toArray, List.getElem?_cons_succ, List.getElem?_cons_zero]; exact rfl) (by kernel_rfl) (by kernel_rfl) (by kernel_rfl) (fun _ _ _ h => h) (Or.inl ⟨by rfl, ?_⟩) (by assumption) ?_
                  rotate_left
                  · intro w hSw
                    try dsimp only at hSw
                    go_simp
                    try with_reducible rfl
                  try simp only [Act.put, List.setIfInBounds_toArray, List.set_cons_zero, List.set_cons_succ]
                  refine wpAnyH_take (i := 6) (v := ?_) (by simp only [List.getElem?_toArray, List.getElem?_cons_succ, List.getElem?_cons_zero]; exact rfl) (by kernel_rfl) (by kernel_rfl) (by kernel_rfl) (fun _ _ _ h => h) (Or.inl ⟨by rfl, ?_⟩) (by assumption) ?_
                  rotate_left
                  · intro w hSw
                    try dsimp only at hSw
                    go_simp
                    try with_reducible rfl
                  try simp only [Act.put, List.setIfInBounds_toArray, List.set_cons_zero, List.set_cons_succ]
                  refine wpAnyH_ready (rs := [7, 11]) (by kernel_rfl) (by simp) ?_
                  refine (AllReadyH.cons (by simp only [List.getElem?_toArray, List.getElem?_cons_succ, List.getElem?_cons_zero]; exact rfl) (fun K hK => ?_) (AllReadyH.cons (by simp only [List.getElem?_toArray, List.getElem?_cons_succ, List.getElem?_cons_zero]; exact rfl) (fun K hK => ?_) AllReadyH.nil))
                  · go_simp
                    go_at_call 11; refine (lto_m _ _ _ _ _ _ _ _ _ _ _ _ _ _ _ _ _ p0 p1 p2 p3 _ (HC.out.below (GT.out _ hHeld.1).1.1) HM.out UU.out HV.out UY.out HTO).mono ?_; rintro e wX ⟨rfl, hbX⟩
                    refine hK.out _ _ (kq_step hbX hHeld STP KT) (fun hHeld2 => ?_)
                    clear hK K hHeld
                    have hHeld := hHeld2
                    clear hHeld2
                    have HBX := hid hbX
                    clear hbX
                    have TX1 := hid hHeld.1
                    try simp only [Act.put, List.setIfInBounds_toArray, List.set_cons_zero, List.set_cons_succ]
                    refine wpAnyH_take (i := 8) (v := ?_) (by simp only [List.getElem?_toArray, List.getElem?_cons_succ, List.getElem?_cons_zero]; exact rfl) (by kernel_rfl) (by kernel_rfl) (by kernel_rfl) (fun _ _ _ h => h) (Or.inl ⟨by rfl, ?_⟩) (by assumption) ?_
                    rotate_left
                    · intro w hSw
                      try dsimp only at hSw
                      go_simp
                      try with_reducible rfl
                    try simp only [Act.put, List.setIfInBounds_toArray, List.set_cons_zero, List.set_cons_succ]
                    refine wpAnyH_take (i := 9) (v := ?_) (by simp only [List.getElem?_toArray, List.getElem?_cons_succ, List.getElem?_cons_zero]; exact rfl) (by kernel_rfl) (by kernel_rfl) (by kernel_rfl) (fun _ _ _ h => h) (Or.inl ⟨by rfl, ?_⟩) (by assumption) ?_
                    rotate_left
                    · intro w hSw
                      try dsimp only at hSw
                      go_simp
                      try with_reducible rfl
                    try simp only [Act.put, List.setIfInBounds_toArray, List.set_cons_zero, List.set_cons_succ]
                    refine wpAnyH_take (i := 10) (v := ?_) (by simp only [List.getElem?_toArray, List.getElem?_cons_succ, List.getElem?_cons_zero]; exact rfl) (by kernel_rfl) (by kernel_rfl) (by kernel_rfl) (fun _ _ _ h => h) (Or.inl ⟨by rfl, ?_⟩) (by assumption) ?_
                    rotate_left
                    · intro w hSw
                      try dsimp only at hSw
                      go_simp
                      try with_reducible rfl
                    try simp only [Act.put, List.setIfInBounds_toArray, List.set_cons_zero, List.set_cons_succ]
                    refine wpAnyH_ready (rs := [11]) (by kernel_rfl) (by simp) ?_
                    refine (AllReadyH.cons (by simp only [List.getElem?_toArray, List.getElem?_cons_succ, List.getElem?_cons_zero]; exact rfl) (fun K hK => ?_) AllReadyH.nil)
                    go_simp
                    refine hK.out _ _ (kq_step ((Below.refl _ _).alloc (Nat.le_refl _) _) hHeld STP KT) (fun hHeld2 => ?_)
                    clear hK K hHeld
                    have hHeld := hHeld2
                    clear hHeld2
                    have HQ1 := hid (heap_alloc_new wX (.cells #[.int .u8 0, .int .u8 0, .int .u8 0, .int .u8 0] 27))
                    try simp only [Act.put, List.setIfInBounds_toArray, List.set_cons_zero, List.set_cons_succ]
                    refine wpAnyH_ready (rs := [12]) (by kernel_rfl) (by simp) ?_
                    refine (AllReadyH.cons (by simp only [List.getElem?_toArray, List.getElem?_cons_succ, List.getElem?_cons_zero]; exact rfl) (fun K hK => ?_) AllReadyH.nil)
                    go_simp
                    refine hK.out _ _ (KT.out _ (STP.out wX (wX.alloc (.cells #[.int .u8 p0, .int .u8 p1, .int .u8 p2, .int .u8 p3] 27)) ((Below.refl _ _).alloc (Nat.le_refl _) _) TX1.out)) (fun hHeld2 => ?_)
                    clear hK K hHeld
                    have hHeld := hHeld2
                    clear hHeld2
                    have OF := heap_alloc_new wX (.cells #[.int .u8 p0, .int .u8 p1, .int .u8 p2, .int .u8 p3] 27)
                    try simp only [Act.put, List.setIfInBounds_toArray, List.set_cons_zero, List.set_cons_succ]
                    refine wpAnyH_take (i := 13) (v := ?_) (by simp only [List.getElem?_toArray, List.getElem?_cons_succ, List.getElem?_cons_zero]; exact rfl) (by kernel_rfl) (by kernel_rfl) (by kernel_rfl) (fun _ _ _ h => h) (Or.inl ⟨by rfl, ?_⟩) (by assumption) ?_
                    rotate_left
                    · intro w hSw
                      try dsimp only at hSw
                      go_simp
                      try with_reducible rfl
                    try simp only [Act.put, List.setIfInBounds_toArray, List.set_cons_zero, List.set_cons_succ]
                    refine wpAnyH_done (by kernel_rfl) ?_ _
                    refine NoPanic.normal ?_
                    have TF := hid hHeld.1
                    have OF := hid OF
                    go_wp2_with fail
                    go_meet
                    exact ⟨_, rfl, rfl, TF, OF⟩
                  · go_simp
                    refine hK.out _ _ (KT.out _ (STP.out _ _ (((Below.refl _ _).alloc (Nat.le_refl _) _).drew) T0.out)) (fun hHeld2 => ?_)
                    clear hK K hHeld
                    have hHeld := hHeld2
                    clear hHeld2
                    have HQ1 := hid (heap_alloc_new WA (.cells #[.int .u8 0, .int .u8 0, .int .u8 0, .int .u8 0] 27))
                    try simp only [Act.put, List.setIfInBounds_toArray, List.set_cons_zero, List.set_cons_succ]
                    refine wpAnyH_ready (rs := [7]) (by kernel_rfl) (by simp) ?_
                    refine (AllReadyH.cons (by simp only [List.getElem?_toArray, List.getElem?_cons_succ, List.getElem?_cons_zero]; exact rfl) (fun K hK => ?_) AllReadyH.nil)
                    go_simp
                    go_at_call 11; refine (lto_m _ _ _ _ _ _ _ _ _ _ _ _ _ _ _ _ _ p0 p1 p2 p3 _ (HC.out.below (GT.out _ hHeld.1).1.1) HM.out UU.out HV.out UY.out HTO).mono ?_; rintro e wX ⟨rfl, hbX⟩
                    refine hK.out _ _ (kq_step hbX hHeld STP KT) (fun hHeld2 => ?_)
                    clear hK K hHeld
                    have hHeld := hHeld2
                    clear hHeld2
                    have HQ2 := hid (keep_blk HQ1.out (undrew hbX))
                    obtain ⟨r0, r1, r2, r3⟩ := box4 HQ2.out
                    obtain ⟨g0, g1, g2, g3⟩ := froz4 HQ2.out
                    clear hbX
                    try simp only [Act.put, List.setIfInBounds_toArray, List.set_cons_zero, List.set_cons_succ]
                    refine wpAnyH_take (i := 8) (v := ?_) (by simp only [List.getElem?_toArray, List.getElem?_cons_succ, List.getElem?_cons_zero]; exact rfl) (by kernel_rfl) (by kernel_rfl) (by kernel_rfl) (fun _ _ _ h => h) (Or.inl ⟨by rfl, ?_⟩) (by assumption) ?_
                    rotate_left
                    · intro w hSw
                      try dsimp only at hSw
                      go_simp
                      try with_reducible rfl
                    try simp only [Act.put, List.setIfInBounds_toArray, List.set_cons_zero, List.set_cons_succ]
                    refine wpAnyH_take (i := 9) (v := ?_) (by simp only [List.getElem?_toArray, List.getElem?_cons_succ, List.getElem?_cons_zero]; exact rfl) (by kernel_rfl) (by kernel_rfl) (by kernel_rfl) (fun _ _ _ h => h) (Or.inl ⟨by rfl, ?_⟩) (by assumption) ?_
                    rotate_left
                    · intro w hSw
                      try dsimp only at hSw
                      go_simp
                      try with_reducible rfl
                    try simp only [Act.put, List.setIfInBounds_toArray, List.set_cons_zero, List.set_cons_succ]
                    refine wpAnyH_take (i := 10) (v := ?_) (by simp only [List.getElem?_toArray, List.getElem?_cons_succ, List.getElem?_cons_zero]; exact rfl) (by kernel_rfl) (by kernel_rfl) (by kernel_rfl) (fun _ _ _ h => h) (Or.inl ⟨by rfl, ?_⟩) (by assumption) ?_
                    rotate_left
                    · intro w hSw
                      try dsimp only at hSw
                      go_simp
                      try with_reducible rfl
                    try simp only [Act.put, List.setIfInBounds_toArray, List.set_cons_zero, List.set_cons_succ]
                    refine wpAnyH_ready (rs := [12]) (by kernel_rfl) (by simp) ?_
                    refine (AllReadyH.cons (by simp only [List.getElem?_toArray, List.getElem?_cons_succ, List.getElem?_cons_zero]; exact rfl) (fun K hK => ?_) AllReadyH.nil)
                    go_simp
                    have OF := store4 HQ2.out (.int .u8 p0) (.int .u8 p1) (.int .u8 p2) (.int .u8 p3)
                    refine hK.out _ _ (KT.out _ (ST4.out _ _ _ _ _ _ hHeld.1 (Nat.le_refl _))) (fun hHeld2 => ?_)
                    clear hK K hHeld
                    have hHeld := hHeld2
                    clear hHeld2
                    try simp only [Act.put, List.setIfInBounds_toArray, List.set_cons_zero, List.set_cons_succ]
                    refine wpAnyH_take (i := 13) (v := ?_) (by simp only [List.getElem?_toArray, List.getElem?_cons_succ, List.getElem?_cons_zero]; exact rfl) (by kernel_rfl) (by kernel_rfl) (by kernel_rfl) (fun _ _ _ h => h) (Or.inl ⟨by rfl, ?_⟩) (by assumption) ?_
                    rotate_left
                    · intro w hSw
                      try dsimp only at hSw
                      go_simp
                      try with_reducible rfl
                    try simp only [Act.put, List.setIfInBounds_toArray, List.set_cons_zero, List.set_cons_succ]
                    refine wpAnyH_done (by kernel_rfl) ?_ _
                    refine NoPanic.normal ?_
                    have TF := hid hHeld.1
                    have OF := hid OF
                    go_wp2_with fail
                    go_meet
                    exact ⟨_, rfl, rfl, TF, OF⟩
                case rest =>
                  obtain ⟨Q, rfl, rfl, TX, HQ⟩ := hcut
                  rename World => WB
                  have KU : Hid (∀ x, Below WB.heap.size WB x → Below WB.heap.size WB x ∧ x.cell? ⟨w.heap.size, 0, none⟩ = some (.slice a n c) ∧ x.cell? ⟨w.heap.size, 1, none⟩ = some (.int .i64 M) ∧ x.cell? ⟨P7, 0, none⟩ = some (.int .u8 u0) ∧ x.cell? ⟨P7, 1, none⟩ = some (.int .u8 u1) ∧ x.cell? ⟨P7, 2, none⟩ = some (.int .u8 u2) ∧ x.cell? ⟨P7, 3, none⟩ = some (.int .u8 u3) ∧ x.cell? ⟨fb, foff + k * 4, none⟩ = some (.int .u8 y0) ∧ x.cell? ⟨fb, foff + k * 4 + 1, none⟩ = some (.int .u8 y1) ∧ x.cell? ⟨fb, foff + k * 4 + 2, none⟩ = some (.int .u8 y2) ∧ x.cell? ⟨fb, foff + k * 4 + 3, none⟩ = some (.int .u8 y3) ∧ x.cell? ⟨pb, poff + i * 4, none⟩ = some (.int .u8 p0) ∧ x.cell? ⟨pb, poff + i * 4 + 1, none⟩ = some (.int .u8 p1) ∧ x.cell? ⟨pb, poff + i * 4 + 2, none⟩ = some (.int .u8 p2) ∧ x.cell? ⟨pb, poff + i * 4 + 3, none⟩ = some (.int .u8 p3) ∧ x.cell? ⟨Q, 0, none⟩ = some (.int .u8 p0) ∧ x.cell? ⟨Q, 1, none⟩ = some (.int .u8 p1) ∧ x.cell? ⟨Q, 2, none⟩ = some (.int .u8 p2) ∧ x.cell? ⟨Q, 3, none⟩ = some (.int .u8 p3)) := hid fun x hB => by
                    obtain ⟨h, k0, k1, k2, k3, k4, k5, k6, k7, k8, k9, b1, b2, b3, b4, d1, d2, d3, d4⟩ := KT.out _ (STP.out _ _ hB TX.out)
                    obtain ⟨r0, r1, r2, r3⟩ := box4 (keep_blk HQ.out hB)
                    exact ⟨hB, k0, k1, k6, k7, k8, k9, b1, b2, b3, b4, d1, d2, d3, d4, r0, r1, r2, r3⟩
                  go_wp2
                  refine wp_region_noPanic ?_
                  refine wp_region_held_drew (S := fun x => Below WB.heap.size WB x ∧ x.cell? ⟨w.heap.size, 0, none⟩ = some (.slice a n c) ∧ x.cell? ⟨w.heap.size, 1, none⟩ = some (.int .i64 M) ∧ x.cell? ⟨P7, 0, none⟩ = some (.int .u8 u0) ∧ x.cell? ⟨P7, 1, none⟩ = some (.int .u8 u1) ∧ x.cell? ⟨P7, 2, none⟩ = some (.int .u8 u2) ∧ x.cell? ⟨P7, 3, none⟩ = some (.int .u8 u3) ∧ x.cell? ⟨fb, foff + k * 4, none⟩ = some (.int .u8 y0) ∧ x.cell? ⟨fb, foff + k * 4 + 1, none⟩ = some (.int .u8 y1) ∧ x.cell? ⟨fb, foff + k * 4 + 2, none⟩ = some (.int .u8 y2) ∧ x.cell? ⟨fb, foff + k * 4 + 3, none⟩ = some (.int .u8 y3) ∧ x.cell? ⟨pb, poff + i * 4, none⟩ = some (.int .u8 p0) ∧ x.cell? ⟨pb, poff + i * 4 + 1, none⟩ = some (.int .u8 p1) ∧ x.cell? ⟨pb, poff + i * 4 + 2, none⟩ = some (.int .u8 p2) ∧ x.cell? ⟨pb, poff + i * 4 + 3, none⟩ = some (.int .u8 p3) ∧ x.cell? ⟨Q, 0, none⟩ = some (.int .u8 p0) ∧ x.cell? ⟨Q, 1, none⟩ = some (.int .u8 p1) ∧ x.cell? ⟨Q, 2, none⟩ = some (.int .u8 p2) ∧ x.cell? ⟨Q, 3, none⟩ = some (.int .u8 p3)) (by kernel_rfl) (keep_drew KU) (fun hHeld => ?_)
                  refine wpAnyH_take (i := 0) (v := ?_) (by simp only [List.getElem?_toArray, List.getElem?_cons_succ, List.getElem?_cons_zero]; exact rfl) (by kernel_rfl) (by kernel_rfl) (by kernel_rfl) (fun _ _ _ h => h) (Or.inl ⟨by rfl, ?_⟩) (by assumption) ?_
                  rotate_left
                  · intro w hSw
                    try dsimp only at hSw
                    go_simp
                    try with_reducible rfl
                  try simp only [Act.put, List.setIfInBounds_toArray, List.set_cons_zero, List.set_cons_succ]
                  refine wpAnyH_take (i := 1) (v := ?_) (by simp only [List.getElem?_toArray, List.getElem?_cons_succ, List.getElem?_cons_zero]; exact rfl) (by kernel_rfl) (by kernel_rfl) (by kernel_rfl) (fun _ _ _ h => h) (Or.inl ⟨by rfl, ?_⟩) (by assumption) ?_
                  rotate_left
                  · intro w hSw
                    try dsimp only at hSw
                    go_simp
                    try with_reducible rfl
                  try simp only [Act.put, List.setIfInBounds_toArray, List.set_cons_zero, List.set_cons_succ]
                  refine wpAnyH_take (i := 2) (v := ?_) (by simp only [List.getElem?_toArray, List.getElem?_cons_succ, List.getElem?_cons_zero]; exact rfl) (by kernel_rfl) (by kernel_rfl) (by kernel_rfl) (fun _ _ _ h => h) (Or.inl ⟨by rfl, ?_⟩) (by assumption) ?_
                  rotate_left
                  · intro w hSw
                    try dsimp only at hSw
                    go_simp
                    try with_reducible rfl
                  try simp only [Act.put, List.setIfInBounds_toArray, List.set_cons_zero, List.set_cons_succ]
                  refine wpAnyH_take (i := 3) (v := ?_) (by simp only [List.getElem?_toArray, List.getElem?_cons_succ, List.getElem?_cons_zero]; exact rfl) (by kernel_rfl) (by kernel_rfl) (by kernel_rfl) (fun _ _ _ h => h) (Or.inl ⟨by rfl, ?_⟩) (by assumption) ?_
                  rotate_left
                  · intro w hSw
                    try dsimp only at hSw
                    go_simp
                    try with_reducible rfl
                  try simp only [Act.put, List.setIfInBounds_toArray, List.set_cons_zero, List.set_cons_succ]
                  refine wpAnyH_take (i := 4) (v := ?_) (by simp only [List.getElem?_toArray, List.getElem?_cons_succ, List.getElem?_cons_zero]; exact rfl) (by kernel_rfl) (by kernel_rfl) (by kernel_rfl) (fun _ _ _ h => h) (Or.inl ⟨by rfl, ?_⟩) (by assumption) ?_
                  rotate_left
                  · intro w hSw
                    try dsimp only at hSw
                    go_simp
                    try with_reducible rfl
                  try simp only [Act.put, List.setIfInBounds_toArray, List.set_cons_zero, List.set_cons_succ]
                  refine wpAnyH_take (i := 5) (v := ?_) (by simp only [List.getElem?_toArray, List.getElem?_cons_succ, List.getElem?_cons_zero]; exact rfl) (by kernel_rfl) (by kernel_rfl) (by kernel_rfl) (fun _ _ _ h => h) (Or.inl ⟨by rfl, ?_⟩) (by assumption) ?_
                  rotate_left
                  · intro w hSw
                    try dsimp only at hSw
                    go_simp
                    try with_reducible rfl
                  try simp only [Act.put, List.setIfInBounds_toArray, List.set_cons_zero, List.set_cons_succ]
                  refine wpAnyH_take (i := 6) (v := ?_) (by simp only [List.getElem?_toArray, List.getElem?_cons_succ, List.getElem?_cons_zero]; exact rfl) (by kernel_rfl) (by kernel_rfl) (by kernel_rfl) (fun _ _ _ h => h) (Or.inl ⟨by rfl, ?_⟩) (by assumption) ?_
                  rotate_left
                  · intro w hSw
                    try dsimp only at hSw
                    go_simp
                    try with_reducible rfl
                  try simp only [Act.put, List.setIfInBounds_toArray, List.set_cons_zero, List.set_cons_succ]
                  refine wpAnyH_take (i := 7) (v := ?_) (by simp only [List.getElem?_toArray, List.getElem?_cons_succ, List.getElem?_cons_zero]; exact rfl) (by kernel_rfl) (by kernel_rfl) (by kernel_rfl) (fun _ _ _ h => h) (Or.inl ⟨by rfl, ?_⟩) (by assumption) ?_
                  rotate_left
                  · intro w hSw
                    try dsimp only at hSw
                    go_simp
                    try with_reducible rfl
                  try simp only [Act.put, List.setIfInBounds_toArray, List.set_cons_zero, List.set_cons_succ]
                  refine wpAnyH_take (i := 8) (v := ?_) (by simp only [List.getElem?_toArray, List.getElem?_cons_succ, List.getElem?_cons_zero]; exact rfl) (by kernel_rfl) (by kernel_rfl) (by kernel_rfl) (fun _ _ _ h => h) (Or.inl ⟨by rfl, ?_⟩) (by assumption) ?_
                  rotate_left
                  · intro w hSw
                    try dsimp only at hSw
                    go_simp
                    try with_reducible rfl
                  try simp only [Act.put, List.setIfInBounds_toArray, List.set_cons_zero, List.set_cons_succ]
                  refine wpAnyH_take (i := 9) (v := ?_) (by simp only [List.getElem?_toArray, List.getElem?_cons_succ, List.getElem?_cons_zero]; exact rfl) (by kernel_rfl) (by kernel_rfl) (by kernel_rfl) (fun _ _ _ h => h) (Or.inl ⟨by rfl, ?_⟩) (by assumption) ?_
                  rotate_left
                  · intro w hSw
                    try dsimp only at hSw
                    go_simp
                    try with_reducible rfl
                  try simp only [Act.put, List.setIfInBounds_toArray, List.set_cons_zero, List.set_cons_succ]
                  refine wpAnyH_take (i := 10) (v := ?_) (by simp only [List.getElem?_toArray, List.getElem?_cons_succ, List.getElem?_cons_zero]; exact rfl) (by kernel_rfl) (by kernel_rfl) (by kernel_rfl) (fun _ _ _ h => h) (Or.inl ⟨by rfl, ?_⟩) (by assumption) ?_
                  rotate_left
                  · intro w hSw
                    try dsimp only at hSw
                    go_simp
                    try with_reducible rfl
                  try simp only [Act.put, List.setIfInBounds_toArray, List.set_cons_zero, List.set_cons_succ]
                  refine wpAnyH_take (i := 11) (v := ?_) (by simp only [List.getElem?_toArray, List.getElem?_cons_succ, List.getElem?_cons_zero]; exact rfl) (by kernel_rfl) (by kernel_rfl) (by kernel_rfl) (fun _ _ _ h => h) (Or.inl ⟨by rfl, ?_⟩) (by assumption) ?_
                  rotate_left
                  · intro w hSw
                    try dsimp only at hSw
                    go_simp
                    try with_reducible rfl
                  try simp only [Act.put, List.setIfInBounds_toArray, List.set_cons_zero, List.set_cons_succ]
                  refine wpAnyH_take (i := 12) (v := ?_) (by simp only [List.getElem?_toArray, List.getElem?_cons_succ, List.getElem?_cons_zero]; exact rfl) (by kernel_rfl) (by kernel_rfl) (by kernel_rfl) (fun _ _ _ h => h) (Or.inl ⟨by rfl, ?_⟩) (by assumption) ?_
                  rotate_left
                  · intro w hSw
                    try dsimp only at hSw
                    go_simp
                    try with_reducible rfl
                  try simp only [Act.put, List.setIfInBounds_toArray, List.set_cons_zero, List.set_cons_succ]
                  refine wpAnyH_take (i := 13) (v := ?_) (by simp only [List.getElem?_toArray, List.getElem?_cons_succ, List.getElem?_cons_zero]; exact rfl) (by kernel_rfl) (by kernel_rfl) (by kernel_rfl) (fun _ _ _ h => h) (Or.inl ⟨by rfl, ?_⟩) (by assumption) ?_
                  rotate_left
                  · intro w hSw
                    try dsimp only at hSw
                    go_simp
                    try with_reducible rfl
                  try simp only [Act.put, List.setIfInBounds_toArray, List.set_cons_zero, List.set_cons_succ]
                  refine wpAnyH_take (i := 14) (v := ?_) (by simp only [List.getElem?_toArray, List.getElem?_cons_succ, List.getElem?_cons_zero]; exact rfl) (by kernel_rfl) (by kernel_rfl) (by kernel_rfl) (fun _ _ _ h => h) (Or.inl ⟨by rfl, ?_⟩) (by assumption) ?_
                  rotate_left
                  · intro w hSw
                    try dsimp only at hSw
                    go_simp
                    try with_reducible rfl
                  try simp only [Act.put, List.setIfInBounds_toArray, List.set_cons_zero, List.set_cons_succ]
                  refine wpAnyH_take (i := 15) (v := ?_) (by simp only [List.getElem?_toArray, List.getElem?_cons_succ, List.getElem?_cons_zero]; exact rfl) (by kernel_rfl) (by kernel_rfl) (by kernel_rfl) (fun _ _ _ h => h) (Or.inl ⟨by rfl, ?_⟩) (by assumption) ?_
                  rotate_left
                  · intro w hSw
                    try dsimp only at hSw
                    go_simp
                    try with_reducible rfl
                  try simp only [Act.put, List.setIfInBounds_toArray, List.set_cons_zero, List.set_cons_succ]
                  refine wpAnyH_take (i := 16) (v := ?_) (by simp only [List.getElem?_toArray, List.getElem?_cons_succ, List.getElem?_cons_zero]; exact rfl) (by kernel_rfl) (by kernel_rfl) (by kernel_rfl) (fun _ _ _ h => h) (Or.inl ⟨by rfl, ?_⟩) (by assumption) ?_
                  rotate_left
                  · intro w hSw
                    try dsimp only at hSw
                    go_simp
                    try with_reducible rfl
                  try simp only [Act.put, List.setIfInBounds_toArray, List.set_cons_zero, List.set_cons_succ]
                  refine wpAnyH_ready (rs := [17]) (by kernel_rfl) (by simp) ?_
                  refine AllReadyH.cons (by simp only [List.getElem?_toArray, List.getElem?_cons_succ, List.getElem?_cons_zero]; exact rfl) (fun K hK => ?_) AllReadyH.nil
                  go_simp
                  (go_at_call 19; refine (rright_n _ _ _ _ _ _ _ _ _ _ _ _ _ _ _ (HC.out.below (bt (GT.out _ TX.out).1.1 hHeld.1)) HM.out UU.out UY.out HYR).mono ?_; rintro e wc1 ⟨rfl, hb1⟩)
                  refine hK.out _ _ (keep_step hb1 hHeld KU) (fun hHeld2 => ?_)
                  clear hK K hHeld
                  have hHeld := hHeld2
                  clear hHeld2
                  try simp only [Act.put, List.setIfInBounds_toArray, List.set_cons_zero, List.set_cons_succ]
                  refine wpAnyH_take (i := 18) (v := ?_) (by simp only [List.getElem?_toArray, List.getElem?_cons_succ, List.getElem?_cons_zero]; exact rfl) (by kernel_rfl) (by kernel_rfl) (by kernel_rfl) (fun _ _ _ h => h) (Or.inl ⟨by rfl, ?_⟩) (by assumption) ?_
                  rotate_left
                  · intro w hSw
                    try dsimp only at hSw
                    go_simp
                    try with_reducible rfl
                  try simp only [Act.put, List.setIfInBounds_toArray, List.set_cons_zero, List.set_cons_succ]
                  refine wpAnyH_take (i := 19) (v := ?_) (by simp only [List.getElem?_toArray, List.getElem?_cons_succ, List.getElem?_cons_zero]; exact rfl) (by kernel_rfl) (by kernel_rfl) (by kernel_rfl) (fun _ _ _ h => h) (Or.inl ⟨by rfl, ?_⟩) (by assumption) ?_
                  rotate_left
                  · intro w hSw
                    try dsimp only at hSw
                    go_simp
                    try with_reducible rfl
                  try simp only [Act.put, List.setIfInBounds_toArray, List.set_cons_zero, List.set_cons_succ]
                  refine wpAnyH_done (by kernel_rfl) ?_ _
                  refine NoPanic.normal ?_
                  have TE := hid (GT.out _ (STP.out _ _ (undrew hb1) TX.out))
                  clear hHeld KU
                  go_wp2
                  go_roundg (fl - (k + 1))
                  case measure => have := HK.out; omega
                  case rel => exact ⟨k + 1, by go_num, hid (by have := HK.out; omega), hid TE.out.1, hid TE.out.2⟩
              · obtain rfl : k = fl := by omega
                have wN : IntKind.i64.wrap ((N : Int) + (k : Int)) = ((N + k : Nat) : Int) := by rw [← Int.natCast_add]; exact IntWalk.i64_in _ (by omega)
                go_wp2
                go_roundg (pn' - (i + 1))
                case measure => have := HG.out; omega
                case rel =>
                  refine ⟨i + 1, N + k, by go_num, rfl, hid (by have := HG.out; omega), by omega, hid ?_, by omega, SK, hid (bt BR9.out BK.out)⟩
                  have h1 := HT.out
                  have h2 := HFT.out
                  rw [take_more HPX.out, tot_app, tot_one]
                  have h3 : (fibs ds [v0, v1, v2, v3] (lst (p0, p1, p2, p3)) [u0, u1, u2, u3] n).length = k := h2
                  rw [h3]
                  omega
          · obtain rfl : i = pn' := by omega
            have hlast : ((N : Int) == cu) = true := by
              have h1 := HT.out
              rw [take_full HPN.out.symm, HTOT.out] at h1
              simp [h1]
            go_wp2_with (first
              | (go_at_call 21; refine (rcost_n _ _ _ _ _ _ _ _ _ cu _ (HC.out.below SR.out.1) HM.out UU.out HCU).mono ?_; rintro e wC ⟨rfl, hbC⟩)
              | (go_at_call 9; refine (wakes6 _).mono ?_; rintro e wD ⟨rfl, hbD⟩))
            go_ret
            exact ⟨rfl, bt (bt SR.out.1 hbC) hbD⟩

end Go.Proofs.Ytfgphphaopcolaa

/-
  What a bag of values has: its runs are numbers of their kinds, its ends; the walk of the law BagMany.
  Conditions: as each theorem states them.
-/
import Derived.Test.YtgmnnpecihcdhabBV
namespace Go.Proofs.Ytgmnnpecihcdhab
open Go.ChangeShapes Go.WideShapes Go.ChangeAt Go.RowKit
set_option linter.unusedVariables false
set_option linter.unusedSimpArgs false
set_option maxRecDepth 100000

theorem bagOf_ok {l : List Int} (h : ∀ x ∈ l, I64 x) (hn : l.length ≤ 1000000) : ∀ r ∈ bagOf l, nok r := by
  intro r hr
  refine ⟨h _ (bagOf_mem hr), ?_⟩
  have h1 := bagOf_pos l r hr
  have h2 := cn_srt_eq (bagOf_srt l) hr
  have h3 := cn_le (v := r.1) (bagOf_pos l)
  rw [bagOf_tot] at h3
  unfold I64; omega
/-- A bag of one run. -/
theorem bag_one {v n : Int} (h1 : 1 ≤ n) (h2 : n ≤ 1099511627776) : Bag [(v, n)] :=
  ⟨List.pairwise_singleton _ _, (fun r hr => by simp at hr; subst hr; exact h1), by simp [tot]; exact h2⟩
theorem jnl_bag {a b : List Rn} (ha : Bag a) (hb : Bag b) (ht : tot a + tot b ≤ 1099511627776) : Bag (jnl a b) :=
  ⟨jnl_srt ha.1 b, jnl_pos ha.2.1 hb.2.1, by rw [jnl_tot]; exact ht⟩
theorem jnl_ok {a b : List Rn} (ha : Bag a) (hb : Bag b) (ht : tot a + tot b ≤ 1099511627776) (ka : ∀ r ∈ a, nok r) (kb : ∀ r ∈ b, nok r) : ∀ r ∈ jnl a b, nok r := by
  intro r hr
  have h := jnl_bd ha.1 ha.2.1 hb.2.1 ht r hr
  refine ⟨?_, by unfold I64; omega⟩
  rcases jnl_mem hr with ⟨q, hq, e⟩ | ⟨q, hq, e⟩
  · rw [← e]; exact (ka q hq).1
  · rw [← e]; exact (kb q hq).1

set_option maxHeartbeats 8000000 in
theorem many_walk (v x n : Int) (w : World) (hv : I64 v) (hx : I64 x) (hn : U64 n) :
    Calls Try.prog 7 #[.int .i64 v, .int .i64 x, .int .u64 n] w fun e w' => e = .returned (.bool true) ∧ Below w.heap.size w w' := by
  obtain ⟨n1, n2⟩ := hn
  obtain ⟨k, hk⟩ : ∃ k, n % 1099511627776 = k := ⟨_, rfl⟩
  have k1 : 0 ≤ k := by omega
  have k2 : k ≤ 1099511627775 := by omega
  have HV := hid hv
  have HX := hid hx
  obtain ⟨M, hM⟩ : ∃ M, 1099511627776 - k = M := ⟨_, rfl⟩
  have m1 : 1 ≤ M := by omega
  have m2 : M ≤ 1099511627776 := by omega
  have BA := hid (bag_one (v := v) m1 m2)
  have OA : Hid (∀ r ∈ [(v, M)], nok r) := hid (nok1 hv (by unfold I64; omega))
  have BC := hid (bag_one (v := x) (n := k + 1) (by omega) (by omega))
  have OC : Hid (∀ r ∈ [(x, k + 1)], nok r) := hid (nok1 hx (by unfold I64; omega))
  have GA := hid (gd_yes BA.out)
  have QC : Hid (Jn [(v, M)] [(x, k + 1)] = false) := hid (jn_no3 (by simp [tot]; omega))
  have LC := hid (jl_no QC.out)
  have GN : Hid (gd [(v, 1099511627777)] = false) := hid (gd_no (fun h => by have := h.2.2; simp [tot] at this))
  have ON : Hid (∀ r ∈ [(v, (1099511627777 : Int))], nok r) := hid (nok1 hv (by unfold I64; decide))
  have wk : IntKind.i64.wrap (k + 1) = k + 1 := IntWalk.i64_in _ (by omega)
  clear hv hx
  have t1 : True := trivial
  have t2 : True := trivial
  by_cases hz : k = 0
  · subst hz
    obtain rfl : M = 1099511627776 := by omega
    have QB : Hid (Jn [(v, 1099511627776)] [] = true) := hid (jn_yes BA.out bag_nil (by simp [tot]))
    have LB : Hid (Jl [(v, 1099511627776)] [] = [(v, 1099511627776)]) := hid (jl_yes QB.out)
    have TJ : Hid (tl [(v, 1099511627776)] = 1099511627776) := hid (by rw [tl_yes BA.out]; simp [tot])
    have hw1 : IntKind.i64.wrap 1099511627776 = 1099511627776 := by decide
    clear m1 m2 k1 k2 wk
    go_enter Try.func7, Try.ntmps7
    go_upto_region 7 with fail
    have A0 : Hid (NRun ((((w.alloc (.cells #[.int .i64 v, .int .i64 1099511627776] 47)).alloc (.cells #[.int .i64 x, .int .i64 0] 47)).alloc (.cells #[.int .i64 x, .int .i64 1] 47))) (some ⟨w.heap.size, 0, none⟩) 1 1 [(v, 1099511627776)]) := hid (((nrun_one w _ v 1099511627776 _ rfl).below (b1alloc _ _)).below (b1alloc _ _))
    have C0 : Hid (NRun ((((w.alloc (.cells #[.int .i64 v, .int .i64 1099511627776] 47)).alloc (.cells #[.int .i64 x, .int .i64 0] 47)).alloc (.cells #[.int .i64 x, .int .i64 1] 47))) (some ⟨w.heap.size + 1 + 1, 0, none⟩) 1 1 [(x, 0 + 1)]) := hid (nrun_one _ _ x 1 _ (by simp))
    have B0 : Hid (Below w.heap.size w ((((w.alloc (.cells #[.int .i64 v, .int .i64 1099511627776] 47)).alloc (.cells #[.int .i64 x, .int .i64 0] 47)).alloc (.cells #[.int .i64 x, .int .i64 1] 47)))) := hid (bt (b1alloc _ _) (bt (b1alloc _ _) (b1alloc _ _)))
    generalize ((((w.alloc (.cells #[.int .i64 v, .int .i64 1099511627776] 47)).alloc (.cells #[.int .i64 x, .int .i64 0] 47)).alloc (.cells #[.int .i64 x, .int .i64 1] 47))) = W at A0 B0 C0 ⊢
    go_wp2_with (first
      | (go_at_call 18; clear t1; refine (join_m _ none 1 1 0 0 1 [(v, 1099511627776)] [] [(v, 1099511627776)] true _ A0.out (nrun_nil _) OA.out (fun r hr => by cases hr) (by decide) (by decide) LB QB (hid rfl)).mono ?_; rintro e w1 ⟨⟨A1, c1, rfl, hn1⟩, hb1⟩; have P1 := hid hn1; have A1' := hid (A0.out.below hb1); have C1 := hid (C0.out.below hb1); have B1 := hid (bt B0.out hb1); clear hn1 hb1)
      | (go_at_call 18; refine (join_m _ _ 1 1 1 1 0 [(v, 1099511627776)] [(x, 0 + 1)] [] false _ A1'.out C1.out OA.out OC.out (by decide) (by decide) LC QC (hid rfl)).mono ?_; rintro e w2 ⟨⟨A2, c2, rfl, hn2⟩, hb2⟩; have P2 := hid (P1.out.below hb2); have A2' := hid (A1'.out.below hb2); have B2 := hid (bt B1.out hb2); clear hn2 hb2)
      | (go_at_call 10; clear t2; refine (good_m _ 1 1 [(v, 1099511627776)] true _ A2'.out OA.out GA).mono ?_; rintro e w3 ⟨rfl, hb3⟩; have P3 := hid (P2.out.below hb3); have B3 := hid (bt B2.out hb3); clear hb3)
      | (go_at_call 12; refine (count_m A1 1 c1 [(v, 1099511627776)] 1099511627776 _ P3.out OA.out TJ).mono ?_; rintro e w4 ⟨rfl, hb4⟩; have B4 := hid (bt B3.out hb4); clear hb4)
      | (go_at_call 10; refine (good_m _ 1 1 [(v, 1099511627777)] false _ (nrun_one _ _ v 1099511627777 47 (by first | rfl | simp)) ON.out GN).mono ?_; rintro e w5 ⟨rfl, hb5⟩; have B5 := hid (bt B4.out (bt (b1alloc _ _) hb5)); clear hb5)
      | (go_at_call 8; refine (wakes_any _).mono ?_; rintro e wa ⟨rfl, hba⟩; have Ba := hid (bt B5.out hba); clear hba))
    go_ret
    exact ⟨rfl, Ba.out⟩
  · have hzd : (k == 0) = false := by simpa using hz
    have BB := hid (bag_one (v := x) (n := k) (by omega) (by omega))
    have OB : Hid (∀ r ∈ [(x, k)], nok r) := hid (nok1 HX.out (by unfold I64; omega))
    have ht : tot [(v, M)] + tot [(x, k)] = 1099511627776 := by simp [tot]; omega
    have QB : Hid (Jn [(v, M)] [(x, k)] = true) := hid (jn_yes BA.out BB.out (by omega))
    have HJB := hid (jnl_bag BA.out BB.out (by omega))
    have HJO := hid (jnl_ok BA.out BB.out (by omega) OA.out OB.out)
    have HJT : Hid (tl (jnl [(v, M)] [(x, k)]) = 1099511627776) := hid (by rw [tl_yes HJB.out, jnl_tot]; exact ht)
    have HJL := jnl_len [(v, M)] [(x, k)]
    obtain ⟨J, hJ⟩ : ∃ J, jnl [(v, M)] [(x, k)] = J := ⟨_, rfl⟩
    have LB : Hid (Jl [(v, M)] [(x, k)] = J) := hid (by rw [jl_yes QB.out, hJ])
    rw [hJ] at HJB HJO HJT HJL
    obtain ⟨q, hq⟩ : ∃ q, J.length = q := ⟨_, rfl⟩
    have HQ := hid hq
    clear hz ht hJ HJL hq
    go_enter Try.func7, Try.ntmps7
    go_upto_region 7 with fail
    have A0 : Hid (NRun ((((w.alloc (.cells #[.int .i64 v, .int .i64 M] 47)).alloc (.cells #[.int .i64 x, .int .i64 k] 47)).alloc (.cells #[.int .i64 x, .int .i64 (k + 1)] 47))) (some ⟨w.heap.size, 0, none⟩) 1 1 [(v, M)]) := hid (((nrun_one w _ v M _ rfl).below (b1alloc _ _)).below (b1alloc _ _))
    have D0 : Hid (NRun ((((w.alloc (.cells #[.int .i64 v, .int .i64 M] 47)).alloc (.cells #[.int .i64 x, .int .i64 k] 47)).alloc (.cells #[.int .i64 x, .int .i64 (k + 1)] 47))) (some ⟨w.heap.size + 1, 0, none⟩) 1 1 [(x, k)]) := hid ((nrun_one _ _ x k _ (by simp)).below (b1alloc _ _))
    have C0 : Hid (NRun ((((w.alloc (.cells #[.int .i64 v, .int .i64 M] 47)).alloc (.cells #[.int .i64 x, .int .i64 k] 47)).alloc (.cells #[.int .i64 x, .int .i64 (k + 1)] 47))) (some ⟨w.heap.size + 1 + 1, 0, none⟩) 1 1 [(x, k + 1)]) := hid (nrun_one _ _ x (k + 1) _ (by simp))
    have B0 : Hid (Below w.heap.size w ((((w.alloc (.cells #[.int .i64 v, .int .i64 M] 47)).alloc (.cells #[.int .i64 x, .int .i64 k] 47)).alloc (.cells #[.int .i64 x, .int .i64 (k + 1)] 47)))) := hid (bt (b1alloc _ _) (bt (b1alloc _ _) (b1alloc _ _)))
    generalize ((((w.alloc (.cells #[.int .i64 v, .int .i64 M] 47)).alloc (.cells #[.int .i64 x, .int .i64 k] 47)).alloc (.cells #[.int .i64 x, .int .i64 (k + 1)] 47))) = W at A0 B0 C0 D0 ⊢
    go_wp2_with (first
      | (go_at_call 18; clear t1; refine (join_m _ _ 1 1 1 1 q [(v, M)] [(x, k)] J true _ A0.out D0.out OA.out OB.out (by decide) (by decide) LB QB HQ).mono ?_; rintro e w1 ⟨⟨A1, c1, rfl, hn1⟩, hb1⟩; have P1 := hid hn1; have A1' := hid (A0.out.below hb1); have C1 := hid (C0.out.below hb1); have B1 := hid (bt B0.out hb1); clear hn1 hb1)
      | (go_at_call 18; refine (join_m _ _ 1 1 1 1 0 [(v, M)] [(x, k + 1)] [] false _ A1'.out C1.out OA.out OC.out (by decide) (by decide) LC QC (hid rfl)).mono ?_; rintro e w2 ⟨⟨A2, c2, rfl, hn2⟩, hb2⟩; have P2 := hid (P1.out.below hb2); have A2' := hid (A1'.out.below hb2); have B2 := hid (bt B1.out hb2); clear hn2 hb2)
      | (go_at_call 10; clear t2; refine (good_m _ 1 1 [(v, M)] true _ A2'.out OA.out GA).mono ?_; rintro e w3 ⟨rfl, hb3⟩; have P3 := hid (P2.out.below hb3); have B3 := hid (bt B2.out hb3); clear hb3)
      | (go_at_call 12; refine (count_m A1 q c1 J 1099511627776 _ P3.out HJO.out HJT).mono ?_; rintro e w4 ⟨rfl, hb4⟩; have B4 := hid (bt B3.out hb4); clear hb4)
      | (go_at_call 10; refine (good_m _ 1 1 [(v, 1099511627777)] false _ (nrun_one _ _ v 1099511627777 47 (by first | rfl | simp)) ON.out GN).mono ?_; rintro e w5 ⟨rfl, hb5⟩; have B5 := hid (bt B4.out (bt (b1alloc _ _) hb5)); clear hb5)
      | (go_at_call 8; refine (wakes_any _).mono ?_; rintro e wa ⟨rfl, hba⟩; have Ba := hid (bt B5.out hba); clear hba))
    go_ret
    exact ⟨rfl, Ba.out⟩

end Go.Proofs.Ytgmnnpecihcdhab

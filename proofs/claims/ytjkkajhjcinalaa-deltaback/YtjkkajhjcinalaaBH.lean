/-
  What the document's Join return.
  Conditions: as each theorem states them.
-/
import Derived.Test.YtjkkajhjcinalaaG1
namespace Go.Proofs.Ytjkkajhjcinalaa
open Go.ChangeShapes Go.WideShapes Go.ChangeAt Go.RowKit
set_option linter.unusedVariables false
set_option linter.unusedSimpArgs false
set_option maxRecDepth 100000


set_option maxHeartbeats 8000000 in
theorem rjoin_any (a1 a2 : Option Addr) (n c m d : Nat) (l u : List Rn) (w : World) (hl : NRun w a1 n c l) (hu : NRun w a2 m d u) (hk : ∀ r ∈ l, nok r) (hk' : ∀ r ∈ u, nok r) (hn : n ≤ 1000) (hm : m ≤ 1000) :
    Calls Try.prog 67 #[.slice a1 n c, .slice a2 m d] w fun e w' => (∃ A cap, e = .returned (.agg #[.slice A (Jl l u).length cap, .bool (Jn l u)]) ∧ NRun w' A (Jl l u).length cap (Jl l u)) ∧ Below w.heap.size w w' := by
  have HL := hid hl
  have HU := hid hu
  have HK := hid hk
  have HK' := hid hk'
  obtain ⟨l1, l2⟩ := hl.lens
  obtain ⟨u1, u2⟩ := hu.lens
  have EL := hid l1
  have EU := hid u1
  have K0 := hid (kp_new w (.cells #[.slice none 0 0, .bool false] 130))
  have KN : Hid (Jn l u = false → ∀ W, NRun W none 0 0 (Jl l u) ∧ (Jl l u).length = 0) := hid (fun h W => by rw [jl_no h]; exact ⟨nrun_nil W, rfl⟩)
  clear hl hu hk hk' l1 u1
  cases hg : gd l with
  | false =>
    have HG := hid hg
    have HJ := hid (jn_no1 (b := u) hg)
    clear hg
    go_enter Try.func67, Try.ntmps67
    go_upto_region 1 with fail
    generalize w.alloc (.cells #[.slice none 0 0, .bool false] 130) = W0 at K0 ⊢
    obtain ⟨c0, c1⟩ := box_two K0.out.2.2
    go_wp2_with (first
      | (go_at_call 59; refine (rgood_m a1 n c l false _ (HL.out.below K0.out.1) HK.out HG).mono ?_; rintro e w1 ⟨rfl, hb1⟩; have K1 := hid (K0.out.step hb1); obtain ⟨d0, d1⟩ := box_two K1.out.2.2; have f0 := frozen_of_row _ w.heap.size 0 _ _ K1.out.2.2; have f1 := frozen_of_row _ w.heap.size 1 _ _ K1.out.2.2; clear hb1))
    (try simp only [Exit.inBlock, Exit.then])
    show bodyPost Try.prog Try.f67 _ _ _ _
    refine bodyPost_ret (results_cell_row (p := 4) rfl _ _ w.heap.size _ #[.slice none 0 0, .bool false] (0, 0) _ rfl (set2_heap _ _ K1.out.2.2) Try.underlying130 rfl (by kernel_rfl)) rfl ?_
    rw [HJ.out, (KN.out HJ.out w).2]
    exact ⟨⟨none, 0, rfl, (KN.out HJ.out _).1⟩, set2_below _ _ K1.out⟩
  | true =>
    have HG := hid hg
    have HB := hid (gd_iff.1 hg)
    clear hg
    cases hg' : gd u with
    | false =>
      have HG' := hid hg'
      have HJ := hid (jn_no2 (a := l) hg')
      clear hg'
      have t1 : True := trivial
      go_enter Try.func67, Try.ntmps67
      go_upto_region 1 with fail
      generalize w.alloc (.cells #[.slice none 0 0, .bool false] 130) = W0 at K0 ⊢
      obtain ⟨c0, c1⟩ := box_two K0.out.2.2
      go_wp2_with (first
        | (go_at_call 59; clear t1; refine (rgood_m a1 n c l true _ (HL.out.below K0.out.1) HK.out HG).mono ?_; rintro e w1 ⟨rfl, hb1⟩; have K1 := hid (K0.out.step hb1); clear hb1)
        | (go_at_call 59; refine (rgood_m a2 m d u false _ (HU.out.below K1.out.1) HK'.out HG').mono ?_; rintro e w2 ⟨rfl, hb2⟩; have K2 := hid (K1.out.step hb2); obtain ⟨d0, d1⟩ := box_two K2.out.2.2; have f0 := frozen_of_row _ w.heap.size 0 _ _ K2.out.2.2; have f1 := frozen_of_row _ w.heap.size 1 _ _ K2.out.2.2; clear hb2))
      (try simp only [Exit.inBlock, Exit.then])
      show bodyPost Try.prog Try.f67 _ _ _ _
      refine bodyPost_ret (results_cell_row (p := 4) rfl _ _ w.heap.size _ #[.slice none 0 0, .bool false] (0, 0) _ rfl (set2_heap _ _ K2.out.2.2) Try.underlying130 rfl (by kernel_rfl)) rfl ?_
      rw [HJ.out, (KN.out HJ.out w).2]
      exact ⟨⟨none, 0, rfl, (KN.out HJ.out _).1⟩, set2_below _ _ K2.out⟩
    | true =>
      have HG' := hid hg'
      have HB' := hid (gd_iff.1 hg')
      clear hg'
      have t1 : True := trivial
      have t2 : True := trivial
      have TA := hid (tl_yes HB.out)
      have TB := hid (tl_yes HB'.out)
      obtain ⟨ta, hta⟩ : ∃ x, tot l = x := ⟨_, rfl⟩
      obtain ⟨tb, htb⟩ : ∃ x, tot u = x := ⟨_, rfl⟩
      have ra : 0 ≤ ta ∧ ta ≤ 1099511627776 := by rw [← hta]; exact ⟨tot_nn HB.out.2.1, HB.out.2.2⟩
      have rb : 0 ≤ tb ∧ tb ≤ 1099511627776 := by rw [← htb]; exact ⟨tot_nn HB'.out.2.1, HB'.out.2.2⟩
      obtain ⟨ra1, ra2⟩ := ra
      obtain ⟨rb1, rb2⟩ := rb
      have HTA : Hid (tl l = ta) := hid (by rw [TA.out, hta])
      have HTB : Hid (tl u = tb) := hid (by rw [TB.out, htb])
      have QA := hid hta
      have QB := hid htb
      clear hta htb TA TB
      by_cases hs : 1099511627776 < ta + tb
      · have HJ := hid (jn_no3 (a := l) (b := u) (by rw [QA.out, QB.out]; exact hs))
        have hsd : decide (1099511627776 < ta + tb) = true := decide_eq_true hs
        go_enter Try.func67, Try.ntmps67
        go_upto_region 1 with fail
        generalize w.alloc (.cells #[.slice none 0 0, .bool false] 130) = W0 at K0 ⊢
        obtain ⟨c0, c1⟩ := box_two K0.out.2.2
        go_wp2_with (first
          | (go_at_call 59; clear t1; refine (rgood_m a1 n c l true _ (HL.out.below K0.out.1) HK.out HG).mono ?_; rintro e w1 ⟨rfl, hb1⟩; have K1 := hid (K0.out.step hb1); clear hb1)
          | (go_at_call 59; refine (rgood_m a2 m d u true _ (HU.out.below K1.out.1) HK'.out HG').mono ?_; rintro e w2 ⟨rfl, hb2⟩; have K2 := hid (K1.out.step hb2); clear hb2)
          | (go_at_call 60; clear t2; refine (rcount_m a1 n c l ta _ (HL.out.below K2.out.1) HK.out HTA).mono ?_; rintro e w3 ⟨rfl, hb3⟩; have K3 := hid (K2.out.step hb3); clear hb3)
          | (go_at_call 60; refine (rcount_m a2 m d u tb _ (HU.out.below K3.out.1) HK'.out HTB).mono ?_; rintro e w4 ⟨rfl, hb4⟩; have K4 := hid (K3.out.step hb4); obtain ⟨d0, d1⟩ := box_two K4.out.2.2; have f0 := frozen_of_row _ w.heap.size 0 _ _ K4.out.2.2; have f1 := frozen_of_row _ w.heap.size 1 _ _ K4.out.2.2; clear hb4))
        (try simp only [Exit.inBlock, Exit.then])
        show bodyPost Try.prog Try.f67 _ _ _ _
        refine bodyPost_ret (results_cell_row (p := 4) rfl _ _ w.heap.size _ #[.slice none 0 0, .bool false] (0, 0) _ rfl (set2_heap _ _ K4.out.2.2) Try.underlying130 rfl (by kernel_rfl)) rfl ?_
        rw [HJ.out, (KN.out HJ.out w).2]
        exact ⟨⟨none, 0, rfl, (KN.out HJ.out _).1⟩, set2_below _ _ K4.out⟩
      · have hsd : decide (1099511627776 < ta + tb) = false := decide_eq_false hs
        have HJ := hid (jn_yes HB.out HB'.out (by rw [QA.out, QB.out]; omega))
        have HS : Hid (∀ k, Sml (jnl l (u.take k))) := hid (fun k => sml_jn HB.out HB'.out (by rw [QA.out, QB.out]; omega) (by have := EL.out; omega) (by have := EU.out; omega) k)
        go_enter Try.func67, Try.ntmps67
        go_upto_region 1 with fail
        generalize w.alloc (.cells #[.slice none 0 0, .bool false] 130) = W0 at K0 ⊢
        go_upto_region 4 with (first
          | (go_at_call 59; clear t1; refine (rgood_m a1 n c l true _ (HL.out.below K0.out.1) HK.out HG).mono ?_; rintro e w1 ⟨rfl, hb1⟩; have K1 := hid (K0.out.step hb1); clear hb1)
          | (go_at_call 59; refine (rgood_m a2 m d u true _ (HU.out.below K1.out.1) HK'.out HG').mono ?_; rintro e w2 ⟨rfl, hb2⟩; have K2 := hid (K1.out.step hb2); clear hb2)
          | (go_at_call 60; clear t2; refine (rcount_m a1 n c l ta _ (HL.out.below K2.out.1) HK.out HTA).mono ?_; rintro e w3 ⟨rfl, hb3⟩; have K3 := hid (K2.out.step hb3); clear hb3)
          | (go_at_call 60; refine (rcount_m a2 m d u tb _ (HU.out.below K3.out.1) HK'.out HTB).mono ?_; rintro e w4 ⟨rfl, hb4⟩; have K4 := hid (K3.out.step hb4); clear hb4))
        have LA : Hid (0 < n → ∀ b off, a1 = some ⟨b, off, none⟩ → ¬ b = w.heap.size) := hid (fun h b off e => by obtain ⟨b', off', e', hlt, _⟩ := HL.out.2.2.2.2 h; rw [e] at e'; cases e'; omega)
        have LN := hid (HL.out.below K4.out.1)
        clear hsd ra1 ra2 rb1 rb2
        go_wp2
        go_loopw [5, 6] (fun o i wr => ∃ (k : Nat) (A : Option Addr) (q f : Nat) (out : List Rn), k ≤ m ∧ i = .int .i64 k ∧ o = .slice A q f ∧ Hid (out = jnl l (u.take k)) ∧ Hid (NRun wr A q f out) ∧ Hid (0 < q → ∀ b off, A = some ⟨b, off, none⟩ → ¬ b = w.heap.size) ∧ Hid (Kp w wr w.heap.size (.cells #[.slice none 0 0, .bool false] 130))) (fun _ i _ => m - (intOf i).toNat)
        case atStart => exact ⟨0, a1, n, c, l, by omega, rfl, rfl, hid rfl, LN, LA, K4⟩
        case round =>
          obtain ⟨k, A, q, f, out, hkn, rfl, rfl, HO, HN, HA, KW⟩ := hrel
          have hk0 : (0 : Int) ≤ (k : Int) := by omega
          have hsm : Hid (Sml out) := hid (by rw [HO.out]; exact HS.out k)
          have hq : q ≤ 1000000 := by have := HN.out.lens.1; have := hsm.out.2.2; omega
          by_cases hlt : k < m
          · have hki : (k : Int) < (m : Int) := by omega
            obtain ⟨b, off, x0, x1, rfl, hb, hr, p0, p1⟩ := HU.out.pick KW.out.1 hlt
            have HR := hid hr
            have hat := bag_at HB'.out hr
            have X1 := hat.2.1
            have X2 := hat.2.2.1
            have X3 := hat.2.2.2.1
            simp only at X1 X2
            have hx1 : x1 ≤ 1099511627776 := by omega
            have hbw : b < wr.heap.size := Nat.lt_of_lt_of_le hb KW.out.1.size
            have HM : Hid (lay x0 x1 out = jnl l (u.take (k + 1))) := hid (by rw [HO.out, jnl_step HR.out])
            clear hr hat X2 X3
            generalize jnl l (u.take (k + 1)) = M at HM
            have HM' : Hid (M = jnl l (u.take (k + 1))) := hid (by rw [← HM.out, HO.out, jnl_step HR.out])
            have KS : Hid (∀ x, Below wr.heap.size wr x → Below wr.heap.size wr x ∧ x.cell? ⟨b, off + k * 2, none⟩ = some (.int .i64 x0) ∧ x.cell? ⟨b, off + k * 2 + 1, none⟩ = some (.int .i64 x1)) := hid (fun x h => ⟨h, ((bcell h).1 _ _ hbw).trans p0, ((bcell h).1 _ _ hbw).trans p1⟩)
            clear p0 p1
            go_wp2
            go_region_held3 (fun x => Below wr.heap.size wr x ∧ x.cell? ⟨b, off + k * 2, none⟩ = some (.int .i64 x0) ∧ x.cell? ⟨b, off + k * 2 + 1, none⟩ = some (.int .i64 x1))
              (first | assumption | exact keep_drew KS | exact keep_step (by assumption) (by assumption) KS)
              (first | (go_at_call 52; refine (lay_m A q f out x0 x1 M _ (HN.out.below (And.left (by assumption))) (hid hsm.out.1) (hid hsm.out.2.1) (by omega) hq HM).mono ?_; rintro e w5 ⟨⟨A5, d5, rfl, hn5, hg5⟩, hb5⟩))
            have B5 := hid (undrew hb5)
            have N5 := hid hn5
            have A5' : Hid (0 < M.length → ∀ b off, A5 = some ⟨b, off, none⟩ → ¬ b = w.heap.size) := hid (fun _ b off e => by have h1 : wr.heap.size ≤ b := hg5 b off e; have := heap_lt KW.out.2.2; omega)
            clear hb5 hn5 hg5
            go_wp2
            go_roundw
            case rel => exact ⟨k + 1, A5, M.length, d5, M, by omega, by go_num, rfl, HM', N5, A5', hid (KW.out.step B5.out)⟩
            case measure => simp [intOf]; omega
          · have hkf : decide ((k : Int) < (m : Int)) = false := decide_eq_false (by omega)
            have HE : Hid (out = Jl l u) := hid (by rw [jl_yes HJ.out, HO.out, List.take_of_length_le (by have := EU.out; omega)])
            obtain ⟨d0, d1⟩ := box_two KW.out.2.2; have f0 := frozen_of_row _ w.heap.size 0 _ _ KW.out.2.2; have f1 := frozen_of_row _ w.heap.size 1 _ _ KW.out.2.2
            have hqq := hid HN.out.lens.1
            go_wp2
            (try simp only [Exit.inBlock, Exit.then])
            show bodyPost Try.prog Try.f67 _ _ _ _
            refine bodyPost_ret (results_cell_row (p := 4) rfl _ _ w.heap.size _ #[.slice A q f, .bool true] (0, 0) _ rfl (set2_heap _ _ KW.out.2.2) Try.underlying130 rfl (by kernel_rfl)) rfl ?_
            rw [HJ.out, ← HE.out, ← hqq.out]
            exact ⟨⟨A, f, rfl, set2_run _ _ HN.out HA.out⟩, set2_below _ _ KW.out⟩

end Go.Proofs.Ytjkkajhjcinalaa

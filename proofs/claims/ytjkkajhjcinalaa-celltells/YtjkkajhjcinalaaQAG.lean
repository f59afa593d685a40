/-
  -
  -
  -
  Conditions: as each theorem states them.
-/
import Derived.Test.YtjkkajhjcinalaaQAC
import Derived.Test.YtjkkajhjcinalaaQAD
import Derived.Test.YtjkkajhjcinalaaQAE
import Derived.Test.YtjkkajhjcinalaaQAF
namespace Go.Proofs.Ytjkkajhjcinalaa
open Go.ChangeShapes Go.WideShapes Go.ChangeAt Go.RowKit
set_option linter.unusedVariables false
set_option linter.unusedSimpArgs false
set_option maxRecDepth 100000


set_option maxHeartbeats 8000000 in
theorem rjoin_any (a1 a2 : Option Addr) (n c m d : Nat) (l u : List Rn) (w : World) (hl : NRun w a1 n c l) (hu : NRun w a2 m d u) (hk : ∀ r ∈ l, nok r) (hk' : ∀ r ∈ u, nok r) (hn : n ≤ 1000) (hm : m ≤ 1000) :
    Calls Try.prog 67 #[.slice a1 n c, .slice a2 m d] w fun e w' => (∃ A cap, e = .returned (.agg #[.slice A (Jl l u).length cap, .bool (Jn l u)]) ∧ NRun w' A (Jl l u).length cap (Jl l u)) ∧ Below w.heap.size w w' := by
  have HL := hid hl
  have HU := hid hu
  have HK := hid hk
  have HK' := hid hk'
  obtain ⟨l1, l2⟩ := hl.lens
  obtain ⟨u1, u2⟩ := hu.lens
  have EL := hid l1
  have EU := hid u1
  have K0 := hid (kp_new w (.cells #[.slice none 0 0, .bool false] 130))
  have KN : Hid (Jn l u = false → ∀ W, NRun W none 0 0 (Jl l u) ∧ (Jl l u).length = 0) := hid (fun h W => by rw [jl_no h]; exact ⟨nrun_nil W, rfl⟩)
  clear hl hu hk hk' l1 u1
  cases hg : gd l with
  | false =>
    have HG := hid hg
    have HJ := hid (jn_no1 (b := u) hg)
    clear hg
    go_enter Try.func67, Try.ntmps67
    go_upto_region 1 with fail
    generalize w.alloc (.cells #[.slice none 0 0, .bool false] 130) = W0 at K0 ⊢
    obtain ⟨c0, c1⟩ := box_two K0.out.2.2
    go_wp2_with (first
      | (go_at_call 59; refine (rgood_m a1 n c l false _ (HL.out.below K0.out.1) HK.out HG).mono ?_; rintro e w1 ⟨rfl, hb1⟩; have K1 := hid (K0.out.step hb1); obtain ⟨d0, d1⟩ := box_two K1.out.2.2; have f0 := frozen_of_row _ w.heap.size 0 _ _ K1.out.2.2; have f1 := frozen_of_row _ w.heap.size 1 _ _ K1.out.2.2; clear hb1))
    (try simp only [Exit.inBlock, Exit.then])
    show bodyPost Try.prog Try.f67 _ _ _ _
    refine bodyPost_ret (results_cell_row (p := 4) rfl _ _ w.heap.size _ #[.slice none 0 0, .bool false] (0, 0) _ rfl (set2_heap _ _ K1.out.2.2) Try.underlying130 rfl (by kernel_rfl)) rfl ?_
    rw [HJ.out, (KN.out HJ.out w).2]
    exact ⟨⟨none, 0, rfl, (KN.out HJ.out _).1⟩, set2_below _ _ K1.out⟩
  | true =>
    have HG := hid hg
    have HB := hid (gd_iff.1 hg)
    clear hg
    cases hg' : gd u with
    | false =>
      have HG' := hid hg'
      have HJ := hid (jn_no2 (a := l) hg')
      clear hg'
      have t1 : True := trivial
      go_enter Try.func67, Try.ntmps67
      go_upto_region 1 with fail
      generalize w.alloc (.cells #[.slice none 0 0, .bool false] 130) = W0 at K0 ⊢
      obtain ⟨c0, c1⟩ := box_two K0.out.2.2
      go_wp2_with (first
        | (go_at_call 59; clear t1; refine (rgood_m a1 n c l true _ (HL.out.below K0.out.1) HK.out HG).mono ?_; rintro e w1 ⟨rfl, hb1⟩; have K1 := hid (K0.out.step hb1); clear hb1)
        | (go_at_call 59; refine (rgood_m a2 m d u false _ (HU.out.below K1.out.1) HK'.out HG').mono ?_; rintro e w2 ⟨rfl, hb2⟩; have K2 := hid (K1.out.step hb2); obtain ⟨d0, d1⟩ := box_two K2.out.2.2; have f0 := frozen_of_row _ w.heap.size 0 _ _ K2.out.2.2; have f1 := frozen_of_row _ w.heap.size 1 _ _ K2.out.2.2; clear hb2))
      (try simp only [Exit.inBlock, Exit.then])
      show bodyPost Try.prog Try.f67 _ _ _ _
      refine bodyPost_ret (results_cell_row (p := 4) rfl _ _ w.heap.size _ #[.slice none 0 0, .bool false] (0, 0) _ rfl (set2_heap _ _ K2.out.2.2) Try.underlying130 rfl (by kernel_rfl)) rfl ?_
      rw [HJ.out, (KN.out HJ.out w).2]
      exact ⟨⟨none, 0, rfl, (KN.out HJ.out _).1⟩, set2_below _ _ K2.out⟩
    | true =>
      have HG' := hid hg'
      have HB' := hid (gd_iff.1 hg')
      clear hg'
      have t1 : True := trivial
      have t2 : True := trivial
      have TA := hid (tl_yes HB.out)
      have TB := hid (tl_yes HB'.out)
      obtain ⟨ta, hta⟩ : ∃ x, tot l = x := ⟨_, rfl⟩
      obtain ⟨tb, htb⟩ : ∃ x, tot u = x := ⟨_, rfl⟩
      have ra : 0 ≤ ta ∧ ta ≤ 1099511627776 := by rw [← hta]; exact ⟨tot_nn HB.out.2.1, HB.out.2.2⟩
      have rb : 0 ≤ tb ∧ tb ≤ 1099511627776 := by rw [← htb]; exact ⟨tot_nn HB'.out.2.1, HB'.out.2.2⟩
      obtain ⟨ra1, ra2⟩ := ra
      obtain ⟨rb1, rb2⟩ := rb
      have HTA : Hid (tl l = ta) := hid (by rw [TA.out, hta])
      have HTB : Hid (tl u = tb) := hid (by rw [TB.out, htb])
      have QA := hid hta
      have QB := hid htb
      clear hta htb TA TB
      by_cases hs : 1099511627776 < ta + tb
      · have HJ := hid (jn_no3 (a := l) (b := u) (by rw [QA.out, QB.out]; exact hs))
        have hsd : decide (1099511627776 < ta + tb) = true := decide_eq_true hs
        go_enter Try.func67, Try.ntmps67
        go_upto_region 1 with fail
        generalize w.alloc (.cells #[.slice none 0 0, .bool false] 130) = W0 at K0 ⊢
        obtain ⟨c0, c1⟩ := box_two K0.out.2.2
        go_wp2_with (first
          | (go_at_call 59; clear t1; refine (rgood_m a1 n c l true _ (HL.out.below K0.out.1) HK.out HG).mono ?_; rintro e w1 ⟨rfl, hb1⟩; have K1 := hid (K0.out.step hb1); clear hb1)
          | (go_at_call 59; refine (rgood_m a2 m d u true _ (HU.out.below K1.out.1) HK'.out HG').mono ?_; rintro e w2 ⟨rfl, hb2⟩; have K2 := hid (K1.out.step hb2); clear hb2)
          | (go_at_call 60; clear t2; refine (rcount_m a1 n c l ta _ (HL.out.below K2.out.1) HK.out HTA).mono ?_; rintro e w3 ⟨rfl, hb3⟩; have K3 := hid (K2.out.step hb3); clear hb3)
          | (go_at_call 60; refine (rcount_m a2 m d u tb _ (HU.out.below K3.out.1) HK'.out HTB).mono ?_; rintro e w4 ⟨rfl, hb4⟩; have K4 := hid (K3.out.step hb4); obtain ⟨d0, d1⟩ := box_two K4.out.2.2; have f0 := frozen_of_row _ w.heap.size 0 _ _ K4.out.2.2; have f1 := frozen_of_row _ w.heap.size 1 _ _ K4.out.2.2; clear hb4))
        (try simp only [Exit.inBlock, Exit.then])
        show bodyPost Try.prog Try.f67 _ _ _ _
        refine bodyPost_ret (results_cell_row (p := 4) rfl _ _ w.heap.size _ #[.slice none 0 0, .bool false] (0, 0) _ rfl (set2_heap _ _ K4.out.2.2) Try.underlying130 rfl (by kernel_rfl)) rfl ?_
        rw [HJ.out, (KN.out HJ.out w).2]
        exact ⟨⟨none, 0, rfl, (KN.out HJ.out _).1⟩, set2_below _ _ K4.out⟩
      · have hsd : decide (1099511627776 < ta + tb) = false := decide_eq_false hs
        have HJ := hid (jn_yes HB.out HB'.out (by rw [QA.out, QB.out]; omega))
        have HS : Hid (∀ k, Sml (jnl l (u.take k))) := hid (fun k => sml_jn HB.out HB'.out (by rw [QA.out, QB.out]; omega) (by have := EL.out; omega) (by have := EU.out; omega) k)
        go_enter Try.func67, Try.ntmps67
        go_upto_region 1 with fail
        generalize w.alloc (.cells #[.slice none 0 0, .bool false] 130) = W0 at K0 ⊢
        go_upto_region 4 with (first
          | (go_at_call 59; clear t1; refine (rgood_m a1 n c l true _ (HL.out.below K0.out.1) HK.out HG).mono ?_; rintro e w1 ⟨rfl, hb1⟩; have K1 := hid (K0.out.step hb1); clear hb1)
          | (go_at_call 59; refine (rgood_m a2 m d u true _ (HU.out.below K1.out.1) HK'.out HG').mono ?_; rintro e w2 ⟨rfl, hb2⟩; have K2 := hid (K1.out.step hb2); clear hb2)
          | (go_at_call 60; clear t2; refine (rcount_m a1 n c l ta _ (HL.out.below K2.out.1) HK.out HTA).mono ?_; rintro e w3 ⟨rfl, hb3⟩; have K3 := hid (K2.out.step hb3); clear hb3)
          | (go_at_call 60; refine (rcount_m a2 m d u tb _ (HU.out.below K3.out.1) HK'.out HTB).mono ?_; rintro e w4 ⟨rfl, hb4⟩; have K4 := hid (K3.out.step hb4); clear hb4))
        have LA : Hid (0 < n → ∀ b off, a1 = some ⟨b, off, none⟩ → ¬ b = w.heap.size) := hid (fun h b off e => by obtain ⟨b', off', e', hlt, _⟩ := HL.out.2.2.2.2 h; rw [e] at e'; cases e'; omega)
        have LN := hid (HL.out.below K4.out.1)
        clear hsd ra1 ra2 rb1 rb2
        go_wp2
        go_loopw [5, 6] (fun o i wr => ∃ (k : Nat) (A : Option Addr) (q f : Nat) (out : List Rn), k ≤ m ∧ i = .int .i64 k ∧ o = .slice A q f ∧ Hid (out = jnl l (u.take k)) ∧ Hid (NRun wr A q f out) ∧ Hid (0 < q → ∀ b off, A = some ⟨b, off, none⟩ → ¬ b = w.heap.size) ∧ Hid (Kp w wr w.heap.size (.cells #[.slice none 0 0, .bool false] 130))) (fun _ i _ => m - (intOf i).toNat)
        case atStart => exact ⟨0, a1, n, c, l, by omega, rfl, rfl, hid rfl, LN, LA, K4⟩
        case round =>
          obtain ⟨k, A, q, f, out, hkn, rfl, rfl, HO, HN, HA, KW⟩ := hrel
          have hk0 : (0 : Int) ≤ (k : Int) := by omega
          have hsm : Hid (Sml out) := hid (by rw [HO.out]; exact HS.out k)
          have hq : q ≤ 1000000 := by have := HN.out.lens.1; have := hsm.out.2.2; omega
          by_cases hlt : k < m
          · have hki : (k : Int) < (m : Int) := by omega
            obtain ⟨b, off, x0, x1, rfl, hb, hr, p0, p1⟩ := HU.out.pick KW.out.1 hlt
            have HR := hid hr
            have hat := bag_at HB'.out hr
            have X1 := hat.2.1
            have X2 := hat.2.2.1
            have X3 := hat.2.2.2.1
            simp only at X1 X2
            have hx1 : x1 ≤ 1099511627776 := by omega
            have hbw : b < wr.heap.size := Nat.lt_of_lt_of_le hb KW.out.1.size
            have HM : Hid (lay x0 x1 out = jnl l (u.take (k + 1))) := hid (by rw [HO.out, jnl_step HR.out])
            clear hr hat X2 X3
            generalize jnl l (u.take (k + 1)) = M at HM
            have HM' : Hid (M = jnl l (u.take (k + 1))) := hid (by rw [← HM.out, HO.out, jnl_step HR.out])
            have KS : Hid (∀ x, Below wr.heap.size wr x → Below wr.heap.size wr x ∧ x.cell? ⟨b, off + k * 2, none⟩ = some (.int .i64 x0) ∧ x.cell? ⟨b, off + k * 2 + 1, none⟩ = some (.int .i64 x1)) := hid (fun x h => ⟨h, ((bcell h).1 _ _ hbw).trans p0, ((bcell h).1 _ _ hbw).trans p1⟩)
            clear p0 p1
            go_wp2
            go_region_held3 (fun x => Below wr.heap.size wr x ∧ x.cell? ⟨b, off + k * 2, none⟩ = some (.int .i64 x0) ∧ x.cell? ⟨b, off + k * 2 + 1, none⟩ = some (.int .i64 x1))
              (first | assumption | exact keep_drew KS | exact keep_step (by assumption) (by assumption) KS)
              (first | (go_at_call 52; refine (lay_m A q f out x0 x1 M _ (HN.out.below (And.left (by assumption))) (hid hsm.out.1) (hid hsm.out.2.1) (by omega) hq HM).mono ?_; rintro e w5 ⟨⟨A5, d5, rfl, hn5, hg5⟩, hb5⟩))
            have B5 := hid (undrew hb5)
            have N5 := hid hn5
            have A5' : Hid (0 < M.length → ∀ b off, A5 = some ⟨b, off, none⟩ → ¬ b = w.heap.size) := hid (fun _ b off e => by have h1 : wr.heap.size ≤ b := hg5 b off e; have := heap_lt KW.out.2.2; omega)
            clear hb5 hn5 hg5
            go_wp2
            go_roundw
            case rel => exact ⟨k + 1, A5, M.length, d5, M, by omega, by go_num, rfl, HM', N5, A5', hid (KW.out.step B5.out)⟩
            case measure => simp [intOf]; omega
          · have hkf : decide ((k : Int) < (m : Int)) = false := decide_eq_false (by omega)
            have HE : Hid (out = Jl l u) := hid (by rw [jl_yes HJ.out, HO.out, List.take_of_length_le (by have := EU.out; omega)])
            obtain ⟨d0, d1⟩ := box_two KW.out.2.2; have f0 := frozen_of_row _ w.heap.size 0 _ _ KW.out.2.2; have f1 := frozen_of_row _ w.heap.size 1 _ _ KW.out.2.2
            have hqq := hid HN.out.lens.1
            go_wp2
            (try simp only [Exit.inBlock, Exit.then])
            show bodyPost Try.prog Try.f67 _ _ _ _
            refine bodyPost_ret (results_cell_row (p := 4) rfl _ _ w.heap.size _ #[.slice A q f, .bool true] (0, 0) _ rfl (set2_heap _ _ KW.out.2.2) Try.underlying130 rfl (by kernel_rfl)) rfl ?_
            rw [HJ.out, ← HE.out, ← hqq.out]
            exact ⟨⟨A, f, rfl, set2_run _ _ HN.out HA.out⟩, set2_below _ _ KW.out⟩

end Go.Proofs.Ytjkkajhjcinalaa

namespace Go.Proofs.Ytjkkajhjcinalaa
open Go.ChangeShapes Go.WideShapes Go.ChangeAt Go.RowKit
set_option linter.unusedVariables false
set_option linter.unusedSimpArgs false
set_option maxRecDepth 100000

theorem rjoin_m (a1 a2 : Option Addr) (n c m d k : Nat) (l u M : List Rn) (v : Bool) (w : World) (hl : NRun w a1 n c l) (hu : NRun w a2 m d u) (hk : ∀ r ∈ l, nok r) (hk' : ∀ r ∈ u, nok r) (hn : n ≤ 1000) (hm : m ≤ 1000) (hM : Hid (Jl l u = M)) (hv : Hid (Jn l u = v)) (hl2 : Hid (M.length = k)) :
    Calls Try.prog 67 #[.slice a1 n c, .slice a2 m d] w fun e w' => (∃ A cap, e = .returned (.agg #[.slice A k cap, .bool v]) ∧ NRun w' A k cap M) ∧ Below w.heap.size w w' := by
  have := rjoin_any a1 a2 n c m d l u w hl hu hk hk' hn hm
  rw [hM.out, hv.out, hl2.out] at this
  exact this
theorem least_m (a : Option Addr) (n c : Nat) (l : List Rn) (S : Int) (f : Bool) (w : World) (hl : NRun w a n c l) (hk : ∀ r ∈ l, nok r) (hS : Hid (lst l = S)) (hf : Hid (hasE l = f)) :
    Calls Try.prog 63 #[.slice a n c] w fun e w' => e = .returned (.tuple #[.int .i64 S, .bool f]) ∧ Below w.heap.size w w' := by
  have := least_any a n c l w hl hk
  rw [hS.out, hf.out] at this
  exact this
theorem greatest_m (a : Option Addr) (n c : Nat) (l : List Rn) (S : Int) (f : Bool) (w : World) (hl : NRun w a n c l) (hk : ∀ r ∈ l, nok r) (hS : Hid (gst l = S)) (hf : Hid (hasE l = f)) :
    Calls Try.prog 64 #[.slice a n c] w fun e w' => e = .returned (.tuple #[.int .i64 S, .bool f]) ∧ Below w.heap.size w w' := by
  have := greatest_any a n c l w hl hk
  rw [hS.out, hf.out] at this
  exact this

end Go.Proofs.Ytjkkajhjcinalaa

namespace Go.Proofs.Ytjkkajhjcinalaa
open Go.ChangeShapes Go.WideShapes Go.ChangeAt Go.RowKit
set_option linter.unusedVariables false
set_option linter.unusedSimpArgs false
set_option maxRecDepth 100000

theorem eqW (p q : Bool) (a b x y : Int) (w : World) (n : Nat) : (Op.equalIn (n + 2) 121 (.agg #[.bool p, .int .u64 a, .int .u64 b]) (.agg #[.bool q, .int .u64 x, .int .u64 y])).run Try.prog w = .ok (p == q && (a == x && b == y)) w := by
  have u3 := Try.underlying119
  have a3 := Try.isAgg119
  have z3 := Try.sizeOf119
  have u4 := Try.underlying4
  have a4 := Try.isAgg4
  have z4 := Try.sizeOf4
  rw [show n + 2 = (n + 1) + 1 from rfl, Op.equalIn]
  simp only [Sem.run_bind, run_underlying Try.underlying121, Result.andThen_ok]
  have hs : Try.prog.stoodInHeld 121 = false := by kernel_rfl
  have hp : Sem.run Try.prog program w = .ok Try.prog w := rfl
  simp only [hp, Result.andThen_ok, hs, Bool.false_eq_true, if_false, Sem.run_bind]
  simp only [← Array.forIn_toList, List.forIn_cons, List.forIn_nil]
  go_simp
  by_cases h0 : p = q <;> by_cases h1 : a = x <;> by_cases h2 : b = y <;> simp [h0, h1, h2]
def qw (p q : Bool) (a b x y : Int) : Bool := p == q && (a == x && b == y)
theorem eqW2 (p q : Bool) (a b x y : Int) (w : World) : (Op.equalIn 10000 121 (.agg #[.bool p, .int .u64 a, .int .u64 b]) (.agg #[.bool q, .int .u64 x, .int .u64 y])).run Try.prog w = .ok (qw p q a b x y) w := eqW p q a b x y w 9998
theorem qw_dec (X s : Int) : qw (calc.ng X) (calc.ng s) (calc.hi (calc.sz X)) (calc.lo (calc.sz X)) (calc.hi (calc.sz s)) (calc.lo (calc.sz s)) = decide (X = s) := by
  by_cases h : X = s
  · subst h; unfold qw; simp
  · rw [decide_eq_false h]
    cases e : qw (calc.ng X) (calc.ng s) (calc.hi (calc.sz X)) (calc.lo (calc.sz X)) (calc.hi (calc.sz s)) (calc.lo (calc.sz s)) with
    | false => rfl
    | true =>
      unfold qw at e
      simp only [Bool.and_eq_true, beq_iff_eq] at e
      exact absurd (calc.sz_inj e.1 e.2.1 e.2.2) h
theorem rk_gd {n s : Int} {l : List Rn} (h : gd l = false) : rk n s l = false := rk_no (fun g => by rw [gd_yes g.1] at h; cases h)
theorem rk_full {n s : Int} {l : List Rn} (h : gd l = true) (ht : tl l = n) : rk n s l = decide (wsum l = s) := by
  have hb := gd_iff.1 h
  unfold rk
  rw [h, decide_eq_true ((tl_yes hb).symm.trans ht)]
  rfl
theorem cg_r1 {c : Cl} (h : rk c.n c.s1 c.b1 = false) : cg 2 c = false := cg_no (fun g => by
  rcases g.2.2 with ⟨e, _⟩ | ⟨_, k⟩
  · cases e
  · rw [rk_yes k] at h; cases h)
/-- The document's number of a bag that may be, by names. -/
theorem wide_m (a : Option Addr) (n c : Nat) (l : List Rn) (p : Bool) (x y : Int) (w : World) (hl : NRun w a n c l) (hk : ∀ r ∈ l, nok r) (hb : Hid (Bag l)) (hp : Hid (calc.ng (wsum l) = p)) (hx : Hid (calc.hi (calc.sz (wsum l)) = x)) (hy : Hid (calc.lo (calc.sz (wsum l)) = y)) :
    Calls Try.prog 61 #[.slice a n c] w fun e w' => e = .returned (.agg #[.bool p, .int .u64 x, .int .u64 y]) ∧ Below w.heap.size w w' := by
  have := wide_good a n c l w hl hk hb.out
  rw [hp.out, hx.out, hy.out] at this
  exact this
theorem wof_m (a : Int) (p : Bool) (x y : Int) (w : World) (ha : I64 a) (hp : Hid (calc.ng a = p)) (hx : Hid (calc.hi (calc.sz a) = x)) (hy : Hid (calc.lo (calc.sz a) = y)) :
    Calls Try.prog 62 #[.int .i64 a] w fun e w' => e = .returned (.agg #[.bool p, .int .u64 x, .int .u64 y]) ∧ Below w.heap.size w w' := by
  have := calc.of_any a w ha
  rw [hp.out, hx.out, hy.out] at this
  exact this

set_option maxHeartbeats 32000000 in
theorem crgood_m (m : Int) (c : Cl) (a0 : Option Addr) (p0 k0 : Nat) (a1 : Option Addr) (p1 k1 : Nat) (v : Bool) (w : World) (hw : CW w a0 p0 k0 a1 p1 k1 c) (hk : okc c) (hv : Hid (cg m c = v)) :
    Calls Try.prog 20 #[.int .i64 m, .agg #[.int .i64 c.n, .int .i64 c.s0, .int .i64 c.s1, .slice a0 p0 k0, .slice a1 p1 k1]] w fun e w' => e = .returned (.bool v) ∧ Below w.heap.size w w' := by
  have h := hv.out
  subst h
  clear hv
  obtain ⟨l1, l2⟩ := hw.1.lens
  obtain ⟨u1, u2⟩ := hw.2.lens
  obtain ⟨o1, o2, o3, o4, o5⟩ := hk
  have HW := hid hw
  have O2 := hid o2
  have O3 := hid o3
  have K4 := hid o4
  have K5 := hid o5
  have EU := hid u1
  have eqw := eqW2
  have hlen : (p1 : Int) ≤ 9223372036854775807 := by omega
  clear hw l1 u1 o1 o2 o3 o4 o5
  by_cases hm : m = 1 ∨ m = 2
  · by_cases hn : 1 ≤ c.n ∧ c.n ≤ 1099511627776
    · have hn1 : decide (c.n < 1) = false := decide_eq_false (by omega)
      have hn2 : decide (1099511627776 < c.n) = false := decide_eq_false (by omega)
      have q1 : decide (m < 1) = false := decide_eq_false (by omega)
      have q2 : decide (2 < m) = false := decide_eq_false (by omega)
      have HN := hid hn
      have HM := hid hm
      have m0f : decide (m ≤ (0 : Int)) = false := decide_eq_false (by omega)
      have K0 := hid (kp_new w (.cells #[.int .i64 c.n, .int .i64 c.s0, .int .i64 c.s1, .slice a0 p0 k0, .slice a1 p1 k1] 26))
      clear hn hm
      go_enter Try.func20, Try.ntmps20
      go_upto_region 4 with fail
      generalize w.alloc (.cells #[.int .i64 c.n, .int .i64 c.s0, .int .i64 c.s1, .slice a0 p0 k0, .slice a1 p1 k1] 26) = W at K0 ⊢
      go_loopw [5] (fun i wr => Hid (Kp w wr w.heap.size (.cells #[.int .i64 c.n, .int .i64 c.s0, .int .i64 c.s1, .slice a0 p0 k0, .slice a1 p1 k1] 26)) ∧ (i = .int .i64 0 ∨ (i = .int .i64 1 ∧ Hid (rk c.n c.s0 c.b0 = true)) ∨ (i = .int .i64 2 ∧ Hid (cg m c = true)))) (fun i _ => 2 - (intOf i).toNat)
      case atStart => exact ⟨K0, .inl rfl⟩
      case round =>
        obtain ⟨KW, hi⟩ := hrel
        obtain ⟨d0, d1, d2, d3, d4⟩ := box_five KW.out.2.2
        rcases hi with rfl | ⟨rfl, R0⟩ | ⟨rfl, CT⟩
        · obtain ⟨gv, eg⟩ : ∃ x, gd c.b0 = x := ⟨_, rfl⟩
          have GD := hid eg
          cases gv with
          | false =>
            clear eg
            have KS : Hid (∀ y, Below wr.heap.size wr y → Below wr.heap.size wr y ∧ y.cell? ⟨w.heap.size, 0, none⟩ = some (.int .i64 c.n) ∧ y.cell? ⟨w.heap.size, 1, none⟩ = some (.int .i64 c.s0) ∧ y.cell? ⟨w.heap.size, 2, none⟩ = some (.int .i64 c.s1) ∧ y.cell? ⟨w.heap.size, 3, none⟩ = some (.slice a0 p0 k0) ∧ y.cell? ⟨w.heap.size, 4, none⟩ = some (.slice a1 p1 k1)) := hid (fun y hb => KW.out.five hb)
            clear d0 d1 d2 d3 d4
            go_wp2
            refine wp_region_noPanic ?_
            refine wp_region_held_drew (S := fun y => Below wr.heap.size wr y ∧ y.cell? ⟨w.heap.size, 0, none⟩ = some (.int .i64 c.n) ∧ y.cell? ⟨w.heap.size, 1, none⟩ = some (.int .i64 c.s0) ∧ y.cell? ⟨w.heap.size, 2, none⟩ = some (.int .i64 c.s1) ∧ y.cell? ⟨w.heap.size, 3, none⟩ = some (.slice a0 p0 k0) ∧ y.cell? ⟨w.heap.size, 4, none⟩ = some (.slice a1 p1 k1)) (by kernel_rfl) (keep_drew KS) (fun hHeld => ?_)
            refine tk 0 (v := ?_) ?_ ?_
            rotate_left
            · intro w hSw; (try dsimp only at hSw); go_simp; (try with_reducible rfl)
            try simp only [Act.put, List.setIfInBounds_toArray, List.set_cons_zero, List.set_cons_succ]
            refine tk 1 (v := ?_) ?_ ?_
            rotate_left
            · intro w hSw; (try dsimp only at hSw); go_simp; (try with_reducible rfl)
            try simp only [Act.put, List.setIfInBounds_toArray, List.set_cons_zero, List.set_cons_succ]
            refine tk 2 (v := ?_) ?_ ?_
            rotate_left
            · intro w hSw; (try dsimp only at hSw); go_simp; (try with_reducible rfl)
            try simp only [Act.put, List.setIfInBounds_toArray, List.set_cons_zero, List.set_cons_succ]
            refine tk 3 (v := ?_) ?_ ?_
            rotate_left
            · intro w hSw; (try dsimp only at hSw); go_simp; (try with_reducible rfl)
            try simp only [Act.put, List.setIfInBounds_toArray, List.set_cons_zero, List.set_cons_succ]
            refine rd1 4 (fun K hK => ?_)
            go_simp
            (go_at_call 59; refine (rgood_m _ _ _ _ _ _ (HW.out.1.below (bt KW.out.1 hHeld.1)) K4.out GD).mono ?_; rintro e w1 ⟨rfl, hb1⟩)
            refine hK.out _ _ (keep_step (by assumption) hHeld KS) (fun hHeld2 => ?_)
            clear hK K hHeld; have hHeld := hHeld2; clear hHeld2
            try simp only [Act.put, List.setIfInBounds_toArray, List.set_cons_zero, List.set_cons_succ]
            refine tk 5 (v := ?_) ?_ ?_
            rotate_left
            · intro w hSw; (try dsimp only at hSw); go_simp; (try with_reducible rfl)
            try simp only [Act.put, List.setIfInBounds_toArray, List.set_cons_zero, List.set_cons_succ]
            refine tk 6 (v := ?_) ?_ ?_
            rotate_left
            · intro w hSw; (try dsimp only at hSw); go_simp; (try with_reducible rfl)
            try simp only [Act.put, List.setIfInBounds_toArray, List.set_cons_zero, List.set_cons_succ]
            refine tks 7 ?_
            try simp only [Act.put, List.setIfInBounds_toArray, List.set_cons_zero, List.set_cons_succ]
            refine tks 8 ?_
            try simp only [Act.put, List.setIfInBounds_toArray, List.set_cons_zero, List.set_cons_succ]
            refine tks 9 ?_
            try simp only [Act.put, List.setIfInBounds_toArray, List.set_cons_zero, List.set_cons_succ]
            refine tks 10 ?_
            try simp only [Act.put, List.setIfInBounds_toArray, List.set_cons_zero, List.set_cons_succ]
            refine tks 11 ?_
            try simp only [Act.put, List.setIfInBounds_toArray, List.set_cons_zero, List.set_cons_succ]
            refine tks 12 ?_
            try simp only [Act.put, List.setIfInBounds_toArray, List.set_cons_zero, List.set_cons_succ]
            refine tks 13 ?_
            try simp only [Act.put, List.setIfInBounds_toArray, List.set_cons_zero, List.set_cons_succ]
            refine tks 14 ?_
            try simp only [Act.put, List.setIfInBounds_toArray, List.set_cons_zero, List.set_cons_succ]
            refine tk 15 (v := ?_) ?_ ?_
            rotate_left
            · intro w hSw; (try dsimp only at hSw); go_simp; (try with_reducible rfl)
            try simp only [Act.put, List.setIfInBounds_toArray, List.set_cons_zero, List.set_cons_succ]
            refine tk 16 (v := ?_) ?_ ?_
            rotate_left
            · intro w hSw; (try dsimp only at hSw); go_simp; (try with_reducible rfl)
            try simp only [Act.put, List.setIfInBounds_toArray, List.set_cons_zero, List.set_cons_succ]
            refine tks 17 ?_
            try simp only [Act.put, List.setIfInBounds_toArray, List.set_cons_zero, List.set_cons_succ]
            refine tks 18 ?_
            try simp only [Act.put, List.setIfInBounds_toArray, List.set_cons_zero, List.set_cons_succ]
            refine tks 19 ?_
            try simp only [Act.put, List.setIfInBounds_toArray, List.set_cons_zero, List.set_cons_succ]
            refine tks 20 ?_
            try simp only [Act.put, List.setIfInBounds_toArray, List.set_cons_zero, List.set_cons_succ]
            refine tks 21 ?_
            try simp only [Act.put, List.setIfInBounds_toArray, List.set_cons_zero, List.set_cons_succ]
            refine tks 22 ?_
            try simp only [Act.put, List.setIfInBounds_toArray, List.set_cons_zero, List.set_cons_succ]
            refine tks 23 ?_
            try simp only [Act.put, List.setIfInBounds_toArray, List.set_cons_zero, List.set_cons_succ]
            refine tks 24 ?_
            try simp only [Act.put, List.setIfInBounds_toArray, List.set_cons_zero, List.set_cons_succ]
            refine tks 25 ?_
            try simp only [Act.put, List.setIfInBounds_toArray, List.set_cons_zero, List.set_cons_succ]
            refine tks 26 ?_
            try simp only [Act.put, List.setIfInBounds_toArray, List.set_cons_zero, List.set_cons_succ]
            refine tks 27 ?_
            try simp only [Act.put, List.setIfInBounds_toArray, List.set_cons_zero, List.set_cons_succ]
            refine tk 28 (v := ?_) ?_ ?_
            rotate_left
            · intro w hSw; (try dsimp only at hSw); go_simp; (try with_reducible rfl)
            try simp only [Act.put, List.setIfInBounds_toArray, List.set_cons_zero, List.set_cons_succ]
            refine wpAnyH_done (by kernel_rfl) ?_ _
            refine NoPanic.normal ?_
            go_wp2
            go_ret
            exact ⟨ret_bool (cg_r0 (rk_gd GD.out)).symm, bt KW.out.1 (undrew hb1)⟩
          | true =>
            obtain ⟨T, et⟩ : ∃ x, tl c.b0 = x := ⟨_, rfl⟩
            have GT := hid et
            by_cases htn : T = c.n
            · have ttn : (T != c.n) = false := by simp [htn]
              have HTN := hid htn
              have HB := hid (gd_iff.1 eg)
              obtain ⟨xp, ex1⟩ : ∃ y, calc.ng (wsum c.b0) = y := ⟨_, rfl⟩
              obtain ⟨xh, ex2⟩ : ∃ y, calc.hi (calc.sz (wsum c.b0)) = y := ⟨_, rfl⟩
              obtain ⟨xl, ex3⟩ : ∃ y, calc.lo (calc.sz (wsum c.b0)) = y := ⟨_, rfl⟩
              obtain ⟨yp, ey1⟩ : ∃ y, calc.ng c.s0 = y := ⟨_, rfl⟩
              obtain ⟨yh, ey2⟩ : ∃ y, calc.hi (calc.sz c.s0) = y := ⟨_, rfl⟩
              obtain ⟨yl, ey3⟩ : ∃ y, calc.lo (calc.sz c.s0) = y := ⟨_, rfl⟩
              obtain ⟨Q, hq⟩ : ∃ y, qw xp yp xh xl yh yl = y := ⟨_, rfl⟩
              have EQ : Hid (rk c.n c.s0 c.b0 = Q) := hid (by rw [rk_full eg (et.trans htn), ← qw_dec, ex1, ex2, ex3, ey1, ey2, ey3, hq])
              have X1 := hid ex1
              have X2 := hid ex2
              have X3 := hid ex3
              have Y1 := hid ey1
              have Y2 := hid ey2
              have Y3 := hid ey3
              clear eg et htn ex1 ex2 ex3 ey1 ey2 ey3
              have KS : Hid (∀ y, Below wr.heap.size wr y → Below wr.heap.size wr y ∧ y.cell? ⟨w.heap.size, 0, none⟩ = some (.int .i64 c.n) ∧ y.cell? ⟨w.heap.size, 1, none⟩ = some (.int .i64 c.s0) ∧ y.cell? ⟨w.heap.size, 2, none⟩ = some (.int .i64 c.s1) ∧ y.cell? ⟨w.heap.size, 3, none⟩ = some (.slice a0 p0 k0) ∧ y.cell? ⟨w.heap.size, 4, none⟩ = some (.slice a1 p1 k1)) := hid (fun y hb => KW.out.five hb)
              clear d0 d1 d2 d3 d4
              go_wp2
              refine wp_region_noPanic ?_
              refine wp_region_held_drew (S := fun y => Below wr.heap.size wr y ∧ y.cell? ⟨w.heap.size, 0, none⟩ = some (.int .i64 c.n) ∧ y.cell? ⟨w.heap.size, 1, none⟩ = some (.int .i64 c.s0) ∧ y.cell? ⟨w.heap.size, 2, none⟩ = some (.int .i64 c.s1) ∧ y.cell? ⟨w.heap.size, 3, none⟩ = some (.slice a0 p0 k0) ∧ y.cell? ⟨w.heap.size, 4, none⟩ = some (.slice a1 p1 k1)) (by kernel_rfl) (keep_drew KS) (fun hHeld => ?_)
              refine tk 0 (v := ?_) ?_ ?_
              rotate_left
              · intro w hSw; (try dsimp only at hSw); go_simp; (try with_reducible rfl)
              try simp only [Act.put, List.setIfInBounds_toArray, List.set_cons_zero, List.set_cons_succ]
              refine tk 1 (v := ?_) ?_ ?_
              rotate_left
              · intro w hSw; (try dsimp only at hSw); go_simp; (try with_reducible rfl)
              try simp only [Act.put, List.setIfInBounds_toArray, List.set_cons_zero, List.set_cons_succ]
              refine tk 2 (v := ?_) ?_ ?_
              rotate_left
              · intro w hSw; (try dsimp only at hSw); go_simp; (try with_reducible rfl)
              try simp only [Act.put, List.setIfInBounds_toArray, List.set_cons_zero, List.set_cons_succ]
              refine tk 3 (v := ?_) ?_ ?_
              rotate_left
              · intro w hSw; (try dsimp only at hSw); go_simp; (try with_reducible rfl)
              try simp only [Act.put, List.setIfInBounds_toArray, List.set_cons_zero, List.set_cons_succ]
              refine rd1 4 (fun K hK => ?_)
              go_simp
              (go_at_call 59; refine (rgood_m _ _ _ _ _ _ (HW.out.1.below (bt KW.out.1 hHeld.1)) K4.out GD).mono ?_; rintro e w1 ⟨rfl, hb1⟩)
              refine hK.out _ _ (keep_step (by assumption) hHeld KS) (fun hHeld2 => ?_)
              clear hK K hHeld; have hHeld := hHeld2; clear hHeld2
              try simp only [Act.put, List.setIfInBounds_toArray, List.set_cons_zero, List.set_cons_succ]
              refine tk 5 (v := ?_) ?_ ?_
              rotate_left
              · intro w hSw; (try dsimp only at hSw); go_simp; (try with_reducible rfl)
              try simp only [Act.put, List.setIfInBounds_toArray, List.set_cons_zero, List.set_cons_succ]
              refine tk 6 (v := ?_) ?_ ?_
              rotate_left
              · intro w hSw; (try dsimp only at hSw); go_simp; (try with_reducible rfl)
              try simp only [Act.put, List.setIfInBounds_toArray, List.set_cons_zero, List.set_cons_succ]
              refine tk 7 (v := ?_) ?_ ?_
              rotate_left
              · intro w hSw; (try dsimp only at hSw); go_simp; (try with_reducible rfl)
              try simp only [Act.put, List.setIfInBounds_toArray, List.set_cons_zero, List.set_cons_succ]
              refine tk 8 (v := ?_) ?_ ?_
              rotate_left
              · intro w hSw; (try dsimp only at hSw); go_simp; (try with_reducible rfl)
              try simp only [Act.put, List.setIfInBounds_toArray, List.set_cons_zero, List.set_cons_succ]
              refine tk 9 (v := ?_) ?_ ?_
              rotate_left
              · intro w hSw; (try dsimp only at hSw); go_simp; (try with_reducible rfl)
              try simp only [Act.put, List.setIfInBounds_toArray, List.set_cons_zero, List.set_cons_succ]
              refine tk 10 (v := ?_) ?_ ?_
              rotate_left
              · intro w hSw; (try dsimp only at hSw); go_simp; (try with_reducible rfl)
              try simp only [Act.put, List.setIfInBounds_toArray, List.set_cons_zero, List.set_cons_succ]
              refine tk 12 (v := ?_) ?_ ?_
              rotate_left
              · intro w hSw; (try dsimp only at hSw); go_simp; (try with_reducible rfl)
              try simp only [Act.put, List.setIfInBounds_toArray, List.set_cons_zero, List.set_cons_succ]
              refine tk 13 (v := ?_) ?_ ?_
              rotate_left
              · intro w hSw; (try dsimp only at hSw); go_simp; (try with_reducible rfl)
              try simp only [Act.put, List.setIfInBounds_toArray, List.set_cons_zero, List.set_cons_succ]
              refine rd1 11 (fun K hK => ?_)
              go_simp
              (go_at_call 60; refine (rcount_m _ _ _ _ _ _ (HW.out.1.below (bt KW.out.1 hHeld.1)) K4.out GT).mono ?_; rintro e w2 ⟨rfl, hb2⟩)
              refine hK.out _ _ (keep_step (by assumption) hHeld KS) (fun hHeld2 => ?_)
              clear hK K hHeld; have hHeld := hHeld2; clear hHeld2
              try simp only [Act.put, List.setIfInBounds_toArray, List.set_cons_zero, List.set_cons_succ]
              refine tk 14 (v := ?_) ?_ ?_
              rotate_left
              · intro w hSw; (try dsimp only at hSw); go_simp; (try with_reducible rfl)
              try simp only [Act.put, List.setIfInBounds_toArray, List.set_cons_zero, List.set_cons_succ]
              refine tk 15 (v := ?_) ?_ ?_
              rotate_left
              · intro w hSw; (try dsimp only at hSw); go_simp; (try with_reducible rfl)
              try simp only [Act.put, List.setIfInBounds_toArray, List.set_cons_zero, List.set_cons_succ]
              refine tk 16 (v := ?_) ?_ ?_
              rotate_left
              · intro w hSw; (try dsimp only at hSw); go_simp; (try with_reducible rfl)
              try simp only [Act.put, List.setIfInBounds_toArray, List.set_cons_zero, List.set_cons_succ]
              refine tk 17 (v := ?_) ?_ ?_
              rotate_left
              · intro w hSw; (try dsimp only at hSw); go_simp; (try with_reducible rfl)
              try simp only [Act.put, List.setIfInBounds_toArray, List.set_cons_zero, List.set_cons_succ]
              refine tk 18 (v := ?_) ?_ ?_
              rotate_left
              · intro w hSw; (try dsimp only at hSw); go_simp; (try with_reducible rfl)
              try simp only [Act.put, List.setIfInBounds_toArray, List.set_cons_zero, List.set_cons_succ]
              refine tk 19 (v := ?_) ?_ ?_
              rotate_left
              · intro w hSw; (try dsimp only at hSw); go_simp; (try with_reducible rfl)
              try simp only [Act.put, List.setIfInBounds_toArray, List.set_cons_zero, List.set_cons_succ]
              refine tk 20 (v := ?_) ?_ ?_
              rotate_left
              · intro w hSw; (try dsimp only at hSw); go_simp; (try with_reducible rfl)
              try simp only [Act.put, List.setIfInBounds_toArray, List.set_cons_zero, List.set_cons_succ]
              refine tk 22 (v := ?_) ?_ ?_
              rotate_left
              · intro w hSw; (try dsimp only at hSw); go_simp; (try with_reducible rfl)
              try simp only [Act.put, List.setIfInBounds_toArray, List.set_cons_zero, List.set_cons_succ]
              refine tk 23 (v := ?_) ?_ ?_
              rotate_left
              · intro w hSw; (try dsimp only at hSw); go_simp; (try with_reducible rfl)
              try simp only [Act.put, List.setIfInBounds_toArray, List.set_cons_zero, List.set_cons_succ]
              refine tk 24 (v := ?_) ?_ ?_
              rotate_left
              · intro w hSw; (try dsimp only at hSw); go_simp; (try with_reducible rfl)
              try simp only [Act.put, List.setIfInBounds_toArray, List.set_cons_zero, List.set_cons_succ]
              refine tk 25 (v := ?_) ?_ ?_
              rotate_left
              · intro w hSw; (try dsimp only at hSw); go_simp; (try with_reducible rfl)
              try simp only [Act.put, List.setIfInBounds_toArray, List.set_cons_zero, List.set_cons_succ]
              refine rd1 21 (fun K hK => ?_)
              go_simp
              (go_at_call 61; refine (wide_m _ _ _ _ _ _ _ _ (HW.out.1.below (bt KW.out.1 hHeld.1)) K4.out HB X1 X2 X3).mono ?_; rintro e w3 ⟨rfl, hb3⟩)
              refine hK.out _ _ (keep_step (by assumption) hHeld KS) (fun hHeld2 => ?_)
              clear hK K hHeld; have hHeld := hHeld2; clear hHeld2
              try simp only [Act.put, List.setIfInBounds_toArray, List.set_cons_zero, List.set_cons_succ]
              refine rd1 26 (fun K hK => ?_)
              go_simp
              (go_at_call 62; refine (wof_m _ _ _ _ _ O2.out Y1 Y2 Y3).mono ?_; rintro e w4 ⟨rfl, hb4⟩)
              refine hK.out _ _ (keep_step (by assumption) hHeld KS) (fun hHeld2 => ?_)
              clear hK K hHeld; have hHeld := hHeld2; clear hHeld2
              try simp only [Act.put, List.setIfInBounds_toArray, List.set_cons_zero, List.set_cons_succ]
              refine tk 27 (v := ?_) ?_ ?_
              rotate_left
              · intro w hSw; (try dsimp only at hSw); go_simp; (try with_reducible rfl)
              try simp only [Act.put, List.setIfInBounds_toArray, List.set_cons_zero, List.set_cons_succ]
              refine tk 28 (v := ?_) ?_ ?_
              rotate_left
              · intro w hSw; (try dsimp only at hSw); go_simp; (try with_reducible rfl)
              try simp only [Act.put, List.setIfInBounds_toArray, List.set_cons_zero, List.set_cons_succ]
              refine wpAnyH_done (by kernel_rfl) ?_ _
              refine NoPanic.normal ?_
              have K2 := hid (KW.out.step (bt (bt (bt (undrew hb1) hb2) hb3) hb4))
              clear hb1 hb2 hb3 hb4 hHeld KS
              obtain ⟨d0, d1, d2, d3, d4⟩ := box_five K2.out.2.2
              cases Q with
              | false =>
                go_wp2
                go_ret
                exact ⟨ret_bool (cg_r0 (EQ.out)).symm, K2.out.1⟩
              | true =>
                go_wp2
                go_roundw
                case rel => exact ⟨K2, .inr (.inl ⟨by go_num, EQ⟩)⟩
                case measure => simp [intOf]
            · have ttn : (T != c.n) = true := by simp [htn]
              have HRF : Hid (rk c.n c.s0 c.b0 = false) := hid (tl_rk (by rw [et]; exact htn))
              clear eg et htn
              have KS : Hid (∀ y, Below wr.heap.size wr y → Below wr.heap.size wr y ∧ y.cell? ⟨w.heap.size, 0, none⟩ = some (.int .i64 c.n) ∧ y.cell? ⟨w.heap.size, 1, none⟩ = some (.int .i64 c.s0) ∧ y.cell? ⟨w.heap.size, 2, none⟩ = some (.int .i64 c.s1) ∧ y.cell? ⟨w.heap.size, 3, none⟩ = some (.slice a0 p0 k0) ∧ y.cell? ⟨w.heap.size, 4, none⟩ = some (.slice a1 p1 k1)) := hid (fun y hb => KW.out.five hb)
              clear d0 d1 d2 d3 d4
              go_wp2
              refine wp_region_noPanic ?_
              refine wp_region_held_drew (S := fun y => Below wr.heap.size wr y ∧ y.cell? ⟨w.heap.size, 0, none⟩ = some (.int .i64 c.n) ∧ y.cell? ⟨w.heap.size, 1, none⟩ = some (.int .i64 c.s0) ∧ y.cell? ⟨w.heap.size, 2, none⟩ = some (.int .i64 c.s1) ∧ y.cell? ⟨w.heap.size, 3, none⟩ = some (.slice a0 p0 k0) ∧ y.cell? ⟨w.heap.size, 4, none⟩ = some (.slice a1 p1 k1)) (by kernel_rfl) (keep_drew KS) (fun hHeld => ?_)
              refine tk 0 (v := ?_) ?_ ?_
              rotate_left
              · intro w hSw; (try dsimp only at hSw); go_simp; (try with_reducible rfl)
              try simp only [Act.put, List.setIfInBounds_toArray, List.set_cons_zero, List.set_cons_succ]
              refine tk 1 (v := ?_) ?_ ?_
              rotate_left
              · intro w hSw; (try dsimp only at hSw); go_simp; (try with_reducible rfl)
              try simp only [Act.put, List.setIfInBounds_toArray, List.set_cons_zero, List.set_cons_succ]
              refine tk 2 (v := ?_) ?_ ?_
              rotate_left
              · intro w hSw; (try dsimp only at hSw); go_simp; (try with_reducible rfl)
              try simp only [Act.put, List.setIfInBounds_toArray, List.set_cons_zero, List.set_cons_succ]
              refine tk 3 (v := ?_) ?_ ?_
              rotate_left
              · intro w hSw; (try dsimp only at hSw); go_simp; (try with_reducible rfl)
              try simp only [Act.put, List.setIfInBounds_toArray, List.set_cons_zero, List.set_cons_succ]
              refine rd1 4 (fun K hK => ?_)
              go_simp
              (go_at_call 59; refine (rgood_m _ _ _ _ _ _ (HW.out.1.below (bt KW.out.1 hHeld.1)) K4.out GD).mono ?_; rintro e w1 ⟨rfl, hb1⟩)
              refine hK.out _ _ (keep_step (by assumption) hHeld KS) (fun hHeld2 => ?_)
              clear hK K hHeld; have hHeld := hHeld2; clear hHeld2
              try simp only [Act.put, List.setIfInBounds_toArray, List.set_cons_zero, List.set_cons_succ]
              refine tk 5 (v := ?_) ?_ ?_
              rotate_left
              · intro w hSw; (try dsimp only at hSw); go_simp; (try with_reducible rfl)
              try simp only [Act.put, List.setIfInBounds_toArray, List.set_cons_zero, List.set_cons_succ]
              refine tk 6 (v := ?_) ?_ ?_
              rotate_left
              · intro w hSw; (try dsimp only at hSw); go_simp; (try with_reducible rfl)
              try simp only [Act.put, List.setIfInBounds_toArray, List.set_cons_zero, List.set_cons_succ]
              refine tk 7 (v := ?_) ?_ ?_
              rotate_left
              · intro w hSw; (try dsimp only at hSw); go_simp; (try with_reducible rfl)
              try simp only [Act.put, List.setIfInBounds_toArray, List.set_cons_zero, List.set_cons_succ]
              refine tk 8 (v := ?_) ?_ ?_
              rotate_left
              · intro w hSw; (try dsimp only at hSw); go_simp; (try with_reducible rfl)
              try simp only [Act.put, List.setIfInBounds_toArray, List.set_cons_zero, List.set_cons_succ]
              refine tk 9 (v := ?_) ?_ ?_
              rotate_left
              · intro w hSw; (try dsimp only at hSw); go_simp; (try with_reducible rfl)
              try simp only [Act.put, List.setIfInBounds_toArray, List.set_cons_zero, List.set_cons_succ]
              refine tk 10 (v := ?_) ?_ ?_
              rotate_left
              · intro w hSw; (try dsimp only at hSw); go_simp; (try with_reducible rfl)
              try simp only [Act.put, List.setIfInBounds_toArray, List.set_cons_zero, List.set_cons_succ]
              refine tk 12 (v := ?_) ?_ ?_
              rotate_left
              · intro w hSw; (try dsimp only at hSw); go_simp; (try with_reducible rfl)
              try simp only [Act.put, List.setIfInBounds_toArray, List.set_cons_zero, List.set_cons_succ]
              refine tk 13 (v := ?_) ?_ ?_
              rotate_left
              · intro w hSw; (try dsimp only at hSw); go_simp; (try with_reducible rfl)
              try simp only [Act.put, List.setIfInBounds_toArray, List.set_cons_zero, List.set_cons_succ]
              refine rd1 11 (fun K hK => ?_)
              go_simp
              (go_at_call 60; refine (rcount_m _ _ _ _ _ _ (HW.out.1.below (bt KW.out.1 hHeld.1)) K4.out GT).mono ?_; rintro e w2 ⟨rfl, hb2⟩)
              refine hK.out _ _ (keep_step (by assumption) hHeld KS) (fun hHeld2 => ?_)
              clear hK K hHeld; have hHeld := hHeld2; clear hHeld2
              try simp only [Act.put, List.setIfInBounds_toArray, List.set_cons_zero, List.set_cons_succ]
              refine tk 14 (v := ?_) ?_ ?_
              rotate_left
              · intro w hSw; (try dsimp only at hSw); go_simp; (try with_reducible rfl)
              try simp only [Act.put, List.setIfInBounds_toArray, List.set_cons_zero, List.set_cons_succ]
              refine tk 15 (v := ?_) ?_ ?_
              rotate_left
              · intro w hSw; (try dsimp only at hSw); go_simp; (try with_reducible rfl)
              try simp only [Act.put, List.setIfInBounds_toArray, List.set_cons_zero, List.set_cons_succ]
              refine tk 16 (v := ?_) ?_ ?_
              rotate_left
              · intro w hSw; (try dsimp only at hSw); go_simp; (try with_reducible rfl)
              try simp only [Act.put, List.setIfInBounds_toArray, List.set_cons_zero, List.set_cons_succ]
              refine tks 17 ?_
              try simp only [Act.put, List.setIfInBounds_toArray, List.set_cons_zero, List.set_cons_succ]
              refine tks 18 ?_
              try simp only [Act.put, List.setIfInBounds_toArray, List.set_cons_zero, List.set_cons_succ]
              refine tks 19 ?_
              try simp only [Act.put, List.setIfInBounds_toArray, List.set_cons_zero, List.set_cons_succ]
              refine tks 20 ?_
              try simp only [Act.put, List.setIfInBounds_toArray, List.set_cons_zero, List.set_cons_succ]
              refine tks 21 ?_
              try simp only [Act.put, List.setIfInBounds_toArray, List.set_cons_zero, List.set_cons_succ]
              refine tks 22 ?_
              try simp only [Act.put, List.setIfInBounds_toArray, List.set_cons_zero, List.set_cons_succ]
              refine tks 23 ?_
              try simp only [Act.put, List.setIfInBounds_toArray, List.set_cons_zero, List.set_cons_succ]
              refine tks 24 ?_
              try simp only [Act.put, List.setIfInBounds_toArray, List.set_cons_zero, List.set_cons_succ]
              refine tks 25 ?_
              try simp only [Act.put, List.setIfInBounds_toArray, List.set_cons_zero, List.set_cons_succ]
              refine tks 26 ?_
              try simp only [Act.put, List.setIfInBounds_toArray, List.set_cons_zero, List.set_cons_succ]
              refine tks 27 ?_
              try simp only [Act.put, List.setIfInBounds_toArray, List.set_cons_zero, List.set_cons_succ]
              refine tk 28 (v := ?_) ?_ ?_
              rotate_left
              · intro w hSw; (try dsimp only at hSw); go_simp; (try with_reducible rfl)
              try simp only [Act.put, List.setIfInBounds_toArray, List.set_cons_zero, List.set_cons_succ]
              refine wpAnyH_done (by kernel_rfl) ?_ _
              refine NoPanic.normal ?_
              go_wp2
              go_ret
              exact ⟨ret_bool (cg_r0 (HRF.out)).symm, bt KW.out.1 (bt (undrew hb1) hb2)⟩

        · rcases HM.out with hm | hm
          · subst hm
            have ECG := hid (cg_one HN.out R0.out)
            by_cases hs : c.s1 = 0
            · have hsd : (c.s1 != 0) = false := by simp [hs]
              by_cases hp : p1 = 0
              · have hpd : decide ((0 : Int) < (p1 : Int)) = false := decide_eq_false (by omega)
                have hpe : decide (0 < p1) = false := decide_eq_false (by omega)
                have ECT : Hid (cg 1 c = true) := hid (by rw [ECG.out, len_emp EU.out, decide_eq_true hs, decide_eq_true hp]; rfl)
                clear hs hp
                go_wp2
                go_roundw
                case rel => exact ⟨KW, .inr (.inr ⟨by go_num, ECT⟩)⟩
                case measure => simp [intOf]
              · have hpd : decide ((0 : Int) < (p1 : Int)) = true := decide_eq_true (by omega)
                have hpe : decide (0 < p1) = true := decide_eq_true (by omega)
                have ECT : Hid (cg 1 c = false) := hid (by rw [ECG.out, len_emp EU.out, decide_eq_false hp]; simp)
                clear hs hp
                go_wp2
                go_ret
                exact ⟨ret_bool ECT.out.symm, KW.out.1⟩
            · have hsd : (c.s1 != 0) = true := by simp [hs]
              have ECT : Hid (cg 1 c = false) := hid (by rw [ECG.out, decide_eq_false hs]; rfl)
              clear hs
              go_wp2
              go_ret
              exact ⟨ret_bool ECT.out.symm, KW.out.1⟩
          · subst hm
            obtain ⟨gv, eg⟩ : ∃ x, gd c.b1 = x := ⟨_, rfl⟩
            have GD := hid eg
            cases gv with
            | false =>
              clear eg
              have KS : Hid (∀ y, Below wr.heap.size wr y → Below wr.heap.size wr y ∧ y.cell? ⟨w.heap.size, 0, none⟩ = some (.int .i64 c.n) ∧ y.cell? ⟨w.heap.size, 1, none⟩ = some (.int .i64 c.s0) ∧ y.cell? ⟨w.heap.size, 2, none⟩ = some (.int .i64 c.s1) ∧ y.cell? ⟨w.heap.size, 3, none⟩ = some (.slice a0 p0 k0) ∧ y.cell? ⟨w.heap.size, 4, none⟩ = some (.slice a1 p1 k1)) := hid (fun y hb => KW.out.five hb)
              clear d0 d1 d2 d3 d4
              go_wp2
              refine wp_region_noPanic ?_
              refine wp_region_held_drew (S := fun y => Below wr.heap.size wr y ∧ y.cell? ⟨w.heap.size, 0, none⟩ = some (.int .i64 c.n) ∧ y.cell? ⟨w.heap.size, 1, none⟩ = some (.int .i64 c.s0) ∧ y.cell? ⟨w.heap.size, 2, none⟩ = some (.int .i64 c.s1) ∧ y.cell? ⟨w.heap.size, 3, none⟩ = some (.slice a0 p0 k0) ∧ y.cell? ⟨w.heap.size, 4, none⟩ = some (.slice a1 p1 k1)) (by kernel_rfl) (keep_drew KS) (fun hHeld => ?_)
              refine tk 0 (v := ?_) ?_ ?_
              rotate_left
              · intro w hSw; (try dsimp only at hSw); go_simp; (try with_reducible rfl)
              try simp only [Act.put, List.setIfInBounds_toArray, List.set_cons_zero, List.set_cons_succ]
              refine tk 1 (v := ?_) ?_ ?_
              rotate_left
              · intro w hSw; (try dsimp only at hSw); go_simp; (try with_reducible rfl)
              try simp only [Act.put, List.setIfInBounds_toArray, List.set_cons_zero, List.set_cons_succ]
              refine tk 2 (v := ?_) ?_ ?_
              rotate_left
              · intro w hSw; (try dsimp only at hSw); go_simp; (try with_reducible rfl)
              try simp only [Act.put, List.setIfInBounds_toArray, List.set_cons_zero, List.set_cons_succ]
              refine tk 3 (v := ?_) ?_ ?_
              rotate_left
              · intro w hSw; (try dsimp only at hSw); go_simp; (try with_reducible rfl)
              try simp only [Act.put, List.setIfInBounds_toArray, List.set_cons_zero, List.set_cons_succ]
              refine rd1 4 (fun K hK => ?_)
              go_simp
              (go_at_call 59; refine (rgood_m _ _ _ _ _ _ (HW.out.2.below (bt KW.out.1 hHeld.1)) K5.out GD).mono ?_; rintro e w1 ⟨rfl, hb1⟩)
              refine hK.out _ _ (keep_step (by assumption) hHeld KS) (fun hHeld2 => ?_)
              clear hK K hHeld; have hHeld := hHeld2; clear hHeld2
              try simp only [Act.put, List.setIfInBounds_toArray, List.set_cons_zero, List.set_cons_succ]
              refine tk 5 (v := ?_) ?_ ?_
              rotate_left
              · intro w hSw; (try dsimp only at hSw); go_simp; (try with_reducible rfl)
              try simp only [Act.put, List.setIfInBounds_toArray, List.set_cons_zero, List.set_cons_succ]
              refine tk 6 (v := ?_) ?_ ?_
              rotate_left
              · intro w hSw; (try dsimp only at hSw); go_simp; (try with_reducible rfl)
              try simp only [Act.put, List.setIfInBounds_toArray, List.set_cons_zero, List.set_cons_succ]
              refine tks 7 ?_
              try simp only [Act.put, List.setIfInBounds_toArray, List.set_cons_zero, List.set_cons_succ]
              refine tks 8 ?_
              try simp only [Act.put, List.setIfInBounds_toArray, List.set_cons_zero, List.set_cons_succ]
              refine tks 9 ?_
              try simp only [Act.put, List.setIfInBounds_toArray, List.set_cons_zero, List.set_cons_succ]
              refine tks 10 ?_
              try simp only [Act.put, List.setIfInBounds_toArray, List.set_cons_zero, List.set_cons_succ]
              refine tks 11 ?_
              try simp only [Act.put, List.setIfInBounds_toArray, List.set_cons_zero, List.set_cons_succ]
              refine tks 12 ?_
              try simp only [Act.put, List.setIfInBounds_toArray, List.set_cons_zero, List.set_cons_succ]
              refine tks 13 ?_
              try simp only [Act.put, List.setIfInBounds_toArray, List.set_cons_zero, List.set_cons_succ]
              refine tks 14 ?_
              try simp only [Act.put, List.setIfInBounds_toArray, List.set_cons_zero, List.set_cons_succ]
              refine tk 15 (v := ?_) ?_ ?_
              rotate_left
              · intro w hSw; (try dsimp only at hSw); go_simp; (try with_reducible rfl)
              try simp only [Act.put, List.setIfInBounds_toArray, List.set_cons_zero, List.set_cons_succ]
              refine tk 16 (v := ?_) ?_ ?_
              rotate_left
              · intro w hSw; (try dsimp only at hSw); go_simp; (try with_reducible rfl)
              try simp only [Act.put, List.setIfInBounds_toArray, List.set_cons_zero, List.set_cons_succ]
              refine tks 17 ?_
              try simp only [Act.put, List.setIfInBounds_toArray, List.set_cons_zero, List.set_cons_succ]
              refine tks 18 ?_
              try simp only [Act.put, List.setIfInBounds_toArray, List.set_cons_zero, List.set_cons_succ]
              refine tks 19 ?_
              try simp only [Act.put, List.setIfInBounds_toArray, List.set_cons_zero, List.set_cons_succ]
              refine tks 20 ?_
              try simp only [Act.put, List.setIfInBounds_toArray, List.set_cons_zero, List.set_cons_succ]
              refine tks 21 ?_
              try simp only [Act.put, List.setIfInBounds_toArray, List.set_cons_zero, List.set_cons_succ]
              refine tks 22 ?_
              try simp only [Act.put, List.setIfInBounds_toArray, List.set_cons_zero, List.set_cons_succ]
              refine tks 23 ?_
              try simp only [Act.put, List.setIfInBounds_toArray, List.set_cons_zero, List.set_cons_succ]
              refine tks 24 ?_
              try simp only [Act.put, List.setIfInBounds_toArray, List.set_cons_zero, List.set_cons_succ]
              refine tks 25 ?_
              try simp only [Act.put, List.setIfInBounds_toArray, List.set_cons_zero, List.set_cons_succ]
              refine tks 26 ?_
              try simp only [Act.put, List.setIfInBounds_toArray, List.set_cons_zero, List.set_cons_succ]
              refine tks 27 ?_
              try simp only [Act.put, List.setIfInBounds_toArray, List.set_cons_zero, List.set_cons_succ]
              refine tk 28 (v := ?_) ?_ ?_
              rotate_left
              · intro w hSw; (try dsimp only at hSw); go_simp; (try with_reducible rfl)
              try simp only [Act.put, List.setIfInBounds_toArray, List.set_cons_zero, List.set_cons_succ]
              refine wpAnyH_done (by kernel_rfl) ?_ _
              refine NoPanic.normal ?_
              go_wp2
              go_ret
              exact ⟨ret_bool (cg_r1 (rk_gd GD.out)).symm, bt KW.out.1 (undrew hb1)⟩
            | true =>
              obtain ⟨T, et⟩ : ∃ x, tl c.b1 = x := ⟨_, rfl⟩
              have GT := hid et
              by_cases htn : T = c.n
              · have ttn : (T != c.n) = false := by simp [htn]
                have HTN := hid htn
                have HB := hid (gd_iff.1 eg)
                obtain ⟨xp, ex1⟩ : ∃ y, calc.ng (wsum c.b1) = y := ⟨_, rfl⟩
                obtain ⟨xh, ex2⟩ : ∃ y, calc.hi (calc.sz (wsum c.b1)) = y := ⟨_, rfl⟩
                obtain ⟨xl, ex3⟩ : ∃ y, calc.lo (calc.sz (wsum c.b1)) = y := ⟨_, rfl⟩
                obtain ⟨yp, ey1⟩ : ∃ y, calc.ng c.s1 = y := ⟨_, rfl⟩
                obtain ⟨yh, ey2⟩ : ∃ y, calc.hi (calc.sz c.s1) = y := ⟨_, rfl⟩
                obtain ⟨yl, ey3⟩ : ∃ y, calc.lo (calc.sz c.s1) = y := ⟨_, rfl⟩
                obtain ⟨Q, hq⟩ : ∃ y, qw xp yp xh xl yh yl = y := ⟨_, rfl⟩
                have EQ : Hid (rk c.n c.s1 c.b1 = Q) := hid (by rw [rk_full eg (et.trans htn), ← qw_dec, ex1, ex2, ex3, ey1, ey2, ey3, hq])
                have X1 := hid ex1
                have X2 := hid ex2
                have X3 := hid ex3
                have Y1 := hid ey1
                have Y2 := hid ey2
                have Y3 := hid ey3
                clear eg et htn ex1 ex2 ex3 ey1 ey2 ey3
                have KS : Hid (∀ y, Below wr.heap.size wr y → Below wr.heap.size wr y ∧ y.cell? ⟨w.heap.size, 0, none⟩ = some (.int .i64 c.n) ∧ y.cell? ⟨w.heap.size, 1, none⟩ = some (.int .i64 c.s0) ∧ y.cell? ⟨w.heap.size, 2, none⟩ = some (.int .i64 c.s1) ∧ y.cell? ⟨w.heap.size, 3, none⟩ = some (.slice a0 p0 k0) ∧ y.cell? ⟨w.heap.size, 4, none⟩ = some (.slice a1 p1 k1)) := hid (fun y hb => KW.out.five hb)
                clear d0 d1 d2 d3 d4
                go_wp2
                refine wp_region_noPanic ?_
                refine wp_region_held_drew (S := fun y => Below wr.heap.size wr y ∧ y.cell? ⟨w.heap.size, 0, none⟩ = some (.int .i64 c.n) ∧ y.cell? ⟨w.heap.size, 1, none⟩ = some (.int .i64 c.s0) ∧ y.cell? ⟨w.heap.size, 2, none⟩ = some (.int .i64 c.s1) ∧ y.cell? ⟨w.heap.size, 3, none⟩ = some (.slice a0 p0 k0) ∧ y.cell? ⟨w.heap.size, 4, none⟩ = some (.slice a1 p1 k1)) (by kernel_rfl) (keep_drew KS) (fun hHeld => ?_)
                refine tk 0 (v := ?_) ?_ ?_
                rotate_left
                · intro w hSw; (try dsimp only at hSw); go_simp; (try with_reducible rfl)
                try simp only [Act.put, List.setIfInBounds_toArray, List.set_cons_zero, List.set_cons_succ]
                refine tk 1 (v := ?_) ?_ ?_
                rotate_left
                · intro w hSw; (try dsimp only at hSw); go_simp; (try with_reducible rfl)
                try simp only [Act.put, List.setIfInBounds_toArray, List.set_cons_zero, List.set_cons_succ]
                refine tk 2 (v := ?_) ?_ ?_
                rotate_left
                · intro w hSw; (try dsimp only at hSw); go_simp; (try with_reducible rfl)
                try simp only [Act.put, List.setIfInBounds_toArray, List.set_cons_zero, List.set_cons_succ]
                refine tk 3 (v := ?_) ?_ ?_
                rotate_left
                · intro w hSw; (try dsimp only at hSw); go_simp; (try with_reducible rfl)
                try simp only [Act.put, List.setIfInBounds_toArray, List.set_cons_zero, List.set_cons_succ]
                refine rd1 4 (fun K hK => ?_)
                go_simp
                (go_at_call 59; refine (rgood_m _ _ _ _ _ _ (HW.out.2.below (bt KW.out.1 hHeld.1)) K5.out GD).mono ?_; rintro e w1 ⟨rfl, hb1⟩)
                refine hK.out _ _ (keep_step (by assumption) hHeld KS) (fun hHeld2 => ?_)
                clear hK K hHeld; have hHeld := hHeld2; clear hHeld2
                try simp only [Act.put, List.setIfInBounds_toArray, List.set_cons_zero, List.set_cons_succ]
                refine tk 5 (v := ?_) ?_ ?_
                rotate_left
                · intro w hSw; (try dsimp only at hSw); go_simp; (try with_reducible rfl)
                try simp only [Act.put, List.setIfInBounds_toArray, List.set_cons_zero, List.set_cons_succ]
                refine tk 6 (v := ?_) ?_ ?_
                rotate_left
                · intro w hSw; (try dsimp only at hSw); go_simp; (try with_reducible rfl)
                try simp only [Act.put, List.setIfInBounds_toArray, List.set_cons_zero, List.set_cons_succ]
                refine tk 7 (v := ?_) ?_ ?_
                rotate_left
                · intro w hSw; (try dsimp only at hSw); go_simp; (try with_reducible rfl)
                try simp only [Act.put, List.setIfInBounds_toArray, List.set_cons_zero, List.set_cons_succ]
                refine tk 8 (v := ?_) ?_ ?_
                rotate_left
                · intro w hSw; (try dsimp only at hSw); go_simp; (try with_reducible rfl)
                try simp only [Act.put, List.setIfInBounds_toArray, List.set_cons_zero, List.set_cons_succ]
                refine tk 9 (v := ?_) ?_ ?_
                rotate_left
                · intro w hSw; (try dsimp only at hSw); go_simp; (try with_reducible rfl)
                try simp only [Act.put, List.setIfInBounds_toArray, List.set_cons_zero, List.set_cons_succ]
                refine tk 10 (v := ?_) ?_ ?_
                rotate_left
                · intro w hSw; (try dsimp only at hSw); go_simp; (try with_reducible rfl)
                try simp only [Act.put, List.setIfInBounds_toArray, List.set_cons_zero, List.set_cons_succ]
                refine tk 12 (v := ?_) ?_ ?_
                rotate_left
                · intro w hSw; (try dsimp only at hSw); go_simp; (try with_reducible rfl)
                try simp only [Act.put, List.setIfInBounds_toArray, List.set_cons_zero, List.set_cons_succ]
                refine tk 13 (v := ?_) ?_ ?_
                rotate_left
                · intro w hSw; (try dsimp only at hSw); go_simp; (try with_reducible rfl)
                try simp only [Act.put, List.setIfInBounds_toArray, List.set_cons_zero, List.set_cons_succ]
                refine rd1 11 (fun K hK => ?_)
                go_simp
                (go_at_call 60; refine (rcount_m _ _ _ _ _ _ (HW.out.2.below (bt KW.out.1 hHeld.1)) K5.out GT).mono ?_; rintro e w2 ⟨rfl, hb2⟩)
                refine hK.out _ _ (keep_step (by assumption) hHeld KS) (fun hHeld2 => ?_)
                clear hK K hHeld; have hHeld := hHeld2; clear hHeld2
                try simp only [Act.put, List.setIfInBounds_toArray, List.set_cons_zero, List.set_cons_succ]
                refine tk 14 (v := ?_) ?_ ?_
                rotate_left
                · intro w hSw; (try dsimp only at hSw); go_simp; (try with_reducible rfl)
                try simp only [Act.put, List.setIfInBounds_toArray, List.set_cons_zero, List.set_cons_succ]
                refine tk 15 (v := ?_) ?_ ?_
                rotate_left
                · intro w hSw; (try dsimp only at hSw); go_simp; (try with_reducible rfl)
                try simp only [Act.put, List.setIfInBounds_toArray, List.set_cons_zero, List.set_cons_succ]
                refine tk 16 (v := ?_) ?_ ?_
                rotate_left
                · intro w hSw; (try dsimp only at hSw); go_simp; (try with_reducible rfl)
                try simp only [Act.put, List.setIfInBounds_toArray, List.set_cons_zero, List.set_cons_succ]
                refine tk 17 (v := ?_) ?_ ?_
                rotate_left
                · intro w hSw; (try dsimp only at hSw); go_simp; (try with_reducible rfl)
                try simp only [Act.put, List.setIfInBounds_toArray, List.set_cons_zero, List.set_cons_succ]
                refine tk 18 (v := ?_) ?_ ?_
                rotate_left
                · intro w hSw; (try dsimp only at hSw); go_simp; (try with_reducible rfl)
                try simp only [Act.put, List.setIfInBounds_toArray, List.set_cons_zero, List.set_cons_succ]
                refine tk 19 (v := ?_) ?_ ?_
                rotate_left
                · intro w hSw; (try dsimp only at hSw); go_simp; (try with_reducible rfl)
                try simp only [Act.put, List.setIfInBounds_toArray, List.set_cons_zero, List.set_cons_succ]
                refine tk 20 (v := ?_) ?_ ?_
                rotate_left
                · intro w hSw; (try dsimp only at hSw); go_simp; (try with_reducible rfl)
                try simp only [Act.put, List.setIfInBounds_toArray, List.set_cons_zero, List.set_cons_succ]
                refine tk 22 (v := ?_) ?_ ?_
                rotate_left
                · intro w hSw; (try dsimp only at hSw); go_simp; (try with_reducible rfl)
                try simp only [Act.put, List.setIfInBounds_toArray, List.set_cons_zero, List.set_cons_succ]
                refine tk 23 (v := ?_) ?_ ?_
                rotate_left
                · intro w hSw; (try dsimp only at hSw); go_simp; (try with_reducible rfl)
                try simp only [Act.put, List.setIfInBounds_toArray, List.set_cons_zero, List.set_cons_succ]
                refine tk 24 (v := ?_) ?_ ?_
                rotate_left
                · intro w hSw; (try dsimp only at hSw); go_simp; (try with_reducible rfl)
                try simp only [Act.put, List.setIfInBounds_toArray, List.set_cons_zero, List.set_cons_succ]
                refine tk 25 (v := ?_) ?_ ?_
                rotate_left
                · intro w hSw; (try dsimp only at hSw); go_simp; (try with_reducible rfl)
                try simp only [Act.put, List.setIfInBounds_toArray, List.set_cons_zero, List.set_cons_succ]
                refine rd1 21 (fun K hK => ?_)
                go_simp
                (go_at_call 61; refine (wide_m _ _ _ _ _ _ _ _ (HW.out.2.below (bt KW.out.1 hHeld.1)) K5.out HB X1 X2 X3).mono ?_; rintro e w3 ⟨rfl, hb3⟩)
                refine hK.out _ _ (keep_step (by assumption) hHeld KS) (fun hHeld2 => ?_)
                clear hK K hHeld; have hHeld := hHeld2; clear hHeld2
                try simp only [Act.put, List.setIfInBounds_toArray, List.set_cons_zero, List.set_cons_succ]
                refine rd1 26 (fun K hK => ?_)
                go_simp
                (go_at_call 62; refine (wof_m _ _ _ _ _ O3.out Y1 Y2 Y3).mono ?_; rintro e w4 ⟨rfl, hb4⟩)
                refine hK.out _ _ (keep_step (by assumption) hHeld KS) (fun hHeld2 => ?_)
                clear hK K hHeld; have hHeld := hHeld2; clear hHeld2
                try simp only [Act.put, List.setIfInBounds_toArray, List.set_cons_zero, List.set_cons_succ]
                refine tk 27 (v := ?_) ?_ ?_
                rotate_left
                · intro w hSw; (try dsimp only at hSw); go_simp; (try with_reducible rfl)
                try simp only [Act.put, List.setIfInBounds_toArray, List.set_cons_zero, List.set_cons_succ]
                refine tk 28 (v := ?_) ?_ ?_
                rotate_left
                · intro w hSw; (try dsimp only at hSw); go_simp; (try with_reducible rfl)
                try simp only [Act.put, List.setIfInBounds_toArray, List.set_cons_zero, List.set_cons_succ]
                refine wpAnyH_done (by kernel_rfl) ?_ _
                refine NoPanic.normal ?_
                have K2 := hid (KW.out.step (bt (bt (bt (undrew hb1) hb2) hb3) hb4))
                clear hb1 hb2 hb3 hb4 hHeld KS
                obtain ⟨d0, d1, d2, d3, d4⟩ := box_five K2.out.2.2
                cases Q with
                | false =>
                  go_wp2
                  go_ret
                  exact ⟨ret_bool (cg_r1 (EQ.out)).symm, K2.out.1⟩
                | true =>
                  go_wp2
                  go_roundw
                  case rel => exact ⟨K2, .inr (.inr ⟨by go_num, hid (by rw [cg_two HN.out R0.out]; exact EQ.out)⟩)⟩
                  case measure => simp [intOf]
              · have ttn : (T != c.n) = true := by simp [htn]
                have HRF : Hid (rk c.n c.s1 c.b1 = false) := hid (tl_rk (by rw [et]; exact htn))
                clear eg et htn
                have KS : Hid (∀ y, Below wr.heap.size wr y → Below wr.heap.size wr y ∧ y.cell? ⟨w.heap.size, 0, none⟩ = some (.int .i64 c.n) ∧ y.cell? ⟨w.heap.size, 1, none⟩ = some (.int .i64 c.s0) ∧ y.cell? ⟨w.heap.size, 2, none⟩ = some (.int .i64 c.s1) ∧ y.cell? ⟨w.heap.size, 3, none⟩ = some (.slice a0 p0 k0) ∧ y.cell? ⟨w.heap.size, 4, none⟩ = some (.slice a1 p1 k1)) := hid (fun y hb => KW.out.five hb)
                clear d0 d1 d2 d3 d4
                go_wp2
                refine wp_region_noPanic ?_
                refine wp_region_held_drew (S := fun y => Below wr.heap.size wr y ∧ y.cell? ⟨w.heap.size, 0, none⟩ = some (.int .i64 c.n) ∧ y.cell? ⟨w.heap.size, 1, none⟩ = some (.int .i64 c.s0) ∧ y.cell? ⟨w.heap.size, 2, none⟩ = some (.int .i64 c.s1) ∧ y.cell? ⟨w.heap.size, 3, none⟩ = some (.slice a0 p0 k0) ∧ y.cell? ⟨w.heap.size, 4, none⟩ = some (.slice a1 p1 k1)) (by kernel_rfl) (keep_drew KS) (fun hHeld => ?_)
                refine tk 0 (v := ?_) ?_ ?_
                rotate_left
                · intro w hSw; (try dsimp only at hSw); go_simp; (try with_reducible rfl)
                try simp only [Act.put, List.setIfInBounds_toArray, List.set_cons_zero, List.set_cons_succ]
                refine tk 1 (v := ?_) ?_ ?_
                rotate_left
                · intro w hSw; (try dsimp only at hSw); go_simp; (try with_reducible rfl)
                try simp only [Act.put, List.setIfInBounds_toArray, List.set_cons_zero, List.set_cons_succ]
                refine tk 2 (v := ?_) ?_ ?_
                rotate_left
                · intro w hSw; (try dsimp only at hSw); go_simp; (try with_reducible rfl)
                try simp only [Act.put, List.setIfInBounds_toArray, List.set_cons_zero, List.set_cons_succ]
                refine tk 3 (v := ?_) ?_ ?_
                rotate_left
                · intro w hSw; (try dsimp only at hSw); go_simp; (try with_reducible rfl)
                try simp only [Act.put, List.setIfInBounds_toArray, List.set_cons_zero, List.set_cons_succ]
                refine rd1 4 (fun K hK => ?_)
                go_simp
                (go_at_call 59; refine (rgood_m _ _ _ _ _ _ (HW.out.2.below (bt KW.out.1 hHeld.1)) K5.out GD).mono ?_; rintro e w1 ⟨rfl, hb1⟩)
                refine hK.out _ _ (keep_step (by assumption) hHeld KS) (fun hHeld2 => ?_)
                clear hK K hHeld; have hHeld := hHeld2; clear hHeld2
                try simp only [Act.put, List.setIfInBounds_toArray, List.set_cons_zero, List.set_cons_succ]
                refine tk 5 (v := ?_) ?_ ?_
                rotate_left
                · intro w hSw; (try dsimp only at hSw); go_simp; (try with_reducible rfl)
                try simp only [Act.put, List.setIfInBounds_toArray, List.set_cons_zero, List.set_cons_succ]
                refine tk 6 (v := ?_) ?_ ?_
                rotate_left
                · intro w hSw; (try dsimp only at hSw); go_simp; (try with_reducible rfl)
                try simp only [Act.put, List.setIfInBounds_toArray, List.set_cons_zero, List.set_cons_succ]
                refine tk 7 (v := ?_) ?_ ?_
                rotate_left
                · intro w hSw; (try dsimp only at hSw); go_simp; (try with_reducible rfl)
                try simp only [Act.put, List.setIfInBounds_toArray, List.set_cons_zero, List.set_cons_succ]
                refine tk 8 (v := ?_) ?_ ?_
                rotate_left
                · intro w hSw; (try dsimp only at hSw); go_simp; (try with_reducible rfl)
                try simp only [Act.put, List.setIfInBounds_toArray, List.set_cons_zero, List.set_cons_succ]
                refine tk 9 (v := ?_) ?_ ?_
                rotate_left
                · intro w hSw; (try dsimp only at hSw); go_simp; (try with_reducible rfl)
                try simp only [Act.put, List.setIfInBounds_toArray, List.set_cons_zero, List.set_cons_succ]
                refine tk 10 (v := ?_) ?_ ?_
                rotate_left
                · intro w hSw; (try dsimp only at hSw); go_simp; (try with_reducible rfl)
                try simp only [Act.put, List.setIfInBounds_toArray, List.set_cons_zero, List.set_cons_succ]
                refine tk 12 (v := ?_) ?_ ?_
                rotate_left
                · intro w hSw; (try dsimp only at hSw); go_simp; (try with_reducible rfl)
                try simp only [Act.put, List.setIfInBounds_toArray, List.set_cons_zero, List.set_cons_succ]
                refine tk 13 (v := ?_) ?_ ?_
                rotate_left
                · intro w hSw; (try dsimp only at hSw); go_simp; (try with_reducible rfl)
                try simp only [Act.put, List.setIfInBounds_toArray, List.set_cons_zero, List.set_cons_succ]
                refine rd1 11 (fun K hK => ?_)
                go_simp
                (go_at_call 60; refine (rcount_m _ _ _ _ _ _ (HW.out.2.below (bt KW.out.1 hHeld.1)) K5.out GT).mono ?_; rintro e w2 ⟨rfl, hb2⟩)
                refine hK.out _ _ (keep_step (by assumption) hHeld KS) (fun hHeld2 => ?_)
                clear hK K hHeld; have hHeld := hHeld2; clear hHeld2
                try simp only [Act.put, List.setIfInBounds_toArray, List.set_cons_zero, List.set_cons_succ]
                refine tk 14 (v := ?_) ?_ ?_
                rotate_left
                · intro w hSw; (try dsimp only at hSw); go_simp; (try with_reducible rfl)
                try simp only [Act.put, List.setIfInBounds_toArray, List.set_cons_zero, List.set_cons_succ]
                refine tk 15 (v := ?_) ?_ ?_
                rotate_left
                · intro w hSw; (try dsimp only at hSw); go_simp; (try with_reducible rfl)
                try simp only [Act.put, List.setIfInBounds_toArray, List.set_cons_zero, List.set_cons_succ]
                refine tk 16 (v := ?_) ?_ ?_
                rotate_left
                · intro w hSw; (try dsimp only at hSw); go_simp; (try with_reducible rfl)
                try simp only [Act.put, List.setIfInBounds_toArray, List.set_cons_zero, List.set_cons_succ]
                refine tks 17 ?_
                try simp only [Act.put, List.setIfInBounds_toArray, List.set_cons_zero, List.set_cons_succ]
                refine tks 18 ?_
                try simp only [Act.put, List.setIfInBounds_toArray, List.set_cons_zero, List.set_cons_succ]
                refine tks 19 ?_
                try simp only [Act.put, List.setIfInBounds_toArray, List.set_cons_zero, List.set_cons_succ]
                refine tks 20 ?_
                try simp only [Act.put, List.setIfInBounds_toArray, List.set_cons_zero, List.set_cons_succ]
                refine tks 21 ?_
                try simp only [Act.put, List.setIfInBounds_toArray, List.set_cons_zero, List.set_cons_succ]
                refine tks 22 ?_
                try simp only [Act.put, List.setIfInBounds_toArray, List.set_cons_zero, List.set_cons_succ]
                refine tks 23 ?_
                try simp only [Act.put, List.setIfInBounds_toArray, List.set_cons_zero, List.set_cons_succ]
                refine tks 24 ?_
                try simp only [Act.put, List.setIfInBounds_toArray, List.set_cons_zero, List.set_cons_succ]
                refine tks 25 ?_
                try simp only [Act.put, List.setIfInBounds_toArray, List.set_cons_zero, List.set_cons_succ]
                refine tks 26 ?_
                try simp only [Act.put, List.setIfInBounds_toArray, List.set_cons_zero, List.set_cons_succ]
                refine tks 27 ?_
                try simp only [Act.put, List.setIfInBounds_toArray, List.set_cons_zero, List.set_cons_succ]
                refine tk 28 (v := ?_) ?_ ?_
                rotate_left
                · intro w hSw; (try dsimp only at hSw); go_simp; (try with_reducible rfl)
                try simp only [Act.put, List.setIfInBounds_toArray, List.set_cons_zero, List.set_cons_succ]
                refine wpAnyH_done (by kernel_rfl) ?_ _
                refine NoPanic.normal ?_
                go_wp2
                go_ret
                exact ⟨ret_bool (cg_r1 (HRF.out)).symm, bt KW.out.1 (bt (undrew hb1) hb2)⟩

        · go_wp2
          go_ret
          exact ⟨ret_bool CT.out.symm, KW.out.1⟩
    · rw [cg_n0 hn]
      have q1 : decide (m < 1) = false := decide_eq_false (by omega)
      have q2 : decide (2 < m) = false := decide_eq_false (by omega)
      have K0 := hid (kp_new w (.cells #[.int .i64 c.n, .int .i64 c.s0, .int .i64 c.s1, .slice a0 p0 k0, .slice a1 p1 k1] 26))
      by_cases h1 : c.n < 1
      · have hn1 : decide (c.n < 1) = true := decide_eq_true h1
        go_enter Try.func20, Try.ntmps20
        go_wp2
        go_ret
        exact ⟨rfl, K0.out.1⟩
      · have hn1 : decide (c.n < 1) = false := decide_eq_false h1
        have hn2 : decide (1099511627776 < c.n) = true := decide_eq_true (by omega)
        go_enter Try.func20, Try.ntmps20
        go_wp2
        go_ret
        exact ⟨rfl, K0.out.1⟩
  · rw [cg_not c hm]
    have K0 := hid (kp_new w (.cells #[.int .i64 c.n, .int .i64 c.s0, .int .i64 c.s1, .slice a0 p0 k0, .slice a1 p1 k1] 26))
    by_cases h1 : m < 1
    · have q1 : decide (m < 1) = true := decide_eq_true h1
      go_enter Try.func20, Try.ntmps20
      go_wp2
      go_ret
      exact ⟨rfl, K0.out.1⟩
    · have q1 : decide (m < 1) = false := decide_eq_false h1
      have q2 : decide (2 < m) = true := decide_eq_true (by omega)
      go_enter Try.func20, Try.ntmps20
      go_wp2
      go_ret
      exact ⟨rfl, K0.out.1⟩

end Go.Proofs.Ytjkkajhjcinalaa

/-
  What bag.Join returns.
  Conditions: as each theorem states them.
-/
import Derived.Test.YtjkkajhjcinalaaG3
namespace Go.Proofs.Ytjkkajhjcinalaa
open Go.ChangeShapes Go.WideShapes Go.ChangeAt Go.RowKit
set_option linter.unusedVariables false
set_option linter.unusedSimpArgs false
set_option maxRecDepth 100000

set_option maxHeartbeats 8000000 in
theorem join_any (a1 a2 : Option Addr) (n c m d : Nat) (l u : List Rn) (w : World) (hl : NRun w a1 n c l) (hu : NRun w a2 m d u) (hk : ∀ r ∈ l, nok r) (hk' : ∀ r ∈ u, nok r) (hn : n ≤ 1000) (hm : m ≤ 1000) :
    Calls Try.prog 66 #[.slice a1 n c, .slice a2 m d] w fun e w' => (∃ A cap, e = .returned (.tuple #[.slice A (Jl l u).length cap, .bool (Jn l u)]) ∧ NRun w' A (Jl l u).length cap (Jl l u)) ∧ Below w.heap.size w w' := by
  have HL := hid hl
  have HU := hid hu
  have HK := hid hk
  have HK' := hid hk'
  obtain ⟨l1, l2⟩ := hl.lens
  obtain ⟨u1, u2⟩ := hu.lens
  have EL := hid l1
  have EU := hid u1
  have KN : Hid (Jn l u = false → ∀ W, NRun W none 0 0 (Jl l u) ∧ (Jl l u).length = 0) := hid (fun h W => by rw [jl_no h]; exact ⟨nrun_nil W, rfl⟩)
  clear hl hu hk hk' l1 u1
  have t1 : True := trivial
  have TA : Hid (gd l = true → tl l = tot l) := hid (fun h => tl_yes (gd_iff.1 h))
  have TB : Hid (gd u = true → tl u = tot u) := hid (fun h => tl_yes (gd_iff.1 h))
  obtain ⟨ta, hta⟩ : ∃ x, tl l = x := ⟨_, rfl⟩
  obtain ⟨tb, htb⟩ : ∃ x, tl u = x := ⟨_, rfl⟩
  have HTA := hid hta
  have HTB := hid htb
  clear hta htb
  cases hg : gd l with
  | false =>
    have HG := hid hg
    have HJ := hid (jn_no1 (b := u) hg)
    obtain ⟨g2, hg2⟩ : ∃ x, gd u = x := ⟨_, rfl⟩
    have HG2 := hid hg2
    clear hg hg2
    go_enter Try.func66, Try.ntmps66
    go_wp2_with (first
      | (go_at_call 101; clear t1; refine (tally_m a1 n c l ta false _ HL.out HK.out HTA HG).mono ?_; rintro e w1 ⟨rfl, hb1⟩; have B1 := hid hb1; clear hb1)
      | (go_at_call 101; refine (tally_m a2 m d u tb g2 _ (HU.out.below B1.out) HK'.out HTB HG2).mono ?_; rintro e w2 ⟨rfl, hb2⟩; have B2 := hid (bt B1.out hb2); clear hb2))
    go_ret2
    rw [HJ.out, (KN.out HJ.out w).2]
    exact ⟨⟨none, 0, rfl, (KN.out HJ.out _).1⟩, B2.out⟩
  | true =>
    have HG := hid hg
    have HB := hid (gd_iff.1 hg)
    clear hg
    cases hg' : gd u with
    | false =>
      have HG2 := hid hg'
      have HJ := hid (jn_no2 (a := l) hg')
      clear hg'
      go_enter Try.func66, Try.ntmps66
      go_wp2_with (first
        | (go_at_call 101; clear t1; refine (tally_m a1 n c l ta true _ HL.out HK.out HTA HG).mono ?_; rintro e w1 ⟨rfl, hb1⟩; have B1 := hid hb1; clear hb1)
        | (go_at_call 101; refine (tally_m a2 m d u tb false _ (HU.out.below B1.out) HK'.out HTB HG2).mono ?_; rintro e w2 ⟨rfl, hb2⟩; have B2 := hid (bt B1.out hb2); clear hb2))
      go_ret2
      rw [HJ.out, (KN.out HJ.out w).2]
      exact ⟨⟨none, 0, rfl, (KN.out HJ.out _).1⟩, B2.out⟩
    | true =>
      have HG2 := hid hg'
      have HB' := hid (gd_iff.1 hg')
      clear hg'
      have QA : Hid (tot l = ta) := hid (by rw [← TA.out HG.out, HTA.out])
      have QB : Hid (tot u = tb) := hid (by rw [← TB.out HG2.out, HTB.out])
      have ra1 : 0 ≤ ta := by rw [← QA.out]; exact tot_nn HB.out.2.1
      have ra2 : ta ≤ 1099511627776 := by rw [← QA.out]; exact HB.out.2.2
      have rb1 : 0 ≤ tb := by rw [← QB.out]; exact tot_nn HB'.out.2.1
      have rb2 : tb ≤ 1099511627776 := by rw [← QB.out]; exact HB'.out.2.2
      by_cases hs : 1099511627776 < ta + tb
      · have HJ := hid (jn_no3 (a := l) (b := u) (by rw [QA.out, QB.out]; exact hs))
        have hsd : decide (1099511627776 < ta + tb) = true := decide_eq_true hs
        go_enter Try.func66, Try.ntmps66
        go_wp2_with (first
          | (go_at_call 101; clear t1; refine (tally_m a1 n c l ta true _ HL.out HK.out HTA HG).mono ?_; rintro e w1 ⟨rfl, hb1⟩; have B1 := hid hb1; clear hb1)
          | (go_at_call 101; refine (tally_m a2 m d u tb true _ (HU.out.below B1.out) HK'.out HTB HG2).mono ?_; rintro e w2 ⟨rfl, hb2⟩; have B2 := hid (bt B1.out hb2); clear hb2))
        go_ret2
        rw [HJ.out, (KN.out HJ.out w).2]
        exact ⟨⟨none, 0, rfl, (KN.out HJ.out _).1⟩, B2.out⟩
      · have hsd : decide (1099511627776 < ta + tb) = false := decide_eq_false hs
        have HJ := hid (jn_yes HB.out HB'.out (by rw [QA.out, QB.out]; omega))
        have HT : Hid (tot l + tot u ≤ 1099511627776) := hid (by rw [QA.out, QB.out]; omega)
        have HLn : Hid (l.length + u.length ≤ 2000) := hid (by have := EL.out; have := EU.out; omega)
        have wnm : IntKind.i64.wrap ((n : Int) + (m : Int)) = ((n + m : Nat) : Int) := by rw [show (n : Int) + (m : Int) = ((n + m : Nat) : Int) by omega]; exact IntWalk.i64_in _ (by omega)
        obtain ⟨i0, hi, hz0, hz1, hz2⟩ := info_parts info_nr
        go_enter Try.func66, Try.ntmps66
        go_upto_region 6 with (first
          | (go_at_call 101; clear t1; refine (tally_m a1 n c l ta true _ HL.out HK.out HTA HG).mono ?_; rintro e w1 ⟨rfl, hb1⟩; have B1 := hid hb1; clear hb1)
          | (go_at_call 101; refine (tally_m a2 m d u tb true _ (HU.out.below B1.out) HK'.out HTB HG2).mono ?_; rintro e w2 ⟨rfl, hb2⟩; have B2 := hid (bt B1.out hb2); clear hb2)
          | (at_make; refine wpList_make_own _ rfl _ _ 23 rfl w.heap.size 65 i0 _ 2 Try.underlying23 hi hz0 hz1 _ _ _ (n + m) rfl rfl (by omega) (by rw [hz2]; omega) (by unfold maxLen; omega) B2.out.size ?_; intro w3 ho3 hg3; have O3 : Hid (OwnW w w3 (.slice (some ⟨w2.heap.size, 0, none⟩) 0 (n + m)) []) := hid ⟨B2.out.grown hg3 B2.out.size (fun k hk => by cases hk), ho3⟩; clear ho3 hg3))
        clear hsd hs ra1 ra2 rb1 rb2 wnm hi hz0 hz1 hz2 B1 B2
        have J0 := hid (ji_0 HB.out HB'.out)
        go_wp2
        go_loopg [0, 1, 10] (n + m) (fun g sa sb so wr => ∃ (A : Option Addr) (p q : Nat) (B : Option Addr) (r s : Nat) (la lb : List Rn) (v : Value) (out : List Rn), sa = .slice A p q ∧ sb = .slice B r s ∧ v = so ∧ p ≤ 1000 ∧ r ≤ 1000 ∧ p + r ≤ g ∧ Hid (NRun w A p q la) ∧ Hid (NRun w B r s lb) ∧ Hid (JI l u la lb out) ∧ Hid (OwnW w wr v out))
        case atStart => exact ⟨a1, n, c, a2, m, d, l, u, _, [], rfl, rfl, rfl, hn, hm, Nat.le_refl _, HL, HU, J0, O3⟩
        case round =>
          obtain ⟨A, p, q, B, r, s, la, lb, v, out, rfl, rfl, rfl, hp, hr, hg, HA, HBr, JJ, OW⟩ := hrel
          have wpr : IntKind.i64.wrap ((p : Int) + (r : Int)) = ((p + r : Nat) : Int) := by rw [show (p : Int) + (r : Int) = ((p + r : Nat) : Int) by omega]; exact IntWalk.i64_in _ (by omega)
          by_cases h0 : p + r = 0
          · have h0d : decide ((0 : Int) < ((p + r : Nat) : Int)) = false := decide_eq_false (by omega)
            have ela := hid HA.out.lens.1
            have elb := hid HBr.out.lens.1
            have HE : Hid (out = Jl l u) := hid (by
              have e1 : la = [] := List.length_eq_zero_iff.mp (by have := ela.out; omega)
              have e2 : lb = [] := List.length_eq_zero_iff.mp (by have := elb.out; omega)
              have h := JJ.out
              rw [e1, e2] at h
              rw [jl_yes HJ.out]
              exact ji_end h HB.out.1 HB.out.2.1 HB'.out.2.1)
            obtain ⟨A9, cap, e, hr9⟩ := own_any OW.out.2
            subst e
            have HR9 := hid hr9
            clear hr9
            go_wp2
            go_ret2
            rw [HJ.out, ← HE.out]
            exact ⟨⟨A9, cap, rfl, HR9.out⟩, OW.out.1⟩
          · have h0d : decide ((0 : Int) < ((p + r : Nat) : Int)) = true := decide_eq_true (by omega)
            have h0i : (0 : Int) < ((p + r : Nat) : Int) := by omega
            by_cases hp0 : p = 0
            · subst hp0
              obtain ⟨b, off, x0, x1, e1, hb, hrr, p0, p1⟩ := HBr.out.pick OW.out.1 (k := 0) (by omega)
              subst e1
              simp only [Nat.zero_mul, Nat.add_zero] at p0 p1
              have HRR := hid hrr
              clear hrr
              obtain ⟨A1, hsl, hr1⟩ := restN HBr.out 1 (by omega)
              have hsl' : ∀ w', (Instr.slice 23 (.slice (some ⟨b, off, none⟩) r s) (some (.int .i64 1)) none none).run Try.prog w' = .ok (.slice A1 (r - 1) (s - 1)) w' := hsl
              have R1 := hid hr1
              clear hsl hr1
              have JX : Hid (JI l u ((x0, x1) :: lb.drop 1) la out) := hid (by rw [← head_cons HRR.out]; exact ji_swap JJ.out)
              have J1 : Hid (JI l u (lb.drop 1) la (lay x0 x1 out)) := hid (ji_step JX.out (fun y hy => by have h1 := HA.out.lens.1; have h2 := (List.getElem?_eq_some_iff.1 hy).1; omega))
              have nx := ji_next JX.out HT.out HLn.out
              have N1 := hid nx.1
              have N2 := hid nx.2.1
              have N3 := hid nx.2.2.1
              have n4 := nx.2.2.2.1
              have n5 := nx.2.2.2.2.1
              have n6 := nx.2.2.2.2.2.1
              have n7 := nx.2.2.2.2.2.2
              clear nx
              obtain ⟨M, hM⟩ : ∃ M, lay x0 x1 out = M := ⟨_, rfl⟩
              have HM := hid hM
              clear hM
              have J2 : Hid (JI l u (lb.drop 1) la M) := hid (by rw [← HM.out]; exact J1.out)
              have hrd : decide ((0 : Int) < (r : Int)) = true := decide_eq_true (by omega)
              have hri : (0 : Int) < (r : Int) := by omega
              have hrn : decide (0 < r) = true := decide_eq_true (by omega)
              have hrm : 0 < r := by omega
              clear J1
              go_wp2
              go_quiet (fail)
              have OD : Hid (OwnW w (wr.drewN nq) v out) := hid ⟨bdrewN OW.out.1, OW.out.2⟩
              have P0 : (wr.drewN nq).cell? ⟨b, off, none⟩ = some (.int .i64 x0) := p0
              have P1 : (wr.drewN nq).cell? ⟨b, off + 1, none⟩ = some (.int .i64 x1) := p1
              clear p0 p1
              generalize wr.drewN nq = W at OD P0 P1 ⊢
              go_wp2_with (go_at_call 95; refine (laid_lay w.heap.size v out M x0 x1 _ OD.out.2 OD.out.1.size (by omega) N1.out N2.out N3.out (by omega) (by omega) HM).mono ?_; rintro e w5 ⟨⟨v5, rfl, ho5⟩, hg5⟩; have O5 := hid (OwnW.grown OD.out hg5 ho5); clear ho5 hg5)
              go_roundg (r - 1 + 0)
              case measure => omega
              case rel => exact ⟨A1, r - 1, s - 1, _, 0, q, lb.drop 1, la, v5, M, rfl, rfl, rfl, by omega, by omega, Nat.le_refl _, R1, HA, J2, O5⟩
            · have hpd : ((p : Int) == 0) = false := by simp; omega
              have hpi : (0 : Int) < (p : Int) := by omega
              by_cases hr0 : r = 0
              · subst hr0
                obtain ⟨b, off, x0, x1, e1, hb, hrr, p0, p1⟩ := HA.out.pick OW.out.1 (k := 0) (by omega)
                subst e1
                simp only [Nat.zero_mul, Nat.add_zero] at p0 p1
                have HRR := hid hrr
                clear hrr
                obtain ⟨A1, hsl, hr1⟩ := restN HA.out 1 (by omega)
                have hsl' : ∀ w', (Instr.slice 23 (.slice (some ⟨b, off, none⟩) p q) (some (.int .i64 1)) none none).run Try.prog w' = .ok (.slice A1 (p - 1) (q - 1)) w' := hsl
                have R1 := hid hr1
                clear hsl hr1
                have JX : Hid (JI l u ((x0, x1) :: la.drop 1) lb out) := hid (by rw [← head_cons HRR.out]; exact JJ.out)
                have J1 : Hid (JI l u (la.drop 1) lb (lay x0 x1 out)) := hid (ji_step JX.out (fun y hy => by have h1 := HBr.out.lens.1; have h2 := (List.getElem?_eq_some_iff.1 hy).1; omega))
                have nx := ji_next JX.out HT.out HLn.out
                have N1 := hid nx.1
                have N2 := hid nx.2.1
                have N3 := hid nx.2.2.1
                have n4 := nx.2.2.2.1
                have n5 := nx.2.2.2.2.1
                have n6 := nx.2.2.2.2.2.1
                have n7 := nx.2.2.2.2.2.2
                clear nx
                obtain ⟨M, hM⟩ : ∃ M, lay x0 x1 out = M := ⟨_, rfl⟩
                have HM := hid hM
                clear hM
                have J2 : Hid (JI l u (la.drop 1) lb M) := hid (by rw [← HM.out]; exact J1.out)
                clear J1
                go_wp2
                go_quiet (fail)
                have OD : Hid (OwnW w (wr.drewN nq) v out) := hid ⟨bdrewN OW.out.1, OW.out.2⟩
                have P0 : (wr.drewN nq).cell? ⟨b, off, none⟩ = some (.int .i64 x0) := p0
                have P1 : (wr.drewN nq).cell? ⟨b, off + 1, none⟩ = some (.int .i64 x1) := p1
                clear p0 p1
                generalize wr.drewN nq = W at OD P0 P1 ⊢
                go_wp2_with (go_at_call 95; refine (laid_lay w.heap.size v out M x0 x1 _ OD.out.2 OD.out.1.size (by omega) N1.out N2.out N3.out (by omega) (by omega) HM).mono ?_; rintro e w5 ⟨⟨v5, rfl, ho5⟩, hg5⟩; have O5 := hid (OwnW.grown OD.out hg5 ho5); clear ho5 hg5)
                go_roundg (p - 1 + 0)
                case measure => omega
                case rel => exact ⟨A1, p - 1, q - 1, _, 0, s, la.drop 1, lb, v5, M, rfl, rfl, rfl, by omega, by omega, Nat.le_refl _, R1, HBr, J2, O5⟩
              · have hrd : decide ((0 : Int) < (r : Int)) = true := decide_eq_true (by omega)
                have hri : (0 : Int) < (r : Int) := by omega
                have hrn : decide (0 < r) = true := decide_eq_true (by omega)
                have hrm : 0 < r := by omega
                obtain ⟨hh, eh⟩ : ∃ x, la[0]? = some x := ⟨_, List.getElem?_eq_getElem (by have := HA.out.lens.1; omega)⟩
                obtain ⟨kk, ek⟩ : ∃ x, lb[0]? = some x := ⟨_, List.getElem?_eq_getElem (by have := HBr.out.lens.1; omega)⟩
                have EH := hid eh
                have EK := hid ek
                clear eh ek
                by_cases hlt : kk.1 < hh.1
                · have HQ0 := hid hlt
                  clear hlt
                  obtain ⟨b, off, x0, x1, e1, hb, hrr, p0, p1⟩ := HBr.out.pick OW.out.1 (k := 0) (by omega)
                  subst e1
                  simp only [Nat.zero_mul, Nat.add_zero] at p0 p1
                  have HRR := hid hrr
                  clear hrr
                  obtain ⟨b', off', y0, y1, e2, hb', hqq, q0, q1⟩ := HA.out.pick OW.out.1 (k := 0) (by omega)
                  subst e2
                  simp only [Nat.zero_mul, Nat.add_zero] at q0 q1
                  have HQQ := hid hqq
                  clear hqq q1
                  obtain ⟨A1, hsl, hr1⟩ := restN HBr.out 1 (by omega)
                  have hsl' : ∀ w', (Instr.slice 23 (.slice (some ⟨b, off, none⟩) r s) (some (.int .i64 1)) none none).run Try.prog w' = .ok (.slice A1 (r - 1) (s - 1)) w' := hsl
                  have R1 := hid hr1
                  clear hsl hr1
                  have JX : Hid (JI l u ((x0, x1) :: lb.drop 1) la out) := hid (by rw [← head_cons HRR.out]; exact ji_swap JJ.out)
                  have J1 : Hid (JI l u (lb.drop 1) la (lay x0 x1 out)) := hid (ji_step JX.out (fun y hy => by rw [HQQ.out] at hy; cases hy; have h := HQ0.out; have h1 := EH.out; have h2 := EK.out; rw [HQQ.out] at h1; rw [HRR.out] at h2; cases h1; cases h2; simp only at h ⊢; omega))
                  have nx := ji_next JX.out HT.out HLn.out
                  have N1 := hid nx.1
                  have N2 := hid nx.2.1
                  have N3 := hid nx.2.2.1
                  have n4 := nx.2.2.2.1
                  have n5 := nx.2.2.2.2.1
                  have n6 := nx.2.2.2.2.2.1
                  have n7 := nx.2.2.2.2.2.2
                  clear nx
                  obtain ⟨M, hM⟩ : ∃ M, lay x0 x1 out = M := ⟨_, rfl⟩
                  have HM := hid hM
                  clear hM
                  have J2 : Hid (JI l u (lb.drop 1) la M) := hid (by rw [← HM.out]; exact J1.out)
                  have hltd : decide (x0 < y0) = true := decide_eq_true (by have h := HQ0.out; have h1 := EH.out; have h2 := EK.out; rw [HQQ.out] at h1; rw [HRR.out] at h2; cases h1; cases h2; exact h)
                  clear J1
                  go_wp2
                  go_quiet (fail)
                  have OD : Hid (OwnW w (wr.drewN nq) v out) := hid ⟨bdrewN OW.out.1, OW.out.2⟩
                  have P0 : (wr.drewN nq).cell? ⟨b, off, none⟩ = some (.int .i64 x0) := p0
                  have P1 : (wr.drewN nq).cell? ⟨b, off + 1, none⟩ = some (.int .i64 x1) := p1
                  clear p0 p1
                  generalize wr.drewN nq = W at OD P0 P1 ⊢
                  go_wp2_with (go_at_call 95; refine (laid_lay w.heap.size v out M x0 x1 _ OD.out.2 OD.out.1.size (by omega) N1.out N2.out N3.out (by omega) (by omega) HM).mono ?_; rintro e w5 ⟨⟨v5, rfl, ho5⟩, hg5⟩; have O5 := hid (OwnW.grown OD.out hg5 ho5); clear ho5 hg5)
                  go_roundg (r - 1 + p)
                  case measure => omega
                  case rel => exact ⟨A1, r - 1, s - 1, _, p, q, lb.drop 1, la, v5, M, rfl, rfl, rfl, by omega, by omega, Nat.le_refl _, R1, HA, J2, O5⟩
                · have HQ0 := hid hlt
                  clear hlt
                  obtain ⟨b, off, x0, x1, e1, hb, hrr, p0, p1⟩ := HA.out.pick OW.out.1 (k := 0) (by omega)
                  subst e1
                  simp only [Nat.zero_mul, Nat.add_zero] at p0 p1
                  have HRR := hid hrr
                  clear hrr
                  obtain ⟨b', off', y0, y1, e2, hb', hqq, q0, q1⟩ := HBr.out.pick OW.out.1 (k := 0) (by omega)
                  subst e2
                  simp only [Nat.zero_mul, Nat.add_zero] at q0 q1
                  have HQQ := hid hqq
                  clear hqq q1
                  obtain ⟨A1, hsl, hr1⟩ := restN HA.out 1 (by omega)
                  have hsl' : ∀ w', (Instr.slice 23 (.slice (some ⟨b, off, none⟩) p q) (some (.int .i64 1)) none none).run Try.prog w' = .ok (.slice A1 (p - 1) (q - 1)) w' := hsl
                  have R1 := hid hr1
                  clear hsl hr1
                  have JX : Hid (JI l u ((x0, x1) :: la.drop 1) lb out) := hid (by rw [← head_cons HRR.out]; exact JJ.out)
                  have J1 : Hid (JI l u (la.drop 1) lb (lay x0 x1 out)) := hid (ji_step JX.out (fun y hy => by rw [HQQ.out] at hy; cases hy; have h := HQ0.out; have h1 := EH.out; have h2 := EK.out; rw [HRR.out] at h1; rw [HQQ.out] at h2; cases h1; cases h2; simp only at h ⊢; omega))
                  have nx := ji_next JX.out HT.out HLn.out
                  have N1 := hid nx.1
                  have N2 := hid nx.2.1
                  have N3 := hid nx.2.2.1
                  have n4 := nx.2.2.2.1
                  have n5 := nx.2.2.2.2.1
                  have n6 := nx.2.2.2.2.2.1
                  have n7 := nx.2.2.2.2.2.2
                  clear nx
                  obtain ⟨M, hM⟩ : ∃ M, lay x0 x1 out = M := ⟨_, rfl⟩
                  have HM := hid hM
                  clear hM
                  have J2 : Hid (JI l u (la.drop 1) lb M) := hid (by rw [← HM.out]; exact J1.out)
                  have hltd : decide (y0 < x0) = false := decide_eq_false (by have h := HQ0.out; have h1 := EH.out; have h2 := EK.out; rw [HRR.out] at h1; rw [HQQ.out] at h2; cases h1; cases h2; exact h)
                  clear J1
                  go_wp2
                  go_quiet (fail)
                  have OD : Hid (OwnW w (wr.drewN nq) v out) := hid ⟨bdrewN OW.out.1, OW.out.2⟩
                  have P0 : (wr.drewN nq).cell? ⟨b, off, none⟩ = some (.int .i64 x0) := p0
                  have P1 : (wr.drewN nq).cell? ⟨b, off + 1, none⟩ = some (.int .i64 x1) := p1
                  clear p0 p1
                  generalize wr.drewN nq = W at OD P0 P1 ⊢
                  go_wp2_with (go_at_call 95; refine (laid_lay w.heap.size v out M x0 x1 _ OD.out.2 OD.out.1.size (by omega) N1.out N2.out N3.out (by omega) (by omega) HM).mono ?_; rintro e w5 ⟨⟨v5, rfl, ho5⟩, hg5⟩; have O5 := hid (OwnW.grown OD.out hg5 ho5); clear ho5 hg5)
                  go_roundg (p - 1 + r)
                  case measure => omega
                  case rel => exact ⟨A1, p - 1, q - 1, _, r, s, la.drop 1, lb, v5, M, rfl, rfl, rfl, by omega, by omega, Nat.le_refl _, R1, HBr, J2, O5⟩

end Go.Proofs.Ytjkkajhjcinalaa

/-
  What Net and reckoned return, by names.
  Conditions: as each theorem states them.
-/
import Derived.Test.YtjkkajhjcinalaaA10
namespace Go.Proofs.Ytjkkajhjcinalaa
open Go.ChangeShapes Go.WideShapes Go.ChangeAt Go.RowKit
set_option linter.unusedVariables false
set_option linter.unusedSimpArgs false
set_option maxRecDepth 100000

theorem bnet_m (a1 a2 : Option Addr) (n c m d : Nat) (l u : List Rn) (S : Int) (f : Bool) (w : World) (hl : NRun w a1 n c l) (hu : NRun w a2 m d u) (hk : ∀ r ∈ l, nok r) (hk' : ∀ r ∈ u, nok r) (hS : Hid (nv l u = S)) (hf : Hid (nb l u = f)) :
    Calls Try.prog 109 #[.slice a1 n c, .slice a2 m d] w fun e w' => e = .returned (.tuple #[.int .i64 S, .bool f]) ∧ Below w.heap.size w w' := by
  have := bnet_any a1 a2 n c m d l u w hl hk hu hk'
  rw [hS.out, hf.out] at this
  exact this
/-- When is a measure reckoned. -/
theorem nt_no1 {n s : Int} {i o : List Rn} (h : gd i = false ∨ gd o = false) : nt n s i o = false := by
  unfold nt
  rcases h with h | h <;> rw [h] <;> simp
theorem nt_net {n s : Int} {i o : List Rn} (h : nb i o = false) (hs : I64 s) : nt n s i o = false := by
  refine nt_no (fun g => ?_)
  have e := (nv_yes (gd_yes g.1) (gd_yes g.2.1)).2
  rw [g.2.2.2.1, fitB_i64 hs] at e
  rw [e] at h; cases h
theorem nt_of {i o : List Rn} (h : nb i o = true) : Bag i ∧ Bag o ∧ nv i o = wsum i - wsum o := by
  cases h1 : gd i with
  | false => rw [(nv_no (.inl h1)).2] at h; cases h
  | true =>
    cases h2 : gd o with
    | false => rw [(nv_no (.inr h2)).2] at h; cases h
    | true =>
      have e := nv_yes h1 h2
      rw [h] at e
      exact ⟨gd_iff.1 h1, gd_iff.1 h2, by rw [e.1]; exact fitV_yes e.2.symm⟩
theorem nt_eq {n s : Int} {i o : List Rn} (h1 : Bag i) (h2 : Bag o) (hs : wsum i - wsum o = s) (hn : tot i - tot o = n) : nt n s i o = apt i o := by
  unfold nt
  rw [gd_yes h1, gd_yes h2, decide_eq_true hs, decide_eq_true hn]
  simp
set_option maxHeartbeats 4000000 in
theorem dreck_m (n s : Int) (a1 : Option Addr) (p1 k1 : Nat) (a2 : Option Addr) (p2 k2 : Nat) (i o : List Rn) (v : Bool) (w : World) (hi : NRun w a1 p1 k1 i) (ho : NRun w a2 p2 k2 o) (ki : ∀ r ∈ i, nok r) (ko : ∀ r ∈ o, nok r) (hp1 : p1 ≤ 1000) (hp2 : p2 ≤ 1000) (hs : I64 s) (hv : Hid (nt n s i o = v)) :
    Calls Try.prog 80 #[.int .i64 n, .int .i64 s, .slice a1 p1 k1, .slice a2 p2 k2] w fun e w' => e = .returned (.bool v) ∧ Below w.heap.size w w' := by
  have HI := hid hi
  have HO := hid ho
  have KI := hid ki
  have KO := hid ko
  clear hi ho ki ko
  obtain ⟨S, hS⟩ : ∃ x, nv i o = x := ⟨_, rfl⟩
  obtain ⟨f, hf⟩ : ∃ x, nb i o = x := ⟨_, rfl⟩
  have GS := hid hS
  have FF := hid hf
  cases f with
  | false =>
    have hv2 := hv.out
    rw [nt_net hf hs] at hv2
    subst hv2
    clear hS hf hv
    go_enter Try.func80, Try.ntmps80
    go_wp2_with (go_at_call 109; refine (bnet_m _ _ _ _ _ _ _ _ S false _ HI.out HO.out KI.out KO.out GS FF).mono ?_; rintro e w1 ⟨rfl, hb1⟩; have B1 := hid hb1; clear hb1)
    go_ret
    exact ⟨rfl, B1.out⟩
  | true =>
    obtain ⟨bi, bo, hS2⟩ := nt_of hf
    rw [hS] at hS2
    by_cases hSs : S = s
    · subst hSs
      have hne : (S != S) = false := by simp
      obtain ⟨ti, hti⟩ : ∃ x, tl i = x := ⟨_, rfl⟩
      obtain ⟨to', hto⟩ : ∃ x, tl o = x := ⟨_, rfl⟩
      have TI := hid hti
      have TO := hid hto
      rw [tl_yes bi] at hti
      rw [tl_yes bo] at hto
      have r1 := tot_nn bi.2.1
      have r2 := bi.2.2
      have r3 := tot_nn bo.2.1
      have r4 := bo.2.2
      rw [hti] at r1 r2
      rw [hto] at r3 r4
      have wsub : IntKind.i64.wrap (ti - to') = ti - to' := IntWalk.i64_in _ (by omega)
      have BI := hid bi
      have BO := hid bo
      have tkA : True := trivial
      by_cases hn : ti - to' = n
      · have hnd : ((ti - to') == n) = true := by simp [hn]
        obtain ⟨M, hM⟩ : ∃ x, com i o = x := ⟨_, rfl⟩
        obtain ⟨k, hk⟩ : ∃ x, M.length = x := ⟨_, rfl⟩
        have HM := hid hM
        have HK := hid hk
        have hv2 := hv.out
        rw [nt_eq bi bo hS2.symm (by rw [hti, hto]; exact hn)] at hv2
        unfold apt at hv2
        rw [hM, len_emp hk.symm] at hv2
        have HV := hid hv2
        have hkd : ((k : Int) == 0) = v := by rw [← hv2]; by_cases h : k = 0 <;> simp [h]
        clear hS hf hv hti hto r1 r2 r3 r4 bi bo hS2 hM hk hv2 hn
        go_enter Try.func80, Try.ntmps80
        go_wp2_with (first
          | (go_at_call 109; refine (bnet_m _ _ _ _ _ _ _ _ S true _ HI.out HO.out KI.out KO.out GS FF).mono ?_; rintro e w1 ⟨rfl, hb1⟩; have B1 := hid hb1; clear hb1)
          | (go_at_call 96; clear tkA; refine (count_m _ _ _ i ti _ (HI.out.below B1.out) KI.out TI).mono ?_; rintro e w2 ⟨rfl, hb2⟩; have B2 := hid (bt B1.out hb2); clear hb2)
          | (go_at_call 96; refine (count_m _ _ _ o to' _ (HO.out.below B2.out) KO.out TO).mono ?_; rintro e w3 ⟨rfl, hb3⟩; have B3 := hid (bt B2.out hb3); clear hb3)
          | (go_at_call 110; refine (dcom_m _ _ _ _ _ _ k i o M _ (HI.out.below B3.out) (HO.out.below B3.out) BI.out BO.out hp1 hp2 HM HK).mono ?_; rintro e w4 ⟨⟨A4, c4, rfl, hr4⟩, hb4⟩; have B4 := hid (bt B3.out hb4); clear hb4 hr4))
        go_ret
        exact ⟨rfl, B4.out⟩
      · have hnd : ((ti - to') == n) = false := by simp [hn]
        have hv2 := hv.out
        rw [nt_no (fun g => hn (by have := g.2.2.1; rw [← hti, ← hto]; exact this))] at hv2
        subst hv2
        clear hS hf hv hti hto r1 r2 r3 r4 bi bo hS2 hn
        go_enter Try.func80, Try.ntmps80
        go_wp2_with (first
          | (go_at_call 109; refine (bnet_m _ _ _ _ _ _ _ _ S true _ HI.out HO.out KI.out KO.out GS FF).mono ?_; rintro e w1 ⟨rfl, hb1⟩; have B1 := hid hb1; clear hb1)
          | (go_at_call 96; clear tkA; refine (count_m _ _ _ i ti _ (HI.out.below B1.out) KI.out TI).mono ?_; rintro e w2 ⟨rfl, hb2⟩; have B2 := hid (bt B1.out hb2); clear hb2)
          | (go_at_call 96; refine (count_m _ _ _ o to' _ (HO.out.below B2.out) KO.out TO).mono ?_; rintro e w3 ⟨rfl, hb3⟩; have B3 := hid (bt B2.out hb3); clear hb3))
        go_ret
        exact ⟨rfl, B3.out⟩
    · have hne : (S != s) = true := by simp [hSs]
      have hv2 := hv.out
      rw [nt_no (fun g => hSs (by rw [hS2]; exact g.2.2.2.1))] at hv2
      subst hv2
      clear hS hf hv hSs bi bo hS2
      go_enter Try.func80, Try.ntmps80
      go_wp2_with (go_at_call 109; refine (bnet_m _ _ _ _ _ _ _ _ S true _ HI.out HO.out KI.out KO.out GS FF).mono ?_; rintro e w1 ⟨rfl, hb1⟩; have B1 := hid hb1; clear hb1)
      go_ret
      exact ⟨rfl, B1.out⟩

end Go.Proofs.Ytjkkajhjcinalaa

/-
  -
  -
  -
  Conditions: as each theorem states them.
-/
import Derived.Laws.ResultCell
import Derived.Test.YtjkkajhjcinalaaQAC
import Derived.Test.YtjkkajhjcinalaaQAD
namespace Go.Proofs.Ytjkkajhjcinalaa
open Go.ChangeShapes Go.WideShapes Go.ChangeAt Go.RowKit
set_option linter.unusedVariables false
set_option linter.unusedSimpArgs false
set_option maxRecDepth 100000

theorem lay_more {l : List Rn} {x y q : Int} (hs : Srt (l ++ [(x, y)])) (hy : ¬ y + q = 0) : lay x q (l ++ [(x, y)]) = l ++ [(x, y + q)] := by
  have h : ∀ r ∈ l, r.1 < x := fun r hr => (List.pairwise_append.1 hs).2.2 r hr (x, y) (by simp)
  rw [lay_here h rfl, if_neg hy]
/-- bag.laid, as the document lays. -/
theorem laid_lay (base : Nat) (v : Value) (l M : List Rn) (x q : Int) (w : World) (ho : OwnN w base v l) (hb : base ≤ w.heap.size) (hn : l.length ≤ 1000000) (hs : Srt l) (hp : Pos l) (hx : ∀ r ∈ l, r.1 ≤ x) (ht : tot l ≤ 4611686018427387903) (hq : 1 ≤ q ∧ q ≤ 4611686018427387903) (hM : Hid (lay x q l = M)) :
    Calls Try.prog 95 #[v, .agg #[.int .i64 x, .int .i64 q]] w fun e w' => (∃ v', e = .returned v' ∧ OwnN w' base v' M) ∧ w.grownBy w' v.ownBlock := by
  by_cases hh : ∃ y, l[l.length - 1]? = some (x, y)
  · obtain ⟨y, hy⟩ := hh
    obtain ⟨l0, el⟩ := split_last hy
    have hyp := hp (x, y) (by rw [el]; simp)
    have hyb : y ≤ tot l := by
      have h1 := cn_srt_eq hs (r := (x, y)) (by rw [el]; simp)
      have h2 := cn_le (v := x) hp
      simp only at h1; omega
    simp only at hyp
    rw [el] at ho hs
    have hl0 : l0.length ≤ 1000000 := by rw [el, List.length_append] at hn; omega
    refine (laid_more base v l0 x y q w ho hb hl0 (by omega) (by omega)).mono ?_
    rintro e w' ⟨⟨rfl, ho'⟩, hg⟩
    refine ⟨⟨v, rfl, ?_⟩, hg⟩
    rw [← hM.out, el, lay_more hs (by omega)]
    exact ho'
  · have hne : ∀ p z, l[l.length - 1]? = some (p, z) → ¬ p = x := fun p z h e => hh ⟨z, by rw [← e]; exact h⟩
    refine (laid_new base v l x q w ho hb hn hne).mono ?_
    rintro e w' ⟨⟨v', rfl, ho'⟩, hg⟩
    refine ⟨⟨v', rfl, ?_⟩, hg⟩
    rw [← hM.out, lay_low (below_x hs hx hne)]
    exact ho'

/-- The way of Join. -/
def JI (A B la lb out : List Rn) : Prop :=
  (Srt la ∧ Pos la) ∧ (Srt lb ∧ Pos lb) ∧ (Srt out ∧ Pos out) ∧ (∀ r ∈ out, (∀ s ∈ la, r.1 ≤ s.1) ∧ ∀ s ∈ lb, r.1 ≤ s.1) ∧ (∀ v, cn v out + cn v la + cn v lb = cn v A + cn v B) ∧ tot out + tot la + tot lb = tot A + tot B ∧ out.length + la.length + lb.length ≤ A.length + B.length
theorem ji_0 {A B : List Rn} (ha : Bag A) (hb : Bag B) : JI A B A B [] :=
  ⟨⟨ha.1, ha.2.1⟩, ⟨hb.1, hb.2.1⟩, ⟨srt_nil, pos_nil⟩, (fun r hr => by simp at hr), (fun v => by simp [cn]), by simp [tot], by simp⟩
theorem ji_swap {A B la lb out : List Rn} (h : JI A B la lb out) : JI A B lb la out := by
  obtain ⟨h1, h2, h3, h4, h5, h6, h7⟩ := h
  exact ⟨h2, h1, h3, fun r hr => ⟨(h4 r hr).2, (h4 r hr).1⟩, fun v => by have := h5 v; omega, by omega, by omega⟩
theorem ji_step {A B la lb out : List Rn} {x0 x1 : Int} (h : JI A B ((x0, x1) :: la) lb out) (hx : ∀ y, lb[0]? = some y → x0 ≤ y.1) : JI A B la lb (lay x0 x1 out) := by
  obtain ⟨⟨a1, a2⟩, ⟨b1, b2⟩, ⟨o1, o2⟩, h4, h5, h6, h7⟩ := h
  have hl := a1
  rw [Srt, List.pairwise_cons] at hl
  have hx1 : 1 ≤ x1 := a2 (x0, x1) (by simp)
  have hlb : ∀ s ∈ lb, x0 ≤ s.1 := by
    intro s hs
    obtain ⟨i, hi⟩ := List.mem_iff_getElem?.1 hs
    have h0 : lb[0]? = some (lb[0]'(by have := (List.getElem?_eq_some_iff.1 hi).1; omega)) := List.getElem?_eq_getElem _
    have hy := hx _ h0
    by_cases hz : i = 0
    · subst hz; rw [h0] at hi; have e := Option.some.inj hi; rw [← e]; exact hy
    · have := srt_get b1 h0 hi (by omega); omega
  refine ⟨⟨hl.2, fun r hr => a2 r (by simp [hr])⟩, ⟨b1, b2⟩, ⟨lay_srt o1, lay_pos o2 hx1⟩, fun r hr => ?_, fun v => ?_, ?_, ?_⟩
  · rcases lay_mem hr with e | hr
    · refine ⟨fun s hs => ?_, fun s hs => by rw [e]; exact hlb s hs⟩
      have := hl.1 s hs
      unfold ltR at this
      simp only at this
      omega
    · exact ⟨fun s hs => (h4 r hr).1 s (by simp [hs]), (h4 r hr).2⟩
  · have := h5 v
    rw [lay_cn]
    simp only [cn] at this
    by_cases hv : x0 = v
    · subst hv; simp only [if_pos] at this ⊢; omega
    · rw [if_neg hv] at this; rw [if_neg (fun e => hv e.symm)]; omega
  · rw [lay_tot]; simp only [tot] at h6; omega
  · have := lay_len (v := x0) (n := x1) (l := out)
    simp only [List.length_cons] at h7
    omega
/-- What laid wants of the next run. -/
theorem ji_next {A B la lb out : List Rn} {x0 x1 : Int} (h : JI A B ((x0, x1) :: la) lb out) (ht : tot A + tot B ≤ 1099511627776) (hl : A.length + B.length ≤ 2000) : Srt out ∧ Pos out ∧ (∀ r ∈ out, r.1 ≤ x0) ∧ tot out ≤ 1099511627776 ∧ 1 ≤ x1 ∧ x1 ≤ 1099511627776 ∧ out.length ≤ 2000 := by
  obtain ⟨⟨a1, a2⟩, ⟨b1, b2⟩, ⟨o1, o2⟩, h4, h5, h6, h7⟩ := h
  have hx1 : 1 ≤ x1 := a2 (x0, x1) (by simp)
  have t1 := tot_nn o2
  have t2 := tot_nn b2
  have t3 := tot_nn (l := la) (fun r hr => a2 r (by simp [hr]))
  simp only [tot] at h6
  exact ⟨o1, o2, fun r hr => (h4 r hr).1 (x0, x1) (by simp), by omega, hx1, by omega, by omega⟩
theorem ji_end {A B out : List Rn} (h : JI A B [] [] out) (ha : Srt A) (pa : Pos A) (pb : Pos B) : out = jnl A B := by
  obtain ⟨_, _, ⟨o1, o2⟩, _, h5, _, _⟩ := h
  exact jnl_is ha pa pb o1 (pos_nz o2) (fun v => by have := h5 v; simp [cn] at this; omega)
theorem head_cons {l : List Rn} {x : Rn} (h : l[0]? = some x) : l = x :: l.drop 1 := by
  cases l with
  | nil => simp at h
  | cons y l => simp at h; subst h; rfl

end Go.Proofs.Ytjkkajhjcinalaa

namespace Go.Proofs.Ytjkkajhjcinalaa
open Go.ChangeShapes Go.WideShapes Go.ChangeAt Go.RowKit
set_option linter.unusedVariables false
set_option linter.unusedSimpArgs false
set_option maxRecDepth 100000

/-- It lies, if anywhere, in a block that was not there. -/
def Far (w : World) (a : Option Addr) : Prop := ∀ b off, a = some ⟨b, off, none⟩ → w.heap.size ≤ b
theorem far_nil (w : World) : Far w none := fun b off e => by cases e
theorem own_far {w wr : World} {base k cap : Nat} {v : Value} {l : List Rn} {a : Option Addr} (h : OwnN wr base v l) (e : v = .slice a k cap) (hb : w.heap.size ≤ base) : Far w a := by
  intro b off ea
  subst ea
  subst e
  rcases h.2 with ⟨h', _⟩ | ⟨g, cap', cur, h', _⟩
  · cases h'
  · cases h'
    exact Nat.le_trans hb (h.lt _ rfl).1
set_option maxHeartbeats 16000000 in
theorem of_own (a : Option Addr) (n c : Nat) (l : List Int) (w : World) (hl : IRow .i64 w a n c l) (hn : n ≤ 1000) :
    Calls Try.prog 56 #[.slice a n c] w fun e w' => (∃ A cap, e = .returned (.slice A (bagOf l).length cap) ∧ NRun w' A (bagOf l).length cap (bagOf l) ∧ Far w A) ∧ Below w.heap.size w w' := by
  have HL := hid hl
  obtain ⟨l1, l2⟩ := hl.len
  have EL := hid l1
  have hs0 : Hid (∀ W, Calls Try.prog 94 #[.slice none 0 0] W fun e w' => e = .returned (.tuple #[]) ∧ w' = W) := hid fun W => AnyM.slices_Sort_int_none sortI none 0 W
  cases a with
  | none =>
    obtain ⟨r1, r2, r3, r4, r5⟩ := hl
    obtain rfl : c = 0 := r4 rfl
    obtain rfl : n = 0 := by omega
    have hy : l = [] := List.length_eq_zero_iff.mp r1.symm
    subst hy
    clear r1 r2 r3 r4 r5 l1 l2 HL EL
    go_enter Try.func56, Try.ntmps56
    go_upto_region 3 with (first
      | (go_at_call 93; refine (clone_none _).mono ?_; rintro e w1 ⟨rfl, hw⟩; have hw2 := hw.symm; clear hw; subst hw2)
      | (go_at_call 94; refine (hs0.out _).mono ?_; rintro e w2 ⟨rfl, hw⟩; have hw2 := hw.symm; clear hw; subst hw2))
    go_wp2
    refine wp_loop_rounds 1 ?_
    rw [rounds_succ]
    go_wp2
    go_ret
    exact ⟨⟨none, 0, rfl, nrun_nil _, far_nil _⟩, Below.refl _ _⟩
  | some ad =>
    clear hl l1
    go_enter Try.func56, Try.ntmps56
    go_upto_region 3 with (first
      | (go_at_call 93; refine (clone_some ad n c l _ HL.out (by omega)).mono ?_; rintro e w1 ⟨⟨g1, cap1, rfl, ho1⟩, hb1⟩; have O1 := hid ho1; have B1 := hid hb1; clear ho1 hb1)
      | (go_at_call 94; refine (sort_any w.heap.size g1 n cap1 l _ O1.out (by omega)).mono ?_; rintro e w2 ⟨rfl, hr2, hg2⟩; have R2 := hid hr2; have B2 := hid (B1.out.grown hg2 B1.out.size (fun k hk => by cases hk; exact (O1.out.lt g1 rfl).1)); clear hr2 hg2))
    clear O1 B1 hs0 HL
    go_wp2
    go_loopw [3, 12] (fun o i wr => ∃ (k : Nat) (u : Value) (out : List Rn), k ≤ n ∧ i = .int .i64 k ∧ u = o ∧ Hid (out = bagOf ((srtI l).take k)) ∧ Hid (OwnW w2 wr u out)) (fun _ i _ => n - (intOf i).toNat)
    case atStart => exact ⟨0, _, [], by omega, rfl, rfl, hid rfl, hid ⟨Below.refl _ _, own_nil _ _⟩⟩
    case round =>
      obtain ⟨k, u, out, hkn, rfl, rfl, HO, OW⟩ := hrel
      have hk0 : (0 : Int) ≤ (k : Int) := by omega
      by_cases hlt : k < n
      · have hki : (k : Int) < (n : Int) := by omega
        obtain ⟨b, off, x, eb, hb, hr, p0⟩ := R2.out.pick OW.out.1 hlt
        cases eb
        simp only [Nat.zero_add] at p0
        have HR := hid hr
        have HST : Hid (lay x 1 out = bagOf ((srtI l).take (k + 1))) := hid (by rw [HO.out, bagOf_step HR.out])
        have HSrt : Hid (Srt out) := hid (by rw [HO.out]; exact bagOf_srt _)
        have HPos : Hid (Pos out) := hid (by rw [HO.out]; exact bagOf_pos _)
        have HLen : Hid (out.length ≤ k) := hid (by rw [HO.out]; have := bagOf_len ((srtI l).take k); rw [List.length_take] at this; omega)
        have HLe : Hid (∀ r ∈ out, r.1 ≤ x) := hid (fun r hr' => by
          rw [HO.out] at hr'
          have hm := bagOf_mem hr'
          obtain ⟨i, hi⟩ := List.mem_iff_getElem?.1 hm
          rw [List.getElem?_take] at hi
          by_cases hik : i < k
          · rw [if_pos hik] at hi
            obtain ⟨h1, e1⟩ := List.getElem?_eq_some_iff.1 hi
            obtain ⟨h2, e2⟩ := List.getElem?_eq_some_iff.1 HR.out
            have := List.pairwise_iff_getElem.mp (srtI_rise l) i k h1 h2 hik
            rw [e1, e2] at this
            exact this
          · rw [if_neg hik] at hi; cases hi)
        have HBd : Hid (∀ r ∈ out, r.2 ≤ k) := hid (fun r hr' => by
          have h2 := cn_srt_eq HSrt.out hr'
          have h3 := cn_le (v := r.1) HPos.out
          have h4 : tot out = (((srtI l).take k).length : Int) := by rw [HO.out, bagOf_tot]
          rw [List.length_take] at h4
          omega)
        clear hr
        by_cases hq : ∃ y, out[out.length - 1]? = some (x, y)
        · obtain ⟨y, hy⟩ := hq
          obtain ⟨l0, el⟩ := split_last hy
          have hyb := HBd.out (x, y) (by rw [el]; simp)
          have hyp := HPos.out (x, y) (by rw [el]; simp)
          simp only at hyb hyp
          have OW2 : Hid (OwnW w2 wr u (l0 ++ [(x, y)])) := hid (by rw [← el]; exact OW.out)
          have hlen0 : l0.length ≤ k := by have := HLen.out; rw [el, List.length_append] at this; omega
          have HST2 : Hid (l0 ++ [(x, y + 1)] = bagOf ((srtI l).take (k + 1))) := hid (by rw [← HST.out, el, lay_last (by rw [← el]; exact HSrt.out) (by omega)])
          clear hy el
          go_wp2_with (go_at_call 95; refine (laid_more w2.heap.size u l0 x y 1 _ OW2.out.2 OW2.out.1.size (by omega) (by omega) (by omega)).mono ?_; rintro e w3 ⟨⟨rfl, ho3⟩, hg3⟩; have O3 := hid (OwnW.grown OW2.out hg3 ho3); clear ho3 hg3)
          go_roundw
          case rel => exact ⟨k + 1, u, _, by omega, by go_num, rfl, HST2, O3⟩
          case measure => simp [intOf]; omega
        · have HNE : Hid (∀ p q, out[out.length - 1]? = some (p, q) → ¬ p = x) := hid (fun p q h e => hq ⟨q, by rw [← e]; exact h⟩)
          have HST2 : Hid (out ++ [(x, 1)] = bagOf ((srtI l).take (k + 1))) := hid (by rw [← HST.out, lay_low (below_x HSrt.out HLe.out HNE.out)])
          clear hq
          go_wp2_with (go_at_call 95; refine (laid_new w2.heap.size u out x 1 _ OW.out.2 OW.out.1.size (by have := HLen.out; omega) HNE.out).mono ?_; rintro e w3 ⟨⟨u3, rfl, ho3⟩, hg3⟩; have O3 := hid (OwnW.grown OW.out hg3 ho3); clear ho3 hg3)
          go_roundw
          case rel => exact ⟨k + 1, u3, _, by omega, by go_num, rfl, HST2, O3⟩
          case measure => simp [intOf]; omega
      · have hkf : decide ((k : Int) < (n : Int)) = false := decide_eq_false (by omega)
        have HE : Hid (out = bagOf l) := hid (by rw [HO.out, List.take_of_length_le (by rw [srtI_len]; have := EL.out; omega), bagOf_perm (srtI_perm l)])
        obtain ⟨A, cap, e, hr⟩ := own_any OW.out.2
        have HF := hid (own_far OW.out.2 e B2.out.size)
        subst e
        have HR := hid hr
        clear hr
        go_wp2
        go_ret
        rw [← HE.out]
        exact ⟨⟨A, cap, rfl, HR.out, HF.out⟩, bt B2.out OW.out.1⟩

set_option maxHeartbeats 16000000 in
theorem join_own (a1 a2 : Option Addr) (n c m d : Nat) (l u : List Rn) (w : World) (hl : NRun w a1 n c l) (hu : NRun w a2 m d u) (hk : ∀ r ∈ l, nok r) (hk' : ∀ r ∈ u, nok r) (hn : n ≤ 1000) (hm : m ≤ 1000) :
    Calls Try.prog 66 #[.slice a1 n c, .slice a2 m d] w fun e w' => (∃ A cap, e = .returned (.tuple #[.slice A (Jl l u).length cap, .bool (Jn l u)]) ∧ NRun w' A (Jl l u).length cap (Jl l u) ∧ Far w A) ∧ Below w.heap.size w w' := by
  have HL := hid hl
  have HU := hid hu
  have HK := hid hk
  have HK' := hid hk'
  obtain ⟨l1, l2⟩ := hl.lens
  obtain ⟨u1, u2⟩ := hu.lens
  have EL := hid l1
  have EU := hid u1
  have KN : Hid (Jn l u = false → ∀ W, NRun W none 0 0 (Jl l u) ∧ (Jl l u).length = 0) := hid (fun h W => by rw [jl_no h]; exact ⟨nrun_nil W, rfl⟩)
  clear hl hu hk hk' l1 u1
  have t1 : True := trivial
  have TA : Hid (gd l = true → tl l = tot l) := hid (fun h => tl_yes (gd_iff.1 h))
  have TB : Hid (gd u = true → tl u = tot u) := hid (fun h => tl_yes (gd_iff.1 h))
  obtain ⟨ta, hta⟩ : ∃ x, tl l = x := ⟨_, rfl⟩
  obtain ⟨tb, htb⟩ : ∃ x, tl u = x := ⟨_, rfl⟩
  have HTA := hid hta
  have HTB := hid htb
  clear hta htb
  cases hg : gd l with
  | false =>
    have HG := hid hg
    have HJ := hid (jn_no1 (b := u) hg)
    obtain ⟨g2, hg2⟩ : ∃ x, gd u = x := ⟨_, rfl⟩
    have HG2 := hid hg2
    clear hg hg2
    go_enter Try.func66, Try.ntmps66
    go_wp2_with (first
      | (go_at_call 101; clear t1; refine (tally_m a1 n c l ta false _ HL.out HK.out HTA HG).mono ?_; rintro e w1 ⟨rfl, hb1⟩; have B1 := hid hb1; clear hb1)
      | (go_at_call 101; refine (tally_m a2 m d u tb g2 _ (HU.out.below B1.out) HK'.out HTB HG2).mono ?_; rintro e w2 ⟨rfl, hb2⟩; have B2 := hid (bt B1.out hb2); clear hb2))
    go_ret2
    rw [HJ.out, (KN.out HJ.out w).2]
    exact ⟨⟨none, 0, rfl, (KN.out HJ.out _).1, far_nil _⟩, B2.out⟩
  | true =>
    have HG := hid hg
    have HB := hid (gd_iff.1 hg)
    clear hg
    cases hg' : gd u with
    | false =>
      have HG2 := hid hg'
      have HJ := hid (jn_no2 (a := l) hg')
      clear hg'
      go_enter Try.func66, Try.ntmps66
      go_wp2_with (first
        | (go_at_call 101; clear t1; refine (tally_m a1 n c l ta true _ HL.out HK.out HTA HG).mono ?_; rintro e w1 ⟨rfl, hb1⟩; have B1 := hid hb1; clear hb1)
        | (go_at_call 101; refine (tally_m a2 m d u tb false _ (HU.out.below B1.out) HK'.out HTB HG2).mono ?_; rintro e w2 ⟨rfl, hb2⟩; have B2 := hid (bt B1.out hb2); clear hb2))
      go_ret2
      rw [HJ.out, (KN.out HJ.out w).2]
      exact ⟨⟨none, 0, rfl, (KN.out HJ.out _).1, far_nil _⟩, B2.out⟩
    | true =>
      have HG2 := hid hg'
      have HB' := hid (gd_iff.1 hg')
      clear hg'
      have QA : Hid (tot l = ta) := hid (by rw [← TA.out HG.out, HTA.out])
      have QB : Hid (tot u = tb) := hid (by rw [← TB.out HG2.out, HTB.out])
      have ra1 : 0 ≤ ta := by rw [← QA.out]; exact tot_nn HB.out.2.1
      have ra2 : ta ≤ 1099511627776 := by rw [← QA.out]; exact HB.out.2.2
      have rb1 : 0 ≤ tb := by rw [← QB.out]; exact tot_nn HB'.out.2.1
      have rb2 : tb ≤ 1099511627776 := by rw [← QB.out]; exact HB'.out.2.2
      by_cases hs : 1099511627776 < ta + tb
      · have HJ := hid (jn_no3 (a := l) (b := u) (by rw [QA.out, QB.out]; exact hs))
        have hsd : decide (1099511627776 < ta + tb) = true := decide_eq_true hs
        go_enter Try.func66, Try.ntmps66
        go_wp2_with (first
          | (go_at_call 101; clear t1; refine (tally_m a1 n c l ta true _ HL.out HK.out HTA HG).mono ?_; rintro e w1 ⟨rfl, hb1⟩; have B1 := hid hb1; clear hb1)
          | (go_at_call 101; refine (tally_m a2 m d u tb true _ (HU.out.below B1.out) HK'.out HTB HG2).mono ?_; rintro e w2 ⟨rfl, hb2⟩; have B2 := hid (bt B1.out hb2); clear hb2))
        go_ret2
        rw [HJ.out, (KN.out HJ.out w).2]
        exact ⟨⟨none, 0, rfl, (KN.out HJ.out _).1, far_nil _⟩, B2.out⟩
      · have hsd : decide (1099511627776 < ta + tb) = false := decide_eq_false hs
        have HJ := hid (jn_yes HB.out HB'.out (by rw [QA.out, QB.out]; omega))
        have HT : Hid (tot l + tot u ≤ 1099511627776) := hid (by rw [QA.out, QB.out]; omega)
        have HLn : Hid (l.length + u.length ≤ 2000) := hid (by have := EL.out; have := EU.out; omega)
        have wnm : IntKind.i64.wrap ((n : Int) + (m : Int)) = ((n + m : Nat) : Int) := by rw [show (n : Int) + (m : Int) = ((n + m : Nat) : Int) by omega]; exact IntWalk.i64_in _ (by omega)
        obtain ⟨i0, hi, hz0, hz1, hz2⟩ := info_parts info_nr
        go_enter Try.func66, Try.ntmps66
        go_upto_region 6 with (first
          | (go_at_call 101; clear t1; refine (tally_m a1 n c l ta true _ HL.out HK.out HTA HG).mono ?_; rintro e w1 ⟨rfl, hb1⟩; have B1 := hid hb1; clear hb1)
          | (go_at_call 101; refine (tally_m a2 m d u tb true _ (HU.out.below B1.out) HK'.out HTB HG2).mono ?_; rintro e w2 ⟨rfl, hb2⟩; have B2 := hid (bt B1.out hb2); clear hb2)
          | (at_make; refine wpList_make_own _ rfl _ _ 23 rfl w.heap.size 65 i0 _ 2 Try.underlying23 hi hz0 hz1 _ _ _ (n + m) rfl rfl (by omega) (by rw [hz2]; omega) (by unfold maxLen; omega) B2.out.size ?_; intro w3 ho3 hg3; have O3 : Hid (OwnW w w3 (.slice (some ⟨w2.heap.size, 0, none⟩) 0 (n + m)) []) := hid ⟨B2.out.grown hg3 B2.out.size (fun k hk => by cases hk), ho3⟩; clear ho3 hg3))
        clear hsd hs ra1 ra2 rb1 rb2 wnm hi hz0 hz1 hz2 B1 B2
        have J0 := hid (ji_0 HB.out HB'.out)
        go_wp2
        go_loopg [0, 1, 10] (n + m) (fun g sa sb so wr => ∃ (A : Option Addr) (p q : Nat) (B : Option Addr) (r s : Nat) (la lb : List Rn) (v : Value) (out : List Rn), sa = .slice A p q ∧ sb = .slice B r s ∧ v = so ∧ p ≤ 1000 ∧ r ≤ 1000 ∧ p + r ≤ g ∧ Hid (NRun w A p q la) ∧ Hid (NRun w B r s lb) ∧ Hid (JI l u la lb out) ∧ Hid (OwnW w wr v out))
        case atStart => exact ⟨a1, n, c, a2, m, d, l, u, _, [], rfl, rfl, rfl, hn, hm, Nat.le_refl _, HL, HU, J0, O3⟩
        case round =>
          obtain ⟨A, p, q, B, r, s, la, lb, v, out, rfl, rfl, rfl, hp, hr, hg, HA, HBr, JJ, OW⟩ := hrel
          have wpr : IntKind.i64.wrap ((p : Int) + (r : Int)) = ((p + r : Nat) : Int) := by rw [show (p : Int) + (r : Int) = ((p + r : Nat) : Int) by omega]; exact IntWalk.i64_in _ (by omega)
          by_cases h0 : p + r = 0
          · have h0d : decide ((0 : Int) < ((p + r : Nat) : Int)) = false := decide_eq_false (by omega)
            have ela := hid HA.out.lens.1
            have elb := hid HBr.out.lens.1
            have HE : Hid (out = Jl l u) := hid (by
              have e1 : la = [] := List.length_eq_zero_iff.mp (by have := ela.out; omega)
              have e2 : lb = [] := List.length_eq_zero_iff.mp (by have := elb.out; omega)
              have h := JJ.out
              rw [e1, e2] at h
              rw [jl_yes HJ.out]
              exact ji_end h HB.out.1 HB.out.2.1 HB'.out.2.1)
            obtain ⟨A9, cap, e, hr9⟩ := own_any OW.out.2
            have HF := hid (own_far OW.out.2 e (Nat.le_refl _))
            subst e
            have HR9 := hid hr9
            clear hr9
            go_wp2
            go_ret2
            rw [HJ.out, ← HE.out]
            exact ⟨⟨A9, cap, rfl, HR9.out, HF.out⟩, OW.out.1⟩
          · have h0d : decide ((0 : Int) < ((p + r : Nat) : Int)) = true := decide_eq_true (by omega)
            have h0i : (0 : Int) < ((p + r : Nat) : Int) := by omega
            by_cases hp0 : p = 0
            · subst hp0
              obtain ⟨b, off, x0, x1, e1, hb, hrr, p0, p1⟩ := HBr.out.pick OW.out.1 (k := 0) (by omega)
              subst e1
              simp only [Nat.zero_mul, Nat.add_zero] at p0 p1
              have HRR := hid hrr
              clear hrr
              obtain ⟨A1, hsl, hr1⟩ := restN HBr.out 1 (by omega)
              have hsl' : ∀ w', (Instr.slice 23 (.slice (some ⟨b, off, none⟩) r s) (some (.int .i64 1)) none none).run Try.prog w' = .ok (.slice A1 (r - 1) (s - 1)) w' := hsl
              have R1 := hid hr1
              clear hsl hr1
              have JX : Hid (JI l u ((x0, x1) :: lb.drop 1) la out) := hid (by rw [← head_cons HRR.out]; exact ji_swap JJ.out)
              have J1 : Hid (JI l u (lb.drop 1) la (lay x0 x1 out)) := hid (ji_step JX.out (fun y hy => by have h1 := HA.out.lens.1; have h2 := (List.getElem?_eq_some_iff.1 hy).1; omega))
              have nx := ji_next JX.out HT.out HLn.out
              have N1 := hid nx.1
              have N2 := hid nx.2.1
              have N3 := hid nx.2.2.1
              have n4 := nx.2.2.2.1
              have n5 := nx.2.2.2.2.1
              have n6 := nx.2.2.2.2.2.1
              have n7 := nx.2.2.2.2.2.2
              clear nx
              obtain ⟨M, hM⟩ : ∃ M, lay x0 x1 out = M := ⟨_, rfl⟩
              have HM := hid hM
              clear hM
              have J2 : Hid (JI l u (lb.drop 1) la M) := hid (by rw [← HM.out]; exact J1.out)
              have hrd : decide ((0 : Int) < (r : Int)) = true := decide_eq_true (by omega)
              have hri : (0 : Int) < (r : Int) := by omega
              have hrn : decide (0 < r) = true := decide_eq_true (by omega)
              have hrm : 0 < r := by omega
              clear J1
              go_wp2
              go_quiet (fail)
              have OD : Hid (OwnW w (wr.drewN nq) v out) := hid ⟨bdrewN OW.out.1, OW.out.2⟩
              have P0 : (wr.drewN nq).cell? ⟨b, off, none⟩ = some (.int .i64 x0) := p0
              have P1 : (wr.drewN nq).cell? ⟨b, off + 1, none⟩ = some (.int .i64 x1) := p1
              clear p0 p1
              generalize wr.drewN nq = W at OD P0 P1 ⊢
              go_wp2_with (go_at_call 95; refine (laid_lay w.heap.size v out M x0 x1 _ OD.out.2 OD.out.1.size (by omega) N1.out N2.out N3.out (by omega) (by omega) HM).mono ?_; rintro e w5 ⟨⟨v5, rfl, ho5⟩, hg5⟩; have O5 := hid (OwnW.grown OD.out hg5 ho5); clear ho5 hg5)
              go_roundg (r - 1 + 0)
              case measure => omega
              case rel => exact ⟨A1, r - 1, s - 1, _, 0, q, lb.drop 1, la, v5, M, rfl, rfl, rfl, by omega, by omega, Nat.le_refl _, R1, HA, J2, O5⟩
            · have hpd : ((p : Int) == 0) = false := by simp; omega
              have hpi : (0 : Int) < (p : Int) := by omega
              by_cases hr0 : r = 0
              · subst hr0
                obtain ⟨b, off, x0, x1, e1, hb, hrr, p0, p1⟩ := HA.out.pick OW.out.1 (k := 0) (by omega)
                subst e1
                simp only [Nat.zero_mul, Nat.add_zero] at p0 p1
                have HRR := hid hrr
                clear hrr
                obtain ⟨A1, hsl, hr1⟩ := restN HA.out 1 (by omega)
                have hsl' : ∀ w', (Instr.slice 23 (.slice (some ⟨b, off, none⟩) p q) (some (.int .i64 1)) none none).run Try.prog w' = .ok (.slice A1 (p - 1) (q - 1)) w' := hsl
                have R1 := hid hr1
                clear hsl hr1
                have JX : Hid (JI l u ((x0, x1) :: la.drop 1) lb out) := hid (by rw [← head_cons HRR.out]; exact JJ.out)
                have J1 : Hid (JI l u (la.drop 1) lb (lay x0 x1 out)) := hid (ji_step JX.out (fun y hy => by have h1 := HBr.out.lens.1; have h2 := (List.getElem?_eq_some_iff.1 hy).1; omega))
                have nx := ji_next JX.out HT.out HLn.out
                have N1 := hid nx.1
                have N2 := hid nx.2.1
                have N3 := hid nx.2.2.1
                have n4 := nx.2.2.2.1
                have n5 := nx.2.2.2.2.1
                have n6 := nx.2.2.2.2.2.1
                have n7 := nx.2.2.2.2.2.2
                clear nx
                obtain ⟨M, hM⟩ : ∃ M, lay x0 x1 out = M := ⟨_, rfl⟩
                have HM := hid hM
                clear hM
                have J2 : Hid (JI l u (la.drop 1) lb M) := hid (by rw [← HM.out]; exact J1.out)
                clear J1
                go_wp2
                go_quiet (fail)
                have OD : Hid (OwnW w (wr.drewN nq) v out) := hid ⟨bdrewN OW.out.1, OW.out.2⟩
                have P0 : (wr.drewN nq).cell? ⟨b, off, none⟩ = some (.int .i64 x0) := p0
                have P1 : (wr.drewN nq).cell? ⟨b, off + 1, none⟩ = some (.int .i64 x1) := p1
                clear p0 p1
                generalize wr.drewN nq = W at OD P0 P1 ⊢
                go_wp2_with (go_at_call 95; refine (laid_lay w.heap.size v out M x0 x1 _ OD.out.2 OD.out.1.size (by omega) N1.out N2.out N3.out (by omega) (by omega) HM).mono ?_; rintro e w5 ⟨⟨v5, rfl, ho5⟩, hg5⟩; have O5 := hid (OwnW.grown OD.out hg5 ho5); clear ho5 hg5)
                go_roundg (p - 1 + 0)
                case measure => omega
                case rel => exact ⟨A1, p - 1, q - 1, _, 0, s, la.drop 1, lb, v5, M, rfl, rfl, rfl, by omega, by omega, Nat.le_refl _, R1, HBr, J2, O5⟩
              · have hrd : decide ((0 : Int) < (r : Int)) = true := decide_eq_true (by omega)
                have hri : (0 : Int) < (r : Int) := by omega
                have hrn : decide (0 < r) = true := decide_eq_true (by omega)
                have hrm : 0 < r := by omega
                obtain ⟨hh, eh⟩ : ∃ x, la[0]? = some x := ⟨_, List.getElem?_eq_getElem (by have := HA.out.lens.1; omega)⟩
                obtain ⟨kk, ek⟩ : ∃ x, lb[0]? = some x := ⟨_, List.getElem?_eq_getElem (by have := HBr.out.lens.1; omega)⟩
                have EH := hid eh
                have EK := hid ek
                clear eh ek
                by_cases hlt : kk.1 < hh.1
                · have HQ0 := hid hlt
                  clear hlt
                  obtain ⟨b, off, x0, x1, e1, hb, hrr, p0, p1⟩ := HBr.out.pick OW.out.1 (k := 0) (by omega)
                  subst e1
                  simp only [Nat.zero_mul, Nat.add_zero] at p0 p1
                  have HRR := hid hrr
                  clear hrr
                  obtain ⟨b', off', y0, y1, e2, hb', hqq, q0, q1⟩ := HA.out.pick OW.out.1 (k := 0) (by omega)
                  subst e2
                  simp only [Nat.zero_mul, Nat.add_zero] at q0 q1
                  have HQQ := hid hqq
                  clear hqq q1
                  obtain ⟨A1, hsl, hr1⟩ := restN HBr.out 1 (by omega)
                  have hsl' : ∀ w', (Instr.slice 23 (.slice (some ⟨b, off, none⟩) r s) (some (.int .i64 1)) none none).run Try.prog w' = .ok (.slice A1 (r - 1) (s - 1)) w' := hsl
                  have R1 := hid hr1
                  clear hsl hr1
                  have JX : Hid (JI l u ((x0, x1) :: lb.drop 1) la out) := hid (by rw [← head_cons HRR.out]; exact ji_swap JJ.out)
                  have J1 : Hid (JI l u (lb.drop 1) la (lay x0 x1 out)) := hid (ji_step JX.out (fun y hy => by rw [HQQ.out] at hy; cases hy; have h := HQ0.out; have h1 := EH.out; have h2 := EK.out; rw [HQQ.out] at h1; rw [HRR.out] at h2; cases h1; cases h2; simp only at h ⊢; omega))
                  have nx := ji_next JX.out HT.out HLn.out
                  have N1 := hid nx.1
                  have N2 := hid nx.2.1
                  have N3 := hid nx.2.2.1
                  have n4 := nx.2.2.2.1
                  have n5 := nx.2.2.2.2.1
                  have n6 := nx.2.2.2.2.2.1
                  have n7 := nx.2.2.2.2.2.2
                  clear nx
                  obtain ⟨M, hM⟩ : ∃ M, lay x0 x1 out = M := ⟨_, rfl⟩
                  have HM := hid hM
                  clear hM
                  have J2 : Hid (JI l u (lb.drop 1) la M) := hid (by rw [← HM.out]; exact J1.out)
                  have hltd : decide (x0 < y0) = true := decide_eq_true (by have h := HQ0.out; have h1 := EH.out; have h2 := EK.out; rw [HQQ.out] at h1; rw [HRR.out] at h2; cases h1; cases h2; exact h)
                  clear J1
                  go_wp2
                  go_quiet (fail)
                  have OD : Hid (OwnW w (wr.drewN nq) v out) := hid ⟨bdrewN OW.out.1, OW.out.2⟩
                  have P0 : (wr.drewN nq).cell? ⟨b, off, none⟩ = some (.int .i64 x0) := p0
                  have P1 : (wr.drewN nq).cell? ⟨b, off + 1, none⟩ = some (.int .i64 x1) := p1
                  clear p0 p1
                  generalize wr.drewN nq = W at OD P0 P1 ⊢
                  go_wp2_with (go_at_call 95; refine (laid_lay w.heap.size v out M x0 x1 _ OD.out.2 OD.out.1.size (by omega) N1.out N2.out N3.out (by omega) (by omega) HM).mono ?_; rintro e w5 ⟨⟨v5, rfl, ho5⟩, hg5⟩; have O5 := hid (OwnW.grown OD.out hg5 ho5); clear ho5 hg5)
                  go_roundg (r - 1 + p)
                  case measure => omega
                  case rel => exact ⟨A1, r - 1, s - 1, _, p, q, lb.drop 1, la, v5, M, rfl, rfl, rfl, by omega, by omega, Nat.le_refl _, R1, HA, J2, O5⟩
                · have HQ0 := hid hlt
                  clear hlt
                  obtain ⟨b, off, x0, x1, e1, hb, hrr, p0, p1⟩ := HA.out.pick OW.out.1 (k := 0) (by omega)
                  subst e1
                  simp only [Nat.zero_mul, Nat.add_zero] at p0 p1
                  have HRR := hid hrr
                  clear hrr
                  obtain ⟨b', off', y0, y1, e2, hb', hqq, q0, q1⟩ := HBr.out.pick OW.out.1 (k := 0) (by omega)
                  subst e2
                  simp only [Nat.zero_mul, Nat.add_zero] at q0 q1
                  have HQQ := hid hqq
                  clear hqq q1
                  obtain ⟨A1, hsl, hr1⟩ := restN HA.out 1 (by omega)
                  have hsl' : ∀ w', (Instr.slice 23 (.slice (some ⟨b, off, none⟩) p q) (some (.int .i64 1)) none none).run Try.prog w' = .ok (.slice A1 (p - 1) (q - 1)) w' := hsl
                  have R1 := hid hr1
                  clear hsl hr1
                  have JX : Hid (JI l u ((x0, x1) :: la.drop 1) lb out) := hid (by rw [← head_cons HRR.out]; exact JJ.out)
                  have J1 : Hid (JI l u (la.drop 1) lb (lay x0 x1 out)) := hid (ji_step JX.out (fun y hy => by rw [HQQ.out] at hy; cases hy; have h := HQ0.out; have h1 := EH.out; have h2 := EK.out; rw [HRR.out] at h1; rw [HQQ.out] at h2; cases h1; cases h2; simp only at h ⊢; omega))
                  have nx := ji_next JX.out HT.out HLn.out
                  have N1 := hid nx.1
                  have N2 := hid nx.2.1
                  have N3 := hid nx.2.2.1
                  have n4 := nx.2.2.2.1
                  have n5 := nx.2.2.2.2.1
                  have n6 := nx.2.2.2.2.2.1
                  have n7 := nx.2.2.2.2.2.2
                  clear nx
                  obtain ⟨M, hM⟩ : ∃ M, lay x0 x1 out = M := ⟨_, rfl⟩
                  have HM := hid hM
                  clear hM
                  have J2 : Hid (JI l u (la.drop 1) lb M) := hid (by rw [← HM.out]; exact J1.out)
                  have hltd : decide (y0 < x0) = false := decide_eq_false (by have h := HQ0.out; have h1 := EH.out; have h2 := EK.out; rw [HRR.out] at h1; rw [HQQ.out] at h2; cases h1; cases h2; exact h)
                  clear J1
                  go_wp2
                  go_quiet (fail)
                  have OD : Hid (OwnW w (wr.drewN nq) v out) := hid ⟨bdrewN OW.out.1, OW.out.2⟩
                  have P0 : (wr.drewN nq).cell? ⟨b, off, none⟩ = some (.int .i64 x0) := p0
                  have P1 : (wr.drewN nq).cell? ⟨b, off + 1, none⟩ = some (.int .i64 x1) := p1
                  clear p0 p1
                  generalize wr.drewN nq = W at OD P0 P1 ⊢
                  go_wp2_with (go_at_call 95; refine (laid_lay w.heap.size v out M x0 x1 _ OD.out.2 OD.out.1.size (by omega) N1.out N2.out N3.out (by omega) (by omega) HM).mono ?_; rintro e w5 ⟨⟨v5, rfl, ho5⟩, hg5⟩; have O5 := hid (OwnW.grown OD.out hg5 ho5); clear ho5 hg5)
                  go_roundg (p - 1 + r)
                  case measure => omega
                  case rel => exact ⟨A1, p - 1, q - 1, _, r, s, la.drop 1, lb, v5, M, rfl, rfl, rfl, by omega, by omega, Nat.le_refl _, R1, HBr, J2, O5⟩

theorem of_n (a : Option Addr) (n c k : Nat) (l : List Int) (M : List Rn) (w : World) (hl : IRow .i64 w a n c l) (hn : n ≤ 1000) (hM : Hid (bagOf l = M)) (hk : Hid (M.length = k)) :
    Calls Try.prog 56 #[.slice a n c] w fun e w' => (∃ A cap, e = .returned (.slice A k cap) ∧ NRun w' A k cap M ∧ Far w A) ∧ Below w.heap.size w w' := by
  have := of_own a n c l w hl hn
  rw [hM.out, hk.out] at this
  exact this
theorem join_n (a1 a2 : Option Addr) (n c m d k : Nat) (l u M : List Rn) (v : Bool) (w : World) (hl : NRun w a1 n c l) (hu : NRun w a2 m d u) (hk : ∀ r ∈ l, nok r) (hk' : ∀ r ∈ u, nok r) (hn : n ≤ 1000) (hm : m ≤ 1000) (hM : Hid (Jl l u = M)) (hv : Hid (Jn l u = v)) (hl2 : Hid (M.length = k)) :
    Calls Try.prog 66 #[.slice a1 n c, .slice a2 m d] w fun e w' => (∃ A cap, e = .returned (.tuple #[.slice A k cap, .bool v]) ∧ NRun w' A k cap M ∧ Far w A) ∧ Below w.heap.size w w' := by
  have := join_own a1 a2 n c m d l u w hl hu hk hk' hn hm
  rw [hM.out, hv.out, hl2.out] at this
  exact this

end Go.Proofs.Ytjkkajhjcinalaa

namespace Go.Proofs.Ytjkkajhjcinalaa
open Go.ChangeShapes Go.WideShapes Go.ChangeAt Go.RowKit
set_option linter.unusedVariables false
set_option linter.unusedSimpArgs false
set_option maxRecDepth 100000

theorem results_cell_slot {P : Program} {fn : Func} {p u : Tmp} {ty : TypeId} (h : fn.results = #[.cell p ty, .tmp u]) (tmps : Array Value) (w : World) (g : Nat) (t : TypeId) (cs : Array Value) (fr : Nat × Nat) (d : TypeDesc) (v : Value)
    (hp : tmps.getD p undef = .pointer (some ⟨g, 0, none⟩)) (hv : tmps.getD u undef = v) (hg : w.heap[g]? = some (.cells cs t fr))
    (hu : P.underlying ty = some d) (hd : (match d with | .struct _ | .array _ _ => true | _ => false) = true) (hi : (P.info? ty).map (·.size) = some cs.size) :
    (results fn tmps).run P w = .ok (.tuple #[.agg cs, v]) w := by
  rw [results_cell_tmp h, hp, hv]
  simp [asAddr, run_loadVar_row w g t ty cs fr d hg hu hd hi, Result.andThen]

theorem total_m (a : Option Addr) (n c : Nat) (l : List Int) (w : World) (hl : IRow .i64 w a n c l) (hk : ∀ x ∈ l, I64 x) (hn : n ≤ 1000) :
    Calls Try.prog 27 #[.slice a n c] w fun e w' => e = .returned (.tuple #[.int .i64 (calc.fitV (calc.sumI l)), .bool (calc.fitB (calc.sumI l))]) ∧ Below w.heap.size w w' := by
  obtain ⟨h1, h2, h3, h4, h5⟩ := hl
  by_cases h0 : n = 0
  · subst h0
    have hx : l = [] := List.length_eq_zero_iff.mp h1.symm
    subst hx
    exact calc.total_0 a c w
  · obtain ⟨b, off, rfl, hb, hl⟩ := h5 (by omega)
    have := calc.total_any b off n c l w (by omega) (by omega) hb (fun k hk => hl k (by omega)) hk
    rw [List.take_of_length_le (by omega)] at this
    exact this
theorem total_n (a : Option Addr) (n c : Nat) (l : List Int) (S : Int) (f : Bool) (w : World) (hl : IRow .i64 w a n c l) (hk : ∀ x ∈ l, I64 x) (hn : n ≤ 1000) (hS : Hid (calc.fitV (calc.sumI l) = S)) (hf : Hid (calc.fitB (calc.sumI l) = f)) :
    Calls Try.prog 27 #[.slice a n c] w fun e w' => e = .returned (.tuple #[.int .i64 S, .bool f]) ∧ Below w.heap.size w w' := by
  have := total_m a n c l w hl hk hn
  rw [hS.out, hf.out] at this
  exact this
/-- Runs, or numbers, that lie behind a block. -/
def NF (w : World) (a : Option Addr) (n c : Nat) (l : List Rn) (G : Nat) : Prop := NRun w a n c l ∧ ∀ b off, a = some ⟨b, off, none⟩ → G < b
def IF (w : World) (a : Option Addr) (n c : Nat) (l : List Int) (G : Nat) : Prop := IRow .i64 w a n c l ∧ ∀ b off, a = some ⟨b, off, none⟩ → G < b
theorem nf_of {w w0 : World} {a : Option Addr} {n c : Nat} {l : List Rn} {G : Nat} (h : NRun w a n c l) (hf : Far w0 a) (hG : G < w0.heap.size) : NF w a n c l G := ⟨h, fun b off e => by have := hf b off e; omega⟩
theorem if_of {w w0 : World} {a : Option Addr} {n c : Nat} {l : List Int} {G : Nat} (h : IRow .i64 w a n c l) (hf : Far w0 a) (hG : G < w0.heap.size) : IF w a n c l G := ⟨h, fun b off e => by have := hf b off e; omega⟩
theorem NF.below {w w' : World} {a : Option Addr} {n c : Nat} {l : List Rn} {G : Nat} (h : NF w a n c l G) (hb : Below w.heap.size w w') : NF w' a n c l G := ⟨h.1.below hb, h.2⟩
theorem IF.below {w w' : World} {a : Option Addr} {n c : Nat} {l : List Int} {G : Nat} (h : IF w a n c l G) (hb : Below w.heap.size w w') : IF w' a n c l G := ⟨h.1.below hb, h.2⟩
theorem NF.gr {w w' : World} {a : Option Addr} {n c : Nat} {l : List Rn} {G B : Nat} (h : NF w a n c l G) (hg : w.grownBy w' (some B)) (hB : B ≤ G) : NF w' a n c l G := ⟨h.1.grown hg (fun b off e => by have := h.2 b off e; omega), h.2⟩
theorem irow_grown {w w' : World} {a : Option Addr} {n c G : Nat} {l : List Int} (h : IRow .i64 w a n c l) (hg : w.grownBy w' (some G)) (hne : ∀ b off, a = some ⟨b, off, none⟩ → ¬ b = G) : IRow .i64 w' a n c l := by
  obtain ⟨h1, h2, h3, h4, h5⟩ := h
  refine ⟨h1, h2, h3, h4, fun h0 => ?_⟩
  obtain ⟨b, off, e, hlt, hl⟩ := h5 h0
  exact ⟨b, off, e, Nat.lt_of_lt_of_le hlt hg.size, fun j hj => (grown_cell hg hlt (fun e' => hne b off e (by cases e'; rfl))).trans (hl j hj)⟩
theorem IF.gr {w w' : World} {a : Option Addr} {n c : Nat} {l : List Int} {G B : Nat} (h : IF w a n c l G) (hg : w.grownBy w' (some B)) (hB : B ≤ G) : IF w' a n c l G := ⟨irow_grown h.1 hg (fun b off e => by have := h.2 b off e; omega), h.2⟩
theorem map_take {l : List Rw} {k : Nat} {r : Rw} (f : Rw → Int) (h : l[k]? = some r) : (l.take (k + 1)).map f = (l.take k).map f ++ [f r] := by
  rw [take_one h]; simp
set_option maxHeartbeats 4000000 in
theorem vals0_m (a : Option Addr) (n c : Nat) (l : List Rw) (M : List Int) (w : World) (hl : RRow w a n c l) (hn : n ≤ 1000) (hM : Hid (l.map rm0 = M)) :
    Calls Try.prog 55 #[.int .i64 0, .slice a n c] w fun e w' => (∃ A cap, e = .returned (.slice A n cap) ∧ IRow .i64 w' A n cap M ∧ Far w A) ∧ Below w.heap.size w w' := by
  have h := hM.out
  subst h
  clear hM
  have HL := hid hl
  obtain ⟨l1, l2⟩ := hl.lens
  have EL := hid l1
  clear hl l1
  obtain ⟨i0, hi, hz0, hz1, hz2⟩ := info_parts info_i64
  go_enter Try.func55, Try.ntmps55
  go_upto_region 3 with (at_make; refine wpList_make_own _ rfl _ _ 51 rfl w.heap.size 2 i0 _ 1 Try.underlying51 hi hz0 hz1 _ _ _ n rfl rfl (by omega) (by rw [hz2]; omega) (by unfold maxLen; omega) (Nat.le_refl _) ?_; intro w3 ho3 hg3; have O3 := hid ho3; have B3 := hid (grow_below hg3 (Nat.le_refl _) (fun k hk => by cases hk)); clear ho3 hg3)
  clear hi hz0 hz1 hz2
  go_loopw [5, 13] (fun u i wr => ∃ (q : Nat) (v : Value), q ≤ n ∧ i = .int .i64 q ∧ v = u ∧ Hid (∃ g cap, v = .slice (some ⟨g, 0, none⟩) q cap) ∧ Hid (Below w.heap.size w wr ∧ wr.ownsRow w.heap.size 2 1 v q (vals .i64 ((l.take q).map rm0)))) (fun _ i _ => n - (intOf i).toNat)
  case atStart => exact ⟨0, _, by omega, rfl, rfl, hid ⟨_, _, rfl⟩, hid ⟨B3.out, O3.out⟩⟩
  case round =>
    obtain ⟨q, v, hqn, rfl, rfl, HX, HO⟩ := hrel
    have hq0 : (0 : Int) ≤ (q : Int) := by omega
    by_cases hlt : q < n
    · have hki : (q : Int) < (n : Int) := by omega
      obtain ⟨b, off, x0, x1, x2, x3, m0, m1, rfl, hb, hr, p0, p1, p2, p3, p4, p5⟩ := HL.out.pick HO.out.1 hlt
      have HR := hid hr
      clear hr
      have B5 : Hid (Below w.heap.size w (wr.alloc (.cells #[.int .u8 x0, .int .u8 x1, .int .u8 x2, .int .u8 x3, .int .i64 m0, .int .i64 m1] 53))) := hid (bt HO.out.1 (b1alloc _ _))
      have O5 := hid (HO.out.2.alloc (.cells #[.int .u8 x0, .int .u8 x1, .int .u8 x2, .int .u8 x3, .int .i64 m0, .int .i64 m1] 53))
      go_upto_region 5 with fail
      generalize hW : wr.alloc (.cells #[.int .u8 x0, .int .u8 x1, .int .u8 x2, .int .u8 x3, .int .i64 m0, .int .i64 m1] 53) = W5 at B5 O5 ⊢
      have hz : W5.heap[wr.heap.size]? = some (.cells #[.int .u8 x0, .int .u8 x1, .int .u8 x2, .int .u8 x3, .int .i64 m0, .int .i64 m1] 53) := by rw [← hW]; exact heap_alloc_new _ _
      have z4 : W5.cell? ⟨wr.heap.size, 4, none⟩ = some (.int .i64 m0) := by simp [World.cell?, hz]
      have z5 : W5.cell? ⟨wr.heap.size, 5, none⟩ = some (.int .i64 m1) := by simp [World.cell?, hz]
      clear hW hz p0 p1 p2 p3 p4 p5
      have hst := map_take rm0 HR.out
      have HST := hid hst
      clear hst
      go_wp2_with (at_builtin; refine append_one (k := .i64) Try.underlying51 info_i64 (by decide) rfl (.tmp 17) (.tmp 22) rfl w.heap.size q _ m0 ((l.take q).map rm0) W5.heap.size rfl rfl O5.out rfl (by omega) B5.out.size ?_; intro v7 w7 hown7 hex7 hb7; have O7 := hid hown7; have X7 := hid hex7; have B7 := hid (B5.out.trans hb7); clear hown7 hex7 hb7)
      go_roundw
      case rel => exact ⟨q + 1, v7, by omega, by go_num, rfl, X7, hid ⟨B7.out, by rw [HST.out]; exact O7.out⟩⟩
      case measure => simp [intOf]; omega
    · have hkf : decide ((q : Int) < (n : Int)) = false := decide_eq_false (by omega)
      have hkf2 : decide (q < n) = false := decide_eq_false hlt
      obtain rfl : q = n := by omega
      obtain ⟨g, cap, hv⟩ := HX.out
      subst hv
      have HR := hid (own_row HO.out.2)
      have HF : Hid (Far w (some ⟨g, 0, none⟩)) := hid (fun b off e => by cases e; exact (HO.out.2.lt g rfl).1)
      go_wp2
      go_ret
      exact ⟨⟨_, _, rfl, by have h5 := HR.out; rw [List.take_of_length_le (by have := EL.out; omega)] at h5; exact h5, HF.out⟩, HO.out.1⟩
set_option maxHeartbeats 4000000 in
theorem vals1_m (a : Option Addr) (n c : Nat) (l : List Rw) (M : List Int) (w : World) (hl : RRow w a n c l) (hn : n ≤ 1000) (hM : Hid (l.map rm1 = M)) :
    Calls Try.prog 55 #[.int .i64 1, .slice a n c] w fun e w' => (∃ A cap, e = .returned (.slice A n cap) ∧ IRow .i64 w' A n cap M ∧ Far w A) ∧ Below w.heap.size w w' := by
  have h := hM.out
  subst h
  clear hM
  have HL := hid hl
  obtain ⟨l1, l2⟩ := hl.lens
  have EL := hid l1
  clear hl l1
  obtain ⟨i0, hi, hz0, hz1, hz2⟩ := info_parts info_i64
  go_enter Try.func55, Try.ntmps55
  go_upto_region 3 with (at_make; refine wpList_make_own _ rfl _ _ 51 rfl w.heap.size 2 i0 _ 1 Try.underlying51 hi hz0 hz1 _ _ _ n rfl rfl (by omega) (by rw [hz2]; omega) (by unfold maxLen; omega) (Nat.le_refl _) ?_; intro w3 ho3 hg3; have O3 := hid ho3; have B3 := hid (grow_below hg3 (Nat.le_refl _) (fun k hk => by cases hk)); clear ho3 hg3)
  clear hi hz0 hz1 hz2
  go_loopw [5, 13] (fun u i wr => ∃ (q : Nat) (v : Value), q ≤ n ∧ i = .int .i64 q ∧ v = u ∧ Hid (∃ g cap, v = .slice (some ⟨g, 0, none⟩) q cap) ∧ Hid (Below w.heap.size w wr ∧ wr.ownsRow w.heap.size 2 1 v q (vals .i64 ((l.take q).map rm1)))) (fun _ i _ => n - (intOf i).toNat)
  case atStart => exact ⟨0, _, by omega, rfl, rfl, hid ⟨_, _, rfl⟩, hid ⟨B3.out, O3.out⟩⟩
  case round =>
    obtain ⟨q, v, hqn, rfl, rfl, HX, HO⟩ := hrel
    have hq0 : (0 : Int) ≤ (q : Int) := by omega
    by_cases hlt : q < n
    · have hki : (q : Int) < (n : Int) := by omega
      obtain ⟨b, off, x0, x1, x2, x3, m0, m1, rfl, hb, hr, p0, p1, p2, p3, p4, p5⟩ := HL.out.pick HO.out.1 hlt
      have HR := hid hr
      clear hr
      have B5 : Hid (Below w.heap.size w (wr.alloc (.cells #[.int .u8 x0, .int .u8 x1, .int .u8 x2, .int .u8 x3, .int .i64 m0, .int .i64 m1] 53))) := hid (bt HO.out.1 (b1alloc _ _))
      have O5 := hid (HO.out.2.alloc (.cells #[.int .u8 x0, .int .u8 x1, .int .u8 x2, .int .u8 x3, .int .i64 m0, .int .i64 m1] 53))
      go_upto_region 5 with fail
      generalize hW : wr.alloc (.cells #[.int .u8 x0, .int .u8 x1, .int .u8 x2, .int .u8 x3, .int .i64 m0, .int .i64 m1] 53) = W5 at B5 O5 ⊢
      have hz : W5.heap[wr.heap.size]? = some (.cells #[.int .u8 x0, .int .u8 x1, .int .u8 x2, .int .u8 x3, .int .i64 m0, .int .i64 m1] 53) := by rw [← hW]; exact heap_alloc_new _ _
      have z4 : W5.cell? ⟨wr.heap.size, 4, none⟩ = some (.int .i64 m0) := by simp [World.cell?, hz]
      have z5 : W5.cell? ⟨wr.heap.size, 5, none⟩ = some (.int .i64 m1) := by simp [World.cell?, hz]
      clear hW hz p0 p1 p2 p3 p4 p5
      have hst := map_take rm1 HR.out
      have HST := hid hst
      clear hst
      go_wp2_with (at_builtin; refine append_one (k := .i64) Try.underlying51 info_i64 (by decide) rfl (.tmp 17) (.tmp 22) rfl w.heap.size q _ m1 ((l.take q).map rm1) W5.heap.size rfl rfl O5.out rfl (by omega) B5.out.size ?_; intro v7 w7 hown7 hex7 hb7; have O7 := hid hown7; have X7 := hid hex7; have B7 := hid (B5.out.trans hb7); clear hown7 hex7 hb7)
      go_roundw
      case rel => exact ⟨q + 1, v7, by omega, by go_num, rfl, X7, hid ⟨B7.out, by rw [HST.out]; exact O7.out⟩⟩
      case measure => simp [intOf]; omega
    · have hkf : decide ((q : Int) < (n : Int)) = false := decide_eq_false (by omega)
      have hkf2 : decide (q < n) = false := decide_eq_false hlt
      obtain rfl : q = n := by omega
      obtain ⟨g, cap, hv⟩ := HX.out
      subst hv
      have HR := hid (own_row HO.out.2)
      have HF : Hid (Far w (some ⟨g, 0, none⟩)) := hid (fun b off e => by cases e; exact (HO.out.2.lt g rfl).1)
      go_wp2
      go_ret
      exact ⟨⟨_, _, rfl, by have h5 := HR.out; rw [List.take_of_length_le (by have := EL.out; omega)] at h5; exact h5, HF.out⟩, HO.out.1⟩

theorem cw_nil (w : World) : CW w none 0 0 none 0 0 cl0 := ⟨nrun_nil w, nrun_nil w⟩
theorem ofB_m {m : Int} {l : List Rw} (h : ¬ (m = 1 ∨ m = 2)) : ofB m l = false := ofB_no (fun g => h g.1)
theorem ofB_e {m : Int} : ofB m [] = false := ofB_no (fun g => g.2.1 rfl)
theorem ofB_s0 {m : Int} {l : List Rw} (h : calc.fitB (calc.sumI (V0 l)) = false) : ofB m l = false := ofB_no (fun g => by rw [g.2.2.1] at h; cases h)
theorem ofB_s1 {l : List Rw} (h : calc.fitB (calc.sumI (V1 l)) = false) : ofB 2 l = false := ofB_no (fun g => by
  rcases g.2.2.2 with e | e
  · cases e
  · rw [e] at h; cases h)
set_option maxHeartbeats 32000000 in
theorem cof_m (m : Int) (a : Option Addr) (n c : Nat) (l : List Rw) (C : Cl) (v : Bool) (w : World) (hl : RRow w a n c l) (hk : ∀ r ∈ l, rok r) (hn : n ≤ 1000) (hC : Hid (ofC m l = C)) (hv : Hid (ofB m l = v)) :
    Calls Try.prog 17 #[.int .i64 m, .slice a n c] w fun e w' => (∃ a0 p0 k0 a1 p1 k1, e = .returned (.tuple #[.agg #[.int .i64 C.n, .int .i64 C.s0, .int .i64 C.s1, .slice a0 p0 k0, .slice a1 p1 k1], .bool v]) ∧ CW w' a0 p0 k0 a1 p1 k1 C) ∧ Below w.heap.size w w' := by
  have HL := hid hl
  obtain ⟨l1, l2⟩ := hl.lens
  have EL := hid l1
  have I0 := hid (V0_i64 hk)
  have I1 := hid (V1_i64 hk)
  clear hl l1 hk
  have KR0 := hid (kp_new w (.cells #[.int .i64 0, .int .i64 0, .int .i64 0, .slice none 0 0, .slice none 0 0] 26))
  by_cases hm : m = 1 ∨ m = 2
  · have HM : Hid ((decide (m = 1) || decide (m = 2)) = true) := hid (by simp only [Bool.or_eq_true, decide_eq_true_iff]; exact hm)
    by_cases h0 : n = 0
    · subst h0
      have hx : l = [] := List.length_eq_zero_iff.mp EL.out.symm
      subst hx
      have HZ := hid (And.intro (hC.out.symm.trans (ofC_no ofB_e)) (hv.out.symm.trans ofB_e))
      go_enter Try.func17, Try.ntmps17
      go_upto_region 2 with (go_at_call 54; refine (meas_m _ true _ HM).mono ?_; rintro e w1 ⟨rfl, hb1⟩; have KR1 := hid (KR0.out.step hb1); clear hb1)
      go_wp2_with (refine wpList_store_whole rfl 26 (.tmp 4) (.tmp 19) rfl w.heap.size (clC 0 0 0 none 0 0 none 0 0) rfl rfl 26 _ KR1.out.2.2 rfl (by show _ = some 5; exact size_cl) (clC_one _ _ _ _ _ _ _ _ _) ?_; intro w9 hp9 hg9; have KR9 := hid (kp_at KR1.out hg9 hp9); clear hp9 hg9)
      (try simp only [Exit.inBlock, Exit.then])
      show bodyPost Try.prog Try.f17 _ _ _ _
      refine bodyPost_ret (results_cell_slot (p := 4) (u := 5) rfl _ _ w.heap.size _ (clC 0 0 0 none 0 0 none 0 0) (0, 0) _ (.bool false) rfl rfl KR9.out.2.2 Try.underlying26 rfl (by kernel_rfl)) rfl ?_
      obtain ⟨z1, z2⟩ := HZ.out; subst z1; subst z2; exact ⟨⟨none, 0, 0, none, 0, 0, rfl, cw_nil _⟩, KR9.out.1⟩

    · have hnt : ((n : Int) == 0) = false := by simp; omega
      have hnt2 : (n == 0) = false := by simp; omega
      have HNE : Hid (¬ l = []) := hid (fun e => h0 (by rw [EL.out, e]; rfl))
      clear h0
      obtain ⟨S0, hS0⟩ : ∃ y, calc.fitV (calc.sumI (V0 l)) = y := ⟨_, rfl⟩
      obtain ⟨f0, hf0⟩ : ∃ y, calc.fitB (calc.sumI (V0 l)) = y := ⟨_, rfl⟩
      obtain ⟨M0, hM0⟩ : ∃ y, bagOf (V0 l) = y := ⟨_, rfl⟩
      obtain ⟨t0, ht0⟩ : ∃ y, M0.length = y := ⟨_, rfl⟩
      have FS0 := hid hS0
      have FF0 := hid hf0
      have FM0 := hid hM0
      have FT0 := hid ht0
      have HV0 : Hid (l.map rm0 = V0 l) := hid rfl
      clear hS0 hM0 ht0
      go_enter Try.func17, Try.ntmps17
      go_upto_region 3 with (go_at_call 54; refine (meas_m _ true _ HM).mono ?_; rintro e w1 ⟨rfl, hb1⟩; have KR1 := hid (KR0.out.step hb1); clear hb1)
      go_upto_region 4 with fail
      have KN1 : Hid (Kp w (w1.alloc (.cells #[.int .i64 (n : Int), .int .i64 0, .int .i64 0, .slice none 0 0, .slice none 0 0] 26)) w1.heap.size (.cells #[.int .i64 (n : Int), .int .i64 0, .int .i64 0, .slice none 0 0, .slice none 0 0] 26)) := hid (kp_new2 KR1.out.1 _ _ rfl)
      have hne : w.heap.size < w1.heap.size := heap_lt KR1.out.2.2
      have KR1 := hid (kp_alloc KR1.out (.cells #[.int .i64 (n : Int), .int .i64 0, .int .i64 0, .slice none 0 0, .slice none 0 0] 26))
      have HNN := hid hne
      clear hne KR0
      generalize w1.alloc (.cells #[.int .i64 (n : Int), .int .i64 0, .int .i64 0, .slice none 0 0, .slice none 0 0] 26) = W2 at KN1 KR1 ⊢
      generalize w1.heap.size = G at KN1 HNN ⊢
      go_upto_region 5 with fail
      refine wp_loop_rounds 3 ?_
      rw [rounds_succ]
      cases f0 with
      | false =>
        have HZ := hid (And.intro (hC.out.symm.trans (ofC_no (ofB_s0 hf0))) (hv.out.symm.trans (ofB_s0 hf0)))
        clear hf0
        have hm0 : (0 : Int) < m := by omega
        have hm0d : decide ((0 : Int) < m) = true := decide_eq_true hm0
        go_upto_region 10 with (first
          | (go_at_call 55; refine (vals0_m _ _ _ l (V0 l) _ (HL.out.below KN1.out.1) hn HV0).mono ?_; rintro e w3 ⟨⟨A3, c3, rfl, hr3, _⟩, hb3⟩; have R3 := hid hr3; have KR3 := hid (KR1.out.step hb3); clear hr3 hb3)
          | (go_at_call 27; refine (total_n _ _ _ (V0 l) S0 false _ R3.out I0.out hn FS0 FF0).mono ?_; rintro e w4 ⟨rfl, hb4⟩; have KR4 := hid (KR3.out.step hb4); clear hb4))
        go_wp2_with (refine wpList_store_whole rfl 26 (.tmp 4) (.tmp 37) rfl w.heap.size (clC 0 0 0 none 0 0 none 0 0) rfl rfl 26 _ KR4.out.2.2 rfl (by show _ = some 5; exact size_cl) (clC_one _ _ _ _ _ _ _ _ _) ?_; intro w9 hp9 hg9; have KR9 := hid (kp_at KR4.out hg9 hp9); clear hp9 hg9)
        (try simp only [Exit.inBlock, Exit.then])
        show bodyPost Try.prog Try.f17 _ _ _ _
        refine bodyPost_ret (results_cell_slot (p := 4) (u := 5) rfl _ _ w.heap.size _ (clC 0 0 0 none 0 0 none 0 0) (0, 0) _ (.bool false) rfl rfl KR9.out.2.2 Try.underlying26 rfl (by kernel_rfl)) rfl ?_
        obtain ⟨z1, z2⟩ := HZ.out; subst z1; subst z2; exact ⟨⟨none, 0, 0, none, 0, 0, rfl, cw_nil _⟩, KR9.out.1⟩

      | true =>
        rcases hm with rfl | rfl
        · skip
          have HC : Hid (C = ofR 1 l) := hid (hC.out.symm.trans (ofC_yes (ofB_iff.2 ⟨.inl rfl, HNE.out, hf0, .inl rfl⟩)))
          have HVv : Hid (v = true) := hid (hv.out.symm.trans (ofB_iff.2 ⟨.inl rfl, HNE.out, hf0, .inl rfl⟩))
          have HS0 : Hid (S0 = calc.sumI (V0 l)) := hid (FS0.out.symm.trans (fitV_yes hf0))
          clear hf0
          go_upto_region 11 with (first
            | (go_at_call 55; refine (vals0_m _ _ _ l (V0 l) _ (HL.out.below KN1.out.1) hn HV0).mono ?_; rintro e w1 ⟨⟨A1, c1, rfl, hr, hf⟩, hb⟩; have R1 := hid (if_of hr hf (heap_lt KN1.out.2.2)); have KRa := hid (KR1.out.step hb); have KNa := hid (KN1.out.step hb); clear hr hb hf)
            | (go_at_call 27; refine (total_n _ _ _ (V0 l) S0 true _ R1.out.1 I0.out hn FS0 FF0).mono ?_; rintro e w1b ⟨rfl, hb⟩; have R1b := hid (R1.out.below hb); have KRb := hid (KRa.out.step hb); have KNb := hid (KNa.out.step hb); clear hb))
          have fz := kp_froz KNb.out 1
          have cz := kp_cell (j := 1) (v := .int .i64 0) KNb.out rfl
          go_upto_region 12 with fail
          clear fz cz
          have R1c := hid (R1b.out.gr (set_grown w1b G 1 (.int .i64 S0)) (Nat.le_refl _))
          have KNc : Hid (Kp w _ G (.cells #[.int .i64 (n : Int), .int .i64 S0, .int .i64 0, (.slice none 0 0), (.slice none 0 0)] 26)) := hid (kp_set (j := 1) (v := .int .i64 S0) KNb.out)
          have KRc := hid (kp_other (j := 1) (v := .int .i64 S0) KRb.out (Nat.ne_of_lt HNN.out) (Nat.le_of_lt HNN.out))
          generalize (w1b.setCell ⟨G, 1, none⟩ (.int .i64 S0)) = W1c at R1c KNc KRc ⊢
          clear R1 R1b KNa KNb KRa KRb
          go_upto_region 13 with (go_at_call 56; refine (of_n _ _ _ t0 (V0 l) M0 _ R1c.out.1 hn FM0 FT0).mono ?_; rintro e w1d ⟨⟨A1m, c1m, rfl, hr, hf⟩, hb⟩; have X0d := hid (nf_of hr hf (heap_lt KNc.out.2.2)); have KRd := hid (KRc.out.step hb); have KNd := hid (KNc.out.step hb); have fz := kp_froz KNd.out 3; have cz := kp_cell (j := 3) (v := .slice none 0 0) KNd.out rfl; clear hr hb hf)
          clear fz cz
          have X0 := hid (X0d.out.gr (set_grown w1d G 3 (.slice A1m t0 c1m)) (Nat.le_refl _))
          have KN2 : Hid (Kp w _ G (.cells #[.int .i64 (n : Int), .int .i64 S0, .int .i64 0, (.slice A1m t0 c1m), (.slice none 0 0)] 26)) := hid (kp_set (j := 3) (v := .slice A1m t0 c1m) KNd.out)
          have KR2 := hid (kp_other (j := 3) (v := .slice A1m t0 c1m) KRd.out (Nat.ne_of_lt HNN.out) (Nat.le_of_lt HNN.out))
          generalize (w1d.setCell ⟨G, 3, none⟩ (.slice A1m t0 c1m)) = W2 at X0 KN2 KR2 ⊢
          clear R1c X0d KNc KNd KRc KRd
          go_wp2
          rw [rounds_succ]
          obtain ⟨d0, d1, d2, d3, d4⟩ := box_five KN2.out.2.2
          go_wp2_with (refine wpList_store_whole rfl 26 (.tmp 4) (.tmp 48) rfl w.heap.size (clC (n : Int) S0 0 A1m t0 c1m none 0 0) rfl rfl 26 _ KR2.out.2.2 rfl (by show _ = some 5; exact size_cl) (clC_one _ _ _ _ _ _ _ _ _) ?_; intro w9 hp9 hg9; have KR9 := hid (kp_at KR2.out hg9 hp9); have X09 := hid (X0.out.gr hg9 (Nat.le_of_lt HNN.out)); clear hp9 hg9)
          (try simp only [Exit.inBlock, Exit.then])
          show bodyPost Try.prog Try.f17 _ _ _ _
          refine bodyPost_ret (results_cell_slot (p := 4) (u := 5) rfl _ _ w.heap.size _ (clC (n : Int) S0 0 A1m t0 c1m none 0 0) (0, 0) _ (.bool true) rfl rfl KR9.out.2.2 Try.underlying26 rfl (by kernel_rfl)) rfl ?_
          have e1 : C = ⟨(n : Int), S0, 0, M0, []⟩ := by rw [HC.out, HS0.out, ← FM0.out, EL.out]; rfl
          have e2 := HVv.out
          subst e1
          subst e2
          exact ⟨⟨_, _, _, _, _, _, rfl, X09.out.1, nrun_nil _⟩, KR9.out.1⟩
        · skip
          obtain ⟨S1, hS1⟩ : ∃ y, calc.fitV (calc.sumI (V1 l)) = y := ⟨_, rfl⟩
          obtain ⟨f1, hf1⟩ : ∃ y, calc.fitB (calc.sumI (V1 l)) = y := ⟨_, rfl⟩
          obtain ⟨M1, hM1⟩ : ∃ y, bagOf (V1 l) = y := ⟨_, rfl⟩
          obtain ⟨t1, ht1⟩ : ∃ y, M1.length = y := ⟨_, rfl⟩
          have FS1 := hid hS1
          have FF1 := hid hf1
          have FM1 := hid hM1
          have FT1 := hid ht1
          have HV1 : Hid (l.map rm1 = V1 l) := hid rfl
          have HS0 : Hid (S0 = calc.sumI (V0 l)) := hid (FS0.out.symm.trans (fitV_yes hf0))
          clear hS1 hM1 ht1
          go_upto_region 11 with (first
            | (go_at_call 55; refine (vals0_m _ _ _ l (V0 l) _ (HL.out.below KN1.out.1) hn HV0).mono ?_; rintro e w1 ⟨⟨A1, c1, rfl, hr, hf⟩, hb⟩; have R1 := hid (if_of hr hf (heap_lt KN1.out.2.2)); have KRa := hid (KR1.out.step hb); have KNa := hid (KN1.out.step hb); clear hr hb hf)
            | (go_at_call 27; refine (total_n _ _ _ (V0 l) S0 true _ R1.out.1 I0.out hn FS0 FF0).mono ?_; rintro e w1b ⟨rfl, hb⟩; have R1b := hid (R1.out.below hb); have KRb := hid (KRa.out.step hb); have KNb := hid (KNa.out.step hb); clear hb))
          have fz := kp_froz KNb.out 1
          have cz := kp_cell (j := 1) (v := .int .i64 0) KNb.out rfl
          go_upto_region 12 with fail
          clear fz cz
          have R1c := hid (R1b.out.gr (set_grown w1b G 1 (.int .i64 S0)) (Nat.le_refl _))
          have KNc : Hid (Kp w _ G (.cells #[.int .i64 (n : Int), .int .i64 S0, .int .i64 0, (.slice none 0 0), (.slice none 0 0)] 26)) := hid (kp_set (j := 1) (v := .int .i64 S0) KNb.out)
          have KRc := hid (kp_other (j := 1) (v := .int .i64 S0) KRb.out (Nat.ne_of_lt HNN.out) (Nat.le_of_lt HNN.out))
          generalize (w1b.setCell ⟨G, 1, none⟩ (.int .i64 S0)) = W1c at R1c KNc KRc ⊢
          clear R1 R1b KNa KNb KRa KRb
          go_upto_region 13 with (go_at_call 56; refine (of_n _ _ _ t0 (V0 l) M0 _ R1c.out.1 hn FM0 FT0).mono ?_; rintro e w1d ⟨⟨A1m, c1m, rfl, hr, hf⟩, hb⟩; have X0d := hid (nf_of hr hf (heap_lt KNc.out.2.2)); have KRd := hid (KRc.out.step hb); have KNd := hid (KNc.out.step hb); have fz := kp_froz KNd.out 3; have cz := kp_cell (j := 3) (v := .slice none 0 0) KNd.out rfl; clear hr hb hf)
          clear fz cz
          have X0 := hid (X0d.out.gr (set_grown w1d G 3 (.slice A1m t0 c1m)) (Nat.le_refl _))
          have KN2 : Hid (Kp w _ G (.cells #[.int .i64 (n : Int), .int .i64 S0, .int .i64 0, (.slice A1m t0 c1m), (.slice none 0 0)] 26)) := hid (kp_set (j := 3) (v := .slice A1m t0 c1m) KNd.out)
          have KR2 := hid (kp_other (j := 3) (v := .slice A1m t0 c1m) KRd.out (Nat.ne_of_lt HNN.out) (Nat.le_of_lt HNN.out))
          generalize (w1d.setCell ⟨G, 3, none⟩ (.slice A1m t0 c1m)) = W2 at X0 KN2 KR2 ⊢
          clear R1c X0d KNc KNd KRc KRd
          go_wp2
          rw [rounds_succ]
          cases f1 with
          | false =>
            have HZ := hid (And.intro (hC.out.symm.trans (ofC_no (ofB_s1 hf1))) (hv.out.symm.trans (ofB_s1 hf1)))
            clear hf0 hf1
            go_upto_region 10 with (first
              | (go_at_call 55; refine (vals1_m _ _ _ l (V1 l) _ (HL.out.below KN2.out.1) hn HV1).mono ?_; rintro e w3 ⟨⟨A3, c3, rfl, hr3, _⟩, hb3⟩; have R3 := hid hr3; have KR3 := hid (KR2.out.step hb3); clear hr3 hb3)
              | (go_at_call 27; refine (total_n _ _ _ (V1 l) S1 false _ R3.out I1.out hn FS1 FF1).mono ?_; rintro e w4 ⟨rfl, hb4⟩; have KR4 := hid (KR3.out.step hb4); clear hb4))
            go_wp2_with (refine wpList_store_whole rfl 26 (.tmp 4) (.tmp 37) rfl w.heap.size (clC 0 0 0 none 0 0 none 0 0) rfl rfl 26 _ KR4.out.2.2 rfl (by show _ = some 5; exact size_cl) (clC_one _ _ _ _ _ _ _ _ _) ?_; intro w9 hp9 hg9; have KR9 := hid (kp_at KR4.out hg9 hp9); clear hp9 hg9)
            (try simp only [Exit.inBlock, Exit.then])
            show bodyPost Try.prog Try.f17 _ _ _ _
            refine bodyPost_ret (results_cell_slot (p := 4) (u := 5) rfl _ _ w.heap.size _ (clC 0 0 0 none 0 0 none 0 0) (0, 0) _ (.bool false) rfl rfl KR9.out.2.2 Try.underlying26 rfl (by kernel_rfl)) rfl ?_
            obtain ⟨z1, z2⟩ := HZ.out; subst z1; subst z2; exact ⟨⟨none, 0, 0, none, 0, 0, rfl, cw_nil _⟩, KR9.out.1⟩
          | true =>
            have HC : Hid (C = ofR 2 l) := hid (hC.out.symm.trans (ofC_yes (ofB_iff.2 ⟨.inr rfl, HNE.out, hf0, .inr hf1⟩)))
            have HVv : Hid (v = true) := hid (hv.out.symm.trans (ofB_iff.2 ⟨.inr rfl, HNE.out, hf0, .inr hf1⟩))
            have HS1 : Hid (S1 = calc.sumI (V1 l)) := hid (FS1.out.symm.trans (fitV_yes hf1))
            clear hf0 hf1
            go_upto_region 11 with (first
              | (go_at_call 55; refine (vals1_m _ _ _ l (V1 l) _ (HL.out.below KN2.out.1) hn HV1).mono ?_; rintro e w2 ⟨⟨A2, c2, rfl, hr, hf⟩, hb⟩; have R2 := hid (if_of hr hf (heap_lt KN2.out.2.2)); have KRa := hid (KR2.out.step hb); have KNa := hid (KN2.out.step hb); have X0a := hid (X0.out.below hb); clear hr hb hf)
              | (go_at_call 27; refine (total_n _ _ _ (V1 l) S1 true _ R2.out.1 I1.out hn FS1 FF1).mono ?_; rintro e w2b ⟨rfl, hb⟩; have R2b := hid (R2.out.below hb); have KRb := hid (KRa.out.step hb); have KNb := hid (KNa.out.step hb); have X0b := hid (X0a.out.below hb); clear hb))
            have fz := kp_froz KNb.out 2
            have cz := kp_cell (j := 2) (v := .int .i64 0) KNb.out rfl
            go_upto_region 12 with fail
            clear fz cz
            have R2c := hid (R2b.out.gr (set_grown w2b G 2 (.int .i64 S1)) (Nat.le_refl _))
            have KNc : Hid (Kp w _ G (.cells #[.int .i64 (n : Int), .int .i64 S0, .int .i64 S1, (.slice A1m t0 c1m), (.slice none 0 0)] 26)) := hid (kp_set (j := 2) (v := .int .i64 S1) KNb.out)
            have KRc := hid (kp_other (j := 2) (v := .int .i64 S1) KRb.out (Nat.ne_of_lt HNN.out) (Nat.le_of_lt HNN.out))
            have X0c := hid (X0b.out.gr (set_grown w2b G 2 (.int .i64 S1)) (Nat.le_refl _))
            generalize (w2b.setCell ⟨G, 2, none⟩ (.int .i64 S1)) = W2c at R2c KNc KRc X0c ⊢
            clear R2 R2b KNa KNb KRa KRb X0 X0a X0b
            go_upto_region 13 with (go_at_call 56; refine (of_n _ _ _ t1 (V1 l) M1 _ R2c.out.1 hn FM1 FT1).mono ?_; rintro e w2d ⟨⟨A2m, c2m, rfl, hr, hf⟩, hb⟩; have X1d := hid (nf_of hr hf (heap_lt KNc.out.2.2)); have KRd := hid (KRc.out.step hb); have KNd := hid (KNc.out.step hb); have X0d := hid (X0c.out.below hb); have fz := kp_froz KNd.out 4; have cz := kp_cell (j := 4) (v := .slice none 0 0) KNd.out rfl; clear hr hb hf)
            clear fz cz
            have X1 := hid (X1d.out.gr (set_grown w2d G 4 (.slice A2m t1 c2m)) (Nat.le_refl _))
            have KN3 : Hid (Kp w _ G (.cells #[.int .i64 (n : Int), .int .i64 S0, .int .i64 S1, (.slice A1m t0 c1m), (.slice A2m t1 c2m)] 26)) := hid (kp_set (j := 4) (v := .slice A2m t1 c2m) KNd.out)
            have KR3 := hid (kp_other (j := 4) (v := .slice A2m t1 c2m) KRd.out (Nat.ne_of_lt HNN.out) (Nat.le_of_lt HNN.out))
            have X0 := hid (X0d.out.gr (set_grown w2d G 4 (.slice A2m t1 c2m)) (Nat.le_refl _))
            generalize (w2d.setCell ⟨G, 4, none⟩ (.slice A2m t1 c2m)) = W3 at X1 KN3 KR3 X0 ⊢
            clear R2c X1d KNc KNd KRc KRd X0c X0d
            go_wp2
            rw [rounds_succ]
            obtain ⟨d0, d1, d2, d3, d4⟩ := box_five KN3.out.2.2
            go_wp2_with (refine wpList_store_whole rfl 26 (.tmp 4) (.tmp 48) rfl w.heap.size (clC (n : Int) S0 S1 A1m t0 c1m A2m t1 c2m) rfl rfl 26 _ KR3.out.2.2 rfl (by show _ = some 5; exact size_cl) (clC_one _ _ _ _ _ _ _ _ _) ?_; intro w9 hp9 hg9; have KR9 := hid (kp_at KR3.out hg9 hp9); have X09 := hid (X0.out.gr hg9 (Nat.le_of_lt HNN.out)); have X19 := hid (X1.out.gr hg9 (Nat.le_of_lt HNN.out)); clear hp9 hg9)
            (try simp only [Exit.inBlock, Exit.then])
            show bodyPost Try.prog Try.f17 _ _ _ _
            refine bodyPost_ret (results_cell_slot (p := 4) (u := 5) rfl _ _ w.heap.size _ (clC (n : Int) S0 S1 A1m t0 c1m A2m t1 c2m) (0, 0) _ (.bool true) rfl rfl KR9.out.2.2 Try.underlying26 rfl (by kernel_rfl)) rfl ?_
            have e1 : C = ⟨(n : Int), S0, S1, M0, M1⟩ := by rw [HC.out, HS0.out, HS1.out, ← FM0.out, ← FM1.out, EL.out]; rfl
            have e2 := HVv.out
            subst e1
            subst e2
            exact ⟨⟨_, _, _, _, _, _, rfl, X09.out.1, X19.out.1⟩, KR9.out.1⟩
  · have HZ := hid (And.intro (hC.out.symm.trans (ofC_no (ofB_m hm))) (hv.out.symm.trans (ofB_m hm)))
    have HM : Hid ((decide (m = 1) || decide (m = 2)) = false) := hid (by simp only [Bool.or_eq_false_iff, decide_eq_false_iff_not]; omega)
    go_enter Try.func17, Try.ntmps17
    go_upto_region 2 with (go_at_call 54; refine (meas_m _ false _ HM).mono ?_; rintro e w1 ⟨rfl, hb1⟩; have KR1 := hid (KR0.out.step hb1); clear hb1)
    go_wp2_with (refine wpList_store_whole rfl 26 (.tmp 4) (.tmp 19) rfl w.heap.size (clC 0 0 0 none 0 0 none 0 0) rfl rfl 26 _ KR1.out.2.2 rfl (by show _ = some 5; exact size_cl) (clC_one _ _ _ _ _ _ _ _ _) ?_; intro w9 hp9 hg9; have KR9 := hid (kp_at KR1.out hg9 hp9); clear hp9 hg9)
    (try simp only [Exit.inBlock, Exit.then])
    show bodyPost Try.prog Try.f17 _ _ _ _
    refine bodyPost_ret (results_cell_slot (p := 4) (u := 5) rfl _ _ w.heap.size _ (clC 0 0 0 none 0 0 none 0 0) (0, 0) _ (.bool false) rfl rfl KR9.out.2.2 Try.underlying26 rfl (by kernel_rfl)) rfl ?_
    obtain ⟨z1, z2⟩ := HZ.out; subst z1; subst z2; exact ⟨⟨none, 0, 0, none, 0, 0, rfl, cw_nil _⟩, KR9.out.1⟩


end Go.Proofs.Ytjkkajhjcinalaa

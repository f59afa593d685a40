/-
  Of rows, what is told: the walk of the law CellLines.
  Conditions: as each theorem states them.
-/
import Derived.Test.YtgmnnpecihcdhaaV9
import Derived.Test.YtgmnnpecihcdhaaR9
namespace Go.Proofs.Ytgmnnpecihcdhaa
open Go.ChangeShapes Go.WideShapes Go.ChangeAt Go.RowKit
set_option linter.unusedVariables false
set_option linter.unusedSimpArgs false
set_option maxRecDepth 100000

theorem line_ok1 {l : List Rw} {x0 x1 x2 x3 : Int} (h : ofB 1 l = true) (hl : l.length ≤ 1000) : lineV 1 x0 x1 x2 x3 (ofC 1 l) = .agg (lnC x0 x1 x2 x3 l.length (calc.sumI (V0 l)) 0 (mn (bagOf (V0 l))) 0 (mx (bagOf (V0 l))) 0) := by
  rw [lineV_1 (ofC_good h hl), ofC_yes h]; rfl
theorem line_ok2 {l : List Rw} {x0 x1 x2 x3 : Int} (h : ofB 2 l = true) (hl : l.length ≤ 1000) : lineV 2 x0 x1 x2 x3 (ofC 2 l) = .agg (lnC x0 x1 x2 x3 l.length (calc.sumI (V0 l)) (calc.sumI (V1 l)) (mn (bagOf (V0 l))) (mn (bagOf (V1 l))) (mx (bagOf (V0 l))) (mx (bagOf (V1 l)))) := by
  rw [lineV_2 (ofC_good h hl), ofC_yes h]; rfl
theorem line_no {m : Int} {l : List Rw} {x0 x1 x2 x3 : Int} (h : ofB m l = false) : lineV m x0 x1 x2 x3 (ofC m l) = .agg (lnC 0 0 0 0 0 0 0 0 0 0 0) := by
  rw [ofC_no h, lineV_no (cg_cl0 m)]; rfl
theorem eqL3 (x0 x1 x2 x3 n s0 s1 a0 a1 b0 b1 : Int) (w : World) : (Op.equalIn 10000 44 (.agg #[.int .u8 x0, .int .u8 x1, .int .u8 x2, .int .u8 x3, .int .i64 n, .int .i64 s0, .int .i64 s1, .int .i64 a0, .int .i64 a1, .int .i64 b0, .int .i64 b1]) (.agg #[.int .u8 x0, .int .u8 x1, .int .u8 x2, .int .u8 x3, .int .i64 n, .int .i64 s0, .int .i64 s1, .int .i64 a0, .int .i64 a1, .int .i64 b0, .int .i64 b1])).run Try.prog w = .ok true w := eqL2 x0 x1 x2 x3 n s0 s1 a0 a1 b0 b1 w
def mnk (a : Int) (l : List Int) : Int := l.foldl min a
def mxk (a : Int) (l : List Int) : Int := l.foldl max a
theorem mnk_snoc (a x : Int) (l : List Int) : mnk a (l ++ [x]) = min (mnk a l) x := by unfold mnk; simp
theorem mxk_snoc (a x : Int) (l : List Int) : mxk a (l ++ [x]) = max (mxk a l) x := by unfold mxk; simp
theorem mnk_spec (l : List Int) (a : Int) : (mnk a l ≤ a ∧ ∀ x ∈ l, mnk a l ≤ x) ∧ (mnk a l = a ∨ mnk a l ∈ l) := by
  induction l generalizing a with
  | nil => exact ⟨⟨Int.le_refl _, fun x hx => by cases hx⟩, .inl rfl⟩
  | cons y l ih =>
    have h := ih (min a y)
    have e : mnk a (y :: l) = mnk (min a y) l := rfl
    rw [e]
    refine ⟨⟨by omega, fun x hx => ?_⟩, ?_⟩
    · rcases List.mem_cons.1 hx with rfl | hx
      · omega
      · exact h.1.2 x hx
    · rcases h.2 with g | g
      · rw [g]
        by_cases ha : a ≤ y
        · left; omega
        · right; rw [show min a y = y by omega]; simp
      · right; simp [g]
theorem mxk_spec (l : List Int) (a : Int) : (a ≤ mxk a l ∧ ∀ x ∈ l, x ≤ mxk a l) ∧ (mxk a l = a ∨ mxk a l ∈ l) := by
  induction l generalizing a with
  | nil => exact ⟨⟨Int.le_refl _, fun x hx => by cases hx⟩, .inl rfl⟩
  | cons y l ih =>
    have h := ih (max a y)
    have e : mxk a (y :: l) = mxk (max a y) l := rfl
    rw [e]
    refine ⟨⟨by omega, fun x hx => ?_⟩, ?_⟩
    · rcases List.mem_cons.1 hx with rfl | hx
      · omega
      · exact h.1.2 x hx
    · rcases h.2 with g | g
      · rw [g]
        by_cases ha : y ≤ a
        · left; omega
        · right; rw [show max a y = y by omega]; simp
      · right; simp [g]
theorem bag_has {l : List Int} {x : Int} (hx : x ∈ l) : ∃ r ∈ bagOf l, r.1 = x := by
  refine cn_pos_mem ?_
  rw [bagOf_cn]
  have hp : 0 < oc x l := by
    induction l with
    | nil => cases hx
    | cons y l ih =>
      have := (oc_bd x l).1
      simp only [oc]
      rcases List.mem_cons.1 hx with rfl | hx
      · rw [if_pos rfl]; omega
      · have := ih hx; split <;> omega
  omega
theorem mn_spec {l : List Int} (h0 : ¬ l = []) : mn (bagOf l) ∈ l ∧ ∀ x ∈ l, mn (bagOf l) ≤ x := by
  cases hb : bagOf l with
  | nil =>
    exfalso
    obtain ⟨x, hx⟩ := List.exists_mem_of_ne_nil l h0
    obtain ⟨r, hr, _⟩ := bag_has hx
    rw [hb] at hr
    cases hr
  | cons r b =>
    have hs := bagOf_srt l
    rw [hb, Srt, List.pairwise_cons] at hs
    refine ⟨bagOf_mem (r := r) (by rw [hb]; simp), fun x hx => ?_⟩
    obtain ⟨q, hq, rfl⟩ := bag_has hx
    rw [hb] at hq
    rcases List.mem_cons.1 hq with rfl | hq
    · exact Int.le_refl _
    · have := hs.1 q hq
      unfold ltR at this
      show r.1 ≤ q.1
      omega
theorem mx_spec {l : List Int} (h0 : ¬ l = []) : mx (bagOf l) ∈ l ∧ ∀ x ∈ l, x ≤ mx (bagOf l) := by
  have hne : ¬ bagOf l = [] := fun hb => by
    obtain ⟨x, hx⟩ := List.exists_mem_of_ne_nil l h0
    obtain ⟨r, hr, _⟩ := bag_has hx
    rw [hb] at hr
    cases hr
  have hpos : 0 < (bagOf l).length := List.length_pos_iff.2 hne
  obtain ⟨j, hj⟩ : ∃ j, (bagOf l).length = j + 1 := ⟨(bagOf l).length - 1, by omega⟩
  have hr := List.getElem?_eq_getElem (l := bagOf l) (i := j) (by omega)
  obtain ⟨⟨x0, x1⟩, hx⟩ : ∃ r, (bagOf l)[j]'(by omega) = r := ⟨_, rfl⟩
  rw [hx] at hr
  rw [mx_at hj hr]
  refine ⟨bagOf_mem (List.mem_of_getElem? hr), fun x hx => ?_⟩
  obtain ⟨q, hq, rfl⟩ := bag_has hx
  obtain ⟨i, hi⟩ := List.mem_iff_getElem?.1 hq
  by_cases hij : i = j
  · subst hij; rw [hi] at hr; cases hr; exact Int.le_refl _
  · have hlt : i < (bagOf l).length := (List.getElem?_eq_some_iff.1 hi).1
    have := srt_get (bagOf_srt l) hi hr (by omega)
    simp only at this
    omega
theorem mn_is {l : List Int} {h : Int} (hh : h ∈ l) : mn (bagOf l) = mnk h l := by
  have h0 : ¬ l = [] := fun e => by rw [e] at hh; cases hh
  have a := mn_spec h0
  have b := mnk_spec l h
  have c : mnk h l ∈ l := by rcases b.2 with e | e; rw [e]; exact hh; exact e
  have := a.2 _ c
  have := b.1.2 _ a.1
  omega
theorem mx_is {l : List Int} {h : Int} (hh : h ∈ l) : mx (bagOf l) = mxk h l := by
  have h0 : ¬ l = [] := fun e => by rw [e] at hh; cases hh
  have a := mx_spec h0
  have b := mxk_spec l h
  have c : mxk h l ∈ l := by rcases b.2 with e | e; rw [e]; exact hh; exact e
  have := a.2 _ c
  have := b.1.2 _ a.1
  omega
theorem line_ex (m x0 x1 x2 x3 : Int) (c : Cl) : ∃ q0 q1 q2 q3 q4 q5 q6 q7 q8 q9 q10, lineV m x0 x1 x2 x3 c = .agg (lnC q0 q1 q2 q3 q4 q5 q6 q7 q8 q9 q10) := by
  unfold lineV
  split
  · exact ⟨_, _, _, _, _, _, _, _, _, _, _, rfl⟩
  · exact ⟨_, _, _, _, _, _, _, _, _, _, _, rfl⟩
theorem kp_low {w wr w' : World} {N base : Nat} {o : Obj} (h : Kp w wr N o) (hb : Below base wr w') (hN : N < base) (hw : w.heap.size ≤ base) : Kp w w' N o := ⟨h.1.trans (hb.mono hw), h.2.1, (hb.block N hN).trans h.2.2⟩
theorem irow_nil_own (w : World) (base : Nat) : w.ownsRow base 2 1 (.slice none 0 0) 0 (vals .i64 []) := ⟨rfl, .inl ⟨rfl, rfl⟩⟩
theorem lnC_inj {q0 q1 q2 q3 q4 q5 q6 q7 q8 q9 q10 r0 r1 r2 r3 r4 r5 r6 r7 r8 r9 r10 : Int} (h : Value.agg (lnC q0 q1 q2 q3 q4 q5 q6 q7 q8 q9 q10) = .agg (lnC r0 r1 r2 r3 r4 r5 r6 r7 r8 r9 r10)) :
    q0 = r0 ∧ q1 = r1 ∧ q2 = r2 ∧ q3 = r3 ∧ q4 = r4 ∧ q5 = r5 ∧ q6 = r6 ∧ q7 = r7 ∧ q8 = r8 ∧ q9 = r9 ∧ q10 = r10 := by
  simp only [Value.agg.injEq, Array.mk.injEq, List.cons.injEq, Value.int.injEq, true_and, and_true] at h
  exact h

set_option maxHeartbeats 64000000 in
theorem lines_walk (t : Bool) (a : Option Addr) (n c : Nat) (l : List Rw) (x0 x1 x2 x3 : Int) (w : World) (hl : RRow w a n c l) (hkl : ∀ r ∈ l, rok r) :
    Calls Try.prog 5 #[.bool t, .slice a n c, .agg #[.int .u8 x0, .int .u8 x1, .int .u8 x2, .int .u8 x3]] w fun e w' => e = .returned (.bool true) ∧ Below w.heap.size w w' := by
  have HL := hid hl
  have KL := hid hkl
  obtain ⟨l1, l2⟩ := hl.lens
  have EL := hid l1
  have I0 := hid (V0_i64 hkl)
  have I1 := hid (V1_i64 hkl)
  have eql := eqL3
  clear hl hkl l1
  by_cases hbig : 60 < n
  · have hd1 : decide ((60 : Int) < (n : Int)) = true := decide_eq_true (by omega)
    have hi1 : (60 : Int) < (n : Int) := by omega
    have KA := hid (kp_new w (.cells #[.int .u8 x0, .int .u8 x1, .int .u8 x2, .int .u8 x3] 28))
    go_enter Try.func5, Try.ntmps5
    go_wp2_with (go_at_call 15; refine (wakes_any _).mono ?_; rintro e wz ⟨rfl, hb⟩; replace KA := hid (KA.out.step hb); clear hb)
    go_ret
    exact ⟨rfl, KA.out.1⟩
  · have hd1 : decide ((60 : Int) < (n : Int)) = false := decide_eq_false (by omega)
    have n1 : n ≤ 1000 := by omega
    obtain ⟨M, hM⟩ : ∃ y : Int, (if t then (2 : Int) else 1) = y := ⟨_, rfl⟩
    have HM := hid hM
    have M12 := hid (many_12 t M hM)
    obtain ⟨C, hC⟩ : ∃ y, ofC M l = y := ⟨_, rfl⟩
    obtain ⟨v, hv⟩ : ∃ y, ofB M l = y := ⟨_, rfl⟩
    have EC := hid hC
    have EV := hid hv
    have OC : Hid (okc C) := hid (by rw [← hC]; exact ofC_ok KL.out (by have := EL.out; omega))
    obtain ⟨q0, q1, q2, q3, q4, q5, q6, q7, q8, q9, q10, hq⟩ := line_ex M x0 x1 x2 x3 C
    have HQ : Hid (lineV M x0 x1 x2 x3 C = .agg #[.int .u8 q0, .int .u8 q1, .int .u8 q2, .int .u8 q3, .int .i64 q4, .int .i64 q5, .int .i64 q6, .int .i64 q7, .int .i64 q8, .int .i64 q9, .int .i64 q10]) := hid hq
    clear hM hC hv hq hbig
    by_cases hn : n = 0
    · have nt : ((n : Int) == 0) = true := by simp [hn]
      have nt2 : (n == 0) = true := by simp [hn]
      have le : l = [] := List.length_eq_zero_iff.mp (by have := EL.out; omega)
      have hv : ofB M l = false := by rw [le]; exact ofB_e
      have hvv : v = false := EV.out.symm.trans hv
      have e := HQ.out.symm
      rw [← EC.out, line_no hv] at e
      obtain ⟨z0, z1, z2, z3, z4, z5, z6, z7, z8, z9, z10⟩ := lnC_inj e
      subst hvv
      have HQ2 : Hid (lineV M x0 x1 x2 x3 C = .agg #[.int .u8 0, .int .u8 0, .int .u8 0, .int .u8 0, .int .i64 0, .int .i64 0, .int .i64 0, .int .i64 0, .int .i64 0, .int .i64 0, .int .i64 0]) := hid (by have h := HQ.out; rw [z0, z1, z2, z3, z4, z5, z6, z7, z8, z9, z10] at h; exact h)
      clear hn le hv e z0 z1 z2 z3 z4 z5 z6 z7 z8 z9 z10 HQ
      go_enter Try.func5, Try.ntmps5
      go_upto_region 1 with fail
      have KA := hid (kp_new w (.cells #[.int .u8 x0, .int .u8 x1, .int .u8 x2, .int .u8 x3] 28))
      generalize w.alloc (.cells #[.int .u8 x0, .int .u8 x1, .int .u8 x2, .int .u8 x3] 28) = W1 at KA ⊢
      go_upto_region 5 with (first
        | (go_at_call 26; refine (many_m t M _ HM).mono ?_; rintro e w1 ⟨rfl, hw⟩; have hw2 := hw.symm; clear hw; subst hw2)
        | (go_at_call 17; refine (cof_m M _ _ _ l C false _ (HL.out.below KA.out.1) KL.out n1 EC EV).mono ?_; rintro e w2 ⟨⟨a0, p0, k0, a1, p1, k1, rfl, hcw⟩, hb⟩; have X1 := hid hcw; replace KA := hid (KA.out.step hb); clear hcw hb))
      have KC : Hid (Kp w (w2.alloc (.cells #[.int .i64 C.n, .int .i64 C.s0, .int .i64 C.s1, .slice a0 p0 k0, .slice a1 p1 k1] 26)) w2.heap.size (.cells #[.int .i64 C.n, .int .i64 C.s0, .int .i64 C.s1, .slice a0 p0 k0, .slice a1 p1 k1] 26)) := hid (kp_new2 KA.out.1 _ _ rfl)
      replace KA := hid (kp_alloc KA.out (.cells #[.int .i64 C.n, .int .i64 C.s0, .int .i64 C.s1, .slice a0 p0 k0, .slice a1 p1 k1] 26))
      replace X1 := hid (X1.out.below (b1alloc w2 (.cells #[.int .i64 C.n, .int .i64 C.s0, .int .i64 C.s1, .slice a0 p0 k0, .slice a1 p1 k1] 26)))
      generalize w2.alloc (.cells #[.int .i64 C.n, .int .i64 C.s0, .int .i64 C.s1, .slice a0 p0 k0, .slice a1 p1 k1] 26) = W2 at KA KC X1 ⊢
      generalize w2.heap.size = NC at KC ⊢
      obtain ⟨c0, c1, c2, c3, c4⟩ := box_five KC.out.2.2
      obtain ⟨e0, e1, e2, e3⟩ := box_four KA.out.2.2
      go_upto_region 6 with (go_at_call 21; refine (cline_m M x0 x1 x2 x3 C _ _ _ _ _ _ _ _ X1.out OC.out HQ2).mono ?_; rintro e w3 ⟨rfl, hb⟩; replace KA := hid (KA.out.step hb); clear hb c0 c1 c2 c3 c4 e0 e1 e2 e3 X1 KC)
      have KX : Hid (Kp w (w3.alloc (.cells #[.int .u8 0, .int .u8 0, .int .u8 0, .int .u8 0, .int .i64 0, .int .i64 0, .int .i64 0, .int .i64 0, .int .i64 0, .int .i64 0, .int .i64 0] 44)) w3.heap.size (.cells #[.int .u8 0, .int .u8 0, .int .u8 0, .int .u8 0, .int .i64 0, .int .i64 0, .int .i64 0, .int .i64 0, .int .i64 0, .int .i64 0, .int .i64 0] 44)) := hid (kp_new2 KA.out.1 _ _ rfl)
      replace KA := hid (kp_alloc KA.out (.cells #[.int .u8 0, .int .u8 0, .int .u8 0, .int .u8 0, .int .i64 0, .int .i64 0, .int .i64 0, .int .i64 0, .int .i64 0, .int .i64 0, .int .i64 0] 44))
      generalize w3.alloc (.cells #[.int .u8 0, .int .u8 0, .int .u8 0, .int .u8 0, .int .i64 0, .int .i64 0, .int .i64 0, .int .i64 0, .int .i64 0, .int .i64 0, .int .i64 0] 44) = W3 at KA KX ⊢
      generalize w3.heap.size = NX at KX ⊢
      obtain ⟨f0, f1, f2, f3, f4, f5, f6, f7, f8, f9, f10⟩ := box_elf KX.out.2.2
      go_wp2_with (go_at_call 15; refine (wakes_any _).mono ?_; rintro e wz ⟨rfl, hb⟩; replace KA := hid (KA.out.step hb); clear hb)
      go_ret
      exact ⟨rfl, KA.out.1⟩
    · have nt : ((n : Int) == 0) = false := by simp; omega
      have nt2 : (n == 0) = false := by simp; omega
      have hn0 : 0 < n := by omega
      have hni : (0 : Int) < (n : Int) := by omega
      have HNE : Hid (¬ l = []) := hid (fun e => hn (by rw [EL.out, e]; rfl))
      clear hn
      obtain ⟨S0, hS0⟩ : ∃ y, calc.fitV (calc.sumI (V0 l)) = y := ⟨_, rfl⟩
      obtain ⟨u0, hu0⟩ : ∃ y, calc.fitB (calc.sumI (V0 l)) = y := ⟨_, rfl⟩
      obtain ⟨S1, hS1⟩ : ∃ y, calc.fitV (calc.sumI (V1 l)) = y := ⟨_, rfl⟩
      obtain ⟨u1, hu1⟩ : ∃ y, calc.fitB (calc.sumI (V1 l)) = y := ⟨_, rfl⟩
      have FS0 := hid hS0
      have FF0 := hid hu0
      have FS1 := hid hS1
      have FF1 := hid hu1
      clear hS0 hu0 hS1 hu1
      go_enter Try.func5, Try.ntmps5
      go_upto_region 1 with fail
      have KA := hid (kp_new w (.cells #[.int .u8 x0, .int .u8 x1, .int .u8 x2, .int .u8 x3] 28))
      generalize w.alloc (.cells #[.int .u8 x0, .int .u8 x1, .int .u8 x2, .int .u8 x3] 28) = W1 at KA ⊢
      go_upto_region 5 with (first
        | (go_at_call 26; refine (many_m t M _ HM).mono ?_; rintro e w1 ⟨rfl, hw⟩; have hw2 := hw.symm; clear hw; subst hw2)
        | (go_at_call 17; refine (cof_m M _ _ _ l C v _ (HL.out.below KA.out.1) KL.out n1 EC EV).mono ?_; rintro e w2 ⟨⟨a0, p0, k0, a1, p1, k1, rfl, hcw⟩, hb⟩; have X1 := hid hcw; replace KA := hid (KA.out.step hb); clear hcw hb))
      have KC : Hid (Kp w (w2.alloc (.cells #[.int .i64 C.n, .int .i64 C.s0, .int .i64 C.s1, .slice a0 p0 k0, .slice a1 p1 k1] 26)) w2.heap.size (.cells #[.int .i64 C.n, .int .i64 C.s0, .int .i64 C.s1, .slice a0 p0 k0, .slice a1 p1 k1] 26)) := hid (kp_new2 KA.out.1 _ _ rfl)
      replace KA := hid (kp_alloc KA.out (.cells #[.int .i64 C.n, .int .i64 C.s0, .int .i64 C.s1, .slice a0 p0 k0, .slice a1 p1 k1] 26))
      replace X1 := hid (X1.out.below (b1alloc w2 (.cells #[.int .i64 C.n, .int .i64 C.s0, .int .i64 C.s1, .slice a0 p0 k0, .slice a1 p1 k1] 26)))
      generalize w2.alloc (.cells #[.int .i64 C.n, .int .i64 C.s0, .int .i64 C.s1, .slice a0 p0 k0, .slice a1 p1 k1] 26) = W2 at KA KC X1 ⊢
      generalize w2.heap.size = NC at KC ⊢
      obtain ⟨c0, c1, c2, c3, c4⟩ := box_five KC.out.2.2
      obtain ⟨e0, e1, e2, e3⟩ := box_four KA.out.2.2
      go_upto_region 6 with (go_at_call 21; refine (cline_m M x0 x1 x2 x3 C _ _ _ _ _ _ _ _ X1.out OC.out HQ).mono ?_; rintro e w3 ⟨rfl, hb⟩; replace KA := hid (KA.out.step hb); clear hb c0 c1 c2 c3 c4 e0 e1 e2 e3 X1 KC)
      have KX : Hid (Kp w (w3.alloc (.cells #[.int .u8 q0, .int .u8 q1, .int .u8 q2, .int .u8 q3, .int .i64 q4, .int .i64 q5, .int .i64 q6, .int .i64 q7, .int .i64 q8, .int .i64 q9, .int .i64 q10] 44)) w3.heap.size (.cells #[.int .u8 q0, .int .u8 q1, .int .u8 q2, .int .u8 q3, .int .i64 q4, .int .i64 q5, .int .i64 q6, .int .i64 q7, .int .i64 q8, .int .i64 q9, .int .i64 q10] 44)) := hid (kp_new2 KA.out.1 _ _ rfl)
      replace KA := hid (kp_alloc KA.out (.cells #[.int .u8 q0, .int .u8 q1, .int .u8 q2, .int .u8 q3, .int .i64 q4, .int .i64 q5, .int .i64 q6, .int .i64 q7, .int .i64 q8, .int .i64 q9, .int .i64 q10] 44))
      generalize w3.alloc (.cells #[.int .u8 q0, .int .u8 q1, .int .u8 q2, .int .u8 q3, .int .i64 q4, .int .i64 q5, .int .i64 q6, .int .i64 q7, .int .i64 q8, .int .i64 q9, .int .i64 q10] 44) = W3 at KA KX ⊢
      generalize w3.heap.size = NX at KX ⊢
      obtain ⟨e0, e1, e2, e3⟩ := box_four KA.out.2.2
      go_upto_region 9 with fail
      have hna := heap_lt KA.out.2.2
      have hnx := heap_lt KX.out.2.2
      have HNY := hid (And.intro hna hnx)
      have KY : Hid (Kp w (W3.alloc (.cells #[.int .u8 x0, .int .u8 x1, .int .u8 x2, .int .u8 x3, .int .i64 (n : Int), .int .i64 0, .int .i64 0, .int .i64 0, .int .i64 0, .int .i64 0, .int .i64 0] 44)) W3.heap.size (.cells #[.int .u8 x0, .int .u8 x1, .int .u8 x2, .int .u8 x3, .int .i64 (n : Int), .int .i64 0, .int .i64 0, .int .i64 0, .int .i64 0, .int .i64 0, .int .i64 0] 44)) := hid (kp_new2 KA.out.1 _ _ rfl)
      replace KA := hid (kp_alloc KA.out (.cells #[.int .u8 x0, .int .u8 x1, .int .u8 x2, .int .u8 x3, .int .i64 (n : Int), .int .i64 0, .int .i64 0, .int .i64 0, .int .i64 0, .int .i64 0, .int .i64 0] 44))
      replace KX := hid (kp_alloc KX.out (.cells #[.int .u8 x0, .int .u8 x1, .int .u8 x2, .int .u8 x3, .int .i64 (n : Int), .int .i64 0, .int .i64 0, .int .i64 0, .int .i64 0, .int .i64 0, .int .i64 0] 44))
      clear hna hnx e0 e1 e2 e3
      generalize W3.alloc (.cells #[.int .u8 x0, .int .u8 x1, .int .u8 x2, .int .u8 x3, .int .i64 (n : Int), .int .i64 0, .int .i64 0, .int .i64 0, .int .i64 0, .int .i64 0, .int .i64 0] 44) = W4 at KA KX KY ⊢
      generalize W3.heap.size = NY at KY HNY ⊢
      go_upto_region 11 with fail
      refine wp_loop_rounds 3 ?_
      rw [rounds_succ]
      rcases M12.out with em | em
      · subst em
        clear M12 HM
        obtain ⟨bb, oo, r0, r1, r2, r3, m0, m1, ea, hbb, hr, e0, e1, e2, e3, e4, e5⟩ := HL.out.pick KA.out.1 (k := 0) hn0
        simp only [Nat.zero_mul, Nat.add_zero] at e4
        cases ea
        have HH : Hid (m0 ∈ V0 l) := hid (by
          refine List.mem_of_getElem? (i := 0) ?_
          unfold V0
          rw [List.getElem?_map, hr]; rfl)
        clear hr e0 e1 e2 e3 e5
        go_wp2
        go_quiet (fail)
        have hdr : Below W4.heap.size W4 (W4.drewN nq) := bdrewN (Below.refl _ _)
        clear e4
        replace KA := hid (KA.out.step hdr)
        replace KX := hid (KX.out.step hdr)
        replace KY := hid (KY.out.step hdr)
        clear hdr
        generalize (W4.drewN nq) = WD at KA KX KY ⊢
        have hba := heap_lt KA.out.2.2
        have hbx := heap_lt KX.out.2.2
        have hby := heap_lt KY.out.2.2
        have hbw := KA.out.1.size
        obtain ⟨base, hbase⟩ : ∃ y, WD.heap.size = y := ⟨_, rfl⟩
        rw [hbase] at hba hbx hby hbw
        have HBS := hid (And.intro hba (And.intro hbx (And.intro hby hbw)))
        have HBE : Hid (base ≤ WD.heap.size) := hid (by omega)
        clear hba hbx hby hbw hbase
        go_wp2
        go_loopw [14, 15, 16, 17] (fun vv lo hi i wr => ∃ (k : Nat) (u : Value) (A0 B0 : Int), k ≤ n ∧ i = .int .i64 k ∧ u = vv ∧ lo = .int .i64 A0 ∧ hi = .int .i64 B0 ∧ Hid (A0 = mnk m0 ((V0 l).take k)) ∧ Hid (B0 = mxk m0 ((V0 l).take k)) ∧ Hid (wr.ownsRow base 2 1 u k (vals .i64 ((V0 l).take k))) ∧ Hid (base ≤ wr.heap.size) ∧ Hid (Kp w wr w.heap.size (.cells #[.int .u8 x0, .int .u8 x1, .int .u8 x2, .int .u8 x3] 28)) ∧ Hid (Kp w wr NX (.cells #[.int .u8 q0, .int .u8 q1, .int .u8 q2, .int .u8 q3, .int .i64 q4, .int .i64 q5, .int .i64 q6, .int .i64 q7, .int .i64 q8, .int .i64 q9, .int .i64 q10] 44)) ∧ Hid (Kp w wr NY (.cells #[.int .u8 x0, .int .u8 x1, .int .u8 x2, .int .u8 x3, .int .i64 (n : Int), .int .i64 0, .int .i64 0, .int .i64 0, .int .i64 0, .int .i64 0, .int .i64 0] 44))) (fun _ _ _ i _ => n - (intOf i).toNat)
        case atStart => exact ⟨0, _, m0, m0, by omega, rfl, rfl, rfl, rfl, hid rfl, hid rfl, hid (irow_nil_own _ _), HBE, KA, KX, KY⟩
        case round =>
          obtain ⟨k, u, A0, B0, hkn, rfl, rfl, rfl, rfl, HA, HB, HO, HBE, KA, KX, KY⟩ := hrel
          have hk0 : (0 : Int) ≤ (k : Int) := by omega
          by_cases hlt : k < n
          · have hki : (k : Int) < (n : Int) := by omega
            obtain ⟨b', o', r0', r1', r2', r3', m0', m1', ea, hbb', hr, e0, e1, e2, e3, e4, e5⟩ := HL.out.pick KA.out.1 hlt
            cases ea
            have hv : (V0 l)[k]? = some m0' := by unfold V0; rw [List.getElem?_map, hr]; rfl
            have hst : (V0 l).take (k + 1) = (V0 l).take k ++ [m0'] := take_one hv
            have HST := hid hst
            obtain ⟨A', hA'⟩ : ∃ y, min A0 m0' = y := ⟨_, rfl⟩
            obtain ⟨B', hB'⟩ : ∃ y, max B0 m0' = y := ⟨_, rfl⟩
            have HA2 : Hid (A' = mnk m0 ((V0 l).take (k + 1))) := hid (by rw [hst, mnk_snoc, ← HA.out, hA'])
            have HB2 : Hid (B' = mxk m0 ((V0 l).take (k + 1))) := hid (by rw [hst, mxk_snoc, ← HB.out, hB'])
            clear hr hv hst e0 e1 e2 e3 e5
            go_upto_region 19 with (at_builtin; refine append_one (k := .i64) Try.underlying51 info_i64 (by decide) rfl (.tmp 76) (.tmp 84) rfl base k _ m0' ((V0 l).take k) wr.heap.size rfl rfl HO.out rfl (by omega) HBE.out ?_; intro v7 w7 hown7 hex7 hb7; have O7 := hid hown7; have B7 := hid hb7; clear hown7 hex7 hb7)
            replace KA := hid (kp_low KA.out B7.out HBS.out.1 HBS.out.2.2.2)
            replace KX := hid (kp_low KX.out B7.out HBS.out.2.1 HBS.out.2.2.2)
            replace KY := hid (kp_low KY.out B7.out HBS.out.2.2.1 HBS.out.2.2.2)
            have HBE2 : Hid (base ≤ w7.heap.size) := hid (Nat.le_trans HBE.out B7.out.size)
            clear e4 HBE
            obtain ⟨b'', o'', r0'', r1'', r2'', r3'', m0'', m1'', ea, hbb'', hr, e0, e1, e2, e3, e4, e5⟩ := HL.out.pick KA.out.1 hlt
            cases ea
            have em : m0'' = m0' := by
              have h1 : (V0 l)[k]? = some m0'' := by unfold V0; rw [List.getElem?_map, hr]; rfl
              have h2 : ((V0 l).take (k + 1))[k]? = some m0'' := by rw [List.getElem?_take, if_pos (by omega)]; exact h1
              rw [HST.out] at h2
              have hl2 : ((V0 l).take k).length = k := by rw [List.length_take, V0_len]; have := EL.out; omega
              rw [List.getElem?_append_right (by omega), hl2] at h2
              simp at h2
              exact h2.symm
            rw [em] at e4
            clear hr em e0 e1 e2 e3 e5
            go_quiet (fail)
            have hdr : Below w7.heap.size w7 (w7.drewN nq) := bdrewN (Below.refl _ _)
            replace KA := hid (KA.out.step hdr)
            replace KX := hid (KX.out.step hdr)
            replace KY := hid (KY.out.step hdr)
            have O8 : Hid ((w7.drewN nq).ownsRow base 2 1 v7 (k + 1) (vals .i64 ((V0 l).take (k + 1)))) := hid (by rw [HST.out]; exact O7.out)
            replace HBE2 : Hid (base ≤ (w7.drewN nq).heap.size) := hid (Nat.le_trans HBE2.out hdr.size)
            clear hdr
            generalize w7.drewN nq = W8 at KA KX KY O8 HBE2 ⊢
            go_wp2
            go_roundw
            case rel => exact ⟨k + 1, v7, A', B', by omega, by go_num, rfl, rfl, rfl, HA2, HB2, O8, HBE2, KA, KX, KY⟩
            case measure => simp [intOf]; omega
          · have hkf : decide ((k : Int) < (n : Int)) = false := decide_eq_false (by omega)
            have hkf2 : decide (k < n) = false := decide_eq_false hlt
            have hkn2 : n = k := by omega
            subst hkn2
            have hfull : (V0 l).take n = V0 l := List.take_of_length_le (by rw [V0_len]; have := EL.out; omega)
            have HMN0 : Hid (A0 = mn (bagOf (V0 l))) := hid (by rw [HA.out, hfull, mn_is HH.out])
            have HMX0 : Hid (B0 = mx (bagOf (V0 l))) := hid (by rw [HB.out, hfull, mx_is HH.out])
            obtain ⟨sa, scap, esl, hrow⟩ := own_irow HO.out
            rw [hfull] at hrow
            have RW := hid hrow
            subst esl
            clear hfull hrow HO
            go_upto_region 21 with (go_at_call 27; refine (total_n _ _ _ (V0 l) S0 u0 _ RW.out I0.out n1 FS0 FF0).mono ?_; rintro e w8 ⟨rfl, hb⟩; replace KA := hid (KA.out.step hb); replace KX := hid (KX.out.step hb); replace KY := hid (KY.out.step hb); clear hb)
            have fz0 := kp_froz KY.out 5
            have fz1 := kp_froz KY.out 7
            have fz2 := kp_froz KY.out 9
            have cz0 := kp_cell (j := 5) (v := .int .i64 0) KY.out rfl
            have cz1 := kp_cell (j := 7) (v := .int .i64 0) KY.out rfl
            have cz2 := kp_cell (j := 9) (v := .int .i64 0) KY.out rfl
            go_upto_region 12 with fail
            replace KY : Hid (Kp w _ NY (.cells #[.int .u8 x0, .int .u8 x1, .int .u8 x2, .int .u8 x3, .int .i64 (n : Int), .int .i64 S0, .int .i64 0, .int .i64 A0, .int .i64 0, .int .i64 B0, .int .i64 0] 44)) := hid (kp_set (j := 9) (v := .int .i64 B0) (kp_set (j := 7) (v := .int .i64 A0) (kp_set (j := 5) (v := .int .i64 S0) KY.out)))
            replace KA := hid (kp_other (M := NY) (j := 9) (v := .int .i64 B0) (kp_other (M := NY) (j := 7) (v := .int .i64 A0) (kp_other (M := NY) (j := 5) (v := .int .i64 S0) KA.out (Nat.ne_of_lt HNY.out.1) (Nat.le_of_lt HNY.out.1)) (Nat.ne_of_lt HNY.out.1) (Nat.le_of_lt HNY.out.1)) (Nat.ne_of_lt HNY.out.1) (Nat.le_of_lt HNY.out.1))
            replace KX := hid (kp_other (M := NY) (j := 9) (v := .int .i64 B0) (kp_other (M := NY) (j := 7) (v := .int .i64 A0) (kp_other (M := NY) (j := 5) (v := .int .i64 S0) KX.out (Nat.ne_of_lt HNY.out.2) (Nat.le_of_lt HNY.out.1)) (Nat.ne_of_lt HNY.out.2) (Nat.le_of_lt HNY.out.1)) (Nat.ne_of_lt HNY.out.2) (Nat.le_of_lt HNY.out.1))
            clear fz0 fz1 fz2 cz0 cz1 cz2 RW
            generalize (((w8.setCell ⟨NY, 5, none⟩ (.int .i64 S0)).setCell ⟨NY, 7, none⟩ (.int .i64 A0)).setCell ⟨NY, 9, none⟩ (.int .i64 B0)) = W9 at KA KX KY ⊢
            go_wp2
            rw [rounds_succ]
            cases u0 with
            | true =>
              have hv : ofB 1 l = true := ofB_iff.2 ⟨.inl rfl, HNE.out, FF0.out, .inl rfl⟩
              have hvv : v = true := EV.out.symm.trans hv
              have e := HQ.out.symm
              rw [← EC.out, line_ok1 hv (by have := EL.out; omega), ← EL.out, (show calc.sumI (V0 l) = S0 from by have h := FS0.out; rw [fitV_yes FF0.out] at h; exact h), ← HMN0.out, ← HMX0.out] at e
              obtain ⟨z0, z1, z2, z3, z4, z5, z6, z7, z8, z9, z10⟩ := lnC_inj e
              have KXX := KX.out
              rw [z0, z1, z2, z3, z4, z5, z6, z7, z8, z9, z10] at KXX
              have KX2 := hid KXX
              clear KX KXX z0 z1 z2 z3 z4 z5 z6 z7 z8 z9 z10 e hv
              subst hvv
              obtain ⟨f0, f1, f2, f3, f4, f5, f6, f7, f8, f9, f10⟩ := box_elf KX2.out.2.2
              obtain ⟨g0, g1, g2, g3, g4, g5, g6, g7, g8, g9, g10⟩ := box_elf KY.out.2.2
              go_wp2_with (go_at_call 15; refine (wakes_any _).mono ?_; rintro e wz ⟨rfl, hb⟩; replace KA := hid (KA.out.step hb); clear hb)
              go_ret
              exact ⟨rfl, KA.out.1⟩
            | false =>
              have hv : ofB 1 l = false := ofB_s0 FF0.out
              have hvv : v = false := EV.out.symm.trans hv
              have e := HQ.out.symm
              rw [← EC.out, line_no hv] at e
              obtain ⟨z0, z1, z2, z3, z4, z5, z6, z7, z8, z9, z10⟩ := lnC_inj e
              have KXX := KX.out
              rw [z0, z1, z2, z3, z4, z5, z6, z7, z8, z9, z10] at KXX
              have KX2 := hid KXX
              clear KX KXX z0 z1 z2 z3 z4 z5 z6 z7 z8 z9 z10 e hv
              subst hvv
              go_upto_region 25 with (refine wpList_store_whole rfl 44 (.tmp 11) (.tmp 127) rfl NY (lnC 0 0 0 0 0 0 0 0 0 0 0) rfl rfl 44 _ KY.out.2.2 rfl (by show _ = some 11; exact size_ln) (lnC_one _ _ _ _ _ _ _ _ _ _ _) ?_; intro w9 hp9 hg9; have KY2 := hid (kp_at KY.out hg9 hp9); replace KA := hid (kp_gr KA.out hg9 (Nat.ne_of_lt HNY.out.1) (Nat.le_of_lt HNY.out.1)); replace KX2 := hid (kp_gr KX2.out hg9 (Nat.ne_of_lt HNY.out.2) (Nat.le_of_lt HNY.out.1)); clear hp9 hg9)
              obtain ⟨f0, f1, f2, f3, f4, f5, f6, f7, f8, f9, f10⟩ := box_elf KX2.out.2.2
              obtain ⟨g0, g1, g2, g3, g4, g5, g6, g7, g8, g9, g10⟩ := box_elf KY2.out.2.2
              go_wp2_with (go_at_call 15; refine (wakes_any _).mono ?_; rintro e wz ⟨rfl, hb⟩; replace KA := hid (KA.out.step hb); clear hb)
              go_ret
              exact ⟨rfl, KA.out.1⟩
      · subst em
        clear M12 HM
        obtain ⟨bb, oo, r0, r1, r2, r3, m0, m1, ea, hbb, hr, e0, e1, e2, e3, e4, e5⟩ := HL.out.pick KA.out.1 (k := 0) hn0
        simp only [Nat.zero_mul, Nat.add_zero] at e4
        cases ea
        have HH : Hid (m0 ∈ V0 l) := hid (by
          refine List.mem_of_getElem? (i := 0) ?_
          unfold V0
          rw [List.getElem?_map, hr]; rfl)
        clear hr e0 e1 e2 e3 e5
        go_wp2
        go_quiet (fail)
        have hdr : Below W4.heap.size W4 (W4.drewN nq) := bdrewN (Below.refl _ _)
        clear e4
        replace KA := hid (KA.out.step hdr)
        replace KX := hid (KX.out.step hdr)
        replace KY := hid (KY.out.step hdr)
        clear hdr
        generalize (W4.drewN nq) = WD at KA KX KY ⊢
        have hba := heap_lt KA.out.2.2
        have hbx := heap_lt KX.out.2.2
        have hby := heap_lt KY.out.2.2
        have hbw := KA.out.1.size
        obtain ⟨base, hbase⟩ : ∃ y, WD.heap.size = y := ⟨_, rfl⟩
        rw [hbase] at hba hbx hby hbw
        have HBS := hid (And.intro hba (And.intro hbx (And.intro hby hbw)))
        have HBE : Hid (base ≤ WD.heap.size) := hid (by omega)
        clear hba hbx hby hbw hbase
        go_wp2
        go_loopw [14, 15, 16, 17] (fun vv lo hi i wr => ∃ (k : Nat) (u : Value) (A0 B0 : Int), k ≤ n ∧ i = .int .i64 k ∧ u = vv ∧ lo = .int .i64 A0 ∧ hi = .int .i64 B0 ∧ Hid (A0 = mnk m0 ((V0 l).take k)) ∧ Hid (B0 = mxk m0 ((V0 l).take k)) ∧ Hid (wr.ownsRow base 2 1 u k (vals .i64 ((V0 l).take k))) ∧ Hid (base ≤ wr.heap.size) ∧ Hid (Kp w wr w.heap.size (.cells #[.int .u8 x0, .int .u8 x1, .int .u8 x2, .int .u8 x3] 28)) ∧ Hid (Kp w wr NX (.cells #[.int .u8 q0, .int .u8 q1, .int .u8 q2, .int .u8 q3, .int .i64 q4, .int .i64 q5, .int .i64 q6, .int .i64 q7, .int .i64 q8, .int .i64 q9, .int .i64 q10] 44)) ∧ Hid (Kp w wr NY (.cells #[.int .u8 x0, .int .u8 x1, .int .u8 x2, .int .u8 x3, .int .i64 (n : Int), .int .i64 0, .int .i64 0, .int .i64 0, .int .i64 0, .int .i64 0, .int .i64 0] 44))) (fun _ _ _ i _ => n - (intOf i).toNat)
        case atStart => exact ⟨0, _, m0, m0, by omega, rfl, rfl, rfl, rfl, hid rfl, hid rfl, hid (irow_nil_own _ _), HBE, KA, KX, KY⟩
        case round =>
          obtain ⟨k, u, A0, B0, hkn, rfl, rfl, rfl, rfl, HA, HB, HO, HBE, KA, KX, KY⟩ := hrel
          have hk0 : (0 : Int) ≤ (k : Int) := by omega
          by_cases hlt : k < n
          · have hki : (k : Int) < (n : Int) := by omega
            obtain ⟨b', o', r0', r1', r2', r3', m0', m1', ea, hbb', hr, e0, e1, e2, e3, e4, e5⟩ := HL.out.pick KA.out.1 hlt
            cases ea
            have hv : (V0 l)[k]? = some m0' := by unfold V0; rw [List.getElem?_map, hr]; rfl
            have hst : (V0 l).take (k + 1) = (V0 l).take k ++ [m0'] := take_one hv
            have HST := hid hst
            obtain ⟨A', hA'⟩ : ∃ y, min A0 m0' = y := ⟨_, rfl⟩
            obtain ⟨B', hB'⟩ : ∃ y, max B0 m0' = y := ⟨_, rfl⟩
            have HA2 : Hid (A' = mnk m0 ((V0 l).take (k + 1))) := hid (by rw [hst, mnk_snoc, ← HA.out, hA'])
            have HB2 : Hid (B' = mxk m0 ((V0 l).take (k + 1))) := hid (by rw [hst, mxk_snoc, ← HB.out, hB'])
            clear hr hv hst e0 e1 e2 e3 e5
            go_upto_region 19 with (at_builtin; refine append_one (k := .i64) Try.underlying51 info_i64 (by decide) rfl (.tmp 76) (.tmp 84) rfl base k _ m0' ((V0 l).take k) wr.heap.size rfl rfl HO.out rfl (by omega) HBE.out ?_; intro v7 w7 hown7 hex7 hb7; have O7 := hid hown7; have B7 := hid hb7; clear hown7 hex7 hb7)
            replace KA := hid (kp_low KA.out B7.out HBS.out.1 HBS.out.2.2.2)
            replace KX := hid (kp_low KX.out B7.out HBS.out.2.1 HBS.out.2.2.2)
            replace KY := hid (kp_low KY.out B7.out HBS.out.2.2.1 HBS.out.2.2.2)
            have HBE2 : Hid (base ≤ w7.heap.size) := hid (Nat.le_trans HBE.out B7.out.size)
            clear e4 HBE
            obtain ⟨b'', o'', r0'', r1'', r2'', r3'', m0'', m1'', ea, hbb'', hr, e0, e1, e2, e3, e4, e5⟩ := HL.out.pick KA.out.1 hlt
            cases ea
            have em : m0'' = m0' := by
              have h1 : (V0 l)[k]? = some m0'' := by unfold V0; rw [List.getElem?_map, hr]; rfl
              have h2 : ((V0 l).take (k + 1))[k]? = some m0'' := by rw [List.getElem?_take, if_pos (by omega)]; exact h1
              rw [HST.out] at h2
              have hl2 : ((V0 l).take k).length = k := by rw [List.length_take, V0_len]; have := EL.out; omega
              rw [List.getElem?_append_right (by omega), hl2] at h2
              simp at h2
              exact h2.symm
            rw [em] at e4
            clear hr em e0 e1 e2 e3 e5
            go_quiet (fail)
            have hdr : Below w7.heap.size w7 (w7.drewN nq) := bdrewN (Below.refl _ _)
            replace KA := hid (KA.out.step hdr)
            replace KX := hid (KX.out.step hdr)
            replace KY := hid (KY.out.step hdr)
            have O8 : Hid ((w7.drewN nq).ownsRow base 2 1 v7 (k + 1) (vals .i64 ((V0 l).take (k + 1)))) := hid (by rw [HST.out]; exact O7.out)
            replace HBE2 : Hid (base ≤ (w7.drewN nq).heap.size) := hid (Nat.le_trans HBE2.out hdr.size)
            clear hdr
            generalize w7.drewN nq = W8 at KA KX KY O8 HBE2 ⊢
            go_wp2
            go_roundw
            case rel => exact ⟨k + 1, v7, A', B', by omega, by go_num, rfl, rfl, rfl, HA2, HB2, O8, HBE2, KA, KX, KY⟩
            case measure => simp [intOf]; omega
          · have hkf : decide ((k : Int) < (n : Int)) = false := decide_eq_false (by omega)
            have hkf2 : decide (k < n) = false := decide_eq_false hlt
            have hkn2 : n = k := by omega
            subst hkn2
            have hfull : (V0 l).take n = V0 l := List.take_of_length_le (by rw [V0_len]; have := EL.out; omega)
            have HMN0 : Hid (A0 = mn (bagOf (V0 l))) := hid (by rw [HA.out, hfull, mn_is HH.out])
            have HMX0 : Hid (B0 = mx (bagOf (V0 l))) := hid (by rw [HB.out, hfull, mx_is HH.out])
            obtain ⟨sa, scap, esl, hrow⟩ := own_irow HO.out
            rw [hfull] at hrow
            have RW := hid hrow
            subst esl
            clear hfull hrow HO
            go_upto_region 21 with (go_at_call 27; refine (total_n _ _ _ (V0 l) S0 u0 _ RW.out I0.out n1 FS0 FF0).mono ?_; rintro e w8 ⟨rfl, hb⟩; replace KA := hid (KA.out.step hb); replace KX := hid (KX.out.step hb); replace KY := hid (KY.out.step hb); clear hb)
            have fz0 := kp_froz KY.out 5
            have fz1 := kp_froz KY.out 7
            have fz2 := kp_froz KY.out 9
            have cz0 := kp_cell (j := 5) (v := .int .i64 0) KY.out rfl
            have cz1 := kp_cell (j := 7) (v := .int .i64 0) KY.out rfl
            have cz2 := kp_cell (j := 9) (v := .int .i64 0) KY.out rfl
            go_upto_region 12 with fail
            replace KY : Hid (Kp w _ NY (.cells #[.int .u8 x0, .int .u8 x1, .int .u8 x2, .int .u8 x3, .int .i64 (n : Int), .int .i64 S0, .int .i64 0, .int .i64 A0, .int .i64 0, .int .i64 B0, .int .i64 0] 44)) := hid (kp_set (j := 9) (v := .int .i64 B0) (kp_set (j := 7) (v := .int .i64 A0) (kp_set (j := 5) (v := .int .i64 S0) KY.out)))
            replace KA := hid (kp_other (M := NY) (j := 9) (v := .int .i64 B0) (kp_other (M := NY) (j := 7) (v := .int .i64 A0) (kp_other (M := NY) (j := 5) (v := .int .i64 S0) KA.out (Nat.ne_of_lt HNY.out.1) (Nat.le_of_lt HNY.out.1)) (Nat.ne_of_lt HNY.out.1) (Nat.le_of_lt HNY.out.1)) (Nat.ne_of_lt HNY.out.1) (Nat.le_of_lt HNY.out.1))
            replace KX := hid (kp_other (M := NY) (j := 9) (v := .int .i64 B0) (kp_other (M := NY) (j := 7) (v := .int .i64 A0) (kp_other (M := NY) (j := 5) (v := .int .i64 S0) KX.out (Nat.ne_of_lt HNY.out.2) (Nat.le_of_lt HNY.out.1)) (Nat.ne_of_lt HNY.out.2) (Nat.le_of_lt HNY.out.1)) (Nat.ne_of_lt HNY.out.2) (Nat.le_of_lt HNY.out.1))
            clear fz0 fz1 fz2 cz0 cz1 cz2 RW
            generalize (((w8.setCell ⟨NY, 5, none⟩ (.int .i64 S0)).setCell ⟨NY, 7, none⟩ (.int .i64 A0)).setCell ⟨NY, 9, none⟩ (.int .i64 B0)) = W9 at KA KX KY ⊢
            go_wp2
            rw [rounds_succ]
            obtain ⟨bb, oo, r0, r1, r2, r3, m0, m1, ea, hbb, hr, e0, e1, e2, e3, e4, e5⟩ := HL.out.pick KA.out.1 (k := 0) hn0
            simp only [Nat.zero_mul, Nat.add_zero] at e5
            cases ea
            have HH : Hid (m1 ∈ V1 l) := hid (by
              refine List.mem_of_getElem? (i := 0) ?_
              unfold V1
              rw [List.getElem?_map, hr]; rfl)
            clear hr e0 e1 e2 e3 e4
            go_wp2
            go_quiet (fail)
            have hdr : Below W9.heap.size W9 (W9.drewN nq) := bdrewN (Below.refl _ _)
            clear e5
            replace KA := hid (KA.out.step hdr)
            replace KX := hid (KX.out.step hdr)
            replace KY := hid (KY.out.step hdr)
            clear hdr
            generalize (W9.drewN nq) = WD at KA KX KY ⊢
            have hba := heap_lt KA.out.2.2
            have hbx := heap_lt KX.out.2.2
            have hby := heap_lt KY.out.2.2
            have hbw := KA.out.1.size
            obtain ⟨base, hbase⟩ : ∃ y, WD.heap.size = y := ⟨_, rfl⟩
            rw [hbase] at hba hbx hby hbw
            have HBS := hid (And.intro hba (And.intro hbx (And.intro hby hbw)))
            have HBE : Hid (base ≤ WD.heap.size) := hid (by omega)
            clear hba hbx hby hbw hbase
            go_wp2
            go_loopw [14, 15, 16, 17] (fun vv lo hi i wr => ∃ (k : Nat) (u : Value) (A1 B1 : Int), k ≤ n ∧ i = .int .i64 k ∧ u = vv ∧ lo = .int .i64 A1 ∧ hi = .int .i64 B1 ∧ Hid (A1 = mnk m1 ((V1 l).take k)) ∧ Hid (B1 = mxk m1 ((V1 l).take k)) ∧ Hid (wr.ownsRow base 2 1 u k (vals .i64 ((V1 l).take k))) ∧ Hid (base ≤ wr.heap.size) ∧ Hid (Kp w wr w.heap.size (.cells #[.int .u8 x0, .int .u8 x1, .int .u8 x2, .int .u8 x3] 28)) ∧ Hid (Kp w wr NX (.cells #[.int .u8 q0, .int .u8 q1, .int .u8 q2, .int .u8 q3, .int .i64 q4, .int .i64 q5, .int .i64 q6, .int .i64 q7, .int .i64 q8, .int .i64 q9, .int .i64 q10] 44)) ∧ Hid (Kp w wr NY (.cells #[.int .u8 x0, .int .u8 x1, .int .u8 x2, .int .u8 x3, .int .i64 (n : Int), .int .i64 S0, .int .i64 0, .int .i64 A0, .int .i64 0, .int .i64 B0, .int .i64 0] 44))) (fun _ _ _ i _ => n - (intOf i).toNat)
            case atStart => exact ⟨0, _, m1, m1, by omega, rfl, rfl, rfl, rfl, hid rfl, hid rfl, hid (irow_nil_own _ _), HBE, KA, KX, KY⟩
            case round =>
              obtain ⟨k, u, A1, B1, hkn, rfl, rfl, rfl, rfl, HA, HB, HO, HBE, KA, KX, KY⟩ := hrel
              have hk0 : (0 : Int) ≤ (k : Int) := by omega
              by_cases hlt : k < n
              · have hki : (k : Int) < (n : Int) := by omega
                obtain ⟨b', o', r0', r1', r2', r3', m0', m1', ea, hbb', hr, e0, e1, e2, e3, e4, e5⟩ := HL.out.pick KA.out.1 hlt
                cases ea
                have hv : (V1 l)[k]? = some m1' := by unfold V1; rw [List.getElem?_map, hr]; rfl
                have hst : (V1 l).take (k + 1) = (V1 l).take k ++ [m1'] := take_one hv
                have HST := hid hst
                obtain ⟨A', hA'⟩ : ∃ y, min A1 m1' = y := ⟨_, rfl⟩
                obtain ⟨B', hB'⟩ : ∃ y, max B1 m1' = y := ⟨_, rfl⟩
                have HA2 : Hid (A' = mnk m1 ((V1 l).take (k + 1))) := hid (by rw [hst, mnk_snoc, ← HA.out, hA'])
                have HB2 : Hid (B' = mxk m1 ((V1 l).take (k + 1))) := hid (by rw [hst, mxk_snoc, ← HB.out, hB'])
                clear hr hv hst e0 e1 e2 e3 e4
                go_upto_region 19 with (at_builtin; refine append_one (k := .i64) Try.underlying51 info_i64 (by decide) rfl (.tmp 76) (.tmp 84) rfl base k _ m1' ((V1 l).take k) wr.heap.size rfl rfl HO.out rfl (by omega) HBE.out ?_; intro v7 w7 hown7 hex7 hb7; have O7 := hid hown7; have B7 := hid hb7; clear hown7 hex7 hb7)
                replace KA := hid (kp_low KA.out B7.out HBS.out.1 HBS.out.2.2.2)
                replace KX := hid (kp_low KX.out B7.out HBS.out.2.1 HBS.out.2.2.2)
                replace KY := hid (kp_low KY.out B7.out HBS.out.2.2.1 HBS.out.2.2.2)
                have HBE2 : Hid (base ≤ w7.heap.size) := hid (Nat.le_trans HBE.out B7.out.size)
                clear e5 HBE
                obtain ⟨b'', o'', r0'', r1'', r2'', r3'', m0'', m1'', ea, hbb'', hr, e0, e1, e2, e3, e4, e5⟩ := HL.out.pick KA.out.1 hlt
                cases ea
                have em : m1'' = m1' := by
                  have h1 : (V1 l)[k]? = some m1'' := by unfold V1; rw [List.getElem?_map, hr]; rfl
                  have h2 : ((V1 l).take (k + 1))[k]? = some m1'' := by rw [List.getElem?_take, if_pos (by omega)]; exact h1
                  rw [HST.out] at h2
                  have hl2 : ((V1 l).take k).length = k := by rw [List.length_take, V1_len]; have := EL.out; omega
                  rw [List.getElem?_append_right (by omega), hl2] at h2
                  simp at h2
                  exact h2.symm
                rw [em] at e5
                clear hr em e0 e1 e2 e3 e4
                go_quiet (fail)
                have hdr : Below w7.heap.size w7 (w7.drewN nq) := bdrewN (Below.refl _ _)
                replace KA := hid (KA.out.step hdr)
                replace KX := hid (KX.out.step hdr)
                replace KY := hid (KY.out.step hdr)
                have O8 : Hid ((w7.drewN nq).ownsRow base 2 1 v7 (k + 1) (vals .i64 ((V1 l).take (k + 1)))) := hid (by rw [HST.out]; exact O7.out)
                replace HBE2 : Hid (base ≤ (w7.drewN nq).heap.size) := hid (Nat.le_trans HBE2.out hdr.size)
                clear hdr
                generalize w7.drewN nq = W8 at KA KX KY O8 HBE2 ⊢
                go_wp2
                go_roundw
                case rel => exact ⟨k + 1, v7, A', B', by omega, by go_num, rfl, rfl, rfl, HA2, HB2, O8, HBE2, KA, KX, KY⟩
                case measure => simp [intOf]; omega
              · have hkf : decide ((k : Int) < (n : Int)) = false := decide_eq_false (by omega)
                have hkf2 : decide (k < n) = false := decide_eq_false hlt
                have hkn2 : n = k := by omega
                subst hkn2
                have hfull : (V1 l).take n = V1 l := List.take_of_length_le (by rw [V1_len]; have := EL.out; omega)
                have HMN1 : Hid (A1 = mn (bagOf (V1 l))) := hid (by rw [HA.out, hfull, mn_is HH.out])
                have HMX1 : Hid (B1 = mx (bagOf (V1 l))) := hid (by rw [HB.out, hfull, mx_is HH.out])
                obtain ⟨sa, scap, esl, hrow⟩ := own_irow HO.out
                rw [hfull] at hrow
                have RW := hid hrow
                subst esl
                clear hfull hrow HO
                cases u0 with
                | true =>
                  go_upto_region 21 with (go_at_call 27; refine (total_n _ _ _ (V1 l) S1 u1 _ RW.out I1.out n1 FS1 FF1).mono ?_; rintro e w8 ⟨rfl, hb⟩; replace KA := hid (KA.out.step hb); replace KX := hid (KX.out.step hb); replace KY := hid (KY.out.step hb); clear hb)
                  have fz0 := kp_froz KY.out 6
                  have fz1 := kp_froz KY.out 8
                  have fz2 := kp_froz KY.out 10
                  have cz0 := kp_cell (j := 6) (v := .int .i64 0) KY.out rfl
                  have cz1 := kp_cell (j := 8) (v := .int .i64 0) KY.out rfl
                  have cz2 := kp_cell (j := 10) (v := .int .i64 0) KY.out rfl
                  go_upto_region 12 with fail
                  replace KY : Hid (Kp w _ NY (.cells #[.int .u8 x0, .int .u8 x1, .int .u8 x2, .int .u8 x3, .int .i64 (n : Int), .int .i64 S0, .int .i64 S1, .int .i64 A0, .int .i64 A1, .int .i64 B0, .int .i64 B1] 44)) := hid (kp_set (j := 10) (v := .int .i64 B1) (kp_set (j := 8) (v := .int .i64 A1) (kp_set (j := 6) (v := .int .i64 S1) KY.out)))
                  replace KA := hid (kp_other (M := NY) (j := 10) (v := .int .i64 B1) (kp_other (M := NY) (j := 8) (v := .int .i64 A1) (kp_other (M := NY) (j := 6) (v := .int .i64 S1) KA.out (Nat.ne_of_lt HNY.out.1) (Nat.le_of_lt HNY.out.1)) (Nat.ne_of_lt HNY.out.1) (Nat.le_of_lt HNY.out.1)) (Nat.ne_of_lt HNY.out.1) (Nat.le_of_lt HNY.out.1))
                  replace KX := hid (kp_other (M := NY) (j := 10) (v := .int .i64 B1) (kp_other (M := NY) (j := 8) (v := .int .i64 A1) (kp_other (M := NY) (j := 6) (v := .int .i64 S1) KX.out (Nat.ne_of_lt HNY.out.2) (Nat.le_of_lt HNY.out.1)) (Nat.ne_of_lt HNY.out.2) (Nat.le_of_lt HNY.out.1)) (Nat.ne_of_lt HNY.out.2) (Nat.le_of_lt HNY.out.1))
                  clear fz0 fz1 fz2 cz0 cz1 cz2 RW
                  generalize (((w8.setCell ⟨NY, 6, none⟩ (.int .i64 S1)).setCell ⟨NY, 8, none⟩ (.int .i64 A1)).setCell ⟨NY, 10, none⟩ (.int .i64 B1)) = W9 at KA KX KY ⊢
                  go_wp2
                  rw [rounds_succ]
                  cases u1 with
                  | true =>
                    have hv : ofB 2 l = true := ofB_iff.2 ⟨.inr rfl, HNE.out, FF0.out, .inr FF1.out⟩
                    have hvv : v = true := EV.out.symm.trans hv
                    have e := HQ.out.symm
                    rw [← EC.out, line_ok2 hv (by have := EL.out; omega), ← EL.out, (show calc.sumI (V0 l) = S0 from by have h := FS0.out; rw [fitV_yes FF0.out] at h; exact h), ← HMN0.out, ← HMX0.out, (show calc.sumI (V1 l) = S1 from by have h := FS1.out; rw [fitV_yes FF1.out] at h; exact h), ← HMN1.out, ← HMX1.out] at e
                    obtain ⟨z0, z1, z2, z3, z4, z5, z6, z7, z8, z9, z10⟩ := lnC_inj e
                    have KXX := KX.out
                    rw [z0, z1, z2, z3, z4, z5, z6, z7, z8, z9, z10] at KXX
                    have KX2 := hid KXX
                    clear KX KXX z0 z1 z2 z3 z4 z5 z6 z7 z8 z9 z10 e hv
                    subst hvv
                    obtain ⟨f0, f1, f2, f3, f4, f5, f6, f7, f8, f9, f10⟩ := box_elf KX2.out.2.2
                    obtain ⟨g0, g1, g2, g3, g4, g5, g6, g7, g8, g9, g10⟩ := box_elf KY.out.2.2
                    go_wp2_with (go_at_call 15; refine (wakes_any _).mono ?_; rintro e wz ⟨rfl, hb⟩; replace KA := hid (KA.out.step hb); clear hb)
                    go_ret
                    exact ⟨rfl, KA.out.1⟩
                  | false =>
                    have hv : ofB 2 l = false := ofB_s1 FF1.out
                    have hvv : v = false := EV.out.symm.trans hv
                    have e := HQ.out.symm
                    rw [← EC.out, line_no hv] at e
                    obtain ⟨z0, z1, z2, z3, z4, z5, z6, z7, z8, z9, z10⟩ := lnC_inj e
                    have KXX := KX.out
                    rw [z0, z1, z2, z3, z4, z5, z6, z7, z8, z9, z10] at KXX
                    have KX2 := hid KXX
                    clear KX KXX z0 z1 z2 z3 z4 z5 z6 z7 z8 z9 z10 e hv
                    subst hvv
                    go_upto_region 25 with (refine wpList_store_whole rfl 44 (.tmp 11) (.tmp 127) rfl NY (lnC 0 0 0 0 0 0 0 0 0 0 0) rfl rfl 44 _ KY.out.2.2 rfl (by show _ = some 11; exact size_ln) (lnC_one _ _ _ _ _ _ _ _ _ _ _) ?_; intro w9 hp9 hg9; have KY2 := hid (kp_at KY.out hg9 hp9); replace KA := hid (kp_gr KA.out hg9 (Nat.ne_of_lt HNY.out.1) (Nat.le_of_lt HNY.out.1)); replace KX2 := hid (kp_gr KX2.out hg9 (Nat.ne_of_lt HNY.out.2) (Nat.le_of_lt HNY.out.1)); clear hp9 hg9)
                    obtain ⟨f0, f1, f2, f3, f4, f5, f6, f7, f8, f9, f10⟩ := box_elf KX2.out.2.2
                    obtain ⟨g0, g1, g2, g3, g4, g5, g6, g7, g8, g9, g10⟩ := box_elf KY2.out.2.2
                    go_wp2_with (go_at_call 15; refine (wakes_any _).mono ?_; rintro e wz ⟨rfl, hb⟩; replace KA := hid (KA.out.step hb); clear hb)
                    go_ret
                    exact ⟨rfl, KA.out.1⟩
                | false =>
                  go_upto_region 21 with (go_at_call 27; refine (total_n _ _ _ (V1 l) S1 u1 _ RW.out I1.out n1 FS1 FF1).mono ?_; rintro e w8 ⟨rfl, hb⟩; replace KA := hid (KA.out.step hb); replace KX := hid (KX.out.step hb); replace KY := hid (KY.out.step hb); clear hb)
                  have fz0 := kp_froz KY.out 6
                  have fz1 := kp_froz KY.out 8
                  have fz2 := kp_froz KY.out 10
                  have cz0 := kp_cell (j := 6) (v := .int .i64 0) KY.out rfl
                  have cz1 := kp_cell (j := 8) (v := .int .i64 0) KY.out rfl
                  have cz2 := kp_cell (j := 10) (v := .int .i64 0) KY.out rfl
                  go_upto_region 12 with fail
                  replace KY : Hid (Kp w _ NY (.cells #[.int .u8 x0, .int .u8 x1, .int .u8 x2, .int .u8 x3, .int .i64 (n : Int), .int .i64 S0, .int .i64 S1, .int .i64 A0, .int .i64 A1, .int .i64 B0, .int .i64 B1] 44)) := hid (kp_set (j := 10) (v := .int .i64 B1) (kp_set (j := 8) (v := .int .i64 A1) (kp_set (j := 6) (v := .int .i64 S1) KY.out)))
                  replace KA := hid (kp_other (M := NY) (j := 10) (v := .int .i64 B1) (kp_other (M := NY) (j := 8) (v := .int .i64 A1) (kp_other (M := NY) (j := 6) (v := .int .i64 S1) KA.out (Nat.ne_of_lt HNY.out.1) (Nat.le_of_lt HNY.out.1)) (Nat.ne_of_lt HNY.out.1) (Nat.le_of_lt HNY.out.1)) (Nat.ne_of_lt HNY.out.1) (Nat.le_of_lt HNY.out.1))
                  replace KX := hid (kp_other (M := NY) (j := 10) (v := .int .i64 B1) (kp_other (M := NY) (j := 8) (v := .int .i64 A1) (kp_other (M := NY) (j := 6) (v := .int .i64 S1) KX.out (Nat.ne_of_lt HNY.out.2) (Nat.le_of_lt HNY.out.1)) (Nat.ne_of_lt HNY.out.2) (Nat.le_of_lt HNY.out.1)) (Nat.ne_of_lt HNY.out.2) (Nat.le_of_lt HNY.out.1))
                  clear fz0 fz1 fz2 cz0 cz1 cz2 RW
                  generalize (((w8.setCell ⟨NY, 6, none⟩ (.int .i64 S1)).setCell ⟨NY, 8, none⟩ (.int .i64 A1)).setCell ⟨NY, 10, none⟩ (.int .i64 B1)) = W9 at KA KX KY ⊢
                  go_wp2
                  rw [rounds_succ]
                  cases u1 with
                  | true =>
                    have hv : ofB 2 l = false := ofB_s0 FF0.out
                    have hvv : v = false := EV.out.symm.trans hv
                    have e := HQ.out.symm
                    rw [← EC.out, line_no hv] at e
                    obtain ⟨z0, z1, z2, z3, z4, z5, z6, z7, z8, z9, z10⟩ := lnC_inj e
                    have KXX := KX.out
                    rw [z0, z1, z2, z3, z4, z5, z6, z7, z8, z9, z10] at KXX
                    have KX2 := hid KXX
                    clear KX KXX z0 z1 z2 z3 z4 z5 z6 z7 z8 z9 z10 e hv
                    subst hvv
                    go_upto_region 25 with (refine wpList_store_whole rfl 44 (.tmp 11) (.tmp 127) rfl NY (lnC 0 0 0 0 0 0 0 0 0 0 0) rfl rfl 44 _ KY.out.2.2 rfl (by show _ = some 11; exact size_ln) (lnC_one _ _ _ _ _ _ _ _ _ _ _) ?_; intro w9 hp9 hg9; have KY2 := hid (kp_at KY.out hg9 hp9); replace KA := hid (kp_gr KA.out hg9 (Nat.ne_of_lt HNY.out.1) (Nat.le_of_lt HNY.out.1)); replace KX2 := hid (kp_gr KX2.out hg9 (Nat.ne_of_lt HNY.out.2) (Nat.le_of_lt HNY.out.1)); clear hp9 hg9)
                    obtain ⟨f0, f1, f2, f3, f4, f5, f6, f7, f8, f9, f10⟩ := box_elf KX2.out.2.2
                    obtain ⟨g0, g1, g2, g3, g4, g5, g6, g7, g8, g9, g10⟩ := box_elf KY2.out.2.2
                    go_wp2_with (go_at_call 15; refine (wakes_any _).mono ?_; rintro e wz ⟨rfl, hb⟩; replace KA := hid (KA.out.step hb); clear hb)
                    go_ret
                    exact ⟨rfl, KA.out.1⟩
                  | false =>
                    have hv : ofB 2 l = false := ofB_s0 FF0.out
                    have hvv : v = false := EV.out.symm.trans hv
                    have e := HQ.out.symm
                    rw [← EC.out, line_no hv] at e
                    obtain ⟨z0, z1, z2, z3, z4, z5, z6, z7, z8, z9, z10⟩ := lnC_inj e
                    have KXX := KX.out
                    rw [z0, z1, z2, z3, z4, z5, z6, z7, z8, z9, z10] at KXX
                    have KX2 := hid KXX
                    clear KX KXX z0 z1 z2 z3 z4 z5 z6 z7 z8 z9 z10 e hv
                    subst hvv
                    go_upto_region 25 with (refine wpList_store_whole rfl 44 (.tmp 11) (.tmp 127) rfl NY (lnC 0 0 0 0 0 0 0 0 0 0 0) rfl rfl 44 _ KY.out.2.2 rfl (by show _ = some 11; exact size_ln) (lnC_one _ _ _ _ _ _ _ _ _ _ _) ?_; intro w9 hp9 hg9; have KY2 := hid (kp_at KY.out hg9 hp9); replace KA := hid (kp_gr KA.out hg9 (Nat.ne_of_lt HNY.out.1) (Nat.le_of_lt HNY.out.1)); replace KX2 := hid (kp_gr KX2.out hg9 (Nat.ne_of_lt HNY.out.2) (Nat.le_of_lt HNY.out.1)); clear hp9 hg9)
                    obtain ⟨f0, f1, f2, f3, f4, f5, f6, f7, f8, f9, f10⟩ := box_elf KX2.out.2.2
                    obtain ⟨g0, g1, g2, g3, g4, g5, g6, g7, g8, g9, g10⟩ := box_elf KY2.out.2.2
                    go_wp2_with (go_at_call 15; refine (wakes_any _).mono ?_; rintro e wz ⟨rfl, hb⟩; replace KA := hid (KA.out.step hb); clear hb)
                    go_ret
                    exact ⟨rfl, KA.out.1⟩

end Go.Proofs.Ytgmnnpecihcdhaa

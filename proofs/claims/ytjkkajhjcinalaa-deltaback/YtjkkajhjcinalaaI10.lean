/-
  Runs copied; a delta the other way round: what slices.Clone and Neg of delta return.
  Conditions: as each theorem states them.
-/
import Derived.Test.YtjkkajhjcinalaaH10
namespace Go.Proofs.Ytjkkajhjcinalaa
open Go.ChangeShapes Go.WideShapes Go.ChangeAt Go.RowKit
set_option linter.unusedVariables false
set_option linter.unusedSimpArgs false
set_option maxRecDepth 100000

theorem append_nc {w : World} {ops : Array Oper} {rest : List Oper} {o : Oper} {a : Act} {Q : Exit → Act → World → Prop} (hgd : o.guard = none) (s x : Operand)
    (ho : o.op = .call { callee := .builtin .append, args := #[s, x], argTypes := #[23, 23] }) (base g : Nat)
    (hs : a.eval s = .slice (some ⟨g, 0, none⟩) 0 0) (hown : w.ownsRow base 65 2 (.slice (some ⟨g, 0, none⟩) 0 0) 0 (ncells []))
    (ad : Addr) (m c : Nat) (ys : List Rn) (hx : a.eval x = .slice (some ad) m c) (hr : NRun w (some ad) m c ys) (hn : m ≤ 1000000) (hbase : base ≤ w.heap.size)
    (h : ∀ g' cap' w', w'.ownsRow base 65 2 (.slice (some ⟨g', 0, none⟩) m cap') m (ncells ys) → w.grownBy w' (some g) → wpList Try.prog ops Q rest (a.put o.dst (.slice (some ⟨g', 0, none⟩) m cap')) w') : wpList Try.prog ops Q (o :: rest) a w := by
  obtain ⟨i0, hi, hz0, hz1, hz2⟩ := info_parts info_nr
  refine wpList_append_own w hgd s x 23 ho base 65 i0 _ 2 16 Try.underlying23 hi hz0 hz1 hz2 rfl (by decide) _ 0 (ncells []) hs hown ad m c (ncells ys) hx (by rw [ncells_len, hr.1]) (nrun_src hr) (ncells_one _) (by unfold maxLen; omega) (by omega) hbase ?_
  intro v' w' hown' hgrow' hiff
  obtain ⟨g', cap', rfl⟩ := nown_form hown' (fun e => by have := (hiff.mp e).1; cases this)
  rw [← ncells_app, List.nil_append] at hown'
  simp only [Nat.zero_add] at hown' ⊢
  exact h g' cap' w' hown' hgrow'
set_option maxHeartbeats 4000000 in
theorem nclone_m (a : Option Addr) (n c : Nat) (l : List Rn) (w : World) (hl : NRun w a n c l) (hn : n ≤ 1000) :
    Calls Try.prog 79 #[.slice a n c] w fun e w' => (∃ A cap, e = .returned (.slice A n cap) ∧ NRun w' A n cap l ∧ Far w A) ∧ Below w.heap.size w w' := by
  cases a with
  | none =>
    obtain ⟨h1, h2, h3, h4, h5⟩ := hl
    have hc := h4 rfl
    subst hc
    obtain rfl : n = 0 := by omega
    have hl0 : l = [] := List.length_eq_zero_iff.mp h1.symm
    subst hl0
    have hnil : ∀ w, (binOp .eql 23 (.slice none 0 0) (.slice none 0 0)).run Try.prog w = .ok (.bool true) w := fun _ => by kernel_rfl
    clear h1 h2 h3 h4 h5
    go_enter Try.func79, Try.ntmps79
    go_wp2
    go_ret
    exact ⟨⟨none, 0, rfl, nrun_nil _, far_nil _⟩, Below.refl _ _⟩
  | some ad =>
    have HL := hid hl
    clear hl
    have hnil : ∀ w, (binOp .eql 23 (.slice (some ad) n c) (.slice none 0 0)).run Try.prog w = .ok (.bool false) w := fun _ => by kernel_rfl
    go_enter Try.func79, Try.ntmps79
    go_wp2_with (at_builtin; refine append_nc rfl (.tmp 5) (.tmp 6) rfl w.heap.size w.heap.size rfl (nown_made w w.heap.size (Nat.le_refl _)) ad n c l rfl (HL.out.below ((Below.refl _ _).alloc (Nat.le_refl _) _)) (by omega) (by simp) ?_; intro g1 cap1 w1 hown1 hgrow1; have O1 := hid hown1; have B1 : Below w.heap.size w w1 := ((Below.refl w.heap.size w).alloc (Nat.le_refl _) _).grown hgrow1 (by simp) (fun k hk => by cases hk; exact Nat.le_refl _); clear hown1 hgrow1)
    go_ret
    exact ⟨⟨_, cap1, rfl, own_nrun O1.out, fun b off e => by cases e; exact (O1.out.lt g1 rfl).1⟩, B1⟩
theorem dn_a {m : Int} {d : Dl} (h : dg m d = false) : dnB m d = false := by unfold dnB; rw [h]; rfl
theorem dn_eq {m : Int} {d : Dl} (g : DG m d) : dnB m d = (calc.fitB (0 - d.s0) && calc.fitB (0 - d.s1)) := by
  unfold dnB
  rw [dg_yes g, Int.zero_sub, Int.zero_sub]
  rcases g.2 with ⟨rfl, e, _, _⟩ | ⟨rfl, _⟩
  · rw [e]
    have : calc.fitB (-0) = true := by decide
    rw [this]
    simp
  · simp
theorem two_new (w : World) (o0 o1 : Obj) : Kp w ((w.alloc o0).alloc o1) w.heap.size o0 ∧ Kp w ((w.alloc o0).alloc o1) (w.heap.size + 1) o1 :=
  ⟨kp_alloc (kp_new w o0) o1, kp_new2 (b1alloc _ _) o1 _ (by simp)⟩

set_option maxHeartbeats 32000000 in
theorem dneg_m (m : Int) (d : Dl) (a0 : Option Addr) (a1 a2 : Nat) (a3 : Option Addr) (a4 a5 : Nat) (a6 : Option Addr) (a7 a8 : Nat) (a9 : Option Addr) (a10 a11 : Nat) (D : Dl) (v : Bool) (w : World) (hw : DW w a0 a1 a2 a3 a4 a5 a6 a7 a8 a9 a10 a11 d) (hk : okd d) (hp : shd d) (hC : Hid (dnC m d = D)) (hv : Hid (dnB m d = v)) :
    Calls Try.prog 36 #[.int .i64 m, (.agg #[.int .i64 d.n, .int .i64 d.s0, .int .i64 d.s1, .slice a0 a1 a2, .slice a3 a4 a5, .slice a6 a7 a8, .slice a9 a10 a11])] w fun e w' => (∃ r0 r1 r2 r3 r4 r5 r6 r7 r8 r9 r10 r11, e = .returned (.tuple #[(.agg #[.int .i64 D.n, .int .i64 D.s0, .int .i64 D.s1, .slice r0 r1 r2, .slice r3 r4 r5, .slice r6 r7 r8, .slice r9 r10 r11]), .bool v]) ∧ DW w' r0 r1 r2 r3 r4 r5 r6 r7 r8 r9 r10 r11 D ∧ DF w r0 r1 r2 r3 r4 r5 r6 r7 r8 r9 r10 r11) ∧ Below w.heap.size w w' := by
  have HW := hid hw
  have HK := hid hk
  have HP := hid hp
  clear hw hk hp
  have KK := hid (two_new w (.cells #[.int .i64 d.n, .int .i64 d.s0, .int .i64 d.s1, .slice a0 a1 a2, .slice a3 a4 a5, .slice a6 a7 a8, .slice a9 a10 a11] 68) (.cells #[.int .i64 0, .int .i64 0, .int .i64 0, .slice none 0 0, .slice none 0 0, .slice none 0 0, .slice none 0 0] 68))
  cases ga : dg m d with
  | false =>
    have GA := hid ga
    have HZ := hid (And.intro (hC.out.symm.trans (dnC_no (dn_a ga))) (hv.out.symm.trans (dn_a ga)))
    clear ga
    go_enter Try.func36, Try.ntmps36
    go_upto_region 1 with fail
    generalize (w.alloc (.cells #[.int .i64 d.n, .int .i64 d.s0, .int .i64 d.s1, .slice a0 a1 a2, .slice a3 a4 a5, .slice a6 a7 a8, .slice a9 a10 a11] 68)).alloc (.cells #[.int .i64 0, .int .i64 0, .int .i64 0, .slice none 0 0, .slice none 0 0, .slice none 0 0, .slice none 0 0] 68) = W at KK ⊢
    obtain ⟨N0, hN0⟩ : ∃ y, w.heap.size = y := ⟨_, rfl⟩
    obtain ⟨N1, hN1⟩ : ∃ y, N0 + 1 = y := ⟨_, rfl⟩
    rw [hN0, hN1] at KK
    (try rw [hN0]); (try rw [hN1])
    have HO : Hid (w.heap.size = N0 ∧ N0 < N1) := hid (by omega)
    clear hN0 hN1
    have KA := hid KK.out.1
    have KR := hid KK.out.2
    clear KK
    obtain ⟨p0, p1, p2, p3, p4, p5, p6⟩ := box_seven KA.out.2.2
    go_upto_region 2 with (go_at_call 38; refine (dgood_m _ d a0 a1 a2 a3 a4 a5 a6 a7 a8 a9 a10 a11 false _ (HW.out.below KA.out.1) HK.out HP.out GA).mono ?_; rintro e w1 ⟨rfl, hb⟩; replace KA := hid (KA.out.step hb); replace KR := hid (KR.out.step hb); clear hb p0 p1 p2 p3 p4 p5 p6; obtain ⟨p0, p1, p2, p3, p4, p5, p6⟩ := box_seven KA.out.2.2)
    go_wp2_with (refine wpList_store_whole rfl 68 (.tmp 4) (.tmp 14) rfl N1 (dlC 0 0 0 none 0 0 none 0 0 none 0 0 none 0 0) rfl rfl 68 _ KR.out.2.2 rfl (by show _ = some 7; exact size_dl) (dlC_one _ _ _ _ _ _ _ _ _ _ _ _ _ _ _) ?_; intro w9 hp9 hg9; have KR9 := hid (kp_at KR.out hg9 hp9); clear hp9 hg9)
    (try simp only [Exit.inBlock, Exit.then])
    show bodyPost Try.prog Try.f36 _ _ _ _
    refine bodyPost_ret (results_cell_slot (p := 4) (u := 5) rfl _ _ N1 _ (dlC 0 0 0 none 0 0 none 0 0 none 0 0 none 0 0) (0, 0) _ (.bool false) rfl rfl KR9.out.2.2 Try.underlying68 rfl (by kernel_rfl)) rfl ?_
    obtain ⟨q1, q2⟩ := HZ.out
    subst q1
    subst q2
    exact ⟨⟨none, 0, 0, none, 0, 0, none, 0, 0, none, 0, 0, rfl, dw_0 _, df_0 _⟩, KR9.out.1⟩
  | true =>
    have GA := hid ga
    have CA := hid (dg_iff.1 ga)
    have HE := hid (dn_eq CA.out)
    obtain ⟨na1, na2⟩ := dg_n CA.out
    have hwn : IntKind.i64.wrap (-d.n) = -d.n := IntWalk.i64_in _ (by omega)
    clear ga
    obtain ⟨Fv, hF⟩ : ∃ y, (calc.fitB (0 - d.s0) && calc.fitB (0 - d.s1)) = y := ⟨_, rfl⟩
    rw [hF] at HE
    have FF := hid hF
    clear hF
    obtain ⟨S0, hS0⟩ : ∃ y, (if Fv then 0 - d.s0 else 0) = y := ⟨_, rfl⟩
    have FS0 := hid hS0
    clear hS0
    obtain ⟨S1, hS1⟩ : ∃ y, (if Fv then 0 - d.s1 else 0) = y := ⟨_, rfl⟩
    have FS1 := hid hS1
    clear hS1
    go_enter Try.func36, Try.ntmps36
    go_upto_region 1 with fail
    generalize (w.alloc (.cells #[.int .i64 d.n, .int .i64 d.s0, .int .i64 d.s1, .slice a0 a1 a2, .slice a3 a4 a5, .slice a6 a7 a8, .slice a9 a10 a11] 68)).alloc (.cells #[.int .i64 0, .int .i64 0, .int .i64 0, .slice none 0 0, .slice none 0 0, .slice none 0 0, .slice none 0 0] 68) = W at KK ⊢
    obtain ⟨N0, hN0⟩ : ∃ y, w.heap.size = y := ⟨_, rfl⟩
    obtain ⟨N1, hN1⟩ : ∃ y, N0 + 1 = y := ⟨_, rfl⟩
    rw [hN0, hN1] at KK
    (try rw [hN0]); (try rw [hN1])
    have HO : Hid (w.heap.size = N0 ∧ N0 < N1) := hid (by omega)
    clear hN0 hN1
    have KA := hid KK.out.1
    have KR := hid KK.out.2
    clear KK
    obtain ⟨p0, p1, p2, p3, p4, p5, p6⟩ := box_seven KA.out.2.2
    go_upto_region 3 with (go_at_call 38; refine (dgood_m _ d a0 a1 a2 a3 a4 a5 a6 a7 a8 a9 a10 a11 true _ (HW.out.below KA.out.1) HK.out HP.out GA).mono ?_; rintro e w1 ⟨rfl, hb⟩; replace KA := hid (KA.out.step hb); replace KR := hid (KR.out.step hb); clear hb p0 p1 p2 p3 p4 p5 p6; obtain ⟨p0, p1, p2, p3, p4, p5, p6⟩ := box_seven KA.out.2.2)
    go_upto_region 4 with (first
      | (go_at_call 77; refine (eachSub_m 0 0 d.s0 d.s1 S0 S1 Fv _ ⟨calc.i64_0, calc.i64_0⟩ ⟨HK.out.1.2.1, HK.out.1.2.2⟩ FF FS0 FS1).mono ?_; rintro e w3 ⟨rfl, hb⟩; replace KA := hid (KA.out.step hb); replace KR := hid (KR.out.step hb); clear hb p0 p1 p2 p3 p4 p5 p6; obtain ⟨p0, p1, p2, p3, p4, p5, p6⟩ := box_seven KA.out.2.2)
      | (have KZ : Hid (Kp w (w3.alloc (.cells #[.int .i64 0, .int .i64 0] 22)) w3.heap.size (.cells #[.int .i64 0, .int .i64 0] 22)) := hid (kp_new2 KR.out.1 _ _ rfl); refine wpList_store_whole rfl 22 (.tmp 6) (.tmp 20) rfl w3.heap.size (aiC S0 S1) rfl rfl 22 _ KZ.out.2.2 rfl (by show _ = some 2; exact size_ai) (aiC_one _ _) ?_; intro w9 hp9 hg9; have K6 := hid (kp_at KZ.out hg9 hp9); have HK6 := hid (heap_lt KR.out.2.2); replace KA := hid (kp_new_gr KA.out hg9); replace KR := hid (kp_new_gr KR.out hg9); clear hp9 hg9 KZ p0 p1 p2 p3 p4 p5 p6; obtain ⟨p0, p1, p2, p3, p4, p5, p6⟩ := box_seven KA.out.2.2))
    generalize w3.heap.size = N6 at K6 HK6 ⊢
    cases Fv with
    | false =>
      have HZ := hid (And.intro (hC.out.symm.trans (dnC_no (HE.out))) (hv.out.symm.trans (HE.out)))
      go_wp2_with (refine wpList_store_whole rfl 68 (.tmp 4) (.tmp 24) rfl N1 (dlC 0 0 0 none 0 0 none 0 0 none 0 0 none 0 0) rfl rfl 68 _ KR.out.2.2 rfl (by show _ = some 7; exact size_dl) (dlC_one _ _ _ _ _ _ _ _ _ _ _ _ _ _ _) ?_; intro w9 hp9 hg9; have KR9 := hid (kp_at KR.out hg9 hp9); clear hp9 hg9)
      (try simp only [Exit.inBlock, Exit.then])
      show bodyPost Try.prog Try.f36 _ _ _ _
      refine bodyPost_ret (results_cell_slot (p := 4) (u := 5) rfl _ _ N1 _ (dlC 0 0 0 none 0 0 none 0 0 none 0 0 none 0 0) (0, 0) _ (.bool false) rfl rfl KR9.out.2.2 Try.underlying68 rfl (by kernel_rfl)) rfl ?_
      obtain ⟨q1, q2⟩ := HZ.out
      subst q1
      subst q2
      exact ⟨⟨none, 0, 0, none, 0, 0, none, 0, 0, none, 0, 0, rfl, dw_0 _, df_0 _⟩, KR9.out.1⟩
    | true =>
      have VD := hid (hC.out.symm.trans (dnC_yes HE.out))
      have VV := hid (hv.out.symm.trans HE.out)
      have ES0 : Hid (0 - d.s0 = S0) := FS0
      have ES1 : Hid (0 - d.s1 = S1) := FS1
      clear FS0 FS1
      obtain ⟨g0, g1⟩ := box_two K6.out.2.2
      rename World => wj
      go_upto_region 7 with (have KZ : Hid (Kp w (wj.alloc (.cells #[.int .i64 0, .int .i64 0, .int .i64 0, .slice none 0 0, .slice none 0 0, .slice none 0 0, .slice none 0 0] 68)) wj.heap.size (.cells #[.int .i64 0, .int .i64 0, .int .i64 0, .slice none 0 0, .slice none 0 0, .slice none 0 0, .slice none 0 0] 68)) := hid (kp_new2 KR.out.1 _ _ rfl); refine wpList_store_whole rfl 68 (.tmp 8) (.tmp 29) rfl wj.heap.size (dlC (-d.n) S0 S1 none 0 0 none 0 0 none 0 0 none 0 0) rfl rfl 68 _ KZ.out.2.2 rfl (by show _ = some 7; exact size_dl) (dlC_one _ _ _ _ _ _ _ _ _ _ _ _ _ _ _) ?_; intro w9 hp9 hg9; have KD := hid (kp_at KZ.out hg9 hp9); have HKD := hid (heap_lt KR.out.2.2); replace KA := hid (kp_new_gr KA.out hg9); replace KR := hid (kp_new_gr KR.out hg9); clear hp9 hg9 KZ p0 p1 p2 p3 p4 p5 p6 g0 g1)
      generalize wj.heap.size = N8 at KD HKD ⊢
      clear K6 HK6
      have HN : Hid (w.heap.size ≤ N0 ∧ N0 < N1 ∧ N1 < N8) := hid (by have := HO.out; have := HKD.out; omega)
      rename World => W8
      go_wp2
      refine wp_loop_rounds 3 ?_
      rw [rounds_succ]
      go_wp2
      replace KA := hid (KA.out.step (bdrew (Below.refl _ _)))
      replace KR := hid (KR.out.step (bdrew (Below.refl _ _)))
      replace KD := hid (KD.out.step (bdrew (Below.refl _ _)))
      refine wp_region_noPanic ?_
      refine wp_region_held_drew (S := fun y => y.cell? ⟨N0, 5, none⟩ = some (.slice a6 a7 a8) ∧ y.cell? ⟨N0, 3, none⟩ = some (.slice a0 a1 a2)) (by kernel_rfl) (⟨kp_cell (j := 5) (v := .slice a6 a7 a8) KA.out rfl, kp_cell (j := 3) (v := .slice a0 a1 a2) KA.out rfl⟩) (fun hHeld => ?_)
      generalize W8.drew = wd0 at KA KR KD hHeld  ⊢
      refine wpAnyH_take (i := 0) (v := ?_) (by simp only [List.getElem?_toArray, List.getElem?_cons_succ, List.getElem?_cons_zero]; exact rfl) (by kernel_rfl) (by kernel_rfl) (by kernel_rfl) (fun _ _ _ h => h) (Or.inl ⟨by rfl, ?_⟩) (by assumption) ?_
      rotate_left
      · intro w hSw
        try dsimp only at hSw
        go_simp
        try with_reducible rfl
      try simp only [Act.put, List.setIfInBounds_toArray, List.set_cons_zero, List.set_cons_succ]
      refine wpAnyH_take (i := 1) (v := ?_) (by simp only [List.getElem?_toArray, List.getElem?_cons_succ, List.getElem?_cons_zero]; exact rfl) (by kernel_rfl) (by kernel_rfl) (by kernel_rfl) (fun _ _ _ h => h) (Or.inl ⟨by rfl, ?_⟩) (by assumption) ?_
      rotate_left
      · intro w hSw
        try dsimp only at hSw
        go_simp
        try with_reducible rfl
      try simp only [Act.put, List.setIfInBounds_toArray, List.set_cons_zero, List.set_cons_succ]
      refine wpAnyH_take (i := 2) (v := ?_) (by simp only [List.getElem?_toArray, List.getElem?_cons_succ, List.getElem?_cons_zero]; exact rfl) (by kernel_rfl) (by kernel_rfl) (by kernel_rfl) (fun _ _ _ h => h) (Or.inl ⟨by rfl, ?_⟩) (by assumption) ?_
      rotate_left
      · intro w hSw
        try dsimp only at hSw
        go_simp
        try with_reducible rfl
      try simp only [Act.put, List.setIfInBounds_toArray, List.set_cons_zero, List.set_cons_succ]
      refine wpAnyH_take (i := 3) (v := ?_) (by simp only [List.getElem?_toArray, List.getElem?_cons_succ, List.getElem?_cons_zero]; exact rfl) (by kernel_rfl) (by kernel_rfl) (by kernel_rfl) (fun _ _ _ h => h) (Or.inl ⟨by rfl, ?_⟩) (by assumption) ?_
      rotate_left
      · intro w hSw
        try dsimp only at hSw
        go_simp
        try with_reducible rfl
      try simp only [Act.put, List.setIfInBounds_toArray, List.set_cons_zero, List.set_cons_succ]
      refine wpAnyH_take (i := 4) (v := ?_) (by simp only [List.getElem?_toArray, List.getElem?_cons_succ, List.getElem?_cons_zero]; exact rfl) (by kernel_rfl) (by kernel_rfl) (by kernel_rfl) (fun _ _ _ h => h) (Or.inl ⟨by rfl, ?_⟩) (by assumption) ?_
      rotate_left
      · intro w hSw
        try dsimp only at hSw
        go_simp
        try with_reducible rfl
      try simp only [Act.put, List.setIfInBounds_toArray, List.set_cons_zero, List.set_cons_succ]
      refine wpAnyH_take (i := 5) (v := ?_) (by simp only [List.getElem?_toArray, List.getElem?_cons_succ, List.getElem?_cons_zero]; exact rfl) (by kernel_rfl) (by kernel_rfl) (by kernel_rfl) (fun _ _ _ h => h) (Or.inl ⟨by rfl, ?_⟩) (by assumption) ?_
      rotate_left
      · intro w hSw
        try dsimp only at hSw
        go_simp
        try with_reducible rfl
      try simp only [Act.put, List.setIfInBounds_toArray, List.set_cons_zero, List.set_cons_succ]
      refine wpAnyH_take (i := 7) (v := ?_) (by simp only [List.getElem?_toArray, List.getElem?_cons_succ, List.getElem?_cons_zero]; exact rfl) (by kernel_rfl) (by kernel_rfl) (by kernel_rfl) (fun _ _ _ h => h) (Or.inl ⟨by rfl, ?_⟩) (by assumption) ?_
      rotate_left
      · intro w hSw
        try dsimp only at hSw
        go_simp
        try with_reducible rfl
      try simp only [Act.put, List.setIfInBounds_toArray, List.set_cons_zero, List.set_cons_succ]
      refine wpAnyH_take (i := 8) (v := ?_) (by simp only [List.getElem?_toArray, List.getElem?_cons_succ, List.getElem?_cons_zero]; exact rfl) (by kernel_rfl) (by kernel_rfl) (by kernel_rfl) (fun _ _ _ h => h) (Or.inl ⟨by rfl, ?_⟩) (by assumption) ?_
      rotate_left
      · intro w hSw
        try dsimp only at hSw
        go_simp
        try with_reducible rfl
      try simp only [Act.put, List.setIfInBounds_toArray, List.set_cons_zero, List.set_cons_succ]
      refine wpAnyH_take (i := 9) (v := ?_) (by simp only [List.getElem?_toArray, List.getElem?_cons_succ, List.getElem?_cons_zero]; exact rfl) (by kernel_rfl) (by kernel_rfl) (by kernel_rfl) (fun _ _ _ h => h) (Or.inl ⟨by rfl, ?_⟩) (by assumption) ?_
      rotate_left
      · intro w hSw
        try dsimp only at hSw
        go_simp
        try with_reducible rfl
      try simp only [Act.put, List.setIfInBounds_toArray, List.set_cons_zero, List.set_cons_succ]
      refine wpAnyH_take (i := 10) (v := ?_) (by simp only [List.getElem?_toArray, List.getElem?_cons_succ, List.getElem?_cons_zero]; exact rfl) (by kernel_rfl) (by kernel_rfl) (by kernel_rfl) (fun _ _ _ h => h) (Or.inl ⟨by rfl, ?_⟩) (by assumption) ?_
      rotate_left
      · intro w hSw
        try dsimp only at hSw
        go_simp
        try with_reducible rfl
      try simp only [Act.put, List.setIfInBounds_toArray, List.set_cons_zero, List.set_cons_succ]
      refine wpAnyH_take (i := 12) (v := ?_) (by simp only [List.getElem?_toArray, List.getElem?_cons_succ, List.getElem?_cons_zero]; exact rfl) (by kernel_rfl) (by kernel_rfl) (by kernel_rfl) (fun _ _ _ h => h) (Or.inl ⟨by rfl, ?_⟩) (by assumption) ?_
      rotate_left
      · intro w hSw
        try dsimp only at hSw
        go_simp
        try with_reducible rfl
      try simp only [Act.put, List.setIfInBounds_toArray, List.set_cons_zero, List.set_cons_succ]
      refine wpAnyH_take (i := 15) (v := ?_) (by simp only [List.getElem?_toArray, List.getElem?_cons_succ, List.getElem?_cons_zero]; exact rfl) (by kernel_rfl) (by kernel_rfl) (by kernel_rfl) (fun _ _ _ h => h) (Or.inl ⟨by rfl, ?_⟩) (by assumption) ?_
      rotate_left
      · intro w hSw
        try dsimp only at hSw
        go_simp
        try with_reducible rfl
      try simp only [Act.put, List.setIfInBounds_toArray, List.set_cons_zero, List.set_cons_succ]
      refine wpAnyH_ready (rs := [6]) (by kernel_rfl) (by simp) ?_
      refine (AllReadyH.cons (by simp only [List.getElem?_toArray, List.getElem?_cons_succ, List.getElem?_cons_zero]; exact rfl) (fun K hK => ?_) AllReadyH.nil)
      go_simp
      go_at_call 79; refine (nclone_m _ _ _ _ _ (HW.out.2.1.below KA.out.1) (by have h1 := HW.out.2.1.lens.1; have h2 := HP.out.2.1; omega)).mono ?_; rintro e cA0 ⟨⟨X0, X0c, rfl, hr, hf⟩, hb⟩
      have FX0 := hid (far_up hf (heap_lt KD.out.2.2))
      have WX0 := hid (far_low hf KD.out.1.size)
      have RX0 := hid hr
      replace KA := hid (KA.out.step hb)
      replace KR := hid (KR.out.step hb)
      replace KD := hid (KD.out.step hb)
      clear hr hf hb
      refine hK.out _ _ ⟨kp_cell (j := 5) (v := .slice a6 a7 a8) KA.out rfl, kp_cell (j := 3) (v := .slice a0 a1 a2) KA.out rfl⟩ (fun hHeld2 => ?_)
      clear hK K hHeld
      have hHeld := hHeld2
      clear hHeld2
      try simp only [Act.put, List.setIfInBounds_toArray, List.set_cons_zero, List.set_cons_succ]
      refine wpAnyH_take (i := 13) (v := ?_) (by simp only [List.getElem?_toArray, List.getElem?_cons_succ, List.getElem?_cons_zero]; exact rfl) (by kernel_rfl) (by kernel_rfl) (by kernel_rfl) (fun _ _ _ h => h) (Or.inl ⟨by rfl, ?_⟩) (by assumption) ?_
      rotate_left
      · intro w hSw
        try dsimp only at hSw
        go_simp
        try with_reducible rfl
      try simp only [Act.put, List.setIfInBounds_toArray, List.set_cons_zero, List.set_cons_succ]
      refine wpAnyH_ready (rs := [11]) (by kernel_rfl) (by simp) ?_
      refine (AllReadyH.cons (by simp only [List.getElem?_toArray, List.getElem?_cons_succ, List.getElem?_cons_zero]; exact rfl) (fun K hK => ?_) AllReadyH.nil)
      go_simp
      go_at_call 79; refine (nclone_m _ _ _ _ _ (HW.out.1.1.below KA.out.1) (by have h1 := HW.out.1.1.lens.1; have h2 := HP.out.1.1; omega)).mono ?_; rintro e cB0 ⟨⟨Y0, Y0c, rfl, hr, hf⟩, hb⟩
      have FY0 := hid (far_up hf (heap_lt KD.out.2.2))
      have WY0 := hid (far_low hf KD.out.1.size)
      have RY0 := hid hr
      replace KA := hid (KA.out.step hb)
      replace KR := hid (KR.out.step hb)
      replace KD := hid (KD.out.step hb)
      replace RX0 := hid (RX0.out.below hb)
      clear hr hf hb
      refine hK.out _ _ ⟨kp_cell (j := 5) (v := .slice a6 a7 a8) KA.out rfl, kp_cell (j := 3) (v := .slice a0 a1 a2) KA.out rfl⟩ (fun hHeld2 => ?_)
      clear hK K hHeld
      have hHeld := hHeld2
      clear hHeld2
      try simp only [Act.put, List.setIfInBounds_toArray, List.set_cons_zero, List.set_cons_succ]
      refine wpAnyH_ready (rs := [14]) (by kernel_rfl) (by simp) ?_
      refine (AllReadyH.cons (by simp only [List.getElem?_toArray, List.getElem?_cons_succ, List.getElem?_cons_zero]; exact rfl) (fun K hK => ?_) AllReadyH.nil)
      have y0 := kp_froz KD.out 3
      have z0 := kp_cell (j := 3) (v := .slice none 0 0) KD.out rfl
      go_simp
      replace KA := hid (kp_gr KA.out (set_grown cB0 N8 3 (.slice X0 a7 X0c)) (by have := HN.out; omega) (by have := HN.out; omega))
      replace KR := hid (kp_gr KR.out (set_grown cB0 N8 3 (.slice X0 a7 X0c)) (by have := HN.out; omega) (by have := HN.out; omega))
      replace RX0 := hid (RX0.out.grown (set_grown cB0 N8 3 (.slice X0 a7 X0c)) (fun b off e => by have := FX0.out b off e; omega))
      replace RY0 := hid (RY0.out.grown (set_grown cB0 N8 3 (.slice X0 a7 X0c)) (fun b off e => by have := FY0.out b off e; omega))
      have KN : Hid (Kp w (cB0.setCell ⟨N8, 3, none⟩ (.slice X0 a7 X0c)) N8 (.cells (dlC (-d.n) S0 S1 X0 a7 X0c none 0 0 none 0 0 none 0 0) 68)) := hid (kp_set (j := 3) (v := .slice X0 a7 X0c) KD.out)
      clear KD y0 z0
      have KD := KN
      clear KN
      refine hK.out _ _ ⟨kp_cell (j := 5) (v := .slice a6 a7 a8) KA.out rfl, kp_cell (j := 3) (v := .slice a0 a1 a2) KA.out rfl⟩ (fun hHeld2 => ?_)
      clear hK K hHeld
      have hHeld := hHeld2
      clear hHeld2
      generalize cB0.setCell ⟨N8, 3, none⟩ (.slice X0 a7 X0c) = s03 at KA KR KD hHeld RX0 RY0 ⊢
      try simp only [Act.put, List.setIfInBounds_toArray, List.set_cons_zero, List.set_cons_succ]
      refine wpAnyH_take (i := 16) (v := ?_) (by simp only [List.getElem?_toArray, List.getElem?_cons_succ, List.getElem?_cons_zero]; exact rfl) (by kernel_rfl) (by kernel_rfl) (by kernel_rfl) (fun _ _ _ h => h) (Or.inl ⟨by rfl, ?_⟩) (by assumption) ?_
      rotate_left
      · intro w hSw
        try dsimp only at hSw
        go_simp
        try with_reducible rfl
      try simp only [Act.put, List.setIfInBounds_toArray, List.set_cons_zero, List.set_cons_succ]
      refine wpAnyH_ready (rs := [17]) (by kernel_rfl) (by simp) ?_
      refine (AllReadyH.cons (by simp only [List.getElem?_toArray, List.getElem?_cons_succ, List.getElem?_cons_zero]; exact rfl) (fun K hK => ?_) AllReadyH.nil)
      have y0 := kp_froz KD.out 5
      have z0 := kp_cell (j := 5) (v := .slice none 0 0) KD.out rfl
      go_simp
      replace KA := hid (kp_gr KA.out (set_grown s03 N8 5 (.slice Y0 a1 Y0c)) (by have := HN.out; omega) (by have := HN.out; omega))
      replace KR := hid (kp_gr KR.out (set_grown s03 N8 5 (.slice Y0 a1 Y0c)) (by have := HN.out; omega) (by have := HN.out; omega))
      replace RX0 := hid (RX0.out.grown (set_grown s03 N8 5 (.slice Y0 a1 Y0c)) (fun b off e => by have := FX0.out b off e; omega))
      replace RY0 := hid (RY0.out.grown (set_grown s03 N8 5 (.slice Y0 a1 Y0c)) (fun b off e => by have := FY0.out b off e; omega))
      have KN : Hid (Kp w (s03.setCell ⟨N8, 5, none⟩ (.slice Y0 a1 Y0c)) N8 (.cells (dlC (-d.n) S0 S1 X0 a7 X0c none 0 0 Y0 a1 Y0c none 0 0) 68)) := hid (kp_set (j := 5) (v := .slice Y0 a1 Y0c) KD.out)
      clear KD y0 z0
      have KD := KN
      clear KN
      refine hK.out _ _ ⟨kp_cell (j := 5) (v := .slice a6 a7 a8) KA.out rfl, kp_cell (j := 3) (v := .slice a0 a1 a2) KA.out rfl⟩ (fun hHeld2 => ?_)
      clear hK K hHeld
      have hHeld := hHeld2
      clear hHeld2
      generalize s03.setCell ⟨N8, 5, none⟩ (.slice Y0 a1 Y0c) = s05 at KA KR KD hHeld RX0 RY0 ⊢
      try simp only [Act.put, List.setIfInBounds_toArray, List.set_cons_zero, List.set_cons_succ]
      refine wpAnyH_done (by kernel_rfl) ?_ _
      refine NoPanic.normal ?_
      skip
      clear hHeld
      go_wp2
      rw [rounds_succ]
      go_wp2
      replace KA := hid (KA.out.step (bdrew (Below.refl _ _)))
      replace KR := hid (KR.out.step (bdrew (Below.refl _ _)))
      replace KD := hid (KD.out.step (bdrew (Below.refl _ _)))
      replace RX0 := hid (RX0.out.below (bdrew (Below.refl _ _)))
      replace RY0 := hid (RY0.out.below (bdrew (Below.refl _ _)))
      refine wp_region_noPanic ?_
      refine wp_region_held_drew (S := fun y => y.cell? ⟨N0, 6, none⟩ = some (.slice a9 a10 a11) ∧ y.cell? ⟨N0, 4, none⟩ = some (.slice a3 a4 a5)) (by kernel_rfl) (⟨kp_cell (j := 6) (v := .slice a9 a10 a11) KA.out rfl, kp_cell (j := 4) (v := .slice a3 a4 a5) KA.out rfl⟩) (fun hHeld => ?_)
      generalize s05.drew = wd1 at KA KR KD hHeld RX0 RY0 ⊢
      refine wpAnyH_take (i := 0) (v := ?_) (by simp only [List.getElem?_toArray, List.getElem?_cons_succ, List.getElem?_cons_zero]; exact rfl) (by kernel_rfl) (by kernel_rfl) (by kernel_rfl) (fun _ _ _ h => h) (Or.inl ⟨by rfl, ?_⟩) (by assumption) ?_
      rotate_left
      · intro w hSw
        try dsimp only at hSw
        go_simp
        try with_reducible rfl
      try simp only [Act.put, List.setIfInBounds_toArray, List.set_cons_zero, List.set_cons_succ]
      refine wpAnyH_take (i := 1) (v := ?_) (by simp only [List.getElem?_toArray, List.getElem?_cons_succ, List.getElem?_cons_zero]; exact rfl) (by kernel_rfl) (by kernel_rfl) (by kernel_rfl) (fun _ _ _ h => h) (Or.inl ⟨by rfl, ?_⟩) (by assumption) ?_
      rotate_left
      · intro w hSw
        try dsimp only at hSw
        go_simp
        try with_reducible rfl
      try simp only [Act.put, List.setIfInBounds_toArray, List.set_cons_zero, List.set_cons_succ]
      refine wpAnyH_take (i := 2) (v := ?_) (by simp only [List.getElem?_toArray, List.getElem?_cons_succ, List.getElem?_cons_zero]; exact rfl) (by kernel_rfl) (by kernel_rfl) (by kernel_rfl) (fun _ _ _ h => h) (Or.inl ⟨by rfl, ?_⟩) (by assumption) ?_
      rotate_left
      · intro w hSw
        try dsimp only at hSw
        go_simp
        try with_reducible rfl
      try simp only [Act.put, List.setIfInBounds_toArray, List.set_cons_zero, List.set_cons_succ]
      refine wpAnyH_take (i := 3) (v := ?_) (by simp only [List.getElem?_toArray, List.getElem?_cons_succ, List.getElem?_cons_zero]; exact rfl) (by kernel_rfl) (by kernel_rfl) (by kernel_rfl) (fun _ _ _ h => h) (Or.inl ⟨by rfl, ?_⟩) (by assumption) ?_
      rotate_left
      · intro w hSw
        try dsimp only at hSw
        go_simp
        try with_reducible rfl
      try simp only [Act.put, List.setIfInBounds_toArray, List.set_cons_zero, List.set_cons_succ]
      refine wpAnyH_take (i := 4) (v := ?_) (by simp only [List.getElem?_toArray, List.getElem?_cons_succ, List.getElem?_cons_zero]; exact rfl) (by kernel_rfl) (by kernel_rfl) (by kernel_rfl) (fun _ _ _ h => h) (Or.inl ⟨by rfl, ?_⟩) (by assumption) ?_
      rotate_left
      · intro w hSw
        try dsimp only at hSw
        go_simp
        try with_reducible rfl
      try simp only [Act.put, List.setIfInBounds_toArray, List.set_cons_zero, List.set_cons_succ]
      refine wpAnyH_take (i := 5) (v := ?_) (by simp only [List.getElem?_toArray, List.getElem?_cons_succ, List.getElem?_cons_zero]; exact rfl) (by kernel_rfl) (by kernel_rfl) (by kernel_rfl) (fun _ _ _ h => h) (Or.inl ⟨by rfl, ?_⟩) (by assumption) ?_
      rotate_left
      · intro w hSw
        try dsimp only at hSw
        go_simp
        try with_reducible rfl
      try simp only [Act.put, List.setIfInBounds_toArray, List.set_cons_zero, List.set_cons_succ]
      refine wpAnyH_take (i := 7) (v := ?_) (by simp only [List.getElem?_toArray, List.getElem?_cons_succ, List.getElem?_cons_zero]; exact rfl) (by kernel_rfl) (by kernel_rfl) (by kernel_rfl) (fun _ _ _ h => h) (Or.inl ⟨by rfl, ?_⟩) (by assumption) ?_
      rotate_left
      · intro w hSw
        try dsimp only at hSw
        go_simp
        try with_reducible rfl
      try simp only [Act.put, List.setIfInBounds_toArray, List.set_cons_zero, List.set_cons_succ]
      refine wpAnyH_take (i := 8) (v := ?_) (by simp only [List.getElem?_toArray, List.getElem?_cons_succ, List.getElem?_cons_zero]; exact rfl) (by kernel_rfl) (by kernel_rfl) (by kernel_rfl) (fun _ _ _ h => h) (Or.inl ⟨by rfl, ?_⟩) (by assumption) ?_
      rotate_left
      · intro w hSw
        try dsimp only at hSw
        go_simp
        try with_reducible rfl
      try simp only [Act.put, List.setIfInBounds_toArray, List.set_cons_zero, List.set_cons_succ]
      refine wpAnyH_take (i := 9) (v := ?_) (by simp only [List.getElem?_toArray, List.getElem?_cons_succ, List.getElem?_cons_zero]; exact rfl) (by kernel_rfl) (by kernel_rfl) (by kernel_rfl) (fun _ _ _ h => h) (Or.inl ⟨by rfl, ?_⟩) (by assumption) ?_
      rotate_left
      · intro w hSw
        try dsimp only at hSw
        go_simp
        try with_reducible rfl
      try simp only [Act.put, List.setIfInBounds_toArray, List.set_cons_zero, List.set_cons_succ]
      refine wpAnyH_take (i := 10) (v := ?_) (by simp only [List.getElem?_toArray, List.getElem?_cons_succ, List.getElem?_cons_zero]; exact rfl) (by kernel_rfl) (by kernel_rfl) (by kernel_rfl) (fun _ _ _ h => h) (Or.inl ⟨by rfl, ?_⟩) (by assumption) ?_
      rotate_left
      · intro w hSw
        try dsimp only at hSw
        go_simp
        try with_reducible rfl
      try simp only [Act.put, List.setIfInBounds_toArray, List.set_cons_zero, List.set_cons_succ]
      refine wpAnyH_take (i := 12) (v := ?_) (by simp only [List.getElem?_toArray, List.getElem?_cons_succ, List.getElem?_cons_zero]; exact rfl) (by kernel_rfl) (by kernel_rfl) (by kernel_rfl) (fun _ _ _ h => h) (Or.inl ⟨by rfl, ?_⟩) (by assumption) ?_
      rotate_left
      · intro w hSw
        try dsimp only at hSw
        go_simp
        try with_reducible rfl
      try simp only [Act.put, List.setIfInBounds_toArray, List.set_cons_zero, List.set_cons_succ]
      refine wpAnyH_take (i := 15) (v := ?_) (by simp only [List.getElem?_toArray, List.getElem?_cons_succ, List.getElem?_cons_zero]; exact rfl) (by kernel_rfl) (by kernel_rfl) (by kernel_rfl) (fun _ _ _ h => h) (Or.inl ⟨by rfl, ?_⟩) (by assumption) ?_
      rotate_left
      · intro w hSw
        try dsimp only at hSw
        go_simp
        try with_reducible rfl
      try simp only [Act.put, List.setIfInBounds_toArray, List.set_cons_zero, List.set_cons_succ]
      refine wpAnyH_ready (rs := [6]) (by kernel_rfl) (by simp) ?_
      refine (AllReadyH.cons (by simp only [List.getElem?_toArray, List.getElem?_cons_succ, List.getElem?_cons_zero]; exact rfl) (fun K hK => ?_) AllReadyH.nil)
      go_simp
      go_at_call 79; refine (nclone_m _ _ _ _ _ (HW.out.2.2.below KA.out.1) (by have h1 := HW.out.2.2.lens.1; have h2 := HP.out.2.2; omega)).mono ?_; rintro e cA1 ⟨⟨X1, X1c, rfl, hr, hf⟩, hb⟩
      have FX1 := hid (far_up hf (heap_lt KD.out.2.2))
      have WX1 := hid (far_low hf KD.out.1.size)
      have RX1 := hid hr
      replace KA := hid (KA.out.step hb)
      replace KR := hid (KR.out.step hb)
      replace KD := hid (KD.out.step hb)
      replace RX0 := hid (RX0.out.below hb)
      replace RY0 := hid (RY0.out.below hb)
      clear hr hf hb
      refine hK.out _ _ ⟨kp_cell (j := 6) (v := .slice a9 a10 a11) KA.out rfl, kp_cell (j := 4) (v := .slice a3 a4 a5) KA.out rfl⟩ (fun hHeld2 => ?_)
      clear hK K hHeld
      have hHeld := hHeld2
      clear hHeld2
      try simp only [Act.put, List.setIfInBounds_toArray, List.set_cons_zero, List.set_cons_succ]
      refine wpAnyH_take (i := 13) (v := ?_) (by simp only [List.getElem?_toArray, List.getElem?_cons_succ, List.getElem?_cons_zero]; exact rfl) (by kernel_rfl) (by kernel_rfl) (by kernel_rfl) (fun _ _ _ h => h) (Or.inl ⟨by rfl, ?_⟩) (by assumption) ?_
      rotate_left
      · intro w hSw
        try dsimp only at hSw
        go_simp
        try with_reducible rfl
      try simp only [Act.put, List.setIfInBounds_toArray, List.set_cons_zero, List.set_cons_succ]
      refine wpAnyH_ready (rs := [11]) (by kernel_rfl) (by simp) ?_
      refine (AllReadyH.cons (by simp only [List.getElem?_toArray, List.getElem?_cons_succ, List.getElem?_cons_zero]; exact rfl) (fun K hK => ?_) AllReadyH.nil)
      go_simp
      go_at_call 79; refine (nclone_m _ _ _ _ _ (HW.out.1.2.below KA.out.1) (by have h1 := HW.out.1.2.lens.1; have h2 := HP.out.1.2; omega)).mono ?_; rintro e cB1 ⟨⟨Y1, Y1c, rfl, hr, hf⟩, hb⟩
      have FY1 := hid (far_up hf (heap_lt KD.out.2.2))
      have WY1 := hid (far_low hf KD.out.1.size)
      have RY1 := hid hr
      replace KA := hid (KA.out.step hb)
      replace KR := hid (KR.out.step hb)
      replace KD := hid (KD.out.step hb)
      replace RX0 := hid (RX0.out.below hb)
      replace RY0 := hid (RY0.out.below hb)
      replace RX1 := hid (RX1.out.below hb)
      clear hr hf hb
      refine hK.out _ _ ⟨kp_cell (j := 6) (v := .slice a9 a10 a11) KA.out rfl, kp_cell (j := 4) (v := .slice a3 a4 a5) KA.out rfl⟩ (fun hHeld2 => ?_)
      clear hK K hHeld
      have hHeld := hHeld2
      clear hHeld2
      try simp only [Act.put, List.setIfInBounds_toArray, List.set_cons_zero, List.set_cons_succ]
      refine wpAnyH_ready (rs := [14]) (by kernel_rfl) (by simp) ?_
      refine (AllReadyH.cons (by simp only [List.getElem?_toArray, List.getElem?_cons_succ, List.getElem?_cons_zero]; exact rfl) (fun K hK => ?_) AllReadyH.nil)
      have y0 := kp_froz KD.out 4
      have z0 := kp_cell (j := 4) (v := .slice none 0 0) KD.out rfl
      go_simp
      replace KA := hid (kp_gr KA.out (set_grown cB1 N8 4 (.slice X1 a10 X1c)) (by have := HN.out; omega) (by have := HN.out; omega))
      replace KR := hid (kp_gr KR.out (set_grown cB1 N8 4 (.slice X1 a10 X1c)) (by have := HN.out; omega) (by have := HN.out; omega))
      replace RX0 := hid (RX0.out.grown (set_grown cB1 N8 4 (.slice X1 a10 X1c)) (fun b off e => by have := FX0.out b off e; omega))
      replace RY0 := hid (RY0.out.grown (set_grown cB1 N8 4 (.slice X1 a10 X1c)) (fun b off e => by have := FY0.out b off e; omega))
      replace RX1 := hid (RX1.out.grown (set_grown cB1 N8 4 (.slice X1 a10 X1c)) (fun b off e => by have := FX1.out b off e; omega))
      replace RY1 := hid (RY1.out.grown (set_grown cB1 N8 4 (.slice X1 a10 X1c)) (fun b off e => by have := FY1.out b off e; omega))
      have KN : Hid (Kp w (cB1.setCell ⟨N8, 4, none⟩ (.slice X1 a10 X1c)) N8 (.cells (dlC (-d.n) S0 S1 X0 a7 X0c X1 a10 X1c Y0 a1 Y0c none 0 0) 68)) := hid (kp_set (j := 4) (v := .slice X1 a10 X1c) KD.out)
      clear KD y0 z0
      have KD := KN
      clear KN
      refine hK.out _ _ ⟨kp_cell (j := 6) (v := .slice a9 a10 a11) KA.out rfl, kp_cell (j := 4) (v := .slice a3 a4 a5) KA.out rfl⟩ (fun hHeld2 => ?_)
      clear hK K hHeld
      have hHeld := hHeld2
      clear hHeld2
      generalize cB1.setCell ⟨N8, 4, none⟩ (.slice X1 a10 X1c) = s14 at KA KR KD hHeld RX0 RY0 RX1 RY1 ⊢
      try simp only [Act.put, List.setIfInBounds_toArray, List.set_cons_zero, List.set_cons_succ]
      refine wpAnyH_take (i := 16) (v := ?_) (by simp only [List.getElem?_toArray, List.getElem?_cons_succ, List.getElem?_cons_zero]; exact rfl) (by kernel_rfl) (by kernel_rfl) (by kernel_rfl) (fun _ _ _ h => h) (Or.inl ⟨by rfl, ?_⟩) (by assumption) ?_
      rotate_left
      · intro w hSw
        try dsimp only at hSw
        go_simp
        try with_reducible rfl
      try simp only [Act.put, List.setIfInBounds_toArray, List.set_cons_zero, List.set_cons_succ]
      refine wpAnyH_ready (rs := [17]) (by kernel_rfl) (by simp) ?_
      refine (AllReadyH.cons (by simp only [List.getElem?_toArray, List.getElem?_cons_succ, List.getElem?_cons_zero]; exact rfl) (fun K hK => ?_) AllReadyH.nil)
      have y0 := kp_froz KD.out 6
      have z0 := kp_cell (j := 6) (v := .slice none 0 0) KD.out rfl
      go_simp
      replace KA := hid (kp_gr KA.out (set_grown s14 N8 6 (.slice Y1 a4 Y1c)) (by have := HN.out; omega) (by have := HN.out; omega))
      replace KR := hid (kp_gr KR.out (set_grown s14 N8 6 (.slice Y1 a4 Y1c)) (by have := HN.out; omega) (by have := HN.out; omega))
      replace RX0 := hid (RX0.out.grown (set_grown s14 N8 6 (.slice Y1 a4 Y1c)) (fun b off e => by have := FX0.out b off e; omega))
      replace RY0 := hid (RY0.out.grown (set_grown s14 N8 6 (.slice Y1 a4 Y1c)) (fun b off e => by have := FY0.out b off e; omega))
      replace RX1 := hid (RX1.out.grown (set_grown s14 N8 6 (.slice Y1 a4 Y1c)) (fun b off e => by have := FX1.out b off e; omega))
      replace RY1 := hid (RY1.out.grown (set_grown s14 N8 6 (.slice Y1 a4 Y1c)) (fun b off e => by have := FY1.out b off e; omega))
      have KN : Hid (Kp w (s14.setCell ⟨N8, 6, none⟩ (.slice Y1 a4 Y1c)) N8 (.cells (dlC (-d.n) S0 S1 X0 a7 X0c X1 a10 X1c Y0 a1 Y0c Y1 a4 Y1c) 68)) := hid (kp_set (j := 6) (v := .slice Y1 a4 Y1c) KD.out)
      clear KD y0 z0
      have KD := KN
      clear KN
      refine hK.out _ _ ⟨kp_cell (j := 6) (v := .slice a9 a10 a11) KA.out rfl, kp_cell (j := 4) (v := .slice a3 a4 a5) KA.out rfl⟩ (fun hHeld2 => ?_)
      clear hK K hHeld
      have hHeld := hHeld2
      clear hHeld2
      generalize s14.setCell ⟨N8, 6, none⟩ (.slice Y1 a4 Y1c) = s16 at KA KR KD hHeld RX0 RY0 RX1 RY1 ⊢
      try simp only [Act.put, List.setIfInBounds_toArray, List.set_cons_zero, List.set_cons_succ]
      refine wpAnyH_done (by kernel_rfl) ?_ _
      refine NoPanic.normal ?_
      skip
      clear hHeld
      go_wp2
      rw [rounds_succ]
      obtain ⟨y0, y1, y2, y3, y4, y5, y6⟩ := box_seven KD.out.2.2
      go_wp2_with (refine wpList_store_whole rfl 68 (.tmp 4) (.tmp 50) rfl N1 (dlC (-d.n) S0 S1 X0 a7 X0c X1 a10 X1c Y0 a1 Y0c Y1 a4 Y1c) rfl rfl 68 _ KR.out.2.2 rfl (by show _ = some 7; exact size_dl) (dlC_one _ _ _ _ _ _ _ _ _ _ _ _ _ _ _) ?_; intro w9 hp9 hg9; have KR9 := hid (kp_at KR.out hg9 hp9); replace RX0 := hid (RX0.out.grown hg9 (fun b off e => by have := FX0.out b off e; have := HN.out; omega)); replace RY0 := hid (RY0.out.grown hg9 (fun b off e => by have := FY0.out b off e; have := HN.out; omega)); replace RX1 := hid (RX1.out.grown hg9 (fun b off e => by have := FX1.out b off e; have := HN.out; omega)); replace RY1 := hid (RY1.out.grown hg9 (fun b off e => by have := FY1.out b off e; have := HN.out; omega)); clear hp9 hg9)
      (try simp only [Exit.inBlock, Exit.then])
      show bodyPost Try.prog Try.f36 _ _ _ _
      refine bodyPost_ret (results_cell_slot (p := 4) (u := 5) rfl _ _ N1 _ (dlC (-d.n) S0 S1 X0 a7 X0c X1 a10 X1c Y0 a1 Y0c Y1 a4 Y1c) (0, 0) _ (.bool true) rfl rfl KR9.out.2.2 Try.underlying68 rfl (by kernel_rfl)) rfl ?_
      have es0 := ES0.out
      have es1 := ES1.out
      rw [Int.zero_sub] at es0 es1
      have vd := VD.out
      subst vd
      have vv := VV.out
      subst vv
      subst es0
      subst es1
      exact ⟨⟨X0, a7, X0c, X1, a10, X1c, Y0, a1, Y0c, Y1, a4, Y1c, rfl, ⟨⟨RX0.out, RX1.out⟩, RY0.out, RY1.out⟩, ⟨⟨WX0.out, WX1.out⟩, WY0.out, WY1.out⟩⟩, KR9.out.1⟩

end Go.Proofs.Ytjkkajhjcinalaa

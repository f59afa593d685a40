/-
  -
  -
  Conditions: as each theorem states them.
-/
import Derived.Test.YtjkkajhjcinalaaQAF
import Derived.Test.YtjkkajhjcinalaaQAG
namespace Go.Proofs.Ytjkkajhjcinalaa
open Go.ChangeShapes Go.WideShapes Go.ChangeAt Go.RowKit
set_option linter.unusedVariables false
set_option linter.unusedSimpArgs false
set_option maxRecDepth 100000

def mdR (m n : Int) (B0 B1 : List Rn) : Cl := ⟨n, wsum B0, if m = 2 then wsum B1 else 0, B0, B1⟩
def mdB (m n : Int) (B0 B1 : List Rn) : Bool := calc.fitB (wsum B0) && ((decide (m = 1) || calc.fitB (wsum B1)) && cg m (mdR m n B0 B1))
def mdC (m n : Int) (B0 B1 : List Rn) : Cl := if mdB m n B0 B1 then mdR m n B0 B1 else cl0
theorem mdC_yes {m n : Int} {B0 B1 : List Rn} (h : mdB m n B0 B1 = true) : mdC m n B0 B1 = mdR m n B0 B1 := by unfold mdC; rw [h]; rfl
theorem mdC_no {m n : Int} {B0 B1 : List Rn} (h : mdB m n B0 B1 = false) : mdC m n B0 B1 = cl0 := by unfold mdC; rw [h]; rfl
theorem mdB_f0 {m n : Int} {B0 B1 : List Rn} (h : calc.fitB (wsum B0) = false) : mdB m n B0 B1 = false := by unfold mdB; rw [h]; rfl
theorem mdB_f1 {n : Int} {B0 B1 : List Rn} (h : calc.fitB (wsum B1) = false) : mdB 2 n B0 B1 = false := by unfold mdB; rw [h]; simp
theorem mdB_1 {n : Int} {B0 B1 : List Rn} (h : calc.fitB (wsum B0) = true) : mdB 1 n B0 B1 = cg 1 (mdR 1 n B0 B1) := by unfold mdB; rw [h]; simp
theorem mdB_2 {n : Int} {B0 B1 : List Rn} (h : calc.fitB (wsum B0) = true) (h1 : calc.fitB (wsum B1) = true) : mdB 2 n B0 B1 = cg 2 (mdR 2 n B0 B1) := by unfold mdB; rw [h, h1]; simp
theorem size_rc : (Try.prog.info? 36).map (·.size) = some 6 := by kernel_rfl
abbrev rcC (n s0 s1 : Int) (a0 : Option Addr) (p0 k0 : Nat) (a1 : Option Addr) (p1 k1 : Nat) (v : Bool) : Array Value := #[.int .i64 n, .int .i64 s0, .int .i64 s1, .slice a0 p0 k0, .slice a1 p1 k1, .bool v]
theorem rcC_one (n s0 s1 : Int) (a0 : Option Addr) (p0 k0 : Nat) (a1 : Option Addr) (p1 k1 : Nat) (v : Bool) : ∀ x ∈ (rcC n s0 s1 a0 p0 k0 a1 p1 k1 v).toList, x.oneCell' = true := by
  intro x hx
  simp only [List.mem_cons, List.not_mem_nil, or_false] at hx
  rcases hx with rfl | rfl | rfl | rfl | rfl | rfl <;> rfl
theorem back_n (x S : Int) (f : Bool) (w : World) (hS : Hid (calc.fitV x = S)) (hf : Hid (calc.fitB x = f)) :
    Calls Try.prog 92 #[.agg #[.bool (calc.ng x), .int .u64 (calc.hi (calc.sz x)), .int .u64 (calc.lo (calc.sz x))]] w fun e w' => e = .returned (.tuple #[.int .i64 S, .bool f]) ∧ Below w.heap.size w w' := by
  have := calc.back_any x w
  rw [hS.out, hf.out] at this
  exact this
theorem wide_n (a : Option Addr) (n c : Nat) (l : List Rn) (x : Int) (w : World) (hl : NRun w a n c l) (hk : ∀ r ∈ l, nok r) (hb : Hid (Bag l)) (hx : Hid (wsum l = x)) :
    Calls Try.prog 61 #[.slice a n c] w fun e w' => e = .returned (.agg #[.bool (calc.ng x), .int .u64 (calc.hi (calc.sz x)), .int .u64 (calc.lo (calc.sz x))]) ∧ Below w.heap.size w w' := by
  have := wide_good a n c l w hl hk hb.out
  rw [hx.out] at this
  exact this

set_option maxHeartbeats 32000000 in
theorem made_m (m n : Int) (B0 B1 : List Rn) (a0 : Option Addr) (p0 k0 : Nat) (a1 : Option Addr) (p1 k1 : Nat) (C : Cl) (v : Bool) (w : World) (h0 : NRun w a0 p0 k0 B0) (h1 : NRun w a1 p1 k1 B1) (o0 : ∀ r ∈ B0, nok r) (o1 : ∀ r ∈ B1, nok r) (g0 : Bag B0) (g1 : Bag B1) (hn : I64 n) (hm : m = 1 ∨ m = 2) (hC : Hid (mdC m n B0 B1 = C)) (hv : Hid (mdB m n B0 B1 = v)) :
    Calls Try.prog 53 #[.int .i64 m, .int .i64 n, .agg #[.slice a0 p0 k0, .slice a1 p1 k1]] w fun e w' => (∃ x0 p0 k0 x1 p1 k1, e = .returned (.agg #[.int .i64 C.n, .int .i64 C.s0, .int .i64 C.s1, .slice x0 p0 k0, .slice x1 p1 k1, .bool v]) ∧ CW w' x0 p0 k0 x1 p1 k1 C ∧ (x0 = none ∨ x0 = a0) ∧ (x1 = none ∨ x1 = a1)) ∧ Below w.heap.size w w' := by
  have H0 := hid h0
  have H1 := hid h1
  have O0 := hid o0
  have O1 := hid o1
  have G0 := hid g0
  have G1 := hid g1
  have HN := hid hn
  clear h0 h1 o0 o1 g0 g1 hn
  have KB0 : Hid (Kp w ((w.alloc (.cells #[.slice a0 p0 k0, .slice a1 p1 k1] 24)).alloc (.cells #[.int .i64 0, .int .i64 0, .int .i64 0, .slice none 0 0, .slice none 0 0, .bool false] 36)) w.heap.size (.cells #[.slice a0 p0 k0, .slice a1 p1 k1] 24)) := hid (kp_alloc (kp_new w _) _)
  have KR0 : Hid (Kp w ((w.alloc (.cells #[.slice a0 p0 k0, .slice a1 p1 k1] 24)).alloc (.cells #[.int .i64 0, .int .i64 0, .int .i64 0, .slice none 0 0, .slice none 0 0, .bool false] 36)) (w.heap.size + 1) (.cells #[.int .i64 0, .int .i64 0, .int .i64 0, .slice none 0 0, .slice none 0 0, .bool false] 36)) := hid (kp_new2 (b1alloc _ _) _ _ (by simp))
  obtain ⟨X0, hX0⟩ : ∃ y, wsum B0 = y := ⟨_, rfl⟩
  obtain ⟨S0, hS0⟩ : ∃ y, calc.fitV X0 = y := ⟨_, rfl⟩
  obtain ⟨u0, hu0⟩ : ∃ y, calc.fitB X0 = y := ⟨_, rfl⟩
  have FX0 := hid hX0
  have FS0 := hid hS0
  have FU0 := hid hu0
  clear hX0 hS0 hu0
  go_enter Try.func53, Try.ntmps53
  go_upto_region 1 with fail
  generalize (w.alloc (.cells #[.slice a0 p0 k0, .slice a1 p1 k1] 24)).alloc (.cells #[.int .i64 0, .int .i64 0, .int .i64 0, .slice none 0 0, .slice none 0 0, .bool false] 36) = W0 at KB0 KR0 ⊢
  obtain ⟨d0, d1⟩ := box_two KB0.out.2.2
  go_upto_region 2 with fail
  have KN1 : Hid (Kp w (W0.alloc (.cells #[.int .i64 n, .int .i64 0, .int .i64 0, .slice a0 p0 k0, .slice a1 p1 k1] 26)) W0.heap.size (.cells #[.int .i64 n, .int .i64 0, .int .i64 0, .slice a0 p0 k0, .slice a1 p1 k1] 26)) := hid (kp_new2 KB0.out.1 _ _ rfl)
  have hne : w.heap.size + 1 < W0.heap.size := heap_lt KR0.out.2.2
  have KB1 := hid (kp_alloc KB0.out (.cells #[.int .i64 n, .int .i64 0, .int .i64 0, .slice a0 p0 k0, .slice a1 p1 k1] 26))
  have KR1 := hid (kp_alloc KR0.out (.cells #[.int .i64 n, .int .i64 0, .int .i64 0, .slice a0 p0 k0, .slice a1 p1 k1] 26))
  have HNN := hid hne
  have HZZ : Hid (w.heap.size ≤ W0.heap.size) := hid (by omega)
  have HNB : Hid (¬ w.heap.size = W0.heap.size) := hid (by omega)
  clear hne d0 d1 KB0 KR0
  generalize W0.alloc (.cells #[.int .i64 n, .int .i64 0, .int .i64 0, .slice a0 p0 k0, .slice a1 p1 k1] 26) = W1 at KN1 KB1 KR1 ⊢
  generalize W0.heap.size = G at KN1 HNN HZZ HNB ⊢
  obtain ⟨N2, hN2⟩ : ∃ y, w.heap.size + 1 = y := ⟨_, rfl⟩
  rw [hN2] at KR1 HNN ⊢
  clear hN2
  go_upto_region 3 with fail
  refine wp_loop_rounds 3 ?_
  rw [rounds_succ]
  rcases hm with rfl | rfl
  · skip
    obtain ⟨d0, d1⟩ := box_two KB1.out.2.2
    go_upto_region 6 with (first
      | (go_at_call 61; refine (wide_n _ _ _ B0 X0 _ (H0.out.below KB1.out.1) O0.out G0 FX0).mono ?_; rintro e w1a ⟨rfl, hb⟩; have KBa := hid (KB1.out.step hb); have KRa := hid (KR1.out.step hb); have KNa := hid (KN1.out.step hb); clear hb)
      | (go_at_call 92; refine (back_n X0 S0 u0 _ FS0 FU0).mono ?_; rintro e w1b ⟨rfl, hb⟩; have KBb := hid (KBa.out.step hb); have KRb := hid (KRa.out.step hb); have KNb := hid (KNa.out.step hb); clear hb))
    clear d0 d1 KBa KRa KNa KB1 KR1 KN1
    cases u0 with
    | false =>
      have HZ := hid (And.intro (hC.out.symm.trans (mdC_no (mdB_f0 (by rw [FX0.out]; exact FU0.out)))) (hv.out.symm.trans (mdB_f0 (by rw [FX0.out]; exact FU0.out))))
      go_wp2_with (refine wpList_store_whole rfl 36 (.tmp 6) (.tmp 29) rfl N2 (rcC 0 0 0 none 0 0 none 0 0 false) rfl rfl 36 _ KRb.out.2.2 rfl (by show _ = some 6; exact size_rc) (rcC_one _ _ _ _ _ _ _ _ _ _) ?_; intro w9 hp9 hg9; have KR9 := hid (kp_at KRb.out hg9 hp9); clear hp9 hg9)
      (try simp only [Exit.inBlock, Exit.then])
      show bodyPost Try.prog Try.f53 _ _ _ _
      refine bodyPost_ret (results_cell_row (p := 6) rfl _ _ N2 _ (rcC 0 0 0 none 0 0 none 0 0 false) (0, 0) _ rfl KR9.out.2.2 Try.underlying36 rfl (by kernel_rfl)) rfl ?_
      obtain ⟨z1, z2⟩ := HZ.out; subst z1; subst z2; exact ⟨⟨none, 0, 0, none, 0, 0, rfl, cw_nil _, .inl rfl, .inl rfl⟩, KR9.out.1⟩
    | true =>
      have fz := kp_froz KNb.out 1
      have cz := kp_cell (j := 1) (v := .int .i64 0) KNb.out rfl
      go_upto_region 4 with fail
      clear fz cz
      have KN2 : Hid (Kp w _ G (.cells #[.int .i64 n, .int .i64 S0, .int .i64 0, .slice a0 p0 k0, .slice a1 p1 k1] 26)) := hid (kp_set (j := 1) (v := .int .i64 S0) KNb.out)
      have KR2 := hid (kp_other (j := 1) (v := .int .i64 S0) KRb.out (Nat.ne_of_lt HNN.out) HZZ.out)
      have KB2 := hid (kp_other (j := 1) (v := .int .i64 S0) KBb.out HNB.out HZZ.out)
      generalize (w1b.setCell ⟨G, 1, none⟩ (.int .i64 S0)) = W2 at KN2 KR2 KB2 ⊢
      clear KBb KRb KNb
      go_wp2
      rw [rounds_succ]
      have I0 : Hid (I64 S0) := hid (by rw [← FS0.out, fitV_yes FU0.out]; exact fitB_iff.1 FU0.out)
      have EQ : mdB 1 n B0 B1 = cg 1 ⟨n, S0, 0, B0, B1⟩ := by rw [mdB_1 (by rw [FX0.out]; exact FU0.out)]; unfold mdR; rw [FX0.out, ← FS0.out, fitV_yes FU0.out]; rfl
      have EQH := hid EQ
      clear EQ
      obtain ⟨d0, d1, d2, d3, d4⟩ := box_five KN2.out.2.2
      obtain ⟨gg, hgg⟩ : ∃ y, cg 1 ⟨n, S0, 0, B0, B1⟩ = y := ⟨_, rfl⟩
      have EG := hid hgg
      clear hgg
      cases gg with
      | false =>
        have HZ := hid (And.intro (hC.out.symm.trans (mdC_no (EQH.out.trans EG.out))) (hv.out.symm.trans (EQH.out.trans EG.out)))
        go_upto_region 10 with (go_at_call 20; refine (crgood_m 1 ⟨n, S0, 0, B0, B1⟩ a0 p0 k0 a1 p1 k1 false _ ⟨H0.out.below KN2.out.1, H1.out.below KN2.out.1⟩ ⟨HN.out, I0.out, calc.i64_0, O0.out, O1.out⟩ EG).mono ?_; rintro e w8 ⟨rfl, hb⟩; have KR8 := hid (KR2.out.step hb); have KN8 := hid (KN2.out.step hb); clear hb d0 d1 d2 d3 d4)
        go_wp2_with (refine wpList_store_whole rfl 36 (.tmp 6) (.tmp 38) rfl N2 (rcC 0 0 0 none 0 0 none 0 0 false) rfl rfl 36 _ KR8.out.2.2 rfl (by show _ = some 6; exact size_rc) (rcC_one _ _ _ _ _ _ _ _ _ _) ?_; intro w9 hp9 hg9; have KR9 := hid (kp_at KR8.out hg9 hp9); clear hp9 hg9)
        (try simp only [Exit.inBlock, Exit.then])
        show bodyPost Try.prog Try.f53 _ _ _ _
        refine bodyPost_ret (results_cell_row (p := 6) rfl _ _ N2 _ (rcC 0 0 0 none 0 0 none 0 0 false) (0, 0) _ rfl KR9.out.2.2 Try.underlying36 rfl (by kernel_rfl)) rfl ?_
        obtain ⟨z1, z2⟩ := HZ.out; subst z1; subst z2; exact ⟨⟨none, 0, 0, none, 0, 0, rfl, cw_nil _, .inl rfl, .inl rfl⟩, KR9.out.1⟩
      | true =>
        go_upto_region 11 with (go_at_call 20; refine (crgood_m 1 ⟨n, S0, 0, B0, B1⟩ a0 p0 k0 a1 p1 k1 true _ ⟨H0.out.below KN2.out.1, H1.out.below KN2.out.1⟩ ⟨HN.out, I0.out, calc.i64_0, O0.out, O1.out⟩ EG).mono ?_; rintro e w8 ⟨rfl, hb⟩; have KR8 := hid (KR2.out.step hb); have KN8 := hid (KN2.out.step hb); clear hb d0 d1 d2 d3 d4)
        obtain ⟨d0, d1, d2, d3, d4⟩ := box_five KN8.out.2.2
        go_wp2_with (refine wpList_store_whole rfl 36 (.tmp 6) (.tmp 40) rfl N2 (rcC n S0 0 a0 p0 k0 a1 p1 k1 true) rfl rfl 36 _ KR8.out.2.2 rfl (by show _ = some 6; exact size_rc) (rcC_one _ _ _ _ _ _ _ _ _ _) ?_; intro w9 hp9 hg9; have KR9 := hid (kp_at KR8.out hg9 hp9); clear hp9 hg9)
        (try simp only [Exit.inBlock, Exit.then])
        show bodyPost Try.prog Try.f53 _ _ _ _
        refine bodyPost_ret (results_cell_row (p := 6) rfl _ _ N2 _ (rcC n S0 0 a0 p0 k0 a1 p1 k1 true) (0, 0) _ rfl KR9.out.2.2 Try.underlying36 rfl (by kernel_rfl)) rfl ?_
        have e1 : C = ⟨n, S0, 0, B0, B1⟩ := by rw [← hC.out, mdC_yes (EQH.out.trans EG.out)]; unfold mdR; rw [FX0.out, ← FS0.out, fitV_yes FU0.out]; rfl
        have e2 : v = true := by rw [← hv.out, EQH.out, EG.out]
        subst e1
        subst e2
        exact ⟨⟨_, _, _, _, _, _, rfl, ⟨H0.out.below KR9.out.1, H1.out.below KR9.out.1⟩, .inr rfl, .inr rfl⟩, KR9.out.1⟩
  · skip
    obtain ⟨X1, hX1⟩ : ∃ y, wsum B1 = y := ⟨_, rfl⟩
    obtain ⟨S1, hS1⟩ : ∃ y, calc.fitV X1 = y := ⟨_, rfl⟩
    obtain ⟨u1, hu1⟩ : ∃ y, calc.fitB X1 = y := ⟨_, rfl⟩
    have FX1 := hid hX1
    have FS1 := hid hS1
    have FU1 := hid hu1
    clear hX1 hS1 hu1
    obtain ⟨d0, d1⟩ := box_two KB1.out.2.2
    go_upto_region 6 with (first
      | (go_at_call 61; refine (wide_n _ _ _ B0 X0 _ (H0.out.below KB1.out.1) O0.out G0 FX0).mono ?_; rintro e w1a ⟨rfl, hb⟩; have KBa := hid (KB1.out.step hb); have KRa := hid (KR1.out.step hb); have KNa := hid (KN1.out.step hb); clear hb)
      | (go_at_call 92; refine (back_n X0 S0 u0 _ FS0 FU0).mono ?_; rintro e w1b ⟨rfl, hb⟩; have KBb := hid (KBa.out.step hb); have KRb := hid (KRa.out.step hb); have KNb := hid (KNa.out.step hb); clear hb))
    clear d0 d1 KBa KRa KNa KB1 KR1 KN1
    cases u0 with
    | false =>
      have HZ := hid (And.intro (hC.out.symm.trans (mdC_no (mdB_f0 (by rw [FX0.out]; exact FU0.out)))) (hv.out.symm.trans (mdB_f0 (by rw [FX0.out]; exact FU0.out))))
      go_wp2_with (refine wpList_store_whole rfl 36 (.tmp 6) (.tmp 29) rfl N2 (rcC 0 0 0 none 0 0 none 0 0 false) rfl rfl 36 _ KRb.out.2.2 rfl (by show _ = some 6; exact size_rc) (rcC_one _ _ _ _ _ _ _ _ _ _) ?_; intro w9 hp9 hg9; have KR9 := hid (kp_at KRb.out hg9 hp9); clear hp9 hg9)
      (try simp only [Exit.inBlock, Exit.then])
      show bodyPost Try.prog Try.f53 _ _ _ _
      refine bodyPost_ret (results_cell_row (p := 6) rfl _ _ N2 _ (rcC 0 0 0 none 0 0 none 0 0 false) (0, 0) _ rfl KR9.out.2.2 Try.underlying36 rfl (by kernel_rfl)) rfl ?_
      obtain ⟨z1, z2⟩ := HZ.out; subst z1; subst z2; exact ⟨⟨none, 0, 0, none, 0, 0, rfl, cw_nil _, .inl rfl, .inl rfl⟩, KR9.out.1⟩
    | true =>
      have fz := kp_froz KNb.out 1
      have cz := kp_cell (j := 1) (v := .int .i64 0) KNb.out rfl
      go_upto_region 4 with fail
      clear fz cz
      have KN2 : Hid (Kp w _ G (.cells #[.int .i64 n, .int .i64 S0, .int .i64 0, .slice a0 p0 k0, .slice a1 p1 k1] 26)) := hid (kp_set (j := 1) (v := .int .i64 S0) KNb.out)
      have KR2 := hid (kp_other (j := 1) (v := .int .i64 S0) KRb.out (Nat.ne_of_lt HNN.out) HZZ.out)
      have KB2 := hid (kp_other (j := 1) (v := .int .i64 S0) KBb.out HNB.out HZZ.out)
      generalize (w1b.setCell ⟨G, 1, none⟩ (.int .i64 S0)) = W2 at KN2 KR2 KB2 ⊢
      clear KBb KRb KNb
      go_wp2
      rw [rounds_succ]
      have I0 : Hid (I64 S0) := hid (by rw [← FS0.out, fitV_yes FU0.out]; exact fitB_iff.1 FU0.out)
      obtain ⟨d0, d1⟩ := box_two KB2.out.2.2
      go_upto_region 6 with (first
        | (go_at_call 61; refine (wide_n _ _ _ B1 X1 _ (H1.out.below KB2.out.1) O1.out G1 FX1).mono ?_; rintro e w2a ⟨rfl, hb⟩; have KBa := hid (KB2.out.step hb); have KRa := hid (KR2.out.step hb); have KNa := hid (KN2.out.step hb); clear hb)
        | (go_at_call 92; refine (back_n X1 S1 u1 _ FS1 FU1).mono ?_; rintro e w2b ⟨rfl, hb⟩; have KBb := hid (KBa.out.step hb); have KRb := hid (KRa.out.step hb); have KNb := hid (KNa.out.step hb); clear hb))
      clear d0 d1 KBa KRa KNa KB2 KR2 KN2
      cases u1 with
      | false =>
        have HZ := hid (And.intro (hC.out.symm.trans (mdC_no (mdB_f1 (by rw [FX1.out]; exact FU1.out)))) (hv.out.symm.trans (mdB_f1 (by rw [FX1.out]; exact FU1.out))))
        go_wp2_with (refine wpList_store_whole rfl 36 (.tmp 6) (.tmp 29) rfl N2 (rcC 0 0 0 none 0 0 none 0 0 false) rfl rfl 36 _ KRb.out.2.2 rfl (by show _ = some 6; exact size_rc) (rcC_one _ _ _ _ _ _ _ _ _ _) ?_; intro w9 hp9 hg9; have KR9 := hid (kp_at KRb.out hg9 hp9); clear hp9 hg9)
        (try simp only [Exit.inBlock, Exit.then])
        show bodyPost Try.prog Try.f53 _ _ _ _
        refine bodyPost_ret (results_cell_row (p := 6) rfl _ _ N2 _ (rcC 0 0 0 none 0 0 none 0 0 false) (0, 0) _ rfl KR9.out.2.2 Try.underlying36 rfl (by kernel_rfl)) rfl ?_
        obtain ⟨z1, z2⟩ := HZ.out; subst z1; subst z2; exact ⟨⟨none, 0, 0, none, 0, 0, rfl, cw_nil _, .inl rfl, .inl rfl⟩, KR9.out.1⟩
      | true =>
        have fz := kp_froz KNb.out 2
        have cz := kp_cell (j := 2) (v := .int .i64 0) KNb.out rfl
        go_upto_region 4 with fail
        clear fz cz
        have KN3 : Hid (Kp w _ G (.cells #[.int .i64 n, .int .i64 S0, .int .i64 S1, .slice a0 p0 k0, .slice a1 p1 k1] 26)) := hid (kp_set (j := 2) (v := .int .i64 S1) KNb.out)
        have KR3 := hid (kp_other (j := 2) (v := .int .i64 S1) KRb.out (Nat.ne_of_lt HNN.out) HZZ.out)
        have KB3 := hid (kp_other (j := 2) (v := .int .i64 S1) KBb.out HNB.out HZZ.out)
        generalize (w2b.setCell ⟨G, 2, none⟩ (.int .i64 S1)) = W3 at KN3 KR3 KB3 ⊢
        clear KBb KRb KNb
        go_wp2
        rw [rounds_succ]
        have I1 : Hid (I64 S1) := hid (by rw [← FS1.out, fitV_yes FU1.out]; exact fitB_iff.1 FU1.out)
        have EQ : mdB 2 n B0 B1 = cg 2 ⟨n, S0, S1, B0, B1⟩ := by rw [mdB_2 (by rw [FX0.out]; exact FU0.out) (by rw [FX1.out]; exact FU1.out)]; unfold mdR; rw [FX0.out, ← FS0.out, fitV_yes FU0.out, FX1.out, ← FS1.out, fitV_yes FU1.out]; rfl
        have EQH := hid EQ
        clear EQ
        obtain ⟨d0, d1, d2, d3, d4⟩ := box_five KN3.out.2.2
        obtain ⟨gg, hgg⟩ : ∃ y, cg 2 ⟨n, S0, S1, B0, B1⟩ = y := ⟨_, rfl⟩
        have EG := hid hgg
        clear hgg
        cases gg with
        | false =>
          have HZ := hid (And.intro (hC.out.symm.trans (mdC_no (EQH.out.trans EG.out))) (hv.out.symm.trans (EQH.out.trans EG.out)))
          go_upto_region 10 with (go_at_call 20; refine (crgood_m 2 ⟨n, S0, S1, B0, B1⟩ a0 p0 k0 a1 p1 k1 false _ ⟨H0.out.below KN3.out.1, H1.out.below KN3.out.1⟩ ⟨HN.out, I0.out, I1.out, O0.out, O1.out⟩ EG).mono ?_; rintro e w8 ⟨rfl, hb⟩; have KR8 := hid (KR3.out.step hb); have KN8 := hid (KN3.out.step hb); clear hb d0 d1 d2 d3 d4)
          go_wp2_with (refine wpList_store_whole rfl 36 (.tmp 6) (.tmp 38) rfl N2 (rcC 0 0 0 none 0 0 none 0 0 false) rfl rfl 36 _ KR8.out.2.2 rfl (by show _ = some 6; exact size_rc) (rcC_one _ _ _ _ _ _ _ _ _ _) ?_; intro w9 hp9 hg9; have KR9 := hid (kp_at KR8.out hg9 hp9); clear hp9 hg9)
          (try simp only [Exit.inBlock, Exit.then])
          show bodyPost Try.prog Try.f53 _ _ _ _
          refine bodyPost_ret (results_cell_row (p := 6) rfl _ _ N2 _ (rcC 0 0 0 none 0 0 none 0 0 false) (0, 0) _ rfl KR9.out.2.2 Try.underlying36 rfl (by kernel_rfl)) rfl ?_
          obtain ⟨z1, z2⟩ := HZ.out; subst z1; subst z2; exact ⟨⟨none, 0, 0, none, 0, 0, rfl, cw_nil _, .inl rfl, .inl rfl⟩, KR9.out.1⟩
        | true =>
          go_upto_region 11 with (go_at_call 20; refine (crgood_m 2 ⟨n, S0, S1, B0, B1⟩ a0 p0 k0 a1 p1 k1 true _ ⟨H0.out.below KN3.out.1, H1.out.below KN3.out.1⟩ ⟨HN.out, I0.out, I1.out, O0.out, O1.out⟩ EG).mono ?_; rintro e w8 ⟨rfl, hb⟩; have KR8 := hid (KR3.out.step hb); have KN8 := hid (KN3.out.step hb); clear hb d0 d1 d2 d3 d4)
          obtain ⟨d0, d1, d2, d3, d4⟩ := box_five KN8.out.2.2
          go_wp2_with (refine wpList_store_whole rfl 36 (.tmp 6) (.tmp 40) rfl N2 (rcC n S0 S1 a0 p0 k0 a1 p1 k1 true) rfl rfl 36 _ KR8.out.2.2 rfl (by show _ = some 6; exact size_rc) (rcC_one _ _ _ _ _ _ _ _ _ _) ?_; intro w9 hp9 hg9; have KR9 := hid (kp_at KR8.out hg9 hp9); clear hp9 hg9)
          (try simp only [Exit.inBlock, Exit.then])
          show bodyPost Try.prog Try.f53 _ _ _ _
          refine bodyPost_ret (results_cell_row (p := 6) rfl _ _ N2 _ (rcC n S0 S1 a0 p0 k0 a1 p1 k1 true) (0, 0) _ rfl KR9.out.2.2 Try.underlying36 rfl (by kernel_rfl)) rfl ?_
          have e1 : C = ⟨n, S0, S1, B0, B1⟩ := by rw [← hC.out, mdC_yes (EQH.out.trans EG.out)]; unfold mdR; rw [FX0.out, ← FS0.out, fitV_yes FU0.out]; rw [FX1.out, ← FS1.out, fitV_yes FU1.out]; rfl
          have e2 : v = true := by rw [← hv.out, EQH.out, EG.out]
          subst e1
          subst e2
          exact ⟨⟨_, _, _, _, _, _, rfl, ⟨H0.out.below KR9.out.1, H1.out.below KR9.out.1⟩, .inr rfl, .inr rfl⟩, KR9.out.1⟩

end Go.Proofs.Ytjkkajhjcinalaa

namespace Go.Proofs.Ytjkkajhjcinalaa
open Go.ChangeShapes Go.WideShapes Go.ChangeAt Go.RowKit
set_option linter.unusedVariables false
set_option linter.unusedSimpArgs false
set_option maxRecDepth 100000

theorem bagOf_ok {l : List Int} (h : ∀ x ∈ l, I64 x) (hn : l.length ≤ 1000000) : ∀ r ∈ bagOf l, nok r := by
  intro r hr
  refine ⟨h _ (bagOf_mem hr), ?_⟩
  have h1 := bagOf_pos l r hr
  have h2 := cn_srt_eq (bagOf_srt l) hr
  have h3 := cn_le (v := r.1) (bagOf_pos l)
  rw [bagOf_tot] at h3
  unfold I64; omega
theorem jnl_bag {a b : List Rn} (ha : Bag a) (hb : Bag b) (ht : tot a + tot b ≤ 1099511627776) : Bag (jnl a b) :=
  ⟨jnl_srt ha.1 b, jnl_pos ha.2.1 hb.2.1, by rw [jnl_tot]; exact ht⟩
theorem jnl_ok {a b : List Rn} (ha : Bag a) (hb : Bag b) (ht : tot a + tot b ≤ 1099511627776) (ka : ∀ r ∈ a, nok r) (kb : ∀ r ∈ b, nok r) : ∀ r ∈ jnl a b, nok r := by
  intro r hr
  have h := jnl_bd ha.1 ha.2.1 hb.2.1 ht r hr
  refine ⟨?_, by unfold I64; omega⟩
  rcases jnl_mem hr with ⟨q, hq, e⟩ | ⟨q, hq, e⟩
  · rw [← e]; exact (ka q hq).1
  · rw [← e]; exact (kb q hq).1

theorem nok_nil : ∀ r ∈ ([] : List Rn), nok r := fun r hr => by cases hr
theorem cw_gr {w w' : World} {x0 x1 : Option Addr} {p0 k0 p1 k1 B : Nat} {C : Cl} (h : CW w x0 p0 k0 x1 p1 k1 C) (hg : w.grownBy w' (some B)) (f0 : ∀ b off, x0 = some ⟨b, off, none⟩ → ¬ b = B) (f1 : ∀ b off, x1 = some ⟨b, off, none⟩ → ¬ b = B) : CW w' x0 p0 k0 x1 p1 k1 C :=
  ⟨h.1.grown hg f0, h.2.grown hg f1⟩
theorem sub_ne {x a : Option Addr} {B : Nat} (h : x = none ∨ x = a) (f : ∀ b off, a = some ⟨b, off, none⟩ → B < b) : ∀ b off, x = some ⟨b, off, none⟩ → ¬ b = B := by
  intro b off e
  rcases h with h | h
  · rw [h] at e; cases e
  · rw [h] at e; have := f b off e; omega
/-- What the document makes of the bags of rows is their cell. -/
theorem md_of {m : Int} {l : List Rw} (hm : m = 1 ∨ m = 2) (h0 : ¬ l = []) (hl : l.length ≤ 1000) : mdB m l.length (bagOf (V0 l)) (if m = 2 then bagOf (V1 l) else []) = ofB m l ∧ mdC m l.length (bagOf (V0 l)) (if m = 2 then bagOf (V1 l) else []) = ofC m l := by
  have hg := cg_yes (ofR_good hm h0 hl)
  have e : mdR m l.length (bagOf (V0 l)) (if m = 2 then bagOf (V1 l) else []) = ofR m l := by
    unfold mdR ofR
    rw [bagOf_wsum]
    rcases hm with rfl | rfl
    · rfl
    · simp only [if_true, bagOf_wsum]
  have eb : mdB m l.length (bagOf (V0 l)) (if m = 2 then bagOf (V1 l) else []) = ofB m l := by
    unfold mdB ofB
    rw [e, hg, bagOf_wsum]
    have : l.isEmpty = false := by simpa using h0
    rcases hm with rfl | rfl
    · simp [this]
    · simp only [if_true, bagOf_wsum, this]
      simp
  refine ⟨eb, ?_⟩
  unfold mdC ofC
  rw [eb, e]

set_option maxHeartbeats 32000000 in
theorem crof_m (m : Int) (a : Option Addr) (n c : Nat) (l : List Rw) (C : Cl) (v : Bool) (w : World) (hl : RRow w a n c l) (hk : ∀ r ∈ l, rok r) (hn : n ≤ 1000) (hC : Hid (ofC m l = C)) (hv : Hid (ofB m l = v)) :
    Calls Try.prog 16 #[.int .i64 m, .slice a n c] w fun e w' => (∃ a0 p0 k0 a1 p1 k1, e = .returned (.agg #[.int .i64 C.n, .int .i64 C.s0, .int .i64 C.s1, .slice a0 p0 k0, .slice a1 p1 k1, .bool v]) ∧ CW w' a0 p0 k0 a1 p1 k1 C) ∧ Below w.heap.size w w' := by
  have HL := hid hl
  obtain ⟨l1, l2⟩ := hl.lens
  have EL := hid l1
  have I0 := hid (V0_i64 hk)
  have I1 := hid (V1_i64 hk)
  clear hl l1 hk
  have KR0 := hid (kp_new w (.cells #[.int .i64 0, .int .i64 0, .int .i64 0, .slice none 0 0, .slice none 0 0, .bool false] 36))
  by_cases hm : m = 1 ∨ m = 2
  · have q1 : decide (m < 1) = false := decide_eq_false (by omega)
    have q2 : decide (2 < m) = false := decide_eq_false (by omega)
    by_cases h0 : n = 0
    · subst h0
      have hx : l = [] := List.length_eq_zero_iff.mp EL.out.symm
      subst hx
      have HZ := hid (And.intro (hC.out.symm.trans (ofC_no (ofB_e))) (hv.out.symm.trans (ofB_e)))
      go_enter Try.func16, Try.ntmps16
      go_wp2_with (refine wpList_store_whole rfl 36 (.tmp 4) (.tmp 19) rfl w.heap.size (rcC 0 0 0 none 0 0 none 0 0 false) rfl rfl 36 _ KR0.out.2.2 rfl (by show _ = some 6; exact size_rc) (rcC_one _ _ _ _ _ _ _ _ _ _) ?_; intro w9 hp9 hg9; have KR9 := hid (kp_at KR0.out hg9 hp9); clear hp9 hg9)
      (try simp only [Exit.inBlock, Exit.then])
      show bodyPost Try.prog Try.f16 _ _ _ _
      refine bodyPost_ret (results_cell_row (p := 4) rfl _ _ w.heap.size _ (rcC 0 0 0 none 0 0 none 0 0 false) (0, 0) _ rfl KR9.out.2.2 Try.underlying36 rfl (by kernel_rfl)) rfl ?_
      obtain ⟨z1, z2⟩ := HZ.out; subst z1; subst z2; exact ⟨⟨none, 0, 0, none, 0, 0, rfl, cw_nil _⟩, KR9.out.1⟩
    · have hnt : ((n : Int) == 0) = false := by simp; omega
      have hnt2 : (n == 0) = false := by simp; omega
      have HNE : Hid (¬ l = []) := hid (fun e => h0 (by rw [EL.out, e]; rfl))
      clear h0
      have HMD := hid (md_of hm HNE.out (by have := EL.out; omega))
      go_enter Try.func16, Try.ntmps16
      go_upto_region 3 with fail
      go_upto_region 4 with fail
      have KN1 : Hid (Kp w ((w.alloc (.cells #[.int .i64 0, .int .i64 0, .int .i64 0, .slice none 0 0, .slice none 0 0, .bool false] 36)).alloc (.cells #[.slice none 0 0, .slice none 0 0] 24)) (w.heap.size + 1) (.cells #[.slice none 0 0, .slice none 0 0] 24)) := hid (kp_new2 (b1alloc _ _) _ _ (by simp))
      have KR1 := hid (kp_alloc KR0.out (.cells #[.slice none 0 0, .slice none 0 0] 24))
      clear KR0
      generalize (w.alloc (.cells #[.int .i64 0, .int .i64 0, .int .i64 0, .slice none 0 0, .slice none 0 0, .bool false] 36)).alloc (.cells #[.slice none 0 0, .slice none 0 0] 24) = W1 at KN1 KR1 ⊢
      obtain ⟨G, hG⟩ : ∃ y, w.heap.size + 1 = y := ⟨_, rfl⟩
      rw [hG] at KN1 ⊢
      have HNN : Hid (w.heap.size < G) := hid (by omega)
      clear hG
      go_upto_region 5 with fail
      refine wp_loop_rounds 3 ?_
      rw [rounds_succ]
      rcases hm with rfl | rfl
      · skip
        go_upto_region 8 with fail
        go_loopw [7] (fun i wr => ∃ (k : Nat) (A : Option Addr) (p d : Nat) (out : List Rn), k ≤ n ∧ i = .int .i64 k ∧ Hid (out = bagOf ((V0 l).take k)) ∧ Hid (NF wr A p d out G) ∧ Hid (Kp w wr G (.cells #[.slice A p d, .slice none 0 0] 24)) ∧ Hid (Kp w wr w.heap.size (.cells #[.int .i64 0, .int .i64 0, .int .i64 0, .slice none 0 0, .slice none 0 0, .bool false] 36))) (fun i _ => n - (intOf i).toNat)
        case atStart => exact ⟨0, none, 0, 0, [], by omega, rfl, hid rfl, hid ⟨nrun_nil _, fun b off e => by cases e⟩, KN1, KR1⟩
        case round =>
          obtain ⟨k, A, p, d, out, hkn, rfl, HO, HN, KW, KX⟩ := hrel
          have hk0 : (0 : Int) ≤ (k : Int) := by omega
          by_cases hlt : k < n
          · have hki : (k : Int) < (n : Int) := by omega
            obtain ⟨b, off, x0, x1, x2, x3, m0, m1, rfl, hb, hr, e0, e1, e2, e3, e4, e5⟩ := HL.out.pick KW.out.1 hlt
            have hvr : (V0 l)[k]? = some m0 := by unfold V0; rw [List.getElem?_map, hr]; rfl
            have HVR := hid hvr
            have HSM : Hid (Sml out) := hid (by rw [HO.out]; exact sml_of _ (by rw [List.length_take, V0_len]; have := EL.out; omega))
            have hpp : p ≤ 1000000 := by have := HN.out.1.lens.1; have := HSM.out.2.2; omega
            obtain ⟨M, hM⟩ : ∃ y, lay m0 1 out = y := ⟨_, rfl⟩
            have HM := hid hM
            have HM2 : Hid (M = bagOf ((V0 l).take (k + 1))) := hid (by rw [← HM.out, HO.out, bagOf_step HVR.out])
            have hbw : b < w.heap.size := hb
            have KS : Hid (∀ y, Below w.heap.size w y → Below w.heap.size w y ∧ y.cell? ⟨b, off + k * 6 + 4, none⟩ = some (.int .i64 m0)) := hid (fun y h => by
              obtain ⟨b', off', x0', x1', x2', x3', m0', m1', ea, hb', hr', c0, c1, c2, c3, c4, c5⟩ := HL.out.pick h hlt
              cases ea
              rw [hr] at hr'
              cases hr'
              exact ⟨h, c4⟩)
            have cz := kp_cell (j := 0) (v := .slice A p d) KW.out rfl
            clear hM hr hvr e0 e1 e2 e3 e4 e5 hb
            go_wp2
            refine wp_region_noPanic ?_
            refine wp_region_held_drew (S := fun y => Below w.heap.size w y ∧ y.cell? ⟨b, off + k * 6 + 4, none⟩ = some (.int .i64 m0)) (by kernel_rfl) (KS.out _ (bdrew KW.out.1)) (fun hHeld => ?_)
            refine tk 0 (v := ?_) ?_ ?_
            rotate_left
            · intro w hSw; (try dsimp only at hSw); go_simp; (try with_reducible rfl)
            try simp only [Act.put, List.setIfInBounds_toArray, List.set_cons_zero, List.set_cons_succ]
            refine tk 1 (v := ?_) ?_ ?_
            rotate_left
            · intro w hSw; (try dsimp only at hSw); go_simp; (try with_reducible rfl)
            try simp only [Act.put, List.setIfInBounds_toArray, List.set_cons_zero, List.set_cons_succ]
            refine tk 2 (v := ?_) ?_ ?_
            rotate_left
            · intro w hSw; (try dsimp only at hSw); go_simp; (try with_reducible rfl)
            try simp only [Act.put, List.setIfInBounds_toArray, List.set_cons_zero, List.set_cons_succ]
            refine tk 4 (v := ?_) ?_ ?_
            rotate_left
            · intro w hSw; (try dsimp only at hSw); go_simp; (try with_reducible rfl)
            try simp only [Act.put, List.setIfInBounds_toArray, List.set_cons_zero, List.set_cons_succ]
            refine tk 5 (v := ?_) ?_ ?_
            rotate_left
            · intro w hSw; (try dsimp only at hSw); go_simp; (try with_reducible rfl)
            try simp only [Act.put, List.setIfInBounds_toArray, List.set_cons_zero, List.set_cons_succ]
            refine tk 6 (v := ?_) ?_ ?_
            rotate_left
            · intro w hSw; (try dsimp only at hSw); go_simp; (try with_reducible rfl)
            try simp only [Act.put, List.setIfInBounds_toArray, List.set_cons_zero, List.set_cons_succ]
            refine tk 7 (v := ?_) ?_ ?_
            rotate_left
            · intro w hSw; (try dsimp only at hSw); go_simp; (try with_reducible rfl)
            try simp only [Act.put, List.setIfInBounds_toArray, List.set_cons_zero, List.set_cons_succ]
            refine tk 8 (v := ?_) ?_ ?_
            rotate_left
            · intro w hSw; (try dsimp only at hSw); go_simp; (try with_reducible rfl)
            try simp only [Act.put, List.setIfInBounds_toArray, List.set_cons_zero, List.set_cons_succ]
            refine tk 9 (v := ?_) ?_ ?_
            rotate_left
            · intro w hSw; (try dsimp only at hSw); go_simp; (try with_reducible rfl)
            try simp only [Act.put, List.setIfInBounds_toArray, List.set_cons_zero, List.set_cons_succ]
            refine tk 10 (v := ?_) ?_ ?_
            rotate_left
            · intro w hSw; (try dsimp only at hSw); go_simp; (try with_reducible rfl)
            try simp only [Act.put, List.setIfInBounds_toArray, List.set_cons_zero, List.set_cons_succ]
            refine rd1 3 (fun K hK => ?_)
            go_simp
            refine hK.out _ _ hHeld (fun hHeld2 => ?_)
            clear hK K hHeld; have hHeld := hHeld2; clear hHeld2
            try simp only [Act.put, List.setIfInBounds_toArray, List.set_cons_zero, List.set_cons_succ]
            refine rd1 11 (fun K hK => ?_)
            go_simp
            go_at_call 52; refine (lay_m A p d out m0 1 M _ (HN.out.1.below (Below.refl _ _).drew) (hid HSM.out.1) (hid HSM.out.2.1) (by omega) hpp HM).mono ?_; rintro e w5 ⟨⟨A5, d5, rfl, hn5, hf5⟩, hb5⟩
            refine hK.out _ _ (KS.out _ (bt hHeld.1 hb5)) (fun hHeld2 => ?_)
            clear hK K hHeld; have hHeld := hHeld2; clear hHeld2
            have X5 := hid (nf_of (G := G) hn5 hf5 (heap_lt (o := (.cells #[.slice A p d, .slice none 0 0] 24)) (by exact KW.out.2.2)))
            have KW5 := hid (KW.out.step (undrew hb5))
            have KX5 := hid (KX.out.step (undrew hb5))
            have cz5 := kp_cell (j := 0) (v := .slice A p d) KW5.out rfl
            have fz5 := kp_froz KW5.out 0
            clear hb5 hn5 hf5
            try simp only [Act.put, List.setIfInBounds_toArray, List.set_cons_zero, List.set_cons_succ]
            refine tk 12 (v := ?_) ?_ ?_
            rotate_left
            · intro w hSw; (try dsimp only at hSw); go_simp; (try with_reducible rfl)
            try simp only [Act.put, List.setIfInBounds_toArray, List.set_cons_zero, List.set_cons_succ]
            refine rd1 13 (fun K hK => ?_)
            go_simp
            refine hK.out _ _ (KS.out _ (hHeld.1.setCell (Nat.le_of_lt HNN.out) _)) (fun hHeld2 => ?_)
            clear hK K hHeld
            clear hHeld2
            try simp only [Act.put, List.setIfInBounds_toArray, List.set_cons_zero, List.set_cons_succ]
            refine wpAnyH_done (by kernel_rfl) ?_ _
            refine NoPanic.normal ?_
            have KW6 : Hid (Kp w _ G (.cells #[.slice A5 M.length d5, .slice none 0 0] 24)) := hid (kp_set (j := 0) (v := .slice A5 M.length d5) KW5.out)
            have KX6 := hid (kp_other (j := 0) (v := .slice A5 M.length d5) KX5.out (Nat.ne_of_lt HNN.out) (Nat.le_of_lt HNN.out))
            have X6 := hid (X5.out.gr (set_grown w5 G 0 (.slice A5 M.length d5)) (Nat.le_refl _))
            generalize (w5.setCell ⟨G, 0, none⟩ (.slice A5 M.length d5)) = W6 at KW6 KX6 X6 ⊢
            clear X5 KW5 KX5 cz5 fz5 KS
            go_wp2
            go_roundw
            case rel => exact ⟨k + 1, A5, M.length, d5, M, by omega, by go_num, HM2, X6, KW6, KX6⟩
            case measure => simp [intOf]; omega
          · have hkf : decide ((k : Int) < (n : Int)) = false := decide_eq_false (by omega)
            have hkf2 : decide (k < n) = false := decide_eq_false hlt
            have hpl := HN.out.1.lens.1
            have HP := hid hpl
            have HE : Hid (out = bagOf (V0 l)) := hid (by rw [HO.out, List.take_of_length_le (by rw [V0_len]; have := EL.out; omega)])
            have XE : Hid (NF wr A p d (bagOf (V0 l)) G) := hid (by rw [← HE.out]; exact HN.out)
            clear HN hpl HP HO HE
            go_wp2
            rw [rounds_succ]
            have HMC : Hid (mdC 1 (n : Int) (bagOf (V0 l)) [] = C) := hid (by have h := HMD.out.2; rw [← EL.out] at h; exact h.trans hC.out)
            have HMV : Hid (mdB 1 (n : Int) (bagOf (V0 l)) [] = v) := hid (by have h := HMD.out.1; rw [← EL.out] at h; exact h.trans hv.out)
            obtain ⟨d0, d1⟩ := box_two KW.out.2.2
            go_upto_region 11 with fail
            go_wp2_with (first
              | (go_at_call 53; refine (made_m 1 (n : Int) (bagOf (V0 l)) [] _ _ _ _ _ _ C v _ XE.out.1 (nrun_nil _) (bagOf_ok I0.out (by rw [V0_len]; have := EL.out; omega)) nok_nil (bagOf_bag (by rw [V0_len]; have := EL.out; omega)) bag_nil (by unfold I64; omega) (.inl rfl) HMC HMV).mono ?_; rintro e w7 ⟨⟨a7, p7, k7, a8, p8, k8, rfl, hcw, hs7, hs8⟩, hb7⟩; have KR7 := hid (KX.out.step hb7); have CW7 := hid (And.intro hcw (And.intro (sub_ne (B := w.heap.size) hs7 (fun b off e => Nat.lt_trans HNN.out (XE.out.2 b off e))) (sub_ne (B := w.heap.size) hs8 (fun b off e => by cases e)))); clear hcw hb7 d0 d1 hs7 hs8)
              | (refine wpList_store_whole rfl 36 (.tmp 4) (.tmp 48) rfl w.heap.size (rcC C.n C.s0 C.s1 a7 p7 k7 a8 p8 k8 v) rfl rfl 36 _ KR7.out.2.2 rfl (by show _ = some 6; exact size_rc) (rcC_one _ _ _ _ _ _ _ _ _ _) ?_; intro w9 hp9 hg9; have KR9 := hid (kp_at KR7.out hg9 hp9); have CW9 : Hid (CW w9 a7 p7 k7 a8 p8 k8 C) := hid (cw_gr CW7.out.1 hg9 CW7.out.2.1 CW7.out.2.2); clear hp9 hg9))
            (try simp only [Exit.inBlock, Exit.then])
            show bodyPost Try.prog Try.f16 _ _ _ _
            refine bodyPost_ret (results_cell_row (p := 4) rfl _ _ w.heap.size _ (rcC C.n C.s0 C.s1 a7 p7 k7 a8 p8 k8 v) (0, 0) _ rfl KR9.out.2.2 Try.underlying36 rfl (by kernel_rfl)) rfl ?_
            exact ⟨⟨_, _, _, _, _, _, rfl, CW9.out⟩, KR9.out.1⟩
      · skip
        go_upto_region 8 with fail
        go_loopw [7] (fun i wr => ∃ (k : Nat) (A : Option Addr) (p d : Nat) (out : List Rn), k ≤ n ∧ i = .int .i64 k ∧ Hid (out = bagOf ((V0 l).take k)) ∧ Hid (NF wr A p d out G) ∧ Hid (Kp w wr G (.cells #[.slice A p d, .slice none 0 0] 24)) ∧ Hid (Kp w wr w.heap.size (.cells #[.int .i64 0, .int .i64 0, .int .i64 0, .slice none 0 0, .slice none 0 0, .bool false] 36))) (fun i _ => n - (intOf i).toNat)
        case atStart => exact ⟨0, none, 0, 0, [], by omega, rfl, hid rfl, hid ⟨nrun_nil _, fun b off e => by cases e⟩, KN1, KR1⟩
        case round =>
          obtain ⟨k, A, p, d, out, hkn, rfl, HO, HN, KW, KX⟩ := hrel
          have hk0 : (0 : Int) ≤ (k : Int) := by omega
          by_cases hlt : k < n
          · have hki : (k : Int) < (n : Int) := by omega
            obtain ⟨b, off, x0, x1, x2, x3, m0, m1, rfl, hb, hr, e0, e1, e2, e3, e4, e5⟩ := HL.out.pick KW.out.1 hlt
            have hvr : (V0 l)[k]? = some m0 := by unfold V0; rw [List.getElem?_map, hr]; rfl
            have HVR := hid hvr
            have HSM : Hid (Sml out) := hid (by rw [HO.out]; exact sml_of _ (by rw [List.length_take, V0_len]; have := EL.out; omega))
            have hpp : p ≤ 1000000 := by have := HN.out.1.lens.1; have := HSM.out.2.2; omega
            obtain ⟨M, hM⟩ : ∃ y, lay m0 1 out = y := ⟨_, rfl⟩
            have HM := hid hM
            have HM2 : Hid (M = bagOf ((V0 l).take (k + 1))) := hid (by rw [← HM.out, HO.out, bagOf_step HVR.out])
            have hbw : b < w.heap.size := hb
            have KS : Hid (∀ y, Below w.heap.size w y → Below w.heap.size w y ∧ y.cell? ⟨b, off + k * 6 + 4, none⟩ = some (.int .i64 m0)) := hid (fun y h => by
              obtain ⟨b', off', x0', x1', x2', x3', m0', m1', ea, hb', hr', c0, c1, c2, c3, c4, c5⟩ := HL.out.pick h hlt
              cases ea
              rw [hr] at hr'
              cases hr'
              exact ⟨h, c4⟩)
            have cz := kp_cell (j := 0) (v := .slice A p d) KW.out rfl
            clear hM hr hvr e0 e1 e2 e3 e4 e5 hb
            go_wp2
            refine wp_region_noPanic ?_
            refine wp_region_held_drew (S := fun y => Below w.heap.size w y ∧ y.cell? ⟨b, off + k * 6 + 4, none⟩ = some (.int .i64 m0)) (by kernel_rfl) (KS.out _ (bdrew KW.out.1)) (fun hHeld => ?_)
            refine tk 0 (v := ?_) ?_ ?_
            rotate_left
            · intro w hSw; (try dsimp only at hSw); go_simp; (try with_reducible rfl)
            try simp only [Act.put, List.setIfInBounds_toArray, List.set_cons_zero, List.set_cons_succ]
            refine tk 1 (v := ?_) ?_ ?_
            rotate_left
            · intro w hSw; (try dsimp only at hSw); go_simp; (try with_reducible rfl)
            try simp only [Act.put, List.setIfInBounds_toArray, List.set_cons_zero, List.set_cons_succ]
            refine tk 2 (v := ?_) ?_ ?_
            rotate_left
            · intro w hSw; (try dsimp only at hSw); go_simp; (try with_reducible rfl)
            try simp only [Act.put, List.setIfInBounds_toArray, List.set_cons_zero, List.set_cons_succ]
            refine tk 4 (v := ?_) ?_ ?_
            rotate_left
            · intro w hSw; (try dsimp only at hSw); go_simp; (try with_reducible rfl)
            try simp only [Act.put, List.setIfInBounds_toArray, List.set_cons_zero, List.set_cons_succ]
            refine tk 5 (v := ?_) ?_ ?_
            rotate_left
            · intro w hSw; (try dsimp only at hSw); go_simp; (try with_reducible rfl)
            try simp only [Act.put, List.setIfInBounds_toArray, List.set_cons_zero, List.set_cons_succ]
            refine tk 6 (v := ?_) ?_ ?_
            rotate_left
            · intro w hSw; (try dsimp only at hSw); go_simp; (try with_reducible rfl)
            try simp only [Act.put, List.setIfInBounds_toArray, List.set_cons_zero, List.set_cons_succ]
            refine tk 7 (v := ?_) ?_ ?_
            rotate_left
            · intro w hSw; (try dsimp only at hSw); go_simp; (try with_reducible rfl)
            try simp only [Act.put, List.setIfInBounds_toArray, List.set_cons_zero, List.set_cons_succ]
            refine tk 8 (v := ?_) ?_ ?_
            rotate_left
            · intro w hSw; (try dsimp only at hSw); go_simp; (try with_reducible rfl)
            try simp only [Act.put, List.setIfInBounds_toArray, List.set_cons_zero, List.set_cons_succ]
            refine tk 9 (v := ?_) ?_ ?_
            rotate_left
            · intro w hSw; (try dsimp only at hSw); go_simp; (try with_reducible rfl)
            try simp only [Act.put, List.setIfInBounds_toArray, List.set_cons_zero, List.set_cons_succ]
            refine tk 10 (v := ?_) ?_ ?_
            rotate_left
            · intro w hSw; (try dsimp only at hSw); go_simp; (try with_reducible rfl)
            try simp only [Act.put, List.setIfInBounds_toArray, List.set_cons_zero, List.set_cons_succ]
            refine rd1 3 (fun K hK => ?_)
            go_simp
            refine hK.out _ _ hHeld (fun hHeld2 => ?_)
            clear hK K hHeld; have hHeld := hHeld2; clear hHeld2
            try simp only [Act.put, List.setIfInBounds_toArray, List.set_cons_zero, List.set_cons_succ]
            refine rd1 11 (fun K hK => ?_)
            go_simp
            go_at_call 52; refine (lay_m A p d out m0 1 M _ (HN.out.1.below (Below.refl _ _).drew) (hid HSM.out.1) (hid HSM.out.2.1) (by omega) hpp HM).mono ?_; rintro e w5 ⟨⟨A5, d5, rfl, hn5, hf5⟩, hb5⟩
            refine hK.out _ _ (KS.out _ (bt hHeld.1 hb5)) (fun hHeld2 => ?_)
            clear hK K hHeld; have hHeld := hHeld2; clear hHeld2
            have X5 := hid (nf_of (G := G) hn5 hf5 (heap_lt (o := (.cells #[.slice A p d, .slice none 0 0] 24)) (by exact KW.out.2.2)))
            have KW5 := hid (KW.out.step (undrew hb5))
            have KX5 := hid (KX.out.step (undrew hb5))
            have cz5 := kp_cell (j := 0) (v := .slice A p d) KW5.out rfl
            have fz5 := kp_froz KW5.out 0
            clear hb5 hn5 hf5
            try simp only [Act.put, List.setIfInBounds_toArray, List.set_cons_zero, List.set_cons_succ]
            refine tk 12 (v := ?_) ?_ ?_
            rotate_left
            · intro w hSw; (try dsimp only at hSw); go_simp; (try with_reducible rfl)
            try simp only [Act.put, List.setIfInBounds_toArray, List.set_cons_zero, List.set_cons_succ]
            refine rd1 13 (fun K hK => ?_)
            go_simp
            refine hK.out _ _ (KS.out _ (hHeld.1.setCell (Nat.le_of_lt HNN.out) _)) (fun hHeld2 => ?_)
            clear hK K hHeld
            clear hHeld2
            try simp only [Act.put, List.setIfInBounds_toArray, List.set_cons_zero, List.set_cons_succ]
            refine wpAnyH_done (by kernel_rfl) ?_ _
            refine NoPanic.normal ?_
            have KW6 : Hid (Kp w _ G (.cells #[.slice A5 M.length d5, .slice none 0 0] 24)) := hid (kp_set (j := 0) (v := .slice A5 M.length d5) KW5.out)
            have KX6 := hid (kp_other (j := 0) (v := .slice A5 M.length d5) KX5.out (Nat.ne_of_lt HNN.out) (Nat.le_of_lt HNN.out))
            have X6 := hid (X5.out.gr (set_grown w5 G 0 (.slice A5 M.length d5)) (Nat.le_refl _))
            generalize (w5.setCell ⟨G, 0, none⟩ (.slice A5 M.length d5)) = W6 at KW6 KX6 X6 ⊢
            clear X5 KW5 KX5 cz5 fz5 KS
            go_wp2
            go_roundw
            case rel => exact ⟨k + 1, A5, M.length, d5, M, by omega, by go_num, HM2, X6, KW6, KX6⟩
            case measure => simp [intOf]; omega
          · have hkf : decide ((k : Int) < (n : Int)) = false := decide_eq_false (by omega)
            have hkf2 : decide (k < n) = false := decide_eq_false hlt
            have hpl := HN.out.1.lens.1
            have HP := hid hpl
            have HE : Hid (out = bagOf (V0 l)) := hid (by rw [HO.out, List.take_of_length_le (by rw [V0_len]; have := EL.out; omega)])
            have XE : Hid (NF wr A p d (bagOf (V0 l)) G) := hid (by rw [← HE.out]; exact HN.out)
            clear HN hpl HP HO HE
            have KN2 := KW
            have KR2 := KX
            have X0 := XE
            clear KW KX XE
            go_wp2
            rw [rounds_succ]
            generalize A = Aa at KN2 X0 ⊢
            generalize p = pa at KN2 X0 ⊢
            generalize d = da at KN2 X0 ⊢
            go_upto_region 8 with fail
            go_loopw [7] (fun i wr => ∃ (k : Nat) (A : Option Addr) (p d : Nat) (out : List Rn), k ≤ n ∧ i = .int .i64 k ∧ Hid (out = bagOf ((V1 l).take k)) ∧ Hid (NF wr A p d out G) ∧ Hid (Kp w wr G (.cells #[.slice Aa pa da, .slice A p d] 24)) ∧ Hid (Kp w wr w.heap.size (.cells #[.int .i64 0, .int .i64 0, .int .i64 0, .slice none 0 0, .slice none 0 0, .bool false] 36)) ∧ Hid (NF wr Aa pa da (bagOf (V0 l)) G)) (fun i _ => n - (intOf i).toNat)
            case atStart => exact ⟨0, none, 0, 0, [], by omega, rfl, hid rfl, hid ⟨nrun_nil _, fun b off e => by cases e⟩, KN2, KR2, X0⟩
            case round =>
              obtain ⟨k, A, p, d, out, hkn, rfl, HO, HN, KW, KX, HZ0⟩ := hrel
              have hk0 : (0 : Int) ≤ (k : Int) := by omega
              by_cases hlt : k < n
              · have hki : (k : Int) < (n : Int) := by omega
                obtain ⟨b, off, x0, x1, x2, x3, m0, m1, rfl, hb, hr, e0, e1, e2, e3, e4, e5⟩ := HL.out.pick KW.out.1 hlt
                have hvr : (V1 l)[k]? = some m1 := by unfold V1; rw [List.getElem?_map, hr]; rfl
                have HVR := hid hvr
                have HSM : Hid (Sml out) := hid (by rw [HO.out]; exact sml_of _ (by rw [List.length_take, V1_len]; have := EL.out; omega))
                have hpp : p ≤ 1000000 := by have := HN.out.1.lens.1; have := HSM.out.2.2; omega
                obtain ⟨M, hM⟩ : ∃ y, lay m1 1 out = y := ⟨_, rfl⟩
                have HM := hid hM
                have HM2 : Hid (M = bagOf ((V1 l).take (k + 1))) := hid (by rw [← HM.out, HO.out, bagOf_step HVR.out])
                have hbw : b < w.heap.size := hb
                have KS : Hid (∀ y, Below w.heap.size w y → Below w.heap.size w y ∧ y.cell? ⟨b, off + k * 6 + 5, none⟩ = some (.int .i64 m1)) := hid (fun y h => by
                  obtain ⟨b', off', x0', x1', x2', x3', m0', m1', ea, hb', hr', c0, c1, c2, c3, c4, c5⟩ := HL.out.pick h hlt
                  cases ea
                  rw [hr] at hr'
                  cases hr'
                  exact ⟨h, c5⟩)
                have cz := kp_cell (j := 1) (v := .slice A p d) KW.out rfl
                clear hM hr hvr e0 e1 e2 e3 e4 e5 hb
                go_wp2
                refine wp_region_noPanic ?_
                refine wp_region_held_drew (S := fun y => Below w.heap.size w y ∧ y.cell? ⟨b, off + k * 6 + 5, none⟩ = some (.int .i64 m1)) (by kernel_rfl) (KS.out _ (bdrew KW.out.1)) (fun hHeld => ?_)
                refine tk 0 (v := ?_) ?_ ?_
                rotate_left
                · intro w hSw; (try dsimp only at hSw); go_simp; (try with_reducible rfl)
                try simp only [Act.put, List.setIfInBounds_toArray, List.set_cons_zero, List.set_cons_succ]
                refine tk 1 (v := ?_) ?_ ?_
                rotate_left
                · intro w hSw; (try dsimp only at hSw); go_simp; (try with_reducible rfl)
                try simp only [Act.put, List.setIfInBounds_toArray, List.set_cons_zero, List.set_cons_succ]
                refine tk 2 (v := ?_) ?_ ?_
                rotate_left
                · intro w hSw; (try dsimp only at hSw); go_simp; (try with_reducible rfl)
                try simp only [Act.put, List.setIfInBounds_toArray, List.set_cons_zero, List.set_cons_succ]
                refine tk 4 (v := ?_) ?_ ?_
                rotate_left
                · intro w hSw; (try dsimp only at hSw); go_simp; (try with_reducible rfl)
                try simp only [Act.put, List.setIfInBounds_toArray, List.set_cons_zero, List.set_cons_succ]
                refine tk 5 (v := ?_) ?_ ?_
                rotate_left
                · intro w hSw; (try dsimp only at hSw); go_simp; (try with_reducible rfl)
                try simp only [Act.put, List.setIfInBounds_toArray, List.set_cons_zero, List.set_cons_succ]
                refine tk 6 (v := ?_) ?_ ?_
                rotate_left
                · intro w hSw; (try dsimp only at hSw); go_simp; (try with_reducible rfl)
                try simp only [Act.put, List.setIfInBounds_toArray, List.set_cons_zero, List.set_cons_succ]
                refine tk 7 (v := ?_) ?_ ?_
                rotate_left
                · intro w hSw; (try dsimp only at hSw); go_simp; (try with_reducible rfl)
                try simp only [Act.put, List.setIfInBounds_toArray, List.set_cons_zero, List.set_cons_succ]
                refine tk 8 (v := ?_) ?_ ?_
                rotate_left
                · intro w hSw; (try dsimp only at hSw); go_simp; (try with_reducible rfl)
                try simp only [Act.put, List.setIfInBounds_toArray, List.set_cons_zero, List.set_cons_succ]
                refine tk 9 (v := ?_) ?_ ?_
                rotate_left
                · intro w hSw; (try dsimp only at hSw); go_simp; (try with_reducible rfl)
                try simp only [Act.put, List.setIfInBounds_toArray, List.set_cons_zero, List.set_cons_succ]
                refine tk 10 (v := ?_) ?_ ?_
                rotate_left
                · intro w hSw; (try dsimp only at hSw); go_simp; (try with_reducible rfl)
                try simp only [Act.put, List.setIfInBounds_toArray, List.set_cons_zero, List.set_cons_succ]
                refine rd1 3 (fun K hK => ?_)
                go_simp
                refine hK.out _ _ hHeld (fun hHeld2 => ?_)
                clear hK K hHeld; have hHeld := hHeld2; clear hHeld2
                try simp only [Act.put, List.setIfInBounds_toArray, List.set_cons_zero, List.set_cons_succ]
                refine rd1 11 (fun K hK => ?_)
                go_simp
                go_at_call 52; refine (lay_m A p d out m1 1 M _ (HN.out.1.below (Below.refl _ _).drew) (hid HSM.out.1) (hid HSM.out.2.1) (by omega) hpp HM).mono ?_; rintro e w5 ⟨⟨A5, d5, rfl, hn5, hf5⟩, hb5⟩
                refine hK.out _ _ (KS.out _ (bt hHeld.1 hb5)) (fun hHeld2 => ?_)
                clear hK K hHeld; have hHeld := hHeld2; clear hHeld2
                have X5 := hid (nf_of (G := G) hn5 hf5 (heap_lt (o := (.cells #[.slice Aa pa da, .slice A p d] 24)) (by exact KW.out.2.2)))
                have KW5 := hid (KW.out.step (undrew hb5))
                have KX5 := hid (KX.out.step (undrew hb5))
                have Z5 := hid (HZ0.out.below (undrew hb5))
                have cz5 := kp_cell (j := 1) (v := .slice A p d) KW5.out rfl
                have fz5 := kp_froz KW5.out 1
                clear hb5 hn5 hf5
                try simp only [Act.put, List.setIfInBounds_toArray, List.set_cons_zero, List.set_cons_succ]
                refine tk 12 (v := ?_) ?_ ?_
                rotate_left
                · intro w hSw; (try dsimp only at hSw); go_simp; (try with_reducible rfl)
                try simp only [Act.put, List.setIfInBounds_toArray, List.set_cons_zero, List.set_cons_succ]
                refine rd1 13 (fun K hK => ?_)
                go_simp
                refine hK.out _ _ (KS.out _ (hHeld.1.setCell (Nat.le_of_lt HNN.out) _)) (fun hHeld2 => ?_)
                clear hK K hHeld
                clear hHeld2
                try simp only [Act.put, List.setIfInBounds_toArray, List.set_cons_zero, List.set_cons_succ]
                refine wpAnyH_done (by kernel_rfl) ?_ _
                refine NoPanic.normal ?_
                have KW6 : Hid (Kp w _ G (.cells #[.slice Aa pa da, .slice A5 M.length d5] 24)) := hid (kp_set (j := 1) (v := .slice A5 M.length d5) KW5.out)
                have KX6 := hid (kp_other (j := 1) (v := .slice A5 M.length d5) KX5.out (Nat.ne_of_lt HNN.out) (Nat.le_of_lt HNN.out))
                have X6 := hid (X5.out.gr (set_grown w5 G 1 (.slice A5 M.length d5)) (Nat.le_refl _))
                have Z6 := hid (Z5.out.gr (set_grown w5 G 1 (.slice A5 M.length d5)) (Nat.le_refl _))
                generalize (w5.setCell ⟨G, 1, none⟩ (.slice A5 M.length d5)) = W6 at KW6 KX6 X6 Z6 ⊢
                clear X5 KW5 KX5 cz5 fz5 KS
                go_wp2
                go_roundw
                case rel => exact ⟨k + 1, A5, M.length, d5, M, by omega, by go_num, HM2, X6, KW6, KX6, Z6⟩
                case measure => simp [intOf]; omega
              · have hkf : decide ((k : Int) < (n : Int)) = false := decide_eq_false (by omega)
                have hkf2 : decide (k < n) = false := decide_eq_false hlt
                have hpl := HN.out.1.lens.1
                have HP := hid hpl
                have HE : Hid (out = bagOf (V1 l)) := hid (by rw [HO.out, List.take_of_length_le (by rw [V1_len]; have := EL.out; omega)])
                have XE : Hid (NF wr A p d (bagOf (V1 l)) G) := hid (by rw [← HE.out]; exact HN.out)
                clear HN hpl HP HO HE
                go_wp2
                rw [rounds_succ]
                have HMC : Hid (mdC 2 (n : Int) (bagOf (V0 l)) (bagOf (V1 l)) = C) := hid (by have h := HMD.out.2; rw [← EL.out] at h; exact h.trans hC.out)
                have HMV : Hid (mdB 2 (n : Int) (bagOf (V0 l)) (bagOf (V1 l)) = v) := hid (by have h := HMD.out.1; rw [← EL.out] at h; exact h.trans hv.out)
                obtain ⟨d0, d1⟩ := box_two KW.out.2.2
                go_upto_region 11 with fail
                go_wp2_with (first
                  | (go_at_call 53; refine (made_m 2 (n : Int) (bagOf (V0 l)) (bagOf (V1 l)) _ _ _ _ _ _ C v _ HZ0.out.1 XE.out.1 (bagOf_ok I0.out (by rw [V0_len]; have := EL.out; omega)) (bagOf_ok I1.out (by rw [V1_len]; have := EL.out; omega)) (bagOf_bag (by rw [V0_len]; have := EL.out; omega)) (bagOf_bag (by rw [V1_len]; have := EL.out; omega)) (by unfold I64; omega) (.inr rfl) HMC HMV).mono ?_; rintro e w7 ⟨⟨a7, p7, k7, a8, p8, k8, rfl, hcw, hs7, hs8⟩, hb7⟩; have KR7 := hid (KX.out.step hb7); have CW7 := hid (And.intro hcw (And.intro (sub_ne (B := w.heap.size) hs7 (fun b off e => Nat.lt_trans HNN.out (HZ0.out.2 b off e))) (sub_ne (B := w.heap.size) hs8 (fun b off e => Nat.lt_trans HNN.out (XE.out.2 b off e))))); clear hcw hb7 d0 d1 hs7 hs8)
                  | (refine wpList_store_whole rfl 36 (.tmp 4) (.tmp 48) rfl w.heap.size (rcC C.n C.s0 C.s1 a7 p7 k7 a8 p8 k8 v) rfl rfl 36 _ KR7.out.2.2 rfl (by show _ = some 6; exact size_rc) (rcC_one _ _ _ _ _ _ _ _ _ _) ?_; intro w9 hp9 hg9; have KR9 := hid (kp_at KR7.out hg9 hp9); have CW9 : Hid (CW w9 a7 p7 k7 a8 p8 k8 C) := hid (cw_gr CW7.out.1 hg9 CW7.out.2.1 CW7.out.2.2); clear hp9 hg9))
                (try simp only [Exit.inBlock, Exit.then])
                show bodyPost Try.prog Try.f16 _ _ _ _
                refine bodyPost_ret (results_cell_row (p := 4) rfl _ _ w.heap.size _ (rcC C.n C.s0 C.s1 a7 p7 k7 a8 p8 k8 v) (0, 0) _ rfl KR9.out.2.2 Try.underlying36 rfl (by kernel_rfl)) rfl ?_
                exact ⟨⟨_, _, _, _, _, _, rfl, CW9.out⟩, KR9.out.1⟩
  · have HZ := hid (And.intro (hC.out.symm.trans (ofC_no (ofB_m hm))) (hv.out.symm.trans (ofB_m hm)))
    by_cases h1 : m < 1
    · have q1 : decide (m < 1) = true := decide_eq_true h1
      go_enter Try.func16, Try.ntmps16
      go_wp2_with (refine wpList_store_whole rfl 36 (.tmp 4) (.tmp 19) rfl w.heap.size (rcC 0 0 0 none 0 0 none 0 0 false) rfl rfl 36 _ KR0.out.2.2 rfl (by show _ = some 6; exact size_rc) (rcC_one _ _ _ _ _ _ _ _ _ _) ?_; intro w9 hp9 hg9; have KR9 := hid (kp_at KR0.out hg9 hp9); clear hp9 hg9)
      (try simp only [Exit.inBlock, Exit.then])
      show bodyPost Try.prog Try.f16 _ _ _ _
      refine bodyPost_ret (results_cell_row (p := 4) rfl _ _ w.heap.size _ (rcC 0 0 0 none 0 0 none 0 0 false) (0, 0) _ rfl KR9.out.2.2 Try.underlying36 rfl (by kernel_rfl)) rfl ?_
      obtain ⟨z1, z2⟩ := HZ.out; subst z1; subst z2; exact ⟨⟨none, 0, 0, none, 0, 0, rfl, cw_nil _⟩, KR9.out.1⟩
    · have q1 : decide (m < 1) = false := decide_eq_false h1
      have q2 : decide (2 < m) = true := decide_eq_true (by omega)
      go_enter Try.func16, Try.ntmps16
      go_wp2_with (refine wpList_store_whole rfl 36 (.tmp 4) (.tmp 19) rfl w.heap.size (rcC 0 0 0 none 0 0 none 0 0 false) rfl rfl 36 _ KR0.out.2.2 rfl (by show _ = some 6; exact size_rc) (rcC_one _ _ _ _ _ _ _ _ _ _) ?_; intro w9 hp9 hg9; have KR9 := hid (kp_at KR0.out hg9 hp9); clear hp9 hg9)
      (try simp only [Exit.inBlock, Exit.then])
      show bodyPost Try.prog Try.f16 _ _ _ _
      refine bodyPost_ret (results_cell_row (p := 4) rfl _ _ w.heap.size _ (rcC 0 0 0 none 0 0 none 0 0 false) (0, 0) _ rfl KR9.out.2.2 Try.underlying36 rfl (by kernel_rfl)) rfl ?_
      obtain ⟨z1, z2⟩ := HZ.out; subst z1; subst z2; exact ⟨⟨none, 0, 0, none, 0, 0, rfl, cw_nil _⟩, KR9.out.1⟩

end Go.Proofs.Ytjkkajhjcinalaa

/-
  The document's own cell of bags: what made of it returns.
  Conditions: as each theorem states them.
-/
import Derived.Test.YtjkkajhjcinalaaH9
import Derived.Test.YtjkkajhjcinalaaC9
namespace Go.Proofs.Ytjkkajhjcinalaa
open Go.ChangeShapes Go.WideShapes Go.ChangeAt Go.RowKit
set_option linter.unusedVariables false
set_option linter.unusedSimpArgs false
set_option maxRecDepth 100000

def mdR (m n : Int) (B0 B1 : List Rn) : Cl := ⟨n, wsum B0, if m = 2 then wsum B1 else 0, B0, B1⟩
def mdB (m n : Int) (B0 B1 : List Rn) : Bool := calc.fitB (wsum B0) && ((decide (m = 1) || calc.fitB (wsum B1)) && cg m (mdR m n B0 B1))
def mdC (m n : Int) (B0 B1 : List Rn) : Cl := if mdB m n B0 B1 then mdR m n B0 B1 else cl0
theorem mdC_yes {m n : Int} {B0 B1 : List Rn} (h : mdB m n B0 B1 = true) : mdC m n B0 B1 = mdR m n B0 B1 := by unfold mdC; rw [h]; rfl
theorem mdC_no {m n : Int} {B0 B1 : List Rn} (h : mdB m n B0 B1 = false) : mdC m n B0 B1 = cl0 := by unfold mdC; rw [h]; rfl
theorem mdB_f0 {m n : Int} {B0 B1 : List Rn} (h : calc.fitB (wsum B0) = false) : mdB m n B0 B1 = false := by unfold mdB; rw [h]; rfl
theorem mdB_f1 {n : Int} {B0 B1 : List Rn} (h : calc.fitB (wsum B1) = false) : mdB 2 n B0 B1 = false := by unfold mdB; rw [h]; simp
theorem mdB_1 {n : Int} {B0 B1 : List Rn} (h : calc.fitB (wsum B0) = true) : mdB 1 n B0 B1 = cg 1 (mdR 1 n B0 B1) := by unfold mdB; rw [h]; simp
theorem mdB_2 {n : Int} {B0 B1 : List Rn} (h : calc.fitB (wsum B0) = true) (h1 : calc.fitB (wsum B1) = true) : mdB 2 n B0 B1 = cg 2 (mdR 2 n B0 B1) := by unfold mdB; rw [h, h1]; simp
theorem size_rc : (Try.prog.info? 36).map (·.size) = some 6 := by kernel_rfl
abbrev rcC (n s0 s1 : Int) (a0 : Option Addr) (p0 k0 : Nat) (a1 : Option Addr) (p1 k1 : Nat) (v : Bool) : Array Value := #[.int .i64 n, .int .i64 s0, .int .i64 s1, .slice a0 p0 k0, .slice a1 p1 k1, .bool v]
theorem rcC_one (n s0 s1 : Int) (a0 : Option Addr) (p0 k0 : Nat) (a1 : Option Addr) (p1 k1 : Nat) (v : Bool) : ∀ x ∈ (rcC n s0 s1 a0 p0 k0 a1 p1 k1 v).toList, x.oneCell' = true := by
  intro x hx
  simp only [List.mem_cons, List.not_mem_nil, or_false] at hx
  rcases hx with rfl | rfl | rfl | rfl | rfl | rfl <;> rfl
theorem back_n (x S : Int) (f : Bool) (w : World) (hS : Hid (calc.fitV x = S)) (hf : Hid (calc.fitB x = f)) :
    Calls Try.prog 92 #[.agg #[.bool (calc.ng x), .int .u64 (calc.hi (calc.sz x)), .int .u64 (calc.lo (calc.sz x))]] w fun e w' => e = .returned (.tuple #[.int .i64 S, .bool f]) ∧ Below w.heap.size w w' := by
  have := calc.back_any x w
  rw [hS.out, hf.out] at this
  exact this
theorem wide_n (a : Option Addr) (n c : Nat) (l : List Rn) (x : Int) (w : World) (hl : NRun w a n c l) (hk : ∀ r ∈ l, nok r) (hb : Hid (Bag l)) (hx : Hid (wsum l = x)) :
    Calls Try.prog 61 #[.slice a n c] w fun e w' => e = .returned (.agg #[.bool (calc.ng x), .int .u64 (calc.hi (calc.sz x)), .int .u64 (calc.lo (calc.sz x))]) ∧ Below w.heap.size w w' := by
  have := wide_good a n c l w hl hk hb.out
  rw [hx.out] at this
  exact this

set_option maxHeartbeats 32000000 in
theorem made_m (m n : Int) (B0 B1 : List Rn) (a0 : Option Addr) (p0 k0 : Nat) (a1 : Option Addr) (p1 k1 : Nat) (C : Cl) (v : Bool) (w : World) (h0 : NRun w a0 p0 k0 B0) (h1 : NRun w a1 p1 k1 B1) (o0 : ∀ r ∈ B0, nok r) (o1 : ∀ r ∈ B1, nok r) (g0 : Bag B0) (g1 : Bag B1) (hn : I64 n) (hm : m = 1 ∨ m = 2) (hC : Hid (mdC m n B0 B1 = C)) (hv : Hid (mdB m n B0 B1 = v)) :
    Calls Try.prog 53 #[.int .i64 m, .int .i64 n, .agg #[.slice a0 p0 k0, .slice a1 p1 k1]] w fun e w' => (∃ x0 p0 k0 x1 p1 k1, e = .returned (.agg #[.int .i64 C.n, .int .i64 C.s0, .int .i64 C.s1, .slice x0 p0 k0, .slice x1 p1 k1, .bool v]) ∧ CW w' x0 p0 k0 x1 p1 k1 C ∧ (x0 = none ∨ x0 = a0) ∧ (x1 = none ∨ x1 = a1)) ∧ Below w.heap.size w w' := by
  have H0 := hid h0
  have H1 := hid h1
  have O0 := hid o0
  have O1 := hid o1
  have G0 := hid g0
  have G1 := hid g1
  have HN := hid hn
  clear h0 h1 o0 o1 g0 g1 hn
  have KB0 : Hid (Kp w ((w.alloc (.cells #[.slice a0 p0 k0, .slice a1 p1 k1] 24)).alloc (.cells #[.int .i64 0, .int .i64 0, .int .i64 0, .slice none 0 0, .slice none 0 0, .bool false] 36)) w.heap.size (.cells #[.slice a0 p0 k0, .slice a1 p1 k1] 24)) := hid (kp_alloc (kp_new w _) _)
  have KR0 : Hid (Kp w ((w.alloc (.cells #[.slice a0 p0 k0, .slice a1 p1 k1] 24)).alloc (.cells #[.int .i64 0, .int .i64 0, .int .i64 0, .slice none 0 0, .slice none 0 0, .bool false] 36)) (w.heap.size + 1) (.cells #[.int .i64 0, .int .i64 0, .int .i64 0, .slice none 0 0, .slice none 0 0, .bool false] 36)) := hid (kp_new2 (b1alloc _ _) _ _ (by simp))
  obtain ⟨X0, hX0⟩ : ∃ y, wsum B0 = y := ⟨_, rfl⟩
  obtain ⟨S0, hS0⟩ : ∃ y, calc.fitV X0 = y := ⟨_, rfl⟩
  obtain ⟨u0, hu0⟩ : ∃ y, calc.fitB X0 = y := ⟨_, rfl⟩
  have FX0 := hid hX0
  have FS0 := hid hS0
  have FU0 := hid hu0
  clear hX0 hS0 hu0
  go_enter Try.func53, Try.ntmps53
  go_upto_region 1 with fail
  generalize (w.alloc (.cells #[.slice a0 p0 k0, .slice a1 p1 k1] 24)).alloc (.cells #[.int .i64 0, .int .i64 0, .int .i64 0, .slice none 0 0, .slice none 0 0, .bool false] 36) = W0 at KB0 KR0 ⊢
  obtain ⟨d0, d1⟩ := box_two KB0.out.2.2
  go_upto_region 2 with fail
  have KN1 : Hid (Kp w (W0.alloc (.cells #[.int .i64 n, .int .i64 0, .int .i64 0, .slice a0 p0 k0, .slice a1 p1 k1] 26)) W0.heap.size (.cells #[.int .i64 n, .int .i64 0, .int .i64 0, .slice a0 p0 k0, .slice a1 p1 k1] 26)) := hid (kp_new2 KB0.out.1 _ _ rfl)
  have hne : w.heap.size + 1 < W0.heap.size := heap_lt KR0.out.2.2
  have KB1 := hid (kp_alloc KB0.out (.cells #[.int .i64 n, .int .i64 0, .int .i64 0, .slice a0 p0 k0, .slice a1 p1 k1] 26))
  have KR1 := hid (kp_alloc KR0.out (.cells #[.int .i64 n, .int .i64 0, .int .i64 0, .slice a0 p0 k0, .slice a1 p1 k1] 26))
  have HNN := hid hne
  have HZZ : Hid (w.heap.size ≤ W0.heap.size) := hid (by omega)
  have HNB : Hid (¬ w.heap.size = W0.heap.size) := hid (by omega)
  clear hne d0 d1 KB0 KR0
  generalize W0.alloc (.cells #[.int .i64 n, .int .i64 0, .int .i64 0, .slice a0 p0 k0, .slice a1 p1 k1] 26) = W1 at KN1 KB1 KR1 ⊢
  generalize W0.heap.size = G at KN1 HNN HZZ HNB ⊢
  obtain ⟨N2, hN2⟩ : ∃ y, w.heap.size + 1 = y := ⟨_, rfl⟩
  rw [hN2] at KR1 HNN ⊢
  clear hN2
  go_upto_region 3 with fail
  refine wp_loop_rounds 3 ?_
  rw [rounds_succ]
  rcases hm with rfl | rfl
  · skip
    obtain ⟨d0, d1⟩ := box_two KB1.out.2.2
    go_upto_region 6 with (first
      | (go_at_call 61; refine (wide_n _ _ _ B0 X0 _ (H0.out.below KB1.out.1) O0.out G0 FX0).mono ?_; rintro e w1a ⟨rfl, hb⟩; have KBa := hid (KB1.out.step hb); have KRa := hid (KR1.out.step hb); have KNa := hid (KN1.out.step hb); clear hb)
      | (go_at_call 92; refine (back_n X0 S0 u0 _ FS0 FU0).mono ?_; rintro e w1b ⟨rfl, hb⟩; have KBb := hid (KBa.out.step hb); have KRb := hid (KRa.out.step hb); have KNb := hid (KNa.out.step hb); clear hb))
    clear d0 d1 KBa KRa KNa KB1 KR1 KN1
    cases u0 with
    | false =>
      have HZ := hid (And.intro (hC.out.symm.trans (mdC_no (mdB_f0 (by rw [FX0.out]; exact FU0.out)))) (hv.out.symm.trans (mdB_f0 (by rw [FX0.out]; exact FU0.out))))
      go_wp2_with (refine wpList_store_whole rfl 36 (.tmp 6) (.tmp 29) rfl N2 (rcC 0 0 0 none 0 0 none 0 0 false) rfl rfl 36 _ KRb.out.2.2 rfl (by show _ = some 6; exact size_rc) (rcC_one _ _ _ _ _ _ _ _ _ _) ?_; intro w9 hp9 hg9; have KR9 := hid (kp_at KRb.out hg9 hp9); clear hp9 hg9)
      (try simp only [Exit.inBlock, Exit.then])
      show bodyPost Try.prog Try.f53 _ _ _ _
      refine bodyPost_ret (results_cell_row (p := 6) rfl _ _ N2 _ (rcC 0 0 0 none 0 0 none 0 0 false) (0, 0) _ rfl KR9.out.2.2 Try.underlying36 rfl (by kernel_rfl)) rfl ?_
      obtain ⟨z1, z2⟩ := HZ.out; subst z1; subst z2; exact ⟨⟨none, 0, 0, none, 0, 0, rfl, cw_nil _, .inl rfl, .inl rfl⟩, KR9.out.1⟩
    | true =>
      have fz := kp_froz KNb.out 1
      have cz := kp_cell (j := 1) (v := .int .i64 0) KNb.out rfl
      go_upto_region 4 with fail
      clear fz cz
      have KN2 : Hid (Kp w _ G (.cells #[.int .i64 n, .int .i64 S0, .int .i64 0, .slice a0 p0 k0, .slice a1 p1 k1] 26)) := hid (kp_set (j := 1) (v := .int .i64 S0) KNb.out)
      have KR2 := hid (kp_other (j := 1) (v := .int .i64 S0) KRb.out (Nat.ne_of_lt HNN.out) HZZ.out)
      have KB2 := hid (kp_other (j := 1) (v := .int .i64 S0) KBb.out HNB.out HZZ.out)
      generalize (w1b.setCell ⟨G, 1, none⟩ (.int .i64 S0)) = W2 at KN2 KR2 KB2 ⊢
      clear KBb KRb KNb
      go_wp2
      rw [rounds_succ]
      have I0 : Hid (I64 S0) := hid (by rw [← FS0.out, fitV_yes FU0.out]; exact fitB_iff.1 FU0.out)
      have EQ : mdB 1 n B0 B1 = cg 1 ⟨n, S0, 0, B0, B1⟩ := by rw [mdB_1 (by rw [FX0.out]; exact FU0.out)]; unfold mdR; rw [FX0.out, ← FS0.out, fitV_yes FU0.out]; rfl
      have EQH := hid EQ
      clear EQ
      obtain ⟨d0, d1, d2, d3, d4⟩ := box_five KN2.out.2.2
      obtain ⟨gg, hgg⟩ : ∃ y, cg 1 ⟨n, S0, 0, B0, B1⟩ = y := ⟨_, rfl⟩
      have EG := hid hgg
      clear hgg
      cases gg with
      | false =>
        have HZ := hid (And.intro (hC.out.symm.trans (mdC_no (EQH.out.trans EG.out))) (hv.out.symm.trans (EQH.out.trans EG.out)))
        go_upto_region 10 with (go_at_call 20; refine (crgood_m 1 ⟨n, S0, 0, B0, B1⟩ a0 p0 k0 a1 p1 k1 false _ ⟨H0.out.below KN2.out.1, H1.out.below KN2.out.1⟩ ⟨HN.out, I0.out, calc.i64_0, O0.out, O1.out⟩ EG).mono ?_; rintro e w8 ⟨rfl, hb⟩; have KR8 := hid (KR2.out.step hb); have KN8 := hid (KN2.out.step hb); clear hb d0 d1 d2 d3 d4)
        go_wp2_with (refine wpList_store_whole rfl 36 (.tmp 6) (.tmp 38) rfl N2 (rcC 0 0 0 none 0 0 none 0 0 false) rfl rfl 36 _ KR8.out.2.2 rfl (by show _ = some 6; exact size_rc) (rcC_one _ _ _ _ _ _ _ _ _ _) ?_; intro w9 hp9 hg9; have KR9 := hid (kp_at KR8.out hg9 hp9); clear hp9 hg9)
        (try simp only [Exit.inBlock, Exit.then])
        show bodyPost Try.prog Try.f53 _ _ _ _
        refine bodyPost_ret (results_cell_row (p := 6) rfl _ _ N2 _ (rcC 0 0 0 none 0 0 none 0 0 false) (0, 0) _ rfl KR9.out.2.2 Try.underlying36 rfl (by kernel_rfl)) rfl ?_
        obtain ⟨z1, z2⟩ := HZ.out; subst z1; subst z2; exact ⟨⟨none, 0, 0, none, 0, 0, rfl, cw_nil _, .inl rfl, .inl rfl⟩, KR9.out.1⟩
      | true =>
        go_upto_region 11 with (go_at_call 20; refine (crgood_m 1 ⟨n, S0, 0, B0, B1⟩ a0 p0 k0 a1 p1 k1 true _ ⟨H0.out.below KN2.out.1, H1.out.below KN2.out.1⟩ ⟨HN.out, I0.out, calc.i64_0, O0.out, O1.out⟩ EG).mono ?_; rintro e w8 ⟨rfl, hb⟩; have KR8 := hid (KR2.out.step hb); have KN8 := hid (KN2.out.step hb); clear hb d0 d1 d2 d3 d4)
        obtain ⟨d0, d1, d2, d3, d4⟩ := box_five KN8.out.2.2
        go_wp2_with (refine wpList_store_whole rfl 36 (.tmp 6) (.tmp 40) rfl N2 (rcC n S0 0 a0 p0 k0 a1 p1 k1 true) rfl rfl 36 _ KR8.out.2.2 rfl (by show _ = some 6; exact size_rc) (rcC_one _ _ _ _ _ _ _ _ _ _) ?_; intro w9 hp9 hg9; have KR9 := hid (kp_at KR8.out hg9 hp9); clear hp9 hg9)
        (try simp only [Exit.inBlock, Exit.then])
        show bodyPost Try.prog Try.f53 _ _ _ _
        refine bodyPost_ret (results_cell_row (p := 6) rfl _ _ N2 _ (rcC n S0 0 a0 p0 k0 a1 p1 k1 true) (0, 0) _ rfl KR9.out.2.2 Try.underlying36 rfl (by kernel_rfl)) rfl ?_
        have e1 : C = ⟨n, S0, 0, B0, B1⟩ := by rw [← hC.out, mdC_yes (EQH.out.trans EG.out)]; unfold mdR; rw [FX0.out, ← FS0.out, fitV_yes FU0.out]; rfl
        have e2 : v = true := by rw [← hv.out, EQH.out, EG.out]
        subst e1
        subst e2
        exact ⟨⟨_, _, _, _, _, _, rfl, ⟨H0.out.below KR9.out.1, H1.out.below KR9.out.1⟩, .inr rfl, .inr rfl⟩, KR9.out.1⟩
  · skip
    obtain ⟨X1, hX1⟩ : ∃ y, wsum B1 = y := ⟨_, rfl⟩
    obtain ⟨S1, hS1⟩ : ∃ y, calc.fitV X1 = y := ⟨_, rfl⟩
    obtain ⟨u1, hu1⟩ : ∃ y, calc.fitB X1 = y := ⟨_, rfl⟩
    have FX1 := hid hX1
    have FS1 := hid hS1
    have FU1 := hid hu1
    clear hX1 hS1 hu1
    obtain ⟨d0, d1⟩ := box_two KB1.out.2.2
    go_upto_region 6 with (first
      | (go_at_call 61; refine (wide_n _ _ _ B0 X0 _ (H0.out.below KB1.out.1) O0.out G0 FX0).mono ?_; rintro e w1a ⟨rfl, hb⟩; have KBa := hid (KB1.out.step hb); have KRa := hid (KR1.out.step hb); have KNa := hid (KN1.out.step hb); clear hb)
      | (go_at_call 92; refine (back_n X0 S0 u0 _ FS0 FU0).mono ?_; rintro e w1b ⟨rfl, hb⟩; have KBb := hid (KBa.out.step hb); have KRb := hid (KRa.out.step hb); have KNb := hid (KNa.out.step hb); clear hb))
    clear d0 d1 KBa KRa KNa KB1 KR1 KN1
    cases u0 with
    | false =>
      have HZ := hid (And.intro (hC.out.symm.trans (mdC_no (mdB_f0 (by rw [FX0.out]; exact FU0.out)))) (hv.out.symm.trans (mdB_f0 (by rw [FX0.out]; exact FU0.out))))
      go_wp2_with (refine wpList_store_whole rfl 36 (.tmp 6) (.tmp 29) rfl N2 (rcC 0 0 0 none 0 0 none 0 0 false) rfl rfl 36 _ KRb.out.2.2 rfl (by show _ = some 6; exact size_rc) (rcC_one _ _ _ _ _ _ _ _ _ _) ?_; intro w9 hp9 hg9; have KR9 := hid (kp_at KRb.out hg9 hp9); clear hp9 hg9)
      (try simp only [Exit.inBlock, Exit.then])
      show bodyPost Try.prog Try.f53 _ _ _ _
      refine bodyPost_ret (results_cell_row (p := 6) rfl _ _ N2 _ (rcC 0 0 0 none 0 0 none 0 0 false) (0, 0) _ rfl KR9.out.2.2 Try.underlying36 rfl (by kernel_rfl)) rfl ?_
      obtain ⟨z1, z2⟩ := HZ.out; subst z1; subst z2; exact ⟨⟨none, 0, 0, none, 0, 0, rfl, cw_nil _, .inl rfl, .inl rfl⟩, KR9.out.1⟩
    | true =>
      have fz := kp_froz KNb.out 1
      have cz := kp_cell (j := 1) (v := .int .i64 0) KNb.out rfl
      go_upto_region 4 with fail
      clear fz cz
      have KN2 : Hid (Kp w _ G (.cells #[.int .i64 n, .int .i64 S0, .int .i64 0, .slice a0 p0 k0, .slice a1 p1 k1] 26)) := hid (kp_set (j := 1) (v := .int .i64 S0) KNb.out)
      have KR2 := hid (kp_other (j := 1) (v := .int .i64 S0) KRb.out (Nat.ne_of_lt HNN.out) HZZ.out)
      have KB2 := hid (kp_other (j := 1) (v := .int .i64 S0) KBb.out HNB.out HZZ.out)
      generalize (w1b.setCell ⟨G, 1, none⟩ (.int .i64 S0)) = W2 at KN2 KR2 KB2 ⊢
      clear KBb KRb KNb
      go_wp2
      rw [rounds_succ]
      have I0 : Hid (I64 S0) := hid (by rw [← FS0.out, fitV_yes FU0.out]; exact fitB_iff.1 FU0.out)
      obtain ⟨d0, d1⟩ := box_two KB2.out.2.2
      go_upto_region 6 with (first
        | (go_at_call 61; refine (wide_n _ _ _ B1 X1 _ (H1.out.below KB2.out.1) O1.out G1 FX1).mono ?_; rintro e w2a ⟨rfl, hb⟩; have KBa := hid (KB2.out.step hb); have KRa := hid (KR2.out.step hb); have KNa := hid (KN2.out.step hb); clear hb)
        | (go_at_call 92; refine (back_n X1 S1 u1 _ FS1 FU1).mono ?_; rintro e w2b ⟨rfl, hb⟩; have KBb := hid (KBa.out.step hb); have KRb := hid (KRa.out.step hb); have KNb := hid (KNa.out.step hb); clear hb))
      clear d0 d1 KBa KRa KNa KB2 KR2 KN2
      cases u1 with
      | false =>
        have HZ := hid (And.intro (hC.out.symm.trans (mdC_no (mdB_f1 (by rw [FX1.out]; exact FU1.out)))) (hv.out.symm.trans (mdB_f1 (by rw [FX1.out]; exact FU1.out))))
        go_wp2_with (refine wpList_store_whole rfl 36 (.tmp 6) (.tmp 29) rfl N2 (rcC 0 0 0 none 0 0 none 0 0 false) rfl rfl 36 _ KRb.out.2.2 rfl (by show _ = some 6; exact size_rc) (rcC_one _ _ _ _ _ _ _ _ _ _) ?_; intro w9 hp9 hg9; have KR9 := hid (kp_at KRb.out hg9 hp9); clear hp9 hg9)
        (try simp only [Exit.inBlock, Exit.then])
        show bodyPost Try.prog Try.f53 _ _ _ _
        refine bodyPost_ret (results_cell_row (p := 6) rfl _ _ N2 _ (rcC 0 0 0 none 0 0 none 0 0 false) (0, 0) _ rfl KR9.out.2.2 Try.underlying36 rfl (by kernel_rfl)) rfl ?_
        obtain ⟨z1, z2⟩ := HZ.out; subst z1; subst z2; exact ⟨⟨none, 0, 0, none, 0, 0, rfl, cw_nil _, .inl rfl, .inl rfl⟩, KR9.out.1⟩
      | true =>
        have fz := kp_froz KNb.out 2
        have cz := kp_cell (j := 2) (v := .int .i64 0) KNb.out rfl
        go_upto_region 4 with fail
        clear fz cz
        have KN3 : Hid (Kp w _ G (.cells #[.int .i64 n, .int .i64 S0, .int .i64 S1, .slice a0 p0 k0, .slice a1 p1 k1] 26)) := hid (kp_set (j := 2) (v := .int .i64 S1) KNb.out)
        have KR3 := hid (kp_other (j := 2) (v := .int .i64 S1) KRb.out (Nat.ne_of_lt HNN.out) HZZ.out)
        have KB3 := hid (kp_other (j := 2) (v := .int .i64 S1) KBb.out HNB.out HZZ.out)
        generalize (w2b.setCell ⟨G, 2, none⟩ (.int .i64 S1)) = W3 at KN3 KR3 KB3 ⊢
        clear KBb KRb KNb
        go_wp2
        rw [rounds_succ]
        have I1 : Hid (I64 S1) := hid (by rw [← FS1.out, fitV_yes FU1.out]; exact fitB_iff.1 FU1.out)
        have EQ : mdB 2 n B0 B1 = cg 2 ⟨n, S0, S1, B0, B1⟩ := by rw [mdB_2 (by rw [FX0.out]; exact FU0.out) (by rw [FX1.out]; exact FU1.out)]; unfold mdR; rw [FX0.out, ← FS0.out, fitV_yes FU0.out, FX1.out, ← FS1.out, fitV_yes FU1.out]; rfl
        have EQH := hid EQ
        clear EQ
        obtain ⟨d0, d1, d2, d3, d4⟩ := box_five KN3.out.2.2
        obtain ⟨gg, hgg⟩ : ∃ y, cg 2 ⟨n, S0, S1, B0, B1⟩ = y := ⟨_, rfl⟩
        have EG := hid hgg
        clear hgg
        cases gg with
        | false =>
          have HZ := hid (And.intro (hC.out.symm.trans (mdC_no (EQH.out.trans EG.out))) (hv.out.symm.trans (EQH.out.trans EG.out)))
          go_upto_region 10 with (go_at_call 20; refine (crgood_m 2 ⟨n, S0, S1, B0, B1⟩ a0 p0 k0 a1 p1 k1 false _ ⟨H0.out.below KN3.out.1, H1.out.below KN3.out.1⟩ ⟨HN.out, I0.out, I1.out, O0.out, O1.out⟩ EG).mono ?_; rintro e w8 ⟨rfl, hb⟩; have KR8 := hid (KR3.out.step hb); have KN8 := hid (KN3.out.step hb); clear hb d0 d1 d2 d3 d4)
          go_wp2_with (refine wpList_store_whole rfl 36 (.tmp 6) (.tmp 38) rfl N2 (rcC 0 0 0 none 0 0 none 0 0 false) rfl rfl 36 _ KR8.out.2.2 rfl (by show _ = some 6; exact size_rc) (rcC_one _ _ _ _ _ _ _ _ _ _) ?_; intro w9 hp9 hg9; have KR9 := hid (kp_at KR8.out hg9 hp9); clear hp9 hg9)
          (try simp only [Exit.inBlock, Exit.then])
          show bodyPost Try.prog Try.f53 _ _ _ _
          refine bodyPost_ret (results_cell_row (p := 6) rfl _ _ N2 _ (rcC 0 0 0 none 0 0 none 0 0 false) (0, 0) _ rfl KR9.out.2.2 Try.underlying36 rfl (by kernel_rfl)) rfl ?_
          obtain ⟨z1, z2⟩ := HZ.out; subst z1; subst z2; exact ⟨⟨none, 0, 0, none, 0, 0, rfl, cw_nil _, .inl rfl, .inl rfl⟩, KR9.out.1⟩
        | true =>
          go_upto_region 11 with (go_at_call 20; refine (crgood_m 2 ⟨n, S0, S1, B0, B1⟩ a0 p0 k0 a1 p1 k1 true _ ⟨H0.out.below KN3.out.1, H1.out.below KN3.out.1⟩ ⟨HN.out, I0.out, I1.out, O0.out, O1.out⟩ EG).mono ?_; rintro e w8 ⟨rfl, hb⟩; have KR8 := hid (KR3.out.step hb); have KN8 := hid (KN3.out.step hb); clear hb d0 d1 d2 d3 d4)
          obtain ⟨d0, d1, d2, d3, d4⟩ := box_five KN8.out.2.2
          go_wp2_with (refine wpList_store_whole rfl 36 (.tmp 6) (.tmp 40) rfl N2 (rcC n S0 S1 a0 p0 k0 a1 p1 k1 true) rfl rfl 36 _ KR8.out.2.2 rfl (by show _ = some 6; exact size_rc) (rcC_one _ _ _ _ _ _ _ _ _ _) ?_; intro w9 hp9 hg9; have KR9 := hid (kp_at KR8.out hg9 hp9); clear hp9 hg9)
          (try simp only [Exit.inBlock, Exit.then])
          show bodyPost Try.prog Try.f53 _ _ _ _
          refine bodyPost_ret (results_cell_row (p := 6) rfl _ _ N2 _ (rcC n S0 S1 a0 p0 k0 a1 p1 k1 true) (0, 0) _ rfl KR9.out.2.2 Try.underlying36 rfl (by kernel_rfl)) rfl ?_
          have e1 : C = ⟨n, S0, S1, B0, B1⟩ := by rw [← hC.out, mdC_yes (EQH.out.trans EG.out)]; unfold mdR; rw [FX0.out, ← FS0.out, fitV_yes FU0.out]; rw [FX1.out, ← FS1.out, fitV_yes FU1.out]; rfl
          have e2 : v = true := by rw [← hv.out, EQH.out, EG.out]
          subst e1
          subst e2
          exact ⟨⟨_, _, _, _, _, _, rfl, ⟨H0.out.below KR9.out.1, H1.out.below KR9.out.1⟩, .inr rfl, .inr rfl⟩, KR9.out.1⟩

end Go.Proofs.Ytjkkajhjcinalaa

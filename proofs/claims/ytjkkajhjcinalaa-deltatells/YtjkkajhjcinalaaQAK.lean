/-
  -
  Conditions: as each theorem states them.
-/
import Derived.Test.YtjkkajhjcinalaaQAG
import Derived.Test.YtjkkajhjcinalaaQAH
import Derived.Test.YtjkkajhjcinalaaQAJ
namespace Go.Proofs.Ytjkkajhjcinalaa
open Go.ChangeShapes Go.WideShapes Go.ChangeAt Go.RowKit
set_option linter.unusedVariables false
set_option linter.unusedSimpArgs false
set_option maxRecDepth 100000


theorem dsub_no {a b : Int} (ha : I64 a) (hb : I64 b) (h : (!decide (a < wrap64 (a - b)) == decide (b < 0)) = true) : ¬ (-9223372036854775808 ≤ a - b ∧ a - b ≤ 9223372036854775807) := by
  obtain ⟨a1, a2⟩ := ha; obtain ⟨b1, b2⟩ := hb
  unfold wrap64 at h
  intro hf
  simp only [Bool.not_eq_true', beq_eq_false_iff_ne, ne_eq, decide_eq_decide] at h
  omega
theorem dsub_yes {a b : Int} (ha : I64 a) (hb : I64 b) (h : (!decide (a < wrap64 (a - b)) == decide (b < 0)) = false) : (-9223372036854775808 ≤ a - b ∧ a - b ≤ 9223372036854775807) ∧ wrap64 (a - b) = a - b := by
  obtain ⟨a1, a2⟩ := ha; obtain ⟨b1, b2⟩ := hb
  unfold wrap64 at *
  simp only [Bool.not_eq_false', beq_iff_eq, decide_eq_decide] at h
  omega
set_option maxHeartbeats 400000 in
theorem dsub_any (a b : Int) (w : World) (ha : I64 a) (hb : I64 b) :
    Calls Try.prog 78 #[.int .i64 a, .int .i64 b] w fun e w' => e = .returned (.tuple #[.int .i64 (calc.fitV (a - b)), .bool (calc.fitB (a - b))]) ∧ w' = w := by
  go_enter Try.func78, Try.ntmps78
  go_wp2
  · go_ret2
    exact ⟨calc.ret_fit_no (dsub_no ha hb ‹_›), rfl⟩
  · go_ret2
    exact ⟨calc.ret_fit_yes (dsub_yes ha hb ‹_›).1 (dsub_yes ha hb ‹_›).2, rfl⟩

theorem csub_m (a b S : Int) (f : Bool) (w : World) (ha : I64 a) (hb : I64 b) (hS : Hid (calc.fitV (a - b) = S)) (hf : Hid (calc.fitB (a - b) = f)) :
    Calls Try.prog 78 #[.int .i64 a, .int .i64 b] w fun e w' => e = .returned (.tuple #[.int .i64 S, .bool f]) ∧ Below w.heap.size w w' := by
  refine (dsub_any a b w ha hb).mono ?_
  rintro e w' ⟨rfl, rfl⟩
  exact ⟨by rw [hS.out, hf.out], Below.refl _ _⟩
abbrev aiC (x y : Int) : Array Value := #[.int .i64 x, .int .i64 y]
theorem aiC_one (x y : Int) : ∀ v ∈ (aiC x y).toList, v.oneCell' = true := by
  intro v hv
  simp at hv
  rcases hv with rfl | rfl <;> rfl
abbrev asC (x0 : Option Addr) (x1 x2 : Nat) (x3 : Option Addr) (x4 x5 : Nat) : Array Value := #[.slice x0 x1 x2, .slice x3 x4 x5]
theorem asC_one (x0 : Option Addr) (x1 x2 : Nat) (x3 : Option Addr) (x4 x5 : Nat) : ∀ v ∈ (asC x0 x1 x2 x3 x4 x5).toList, v.oneCell' = true := by
  intro v hv
  simp at hv
  rcases hv with rfl | rfl <;> rfl
theorem size_ai : (Try.prog.info? 22).map (·.size) = some 2 := by kernel_rfl
theorem size_as : (Try.prog.info? 24).map (·.size) = some 2 := by kernel_rfl
/-- A block of slices alone holds no runs. -/
theorem nz_as {w : World} {J : Nat} {t : TypeId} {x0 : Option Addr} {x1 x2 : Nat} {x3 : Option Addr} {x4 x5 : Nat} (h : w.heap[J]? = some (.cells (asC x0 x1 x2 x3 x4 x5) t)) : ∀ j x y, w.cell? ⟨J, j, none⟩ = some (.int .i64 x) → w.cell? ⟨J, j + 1, none⟩ = some (.int .i64 y) → y = 0 := by
  intro j x y hx _
  rw [cell_of_row _ _ _ _ t (0, 0) h] at hx
  match j, hx with
  | 0, hx => simp at hx
  | 1, hx => simp at hx
  | j + 2, hx => simp at hx
theorem four_new (w : World) (o0 o1 o2 o3 : Obj) : Kp w ((((w.alloc o0).alloc o1).alloc o2).alloc o3) w.heap.size o0 ∧ Kp w ((((w.alloc o0).alloc o1).alloc o2).alloc o3) (w.heap.size + 1) o1 ∧ Kp w ((((w.alloc o0).alloc o1).alloc o2).alloc o3) (w.heap.size + 1 + 1) o2 ∧ Kp w ((((w.alloc o0).alloc o1).alloc o2).alloc o3) (w.heap.size + 1 + 1 + 1) o3 := by
  refine ⟨kp_alloc (kp_alloc (kp_alloc (kp_new w o0) o1) o2) o3, kp_alloc (kp_alloc (kp_new2 (b1alloc _ _) o1 _ (by simp)) o2) o3, kp_alloc (kp_new2 (bt (b1alloc _ _) (b1alloc _ _)) o2 _ (by simp)) o3, kp_new2 (bt (bt (b1alloc _ _) (b1alloc _ _)) (b1alloc _ _)) o3 _ (by simp)⟩

set_option maxHeartbeats 8000000 in
theorem eachAdd_m (a0 a1 b0 b1 T0 T1 : Int) (v : Bool) (w : World) (ha : I64 a0 ∧ I64 a1) (hb : I64 b0 ∧ I64 b1) (hv : Hid ((calc.fitB (a0 + b0) && calc.fitB (a1 + b1)) = v)) (h0 : Hid ((if v then a0 + b0 else 0) = T0)) (h1 : Hid ((if v then a1 + b1 else 0) = T1)) :
    Calls Try.prog 77 #[.func (.func 65) #[] #[], .agg #[.int .i64 a0, .int .i64 a1], .agg #[.int .i64 b0, .int .i64 b1]] w fun e w' => e = .returned (.tuple #[.agg #[.int .i64 T0, .int .i64 T1], .bool v]) ∧ Below w.heap.size w w' := by
  have HA := hid ha
  have HB := hid hb
  clear ha hb
  obtain ⟨S0, hS0⟩ : ∃ y, calc.fitV (a0 + b0) = y := ⟨_, rfl⟩
  obtain ⟨S1, hS1⟩ : ∃ y, calc.fitV (a1 + b1) = y := ⟨_, rfl⟩
  obtain ⟨f0, hf0⟩ : ∃ y, calc.fitB (a0 + b0) = y := ⟨_, rfl⟩
  obtain ⟨f1, hf1⟩ : ∃ y, calc.fitB (a1 + b1) = y := ⟨_, rfl⟩
  have FS0 := hid hS0
  have FS1 := hid hS1
  have FF0 := hid hf0
  have FF1 := hid hf1
  clear hS0 hS1 hf0 hf1
  have KK := hid (four_new w (.cells #[.int .i64 a0, .int .i64 a1] 22) (.cells #[.int .i64 b0, .int .i64 b1] 22) (.cells #[.int .i64 0, .int .i64 0] 22) (.cells #[.int .i64 0, .int .i64 0] 22))
  go_enter Try.func77, Try.ntmps77
  go_upto_region 2 with fail
  generalize (((w.alloc (.cells #[.int .i64 a0, .int .i64 a1] 22)).alloc (.cells #[.int .i64 b0, .int .i64 b1] 22)).alloc (.cells #[.int .i64 0, .int .i64 0] 22)).alloc (.cells #[.int .i64 0, .int .i64 0] 22) = W at KK ⊢
  obtain ⟨N0, hN0⟩ : ∃ y, w.heap.size = y := ⟨_, rfl⟩
  obtain ⟨N1, hN1⟩ : ∃ y, N0 + 1 = y := ⟨_, rfl⟩
  obtain ⟨N2, hN2⟩ : ∃ y, N1 + 1 = y := ⟨_, rfl⟩
  obtain ⟨N3, hN3⟩ : ∃ y, N2 + 1 = y := ⟨_, rfl⟩
  rw [hN0, hN1, hN2, hN3] at KK
  (try rw [hN0]); (try rw [hN1]); (try rw [hN2]); (try rw [hN3])
  have HO : Hid (w.heap.size = N0 ∧ N0 < N1 ∧ N1 < N2 ∧ N2 < N3) := hid (by omega)
  clear hN0 hN1 hN2 hN3
  have KA := hid KK.out.1
  have KB := hid KK.out.2.1
  have KR := hid KK.out.2.2.1
  have KL := hid KK.out.2.2.2
  clear KK
  go_wp2
  refine wp_loop_rounds 3 ?_
  rw [rounds_succ]
  cases f0 with
  | false =>
    go_wp2
    have KS : Hid (∀ y, Below W.heap.size W y → (fun y => Below W.heap.size W y ∧ y.cell? ⟨N0, 0, none⟩ = some (.int .i64 a0) ∧ y.cell? ⟨N1, 0, none⟩ = some (.int .i64 b0)) y) := hid (fun y hb => ⟨hb, kp_cell (j := 0) (v := .int .i64 a0) (KA.out.step hb) rfl, kp_cell (j := 0) (v := .int .i64 b0) (KB.out.step hb) rfl⟩)
    refine wp_region_noPanic ?_
    refine wp_region_held_drew (S := fun y => Below W.heap.size W y ∧ y.cell? ⟨N0, 0, none⟩ = some (.int .i64 a0) ∧ y.cell? ⟨N1, 0, none⟩ = some (.int .i64 b0)) (by kernel_rfl) (KS.out _ (bdrew (Below.refl _ _))) (fun hHeld => ?_)
    refine tk 0 (v := ?_) ?_ ?_
    rotate_left
    · intro w hSw; (try dsimp only at hSw); go_simp; (try with_reducible rfl)
    try simp only [Act.put, List.setIfInBounds_toArray, List.set_cons_zero, List.set_cons_succ]
    refine tk 1 (v := ?_) ?_ ?_
    rotate_left
    · intro w hSw; (try dsimp only at hSw); go_simp; (try with_reducible rfl)
    try simp only [Act.put, List.setIfInBounds_toArray, List.set_cons_zero, List.set_cons_succ]
    refine tk 2 (v := ?_) ?_ ?_
    rotate_left
    · intro w hSw; (try dsimp only at hSw); go_simp; (try with_reducible rfl)
    try simp only [Act.put, List.setIfInBounds_toArray, List.set_cons_zero, List.set_cons_succ]
    refine tk 3 (v := ?_) ?_ ?_
    rotate_left
    · intro w hSw; (try dsimp only at hSw); go_simp; (try with_reducible rfl)
    try simp only [Act.put, List.setIfInBounds_toArray, List.set_cons_zero, List.set_cons_succ]
    refine tk 4 (v := ?_) ?_ ?_
    rotate_left
    · intro w hSw; (try dsimp only at hSw); go_simp; (try with_reducible rfl)
    try simp only [Act.put, List.setIfInBounds_toArray, List.set_cons_zero, List.set_cons_succ]
    refine tk 5 (v := ?_) ?_ ?_
    rotate_left
    · intro w hSw; (try dsimp only at hSw); go_simp; (try with_reducible rfl)
    try simp only [Act.put, List.setIfInBounds_toArray, List.set_cons_zero, List.set_cons_succ]
    refine tk 6 (v := ?_) ?_ ?_
    rotate_left
    · intro w hSw; (try dsimp only at hSw); go_simp; (try with_reducible rfl)
    try simp only [Act.put, List.setIfInBounds_toArray, List.set_cons_zero, List.set_cons_succ]
    refine rd1 7 (fun K hK => ?_)
    go_simp
    go_at_call 65; refine (dadd_m _ _ S0 false _ HA.out.1 HB.out.1 FS0 FF0).mono ?_; rintro e x0 ⟨rfl, hbx0⟩
    refine hK.out _ _ (KS.out _ (bt hHeld.1 hbx0)) (fun hHeld2 => ?_)
    clear hK K hHeld; have hHeld := hHeld2; clear hHeld2
    try simp only [Act.put, List.setIfInBounds_toArray, List.set_cons_zero, List.set_cons_succ]
    refine tk 8 (v := ?_) ?_ ?_
    rotate_left
    · intro w hSw; (try dsimp only at hSw); go_simp; (try with_reducible rfl)
    try simp only [Act.put, List.setIfInBounds_toArray, List.set_cons_zero, List.set_cons_succ]
    refine tk 9 (v := ?_) ?_ ?_
    rotate_left
    · intro w hSw; (try dsimp only at hSw); go_simp; (try with_reducible rfl)
    try simp only [Act.put, List.setIfInBounds_toArray, List.set_cons_zero, List.set_cons_succ]
    refine tk 11 (v := ?_) ?_ ?_
    rotate_left
    · intro w hSw; (try dsimp only at hSw); go_simp; (try with_reducible rfl)
    try simp only [Act.put, List.setIfInBounds_toArray, List.set_cons_zero, List.set_cons_succ]
    refine tk 10 (v := ?_) ?_ ?_
    rotate_left
    · intro w hSw; (try dsimp only at hSw); go_simp; (try with_reducible rfl)
    try simp only [Act.put, List.setIfInBounds_toArray, List.set_cons_zero, List.set_cons_succ]
    refine tk 12 (v := ?_) ?_ ?_
    rotate_left
    · intro w hSw; (try dsimp only at hSw); go_simp; (try with_reducible rfl)
    try simp only [Act.put, List.setIfInBounds_toArray, List.set_cons_zero, List.set_cons_succ]
    refine wpAnyH_done (by kernel_rfl) ?_ _
    refine NoPanic.normal ?_
    replace KR := hid (KR.out.step hHeld.1)
    clear hHeld KS hbx0
    go_wp2_with (refine wpList_store_whole rfl 22 (.tmp 6) (.tmp 28) rfl N2 (aiC 0 0) rfl rfl 22 _ KR.out.2.2 rfl (by show _ = some 2; exact size_ai) (aiC_one _ _) ?_; intro w9 hp9 hg9; have KR9 := hid (kp_at KR.out hg9 hp9); clear hp9 hg9)
    (try simp only [Exit.inBlock, Exit.then])
    show bodyPost Try.prog Try.f77 _ _ _ _
    refine bodyPost_ret (results_cell_slot (p := 6) (u := 7) rfl _ _ N2 _ (aiC 0 0) (0, 0) _ (.bool false) rfl rfl KR9.out.2.2 Try.underlying22 rfl (by kernel_rfl)) rfl ?_
    have hv2 := hv.out
    rw [FF0.out] at hv2
    subst hv2
    rw [← h0.out, ← h1.out]
    exact ⟨rfl, KR9.out.1⟩
  | true =>
    go_wp2
    have KS : Hid (∀ y, Below W.heap.size W y → (fun y => Below W.heap.size W y ∧ y.cell? ⟨N0, 0, none⟩ = some (.int .i64 a0) ∧ y.cell? ⟨N1, 0, none⟩ = some (.int .i64 b0)) y) := hid (fun y hb => ⟨hb, kp_cell (j := 0) (v := .int .i64 a0) (KA.out.step hb) rfl, kp_cell (j := 0) (v := .int .i64 b0) (KB.out.step hb) rfl⟩)
    refine wp_region_noPanic ?_
    refine wp_region_held_drew (S := fun y => Below W.heap.size W y ∧ y.cell? ⟨N0, 0, none⟩ = some (.int .i64 a0) ∧ y.cell? ⟨N1, 0, none⟩ = some (.int .i64 b0)) (by kernel_rfl) (KS.out _ (bdrew (Below.refl _ _))) (fun hHeld => ?_)
    refine tk 0 (v := ?_) ?_ ?_
    rotate_left
    · intro w hSw; (try dsimp only at hSw); go_simp; (try with_reducible rfl)
    try simp only [Act.put, List.setIfInBounds_toArray, List.set_cons_zero, List.set_cons_succ]
    refine tk 1 (v := ?_) ?_ ?_
    rotate_left
    · intro w hSw; (try dsimp only at hSw); go_simp; (try with_reducible rfl)
    try simp only [Act.put, List.setIfInBounds_toArray, List.set_cons_zero, List.set_cons_succ]
    refine tk 2 (v := ?_) ?_ ?_
    rotate_left
    · intro w hSw; (try dsimp only at hSw); go_simp; (try with_reducible rfl)
    try simp only [Act.put, List.setIfInBounds_toArray, List.set_cons_zero, List.set_cons_succ]
    refine tk 3 (v := ?_) ?_ ?_
    rotate_left
    · intro w hSw; (try dsimp only at hSw); go_simp; (try with_reducible rfl)
    try simp only [Act.put, List.setIfInBounds_toArray, List.set_cons_zero, List.set_cons_succ]
    refine tk 4 (v := ?_) ?_ ?_
    rotate_left
    · intro w hSw; (try dsimp only at hSw); go_simp; (try with_reducible rfl)
    try simp only [Act.put, List.setIfInBounds_toArray, List.set_cons_zero, List.set_cons_succ]
    refine tk 5 (v := ?_) ?_ ?_
    rotate_left
    · intro w hSw; (try dsimp only at hSw); go_simp; (try with_reducible rfl)
    try simp only [Act.put, List.setIfInBounds_toArray, List.set_cons_zero, List.set_cons_succ]
    refine tk 6 (v := ?_) ?_ ?_
    rotate_left
    · intro w hSw; (try dsimp only at hSw); go_simp; (try with_reducible rfl)
    try simp only [Act.put, List.setIfInBounds_toArray, List.set_cons_zero, List.set_cons_succ]
    refine rd1 7 (fun K hK => ?_)
    go_simp
    go_at_call 65; refine (dadd_m _ _ S0 true _ HA.out.1 HB.out.1 FS0 FF0).mono ?_; rintro e x0 ⟨rfl, hbx0⟩
    refine hK.out _ _ (KS.out _ (bt hHeld.1 hbx0)) (fun hHeld2 => ?_)
    clear hK K hHeld; have hHeld := hHeld2; clear hHeld2
    try simp only [Act.put, List.setIfInBounds_toArray, List.set_cons_zero, List.set_cons_succ]
    refine tk 8 (v := ?_) ?_ ?_
    rotate_left
    · intro w hSw; (try dsimp only at hSw); go_simp; (try with_reducible rfl)
    try simp only [Act.put, List.setIfInBounds_toArray, List.set_cons_zero, List.set_cons_succ]
    refine tk 9 (v := ?_) ?_ ?_
    rotate_left
    · intro w hSw; (try dsimp only at hSw); go_simp; (try with_reducible rfl)
    try simp only [Act.put, List.setIfInBounds_toArray, List.set_cons_zero, List.set_cons_succ]
    refine tk 11 (v := ?_) ?_ ?_
    rotate_left
    · intro w hSw; (try dsimp only at hSw); go_simp; (try with_reducible rfl)
    try simp only [Act.put, List.setIfInBounds_toArray, List.set_cons_zero, List.set_cons_succ]
    refine tk 10 (v := ?_) ?_ ?_
    rotate_left
    · intro w hSw; (try dsimp only at hSw); go_simp; (try with_reducible rfl)
    try simp only [Act.put, List.setIfInBounds_toArray, List.set_cons_zero, List.set_cons_succ]
    refine tk 12 (v := ?_) ?_ ?_
    rotate_left
    · intro w hSw; (try dsimp only at hSw); go_simp; (try with_reducible rfl)
    try simp only [Act.put, List.setIfInBounds_toArray, List.set_cons_zero, List.set_cons_succ]
    refine wpAnyH_done (by kernel_rfl) ?_ _
    refine NoPanic.normal ?_
    replace KA := hid (KA.out.step hHeld.1)
    replace KB := hid (KB.out.step hHeld.1)
    replace KR := hid (KR.out.step hHeld.1)
    replace KL := hid (KL.out.step hHeld.1)
    clear hHeld KS hbx0
    have fz0 := kp_froz KL.out 0
    have cz0 := kp_cell (j := 0) (v := .int .i64 0) KL.out rfl
    go_wp2
    have KL1 : Hid (Kp w (x0.setCell ⟨N3, 0, none⟩ (.int .i64 S0)) N3 (.cells #[.int .i64 S0, .int .i64 0] 22)) := hid (kp_set (j := 0) (v := .int .i64 S0) KL.out)
    replace KA := hid (kp_other (j := 0) (v := .int .i64 S0) (M := N3) KA.out (by have := HO.out; omega) (by have := HO.out; omega))
    replace KB := hid (kp_other (j := 0) (v := .int .i64 S0) (M := N3) KB.out (by have := HO.out; omega) (by have := HO.out; omega))
    replace KR := hid (kp_other (j := 0) (v := .int .i64 S0) (M := N3) KR.out (by have := HO.out; omega) (by have := HO.out; omega))
    clear KL fz0 cz0
    generalize x0.setCell ⟨N3, 0, none⟩ (.int .i64 S0) = X1 at KL1 KA KB KR ⊢
    rw [rounds_succ]
    cases f1 with
    | false =>
      go_wp2
      have KS : Hid (∀ y, Below X1.heap.size X1 y → (fun y => Below X1.heap.size X1 y ∧ y.cell? ⟨N0, 1, none⟩ = some (.int .i64 a1) ∧ y.cell? ⟨N1, 1, none⟩ = some (.int .i64 b1)) y) := hid (fun y hb => ⟨hb, kp_cell (j := 1) (v := .int .i64 a1) (KA.out.step hb) rfl, kp_cell (j := 1) (v := .int .i64 b1) (KB.out.step hb) rfl⟩)
      refine wp_region_noPanic ?_
      refine wp_region_held_drew (S := fun y => Below X1.heap.size X1 y ∧ y.cell? ⟨N0, 1, none⟩ = some (.int .i64 a1) ∧ y.cell? ⟨N1, 1, none⟩ = some (.int .i64 b1)) (by kernel_rfl) (KS.out _ (bdrew (Below.refl _ _))) (fun hHeld => ?_)
      refine tk 0 (v := ?_) ?_ ?_
      rotate_left
      · intro w hSw; (try dsimp only at hSw); go_simp; (try with_reducible rfl)
      try simp only [Act.put, List.setIfInBounds_toArray, List.set_cons_zero, List.set_cons_succ]
      refine tk 1 (v := ?_) ?_ ?_
      rotate_left
      · intro w hSw; (try dsimp only at hSw); go_simp; (try with_reducible rfl)
      try simp only [Act.put, List.setIfInBounds_toArray, List.set_cons_zero, List.set_cons_succ]
      refine tk 2 (v := ?_) ?_ ?_
      rotate_left
      · intro w hSw; (try dsimp only at hSw); go_simp; (try with_reducible rfl)
      try simp only [Act.put, List.setIfInBounds_toArray, List.set_cons_zero, List.set_cons_succ]
      refine tk 3 (v := ?_) ?_ ?_
      rotate_left
      · intro w hSw; (try dsimp only at hSw); go_simp; (try with_reducible rfl)
      try simp only [Act.put, List.setIfInBounds_toArray, List.set_cons_zero, List.set_cons_succ]
      refine tk 4 (v := ?_) ?_ ?_
      rotate_left
      · intro w hSw; (try dsimp only at hSw); go_simp; (try with_reducible rfl)
      try simp only [Act.put, List.setIfInBounds_toArray, List.set_cons_zero, List.set_cons_succ]
      refine tk 5 (v := ?_) ?_ ?_
      rotate_left
      · intro w hSw; (try dsimp only at hSw); go_simp; (try with_reducible rfl)
      try simp only [Act.put, List.setIfInBounds_toArray, List.set_cons_zero, List.set_cons_succ]
      refine tk 6 (v := ?_) ?_ ?_
      rotate_left
      · intro w hSw; (try dsimp only at hSw); go_simp; (try with_reducible rfl)
      try simp only [Act.put, List.setIfInBounds_toArray, List.set_cons_zero, List.set_cons_succ]
      refine rd1 7 (fun K hK => ?_)
      go_simp
      go_at_call 65; refine (dadd_m _ _ S1 false _ HA.out.2 HB.out.2 FS1 FF1).mono ?_; rintro e x1 ⟨rfl, hbx1⟩
      refine hK.out _ _ (KS.out _ (bt hHeld.1 hbx1)) (fun hHeld2 => ?_)
      clear hK K hHeld; have hHeld := hHeld2; clear hHeld2
      try simp only [Act.put, List.setIfInBounds_toArray, List.set_cons_zero, List.set_cons_succ]
      refine tk 8 (v := ?_) ?_ ?_
      rotate_left
      · intro w hSw; (try dsimp only at hSw); go_simp; (try with_reducible rfl)
      try simp only [Act.put, List.setIfInBounds_toArray, List.set_cons_zero, List.set_cons_succ]
      refine tk 9 (v := ?_) ?_ ?_
      rotate_left
      · intro w hSw; (try dsimp only at hSw); go_simp; (try with_reducible rfl)
      try simp only [Act.put, List.setIfInBounds_toArray, List.set_cons_zero, List.set_cons_succ]
      refine tk 11 (v := ?_) ?_ ?_
      rotate_left
      · intro w hSw; (try dsimp only at hSw); go_simp; (try with_reducible rfl)
      try simp only [Act.put, List.setIfInBounds_toArray, List.set_cons_zero, List.set_cons_succ]
      refine tk 10 (v := ?_) ?_ ?_
      rotate_left
      · intro w hSw; (try dsimp only at hSw); go_simp; (try with_reducible rfl)
      try simp only [Act.put, List.setIfInBounds_toArray, List.set_cons_zero, List.set_cons_succ]
      refine tk 12 (v := ?_) ?_ ?_
      rotate_left
      · intro w hSw; (try dsimp only at hSw); go_simp; (try with_reducible rfl)
      try simp only [Act.put, List.setIfInBounds_toArray, List.set_cons_zero, List.set_cons_succ]
      refine wpAnyH_done (by kernel_rfl) ?_ _
      refine NoPanic.normal ?_
      replace KR := hid (KR.out.step hHeld.1)
      clear hHeld KS hbx1
      go_wp2_with (refine wpList_store_whole rfl 22 (.tmp 6) (.tmp 28) rfl N2 (aiC 0 0) rfl rfl 22 _ KR.out.2.2 rfl (by show _ = some 2; exact size_ai) (aiC_one _ _) ?_; intro w9 hp9 hg9; have KR9 := hid (kp_at KR.out hg9 hp9); clear hp9 hg9)
      (try simp only [Exit.inBlock, Exit.then])
      show bodyPost Try.prog Try.f77 _ _ _ _
      refine bodyPost_ret (results_cell_slot (p := 6) (u := 7) rfl _ _ N2 _ (aiC 0 0) (0, 0) _ (.bool false) rfl rfl KR9.out.2.2 Try.underlying22 rfl (by kernel_rfl)) rfl ?_
      have hv2 := hv.out
      rw [FF0.out, FF1.out] at hv2
      subst hv2
      rw [← h0.out, ← h1.out]
      exact ⟨rfl, KR9.out.1⟩
    | true =>
      go_wp2
      have KS : Hid (∀ y, Below X1.heap.size X1 y → (fun y => Below X1.heap.size X1 y ∧ y.cell? ⟨N0, 1, none⟩ = some (.int .i64 a1) ∧ y.cell? ⟨N1, 1, none⟩ = some (.int .i64 b1)) y) := hid (fun y hb => ⟨hb, kp_cell (j := 1) (v := .int .i64 a1) (KA.out.step hb) rfl, kp_cell (j := 1) (v := .int .i64 b1) (KB.out.step hb) rfl⟩)
      refine wp_region_noPanic ?_
      refine wp_region_held_drew (S := fun y => Below X1.heap.size X1 y ∧ y.cell? ⟨N0, 1, none⟩ = some (.int .i64 a1) ∧ y.cell? ⟨N1, 1, none⟩ = some (.int .i64 b1)) (by kernel_rfl) (KS.out _ (bdrew (Below.refl _ _))) (fun hHeld => ?_)
      refine tk 0 (v := ?_) ?_ ?_
      rotate_left
      · intro w hSw; (try dsimp only at hSw); go_simp; (try with_reducible rfl)
      try simp only [Act.put, List.setIfInBounds_toArray, List.set_cons_zero, List.set_cons_succ]
      refine tk 1 (v := ?_) ?_ ?_
      rotate_left
      · intro w hSw; (try dsimp only at hSw); go_simp; (try with_reducible rfl)
      try simp only [Act.put, List.setIfInBounds_toArray, List.set_cons_zero, List.set_cons_succ]
      refine tk 2 (v := ?_) ?_ ?_
      rotate_left
      · intro w hSw; (try dsimp only at hSw); go_simp; (try with_reducible rfl)
      try simp only [Act.put, List.setIfInBounds_toArray, List.set_cons_zero, List.set_cons_succ]
      refine tk 3 (v := ?_) ?_ ?_
      rotate_left
      · intro w hSw; (try dsimp only at hSw); go_simp; (try with_reducible rfl)
      try simp only [Act.put, List.setIfInBounds_toArray, List.set_cons_zero, List.set_cons_succ]
      refine tk 4 (v := ?_) ?_ ?_
      rotate_left
      · intro w hSw; (try dsimp only at hSw); go_simp; (try with_reducible rfl)
      try simp only [Act.put, List.setIfInBounds_toArray, List.set_cons_zero, List.set_cons_succ]
      refine tk 5 (v := ?_) ?_ ?_
      rotate_left
      · intro w hSw; (try dsimp only at hSw); go_simp; (try with_reducible rfl)
      try simp only [Act.put, List.setIfInBounds_toArray, List.set_cons_zero, List.set_cons_succ]
      refine tk 6 (v := ?_) ?_ ?_
      rotate_left
      · intro w hSw; (try dsimp only at hSw); go_simp; (try with_reducible rfl)
      try simp only [Act.put, List.setIfInBounds_toArray, List.set_cons_zero, List.set_cons_succ]
      refine rd1 7 (fun K hK => ?_)
      go_simp
      go_at_call 65; refine (dadd_m _ _ S1 true _ HA.out.2 HB.out.2 FS1 FF1).mono ?_; rintro e x1 ⟨rfl, hbx1⟩
      refine hK.out _ _ (KS.out _ (bt hHeld.1 hbx1)) (fun hHeld2 => ?_)
      clear hK K hHeld; have hHeld := hHeld2; clear hHeld2
      try simp only [Act.put, List.setIfInBounds_toArray, List.set_cons_zero, List.set_cons_succ]
      refine tk 8 (v := ?_) ?_ ?_
      rotate_left
      · intro w hSw; (try dsimp only at hSw); go_simp; (try with_reducible rfl)
      try simp only [Act.put, List.setIfInBounds_toArray, List.set_cons_zero, List.set_cons_succ]
      refine tk 9 (v := ?_) ?_ ?_
      rotate_left
      · intro w hSw; (try dsimp only at hSw); go_simp; (try with_reducible rfl)
      try simp only [Act.put, List.setIfInBounds_toArray, List.set_cons_zero, List.set_cons_succ]
      refine tk 11 (v := ?_) ?_ ?_
      rotate_left
      · intro w hSw; (try dsimp only at hSw); go_simp; (try with_reducible rfl)
      try simp only [Act.put, List.setIfInBounds_toArray, List.set_cons_zero, List.set_cons_succ]
      refine tk 10 (v := ?_) ?_ ?_
      rotate_left
      · intro w hSw; (try dsimp only at hSw); go_simp; (try with_reducible rfl)
      try simp only [Act.put, List.setIfInBounds_toArray, List.set_cons_zero, List.set_cons_succ]
      refine tk 12 (v := ?_) ?_ ?_
      rotate_left
      · intro w hSw; (try dsimp only at hSw); go_simp; (try with_reducible rfl)
      try simp only [Act.put, List.setIfInBounds_toArray, List.set_cons_zero, List.set_cons_succ]
      refine wpAnyH_done (by kernel_rfl) ?_ _
      refine NoPanic.normal ?_
      replace KR := hid (KR.out.step hHeld.1)
      replace KL1 := hid (KL1.out.step hHeld.1)
      clear hHeld KS hbx1
      have fz1 := kp_froz KL1.out 1
      have cz1 := kp_cell (j := 1) (v := .int .i64 0) KL1.out rfl
      go_wp2
      have KL2 : Hid (Kp w (x1.setCell ⟨N3, 1, none⟩ (.int .i64 S1)) N3 (.cells #[.int .i64 S0, .int .i64 S1] 22)) := hid (kp_set (j := 1) (v := .int .i64 S1) KL1.out)
      replace KR := hid (kp_other (j := 1) (v := .int .i64 S1) (M := N3) KR.out (by have := HO.out; omega) (by have := HO.out; omega))
      clear KL1 fz1 cz1
      generalize x1.setCell ⟨N3, 1, none⟩ (.int .i64 S1) = X2 at KL2 KR ⊢
      obtain ⟨d0, d1⟩ := box_two KL2.out.2.2
      rw [rounds_succ]
      go_wp2_with (refine wpList_store_whole rfl 22 (.tmp 6) (.tmp 33) rfl N2 (aiC S0 S1) rfl rfl 22 _ KR.out.2.2 rfl (by show _ = some 2; exact size_ai) (aiC_one _ _) ?_; intro w9 hp9 hg9; have KR9 := hid (kp_at KR.out hg9 hp9); clear hp9 hg9)
      (try simp only [Exit.inBlock, Exit.then])
      show bodyPost Try.prog Try.f77 _ _ _ _
      refine bodyPost_ret (results_cell_slot (p := 6) (u := 7) rfl _ _ N2 _ (aiC S0 S1) (0, 0) _ (.bool true) rfl rfl KR9.out.2.2 Try.underlying22 rfl (by kernel_rfl)) rfl ?_
      have hv2 := hv.out
      rw [FF0.out, FF1.out] at hv2
      subst hv2
      have e0 := fitV_yes FF0.out
      have e1 := fitV_yes FF1.out
      rw [FS0.out] at e0
      rw [FS1.out] at e1
      rw [← h0.out, ← h1.out, e0, e1]
      exact ⟨rfl, KR9.out.1⟩

set_option maxHeartbeats 8000000 in
theorem eachSub_m (a0 a1 b0 b1 T0 T1 : Int) (v : Bool) (w : World) (ha : I64 a0 ∧ I64 a1) (hb : I64 b0 ∧ I64 b1) (hv : Hid ((calc.fitB (a0 - b0) && calc.fitB (a1 - b1)) = v)) (h0 : Hid ((if v then a0 - b0 else 0) = T0)) (h1 : Hid ((if v then a1 - b1 else 0) = T1)) :
    Calls Try.prog 77 #[.func (.func 78) #[] #[], .agg #[.int .i64 a0, .int .i64 a1], .agg #[.int .i64 b0, .int .i64 b1]] w fun e w' => e = .returned (.tuple #[.agg #[.int .i64 T0, .int .i64 T1], .bool v]) ∧ Below w.heap.size w w' := by
  have HA := hid ha
  have HB := hid hb
  clear ha hb
  obtain ⟨S0, hS0⟩ : ∃ y, calc.fitV (a0 - b0) = y := ⟨_, rfl⟩
  obtain ⟨S1, hS1⟩ : ∃ y, calc.fitV (a1 - b1) = y := ⟨_, rfl⟩
  obtain ⟨f0, hf0⟩ : ∃ y, calc.fitB (a0 - b0) = y := ⟨_, rfl⟩
  obtain ⟨f1, hf1⟩ : ∃ y, calc.fitB (a1 - b1) = y := ⟨_, rfl⟩
  have FS0 := hid hS0
  have FS1 := hid hS1
  have FF0 := hid hf0
  have FF1 := hid hf1
  clear hS0 hS1 hf0 hf1
  have KK := hid (four_new w (.cells #[.int .i64 a0, .int .i64 a1] 22) (.cells #[.int .i64 b0, .int .i64 b1] 22) (.cells #[.int .i64 0, .int .i64 0] 22) (.cells #[.int .i64 0, .int .i64 0] 22))
  go_enter Try.func77, Try.ntmps77
  go_upto_region 2 with fail
  generalize (((w.alloc (.cells #[.int .i64 a0, .int .i64 a1] 22)).alloc (.cells #[.int .i64 b0, .int .i64 b1] 22)).alloc (.cells #[.int .i64 0, .int .i64 0] 22)).alloc (.cells #[.int .i64 0, .int .i64 0] 22) = W at KK ⊢
  obtain ⟨N0, hN0⟩ : ∃ y, w.heap.size = y := ⟨_, rfl⟩
  obtain ⟨N1, hN1⟩ : ∃ y, N0 + 1 = y := ⟨_, rfl⟩
  obtain ⟨N2, hN2⟩ : ∃ y, N1 + 1 = y := ⟨_, rfl⟩
  obtain ⟨N3, hN3⟩ : ∃ y, N2 + 1 = y := ⟨_, rfl⟩
  rw [hN0, hN1, hN2, hN3] at KK
  (try rw [hN0]); (try rw [hN1]); (try rw [hN2]); (try rw [hN3])
  have HO : Hid (w.heap.size = N0 ∧ N0 < N1 ∧ N1 < N2 ∧ N2 < N3) := hid (by omega)
  clear hN0 hN1 hN2 hN3
  have KA := hid KK.out.1
  have KB := hid KK.out.2.1
  have KR := hid KK.out.2.2.1
  have KL := hid KK.out.2.2.2
  clear KK
  go_wp2
  refine wp_loop_rounds 3 ?_
  rw [rounds_succ]
  cases f0 with
  | false =>
    go_wp2
    have KS : Hid (∀ y, Below W.heap.size W y → (fun y => Below W.heap.size W y ∧ y.cell? ⟨N0, 0, none⟩ = some (.int .i64 a0) ∧ y.cell? ⟨N1, 0, none⟩ = some (.int .i64 b0)) y) := hid (fun y hb => ⟨hb, kp_cell (j := 0) (v := .int .i64 a0) (KA.out.step hb) rfl, kp_cell (j := 0) (v := .int .i64 b0) (KB.out.step hb) rfl⟩)
    refine wp_region_noPanic ?_
    refine wp_region_held_drew (S := fun y => Below W.heap.size W y ∧ y.cell? ⟨N0, 0, none⟩ = some (.int .i64 a0) ∧ y.cell? ⟨N1, 0, none⟩ = some (.int .i64 b0)) (by kernel_rfl) (KS.out _ (bdrew (Below.refl _ _))) (fun hHeld => ?_)
    refine tk 0 (v := ?_) ?_ ?_
    rotate_left
    · intro w hSw; (try dsimp only at hSw); go_simp; (try with_reducible rfl)
    try simp only [Act.put, List.setIfInBounds_toArray, List.set_cons_zero, List.set_cons_succ]
    refine tk 1 (v := ?_) ?_ ?_
    rotate_left
    · intro w hSw; (try dsimp only at hSw); go_simp; (try with_reducible rfl)
    try simp only [Act.put, List.setIfInBounds_toArray, List.set_cons_zero, List.set_cons_succ]
    refine tk 2 (v := ?_) ?_ ?_
    rotate_left
    · intro w hSw; (try dsimp only at hSw); go_simp; (try with_reducible rfl)
    try simp only [Act.put, List.setIfInBounds_toArray, List.set_cons_zero, List.set_cons_succ]
    refine tk 3 (v := ?_) ?_ ?_
    rotate_left
    · intro w hSw; (try dsimp only at hSw); go_simp; (try with_reducible rfl)
    try simp only [Act.put, List.setIfInBounds_toArray, List.set_cons_zero, List.set_cons_succ]
    refine tk 4 (v := ?_) ?_ ?_
    rotate_left
    · intro w hSw; (try dsimp only at hSw); go_simp; (try with_reducible rfl)
    try simp only [Act.put, List.setIfInBounds_toArray, List.set_cons_zero, List.set_cons_succ]
    refine tk 5 (v := ?_) ?_ ?_
    rotate_left
    · intro w hSw; (try dsimp only at hSw); go_simp; (try with_reducible rfl)
    try simp only [Act.put, List.setIfInBounds_toArray, List.set_cons_zero, List.set_cons_succ]
    refine tk 6 (v := ?_) ?_ ?_
    rotate_left
    · intro w hSw; (try dsimp only at hSw); go_simp; (try with_reducible rfl)
    try simp only [Act.put, List.setIfInBounds_toArray, List.set_cons_zero, List.set_cons_succ]
    refine rd1 7 (fun K hK => ?_)
    go_simp
    go_at_call 78; refine (csub_m _ _ S0 false _ HA.out.1 HB.out.1 FS0 FF0).mono ?_; rintro e x0 ⟨rfl, hbx0⟩
    refine hK.out _ _ (KS.out _ (bt hHeld.1 hbx0)) (fun hHeld2 => ?_)
    clear hK K hHeld; have hHeld := hHeld2; clear hHeld2
    try simp only [Act.put, List.setIfInBounds_toArray, List.set_cons_zero, List.set_cons_succ]
    refine tk 8 (v := ?_) ?_ ?_
    rotate_left
    · intro w hSw; (try dsimp only at hSw); go_simp; (try with_reducible rfl)
    try simp only [Act.put, List.setIfInBounds_toArray, List.set_cons_zero, List.set_cons_succ]
    refine tk 9 (v := ?_) ?_ ?_
    rotate_left
    · intro w hSw; (try dsimp only at hSw); go_simp; (try with_reducible rfl)
    try simp only [Act.put, List.setIfInBounds_toArray, List.set_cons_zero, List.set_cons_succ]
    refine tk 11 (v := ?_) ?_ ?_
    rotate_left
    · intro w hSw; (try dsimp only at hSw); go_simp; (try with_reducible rfl)
    try simp only [Act.put, List.setIfInBounds_toArray, List.set_cons_zero, List.set_cons_succ]
    refine tk 10 (v := ?_) ?_ ?_
    rotate_left
    · intro w hSw; (try dsimp only at hSw); go_simp; (try with_reducible rfl)
    try simp only [Act.put, List.setIfInBounds_toArray, List.set_cons_zero, List.set_cons_succ]
    refine tk 12 (v := ?_) ?_ ?_
    rotate_left
    · intro w hSw; (try dsimp only at hSw); go_simp; (try with_reducible rfl)
    try simp only [Act.put, List.setIfInBounds_toArray, List.set_cons_zero, List.set_cons_succ]
    refine wpAnyH_done (by kernel_rfl) ?_ _
    refine NoPanic.normal ?_
    replace KR := hid (KR.out.step hHeld.1)
    clear hHeld KS hbx0
    go_wp2_with (refine wpList_store_whole rfl 22 (.tmp 6) (.tmp 28) rfl N2 (aiC 0 0) rfl rfl 22 _ KR.out.2.2 rfl (by show _ = some 2; exact size_ai) (aiC_one _ _) ?_; intro w9 hp9 hg9; have KR9 := hid (kp_at KR.out hg9 hp9); clear hp9 hg9)
    (try simp only [Exit.inBlock, Exit.then])
    show bodyPost Try.prog Try.f77 _ _ _ _
    refine bodyPost_ret (results_cell_slot (p := 6) (u := 7) rfl _ _ N2 _ (aiC 0 0) (0, 0) _ (.bool false) rfl rfl KR9.out.2.2 Try.underlying22 rfl (by kernel_rfl)) rfl ?_
    have hv2 := hv.out
    rw [FF0.out] at hv2
    subst hv2
    rw [← h0.out, ← h1.out]
    exact ⟨rfl, KR9.out.1⟩
  | true =>
    go_wp2
    have KS : Hid (∀ y, Below W.heap.size W y → (fun y => Below W.heap.size W y ∧ y.cell? ⟨N0, 0, none⟩ = some (.int .i64 a0) ∧ y.cell? ⟨N1, 0, none⟩ = some (.int .i64 b0)) y) := hid (fun y hb => ⟨hb, kp_cell (j := 0) (v := .int .i64 a0) (KA.out.step hb) rfl, kp_cell (j := 0) (v := .int .i64 b0) (KB.out.step hb) rfl⟩)
    refine wp_region_noPanic ?_
    refine wp_region_held_drew (S := fun y => Below W.heap.size W y ∧ y.cell? ⟨N0, 0, none⟩ = some (.int .i64 a0) ∧ y.cell? ⟨N1, 0, none⟩ = some (.int .i64 b0)) (by kernel_rfl) (KS.out _ (bdrew (Below.refl _ _))) (fun hHeld => ?_)
    refine tk 0 (v := ?_) ?_ ?_
    rotate_left
    · intro w hSw; (try dsimp only at hSw); go_simp; (try with_reducible rfl)
    try simp only [Act.put, List.setIfInBounds_toArray, List.set_cons_zero, List.set_cons_succ]
    refine tk 1 (v := ?_) ?_ ?_
    rotate_left
    · intro w hSw; (try dsimp only at hSw); go_simp; (try with_reducible rfl)
    try simp only [Act.put, List.setIfInBounds_toArray, List.set_cons_zero, List.set_cons_succ]
    refine tk 2 (v := ?_) ?_ ?_
    rotate_left
    · intro w hSw; (try dsimp only at hSw); go_simp; (try with_reducible rfl)
    try simp only [Act.put, List.setIfInBounds_toArray, List.set_cons_zero, List.set_cons_succ]
    refine tk 3 (v := ?_) ?_ ?_
    rotate_left
    · intro w hSw; (try dsimp only at hSw); go_simp; (try with_reducible rfl)
    try simp only [Act.put, List.setIfInBounds_toArray, List.set_cons_zero, List.set_cons_succ]
    refine tk 4 (v := ?_) ?_ ?_
    rotate_left
    · intro w hSw; (try dsimp only at hSw); go_simp; (try with_reducible rfl)
    try simp only [Act.put, List.setIfInBounds_toArray, List.set_cons_zero, List.set_cons_succ]
    refine tk 5 (v := ?_) ?_ ?_
    rotate_left
    · intro w hSw; (try dsimp only at hSw); go_simp; (try with_reducible rfl)
    try simp only [Act.put, List.setIfInBounds_toArray, List.set_cons_zero, List.set_cons_succ]
    refine tk 6 (v := ?_) ?_ ?_
    rotate_left
    · intro w hSw; (try dsimp only at hSw); go_simp; (try with_reducible rfl)
    try simp only [Act.put, List.setIfInBounds_toArray, List.set_cons_zero, List.set_cons_succ]
    refine rd1 7 (fun K hK => ?_)
    go_simp
    go_at_call 78; refine (csub_m _ _ S0 true _ HA.out.1 HB.out.1 FS0 FF0).mono ?_; rintro e x0 ⟨rfl, hbx0⟩
    refine hK.out _ _ (KS.out _ (bt hHeld.1 hbx0)) (fun hHeld2 => ?_)
    clear hK K hHeld; have hHeld := hHeld2; clear hHeld2
    try simp only [Act.put, List.setIfInBounds_toArray, List.set_cons_zero, List.set_cons_succ]
    refine tk 8 (v := ?_) ?_ ?_
    rotate_left
    · intro w hSw; (try dsimp only at hSw); go_simp; (try with_reducible rfl)
    try simp only [Act.put, List.setIfInBounds_toArray, List.set_cons_zero, List.set_cons_succ]
    refine tk 9 (v := ?_) ?_ ?_
    rotate_left
    · intro w hSw; (try dsimp only at hSw); go_simp; (try with_reducible rfl)
    try simp only [Act.put, List.setIfInBounds_toArray, List.set_cons_zero, List.set_cons_succ]
    refine tk 11 (v := ?_) ?_ ?_
    rotate_left
    · intro w hSw; (try dsimp only at hSw); go_simp; (try with_reducible rfl)
    try simp only [Act.put, List.setIfInBounds_toArray, List.set_cons_zero, List.set_cons_succ]
    refine tk 10 (v := ?_) ?_ ?_
    rotate_left
    · intro w hSw; (try dsimp only at hSw); go_simp; (try with_reducible rfl)
    try simp only [Act.put, List.setIfInBounds_toArray, List.set_cons_zero, List.set_cons_succ]
    refine tk 12 (v := ?_) ?_ ?_
    rotate_left
    · intro w hSw; (try dsimp only at hSw); go_simp; (try with_reducible rfl)
    try simp only [Act.put, List.setIfInBounds_toArray, List.set_cons_zero, List.set_cons_succ]
    refine wpAnyH_done (by kernel_rfl) ?_ _
    refine NoPanic.normal ?_
    replace KA := hid (KA.out.step hHeld.1)
    replace KB := hid (KB.out.step hHeld.1)
    replace KR := hid (KR.out.step hHeld.1)
    replace KL := hid (KL.out.step hHeld.1)
    clear hHeld KS hbx0
    have fz0 := kp_froz KL.out 0
    have cz0 := kp_cell (j := 0) (v := .int .i64 0) KL.out rfl
    go_wp2
    have KL1 : Hid (Kp w (x0.setCell ⟨N3, 0, none⟩ (.int .i64 S0)) N3 (.cells #[.int .i64 S0, .int .i64 0] 22)) := hid (kp_set (j := 0) (v := .int .i64 S0) KL.out)
    replace KA := hid (kp_other (j := 0) (v := .int .i64 S0) (M := N3) KA.out (by have := HO.out; omega) (by have := HO.out; omega))
    replace KB := hid (kp_other (j := 0) (v := .int .i64 S0) (M := N3) KB.out (by have := HO.out; omega) (by have := HO.out; omega))
    replace KR := hid (kp_other (j := 0) (v := .int .i64 S0) (M := N3) KR.out (by have := HO.out; omega) (by have := HO.out; omega))
    clear KL fz0 cz0
    generalize x0.setCell ⟨N3, 0, none⟩ (.int .i64 S0) = X1 at KL1 KA KB KR ⊢
    rw [rounds_succ]
    cases f1 with
    | false =>
      go_wp2
      have KS : Hid (∀ y, Below X1.heap.size X1 y → (fun y => Below X1.heap.size X1 y ∧ y.cell? ⟨N0, 1, none⟩ = some (.int .i64 a1) ∧ y.cell? ⟨N1, 1, none⟩ = some (.int .i64 b1)) y) := hid (fun y hb => ⟨hb, kp_cell (j := 1) (v := .int .i64 a1) (KA.out.step hb) rfl, kp_cell (j := 1) (v := .int .i64 b1) (KB.out.step hb) rfl⟩)
      refine wp_region_noPanic ?_
      refine wp_region_held_drew (S := fun y => Below X1.heap.size X1 y ∧ y.cell? ⟨N0, 1, none⟩ = some (.int .i64 a1) ∧ y.cell? ⟨N1, 1, none⟩ = some (.int .i64 b1)) (by kernel_rfl) (KS.out _ (bdrew (Below.refl _ _))) (fun hHeld => ?_)
      refine tk 0 (v := ?_) ?_ ?_
      rotate_left
      · intro w hSw; (try dsimp only at hSw); go_simp; (try with_reducible rfl)
      try simp only [Act.put, List.setIfInBounds_toArray, List.set_cons_zero, List.set_cons_succ]
      refine tk 1 (v := ?_) ?_ ?_
      rotate_left
      · intro w hSw; (try dsimp only at hSw); go_simp; (try with_reducible rfl)
      try simp only [Act.put, List.setIfInBounds_toArray, List.set_cons_zero, List.set_cons_succ]
      refine tk 2 (v := ?_) ?_ ?_
      rotate_left
      · intro w hSw; (try dsimp only at hSw); go_simp; (try with_reducible rfl)
      try simp only [Act.put, List.setIfInBounds_toArray, List.set_cons_zero, List.set_cons_succ]
      refine tk 3 (v := ?_) ?_ ?_
      rotate_left
      · intro w hSw; (try dsimp only at hSw); go_simp; (try with_reducible rfl)
      try simp only [Act.put, List.setIfInBounds_toArray, List.set_cons_zero, List.set_cons_succ]
      refine tk 4 (v := ?_) ?_ ?_
      rotate_left
      · intro w hSw; (try dsimp only at hSw); go_simp; (try with_reducible rfl)
      try simp only [Act.put, List.setIfInBounds_toArray, List.set_cons_zero, List.set_cons_succ]
      refine tk 5 (v := ?_) ?_ ?_
      rotate_left
      · intro w hSw; (try dsimp only at hSw); go_simp; (try with_reducible rfl)
      try simp only [Act.put, List.setIfInBounds_toArray, List.set_cons_zero, List.set_cons_succ]
      refine tk 6 (v := ?_) ?_ ?_
      rotate_left
      · intro w hSw; (try dsimp only at hSw); go_simp; (try with_reducible rfl)
      try simp only [Act.put, List.setIfInBounds_toArray, List.set_cons_zero, List.set_cons_succ]
      refine rd1 7 (fun K hK => ?_)
      go_simp
      go_at_call 78; refine (csub_m _ _ S1 false _ HA.out.2 HB.out.2 FS1 FF1).mono ?_; rintro e x1 ⟨rfl, hbx1⟩
      refine hK.out _ _ (KS.out _ (bt hHeld.1 hbx1)) (fun hHeld2 => ?_)
      clear hK K hHeld; have hHeld := hHeld2; clear hHeld2
      try simp only [Act.put, List.setIfInBounds_toArray, List.set_cons_zero, List.set_cons_succ]
      refine tk 8 (v := ?_) ?_ ?_
      rotate_left
      · intro w hSw; (try dsimp only at hSw); go_simp; (try with_reducible rfl)
      try simp only [Act.put, List.setIfInBounds_toArray, List.set_cons_zero, List.set_cons_succ]
      refine tk 9 (v := ?_) ?_ ?_
      rotate_left
      · intro w hSw; (try dsimp only at hSw); go_simp; (try with_reducible rfl)
      try simp only [Act.put, List.setIfInBounds_toArray, List.set_cons_zero, List.set_cons_succ]
      refine tk 11 (v := ?_) ?_ ?_
      rotate_left
      · intro w hSw; (try dsimp only at hSw); go_simp; (try with_reducible rfl)
      try simp only [Act.put, List.setIfInBounds_toArray, List.set_cons_zero, List.set_cons_succ]
      refine tk 10 (v := ?_) ?_ ?_
      rotate_left
      · intro w hSw; (try dsimp only at hSw); go_simp; (try with_reducible rfl)
      try simp only [Act.put, List.setIfInBounds_toArray, List.set_cons_zero, List.set_cons_succ]
      refine tk 12 (v := ?_) ?_ ?_
      rotate_left
      · intro w hSw; (try dsimp only at hSw); go_simp; (try with_reducible rfl)
      try simp only [Act.put, List.setIfInBounds_toArray, List.set_cons_zero, List.set_cons_succ]
      refine wpAnyH_done (by kernel_rfl) ?_ _
      refine NoPanic.normal ?_
      replace KR := hid (KR.out.step hHeld.1)
      clear hHeld KS hbx1
      go_wp2_with (refine wpList_store_whole rfl 22 (.tmp 6) (.tmp 28) rfl N2 (aiC 0 0) rfl rfl 22 _ KR.out.2.2 rfl (by show _ = some 2; exact size_ai) (aiC_one _ _) ?_; intro w9 hp9 hg9; have KR9 := hid (kp_at KR.out hg9 hp9); clear hp9 hg9)
      (try simp only [Exit.inBlock, Exit.then])
      show bodyPost Try.prog Try.f77 _ _ _ _
      refine bodyPost_ret (results_cell_slot (p := 6) (u := 7) rfl _ _ N2 _ (aiC 0 0) (0, 0) _ (.bool false) rfl rfl KR9.out.2.2 Try.underlying22 rfl (by kernel_rfl)) rfl ?_
      have hv2 := hv.out
      rw [FF0.out, FF1.out] at hv2
      subst hv2
      rw [← h0.out, ← h1.out]
      exact ⟨rfl, KR9.out.1⟩
    | true =>
      go_wp2
      have KS : Hid (∀ y, Below X1.heap.size X1 y → (fun y => Below X1.heap.size X1 y ∧ y.cell? ⟨N0, 1, none⟩ = some (.int .i64 a1) ∧ y.cell? ⟨N1, 1, none⟩ = some (.int .i64 b1)) y) := hid (fun y hb => ⟨hb, kp_cell (j := 1) (v := .int .i64 a1) (KA.out.step hb) rfl, kp_cell (j := 1) (v := .int .i64 b1) (KB.out.step hb) rfl⟩)
      refine wp_region_noPanic ?_
      refine wp_region_held_drew (S := fun y => Below X1.heap.size X1 y ∧ y.cell? ⟨N0, 1, none⟩ = some (.int .i64 a1) ∧ y.cell? ⟨N1, 1, none⟩ = some (.int .i64 b1)) (by kernel_rfl) (KS.out _ (bdrew (Below.refl _ _))) (fun hHeld => ?_)
      refine tk 0 (v := ?_) ?_ ?_
      rotate_left
      · intro w hSw; (try dsimp only at hSw); go_simp; (try with_reducible rfl)
      try simp only [Act.put, List.setIfInBounds_toArray, List.set_cons_zero, List.set_cons_succ]
      refine tk 1 (v := ?_) ?_ ?_
      rotate_left
      · intro w hSw; (try dsimp only at hSw); go_simp; (try with_reducible rfl)
      try simp only [Act.put, List.setIfInBounds_toArray, List.set_cons_zero, List.set_cons_succ]
      refine tk 2 (v := ?_) ?_ ?_
      rotate_left
      · intro w hSw; (try dsimp only at hSw); go_simp; (try with_reducible rfl)
      try simp only [Act.put, List.setIfInBounds_toArray, List.set_cons_zero, List.set_cons_succ]
      refine tk 3 (v := ?_) ?_ ?_
      rotate_left
      · intro w hSw; (try dsimp only at hSw); go_simp; (try with_reducible rfl)
      try simp only [Act.put, List.setIfInBounds_toArray, List.set_cons_zero, List.set_cons_succ]
      refine tk 4 (v := ?_) ?_ ?_
      rotate_left
      · intro w hSw; (try dsimp only at hSw); go_simp; (try with_reducible rfl)
      try simp only [Act.put, List.setIfInBounds_toArray, List.set_cons_zero, List.set_cons_succ]
      refine tk 5 (v := ?_) ?_ ?_
      rotate_left
      · intro w hSw; (try dsimp only at hSw); go_simp; (try with_reducible rfl)
      try simp only [Act.put, List.setIfInBounds_toArray, List.set_cons_zero, List.set_cons_succ]
      refine tk 6 (v := ?_) ?_ ?_
      rotate_left
      · intro w hSw; (try dsimp only at hSw); go_simp; (try with_reducible rfl)
      try simp only [Act.put, List.setIfInBounds_toArray, List.set_cons_zero, List.set_cons_succ]
      refine rd1 7 (fun K hK => ?_)
      go_simp
      go_at_call 78; refine (csub_m _ _ S1 true _ HA.out.2 HB.out.2 FS1 FF1).mono ?_; rintro e x1 ⟨rfl, hbx1⟩
      refine hK.out _ _ (KS.out _ (bt hHeld.1 hbx1)) (fun hHeld2 => ?_)
      clear hK K hHeld; have hHeld := hHeld2; clear hHeld2
      try simp only [Act.put, List.setIfInBounds_toArray, List.set_cons_zero, List.set_cons_succ]
      refine tk 8 (v := ?_) ?_ ?_
      rotate_left
      · intro w hSw; (try dsimp only at hSw); go_simp; (try with_reducible rfl)
      try simp only [Act.put, List.setIfInBounds_toArray, List.set_cons_zero, List.set_cons_succ]
      refine tk 9 (v := ?_) ?_ ?_
      rotate_left
      · intro w hSw; (try dsimp only at hSw); go_simp; (try with_reducible rfl)
      try simp only [Act.put, List.setIfInBounds_toArray, List.set_cons_zero, List.set_cons_succ]
      refine tk 11 (v := ?_) ?_ ?_
      rotate_left
      · intro w hSw; (try dsimp only at hSw); go_simp; (try with_reducible rfl)
      try simp only [Act.put, List.setIfInBounds_toArray, List.set_cons_zero, List.set_cons_succ]
      refine tk 10 (v := ?_) ?_ ?_
      rotate_left
      · intro w hSw; (try dsimp only at hSw); go_simp; (try with_reducible rfl)
      try simp only [Act.put, List.setIfInBounds_toArray, List.set_cons_zero, List.set_cons_succ]
      refine tk 12 (v := ?_) ?_ ?_
      rotate_left
      · intro w hSw; (try dsimp only at hSw); go_simp; (try with_reducible rfl)
      try simp only [Act.put, List.setIfInBounds_toArray, List.set_cons_zero, List.set_cons_succ]
      refine wpAnyH_done (by kernel_rfl) ?_ _
      refine NoPanic.normal ?_
      replace KR := hid (KR.out.step hHeld.1)
      replace KL1 := hid (KL1.out.step hHeld.1)
      clear hHeld KS hbx1
      have fz1 := kp_froz KL1.out 1
      have cz1 := kp_cell (j := 1) (v := .int .i64 0) KL1.out rfl
      go_wp2
      have KL2 : Hid (Kp w (x1.setCell ⟨N3, 1, none⟩ (.int .i64 S1)) N3 (.cells #[.int .i64 S0, .int .i64 S1] 22)) := hid (kp_set (j := 1) (v := .int .i64 S1) KL1.out)
      replace KR := hid (kp_other (j := 1) (v := .int .i64 S1) (M := N3) KR.out (by have := HO.out; omega) (by have := HO.out; omega))
      clear KL1 fz1 cz1
      generalize x1.setCell ⟨N3, 1, none⟩ (.int .i64 S1) = X2 at KL2 KR ⊢
      obtain ⟨d0, d1⟩ := box_two KL2.out.2.2
      rw [rounds_succ]
      go_wp2_with (refine wpList_store_whole rfl 22 (.tmp 6) (.tmp 33) rfl N2 (aiC S0 S1) rfl rfl 22 _ KR.out.2.2 rfl (by show _ = some 2; exact size_ai) (aiC_one _ _) ?_; intro w9 hp9 hg9; have KR9 := hid (kp_at KR.out hg9 hp9); clear hp9 hg9)
      (try simp only [Exit.inBlock, Exit.then])
      show bodyPost Try.prog Try.f77 _ _ _ _
      refine bodyPost_ret (results_cell_slot (p := 6) (u := 7) rfl _ _ N2 _ (aiC S0 S1) (0, 0) _ (.bool true) rfl rfl KR9.out.2.2 Try.underlying22 rfl (by kernel_rfl)) rfl ?_
      have hv2 := hv.out
      rw [FF0.out, FF1.out] at hv2
      subst hv2
      have e0 := fitV_yes FF0.out
      have e1 := fitV_yes FF1.out
      rw [FS0.out] at e0
      rw [FS1.out] at e1
      rw [← h0.out, ← h1.out, e0, e1]
      exact ⟨rfl, KR9.out.1⟩


end Go.Proofs.Ytjkkajhjcinalaa

/-
  -
  -
  Conditions: as each theorem states them.
-/
import Derived.Test.YtjkkajhjcinalaaQAK
namespace Go.Proofs.Ytjkkajhjcinalaa
open Go.ChangeShapes Go.WideShapes Go.ChangeAt Go.RowKit
set_option linter.unusedVariables false
set_option linter.unusedSimpArgs false
set_option maxRecDepth 100000

theorem far_up {w : World} {a : Option Addr} {N : Nat} (h : Far w a) (hN : N < w.heap.size) : ∀ b off, a = some ⟨b, off, none⟩ → N < b := fun b off e => Nat.lt_of_lt_of_le hN (h b off e)
theorem far_low {w w' : World} {a : Option Addr} (h : Far w' a) (hN : w.heap.size ≤ w'.heap.size) : Far w a := fun b off e => Nat.le_trans hN (h b off e)
set_option maxHeartbeats 16000000 in
theorem eachJoin_m (x0 : Option Addr) (x1 x2 : Nat) (x3 : Option Addr) (x4 x5 : Nat) (y0 : Option Addr) (y1 y2 : Nat) (y3 : Option Addr) (y4 y5 : Nat) (l0 l1 u0 u1 M0 M1 : List Rn) (k0 k1 : Nat) (v : Bool) (w : World) (hx : NRun w x0 x1 x2 l0 ∧ NRun w x3 x4 x5 l1) (hy : NRun w y0 y1 y2 u0 ∧ NRun w y3 y4 y5 u1) (kx : (∀ r ∈ l0, nok r) ∧ ∀ r ∈ l1, nok r) (ky : (∀ r ∈ u0, nok r) ∧ ∀ r ∈ u1, nok r) (hp : (x1 ≤ 1000 ∧ x4 ≤ 1000) ∧ y1 ≤ 1000 ∧ y4 ≤ 1000)
    (hv : Hid ((Jn l0 u0 && Jn l1 u1) = v)) (h0 : Hid ((if v then Jl l0 u0 else []) = M0)) (h1 : Hid ((if v then Jl l1 u1 else []) = M1)) (h2 : Hid (M0.length = k0)) (h3 : Hid (M1.length = k1)) :
    Calls Try.prog 83 #[.func (.func 66) #[] #[], .agg #[.slice x0 x1 x2, .slice x3 x4 x5], .agg #[.slice y0 y1 y2, .slice y3 y4 y5]] w fun e w' => (∃ A0 c0 A1 c1, e = .returned (.tuple #[.agg #[.slice A0 k0 c0, .slice A1 k1 c1], .bool v]) ∧ (NRun w' A0 k0 c0 M0 ∧ NRun w' A1 k1 c1 M1) ∧ Far w A0 ∧ Far w A1) ∧ Below w.heap.size w w' := by
  have HX := hid hx
  have HY := hid hy
  have HKX := hid kx
  have HKY := hid ky
  have HP := hid hp
  clear hx hy kx ky hp
  obtain ⟨L0, hL0⟩ : ∃ y, Jl l0 u0 = y := ⟨_, rfl⟩
  obtain ⟨f0, hf0⟩ : ∃ y, Jn l0 u0 = y := ⟨_, rfl⟩
  obtain ⟨t0, ht0⟩ : ∃ y, L0.length = y := ⟨_, rfl⟩
  have FL0 := hid hL0
  have FF0 := hid hf0
  have FT0 := hid ht0
  clear hL0 hf0 ht0
  obtain ⟨L1, hL1⟩ : ∃ y, Jl l1 u1 = y := ⟨_, rfl⟩
  obtain ⟨f1, hf1⟩ : ∃ y, Jn l1 u1 = y := ⟨_, rfl⟩
  obtain ⟨t1, ht1⟩ : ∃ y, L1.length = y := ⟨_, rfl⟩
  have FL1 := hid hL1
  have FF1 := hid hf1
  have FT1 := hid ht1
  clear hL1 hf1 ht1
  have KK := hid (four_new w (.cells #[.slice x0 x1 x2, .slice x3 x4 x5] 24) (.cells #[.slice y0 y1 y2, .slice y3 y4 y5] 24) (.cells #[.slice none 0 0, .slice none 0 0] 24) (.cells #[.slice none 0 0, .slice none 0 0] 24))
  go_enter Try.func83, Try.ntmps83
  go_upto_region 2 with fail
  generalize (((w.alloc (.cells #[.slice x0 x1 x2, .slice x3 x4 x5] 24)).alloc (.cells #[.slice y0 y1 y2, .slice y3 y4 y5] 24)).alloc (.cells #[.slice none 0 0, .slice none 0 0] 24)).alloc (.cells #[.slice none 0 0, .slice none 0 0] 24) = W at KK ⊢
  obtain ⟨N0, hN0⟩ : ∃ y, w.heap.size = y := ⟨_, rfl⟩
  obtain ⟨N1, hN1⟩ : ∃ y, N0 + 1 = y := ⟨_, rfl⟩
  obtain ⟨N2, hN2⟩ : ∃ y, N1 + 1 = y := ⟨_, rfl⟩
  obtain ⟨N3, hN3⟩ : ∃ y, N2 + 1 = y := ⟨_, rfl⟩
  rw [hN0, hN1, hN2, hN3] at KK
  (try rw [hN0]); (try rw [hN1]); (try rw [hN2]); (try rw [hN3])
  have HO : Hid (w.heap.size = N0 ∧ N0 < N1 ∧ N1 < N2 ∧ N2 < N3) := hid (by omega)
  clear hN0 hN1 hN2 hN3
  have KA := hid KK.out.1
  have KB := hid KK.out.2.1
  have KR := hid KK.out.2.2.1
  have KL := hid KK.out.2.2.2
  clear KK
  go_wp2
  refine wp_loop_rounds 3 ?_
  rw [rounds_succ]
  cases f0 with
  | false =>
    go_wp2
    have KS : Hid (∀ y, Below W.heap.size W y → (fun y => Below W.heap.size W y ∧ y.cell? ⟨N0, 0, none⟩ = some (.slice x0 x1 x2) ∧ y.cell? ⟨N1, 0, none⟩ = some (.slice y0 y1 y2)) y) := hid (fun y hb => ⟨hb, kp_cell (j := 0) (v := .slice x0 x1 x2) (KA.out.step hb) rfl, kp_cell (j := 0) (v := .slice y0 y1 y2) (KB.out.step hb) rfl⟩)
    refine wp_region_noPanic ?_
    refine wp_region_held_drew (S := fun y => Below W.heap.size W y ∧ y.cell? ⟨N0, 0, none⟩ = some (.slice x0 x1 x2) ∧ y.cell? ⟨N1, 0, none⟩ = some (.slice y0 y1 y2)) (by kernel_rfl) (KS.out _ (bdrew (Below.refl _ _))) (fun hHeld => ?_)
    refine tk 0 (v := ?_) ?_ ?_
    rotate_left
    · intro w hSw; (try dsimp only at hSw); go_simp; (try with_reducible rfl)
    try simp only [Act.put, List.setIfInBounds_toArray, List.set_cons_zero, List.set_cons_succ]
    refine tk 1 (v := ?_) ?_ ?_
    rotate_left
    · intro w hSw; (try dsimp only at hSw); go_simp; (try with_reducible rfl)
    try simp only [Act.put, List.setIfInBounds_toArray, List.set_cons_zero, List.set_cons_succ]
    refine tk 2 (v := ?_) ?_ ?_
    rotate_left
    · intro w hSw; (try dsimp only at hSw); go_simp; (try with_reducible rfl)
    try simp only [Act.put, List.setIfInBounds_toArray, List.set_cons_zero, List.set_cons_succ]
    refine tk 3 (v := ?_) ?_ ?_
    rotate_left
    · intro w hSw; (try dsimp only at hSw); go_simp; (try with_reducible rfl)
    try simp only [Act.put, List.setIfInBounds_toArray, List.set_cons_zero, List.set_cons_succ]
    refine tk 4 (v := ?_) ?_ ?_
    rotate_left
    · intro w hSw; (try dsimp only at hSw); go_simp; (try with_reducible rfl)
    try simp only [Act.put, List.setIfInBounds_toArray, List.set_cons_zero, List.set_cons_succ]
    refine tk 5 (v := ?_) ?_ ?_
    rotate_left
    · intro w hSw; (try dsimp only at hSw); go_simp; (try with_reducible rfl)
    try simp only [Act.put, List.setIfInBounds_toArray, List.set_cons_zero, List.set_cons_succ]
    refine tk 6 (v := ?_) ?_ ?_
    rotate_left
    · intro w hSw; (try dsimp only at hSw); go_simp; (try with_reducible rfl)
    try simp only [Act.put, List.setIfInBounds_toArray, List.set_cons_zero, List.set_cons_succ]
    refine rd1 7 (fun K hK => ?_)
    go_simp
    go_at_call 66; refine (join_n _ _ _ _ _ _ t0 l0 u0 L0 false _ (HX.out.1.below (bt KA.out.1 hHeld.1)) (HY.out.1.below (bt KA.out.1 hHeld.1)) HKX.out.1 HKY.out.1 (by have := HP.out; omega) (by have := HP.out; omega) FL0 FF0 FT0).mono ?_; rintro e z0 ⟨⟨A0, c0, rfl, hr0, hf0⟩, hbz0⟩
    have FA0 := hid (far_up hf0 (heap_lt (keep_blk KL.out.2.2 hHeld.1)))
    have FW0 := hid (far_low hf0 (bt KL.out.1 hHeld.1).size)
    have R0 := hid hr0
    clear hr0 hf0
    refine hK.out _ _ (KS.out _ (bt hHeld.1 hbz0)) (fun hHeld2 => ?_)
    clear hK K hHeld; have hHeld := hHeld2; clear hHeld2
    try simp only [Act.put, List.setIfInBounds_toArray, List.set_cons_zero, List.set_cons_succ]
    refine tk 8 (v := ?_) ?_ ?_
    rotate_left
    · intro w hSw; (try dsimp only at hSw); go_simp; (try with_reducible rfl)
    try simp only [Act.put, List.setIfInBounds_toArray, List.set_cons_zero, List.set_cons_succ]
    refine tk 9 (v := ?_) ?_ ?_
    rotate_left
    · intro w hSw; (try dsimp only at hSw); go_simp; (try with_reducible rfl)
    try simp only [Act.put, List.setIfInBounds_toArray, List.set_cons_zero, List.set_cons_succ]
    refine tk 11 (v := ?_) ?_ ?_
    rotate_left
    · intro w hSw; (try dsimp only at hSw); go_simp; (try with_reducible rfl)
    try simp only [Act.put, List.setIfInBounds_toArray, List.set_cons_zero, List.set_cons_succ]
    refine tk 10 (v := ?_) ?_ ?_
    rotate_left
    · intro w hSw; (try dsimp only at hSw); go_simp; (try with_reducible rfl)
    try simp only [Act.put, List.setIfInBounds_toArray, List.set_cons_zero, List.set_cons_succ]
    refine tk 12 (v := ?_) ?_ ?_
    rotate_left
    · intro w hSw; (try dsimp only at hSw); go_simp; (try with_reducible rfl)
    try simp only [Act.put, List.setIfInBounds_toArray, List.set_cons_zero, List.set_cons_succ]
    refine wpAnyH_done (by kernel_rfl) ?_ _
    refine NoPanic.normal ?_
    replace KR := hid (KR.out.step hHeld.1)
    clear hHeld KS hbz0 R0
    go_wp2_with (refine wpList_store_whole rfl 24 (.tmp 6) (.tmp 28) rfl N2 (asC none 0 0 none 0 0) rfl rfl 24 _ KR.out.2.2 rfl (by show _ = some 2; exact size_as) (asC_one _ _ _ _ _ _) ?_; intro w9 hp9 hg9; have KR9 := hid (kp_at KR.out hg9 hp9); clear hp9 hg9)
    (try simp only [Exit.inBlock, Exit.then])
    show bodyPost Try.prog Try.f83 _ _ _ _
    refine bodyPost_ret (results_cell_slot (p := 6) (u := 7) rfl _ _ N2 _ (asC none 0 0 none 0 0) (0, 0) _ (.bool false) rfl rfl KR9.out.2.2 Try.underlying24 rfl (by kernel_rfl)) rfl ?_
    have hv2 := hv.out
    rw [FF0.out] at hv2
    subst hv2
    have e0 := h0.out
    have e1 := h1.out
    subst e0
    subst e1
    rw [← h2.out, ← h3.out]
    exact ⟨⟨none, 0, none, 0, rfl, ⟨nrun_nil _, nrun_nil _⟩, far_nil _, far_nil _⟩, KR9.out.1⟩
  | true =>
    go_wp2
    have KS : Hid (∀ y, Below W.heap.size W y → (fun y => Below W.heap.size W y ∧ y.cell? ⟨N0, 0, none⟩ = some (.slice x0 x1 x2) ∧ y.cell? ⟨N1, 0, none⟩ = some (.slice y0 y1 y2)) y) := hid (fun y hb => ⟨hb, kp_cell (j := 0) (v := .slice x0 x1 x2) (KA.out.step hb) rfl, kp_cell (j := 0) (v := .slice y0 y1 y2) (KB.out.step hb) rfl⟩)
    refine wp_region_noPanic ?_
    refine wp_region_held_drew (S := fun y => Below W.heap.size W y ∧ y.cell? ⟨N0, 0, none⟩ = some (.slice x0 x1 x2) ∧ y.cell? ⟨N1, 0, none⟩ = some (.slice y0 y1 y2)) (by kernel_rfl) (KS.out _ (bdrew (Below.refl _ _))) (fun hHeld => ?_)
    refine tk 0 (v := ?_) ?_ ?_
    rotate_left
    · intro w hSw; (try dsimp only at hSw); go_simp; (try with_reducible rfl)
    try simp only [Act.put, List.setIfInBounds_toArray, List.set_cons_zero, List.set_cons_succ]
    refine tk 1 (v := ?_) ?_ ?_
    rotate_left
    · intro w hSw; (try dsimp only at hSw); go_simp; (try with_reducible rfl)
    try simp only [Act.put, List.setIfInBounds_toArray, List.set_cons_zero, List.set_cons_succ]
    refine tk 2 (v := ?_) ?_ ?_
    rotate_left
    · intro w hSw; (try dsimp only at hSw); go_simp; (try with_reducible rfl)
    try simp only [Act.put, List.setIfInBounds_toArray, List.set_cons_zero, List.set_cons_succ]
    refine tk 3 (v := ?_) ?_ ?_
    rotate_left
    · intro w hSw; (try dsimp only at hSw); go_simp; (try with_reducible rfl)
    try simp only [Act.put, List.setIfInBounds_toArray, List.set_cons_zero, List.set_cons_succ]
    refine tk 4 (v := ?_) ?_ ?_
    rotate_left
    · intro w hSw; (try dsimp only at hSw); go_simp; (try with_reducible rfl)
    try simp only [Act.put, List.setIfInBounds_toArray, List.set_cons_zero, List.set_cons_succ]
    refine tk 5 (v := ?_) ?_ ?_
    rotate_left
    · intro w hSw; (try dsimp only at hSw); go_simp; (try with_reducible rfl)
    try simp only [Act.put, List.setIfInBounds_toArray, List.set_cons_zero, List.set_cons_succ]
    refine tk 6 (v := ?_) ?_ ?_
    rotate_left
    · intro w hSw; (try dsimp only at hSw); go_simp; (try with_reducible rfl)
    try simp only [Act.put, List.setIfInBounds_toArray, List.set_cons_zero, List.set_cons_succ]
    refine rd1 7 (fun K hK => ?_)
    go_simp
    go_at_call 66; refine (join_n _ _ _ _ _ _ t0 l0 u0 L0 true _ (HX.out.1.below (bt KA.out.1 hHeld.1)) (HY.out.1.below (bt KA.out.1 hHeld.1)) HKX.out.1 HKY.out.1 (by have := HP.out; omega) (by have := HP.out; omega) FL0 FF0 FT0).mono ?_; rintro e z0 ⟨⟨A0, c0, rfl, hr0, hf0⟩, hbz0⟩
    have FA0 := hid (far_up hf0 (heap_lt (keep_blk KL.out.2.2 hHeld.1)))
    have FW0 := hid (far_low hf0 (bt KL.out.1 hHeld.1).size)
    have R0 := hid hr0
    clear hr0 hf0
    refine hK.out _ _ (KS.out _ (bt hHeld.1 hbz0)) (fun hHeld2 => ?_)
    clear hK K hHeld; have hHeld := hHeld2; clear hHeld2
    try simp only [Act.put, List.setIfInBounds_toArray, List.set_cons_zero, List.set_cons_succ]
    refine tk 8 (v := ?_) ?_ ?_
    rotate_left
    · intro w hSw; (try dsimp only at hSw); go_simp; (try with_reducible rfl)
    try simp only [Act.put, List.setIfInBounds_toArray, List.set_cons_zero, List.set_cons_succ]
    refine tk 9 (v := ?_) ?_ ?_
    rotate_left
    · intro w hSw; (try dsimp only at hSw); go_simp; (try with_reducible rfl)
    try simp only [Act.put, List.setIfInBounds_toArray, List.set_cons_zero, List.set_cons_succ]
    refine tk 11 (v := ?_) ?_ ?_
    rotate_left
    · intro w hSw; (try dsimp only at hSw); go_simp; (try with_reducible rfl)
    try simp only [Act.put, List.setIfInBounds_toArray, List.set_cons_zero, List.set_cons_succ]
    refine tk 10 (v := ?_) ?_ ?_
    rotate_left
    · intro w hSw; (try dsimp only at hSw); go_simp; (try with_reducible rfl)
    try simp only [Act.put, List.setIfInBounds_toArray, List.set_cons_zero, List.set_cons_succ]
    refine tk 12 (v := ?_) ?_ ?_
    rotate_left
    · intro w hSw; (try dsimp only at hSw); go_simp; (try with_reducible rfl)
    try simp only [Act.put, List.setIfInBounds_toArray, List.set_cons_zero, List.set_cons_succ]
    refine wpAnyH_done (by kernel_rfl) ?_ _
    refine NoPanic.normal ?_
    replace KA := hid (KA.out.step hHeld.1)
    replace KB := hid (KB.out.step hHeld.1)
    replace KR := hid (KR.out.step hHeld.1)
    replace KL := hid (KL.out.step hHeld.1)
    clear hHeld KS hbz0
    have fz0 := kp_froz KL.out 0
    have cz0 := kp_cell (j := 0) (v := .slice none 0 0) KL.out rfl
    go_wp2
    have KL1 : Hid (Kp w (z0.setCell ⟨N3, 0, none⟩ (.slice A0 t0 c0)) N3 (.cells #[.slice A0 t0 c0, .slice none 0 0] 24)) := hid (kp_set (j := 0) (v := .slice A0 t0 c0) KL.out)
    replace KA := hid (kp_other (j := 0) (v := .slice A0 t0 c0) (M := N3) KA.out (by have := HO.out; omega) (by have := HO.out; omega))
    replace KB := hid (kp_other (j := 0) (v := .slice A0 t0 c0) (M := N3) KB.out (by have := HO.out; omega) (by have := HO.out; omega))
    replace KR := hid (kp_other (j := 0) (v := .slice A0 t0 c0) (M := N3) KR.out (by have := HO.out; omega) (by have := HO.out; omega))
    replace R0 := hid (R0.out.grown (set_grown z0 N3 0 (.slice A0 t0 c0)) (fun b off e => by have := FA0.out b off e; have := HO.out; omega))
    clear KL fz0 cz0
    generalize z0.setCell ⟨N3, 0, none⟩ (.slice A0 t0 c0) = X1 at KL1 KA KB KR R0 ⊢
    have KL := KL1
    clear KL1
    rw [rounds_succ]
    cases f1 with
    | false =>
      go_wp2
      have KS : Hid (∀ y, Below X1.heap.size X1 y → (fun y => Below X1.heap.size X1 y ∧ y.cell? ⟨N0, 1, none⟩ = some (.slice x3 x4 x5) ∧ y.cell? ⟨N1, 1, none⟩ = some (.slice y3 y4 y5)) y) := hid (fun y hb => ⟨hb, kp_cell (j := 1) (v := .slice x3 x4 x5) (KA.out.step hb) rfl, kp_cell (j := 1) (v := .slice y3 y4 y5) (KB.out.step hb) rfl⟩)
      refine wp_region_noPanic ?_
      refine wp_region_held_drew (S := fun y => Below X1.heap.size X1 y ∧ y.cell? ⟨N0, 1, none⟩ = some (.slice x3 x4 x5) ∧ y.cell? ⟨N1, 1, none⟩ = some (.slice y3 y4 y5)) (by kernel_rfl) (KS.out _ (bdrew (Below.refl _ _))) (fun hHeld => ?_)
      refine tk 0 (v := ?_) ?_ ?_
      rotate_left
      · intro w hSw; (try dsimp only at hSw); go_simp; (try with_reducible rfl)
      try simp only [Act.put, List.setIfInBounds_toArray, List.set_cons_zero, List.set_cons_succ]
      refine tk 1 (v := ?_) ?_ ?_
      rotate_left
      · intro w hSw; (try dsimp only at hSw); go_simp; (try with_reducible rfl)
      try simp only [Act.put, List.setIfInBounds_toArray, List.set_cons_zero, List.set_cons_succ]
      refine tk 2 (v := ?_) ?_ ?_
      rotate_left
      · intro w hSw; (try dsimp only at hSw); go_simp; (try with_reducible rfl)
      try simp only [Act.put, List.setIfInBounds_toArray, List.set_cons_zero, List.set_cons_succ]
      refine tk 3 (v := ?_) ?_ ?_
      rotate_left
      · intro w hSw; (try dsimp only at hSw); go_simp; (try with_reducible rfl)
      try simp only [Act.put, List.setIfInBounds_toArray, List.set_cons_zero, List.set_cons_succ]
      refine tk 4 (v := ?_) ?_ ?_
      rotate_left
      · intro w hSw; (try dsimp only at hSw); go_simp; (try with_reducible rfl)
      try simp only [Act.put, List.setIfInBounds_toArray, List.set_cons_zero, List.set_cons_succ]
      refine tk 5 (v := ?_) ?_ ?_
      rotate_left
      · intro w hSw; (try dsimp only at hSw); go_simp; (try with_reducible rfl)
      try simp only [Act.put, List.setIfInBounds_toArray, List.set_cons_zero, List.set_cons_succ]
      refine tk 6 (v := ?_) ?_ ?_
      rotate_left
      · intro w hSw; (try dsimp only at hSw); go_simp; (try with_reducible rfl)
      try simp only [Act.put, List.setIfInBounds_toArray, List.set_cons_zero, List.set_cons_succ]
      refine rd1 7 (fun K hK => ?_)
      go_simp
      go_at_call 66; refine (join_n _ _ _ _ _ _ t1 l1 u1 L1 false _ (HX.out.2.below (bt KA.out.1 hHeld.1)) (HY.out.2.below (bt KA.out.1 hHeld.1)) HKX.out.2 HKY.out.2 (by have := HP.out; omega) (by have := HP.out; omega) FL1 FF1 FT1).mono ?_; rintro e z1 ⟨⟨A1, c1, rfl, hr1, hf1⟩, hbz1⟩
      have FA1 := hid (far_up hf1 (heap_lt (keep_blk KL.out.2.2 hHeld.1)))
      have FW1 := hid (far_low hf1 (bt KL.out.1 hHeld.1).size)
      have R1 := hid hr1
      clear hr1 hf1
      refine hK.out _ _ (KS.out _ (bt hHeld.1 hbz1)) (fun hHeld2 => ?_)
      clear hK K hHeld; have hHeld := hHeld2; clear hHeld2
      try simp only [Act.put, List.setIfInBounds_toArray, List.set_cons_zero, List.set_cons_succ]
      refine tk 8 (v := ?_) ?_ ?_
      rotate_left
      · intro w hSw; (try dsimp only at hSw); go_simp; (try with_reducible rfl)
      try simp only [Act.put, List.setIfInBounds_toArray, List.set_cons_zero, List.set_cons_succ]
      refine tk 9 (v := ?_) ?_ ?_
      rotate_left
      · intro w hSw; (try dsimp only at hSw); go_simp; (try with_reducible rfl)
      try simp only [Act.put, List.setIfInBounds_toArray, List.set_cons_zero, List.set_cons_succ]
      refine tk 11 (v := ?_) ?_ ?_
      rotate_left
      · intro w hSw; (try dsimp only at hSw); go_simp; (try with_reducible rfl)
      try simp only [Act.put, List.setIfInBounds_toArray, List.set_cons_zero, List.set_cons_succ]
      refine tk 10 (v := ?_) ?_ ?_
      rotate_left
      · intro w hSw; (try dsimp only at hSw); go_simp; (try with_reducible rfl)
      try simp only [Act.put, List.setIfInBounds_toArray, List.set_cons_zero, List.set_cons_succ]
      refine tk 12 (v := ?_) ?_ ?_
      rotate_left
      · intro w hSw; (try dsimp only at hSw); go_simp; (try with_reducible rfl)
      try simp only [Act.put, List.setIfInBounds_toArray, List.set_cons_zero, List.set_cons_succ]
      refine wpAnyH_done (by kernel_rfl) ?_ _
      refine NoPanic.normal ?_
      replace KR := hid (KR.out.step hHeld.1)
      clear hHeld KS hbz1 R0 R1
      go_wp2_with (refine wpList_store_whole rfl 24 (.tmp 6) (.tmp 28) rfl N2 (asC none 0 0 none 0 0) rfl rfl 24 _ KR.out.2.2 rfl (by show _ = some 2; exact size_as) (asC_one _ _ _ _ _ _) ?_; intro w9 hp9 hg9; have KR9 := hid (kp_at KR.out hg9 hp9); clear hp9 hg9)
      (try simp only [Exit.inBlock, Exit.then])
      show bodyPost Try.prog Try.f83 _ _ _ _
      refine bodyPost_ret (results_cell_slot (p := 6) (u := 7) rfl _ _ N2 _ (asC none 0 0 none 0 0) (0, 0) _ (.bool false) rfl rfl KR9.out.2.2 Try.underlying24 rfl (by kernel_rfl)) rfl ?_
      have hv2 := hv.out
      rw [FF0.out, FF1.out] at hv2
      subst hv2
      have e0 := h0.out
      have e1 := h1.out
      subst e0
      subst e1
      rw [← h2.out, ← h3.out]
      exact ⟨⟨none, 0, none, 0, rfl, ⟨nrun_nil _, nrun_nil _⟩, far_nil _, far_nil _⟩, KR9.out.1⟩
    | true =>
      go_wp2
      have KS : Hid (∀ y, Below X1.heap.size X1 y → (fun y => Below X1.heap.size X1 y ∧ y.cell? ⟨N0, 1, none⟩ = some (.slice x3 x4 x5) ∧ y.cell? ⟨N1, 1, none⟩ = some (.slice y3 y4 y5)) y) := hid (fun y hb => ⟨hb, kp_cell (j := 1) (v := .slice x3 x4 x5) (KA.out.step hb) rfl, kp_cell (j := 1) (v := .slice y3 y4 y5) (KB.out.step hb) rfl⟩)
      refine wp_region_noPanic ?_
      refine wp_region_held_drew (S := fun y => Below X1.heap.size X1 y ∧ y.cell? ⟨N0, 1, none⟩ = some (.slice x3 x4 x5) ∧ y.cell? ⟨N1, 1, none⟩ = some (.slice y3 y4 y5)) (by kernel_rfl) (KS.out _ (bdrew (Below.refl _ _))) (fun hHeld => ?_)
      refine tk 0 (v := ?_) ?_ ?_
      rotate_left
      · intro w hSw; (try dsimp only at hSw); go_simp; (try with_reducible rfl)
      try simp only [Act.put, List.setIfInBounds_toArray, List.set_cons_zero, List.set_cons_succ]
      refine tk 1 (v := ?_) ?_ ?_
      rotate_left
      · intro w hSw; (try dsimp only at hSw); go_simp; (try with_reducible rfl)
      try simp only [Act.put, List.setIfInBounds_toArray, List.set_cons_zero, List.set_cons_succ]
      refine tk 2 (v := ?_) ?_ ?_
      rotate_left
      · intro w hSw; (try dsimp only at hSw); go_simp; (try with_reducible rfl)
      try simp only [Act.put, List.setIfInBounds_toArray, List.set_cons_zero, List.set_cons_succ]
      refine tk 3 (v := ?_) ?_ ?_
      rotate_left
      · intro w hSw; (try dsimp only at hSw); go_simp; (try with_reducible rfl)
      try simp only [Act.put, List.setIfInBounds_toArray, List.set_cons_zero, List.set_cons_succ]
      refine tk 4 (v := ?_) ?_ ?_
      rotate_left
      · intro w hSw; (try dsimp only at hSw); go_simp; (try with_reducible rfl)
      try simp only [Act.put, List.setIfInBounds_toArray, List.set_cons_zero, List.set_cons_succ]
      refine tk 5 (v := ?_) ?_ ?_
      rotate_left
      · intro w hSw; (try dsimp only at hSw); go_simp; (try with_reducible rfl)
      try simp only [Act.put, List.setIfInBounds_toArray, List.set_cons_zero, List.set_cons_succ]
      refine tk 6 (v := ?_) ?_ ?_
      rotate_left
      · intro w hSw; (try dsimp only at hSw); go_simp; (try with_reducible rfl)
      try simp only [Act.put, List.setIfInBounds_toArray, List.set_cons_zero, List.set_cons_succ]
      refine rd1 7 (fun K hK => ?_)
      go_simp
      go_at_call 66; refine (join_n _ _ _ _ _ _ t1 l1 u1 L1 true _ (HX.out.2.below (bt KA.out.1 hHeld.1)) (HY.out.2.below (bt KA.out.1 hHeld.1)) HKX.out.2 HKY.out.2 (by have := HP.out; omega) (by have := HP.out; omega) FL1 FF1 FT1).mono ?_; rintro e z1 ⟨⟨A1, c1, rfl, hr1, hf1⟩, hbz1⟩
      have FA1 := hid (far_up hf1 (heap_lt (keep_blk KL.out.2.2 hHeld.1)))
      have FW1 := hid (far_low hf1 (bt KL.out.1 hHeld.1).size)
      have R1 := hid hr1
      clear hr1 hf1
      refine hK.out _ _ (KS.out _ (bt hHeld.1 hbz1)) (fun hHeld2 => ?_)
      clear hK K hHeld; have hHeld := hHeld2; clear hHeld2
      try simp only [Act.put, List.setIfInBounds_toArray, List.set_cons_zero, List.set_cons_succ]
      refine tk 8 (v := ?_) ?_ ?_
      rotate_left
      · intro w hSw; (try dsimp only at hSw); go_simp; (try with_reducible rfl)
      try simp only [Act.put, List.setIfInBounds_toArray, List.set_cons_zero, List.set_cons_succ]
      refine tk 9 (v := ?_) ?_ ?_
      rotate_left
      · intro w hSw; (try dsimp only at hSw); go_simp; (try with_reducible rfl)
      try simp only [Act.put, List.setIfInBounds_toArray, List.set_cons_zero, List.set_cons_succ]
      refine tk 11 (v := ?_) ?_ ?_
      rotate_left
      · intro w hSw; (try dsimp only at hSw); go_simp; (try with_reducible rfl)
      try simp only [Act.put, List.setIfInBounds_toArray, List.set_cons_zero, List.set_cons_succ]
      refine tk 10 (v := ?_) ?_ ?_
      rotate_left
      · intro w hSw; (try dsimp only at hSw); go_simp; (try with_reducible rfl)
      try simp only [Act.put, List.setIfInBounds_toArray, List.set_cons_zero, List.set_cons_succ]
      refine tk 12 (v := ?_) ?_ ?_
      rotate_left
      · intro w hSw; (try dsimp only at hSw); go_simp; (try with_reducible rfl)
      try simp only [Act.put, List.setIfInBounds_toArray, List.set_cons_zero, List.set_cons_succ]
      refine wpAnyH_done (by kernel_rfl) ?_ _
      refine NoPanic.normal ?_
      replace KR := hid (KR.out.step hHeld.1)
      replace KL := hid (KL.out.step hHeld.1)
      replace R0 := hid (R0.out.below hHeld.1)
      clear hHeld KS hbz1
      have fz1 := kp_froz KL.out 1
      have cz1 := kp_cell (j := 1) (v := .slice none 0 0) KL.out rfl
      go_wp2
      have KL2 : Hid (Kp w (z1.setCell ⟨N3, 1, none⟩ (.slice A1 t1 c1)) N3 (.cells #[.slice A0 t0 c0, .slice A1 t1 c1] 24)) := hid (kp_set (j := 1) (v := .slice A1 t1 c1) KL.out)
      replace KR := hid (kp_other (j := 1) (v := .slice A1 t1 c1) (M := N3) KR.out (by have := HO.out; omega) (by have := HO.out; omega))
      replace R0 := hid (R0.out.grown (set_grown z1 N3 1 (.slice A1 t1 c1)) (fun b off e => by have := FA0.out b off e; have := HO.out; omega))
      replace R1 := hid (R1.out.grown (set_grown z1 N3 1 (.slice A1 t1 c1)) (fun b off e => by have := FA1.out b off e; have := HO.out; omega))
      clear KL fz1 cz1
      generalize z1.setCell ⟨N3, 1, none⟩ (.slice A1 t1 c1) = X2 at KL2 KR R0 R1 ⊢
      obtain ⟨d0, d1⟩ := box_two KL2.out.2.2
      rw [rounds_succ]
      go_wp2_with (refine wpList_store_whole rfl 24 (.tmp 6) (.tmp 33) rfl N2 (asC A0 t0 c0 A1 t1 c1) rfl rfl 24 _ KR.out.2.2 rfl (by show _ = some 2; exact size_as) (asC_one _ _ _ _ _ _) ?_; intro w9 hp9 hg9; have KR9 := hid (kp_at KR.out hg9 hp9); replace R0 := hid (R0.out.grown hg9 (fun b off e => by have := FA0.out b off e; have := HO.out; omega)); replace R1 := hid (R1.out.grown hg9 (fun b off e => by have := FA1.out b off e; have := HO.out; omega)); clear hp9 hg9)
      (try simp only [Exit.inBlock, Exit.then])
      show bodyPost Try.prog Try.f83 _ _ _ _
      refine bodyPost_ret (results_cell_slot (p := 6) (u := 7) rfl _ _ N2 _ (asC A0 t0 c0 A1 t1 c1) (0, 0) _ (.bool true) rfl rfl KR9.out.2.2 Try.underlying24 rfl (by kernel_rfl)) rfl ?_
      have hv2 := hv.out
      rw [FF0.out, FF1.out] at hv2
      subst hv2
      have e0 : L0 = M0 := by rw [← FL0.out]; exact h0.out
      have e1 : L1 = M1 := by rw [← FL1.out]; exact h1.out
      subst e0
      subst e1
      have q0 := FT0.out.symm.trans h2.out
      have q1 := FT1.out.symm.trans h3.out
      subst q0
      subst q1
      exact ⟨⟨A0, c0, A1, c1, rfl, ⟨R0.out, R1.out⟩, FW0.out, FW1.out⟩, KR9.out.1⟩

set_option maxHeartbeats 16000000 in
theorem eachMinus_m (x0 : Option Addr) (x1 x2 : Nat) (x3 : Option Addr) (x4 x5 : Nat) (y0 : Option Addr) (y1 y2 : Nat) (y3 : Option Addr) (y4 y5 : Nat) (l0 l1 u0 u1 M0 M1 : List Rn) (k0 k1 : Nat) (v : Bool) (w : World) (hx : NRun w x0 x1 x2 l0 ∧ NRun w x3 x4 x5 l1) (hy : NRun w y0 y1 y2 u0 ∧ NRun w y3 y4 y5 u1) (kx : (∀ r ∈ l0, nok r) ∧ ∀ r ∈ l1, nok r) (ky : (∀ r ∈ u0, nok r) ∧ ∀ r ∈ u1, nok r) (hp : (x1 ≤ 1000 ∧ x4 ≤ 1000) ∧ y1 ≤ 1000 ∧ y4 ≤ 1000)
    (hv : Hid ((Mn l0 u0 && Mn l1 u1) = v)) (h0 : Hid ((if v then Ml l0 u0 else []) = M0)) (h1 : Hid ((if v then Ml l1 u1 else []) = M1)) (h2 : Hid (M0.length = k0)) (h3 : Hid (M1.length = k1)) :
    Calls Try.prog 83 #[.func (.func 91) #[] #[], .agg #[.slice x0 x1 x2, .slice x3 x4 x5], .agg #[.slice y0 y1 y2, .slice y3 y4 y5]] w fun e w' => (∃ A0 c0 A1 c1, e = .returned (.tuple #[.agg #[.slice A0 k0 c0, .slice A1 k1 c1], .bool v]) ∧ (NRun w' A0 k0 c0 M0 ∧ NRun w' A1 k1 c1 M1) ∧ Far w A0 ∧ Far w A1) ∧ Below w.heap.size w w' := by
  have HX := hid hx
  have HY := hid hy
  have HKX := hid kx
  have HKY := hid ky
  have HP := hid hp
  clear hx hy kx ky hp
  obtain ⟨L0, hL0⟩ : ∃ y, Ml l0 u0 = y := ⟨_, rfl⟩
  obtain ⟨f0, hf0⟩ : ∃ y, Mn l0 u0 = y := ⟨_, rfl⟩
  obtain ⟨t0, ht0⟩ : ∃ y, L0.length = y := ⟨_, rfl⟩
  have FL0 := hid hL0
  have FF0 := hid hf0
  have FT0 := hid ht0
  clear hL0 hf0 ht0
  obtain ⟨L1, hL1⟩ : ∃ y, Ml l1 u1 = y := ⟨_, rfl⟩
  obtain ⟨f1, hf1⟩ : ∃ y, Mn l1 u1 = y := ⟨_, rfl⟩
  obtain ⟨t1, ht1⟩ : ∃ y, L1.length = y := ⟨_, rfl⟩
  have FL1 := hid hL1
  have FF1 := hid hf1
  have FT1 := hid ht1
  clear hL1 hf1 ht1
  have KK := hid (four_new w (.cells #[.slice x0 x1 x2, .slice x3 x4 x5] 24) (.cells #[.slice y0 y1 y2, .slice y3 y4 y5] 24) (.cells #[.slice none 0 0, .slice none 0 0] 24) (.cells #[.slice none 0 0, .slice none 0 0] 24))
  go_enter Try.func83, Try.ntmps83
  go_upto_region 2 with fail
  generalize (((w.alloc (.cells #[.slice x0 x1 x2, .slice x3 x4 x5] 24)).alloc (.cells #[.slice y0 y1 y2, .slice y3 y4 y5] 24)).alloc (.cells #[.slice none 0 0, .slice none 0 0] 24)).alloc (.cells #[.slice none 0 0, .slice none 0 0] 24) = W at KK ⊢
  obtain ⟨N0, hN0⟩ : ∃ y, w.heap.size = y := ⟨_, rfl⟩
  obtain ⟨N1, hN1⟩ : ∃ y, N0 + 1 = y := ⟨_, rfl⟩
  obtain ⟨N2, hN2⟩ : ∃ y, N1 + 1 = y := ⟨_, rfl⟩
  obtain ⟨N3, hN3⟩ : ∃ y, N2 + 1 = y := ⟨_, rfl⟩
  rw [hN0, hN1, hN2, hN3] at KK
  (try rw [hN0]); (try rw [hN1]); (try rw [hN2]); (try rw [hN3])
  have HO : Hid (w.heap.size = N0 ∧ N0 < N1 ∧ N1 < N2 ∧ N2 < N3) := hid (by omega)
  clear hN0 hN1 hN2 hN3
  have KA := hid KK.out.1
  have KB := hid KK.out.2.1
  have KR := hid KK.out.2.2.1
  have KL := hid KK.out.2.2.2
  clear KK
  go_wp2
  refine wp_loop_rounds 3 ?_
  rw [rounds_succ]
  cases f0 with
  | false =>
    go_wp2
    have KS : Hid (∀ y, Below W.heap.size W y → (fun y => Below W.heap.size W y ∧ y.cell? ⟨N0, 0, none⟩ = some (.slice x0 x1 x2) ∧ y.cell? ⟨N1, 0, none⟩ = some (.slice y0 y1 y2)) y) := hid (fun y hb => ⟨hb, kp_cell (j := 0) (v := .slice x0 x1 x2) (KA.out.step hb) rfl, kp_cell (j := 0) (v := .slice y0 y1 y2) (KB.out.step hb) rfl⟩)
    refine wp_region_noPanic ?_
    refine wp_region_held_drew (S := fun y => Below W.heap.size W y ∧ y.cell? ⟨N0, 0, none⟩ = some (.slice x0 x1 x2) ∧ y.cell? ⟨N1, 0, none⟩ = some (.slice y0 y1 y2)) (by kernel_rfl) (KS.out _ (bdrew (Below.refl _ _))) (fun hHeld => ?_)
    refine tk 0 (v := ?_) ?_ ?_
    rotate_left
    · intro w hSw; (try dsimp only at hSw); go_simp; (try with_reducible rfl)
    try simp only [Act.put, List.setIfInBounds_toArray, List.set_cons_zero, List.set_cons_succ]
    refine tk 1 (v := ?_) ?_ ?_
    rotate_left
    · intro w hSw; (try dsimp only at hSw); go_simp; (try with_reducible rfl)
    try simp only [Act.put, List.setIfInBounds_toArray, List.set_cons_zero, List.set_cons_succ]
    refine tk 2 (v := ?_) ?_ ?_
    rotate_left
    · intro w hSw; (try dsimp only at hSw); go_simp; (try with_reducible rfl)
    try simp only [Act.put, List.setIfInBounds_toArray, List.set_cons_zero, List.set_cons_succ]
    refine tk 3 (v := ?_) ?_ ?_
    rotate_left
    · intro w hSw; (try dsimp only at hSw); go_simp; (try with_reducible rfl)
    try simp only [Act.put, List.setIfInBounds_toArray, List.set_cons_zero, List.set_cons_succ]
    refine tk 4 (v := ?_) ?_ ?_
    rotate_left
    · intro w hSw; (try dsimp only at hSw); go_simp; (try with_reducible rfl)
    try simp only [Act.put, List.setIfInBounds_toArray, List.set_cons_zero, List.set_cons_succ]
    refine tk 5 (v := ?_) ?_ ?_
    rotate_left
    · intro w hSw; (try dsimp only at hSw); go_simp; (try with_reducible rfl)
    try simp only [Act.put, List.setIfInBounds_toArray, List.set_cons_zero, List.set_cons_succ]
    refine tk 6 (v := ?_) ?_ ?_
    rotate_left
    · intro w hSw; (try dsimp only at hSw); go_simp; (try with_reducible rfl)
    try simp only [Act.put, List.setIfInBounds_toArray, List.set_cons_zero, List.set_cons_succ]
    refine rd1 7 (fun K hK => ?_)
    go_simp
    go_at_call 91; refine (minus_n _ _ _ _ _ _ t0 l0 u0 L0 false _ (HX.out.1.below (bt KA.out.1 hHeld.1)) (HY.out.1.below (bt KA.out.1 hHeld.1)) HKX.out.1 HKY.out.1 (by have := HP.out; omega) (by have := HP.out; omega) FL0 FF0 FT0).mono ?_; rintro e z0 ⟨⟨A0, c0, rfl, hr0, hf0⟩, hbz0⟩
    have FA0 := hid (far_up hf0 (heap_lt (keep_blk KL.out.2.2 hHeld.1)))
    have FW0 := hid (far_low hf0 (bt KL.out.1 hHeld.1).size)
    have R0 := hid hr0
    clear hr0 hf0
    refine hK.out _ _ (KS.out _ (bt hHeld.1 hbz0)) (fun hHeld2 => ?_)
    clear hK K hHeld; have hHeld := hHeld2; clear hHeld2
    try simp only [Act.put, List.setIfInBounds_toArray, List.set_cons_zero, List.set_cons_succ]
    refine tk 8 (v := ?_) ?_ ?_
    rotate_left
    · intro w hSw; (try dsimp only at hSw); go_simp; (try with_reducible rfl)
    try simp only [Act.put, List.setIfInBounds_toArray, List.set_cons_zero, List.set_cons_succ]
    refine tk 9 (v := ?_) ?_ ?_
    rotate_left
    · intro w hSw; (try dsimp only at hSw); go_simp; (try with_reducible rfl)
    try simp only [Act.put, List.setIfInBounds_toArray, List.set_cons_zero, List.set_cons_succ]
    refine tk 11 (v := ?_) ?_ ?_
    rotate_left
    · intro w hSw; (try dsimp only at hSw); go_simp; (try with_reducible rfl)
    try simp only [Act.put, List.setIfInBounds_toArray, List.set_cons_zero, List.set_cons_succ]
    refine tk 10 (v := ?_) ?_ ?_
    rotate_left
    · intro w hSw; (try dsimp only at hSw); go_simp; (try with_reducible rfl)
    try simp only [Act.put, List.setIfInBounds_toArray, List.set_cons_zero, List.set_cons_succ]
    refine tk 12 (v := ?_) ?_ ?_
    rotate_left
    · intro w hSw; (try dsimp only at hSw); go_simp; (try with_reducible rfl)
    try simp only [Act.put, List.setIfInBounds_toArray, List.set_cons_zero, List.set_cons_succ]
    refine wpAnyH_done (by kernel_rfl) ?_ _
    refine NoPanic.normal ?_
    replace KR := hid (KR.out.step hHeld.1)
    clear hHeld KS hbz0 R0
    go_wp2_with (refine wpList_store_whole rfl 24 (.tmp 6) (.tmp 28) rfl N2 (asC none 0 0 none 0 0) rfl rfl 24 _ KR.out.2.2 rfl (by show _ = some 2; exact size_as) (asC_one _ _ _ _ _ _) ?_; intro w9 hp9 hg9; have KR9 := hid (kp_at KR.out hg9 hp9); clear hp9 hg9)
    (try simp only [Exit.inBlock, Exit.then])
    show bodyPost Try.prog Try.f83 _ _ _ _
    refine bodyPost_ret (results_cell_slot (p := 6) (u := 7) rfl _ _ N2 _ (asC none 0 0 none 0 0) (0, 0) _ (.bool false) rfl rfl KR9.out.2.2 Try.underlying24 rfl (by kernel_rfl)) rfl ?_
    have hv2 := hv.out
    rw [FF0.out] at hv2
    subst hv2
    have e0 := h0.out
    have e1 := h1.out
    subst e0
    subst e1
    rw [← h2.out, ← h3.out]
    exact ⟨⟨none, 0, none, 0, rfl, ⟨nrun_nil _, nrun_nil _⟩, far_nil _, far_nil _⟩, KR9.out.1⟩
  | true =>
    go_wp2
    have KS : Hid (∀ y, Below W.heap.size W y → (fun y => Below W.heap.size W y ∧ y.cell? ⟨N0, 0, none⟩ = some (.slice x0 x1 x2) ∧ y.cell? ⟨N1, 0, none⟩ = some (.slice y0 y1 y2)) y) := hid (fun y hb => ⟨hb, kp_cell (j := 0) (v := .slice x0 x1 x2) (KA.out.step hb) rfl, kp_cell (j := 0) (v := .slice y0 y1 y2) (KB.out.step hb) rfl⟩)
    refine wp_region_noPanic ?_
    refine wp_region_held_drew (S := fun y => Below W.heap.size W y ∧ y.cell? ⟨N0, 0, none⟩ = some (.slice x0 x1 x2) ∧ y.cell? ⟨N1, 0, none⟩ = some (.slice y0 y1 y2)) (by kernel_rfl) (KS.out _ (bdrew (Below.refl _ _))) (fun hHeld => ?_)
    refine tk 0 (v := ?_) ?_ ?_
    rotate_left
    · intro w hSw; (try dsimp only at hSw); go_simp; (try with_reducible rfl)
    try simp only [Act.put, List.setIfInBounds_toArray, List.set_cons_zero, List.set_cons_succ]
    refine tk 1 (v := ?_) ?_ ?_
    rotate_left
    · intro w hSw; (try dsimp only at hSw); go_simp; (try with_reducible rfl)
    try simp only [Act.put, List.setIfInBounds_toArray, List.set_cons_zero, List.set_cons_succ]
    refine tk 2 (v := ?_) ?_ ?_
    rotate_left
    · intro w hSw; (try dsimp only at hSw); go_simp; (try with_reducible rfl)
    try simp only [Act.put, List.setIfInBounds_toArray, List.set_cons_zero, List.set_cons_succ]
    refine tk 3 (v := ?_) ?_ ?_
    rotate_left
    · intro w hSw; (try dsimp only at hSw); go_simp; (try with_reducible rfl)
    try simp only [Act.put, List.setIfInBounds_toArray, List.set_cons_zero, List.set_cons_succ]
    refine tk 4 (v := ?_) ?_ ?_
    rotate_left
    · intro w hSw; (try dsimp only at hSw); go_simp; (try with_reducible rfl)
    try simp only [Act.put, List.setIfInBounds_toArray, List.set_cons_zero, List.set_cons_succ]
    refine tk 5 (v := ?_) ?_ ?_
    rotate_left
    · intro w hSw; (try dsimp only at hSw); go_simp; (try with_reducible rfl)
    try simp only [Act.put, List.setIfInBounds_toArray, List.set_cons_zero, List.set_cons_succ]
    refine tk 6 (v := ?_) ?_ ?_
    rotate_left
    · intro w hSw; (try dsimp only at hSw); go_simp; (try with_reducible rfl)
    try simp only [Act.put, List.setIfInBounds_toArray, List.set_cons_zero, List.set_cons_succ]
    refine rd1 7 (fun K hK => ?_)
    go_simp
    go_at_call 91; refine (minus_n _ _ _ _ _ _ t0 l0 u0 L0 true _ (HX.out.1.below (bt KA.out.1 hHeld.1)) (HY.out.1.below (bt KA.out.1 hHeld.1)) HKX.out.1 HKY.out.1 (by have := HP.out; omega) (by have := HP.out; omega) FL0 FF0 FT0).mono ?_; rintro e z0 ⟨⟨A0, c0, rfl, hr0, hf0⟩, hbz0⟩
    have FA0 := hid (far_up hf0 (heap_lt (keep_blk KL.out.2.2 hHeld.1)))
    have FW0 := hid (far_low hf0 (bt KL.out.1 hHeld.1).size)
    have R0 := hid hr0
    clear hr0 hf0
    refine hK.out _ _ (KS.out _ (bt hHeld.1 hbz0)) (fun hHeld2 => ?_)
    clear hK K hHeld; have hHeld := hHeld2; clear hHeld2
    try simp only [Act.put, List.setIfInBounds_toArray, List.set_cons_zero, List.set_cons_succ]
    refine tk 8 (v := ?_) ?_ ?_
    rotate_left
    · intro w hSw; (try dsimp only at hSw); go_simp; (try with_reducible rfl)
    try simp only [Act.put, List.setIfInBounds_toArray, List.set_cons_zero, List.set_cons_succ]
    refine tk 9 (v := ?_) ?_ ?_
    rotate_left
    · intro w hSw; (try dsimp only at hSw); go_simp; (try with_reducible rfl)
    try simp only [Act.put, List.setIfInBounds_toArray, List.set_cons_zero, List.set_cons_succ]
    refine tk 11 (v := ?_) ?_ ?_
    rotate_left
    · intro w hSw; (try dsimp only at hSw); go_simp; (try with_reducible rfl)
    try simp only [Act.put, List.setIfInBounds_toArray, List.set_cons_zero, List.set_cons_succ]
    refine tk 10 (v := ?_) ?_ ?_
    rotate_left
    · intro w hSw; (try dsimp only at hSw); go_simp; (try with_reducible rfl)
    try simp only [Act.put, List.setIfInBounds_toArray, List.set_cons_zero, List.set_cons_succ]
    refine tk 12 (v := ?_) ?_ ?_
    rotate_left
    · intro w hSw; (try dsimp only at hSw); go_simp; (try with_reducible rfl)
    try simp only [Act.put, List.setIfInBounds_toArray, List.set_cons_zero, List.set_cons_succ]
    refine wpAnyH_done (by kernel_rfl) ?_ _
    refine NoPanic.normal ?_
    replace KA := hid (KA.out.step hHeld.1)
    replace KB := hid (KB.out.step hHeld.1)
    replace KR := hid (KR.out.step hHeld.1)
    replace KL := hid (KL.out.step hHeld.1)
    clear hHeld KS hbz0
    have fz0 := kp_froz KL.out 0
    have cz0 := kp_cell (j := 0) (v := .slice none 0 0) KL.out rfl
    go_wp2
    have KL1 : Hid (Kp w (z0.setCell ⟨N3, 0, none⟩ (.slice A0 t0 c0)) N3 (.cells #[.slice A0 t0 c0, .slice none 0 0] 24)) := hid (kp_set (j := 0) (v := .slice A0 t0 c0) KL.out)
    replace KA := hid (kp_other (j := 0) (v := .slice A0 t0 c0) (M := N3) KA.out (by have := HO.out; omega) (by have := HO.out; omega))
    replace KB := hid (kp_other (j := 0) (v := .slice A0 t0 c0) (M := N3) KB.out (by have := HO.out; omega) (by have := HO.out; omega))
    replace KR := hid (kp_other (j := 0) (v := .slice A0 t0 c0) (M := N3) KR.out (by have := HO.out; omega) (by have := HO.out; omega))
    replace R0 := hid (R0.out.grown (set_grown z0 N3 0 (.slice A0 t0 c0)) (fun b off e => by have := FA0.out b off e; have := HO.out; omega))
    clear KL fz0 cz0
    generalize z0.setCell ⟨N3, 0, none⟩ (.slice A0 t0 c0) = X1 at KL1 KA KB KR R0 ⊢
    have KL := KL1
    clear KL1
    rw [rounds_succ]
    cases f1 with
    | false =>
      go_wp2
      have KS : Hid (∀ y, Below X1.heap.size X1 y → (fun y => Below X1.heap.size X1 y ∧ y.cell? ⟨N0, 1, none⟩ = some (.slice x3 x4 x5) ∧ y.cell? ⟨N1, 1, none⟩ = some (.slice y3 y4 y5)) y) := hid (fun y hb => ⟨hb, kp_cell (j := 1) (v := .slice x3 x4 x5) (KA.out.step hb) rfl, kp_cell (j := 1) (v := .slice y3 y4 y5) (KB.out.step hb) rfl⟩)
      refine wp_region_noPanic ?_
      refine wp_region_held_drew (S := fun y => Below X1.heap.size X1 y ∧ y.cell? ⟨N0, 1, none⟩ = some (.slice x3 x4 x5) ∧ y.cell? ⟨N1, 1, none⟩ = some (.slice y3 y4 y5)) (by kernel_rfl) (KS.out _ (bdrew (Below.refl _ _))) (fun hHeld => ?_)
      refine tk 0 (v := ?_) ?_ ?_
      rotate_left
      · intro w hSw; (try dsimp only at hSw); go_simp; (try with_reducible rfl)
      try simp only [Act.put, List.setIfInBounds_toArray, List.set_cons_zero, List.set_cons_succ]
      refine tk 1 (v := ?_) ?_ ?_
      rotate_left
      · intro w hSw; (try dsimp only at hSw); go_simp; (try with_reducible rfl)
      try simp only [Act.put, List.setIfInBounds_toArray, List.set_cons_zero, List.set_cons_succ]
      refine tk 2 (v := ?_) ?_ ?_
      rotate_left
      · intro w hSw; (try dsimp only at hSw); go_simp; (try with_reducible rfl)
      try simp only [Act.put, List.setIfInBounds_toArray, List.set_cons_zero, List.set_cons_succ]
      refine tk 3 (v := ?_) ?_ ?_
      rotate_left
      · intro w hSw; (try dsimp only at hSw); go_simp; (try with_reducible rfl)
      try simp only [Act.put, List.setIfInBounds_toArray, List.set_cons_zero, List.set_cons_succ]
      refine tk 4 (v := ?_) ?_ ?_
      rotate_left
      · intro w hSw; (try dsimp only at hSw); go_simp; (try with_reducible rfl)
      try simp only [Act.put, List.setIfInBounds_toArray, List.set_cons_zero, List.set_cons_succ]
      refine tk 5 (v := ?_) ?_ ?_
      rotate_left
      · intro w hSw; (try dsimp only at hSw); go_simp; (try with_reducible rfl)
      try simp only [Act.put, List.setIfInBounds_toArray, List.set_cons_zero, List.set_cons_succ]
      refine tk 6 (v := ?_) ?_ ?_
      rotate_left
      · intro w hSw; (try dsimp only at hSw); go_simp; (try with_reducible rfl)
      try simp only [Act.put, List.setIfInBounds_toArray, List.set_cons_zero, List.set_cons_succ]
      refine rd1 7 (fun K hK => ?_)
      go_simp
      go_at_call 91; refine (minus_n _ _ _ _ _ _ t1 l1 u1 L1 false _ (HX.out.2.below (bt KA.out.1 hHeld.1)) (HY.out.2.below (bt KA.out.1 hHeld.1)) HKX.out.2 HKY.out.2 (by have := HP.out; omega) (by have := HP.out; omega) FL1 FF1 FT1).mono ?_; rintro e z1 ⟨⟨A1, c1, rfl, hr1, hf1⟩, hbz1⟩
      have FA1 := hid (far_up hf1 (heap_lt (keep_blk KL.out.2.2 hHeld.1)))
      have FW1 := hid (far_low hf1 (bt KL.out.1 hHeld.1).size)
      have R1 := hid hr1
      clear hr1 hf1
      refine hK.out _ _ (KS.out _ (bt hHeld.1 hbz1)) (fun hHeld2 => ?_)
      clear hK K hHeld; have hHeld := hHeld2; clear hHeld2
      try simp only [Act.put, List.setIfInBounds_toArray, List.set_cons_zero, List.set_cons_succ]
      refine tk 8 (v := ?_) ?_ ?_
      rotate_left
      · intro w hSw; (try dsimp only at hSw); go_simp; (try with_reducible rfl)
      try simp only [Act.put, List.setIfInBounds_toArray, List.set_cons_zero, List.set_cons_succ]
      refine tk 9 (v := ?_) ?_ ?_
      rotate_left
      · intro w hSw; (try dsimp only at hSw); go_simp; (try with_reducible rfl)
      try simp only [Act.put, List.setIfInBounds_toArray, List.set_cons_zero, List.set_cons_succ]
      refine tk 11 (v := ?_) ?_ ?_
      rotate_left
      · intro w hSw; (try dsimp only at hSw); go_simp; (try with_reducible rfl)
      try simp only [Act.put, List.setIfInBounds_toArray, List.set_cons_zero, List.set_cons_succ]
      refine tk 10 (v := ?_) ?_ ?_
      rotate_left
      · intro w hSw; (try dsimp only at hSw); go_simp; (try with_reducible rfl)
      try simp only [Act.put, List.setIfInBounds_toArray, List.set_cons_zero, List.set_cons_succ]
      refine tk 12 (v := ?_) ?_ ?_
      rotate_left
      · intro w hSw; (try dsimp only at hSw); go_simp; (try with_reducible rfl)
      try simp only [Act.put, List.setIfInBounds_toArray, List.set_cons_zero, List.set_cons_succ]
      refine wpAnyH_done (by kernel_rfl) ?_ _
      refine NoPanic.normal ?_
      replace KR := hid (KR.out.step hHeld.1)
      clear hHeld KS hbz1 R0 R1
      go_wp2_with (refine wpList_store_whole rfl 24 (.tmp 6) (.tmp 28) rfl N2 (asC none 0 0 none 0 0) rfl rfl 24 _ KR.out.2.2 rfl (by show _ = some 2; exact size_as) (asC_one _ _ _ _ _ _) ?_; intro w9 hp9 hg9; have KR9 := hid (kp_at KR.out hg9 hp9); clear hp9 hg9)
      (try simp only [Exit.inBlock, Exit.then])
      show bodyPost Try.prog Try.f83 _ _ _ _
      refine bodyPost_ret (results_cell_slot (p := 6) (u := 7) rfl _ _ N2 _ (asC none 0 0 none 0 0) (0, 0) _ (.bool false) rfl rfl KR9.out.2.2 Try.underlying24 rfl (by kernel_rfl)) rfl ?_
      have hv2 := hv.out
      rw [FF0.out, FF1.out] at hv2
      subst hv2
      have e0 := h0.out
      have e1 := h1.out
      subst e0
      subst e1
      rw [← h2.out, ← h3.out]
      exact ⟨⟨none, 0, none, 0, rfl, ⟨nrun_nil _, nrun_nil _⟩, far_nil _, far_nil _⟩, KR9.out.1⟩
    | true =>
      go_wp2
      have KS : Hid (∀ y, Below X1.heap.size X1 y → (fun y => Below X1.heap.size X1 y ∧ y.cell? ⟨N0, 1, none⟩ = some (.slice x3 x4 x5) ∧ y.cell? ⟨N1, 1, none⟩ = some (.slice y3 y4 y5)) y) := hid (fun y hb => ⟨hb, kp_cell (j := 1) (v := .slice x3 x4 x5) (KA.out.step hb) rfl, kp_cell (j := 1) (v := .slice y3 y4 y5) (KB.out.step hb) rfl⟩)
      refine wp_region_noPanic ?_
      refine wp_region_held_drew (S := fun y => Below X1.heap.size X1 y ∧ y.cell? ⟨N0, 1, none⟩ = some (.slice x3 x4 x5) ∧ y.cell? ⟨N1, 1, none⟩ = some (.slice y3 y4 y5)) (by kernel_rfl) (KS.out _ (bdrew (Below.refl _ _))) (fun hHeld => ?_)
      refine tk 0 (v := ?_) ?_ ?_
      rotate_left
      · intro w hSw; (try dsimp only at hSw); go_simp; (try with_reducible rfl)
      try simp only [Act.put, List.setIfInBounds_toArray, List.set_cons_zero, List.set_cons_succ]
      refine tk 1 (v := ?_) ?_ ?_
      rotate_left
      · intro w hSw; (try dsimp only at hSw); go_simp; (try with_reducible rfl)
      try simp only [Act.put, List.setIfInBounds_toArray, List.set_cons_zero, List.set_cons_succ]
      refine tk 2 (v := ?_) ?_ ?_
      rotate_left
      · intro w hSw; (try dsimp only at hSw); go_simp; (try with_reducible rfl)
      try simp only [Act.put, List.setIfInBounds_toArray, List.set_cons_zero, List.set_cons_succ]
      refine tk 3 (v := ?_) ?_ ?_
      rotate_left
      · intro w hSw; (try dsimp only at hSw); go_simp; (try with_reducible rfl)
      try simp only [Act.put, List.setIfInBounds_toArray, List.set_cons_zero, List.set_cons_succ]
      refine tk 4 (v := ?_) ?_ ?_
      rotate_left
      · intro w hSw; (try dsimp only at hSw); go_simp; (try with_reducible rfl)
      try simp only [Act.put, List.setIfInBounds_toArray, List.set_cons_zero, List.set_cons_succ]
      refine tk 5 (v := ?_) ?_ ?_
      rotate_left
      · intro w hSw; (try dsimp only at hSw); go_simp; (try with_reducible rfl)
      try simp only [Act.put, List.setIfInBounds_toArray, List.set_cons_zero, List.set_cons_succ]
      refine tk 6 (v := ?_) ?_ ?_
      rotate_left
      · intro w hSw; (try dsimp only at hSw); go_simp; (try with_reducible rfl)
      try simp only [Act.put, List.setIfInBounds_toArray, List.set_cons_zero, List.set_cons_succ]
      refine rd1 7 (fun K hK => ?_)
      go_simp
      go_at_call 91; refine (minus_n _ _ _ _ _ _ t1 l1 u1 L1 true _ (HX.out.2.below (bt KA.out.1 hHeld.1)) (HY.out.2.below (bt KA.out.1 hHeld.1)) HKX.out.2 HKY.out.2 (by have := HP.out; omega) (by have := HP.out; omega) FL1 FF1 FT1).mono ?_; rintro e z1 ⟨⟨A1, c1, rfl, hr1, hf1⟩, hbz1⟩
      have FA1 := hid (far_up hf1 (heap_lt (keep_blk KL.out.2.2 hHeld.1)))
      have FW1 := hid (far_low hf1 (bt KL.out.1 hHeld.1).size)
      have R1 := hid hr1
      clear hr1 hf1
      refine hK.out _ _ (KS.out _ (bt hHeld.1 hbz1)) (fun hHeld2 => ?_)
      clear hK K hHeld; have hHeld := hHeld2; clear hHeld2
      try simp only [Act.put, List.setIfInBounds_toArray, List.set_cons_zero, List.set_cons_succ]
      refine tk 8 (v := ?_) ?_ ?_
      rotate_left
      · intro w hSw; (try dsimp only at hSw); go_simp; (try with_reducible rfl)
      try simp only [Act.put, List.setIfInBounds_toArray, List.set_cons_zero, List.set_cons_succ]
      refine tk 9 (v := ?_) ?_ ?_
      rotate_left
      · intro w hSw; (try dsimp only at hSw); go_simp; (try with_reducible rfl)
      try simp only [Act.put, List.setIfInBounds_toArray, List.set_cons_zero, List.set_cons_succ]
      refine tk 11 (v := ?_) ?_ ?_
      rotate_left
      · intro w hSw; (try dsimp only at hSw); go_simp; (try with_reducible rfl)
      try simp only [Act.put, List.setIfInBounds_toArray, List.set_cons_zero, List.set_cons_succ]
      refine tk 10 (v := ?_) ?_ ?_
      rotate_left
      · intro w hSw; (try dsimp only at hSw); go_simp; (try with_reducible rfl)
      try simp only [Act.put, List.setIfInBounds_toArray, List.set_cons_zero, List.set_cons_succ]
      refine tk 12 (v := ?_) ?_ ?_
      rotate_left
      · intro w hSw; (try dsimp only at hSw); go_simp; (try with_reducible rfl)
      try simp only [Act.put, List.setIfInBounds_toArray, List.set_cons_zero, List.set_cons_succ]
      refine wpAnyH_done (by kernel_rfl) ?_ _
      refine NoPanic.normal ?_
      replace KR := hid (KR.out.step hHeld.1)
      replace KL := hid (KL.out.step hHeld.1)
      replace R0 := hid (R0.out.below hHeld.1)
      clear hHeld KS hbz1
      have fz1 := kp_froz KL.out 1
      have cz1 := kp_cell (j := 1) (v := .slice none 0 0) KL.out rfl
      go_wp2
      have KL2 : Hid (Kp w (z1.setCell ⟨N3, 1, none⟩ (.slice A1 t1 c1)) N3 (.cells #[.slice A0 t0 c0, .slice A1 t1 c1] 24)) := hid (kp_set (j := 1) (v := .slice A1 t1 c1) KL.out)
      replace KR := hid (kp_other (j := 1) (v := .slice A1 t1 c1) (M := N3) KR.out (by have := HO.out; omega) (by have := HO.out; omega))
      replace R0 := hid (R0.out.grown (set_grown z1 N3 1 (.slice A1 t1 c1)) (fun b off e => by have := FA0.out b off e; have := HO.out; omega))
      replace R1 := hid (R1.out.grown (set_grown z1 N3 1 (.slice A1 t1 c1)) (fun b off e => by have := FA1.out b off e; have := HO.out; omega))
      clear KL fz1 cz1
      generalize z1.setCell ⟨N3, 1, none⟩ (.slice A1 t1 c1) = X2 at KL2 KR R0 R1 ⊢
      obtain ⟨d0, d1⟩ := box_two KL2.out.2.2
      rw [rounds_succ]
      go_wp2_with (refine wpList_store_whole rfl 24 (.tmp 6) (.tmp 33) rfl N2 (asC A0 t0 c0 A1 t1 c1) rfl rfl 24 _ KR.out.2.2 rfl (by show _ = some 2; exact size_as) (asC_one _ _ _ _ _ _) ?_; intro w9 hp9 hg9; have KR9 := hid (kp_at KR.out hg9 hp9); replace R0 := hid (R0.out.grown hg9 (fun b off e => by have := FA0.out b off e; have := HO.out; omega)); replace R1 := hid (R1.out.grown hg9 (fun b off e => by have := FA1.out b off e; have := HO.out; omega)); clear hp9 hg9)
      (try simp only [Exit.inBlock, Exit.then])
      show bodyPost Try.prog Try.f83 _ _ _ _
      refine bodyPost_ret (results_cell_slot (p := 6) (u := 7) rfl _ _ N2 _ (asC A0 t0 c0 A1 t1 c1) (0, 0) _ (.bool true) rfl rfl KR9.out.2.2 Try.underlying24 rfl (by kernel_rfl)) rfl ?_
      have hv2 := hv.out
      rw [FF0.out, FF1.out] at hv2
      subst hv2
      have e0 : L0 = M0 := by rw [← FL0.out]; exact h0.out
      have e1 : L1 = M1 := by rw [← FL1.out]; exact h1.out
      subst e0
      subst e1
      have q0 := FT0.out.symm.trans h2.out
      have q1 := FT1.out.symm.trans h3.out
      subst q0
      subst q1
      exact ⟨⟨A0, c0, A1, c1, rfl, ⟨R0.out, R1.out⟩, FW0.out, FW1.out⟩, KR9.out.1⟩


end Go.Proofs.Ytjkkajhjcinalaa

namespace Go.Proofs.Ytjkkajhjcinalaa
open Go.ChangeShapes Go.WideShapes Go.ChangeAt Go.RowKit
set_option linter.unusedVariables false
set_option linter.unusedSimpArgs false
set_option maxRecDepth 100000

theorem results_two_raw {fn : Func} {p q : Tmp} {ty : TypeId} (h : fn.results = #[.cell p ty, .cell q ty]) (tmps : Array Value) (P : Program) (w : World) :
    (results fn tmps).run P w = ((asAddr (tmps.getD p undef)).run P w).andThen fun a w1 => ((loadVar ty a).run P w1).andThen fun v w2 => ((asAddr (tmps.getD q undef)).run P w2).andThen fun a' w3 => ((loadVar ty a').run P w3).andThen fun v' w4 => .ok (.tuple #[v, v']) w4 := by
  simp only [results, h]
  simp [Sem.run_bind, Result.andThen]
theorem results_two_cells {P : Program} {fn : Func} {p q : Tmp} {ty : TypeId} (h : fn.results = #[.cell p ty, .cell q ty]) (tmps : Array Value) (w : World) (g g' : Nat) (t t' : TypeId) (cs cs' : Array Value) (fr fr' : Nat × Nat) (d : TypeDesc)
    (hp : tmps.getD p undef = .pointer (some ⟨g, 0, none⟩)) (hq : tmps.getD q undef = .pointer (some ⟨g', 0, none⟩)) (hg : w.heap[g]? = some (.cells cs t fr)) (hg' : w.heap[g']? = some (.cells cs' t' fr'))
    (hu : P.underlying ty = some d) (hd : (match d with | .struct _ | .array _ _ => true | _ => false) = true) (hi : (P.info? ty).map (·.size) = some cs.size) (hi' : (P.info? ty).map (·.size) = some cs'.size) :
    (results fn tmps).run P w = .ok (.tuple #[.agg cs, .agg cs']) w := by
  rw [results_two_raw h, hp, hq]
  simp [asAddr, run_loadVar_row w g t ty cs fr d hg hu hd hi, run_loadVar_row w g' t' ty cs' fr' d hg' hu hd hi', Result.andThen]
theorem ml_com {l u : List Rn} (hl : Bag l) (hu : Bag u) : (Mn l (com l u) = true ∧ Ml l (com l u) = lef l u) ∧ Mn u (com l u) = true ∧ Ml u (com l u) = lef u l := by
  have b := com_bag hl u
  have h1 := mn_yes hl b (com_fits hl.1 hl.2.1)
  have h2 := mn_yes hu b com_fits2
  refine ⟨⟨h1, by rw [ml_yes h1]; rfl⟩, h2, ?_⟩
  rw [ml_yes h2, com_comm hl.1 hl.2.1 hu.1 hu.2.1]
  rfl
theorem kp_set2 {w wr : World} {J : Nat} {t : TypeId} {a b : Value} (v0 v1 : Value) (h : Kp w wr J (.cells #[a, b] t)) : Kp w ((wr.setCell ⟨J, 0, none⟩ v0).setCell ⟨J, 1, none⟩ v1) J (.cells #[v0, v1] t) :=
  kp_set (j := 1) (v := v1) (kp_set (j := 0) (v := v0) h)
theorem set2_grown (w : World) (J : Nat) (v0 v1 : Value) : w.grownBy ((w.setCell ⟨J, 0, none⟩ v0).setCell ⟨J, 1, none⟩ v1) (some J) := (set_grown w J 0 v0).trans (set_grown _ J 1 v1)

set_option maxHeartbeats 16000000 in
theorem apart_m (x0 : Option Addr) (x1 x2 : Nat) (x3 : Option Addr) (x4 x5 : Nat) (y0 : Option Addr) (y1 y2 : Nat) (y3 : Option Addr) (y4 y5 : Nat) (l0 l1 u0 u1 P0 P1 Q0 Q1 : List Rn) (k0 k1 j0 j1 : Nat) (w : World) (hx : NRun w x0 x1 x2 l0 ∧ NRun w x3 x4 x5 l1) (hy : NRun w y0 y1 y2 u0 ∧ NRun w y3 y4 y5 u1) (kx : (∀ r ∈ l0, nok r) ∧ ∀ r ∈ l1, nok r) (ky : (∀ r ∈ u0, nok r) ∧ ∀ r ∈ u1, nok r) (hp : (x1 ≤ 1000 ∧ x4 ≤ 1000) ∧ y1 ≤ 1000 ∧ y4 ≤ 1000)
    (bx : Bag l0 ∧ Bag l1) (by' : Bag u0 ∧ Bag u1) (h0 : Hid (lef l0 u0 = P0)) (h1 : Hid (lef l1 u1 = P1)) (h2 : Hid (lef u0 l0 = Q0)) (h3 : Hid (lef u1 l1 = Q1)) (h4 : Hid (P0.length = k0)) (h5 : Hid (P1.length = k1)) (h6 : Hid (Q0.length = j0)) (h7 : Hid (Q1.length = j1)) :
    Calls Try.prog 84 #[.agg #[.slice x0 x1 x2, .slice x3 x4 x5], .agg #[.slice y0 y1 y2, .slice y3 y4 y5]] w fun e w' => (∃ A0 c0 A1 c1 B0 d0 B1 d1, e = .returned (.tuple #[.agg #[.slice A0 k0 c0, .slice A1 k1 c1], .agg #[.slice B0 j0 d0, .slice B1 j1 d1]]) ∧ ((NRun w' A0 k0 c0 P0 ∧ NRun w' A1 k1 c1 P1) ∧ NRun w' B0 j0 d0 Q0 ∧ NRun w' B1 j1 d1 Q1) ∧ (Far w A0 ∧ Far w A1) ∧ Far w B0 ∧ Far w B1) ∧ Below w.heap.size w w' := by
  have HX := hid hx
  have HY := hid hy
  have HKX := hid kx
  have HKY := hid ky
  have HP := hid hp
  have BX := hid bx
  have BY := hid by'
  clear hx hy kx ky hp bx by'
  obtain ⟨M0, hM0⟩ : ∃ y, com l0 u0 = y := ⟨_, rfl⟩
  obtain ⟨t0, ht0⟩ : ∃ y, M0.length = y := ⟨_, rfl⟩
  have FM0 := hid hM0
  have FT0 := hid ht0
  have hml0 := ml_com BX.out.1 BY.out.1
  rw [hM0, h0.out, h2.out] at hml0
  have FX0 := hid hml0.1
  have FY0 := hid hml0.2
  have KM0 : Hid (∀ r ∈ M0, nok r) := hid (by rw [← hM0]; exact com_nok HKX.out.1)
  have LM0 : t0 ≤ 1000 := by have h8 := com_len l0 u0; rw [hM0, ht0] at h8; have h9 := HX.out.1.lens.1; have := HP.out; omega
  clear hM0 ht0 hml0
  obtain ⟨M1, hM1⟩ : ∃ y, com l1 u1 = y := ⟨_, rfl⟩
  obtain ⟨t1, ht1⟩ : ∃ y, M1.length = y := ⟨_, rfl⟩
  have FM1 := hid hM1
  have FT1 := hid ht1
  have hml1 := ml_com BX.out.2 BY.out.2
  rw [hM1, h1.out, h3.out] at hml1
  have FX1 := hid hml1.1
  have FY1 := hid hml1.2
  have KM1 : Hid (∀ r ∈ M1, nok r) := hid (by rw [← hM1]; exact com_nok HKX.out.2)
  have LM1 : t1 ≤ 1000 := by have h8 := com_len l1 u1; rw [hM1, ht1] at h8; have h9 := HX.out.2.lens.1; have := HP.out; omega
  clear hM1 ht1 hml1
  have tkA : True := trivial
  have KK := hid (four_new w (.cells #[.slice x0 x1 x2, .slice x3 x4 x5] 24) (.cells #[.slice y0 y1 y2, .slice y3 y4 y5] 24) (.cells #[.slice none 0 0, .slice none 0 0] 24) (.cells #[.slice none 0 0, .slice none 0 0] 24))
  go_enter Try.func84, Try.ntmps84
  go_upto_region 1 with fail
  generalize (((w.alloc (.cells #[.slice x0 x1 x2, .slice x3 x4 x5] 24)).alloc (.cells #[.slice y0 y1 y2, .slice y3 y4 y5] 24)).alloc (.cells #[.slice none 0 0, .slice none 0 0] 24)).alloc (.cells #[.slice none 0 0, .slice none 0 0] 24) = W at KK ⊢
  obtain ⟨N0, hN0⟩ : ∃ y, w.heap.size = y := ⟨_, rfl⟩
  obtain ⟨N1, hN1⟩ : ∃ y, N0 + 1 = y := ⟨_, rfl⟩
  obtain ⟨N2, hN2⟩ : ∃ y, N1 + 1 = y := ⟨_, rfl⟩
  obtain ⟨N3, hN3⟩ : ∃ y, N2 + 1 = y := ⟨_, rfl⟩
  rw [hN0, hN1, hN2, hN3] at KK
  (try rw [hN0]); (try rw [hN1]); (try rw [hN2]); (try rw [hN3])
  have HO : Hid (w.heap.size = N0 ∧ N0 < N1 ∧ N1 < N2 ∧ N2 < N3) := hid (by omega)
  clear hN0 hN1 hN2 hN3
  have KA := hid KK.out.1
  have KB := hid KK.out.2.1
  have KR := hid KK.out.2.2.1
  have KL := hid KK.out.2.2.2
  clear KK
  go_wp2
  refine wp_loop_rounds 3 ?_
  rw [rounds_succ]
  go_wp2
  have KS : Hid (∀ y, Below W.heap.size W y → (fun y => Below W.heap.size W y ∧ y.cell? ⟨N0, 0, none⟩ = some (.slice x0 x1 x2) ∧ y.cell? ⟨N1, 0, none⟩ = some (.slice y0 y1 y2)) y) := hid (fun y hb => ⟨hb, kp_cell (j := 0) (v := .slice x0 x1 x2) (KA.out.step hb) rfl, kp_cell (j := 0) (v := .slice y0 y1 y2) (KB.out.step hb) rfl⟩)
  refine wp_region_noPanic ?_
  refine wp_region_held_drew (S := fun y => Below W.heap.size W y ∧ y.cell? ⟨N0, 0, none⟩ = some (.slice x0 x1 x2) ∧ y.cell? ⟨N1, 0, none⟩ = some (.slice y0 y1 y2)) (by kernel_rfl) (KS.out _ (bdrew (Below.refl _ _))) (fun hHeld => ?_)
  refine tk 0 (v := ?_) ?_ ?_
  rotate_left
  · intro w hSw; (try dsimp only at hSw); go_simp; (try with_reducible rfl)
  try simp only [Act.put, List.setIfInBounds_toArray, List.set_cons_zero, List.set_cons_succ]
  refine tk 1 (v := ?_) ?_ ?_
  rotate_left
  · intro w hSw; (try dsimp only at hSw); go_simp; (try with_reducible rfl)
  try simp only [Act.put, List.setIfInBounds_toArray, List.set_cons_zero, List.set_cons_succ]
  refine tk 2 (v := ?_) ?_ ?_
  rotate_left
  · intro w hSw; (try dsimp only at hSw); go_simp; (try with_reducible rfl)
  try simp only [Act.put, List.setIfInBounds_toArray, List.set_cons_zero, List.set_cons_succ]
  refine tk 3 (v := ?_) ?_ ?_
  rotate_left
  · intro w hSw; (try dsimp only at hSw); go_simp; (try with_reducible rfl)
  try simp only [Act.put, List.setIfInBounds_toArray, List.set_cons_zero, List.set_cons_succ]
  refine tk 4 (v := ?_) ?_ ?_
  rotate_left
  · intro w hSw; (try dsimp only at hSw); go_simp; (try with_reducible rfl)
  try simp only [Act.put, List.setIfInBounds_toArray, List.set_cons_zero, List.set_cons_succ]
  refine tk 5 (v := ?_) ?_ ?_
  rotate_left
  · intro w hSw; (try dsimp only at hSw); go_simp; (try with_reducible rfl)
  try simp only [Act.put, List.setIfInBounds_toArray, List.set_cons_zero, List.set_cons_succ]
  refine rd1 6 (fun K hK => ?_)
  go_simp
  go_at_call 110; refine (dcom_m _ _ _ _ _ _ t0 l0 u0 M0 _ (HX.out.1.below (bt KA.out.1 hHeld.1)) (HY.out.1.below (bt KA.out.1 hHeld.1)) BX.out.1 BY.out.1 (by have := HP.out; omega) (by have := HP.out; omega) FM0 FT0).mono ?_; rintro e z0 ⟨⟨C0, cc0, rfl, hr0⟩, hbz0⟩
  have R0 := hid hr0
  clear hr0
  refine hK.out _ _ (KS.out _ (bt hHeld.1 hbz0)) (fun hHeld2 => ?_)
  clear hK K hHeld; have hHeld := hHeld2; clear hHeld2
  try simp only [Act.put, List.setIfInBounds_toArray, List.set_cons_zero, List.set_cons_succ]
  refine tk 7 (v := ?_) ?_ ?_
  rotate_left
  · intro w hSw; (try dsimp only at hSw); go_simp; (try with_reducible rfl)
  try simp only [Act.put, List.setIfInBounds_toArray, List.set_cons_zero, List.set_cons_succ]
  refine wpAnyH_done (by kernel_rfl) ?_ _
  refine NoPanic.normal ?_
  replace KA := hid (KA.out.step hHeld.1); replace KB := hid (KB.out.step hHeld.1); replace KR := hid (KR.out.step hHeld.1); replace KL := hid (KL.out.step hHeld.1)
  clear hHeld KS hbz0
  have cz := kp_cell (j := 0) (v := .slice x0 x1 x2) KA.out rfl
  go_upto_region 6 with (go_at_call 91; refine (minus_n _ _ _ _ _ _ k0 l0 M0 P0 true _ (HX.out.1.below KA.out.1) R0.out HKX.out.1 KM0.out (by have := HP.out; omega) LM0 (hid FX0.out.2) (hid FX0.out.1) h4).mono ?_; rintro e va0 ⟨⟨A0, c0, rfl, hr, hf⟩, hb⟩; have Fa0 := hid (far_up hf (heap_lt KL.out.2.2)); have Fa0w := hid (far_low hf KL.out.1.size); have Ra0 := hid hr; replace KA := hid (KA.out.step hb); replace KB := hid (KB.out.step hb); replace KR := hid (KR.out.step hb); replace KL := hid (KL.out.step hb); replace R0 := hid (R0.out.below hb); clear hr hf hb cz; have cz := kp_cell (j := 0) (v := .slice x0 x1 x2) KA.out rfl; have fz := kp_froz KA.out 0)
  have KN : Hid (Kp w (va0.setCell ⟨N0, 0, none⟩ (.slice A0 k0 c0)) N0 (.cells #[.slice A0 k0 c0, .slice x3 x4 x5] 24)) := hid (kp_set (j := 0) (v := .slice A0 k0 c0) KA.out)
  replace KB := hid (kp_other (j := 0) (v := .slice A0 k0 c0) (M := N0) KB.out (by have := HO.out; omega) (by have := HO.out; omega))
  replace KR := hid (kp_other (j := 0) (v := .slice A0 k0 c0) (M := N0) KR.out (by have := HO.out; omega) (by have := HO.out; omega))
  replace KL := hid (kp_other (j := 0) (v := .slice A0 k0 c0) (M := N0) KL.out (by have := HO.out; omega) (by have := HO.out; omega))
  replace Ra0 := hid (Ra0.out.grown (set_grown va0 N0 0 (.slice A0 k0 c0)) (fun b off e => by have := Fa0.out b off e; have := HO.out; omega))
  replace R0 := hid (R0.out.offd (set_grown va0 N0 0 (.slice A0 k0 c0)) (nz_as KA.out.2.2) (by rw [← FM0.out]; exact com_pos _ _))
  clear KA cz fz
  have KA := KN
  clear KN
  generalize va0.setCell ⟨N0, 0, none⟩ (.slice A0 k0 c0) = Xa0 at KA KB KR KL Ra0 R0 ⊢
  have cz := kp_cell (j := 0) (v := .slice y0 y1 y2) KB.out rfl
  go_upto_region 7 with (go_at_call 91; refine (minus_n _ _ _ _ _ _ j0 u0 M0 Q0 true _ (HY.out.1.below KA.out.1) R0.out HKY.out.1 KM0.out (by have := HP.out; omega) LM0 (hid FY0.out.2) (hid FY0.out.1) h6).mono ?_; rintro e vb0 ⟨⟨B0, d0, rfl, hr, hf⟩, hb⟩; have Fb0 := hid (far_up hf (heap_lt KL.out.2.2)); have Fb0w := hid (far_low hf KL.out.1.size); have Rb0 := hid hr; replace KA := hid (KA.out.step hb); replace KB := hid (KB.out.step hb); replace KR := hid (KR.out.step hb); replace KL := hid (KL.out.step hb); replace Ra0 := hid (Ra0.out.below hb); replace R0 := hid (R0.out.below hb); clear hr hf hb cz; have cz := kp_cell (j := 0) (v := .slice y0 y1 y2) KB.out rfl; have fz := kp_froz KB.out 0)
  have KN : Hid (Kp w (vb0.setCell ⟨N1, 0, none⟩ (.slice B0 j0 d0)) N1 (.cells #[.slice B0 j0 d0, .slice y3 y4 y5] 24)) := hid (kp_set (j := 0) (v := .slice B0 j0 d0) KB.out)
  replace KA := hid (kp_other (j := 0) (v := .slice B0 j0 d0) (M := N1) KA.out (by have := HO.out; omega) (by have := HO.out; omega))
  replace KR := hid (kp_other (j := 0) (v := .slice B0 j0 d0) (M := N1) KR.out (by have := HO.out; omega) (by have := HO.out; omega))
  replace KL := hid (kp_other (j := 0) (v := .slice B0 j0 d0) (M := N1) KL.out (by have := HO.out; omega) (by have := HO.out; omega))
  replace Ra0 := hid (Ra0.out.grown (set_grown vb0 N1 0 (.slice B0 j0 d0)) (fun b off e => by have := Fa0.out b off e; have := HO.out; omega))
  replace Rb0 := hid (Rb0.out.grown (set_grown vb0 N1 0 (.slice B0 j0 d0)) (fun b off e => by have := Fb0.out b off e; have := HO.out; omega))
  replace R0 := hid (R0.out.offd (set_grown vb0 N1 0 (.slice B0 j0 d0)) (nz_as KB.out.2.2) (by rw [← FM0.out]; exact com_pos _ _))
  clear KB cz fz
  have KB := KN
  clear KN
  generalize vb0.setCell ⟨N1, 0, none⟩ (.slice B0 j0 d0) = Xb0 at KA KB KR KL Ra0 Rb0 R0 ⊢
  clear R0
  go_wp2
  rw [rounds_succ]
  go_wp2
  have KS : Hid (∀ y, Below Xb0.heap.size Xb0 y → (fun y => Below Xb0.heap.size Xb0 y ∧ y.cell? ⟨N0, 1, none⟩ = some (.slice x3 x4 x5) ∧ y.cell? ⟨N1, 1, none⟩ = some (.slice y3 y4 y5)) y) := hid (fun y hb => ⟨hb, kp_cell (j := 1) (v := .slice x3 x4 x5) (KA.out.step hb) rfl, kp_cell (j := 1) (v := .slice y3 y4 y5) (KB.out.step hb) rfl⟩)
  refine wp_region_noPanic ?_
  refine wp_region_held_drew (S := fun y => Below Xb0.heap.size Xb0 y ∧ y.cell? ⟨N0, 1, none⟩ = some (.slice x3 x4 x5) ∧ y.cell? ⟨N1, 1, none⟩ = some (.slice y3 y4 y5)) (by kernel_rfl) (KS.out _ (bdrew (Below.refl _ _))) (fun hHeld => ?_)
  refine tk 0 (v := ?_) ?_ ?_
  rotate_left
  · intro w hSw; (try dsimp only at hSw); go_simp; (try with_reducible rfl)
  try simp only [Act.put, List.setIfInBounds_toArray, List.set_cons_zero, List.set_cons_succ]
  refine tk 1 (v := ?_) ?_ ?_
  rotate_left
  · intro w hSw; (try dsimp only at hSw); go_simp; (try with_reducible rfl)
  try simp only [Act.put, List.setIfInBounds_toArray, List.set_cons_zero, List.set_cons_succ]
  refine tk 2 (v := ?_) ?_ ?_
  rotate_left
  · intro w hSw; (try dsimp only at hSw); go_simp; (try with_reducible rfl)
  try simp only [Act.put, List.setIfInBounds_toArray, List.set_cons_zero, List.set_cons_succ]
  refine tk 3 (v := ?_) ?_ ?_
  rotate_left
  · intro w hSw; (try dsimp only at hSw); go_simp; (try with_reducible rfl)
  try simp only [Act.put, List.setIfInBounds_toArray, List.set_cons_zero, List.set_cons_succ]
  refine tk 4 (v := ?_) ?_ ?_
  rotate_left
  · intro w hSw; (try dsimp only at hSw); go_simp; (try with_reducible rfl)
  try simp only [Act.put, List.setIfInBounds_toArray, List.set_cons_zero, List.set_cons_succ]
  refine tk 5 (v := ?_) ?_ ?_
  rotate_left
  · intro w hSw; (try dsimp only at hSw); go_simp; (try with_reducible rfl)
  try simp only [Act.put, List.setIfInBounds_toArray, List.set_cons_zero, List.set_cons_succ]
  refine rd1 6 (fun K hK => ?_)
  go_simp
  go_at_call 110; refine (dcom_m _ _ _ _ _ _ t1 l1 u1 M1 _ (HX.out.2.below (bt KA.out.1 hHeld.1)) (HY.out.2.below (bt KA.out.1 hHeld.1)) BX.out.2 BY.out.2 (by have := HP.out; omega) (by have := HP.out; omega) FM1 FT1).mono ?_; rintro e z1 ⟨⟨C1, cc1, rfl, hr1⟩, hbz1⟩
  have R1 := hid hr1
  clear hr1
  refine hK.out _ _ (KS.out _ (bt hHeld.1 hbz1)) (fun hHeld2 => ?_)
  clear hK K hHeld; have hHeld := hHeld2; clear hHeld2
  try simp only [Act.put, List.setIfInBounds_toArray, List.set_cons_zero, List.set_cons_succ]
  refine tk 7 (v := ?_) ?_ ?_
  rotate_left
  · intro w hSw; (try dsimp only at hSw); go_simp; (try with_reducible rfl)
  try simp only [Act.put, List.setIfInBounds_toArray, List.set_cons_zero, List.set_cons_succ]
  refine wpAnyH_done (by kernel_rfl) ?_ _
  refine NoPanic.normal ?_
  replace KA := hid (KA.out.step hHeld.1); replace KB := hid (KB.out.step hHeld.1); replace KR := hid (KR.out.step hHeld.1); replace KL := hid (KL.out.step hHeld.1); replace Ra0 := hid (Ra0.out.below hHeld.1); replace Rb0 := hid (Rb0.out.below hHeld.1)
  clear hHeld KS hbz1
  have cz := kp_cell (j := 1) (v := .slice x3 x4 x5) KA.out rfl
  go_upto_region 6 with (go_at_call 91; refine (minus_n _ _ _ _ _ _ k1 l1 M1 P1 true _ (HX.out.2.below KA.out.1) R1.out HKX.out.2 KM1.out (by have := HP.out; omega) LM1 (hid FX1.out.2) (hid FX1.out.1) h5).mono ?_; rintro e va1 ⟨⟨A1, c1, rfl, hr, hf⟩, hb⟩; have Fa1 := hid (far_up hf (heap_lt KL.out.2.2)); have Fa1w := hid (far_low hf KL.out.1.size); have Ra1 := hid hr; replace KA := hid (KA.out.step hb); replace KB := hid (KB.out.step hb); replace KR := hid (KR.out.step hb); replace KL := hid (KL.out.step hb); replace Ra0 := hid (Ra0.out.below hb); replace Rb0 := hid (Rb0.out.below hb); replace R1 := hid (R1.out.below hb); clear hr hf hb cz; have cz := kp_cell (j := 1) (v := .slice x3 x4 x5) KA.out rfl; have fz := kp_froz KA.out 1)
  have KN : Hid (Kp w (va1.setCell ⟨N0, 1, none⟩ (.slice A1 k1 c1)) N0 (.cells #[.slice A0 k0 c0, .slice A1 k1 c1] 24)) := hid (kp_set (j := 1) (v := .slice A1 k1 c1) KA.out)
  replace KB := hid (kp_other (j := 1) (v := .slice A1 k1 c1) (M := N0) KB.out (by have := HO.out; omega) (by have := HO.out; omega))
  replace KR := hid (kp_other (j := 1) (v := .slice A1 k1 c1) (M := N0) KR.out (by have := HO.out; omega) (by have := HO.out; omega))
  replace KL := hid (kp_other (j := 1) (v := .slice A1 k1 c1) (M := N0) KL.out (by have := HO.out; omega) (by have := HO.out; omega))
  replace Ra0 := hid (Ra0.out.grown (set_grown va1 N0 1 (.slice A1 k1 c1)) (fun b off e => by have := Fa0.out b off e; have := HO.out; omega))
  replace Rb0 := hid (Rb0.out.grown (set_grown va1 N0 1 (.slice A1 k1 c1)) (fun b off e => by have := Fb0.out b off e; have := HO.out; omega))
  replace Ra1 := hid (Ra1.out.grown (set_grown va1 N0 1 (.slice A1 k1 c1)) (fun b off e => by have := Fa1.out b off e; have := HO.out; omega))
  replace R1 := hid (R1.out.offd (set_grown va1 N0 1 (.slice A1 k1 c1)) (nz_as KA.out.2.2) (by rw [← FM1.out]; exact com_pos _ _))
  clear KA cz fz
  have KA := KN
  clear KN
  generalize va1.setCell ⟨N0, 1, none⟩ (.slice A1 k1 c1) = Xa1 at KA KB KR KL Ra0 Rb0 Ra1 R1 ⊢
  have cz := kp_cell (j := 1) (v := .slice y3 y4 y5) KB.out rfl
  go_upto_region 7 with (go_at_call 91; refine (minus_n _ _ _ _ _ _ j1 u1 M1 Q1 true _ (HY.out.2.below KA.out.1) R1.out HKY.out.2 KM1.out (by have := HP.out; omega) LM1 (hid FY1.out.2) (hid FY1.out.1) h7).mono ?_; rintro e vb1 ⟨⟨B1, d1, rfl, hr, hf⟩, hb⟩; have Fb1 := hid (far_up hf (heap_lt KL.out.2.2)); have Fb1w := hid (far_low hf KL.out.1.size); have Rb1 := hid hr; replace KA := hid (KA.out.step hb); replace KB := hid (KB.out.step hb); replace KR := hid (KR.out.step hb); replace KL := hid (KL.out.step hb); replace Ra0 := hid (Ra0.out.below hb); replace Rb0 := hid (Rb0.out.below hb); replace Ra1 := hid (Ra1.out.below hb); replace R1 := hid (R1.out.below hb); clear hr hf hb cz; have cz := kp_cell (j := 1) (v := .slice y3 y4 y5) KB.out rfl; have fz := kp_froz KB.out 1)
  have KN : Hid (Kp w (vb1.setCell ⟨N1, 1, none⟩ (.slice B1 j1 d1)) N1 (.cells #[.slice B0 j0 d0, .slice B1 j1 d1] 24)) := hid (kp_set (j := 1) (v := .slice B1 j1 d1) KB.out)
  replace KA := hid (kp_other (j := 1) (v := .slice B1 j1 d1) (M := N1) KA.out (by have := HO.out; omega) (by have := HO.out; omega))
  replace KR := hid (kp_other (j := 1) (v := .slice B1 j1 d1) (M := N1) KR.out (by have := HO.out; omega) (by have := HO.out; omega))
  replace KL := hid (kp_other (j := 1) (v := .slice B1 j1 d1) (M := N1) KL.out (by have := HO.out; omega) (by have := HO.out; omega))
  replace Ra0 := hid (Ra0.out.grown (set_grown vb1 N1 1 (.slice B1 j1 d1)) (fun b off e => by have := Fa0.out b off e; have := HO.out; omega))
  replace Rb0 := hid (Rb0.out.grown (set_grown vb1 N1 1 (.slice B1 j1 d1)) (fun b off e => by have := Fb0.out b off e; have := HO.out; omega))
  replace Ra1 := hid (Ra1.out.grown (set_grown vb1 N1 1 (.slice B1 j1 d1)) (fun b off e => by have := Fa1.out b off e; have := HO.out; omega))
  replace Rb1 := hid (Rb1.out.grown (set_grown vb1 N1 1 (.slice B1 j1 d1)) (fun b off e => by have := Fb1.out b off e; have := HO.out; omega))
  replace R1 := hid (R1.out.offd (set_grown vb1 N1 1 (.slice B1 j1 d1)) (nz_as KB.out.2.2) (by rw [← FM1.out]; exact com_pos _ _))
  clear KB cz fz
  have KB := KN
  clear KN
  generalize vb1.setCell ⟨N1, 1, none⟩ (.slice B1 j1 d1) = Xb1 at KA KB KR KL Ra0 Rb0 Ra1 Rb1 R1 ⊢
  clear R1
  go_wp2
  rw [rounds_succ]
  go_upto_region 8 with fail
  replace KA := hid (KA.out.step (bdrew (Below.refl _ _)))
  replace KB := hid (KB.out.step (bdrew (Below.refl _ _)))
  replace KR := hid (KR.out.step (bdrew (Below.refl _ _)))
  replace KL := hid (KL.out.step (bdrew (Below.refl _ _)))
  replace Ra0 := hid (Ra0.out.below (bdrew (Below.refl _ _)))
  replace Rb0 := hid (Rb0.out.below (bdrew (Below.refl _ _)))
  replace Ra1 := hid (Ra1.out.below (bdrew (Below.refl _ _)))
  replace Rb1 := hid (Rb1.out.below (bdrew (Below.refl _ _)))
  refine wp_region_noPanic ?_
  refine wp_region_held_drew (S := fun y => y.cell? ⟨N0, 0, none⟩ = some (.slice A0 k0 c0) ∧ y.cell? ⟨N0, 1, none⟩ = some (.slice A1 k1 c1) ∧ y.cell? ⟨N1, 0, none⟩ = some (.slice B0 j0 d0) ∧ y.cell? ⟨N1, 1, none⟩ = some (.slice B1 j1 d1)) (by kernel_rfl) (⟨kp_cell (j := 0) (v := .slice A0 k0 c0) KA.out rfl, kp_cell (j := 1) (v := .slice A1 k1 c1) KA.out rfl, kp_cell (j := 0) (v := .slice B0 j0 d0) KB.out rfl, kp_cell (j := 1) (v := .slice B1 j1 d1) KB.out rfl⟩) (fun hHeld => ?_)
  generalize Xb1.drew = wd at KA KB KR KL hHeld Ra0 Rb0 Ra1 Rb1 ⊢
  refine tk 0 (v := ?_) ?_ ?_
  rotate_left
  · intro w hSw; (try dsimp only at hSw); go_simp; (try with_reducible rfl)
  try simp only [Act.put, List.setIfInBounds_toArray, List.set_cons_zero, List.set_cons_succ]
  refine tk 1 (v := ?_) ?_ ?_
  rotate_left
  · intro w hSw; (try dsimp only at hSw); go_simp; (try with_reducible rfl)
  try simp only [Act.put, List.setIfInBounds_toArray, List.set_cons_zero, List.set_cons_succ]
  refine rd1 2 (fun K hK => ?_)
  have y0 := kp_froz KR.out 0
  have y1 := kp_froz KR.out 1
  obtain ⟨z0, z1⟩ := box_two KR.out.2.2
  go_simp
  replace KA := hid (kp_gr KA.out (set2_grown wd N2 (.slice A0 k0 c0) (.slice A1 k1 c1)) (by have := HO.out; omega) (by have := HO.out; omega))
  replace KB := hid (kp_gr KB.out (set2_grown wd N2 (.slice A0 k0 c0) (.slice A1 k1 c1)) (by have := HO.out; omega) (by have := HO.out; omega))
  replace KL := hid (kp_gr KL.out (set2_grown wd N2 (.slice A0 k0 c0) (.slice A1 k1 c1)) (by have := HO.out; omega) (by have := HO.out; omega))
  replace Ra0 := hid (Ra0.out.grown (set2_grown wd N2 (.slice A0 k0 c0) (.slice A1 k1 c1)) (fun b off e => by have := Fa0.out b off e; have := HO.out; omega))
  replace Rb0 := hid (Rb0.out.grown (set2_grown wd N2 (.slice A0 k0 c0) (.slice A1 k1 c1)) (fun b off e => by have := Fb0.out b off e; have := HO.out; omega))
  replace Ra1 := hid (Ra1.out.grown (set2_grown wd N2 (.slice A0 k0 c0) (.slice A1 k1 c1)) (fun b off e => by have := Fa1.out b off e; have := HO.out; omega))
  replace Rb1 := hid (Rb1.out.grown (set2_grown wd N2 (.slice A0 k0 c0) (.slice A1 k1 c1)) (fun b off e => by have := Fb1.out b off e; have := HO.out; omega))
  replace KR := hid (kp_set2 (.slice A0 k0 c0) (.slice A1 k1 c1) KR.out)
  refine hK.out _ _ ⟨kp_cell (j := 0) (v := .slice A0 k0 c0) KA.out rfl, kp_cell (j := 1) (v := .slice A1 k1 c1) KA.out rfl, kp_cell (j := 0) (v := .slice B0 j0 d0) KB.out rfl, kp_cell (j := 1) (v := .slice B1 j1 d1) KB.out rfl⟩ (fun hHeld2 => ?_)
  clear hK K hHeld; have hHeld := hHeld2; clear hHeld2
  clear z0 z1 y0 y1
  generalize (wd.setCell ⟨N2, 0, none⟩ (.slice A0 k0 c0)).setCell ⟨N2, 1, none⟩ (.slice A1 k1 c1) = s1 at KA KB KR KL hHeld Ra0 Rb0 Ra1 Rb1 ⊢
  try simp only [Act.put, List.setIfInBounds_toArray, List.set_cons_zero, List.set_cons_succ]
  refine rd1 3 (fun K hK => ?_)
  have y0 := kp_froz KL.out 0
  have y1 := kp_froz KL.out 1
  obtain ⟨z0, z1⟩ := box_two KL.out.2.2
  go_simp
  replace KA := hid (kp_gr KA.out (set2_grown s1 N3 (.slice B0 j0 d0) (.slice B1 j1 d1)) (by have := HO.out; omega) (by have := HO.out; omega))
  replace KB := hid (kp_gr KB.out (set2_grown s1 N3 (.slice B0 j0 d0) (.slice B1 j1 d1)) (by have := HO.out; omega) (by have := HO.out; omega))
  replace KR := hid (kp_gr KR.out (set2_grown s1 N3 (.slice B0 j0 d0) (.slice B1 j1 d1)) (by have := HO.out; omega) (by have := HO.out; omega))
  replace Ra0 := hid (Ra0.out.grown (set2_grown s1 N3 (.slice B0 j0 d0) (.slice B1 j1 d1)) (fun b off e => by have := Fa0.out b off e; have := HO.out; omega))
  replace Rb0 := hid (Rb0.out.grown (set2_grown s1 N3 (.slice B0 j0 d0) (.slice B1 j1 d1)) (fun b off e => by have := Fb0.out b off e; have := HO.out; omega))
  replace Ra1 := hid (Ra1.out.grown (set2_grown s1 N3 (.slice B0 j0 d0) (.slice B1 j1 d1)) (fun b off e => by have := Fa1.out b off e; have := HO.out; omega))
  replace Rb1 := hid (Rb1.out.grown (set2_grown s1 N3 (.slice B0 j0 d0) (.slice B1 j1 d1)) (fun b off e => by have := Fb1.out b off e; have := HO.out; omega))
  replace KL := hid (kp_set2 (.slice B0 j0 d0) (.slice B1 j1 d1) KL.out)
  refine hK.out _ _ ⟨kp_cell (j := 0) (v := .slice A0 k0 c0) KA.out rfl, kp_cell (j := 1) (v := .slice A1 k1 c1) KA.out rfl, kp_cell (j := 0) (v := .slice B0 j0 d0) KB.out rfl, kp_cell (j := 1) (v := .slice B1 j1 d1) KB.out rfl⟩ (fun hHeld2 => ?_)
  clear hK K hHeld; have hHeld := hHeld2; clear hHeld2
  clear z0 z1 y0 y1
  generalize (s1.setCell ⟨N3, 0, none⟩ (.slice B0 j0 d0)).setCell ⟨N3, 1, none⟩ (.slice B1 j1 d1) = s2 at KA KB KR KL hHeld Ra0 Rb0 Ra1 Rb1 ⊢
  try simp only [Act.put, List.setIfInBounds_toArray, List.set_cons_zero, List.set_cons_succ]
  refine wpAnyH_done (by kernel_rfl) ?_ _
  refine NoPanic.normal ?_
  go_wp2
  (try simp only [Exit.inBlock, Exit.then])
  show bodyPost Try.prog Try.f84 _ _ _ _
  refine bodyPost_ret (results_two_cells (p := 4) (q := 5) rfl _ _ N2 N3 _ _ #[.slice A0 k0 c0, .slice A1 k1 c1] #[.slice B0 j0 d0, .slice B1 j1 d1] (0, 0) (0, 0) _ rfl rfl KR.out.2.2 KL.out.2.2 Try.underlying24 rfl (by kernel_rfl) (by kernel_rfl)) rfl ?_
  exact ⟨⟨A0, c0, A1, c1, B0, d0, B1, d1, rfl, ⟨⟨Ra0.out, Ra1.out⟩, Rb0.out, Rb1.out⟩, ⟨Fa0w.out, Fa1w.out⟩, Fb0w.out, Fb1w.out⟩, KR.out.1⟩

end Go.Proofs.Ytjkkajhjcinalaa

/-
  Measure by measure: what each of delta returns of bags.
  Conditions: as each theorem states them.
-/
import Derived.Test.YtjkkajhjcinalaaE10
namespace Go.Proofs.Ytjkkajhjcinalaa
open Go.ChangeShapes Go.WideShapes Go.ChangeAt Go.RowKit
set_option linter.unusedVariables false
set_option linter.unusedSimpArgs false
set_option maxRecDepth 100000

theorem far_up {w : World} {a : Option Addr} {N : Nat} (h : Far w a) (hN : N < w.heap.size) : ∀ b off, a = some ⟨b, off, none⟩ → N < b := fun b off e => Nat.lt_of_lt_of_le hN (h b off e)
theorem far_low {w w' : World} {a : Option Addr} (h : Far w' a) (hN : w.heap.size ≤ w'.heap.size) : Far w a := fun b off e => Nat.le_trans hN (h b off e)
theorem jl_false {a b : List Rn} (h : Jn a b = false) : Jl a b = [] := jl_no h
set_option maxHeartbeats 16000000 in
theorem eachJoin_m (x0 : Option Addr) (x1 x2 : Nat) (x3 : Option Addr) (x4 x5 : Nat) (y0 : Option Addr) (y1 y2 : Nat) (y3 : Option Addr) (y4 y5 : Nat) (l0 l1 u0 u1 M0 M1 : List Rn) (k0 k1 : Nat) (v : Bool) (w : World) (hx : NRun w x0 x1 x2 l0 ∧ NRun w x3 x4 x5 l1) (hy : NRun w y0 y1 y2 u0 ∧ NRun w y3 y4 y5 u1) (kx : (∀ r ∈ l0, nok r) ∧ ∀ r ∈ l1, nok r) (ky : (∀ r ∈ u0, nok r) ∧ ∀ r ∈ u1, nok r) (hp : (x1 ≤ 1000 ∧ x4 ≤ 1000) ∧ y1 ≤ 1000 ∧ y4 ≤ 1000)
    (hv : Hid ((Jn l0 u0 && Jn l1 u1) = v)) (h0 : Hid ((if v then Jl l0 u0 else []) = M0)) (h1 : Hid ((if v then Jl l1 u1 else []) = M1)) (h2 : Hid (M0.length = k0)) (h3 : Hid (M1.length = k1)) :
    Calls Try.prog 83 #[.func (.func 66) #[] #[], .agg #[.slice x0 x1 x2, .slice x3 x4 x5], .agg #[.slice y0 y1 y2, .slice y3 y4 y5]] w fun e w' => (∃ A0 c0 A1 c1, e = .returned (.tuple #[.agg #[.slice A0 k0 c0, .slice A1 k1 c1], .bool v]) ∧ (NRun w' A0 k0 c0 M0 ∧ NRun w' A1 k1 c1 M1) ∧ Far w A0 ∧ Far w A1) ∧ Below w.heap.size w w' := by
  have HX := hid hx
  have HY := hid hy
  have HKX := hid kx
  have HKY := hid ky
  have HP := hid hp
  clear hx hy kx ky hp
  obtain ⟨L0, hL0⟩ : ∃ y, Jl l0 u0 = y := ⟨_, rfl⟩
  obtain ⟨f0, hf0⟩ : ∃ y, Jn l0 u0 = y := ⟨_, rfl⟩
  obtain ⟨t0, ht0⟩ : ∃ y, L0.length = y := ⟨_, rfl⟩
  have FL0 := hid hL0
  have FF0 := hid hf0
  have FT0 := hid ht0
  clear hL0 hf0 ht0
  obtain ⟨L1, hL1⟩ : ∃ y, Jl l1 u1 = y := ⟨_, rfl⟩
  obtain ⟨f1, hf1⟩ : ∃ y, Jn l1 u1 = y := ⟨_, rfl⟩
  obtain ⟨t1, ht1⟩ : ∃ y, L1.length = y := ⟨_, rfl⟩
  have FL1 := hid hL1
  have FF1 := hid hf1
  have FT1 := hid ht1
  clear hL1 hf1 ht1
  have KK := hid (four_new w (.cells #[.slice x0 x1 x2, .slice x3 x4 x5] 24) (.cells #[.slice y0 y1 y2, .slice y3 y4 y5] 24) (.cells #[.slice none 0 0, .slice none 0 0] 24) (.cells #[.slice none 0 0, .slice none 0 0] 24))
  go_enter Try.func83, Try.ntmps83
  go_upto_region 2 with fail
  generalize (((w.alloc (.cells #[.slice x0 x1 x2, .slice x3 x4 x5] 24)).alloc (.cells #[.slice y0 y1 y2, .slice y3 y4 y5] 24)).alloc (.cells #[.slice none 0 0, .slice none 0 0] 24)).alloc (.cells #[.slice none 0 0, .slice none 0 0] 24) = W at KK ⊢
  obtain ⟨N0, hN0⟩ : ∃ y, w.heap.size = y := ⟨_, rfl⟩
  obtain ⟨N1, hN1⟩ : ∃ y, N0 + 1 = y := ⟨_, rfl⟩
  obtain ⟨N2, hN2⟩ : ∃ y, N1 + 1 = y := ⟨_, rfl⟩
  obtain ⟨N3, hN3⟩ : ∃ y, N2 + 1 = y := ⟨_, rfl⟩
  rw [hN0, hN1, hN2, hN3] at KK
  (try rw [hN0]); (try rw [hN1]); (try rw [hN2]); (try rw [hN3])
  have HO : Hid (w.heap.size = N0 ∧ N0 < N1 ∧ N1 < N2 ∧ N2 < N3) := hid (by omega)
  clear hN0 hN1 hN2 hN3
  have KA := hid KK.out.1
  have KB := hid KK.out.2.1
  have KR := hid KK.out.2.2.1
  have KL := hid KK.out.2.2.2
  clear KK
  go_wp2
  refine wp_loop_rounds 3 ?_
  rw [rounds_succ]
  cases f0 with
  | false =>
    go_wp2
    have KS : Hid (∀ y, Below W.heap.size W y → (fun y => Below W.heap.size W y ∧ y.cell? ⟨N0, 0, none⟩ = some (.slice x0 x1 x2) ∧ y.cell? ⟨N1, 0, none⟩ = some (.slice y0 y1 y2)) y) := hid (fun y hb => ⟨hb, kp_cell (j := 0) (v := .slice x0 x1 x2) (KA.out.step hb) rfl, kp_cell (j := 0) (v := .slice y0 y1 y2) (KB.out.step hb) rfl⟩)
    refine wp_region_noPanic ?_
    refine wp_region_held_drew (S := fun y => Below W.heap.size W y ∧ y.cell? ⟨N0, 0, none⟩ = some (.slice x0 x1 x2) ∧ y.cell? ⟨N1, 0, none⟩ = some (.slice y0 y1 y2)) (by kernel_rfl) (KS.out _ (bdrew (Below.refl _ _))) (fun hHeld => ?_)
    refine wpAnyH_take (i := 0) (v := ?_) (by simp only [List.getElem?_toArray, List.getElem?_cons_succ, List.getElem?_cons_zero]; exact rfl) (by kernel_rfl) (by kernel_rfl) (by kernel_rfl) (fun _ _ _ h => h) (Or.inl ⟨by rfl, ?_⟩) (by assumption) ?_
    rotate_left
    · intro w hSw
      try dsimp only at hSw
      go_simp
      try with_reducible rfl
    try simp only [Act.put, List.setIfInBounds_toArray, List.set_cons_zero, List.set_cons_succ]
    refine wpAnyH_take (i := 1) (v := ?_) (by simp only [List.getElem?_toArray, List.getElem?_cons_succ, List.getElem?_cons_zero]; exact rfl) (by kernel_rfl) (by kernel_rfl) (by kernel_rfl) (fun _ _ _ h => h) (Or.inl ⟨by rfl, ?_⟩) (by assumption) ?_
    rotate_left
    · intro w hSw
      try dsimp only at hSw
      go_simp
      try with_reducible rfl
    try simp only [Act.put, List.setIfInBounds_toArray, List.set_cons_zero, List.set_cons_succ]
    refine wpAnyH_take (i := 2) (v := ?_) (by simp only [List.getElem?_toArray, List.getElem?_cons_succ, List.getElem?_cons_zero]; exact rfl) (by kernel_rfl) (by kernel_rfl) (by kernel_rfl) (fun _ _ _ h => h) (Or.inl ⟨by rfl, ?_⟩) (by assumption) ?_
    rotate_left
    · intro w hSw
      try dsimp only at hSw
      go_simp
      try with_reducible rfl
    try simp only [Act.put, List.setIfInBounds_toArray, List.set_cons_zero, List.set_cons_succ]
    refine wpAnyH_take (i := 3) (v := ?_) (by simp only [List.getElem?_toArray, List.getElem?_cons_succ, List.getElem?_cons_zero]; exact rfl) (by kernel_rfl) (by kernel_rfl) (by kernel_rfl) (fun _ _ _ h => h) (Or.inl ⟨by rfl, ?_⟩) (by assumption) ?_
    rotate_left
    · intro w hSw
      try dsimp only at hSw
      go_simp
      try with_reducible rfl
    try simp only [Act.put, List.setIfInBounds_toArray, List.set_cons_zero, List.set_cons_succ]
    refine wpAnyH_take (i := 4) (v := ?_) (by simp only [List.getElem?_toArray, List.getElem?_cons_succ, List.getElem?_cons_zero]; exact rfl) (by kernel_rfl) (by kernel_rfl) (by kernel_rfl) (fun _ _ _ h => h) (Or.inl ⟨by rfl, ?_⟩) (by assumption) ?_
    rotate_left
    · intro w hSw
      try dsimp only at hSw
      go_simp
      try with_reducible rfl
    try simp only [Act.put, List.setIfInBounds_toArray, List.set_cons_zero, List.set_cons_succ]
    refine wpAnyH_take (i := 5) (v := ?_) (by simp only [List.getElem?_toArray, List.getElem?_cons_succ, List.getElem?_cons_zero]; exact rfl) (by kernel_rfl) (by kernel_rfl) (by kernel_rfl) (fun _ _ _ h => h) (Or.inl ⟨by rfl, ?_⟩) (by assumption) ?_
    rotate_left
    · intro w hSw
      try dsimp only at hSw
      go_simp
      try with_reducible rfl
    try simp only [Act.put, List.setIfInBounds_toArray, List.set_cons_zero, List.set_cons_succ]
    refine wpAnyH_take (i := 6) (v := ?_) (by simp only [List.getElem?_toArray, List.getElem?_cons_succ, List.getElem?_cons_zero]; exact rfl) (by kernel_rfl) (by kernel_rfl) (by kernel_rfl) (fun _ _ _ h => h) (Or.inl ⟨by rfl, ?_⟩) (by assumption) ?_
    rotate_left
    · intro w hSw
      try dsimp only at hSw
      go_simp
      try with_reducible rfl
    try simp only [Act.put, List.setIfInBounds_toArray, List.set_cons_zero, List.set_cons_succ]
    refine wpAnyH_ready (rs := [7]) (by kernel_rfl) (by simp) ?_
    refine AllReadyH.cons (by simp only [List.getElem?_toArray, List.getElem?_cons_succ, List.getElem?_cons_zero]; exact rfl) (fun K hK => ?_) AllReadyH.nil
    go_simp
    go_at_call 66; refine (join_n _ _ _ _ _ _ t0 l0 u0 L0 false _ (HX.out.1.below (bt KA.out.1 hHeld.1)) (HY.out.1.below (bt KA.out.1 hHeld.1)) HKX.out.1 HKY.out.1 (by have := HP.out; omega) (by have := HP.out; omega) FL0 FF0 FT0).mono ?_; rintro e z0 ⟨⟨A0, c0, rfl, hr0, hf0⟩, hbz0⟩
    have FA0 := hid (far_up hf0 (heap_lt (keep_blk KL.out.2.2 hHeld.1)))
    have FW0 := hid (far_low hf0 (bt KL.out.1 hHeld.1).size)
    have R0 := hid hr0
    clear hr0 hf0
    refine hK.out _ _ (KS.out _ (bt hHeld.1 hbz0)) (fun hHeld2 => ?_)
    clear hK K hHeld
    have hHeld := hHeld2
    clear hHeld2
    try simp only [Act.put, List.setIfInBounds_toArray, List.set_cons_zero, List.set_cons_succ]
    refine wpAnyH_take (i := 8) (v := ?_) (by simp only [List.getElem?_toArray, List.getElem?_cons_succ, List.getElem?_cons_zero]; exact rfl) (by kernel_rfl) (by kernel_rfl) (by kernel_rfl) (fun _ _ _ h => h) (Or.inl ⟨by rfl, ?_⟩) (by assumption) ?_
    rotate_left
    · intro w hSw
      try dsimp only at hSw
      go_simp
      try with_reducible rfl
    try simp only [Act.put, List.setIfInBounds_toArray, List.set_cons_zero, List.set_cons_succ]
    refine wpAnyH_take (i := 9) (v := ?_) (by simp only [List.getElem?_toArray, List.getElem?_cons_succ, List.getElem?_cons_zero]; exact rfl) (by kernel_rfl) (by kernel_rfl) (by kernel_rfl) (fun _ _ _ h => h) (Or.inl ⟨by rfl, ?_⟩) (by assumption) ?_
    rotate_left
    · intro w hSw
      try dsimp only at hSw
      go_simp
      try with_reducible rfl
    try simp only [Act.put, List.setIfInBounds_toArray, List.set_cons_zero, List.set_cons_succ]
    refine wpAnyH_take (i := 11) (v := ?_) (by simp only [List.getElem?_toArray, List.getElem?_cons_succ, List.getElem?_cons_zero]; exact rfl) (by kernel_rfl) (by kernel_rfl) (by kernel_rfl) (fun _ _ _ h => h) (Or.inl ⟨by rfl, ?_⟩) (by assumption) ?_
    rotate_left
    · intro w hSw
      try dsimp only at hSw
      go_simp
      try with_reducible rfl
    try simp only [Act.put, List.setIfInBounds_toArray, List.set_cons_zero, List.set_cons_succ]
    refine wpAnyH_take (i := 10) (v := ?_) (by simp only [List.getElem?_toArray, List.getElem?_cons_succ, List.getElem?_cons_zero]; exact rfl) (by kernel_rfl) (by kernel_rfl) (by kernel_rfl) (fun _ _ _ h => h) (Or.inl ⟨by rfl, ?_⟩) (by assumption) ?_
    rotate_left
    · intro w hSw
      try dsimp only at hSw
      go_simp
      try with_reducible rfl
    try simp only [Act.put, List.setIfInBounds_toArray, List.set_cons_zero, List.set_cons_succ]
    refine wpAnyH_take (i := 12) (v := ?_) (by simp only [List.getElem?_toArray, List.getElem?_cons_succ, List.getElem?_cons_zero]; exact rfl) (by kernel_rfl) (by kernel_rfl) (by kernel_rfl) (fun _ _ _ h => h) (Or.inl ⟨by rfl, ?_⟩) (by assumption) ?_
    rotate_left
    · intro w hSw
      try dsimp only at hSw
      go_simp
      try with_reducible rfl
    try simp only [Act.put, List.setIfInBounds_toArray, List.set_cons_zero, List.set_cons_succ]
    refine wpAnyH_done (by kernel_rfl) ?_ _
    refine NoPanic.normal ?_
    replace KR := hid (KR.out.step hHeld.1)
    clear hHeld KS hbz0 R0
    go_wp2_with (refine wpList_store_whole rfl 24 (.tmp 6) (.tmp 28) rfl N2 (asC none 0 0 none 0 0) rfl rfl 24 _ KR.out.2.2 rfl (by show _ = some 2; exact size_as) (asC_one _ _ _ _ _ _) ?_; intro w9 hp9 hg9; have KR9 := hid (kp_at KR.out hg9 hp9); clear hp9 hg9)
    (try simp only [Exit.inBlock, Exit.then])
    show bodyPost Try.prog Try.f83 _ _ _ _
    refine bodyPost_ret (results_cell_slot (p := 6) (u := 7) rfl _ _ N2 _ (asC none 0 0 none 0 0) (0, 0) _ (.bool false) rfl rfl KR9.out.2.2 Try.underlying24 rfl (by kernel_rfl)) rfl ?_
    have hv2 := hv.out
    rw [FF0.out] at hv2
    subst hv2
    have e0 := h0.out
    have e1 := h1.out
    subst e0
    subst e1
    rw [← h2.out, ← h3.out]
    exact ⟨⟨none, 0, none, 0, rfl, ⟨nrun_nil _, nrun_nil _⟩, far_nil _, far_nil _⟩, KR9.out.1⟩
  | true =>
    go_wp2
    have KS : Hid (∀ y, Below W.heap.size W y → (fun y => Below W.heap.size W y ∧ y.cell? ⟨N0, 0, none⟩ = some (.slice x0 x1 x2) ∧ y.cell? ⟨N1, 0, none⟩ = some (.slice y0 y1 y2)) y) := hid (fun y hb => ⟨hb, kp_cell (j := 0) (v := .slice x0 x1 x2) (KA.out.step hb) rfl, kp_cell (j := 0) (v := .slice y0 y1 y2) (KB.out.step hb) rfl⟩)
    refine wp_region_noPanic ?_
    refine wp_region_held_drew (S := fun y => Below W.heap.size W y ∧ y.cell? ⟨N0, 0, none⟩ = some (.slice x0 x1 x2) ∧ y.cell? ⟨N1, 0, none⟩ = some (.slice y0 y1 y2)) (by kernel_rfl) (KS.out _ (bdrew (Below.refl _ _))) (fun hHeld => ?_)
    refine wpAnyH_take (i := 0) (v := ?_) (by simp only [List.getElem?_toArray, List.getElem?_cons_succ, List.getElem?_cons_zero]; exact rfl) (by kernel_rfl) (by kernel_rfl) (by kernel_rfl) (fun _ _ _ h => h) (Or.inl ⟨by rfl, ?_⟩) (by assumption) ?_
    rotate_left
    · intro w hSw
      try dsimp only at hSw
      go_simp
      try with_reducible rfl
    try simp only [Act.put, List.setIfInBounds_toArray, List.set_cons_zero, List.set_cons_succ]
    refine wpAnyH_take (i := 1) (v := ?_) (by simp only [List.getElem?_toArray, List.getElem?_cons_succ, List.getElem?_cons_zero]; exact rfl) (by kernel_rfl) (by kernel_rfl) (by kernel_rfl) (fun _ _ _ h => h) (Or.inl ⟨by rfl, ?_⟩) (by assumption) ?_
    rotate_left
    · intro w hSw
      try dsimp only at hSw
      go_simp
      try with_reducible rfl
    try simp only [Act.put, List.setIfInBounds_toArray, List.set_cons_zero, List.set_cons_succ]
    refine wpAnyH_take (i := 2) (v := ?_) (by simp only [List.getElem?_toArray, List.getElem?_cons_succ, List.getElem?_cons_zero]; exact rfl) (by kernel_rfl) (by kernel_rfl) (by kernel_rfl) (fun _ _ _ h => h) (Or.inl ⟨by rfl, ?_⟩) (by assumption) ?_
    rotate_left
    · intro w hSw
      try dsimp only at hSw
      go_simp
      try with_reducible rfl
    try simp only [Act.put, List.setIfInBounds_toArray, List.set_cons_zero, List.set_cons_succ]
    refine wpAnyH_take (i := 3) (v := ?_) (by simp only [List.getElem?_toArray, List.getElem?_cons_succ, List.getElem?_cons_zero]; exact rfl) (by kernel_rfl) (by kernel_rfl) (by kernel_rfl) (fun _ _ _ h => h) (Or.inl ⟨by rfl, ?_⟩) (by assumption) ?_
    rotate_left
    · intro w hSw
      try dsimp only at hSw
      go_simp
      try with_reducible rfl
    try simp only [Act.put, List.setIfInBounds_toArray, List.set_cons_zero, List.set_cons_succ]
    refine wpAnyH_take (i := 4) (v := ?_) (by simp only [List.getElem?_toArray, List.getElem?_cons_succ, List.getElem?_cons_zero]; exact rfl) (by kernel_rfl) (by kernel_rfl) (by kernel_rfl) (fun _ _ _ h => h) (Or.inl ⟨by rfl, ?_⟩) (by assumption) ?_
    rotate_left
    · intro w hSw
      try dsimp only at hSw
      go_simp
      try with_reducible rfl
    try simp only [Act.put, List.setIfInBounds_toArray, List.set_cons_zero, List.set_cons_succ]
    refine wpAnyH_take (i := 5) (v := ?_) (by simp only [List.getElem?_toArray, List.getElem?_cons_succ, List.getElem?_cons_zero]; exact rfl) (by kernel_rfl) (by kernel_rfl) (by kernel_rfl) (fun _ _ _ h => h) (Or.inl ⟨by rfl, ?_⟩) (by assumption) ?_
    rotate_left
    · intro w hSw
      try dsimp only at hSw
      go_simp
      try with_reducible rfl
    try simp only [Act.put, List.setIfInBounds_toArray, List.set_cons_zero, List.set_cons_succ]
    refine wpAnyH_take (i := 6) (v := ?_) (by simp only [List.getElem?_toArray, List.getElem?_cons_succ, List.getElem?_cons_zero]; exact rfl) (by kernel_rfl) (by kernel_rfl) (by kernel_rfl) (fun _ _ _ h => h) (Or.inl ⟨by rfl, ?_⟩) (by assumption) ?_
    rotate_left
    · intro w hSw
      try dsimp only at hSw
      go_simp
      try with_reducible rfl
    try simp only [Act.put, List.setIfInBounds_toArray, List.set_cons_zero, List.set_cons_succ]
    refine wpAnyH_ready (rs := [7]) (by kernel_rfl) (by simp) ?_
    refine AllReadyH.cons (by simp only [List.getElem?_toArray, List.getElem?_cons_succ, List.getElem?_cons_zero]; exact rfl) (fun K hK => ?_) AllReadyH.nil
    go_simp
    go_at_call 66; refine (join_n _ _ _ _ _ _ t0 l0 u0 L0 true _ (HX.out.1.below (bt KA.out.1 hHeld.1)) (HY.out.1.below (bt KA.out.1 hHeld.1)) HKX.out.1 HKY.out.1 (by have := HP.out; omega) (by have := HP.out; omega) FL0 FF0 FT0).mono ?_; rintro e z0 ⟨⟨A0, c0, rfl, hr0, hf0⟩, hbz0⟩
    have FA0 := hid (far_up hf0 (heap_lt (keep_blk KL.out.2.2 hHeld.1)))
    have FW0 := hid (far_low hf0 (bt KL.out.1 hHeld.1).size)
    have R0 := hid hr0
    clear hr0 hf0
    refine hK.out _ _ (KS.out _ (bt hHeld.1 hbz0)) (fun hHeld2 => ?_)
    clear hK K hHeld
    have hHeld := hHeld2
    clear hHeld2
    try simp only [Act.put, List.setIfInBounds_toArray, List.set_cons_zero, List.set_cons_succ]
    refine wpAnyH_take (i := 8) (v := ?_) (by simp only [List.getElem?_toArray, List.getElem?_cons_succ, List.getElem?_cons_zero]; exact rfl) (by kernel_rfl) (by kernel_rfl) (by kernel_rfl) (fun _ _ _ h => h) (Or.inl ⟨by rfl, ?_⟩) (by assumption) ?_
    rotate_left
    · intro w hSw
      try dsimp only at hSw
      go_simp
      try with_reducible rfl
    try simp only [Act.put, List.setIfInBounds_toArray, List.set_cons_zero, List.set_cons_succ]
    refine wpAnyH_take (i := 9) (v := ?_) (by simp only [List.getElem?_toArray, List.getElem?_cons_succ, List.getElem?_cons_zero]; exact rfl) (by kernel_rfl) (by kernel_rfl) (by kernel_rfl) (fun _ _ _ h => h) (Or.inl ⟨by rfl, ?_⟩) (by assumption) ?_
    rotate_left
    · intro w hSw
      try dsimp only at hSw
      go_simp
      try with_reducible rfl
    try simp only [Act.put, List.setIfInBounds_toArray, List.set_cons_zero, List.set_cons_succ]
    refine wpAnyH_take (i := 11) (v := ?_) (by simp only [List.getElem?_toArray, List.getElem?_cons_succ, List.getElem?_cons_zero]; exact rfl) (by kernel_rfl) (by kernel_rfl) (by kernel_rfl) (fun _ _ _ h => h) (Or.inl ⟨by rfl, ?_⟩) (by assumption) ?_
    rotate_left
    · intro w hSw
      try dsimp only at hSw
      go_simp
      try with_reducible rfl
    try simp only [Act.put, List.setIfInBounds_toArray, List.set_cons_zero, List.set_cons_succ]
    refine wpAnyH_take (i := 10) (v := ?_) (by simp only [List.getElem?_toArray, List.getElem?_cons_succ, List.getElem?_cons_zero]; exact rfl) (by kernel_rfl) (by kernel_rfl) (by kernel_rfl) (fun _ _ _ h => h) (Or.inl ⟨by rfl, ?_⟩) (by assumption) ?_
    rotate_left
    · intro w hSw
      try dsimp only at hSw
      go_simp
      try with_reducible rfl
    try simp only [Act.put, List.setIfInBounds_toArray, List.set_cons_zero, List.set_cons_succ]
    refine wpAnyH_take (i := 12) (v := ?_) (by simp only [List.getElem?_toArray, List.getElem?_cons_succ, List.getElem?_cons_zero]; exact rfl) (by kernel_rfl) (by kernel_rfl) (by kernel_rfl) (fun _ _ _ h => h) (Or.inl ⟨by rfl, ?_⟩) (by assumption) ?_
    rotate_left
    · intro w hSw
      try dsimp only at hSw
      go_simp
      try with_reducible rfl
    try simp only [Act.put, List.setIfInBounds_toArray, List.set_cons_zero, List.set_cons_succ]
    refine wpAnyH_done (by kernel_rfl) ?_ _
    refine NoPanic.normal ?_
    replace KA := hid (KA.out.step hHeld.1)
    replace KB := hid (KB.out.step hHeld.1)
    replace KR := hid (KR.out.step hHeld.1)
    replace KL := hid (KL.out.step hHeld.1)
    clear hHeld KS hbz0
    have fz0 := kp_froz KL.out 0
    have cz0 := kp_cell (j := 0) (v := .slice none 0 0) KL.out rfl
    go_wp2
    have KL1 : Hid (Kp w (z0.setCell ⟨N3, 0, none⟩ (.slice A0 t0 c0)) N3 (.cells #[.slice A0 t0 c0, .slice none 0 0] 24)) := hid (kp_set (j := 0) (v := .slice A0 t0 c0) KL.out)
    replace KA := hid (kp_other (j := 0) (v := .slice A0 t0 c0) (M := N3) KA.out (by have := HO.out; omega) (by have := HO.out; omega))
    replace KB := hid (kp_other (j := 0) (v := .slice A0 t0 c0) (M := N3) KB.out (by have := HO.out; omega) (by have := HO.out; omega))
    replace KR := hid (kp_other (j := 0) (v := .slice A0 t0 c0) (M := N3) KR.out (by have := HO.out; omega) (by have := HO.out; omega))
    replace R0 := hid (R0.out.grown (set_grown z0 N3 0 (.slice A0 t0 c0)) (fun b off e => by have := FA0.out b off e; have := HO.out; omega))
    clear KL fz0 cz0
    generalize z0.setCell ⟨N3, 0, none⟩ (.slice A0 t0 c0) = X1 at KL1 KA KB KR R0 ⊢
    have KL := KL1
    clear KL1
    rw [rounds_succ]
    cases f1 with
    | false =>
      go_wp2
      have KS : Hid (∀ y, Below X1.heap.size X1 y → (fun y => Below X1.heap.size X1 y ∧ y.cell? ⟨N0, 1, none⟩ = some (.slice x3 x4 x5) ∧ y.cell? ⟨N1, 1, none⟩ = some (.slice y3 y4 y5)) y) := hid (fun y hb => ⟨hb, kp_cell (j := 1) (v := .slice x3 x4 x5) (KA.out.step hb) rfl, kp_cell (j := 1) (v := .slice y3 y4 y5) (KB.out.step hb) rfl⟩)
      refine wp_region_noPanic ?_
      refine wp_region_held_drew (S := fun y => Below X1.heap.size X1 y ∧ y.cell? ⟨N0, 1, none⟩ = some (.slice x3 x4 x5) ∧ y.cell? ⟨N1, 1, none⟩ = some (.slice y3 y4 y5)) (by kernel_rfl) (KS.out _ (bdrew (Below.refl _ _))) (fun hHeld => ?_)
      refine wpAnyH_take (i := 0) (v := ?_) (by simp only [List.getElem?_toArray, List.getElem?_cons_succ, List.getElem?_cons_zero]; exact rfl) (by kernel_rfl) (by kernel_rfl) (by kernel_rfl) (fun _ _ _ h => h) (Or.inl ⟨by rfl, ?_⟩) (by assumption) ?_
      rotate_left
      · intro w hSw
        try dsimp only at hSw
        go_simp
        try with_reducible rfl
      try simp only [Act.put, List.setIfInBounds_toArray, List.set_cons_zero, List.set_cons_succ]
      refine wpAnyH_take (i := 1) (v := ?_) (by simp only [List.getElem?_toArray, List.getElem?_cons_succ, List.getElem?_cons_zero]; exact rfl) (by kernel_rfl) (by kernel_rfl) (by kernel_rfl) (fun _ _ _ h => h) (Or.inl ⟨by rfl, ?_⟩) (by assumption) ?_
      rotate_left
      · intro w hSw
        try dsimp only at hSw
        go_simp
        try with_reducible rfl
      try simp only [Act.put, List.setIfInBounds_toArray, List.set_cons_zero, List.set_cons_succ]
      refine wpAnyH_take (i := 2) (v := ?_) (by simp only [List.getElem?_toArray, List.getElem?_cons_succ, List.getElem?_cons_zero]; exact rfl) (by kernel_rfl) (by kernel_rfl) (by kernel_rfl) (fun _ _ _ h => h) (Or.inl ⟨by rfl, ?_⟩) (by assumption) ?_
      rotate_left
      · intro w hSw
        try dsimp only at hSw
        go_simp
        try with_reducible rfl
      try simp only [Act.put, List.setIfInBounds_toArray, List.set_cons_zero, List.set_cons_succ]
      refine wpAnyH_take (i := 3) (v := ?_) (by simp only [List.getElem?_toArray, List.getElem?_cons_succ, List.getElem?_cons_zero]; exact rfl) (by kernel_rfl) (by kernel_rfl) (by kernel_rfl) (fun _ _ _ h => h) (Or.inl ⟨by rfl, ?_⟩) (by assumption) ?_
      rotate_left
      · intro w hSw
        try dsimp only at hSw
        go_simp
        try with_reducible rfl
      try simp only [Act.put, List.setIfInBounds_toArray, List.set_cons_zero, List.set_cons_succ]
      refine wpAnyH_take (i := 4) (v := ?_) (by simp only [List.getElem?_toArray, List.getElem?_cons_succ, List.getElem?_cons_zero]; exact rfl) (by kernel_rfl) (by kernel_rfl) (by kernel_rfl) (fun _ _ _ h => h) (Or.inl ⟨by rfl, ?_⟩) (by assumption) ?_
      rotate_left
      · intro w hSw
        try dsimp only at hSw
        go_simp
        try with_reducible rfl
      try simp only [Act.put, List.setIfInBounds_toArray, List.set_cons_zero, List.set_cons_succ]
      refine wpAnyH_take (i := 5) (v := ?_) (by simp only [List.getElem?_toArray, List.getElem?_cons_succ, List.getElem?_cons_zero]; exact rfl) (by kernel_rfl) (by kernel_rfl) (by kernel_rfl) (fun _ _ _ h => h) (Or.inl ⟨by rfl, ?_⟩) (by assumption) ?_
      rotate_left
      · intro w hSw
        try dsimp only at hSw
        go_simp
        try with_reducible rfl
      try simp only [Act.put, List.setIfInBounds_toArray, List.set_cons_zero, List.set_cons_succ]
      refine wpAnyH_take (i := 6) (v := ?_) (by simp only [List.getElem?_toArray, List.getElem?_cons_succ, List.getElem?_cons_zero]; exact rfl) (by kernel_rfl) (by kernel_rfl) (by kernel_rfl) (fun _ _ _ h => h) (Or.inl ⟨by rfl, ?_⟩) (by assumption) ?_
      rotate_left
      · intro w hSw
        try dsimp only at hSw
        go_simp
        try with_reducible rfl
      try simp only [Act.put, List.setIfInBounds_toArray, List.set_cons_zero, List.set_cons_succ]
      refine wpAnyH_ready (rs := [7]) (by kernel_rfl) (by simp) ?_
      refine AllReadyH.cons (by simp only [List.getElem?_toArray, List.getElem?_cons_succ, List.getElem?_cons_zero]; exact rfl) (fun K hK => ?_) AllReadyH.nil
      go_simp
      go_at_call 66; refine (join_n _ _ _ _ _ _ t1 l1 u1 L1 false _ (HX.out.2.below (bt KA.out.1 hHeld.1)) (HY.out.2.below (bt KA.out.1 hHeld.1)) HKX.out.2 HKY.out.2 (by have := HP.out; omega) (by have := HP.out; omega) FL1 FF1 FT1).mono ?_; rintro e z1 ⟨⟨A1, c1, rfl, hr1, hf1⟩, hbz1⟩
      have FA1 := hid (far_up hf1 (heap_lt (keep_blk KL.out.2.2 hHeld.1)))
      have FW1 := hid (far_low hf1 (bt KL.out.1 hHeld.1).size)
      have R1 := hid hr1
      clear hr1 hf1
      refine hK.out _ _ (KS.out _ (bt hHeld.1 hbz1)) (fun hHeld2 => ?_)
      clear hK K hHeld
      have hHeld := hHeld2
      clear hHeld2
      try simp only [Act.put, List.setIfInBounds_toArray, List.set_cons_zero, List.set_cons_succ]
      refine wpAnyH_take (i := 8) (v := ?_) (by simp only [List.getElem?_toArray, List.getElem?_cons_succ, List.getElem?_cons_zero]; exact rfl) (by kernel_rfl) (by kernel_rfl) (by kernel_rfl) (fun _ _ _ h => h) (Or.inl ⟨by rfl, ?_⟩) (by assumption) ?_
      rotate_left
      · intro w hSw
        try dsimp only at hSw
        go_simp
        try with_reducible rfl
      try simp only [Act.put, List.setIfInBounds_toArray, List.set_cons_zero, List.set_cons_succ]
      refine wpAnyH_take (i := 9) (v := ?_) (by simp only [List.getElem?_toArray, List.getElem?_cons_succ, List.getElem?_cons_zero]; exact rfl) (by kernel_rfl) (by kernel_rfl) (by kernel_rfl) (fun _ _ _ h => h) (Or.inl ⟨by rfl, ?_⟩) (by assumption) ?_
      rotate_left
      · intro w hSw
        try dsimp only at hSw
        go_simp
        try with_reducible rfl
      try simp only [Act.put, List.setIfInBounds_toArray, List.set_cons_zero, List.set_cons_succ]
      refine wpAnyH_take (i := 11) (v := ?_) (by simp only [List.getElem?_toArray, List.getElem?_cons_succ, List.getElem?_cons_zero]; exact rfl) (by kernel_rfl) (by kernel_rfl) (by kernel_rfl) (fun _ _ _ h => h) (Or.inl ⟨by rfl, ?_⟩) (by assumption) ?_
      rotate_left
      · intro w hSw
        try dsimp only at hSw
        go_simp
        try with_reducible rfl
      try simp only [Act.put, List.setIfInBounds_toArray, List.set_cons_zero, List.set_cons_succ]
      refine wpAnyH_take (i := 10) (v := ?_) (by simp only [List.getElem?_toArray, List.getElem?_cons_succ, List.getElem?_cons_zero]; exact rfl) (by kernel_rfl) (by kernel_rfl) (by kernel_rfl) (fun _ _ _ h => h) (Or.inl ⟨by rfl, ?_⟩) (by assumption) ?_
      rotate_left
      · intro w hSw
        try dsimp only at hSw
        go_simp
        try with_reducible rfl
      try simp only [Act.put, List.setIfInBounds_toArray, List.set_cons_zero, List.set_cons_succ]
      refine wpAnyH_take (i := 12) (v := ?_) (by simp only [List.getElem?_toArray, List.getElem?_cons_succ, List.getElem?_cons_zero]; exact rfl) (by kernel_rfl) (by kernel_rfl) (by kernel_rfl) (fun _ _ _ h => h) (Or.inl ⟨by rfl, ?_⟩) (by assumption) ?_
      rotate_left
      · intro w hSw
        try dsimp only at hSw
        go_simp
        try with_reducible rfl
      try simp only [Act.put, List.setIfInBounds_toArray, List.set_cons_zero, List.set_cons_succ]
      refine wpAnyH_done (by kernel_rfl) ?_ _
      refine NoPanic.normal ?_
      replace KR := hid (KR.out.step hHeld.1)
      clear hHeld KS hbz1 R0 R1
      go_wp2_with (refine wpList_store_whole rfl 24 (.tmp 6) (.tmp 28) rfl N2 (asC none 0 0 none 0 0) rfl rfl 24 _ KR.out.2.2 rfl (by show _ = some 2; exact size_as) (asC_one _ _ _ _ _ _) ?_; intro w9 hp9 hg9; have KR9 := hid (kp_at KR.out hg9 hp9); clear hp9 hg9)
      (try simp only [Exit.inBlock, Exit.then])
      show bodyPost Try.prog Try.f83 _ _ _ _
      refine bodyPost_ret (results_cell_slot (p := 6) (u := 7) rfl _ _ N2 _ (asC none 0 0 none 0 0) (0, 0) _ (.bool false) rfl rfl KR9.out.2.2 Try.underlying24 rfl (by kernel_rfl)) rfl ?_
      have hv2 := hv.out
      rw [FF0.out, FF1.out] at hv2
      subst hv2
      have e0 := h0.out
      have e1 := h1.out
      subst e0
      subst e1
      rw [← h2.out, ← h3.out]
      exact ⟨⟨none, 0, none, 0, rfl, ⟨nrun_nil _, nrun_nil _⟩, far_nil _, far_nil _⟩, KR9.out.1⟩
    | true =>
      go_wp2
      have KS : Hid (∀ y, Below X1.heap.size X1 y → (fun y => Below X1.heap.size X1 y ∧ y.cell? ⟨N0, 1, none⟩ = some (.slice x3 x4 x5) ∧ y.cell? ⟨N1, 1, none⟩ = some (.slice y3 y4 y5)) y) := hid (fun y hb => ⟨hb, kp_cell (j := 1) (v := .slice x3 x4 x5) (KA.out.step hb) rfl, kp_cell (j := 1) (v := .slice y3 y4 y5) (KB.out.step hb) rfl⟩)
      refine wp_region_noPanic ?_
      refine wp_region_held_drew (S := fun y => Below X1.heap.size X1 y ∧ y.cell? ⟨N0, 1, none⟩ = some (.slice x3 x4 x5) ∧ y.cell? ⟨N1, 1, none⟩ = some (.slice y3 y4 y5)) (by kernel_rfl) (KS.out _ (bdrew (Below.refl _ _))) (fun hHeld => ?_)
      refine wpAnyH_take (i := 0) (v := ?_) (by simp only [List.getElem?_toArray, List.getElem?_cons_succ, List.getElem?_cons_zero]; exact rfl) (by kernel_rfl) (by kernel_rfl) (by kernel_rfl) (fun _ _ _ h => h) (Or.inl ⟨by rfl, ?_⟩) (by assumption) ?_
      rotate_left
      · intro w hSw
        try dsimp only at hSw
        go_simp
        try with_reducible rfl
      try simp only [Act.put, List.setIfInBounds_toArray, List.set_cons_zero, List.set_cons_succ]
      refine wpAnyH_take (i := 1) (v := ?_) (by simp only [List.getElem?_toArray, List.getElem?_cons_succ, List.getElem?_cons_zero]; exact rfl) (by kernel_rfl) (by kernel_rfl) (by kernel_rfl) (fun _ _ _ h => h) (Or.inl ⟨by rfl, ?_⟩) (by assumption) ?_
      rotate_left
      · intro w hSw
        try dsimp only at hSw
        go_simp
        try with_reducible rfl
      try simp only [Act.put, List.setIfInBounds_toArray, List.set_cons_zero, List.set_cons_succ]
      refine wpAnyH_take (i := 2) (v := ?_) (by simp only [List.getElem?_toArray, List.getElem?_cons_succ, List.getElem?_cons_zero]; exact rfl) (by kernel_rfl) (by kernel_rfl) (by kernel_rfl) (fun _ _ _ h => h) (Or.inl ⟨by rfl, ?_⟩) (by assumption) ?_
      rotate_left
      · intro w hSw
        try dsimp only at hSw
        go_simp
        try with_reducible rfl
      try simp only [Act.put, List.setIfInBounds_toArray, List.set_cons_zero, List.set_cons_succ]
      refine wpAnyH_take (i := 3) (v := ?_) (by simp only [List.getElem?_toArray, List.getElem?_cons_succ, List.getElem?_cons_zero]; exact rfl) (by kernel_rfl) (by kernel_rfl) (by kernel_rfl) (fun _ _ _ h => h) (Or.inl ⟨by rfl, ?_⟩) (by assumption) ?_
      rotate_left
      · intro w hSw
        try dsimp only at hSw
        go_simp
        try with_reducible rfl
      try simp only [Act.put, List.setIfInBounds_toArray, List.set_cons_zero, List.set_cons_succ]
      refine wpAnyH_take (i := 4) (v := ?_) (by simp only [List.getElem?_toArray, List.getElem?_cons_succ, List.getElem?_cons_zero]; exact rfl) (by kernel_rfl) (by kernel_rfl) (by kernel_rfl) (fun _ _ _ h => h) (Or.inl ⟨by rfl, ?_⟩) (by assumption) ?_
      rotate_left
      · intro w hSw
        try dsimp only at hSw
        go_simp
        try with_reducible rfl
      try simp only [Act.put, List.setIfInBounds_toArray, List.set_cons_zero, List.set_cons_succ]
      refine wpAnyH_take (i := 5) (v := ?_) (by simp only [List.getElem?_toArray, List.getElem?_cons_succ, List.getElem?_cons_zero]; exact rfl) (by kernel_rfl) (by kernel_rfl) (by kernel_rfl) (fun _ _ _ h => h) (Or.inl ⟨by rfl, ?_⟩) (by assumption) ?_
      rotate_left
      · intro w hSw
        try dsimp only at hSw
        go_simp
        try with_reducible rfl
      try simp only [Act.put, List.setIfInBounds_toArray, List.set_cons_zero, List.set_cons_succ]
      refine wpAnyH_take (i := 6) (v := ?_) (by simp only [List.getElem?_toArray, List.getElem?_cons_succ, List.getElem?_cons_zero]; exact rfl) (by kernel_rfl) (by kernel_rfl) (by kernel_rfl) (fun _ _ _ h => h) (Or.inl ⟨by rfl, ?_⟩) (by assumption) ?_
      rotate_left
      · intro w hSw
        try dsimp only at hSw
        go_simp
        try with_reducible rfl
      try simp only [Act.put, List.setIfInBounds_toArray, List.set_cons_zero, List.set_cons_succ]
      refine wpAnyH_ready (rs := [7]) (by kernel_rfl) (by simp) ?_
      refine AllReadyH.cons (by simp only [List.getElem?_toArray, List.getElem?_cons_succ, List.getElem?_cons_zero]; exact rfl) (fun K hK => ?_) AllReadyH.nil
      go_simp
      go_at_call 66; refine (join_n _ _ _ _ _ _ t1 l1 u1 L1 true _ (HX.out.2.below (bt KA.out.1 hHeld.1)) (HY.out.2.below (bt KA.out.1 hHeld.1)) HKX.out.2 HKY.out.2 (by have := HP.out; omega) (by have := HP.out; omega) FL1 FF1 FT1).mono ?_; rintro e z1 ⟨⟨A1, c1, rfl, hr1, hf1⟩, hbz1⟩
      have FA1 := hid (far_up hf1 (heap_lt (keep_blk KL.out.2.2 hHeld.1)))
      have FW1 := hid (far_low hf1 (bt KL.out.1 hHeld.1).size)
      have R1 := hid hr1
      clear hr1 hf1
      refine hK.out _ _ (KS.out _ (bt hHeld.1 hbz1)) (fun hHeld2 => ?_)
      clear hK K hHeld
      have hHeld := hHeld2
      clear hHeld2
      try simp only [Act.put, List.setIfInBounds_toArray, List.set_cons_zero, List.set_cons_succ]
      refine wpAnyH_take (i := 8) (v := ?_) (by simp only [List.getElem?_toArray, List.getElem?_cons_succ, List.getElem?_cons_zero]; exact rfl) (by kernel_rfl) (by kernel_rfl) (by kernel_rfl) (fun _ _ _ h => h) (Or.inl ⟨by rfl, ?_⟩) (by assumption) ?_
      rotate_left
      · intro w hSw
        try dsimp only at hSw
        go_simp
        try with_reducible rfl
      try simp only [Act.put, List.setIfInBounds_toArray, List.set_cons_zero, List.set_cons_succ]
      refine wpAnyH_take (i := 9) (v := ?_) (by simp only [List.getElem?_toArray, List.getElem?_cons_succ, List.getElem?_cons_zero]; exact rfl) (by kernel_rfl) (by kernel_rfl) (by kernel_rfl) (fun _ _ _ h => h) (Or.inl ⟨by rfl, ?_⟩) (by assumption) ?_
      rotate_left
      · intro w hSw
        try dsimp only at hSw
        go_simp
        try with_reducible rfl
      try simp only [Act.put, List.setIfInBounds_toArray, List.set_cons_zero, List.set_cons_succ]
      refine wpAnyH_take (i := 11) (v := ?_) (by simp only [List.getElem?_toArray, List.getElem?_cons_succ, List.getElem?_cons_zero]; exact rfl) (by kernel_rfl) (by kernel_rfl) (by kernel_rfl) (fun _ _ _ h => h) (Or.inl ⟨by rfl, ?_⟩) (by assumption) ?_
      rotate_left
      · intro w hSw
        try dsimp only at hSw
        go_simp
        try with_reducible rfl
      try simp only [Act.put, List.setIfInBounds_toArray, List.set_cons_zero, List.set_cons_succ]
      refine wpAnyH_take (i := 10) (v := ?_) (by simp only [List.getElem?_toArray, List.getElem?_cons_succ, List.getElem?_cons_zero]; exact rfl) (by kernel_rfl) (by kernel_rfl) (by kernel_rfl) (fun _ _ _ h => h) (Or.inl ⟨by rfl, ?_⟩) (by assumption) ?_
      rotate_left
      · intro w hSw
        try dsimp only at hSw
        go_simp
        try with_reducible rfl
      try simp only [Act.put, List.setIfInBounds_toArray, List.set_cons_zero, List.set_cons_succ]
      refine wpAnyH_take (i := 12) (v := ?_) (by simp only [List.getElem?_toArray, List.getElem?_cons_succ, List.getElem?_cons_zero]; exact rfl) (by kernel_rfl) (by kernel_rfl) (by kernel_rfl) (fun _ _ _ h => h) (Or.inl ⟨by rfl, ?_⟩) (by assumption) ?_
      rotate_left
      · intro w hSw
        try dsimp only at hSw
        go_simp
        try with_reducible rfl
      try simp only [Act.put, List.setIfInBounds_toArray, List.set_cons_zero, List.set_cons_succ]
      refine wpAnyH_done (by kernel_rfl) ?_ _
      refine NoPanic.normal ?_
      replace KR := hid (KR.out.step hHeld.1)
      replace KL := hid (KL.out.step hHeld.1)
      replace R0 := hid (R0.out.below hHeld.1)
      clear hHeld KS hbz1
      have fz1 := kp_froz KL.out 1
      have cz1 := kp_cell (j := 1) (v := .slice none 0 0) KL.out rfl
      go_wp2
      have KL2 : Hid (Kp w (z1.setCell ⟨N3, 1, none⟩ (.slice A1 t1 c1)) N3 (.cells #[.slice A0 t0 c0, .slice A1 t1 c1] 24)) := hid (kp_set (j := 1) (v := .slice A1 t1 c1) KL.out)
      replace KR := hid (kp_other (j := 1) (v := .slice A1 t1 c1) (M := N3) KR.out (by have := HO.out; omega) (by have := HO.out; omega))
      replace R0 := hid (R0.out.grown (set_grown z1 N3 1 (.slice A1 t1 c1)) (fun b off e => by have := FA0.out b off e; have := HO.out; omega))
      replace R1 := hid (R1.out.grown (set_grown z1 N3 1 (.slice A1 t1 c1)) (fun b off e => by have := FA1.out b off e; have := HO.out; omega))
      clear KL fz1 cz1
      generalize z1.setCell ⟨N3, 1, none⟩ (.slice A1 t1 c1) = X2 at KL2 KR R0 R1 ⊢
      obtain ⟨d0, d1⟩ := box_two KL2.out.2.2
      rw [rounds_succ]
      go_wp2_with (refine wpList_store_whole rfl 24 (.tmp 6) (.tmp 33) rfl N2 (asC A0 t0 c0 A1 t1 c1) rfl rfl 24 _ KR.out.2.2 rfl (by show _ = some 2; exact size_as) (asC_one _ _ _ _ _ _) ?_; intro w9 hp9 hg9; have KR9 := hid (kp_at KR.out hg9 hp9); replace R0 := hid (R0.out.grown hg9 (fun b off e => by have := FA0.out b off e; have := HO.out; omega)); replace R1 := hid (R1.out.grown hg9 (fun b off e => by have := FA1.out b off e; have := HO.out; omega)); clear hp9 hg9)
      (try simp only [Exit.inBlock, Exit.then])
      show bodyPost Try.prog Try.f83 _ _ _ _
      refine bodyPost_ret (results_cell_slot (p := 6) (u := 7) rfl _ _ N2 _ (asC A0 t0 c0 A1 t1 c1) (0, 0) _ (.bool true) rfl rfl KR9.out.2.2 Try.underlying24 rfl (by kernel_rfl)) rfl ?_
      have hv2 := hv.out
      rw [FF0.out, FF1.out] at hv2
      subst hv2
      have e0 : L0 = M0 := by rw [← FL0.out]; exact h0.out
      have e1 : L1 = M1 := by rw [← FL1.out]; exact h1.out
      subst e0
      subst e1
      have q0 := FT0.out.symm.trans h2.out
      have q1 := FT1.out.symm.trans h3.out
      subst q0
      subst q1
      exact ⟨⟨A0, c0, A1, c1, rfl, ⟨R0.out, R1.out⟩, FW0.out, FW1.out⟩, KR9.out.1⟩

set_option maxHeartbeats 16000000 in
theorem eachMinus_m (x0 : Option Addr) (x1 x2 : Nat) (x3 : Option Addr) (x4 x5 : Nat) (y0 : Option Addr) (y1 y2 : Nat) (y3 : Option Addr) (y4 y5 : Nat) (l0 l1 u0 u1 M0 M1 : List Rn) (k0 k1 : Nat) (v : Bool) (w : World) (hx : NRun w x0 x1 x2 l0 ∧ NRun w x3 x4 x5 l1) (hy : NRun w y0 y1 y2 u0 ∧ NRun w y3 y4 y5 u1) (kx : (∀ r ∈ l0, nok r) ∧ ∀ r ∈ l1, nok r) (ky : (∀ r ∈ u0, nok r) ∧ ∀ r ∈ u1, nok r) (hp : (x1 ≤ 1000 ∧ x4 ≤ 1000) ∧ y1 ≤ 1000 ∧ y4 ≤ 1000)
    (hv : Hid ((Mn l0 u0 && Mn l1 u1) = v)) (h0 : Hid ((if v then Ml l0 u0 else []) = M0)) (h1 : Hid ((if v then Ml l1 u1 else []) = M1)) (h2 : Hid (M0.length = k0)) (h3 : Hid (M1.length = k1)) :
    Calls Try.prog 83 #[.func (.func 91) #[] #[], .agg #[.slice x0 x1 x2, .slice x3 x4 x5], .agg #[.slice y0 y1 y2, .slice y3 y4 y5]] w fun e w' => (∃ A0 c0 A1 c1, e = .returned (.tuple #[.agg #[.slice A0 k0 c0, .slice A1 k1 c1], .bool v]) ∧ (NRun w' A0 k0 c0 M0 ∧ NRun w' A1 k1 c1 M1) ∧ Far w A0 ∧ Far w A1) ∧ Below w.heap.size w w' := by
  have HX := hid hx
  have HY := hid hy
  have HKX := hid kx
  have HKY := hid ky
  have HP := hid hp
  clear hx hy kx ky hp
  obtain ⟨L0, hL0⟩ : ∃ y, Ml l0 u0 = y := ⟨_, rfl⟩
  obtain ⟨f0, hf0⟩ : ∃ y, Mn l0 u0 = y := ⟨_, rfl⟩
  obtain ⟨t0, ht0⟩ : ∃ y, L0.length = y := ⟨_, rfl⟩
  have FL0 := hid hL0
  have FF0 := hid hf0
  have FT0 := hid ht0
  clear hL0 hf0 ht0
  obtain ⟨L1, hL1⟩ : ∃ y, Ml l1 u1 = y := ⟨_, rfl⟩
  obtain ⟨f1, hf1⟩ : ∃ y, Mn l1 u1 = y := ⟨_, rfl⟩
  obtain ⟨t1, ht1⟩ : ∃ y, L1.length = y := ⟨_, rfl⟩
  have FL1 := hid hL1
  have FF1 := hid hf1
  have FT1 := hid ht1
  clear hL1 hf1 ht1
  have KK := hid (four_new w (.cells #[.slice x0 x1 x2, .slice x3 x4 x5] 24) (.cells #[.slice y0 y1 y2, .slice y3 y4 y5] 24) (.cells #[.slice none 0 0, .slice none 0 0] 24) (.cells #[.slice none 0 0, .slice none 0 0] 24))
  go_enter Try.func83, Try.ntmps83
  go_upto_region 2 with fail
  generalize (((w.alloc (.cells #[.slice x0 x1 x2, .slice x3 x4 x5] 24)).alloc (.cells #[.slice y0 y1 y2, .slice y3 y4 y5] 24)).alloc (.cells #[.slice none 0 0, .slice none 0 0] 24)).alloc (.cells #[.slice none 0 0, .slice none 0 0] 24) = W at KK ⊢
  obtain ⟨N0, hN0⟩ : ∃ y, w.heap.size = y := ⟨_, rfl⟩
  obtain ⟨N1, hN1⟩ : ∃ y, N0 + 1 = y := ⟨_, rfl⟩
  obtain ⟨N2, hN2⟩ : ∃ y, N1 + 1 = y := ⟨_, rfl⟩
  obtain ⟨N3, hN3⟩ : ∃ y, N2 + 1 = y := ⟨_, rfl⟩
  rw [hN0, hN1, hN2, hN3] at KK
  (try rw [hN0]); (try rw [hN1]); (try rw [hN2]); (try rw [hN3])
  have HO : Hid (w.heap.size = N0 ∧ N0 < N1 ∧ N1 < N2 ∧ N2 < N3) := hid (by omega)
  clear hN0 hN1 hN2 hN3
  have KA := hid KK.out.1
  have KB := hid KK.out.2.1
  have KR := hid KK.out.2.2.1
  have KL := hid KK.out.2.2.2
  clear KK
  go_wp2
  refine wp_loop_rounds 3 ?_
  rw [rounds_succ]
  cases f0 with
  | false =>
    go_wp2
    have KS : Hid (∀ y, Below W.heap.size W y → (fun y => Below W.heap.size W y ∧ y.cell? ⟨N0, 0, none⟩ = some (.slice x0 x1 x2) ∧ y.cell? ⟨N1, 0, none⟩ = some (.slice y0 y1 y2)) y) := hid (fun y hb => ⟨hb, kp_cell (j := 0) (v := .slice x0 x1 x2) (KA.out.step hb) rfl, kp_cell (j := 0) (v := .slice y0 y1 y2) (KB.out.step hb) rfl⟩)
    refine wp_region_noPanic ?_
    refine wp_region_held_drew (S := fun y => Below W.heap.size W y ∧ y.cell? ⟨N0, 0, none⟩ = some (.slice x0 x1 x2) ∧ y.cell? ⟨N1, 0, none⟩ = some (.slice y0 y1 y2)) (by kernel_rfl) (KS.out _ (bdrew (Below.refl _ _))) (fun hHeld => ?_)
    refine wpAnyH_take (i := 0) (v := ?_) (by simp only [List.getElem?_toArray, List.getElem?_cons_succ, List.getElem?_cons_zero]; exact rfl) (by kernel_rfl) (by kernel_rfl) (by kernel_rfl) (fun _ _ _ h => h) (Or.inl ⟨by rfl, ?_⟩) (by assumption) ?_
    rotate_left
    · intro w hSw
      try dsimp only at hSw
      go_simp
      try with_reducible rfl
    try simp only [Act.put, List.setIfInBounds_toArray, List.set_cons_zero, List.set_cons_succ]
    refine wpAnyH_take (i := 1) (v := ?_) (by simp only [List.getElem?_toArray, List.getElem?_cons_succ, List.getElem?_cons_zero]; exact rfl) (by kernel_rfl) (by kernel_rfl) (by kernel_rfl) (fun _ _ _ h => h) (Or.inl ⟨by rfl, ?_⟩) (by assumption) ?_
    rotate_left
    · intro w hSw
      try dsimp only at hSw
      go_simp
      try with_reducible rfl
    try simp only [Act.put, List.setIfInBounds_toArray, List.set_cons_zero, List.set_cons_succ]
    refine wpAnyH_take (i := 2) (v := ?_) (by simp only [List.getElem?_toArray, List.getElem?_cons_succ, List.getElem?_cons_zero]; exact rfl) (by kernel_rfl) (by kernel_rfl) (by kernel_rfl) (fun _ _ _ h => h) (Or.inl ⟨by rfl, ?_⟩) (by assumption) ?_
    rotate_left
    · intro w hSw
      try dsimp only at hSw
      go_simp
      try with_reducible rfl
    try simp only [Act.put, List.setIfInBounds_toArray, List.set_cons_zero, List.set_cons_succ]
    refine wpAnyH_take (i := 3) (v := ?_) (by simp only [List.getElem?_toArray, List.getElem?_cons_succ, List.getElem?_cons_zero]; exact rfl) (by kernel_rfl) (by kernel_rfl) (by kernel_rfl) (fun _ _ _ h => h) (Or.inl ⟨by rfl, ?_⟩) (by assumption) ?_
    rotate_left
    · intro w hSw
      try dsimp only at hSw
      go_simp
      try with_reducible rfl
    try simp only [Act.put, List.setIfInBounds_toArray, List.set_cons_zero, List.set_cons_succ]
    refine wpAnyH_take (i := 4) (v := ?_) (by simp only [List.getElem?_toArray, List.getElem?_cons_succ, List.getElem?_cons_zero]; exact rfl) (by kernel_rfl) (by kernel_rfl) (by kernel_rfl) (fun _ _ _ h => h) (Or.inl ⟨by rfl, ?_⟩) (by assumption) ?_
    rotate_left
    · intro w hSw
      try dsimp only at hSw
      go_simp
      try with_reducible rfl
    try simp only [Act.put, List.setIfInBounds_toArray, List.set_cons_zero, List.set_cons_succ]
    refine wpAnyH_take (i := 5) (v := ?_) (by simp only [List.getElem?_toArray, List.getElem?_cons_succ, List.getElem?_cons_zero]; exact rfl) (by kernel_rfl) (by kernel_rfl) (by kernel_rfl) (fun _ _ _ h => h) (Or.inl ⟨by rfl, ?_⟩) (by assumption) ?_
    rotate_left
    · intro w hSw
      try dsimp only at hSw
      go_simp
      try with_reducible rfl
    try simp only [Act.put, List.setIfInBounds_toArray, List.set_cons_zero, List.set_cons_succ]
    refine wpAnyH_take (i := 6) (v := ?_) (by simp only [List.getElem?_toArray, List.getElem?_cons_succ, List.getElem?_cons_zero]; exact rfl) (by kernel_rfl) (by kernel_rfl) (by kernel_rfl) (fun _ _ _ h => h) (Or.inl ⟨by rfl, ?_⟩) (by assumption) ?_
    rotate_left
    · intro w hSw
      try dsimp only at hSw
      go_simp
      try with_reducible rfl
    try simp only [Act.put, List.setIfInBounds_toArray, List.set_cons_zero, List.set_cons_succ]
    refine wpAnyH_ready (rs := [7]) (by kernel_rfl) (by simp) ?_
    refine AllReadyH.cons (by simp only [List.getElem?_toArray, List.getElem?_cons_succ, List.getElem?_cons_zero]; exact rfl) (fun K hK => ?_) AllReadyH.nil
    go_simp
    go_at_call 91; refine (minus_n _ _ _ _ _ _ t0 l0 u0 L0 false _ (HX.out.1.below (bt KA.out.1 hHeld.1)) (HY.out.1.below (bt KA.out.1 hHeld.1)) HKX.out.1 HKY.out.1 (by have := HP.out; omega) (by have := HP.out; omega) FL0 FF0 FT0).mono ?_; rintro e z0 ⟨⟨A0, c0, rfl, hr0, hf0⟩, hbz0⟩
    have FA0 := hid (far_up hf0 (heap_lt (keep_blk KL.out.2.2 hHeld.1)))
    have FW0 := hid (far_low hf0 (bt KL.out.1 hHeld.1).size)
    have R0 := hid hr0
    clear hr0 hf0
    refine hK.out _ _ (KS.out _ (bt hHeld.1 hbz0)) (fun hHeld2 => ?_)
    clear hK K hHeld
    have hHeld := hHeld2
    clear hHeld2
    try simp only [Act.put, List.setIfInBounds_toArray, List.set_cons_zero, List.set_cons_succ]
    refine wpAnyH_take (i := 8) (v := ?_) (by simp only [List.getElem?_toArray, List.getElem?_cons_succ, List.getElem?_cons_zero]; exact rfl) (by kernel_rfl) (by kernel_rfl) (by kernel_rfl) (fun _ _ _ h => h) (Or.inl ⟨by rfl, ?_⟩) (by assumption) ?_
    rotate_left
    · intro w hSw
      try dsimp only at hSw
      go_simp
      try with_reducible rfl
    try simp only [Act.put, List.setIfInBounds_toArray, List.set_cons_zero, List.set_cons_succ]
    refine wpAnyH_take (i := 9) (v := ?_) (by simp only [List.getElem?_toArray, List.getElem?_cons_succ, List.getElem?_cons_zero]; exact rfl) (by kernel_rfl) (by kernel_rfl) (by kernel_rfl) (fun _ _ _ h => h) (Or.inl ⟨by rfl, ?_⟩) (by assumption) ?_
    rotate_left
    · intro w hSw
      try dsimp only at hSw
      go_simp
      try with_reducible rfl
    try simp only [Act.put, List.setIfInBounds_toArray, List.set_cons_zero, List.set_cons_succ]
    refine wpAnyH_take (i := 11) (v := ?_) (by simp only [List.getElem?_toArray, List.getElem?_cons_succ, List.getElem?_cons_zero]; exact rfl) (by kernel_rfl) (by kernel_rfl) (by kernel_rfl) (fun _ _ _ h => h) (Or.inl ⟨by rfl, ?_⟩) (by assumption) ?_
    rotate_left
    · intro w hSw
      try dsimp only at hSw
      go_simp
      try with_reducible rfl
    try simp only [Act.put, List.setIfInBounds_toArray, List.set_cons_zero, List.set_cons_succ]
    refine wpAnyH_take (i := 10) (v := ?_) (by simp only [List.getElem?_toArray, List.getElem?_cons_succ, List.getElem?_cons_zero]; exact rfl) (by kernel_rfl) (by kernel_rfl) (by kernel_rfl) (fun _ _ _ h => h) (Or.inl ⟨by rfl, ?_⟩) (by assumption) ?_
    rotate_left
    · intro w hSw
      try dsimp only at hSw
      go_simp
      try with_reducible rfl
    try simp only [Act.put, List.setIfInBounds_toArray, List.set_cons_zero, List.set_cons_succ]
    refine wpAnyH_take (i := 12) (v := ?_) (by simp only [List.getElem?_toArray, List.getElem?_cons_succ, List.getElem?_cons_zero]; exact rfl) (by kernel_rfl) (by kernel_rfl) (by kernel_rfl) (fun _ _ _ h => h) (Or.inl ⟨by rfl, ?_⟩) (by assumption) ?_
    rotate_left
    · intro w hSw
      try dsimp only at hSw
      go_simp
      try with_reducible rfl
    try simp only [Act.put, List.setIfInBounds_toArray, List.set_cons_zero, List.set_cons_succ]
    refine wpAnyH_done (by kernel_rfl) ?_ _
    refine NoPanic.normal ?_
    replace KR := hid (KR.out.step hHeld.1)
    clear hHeld KS hbz0 R0
    go_wp2_with (refine wpList_store_whole rfl 24 (.tmp 6) (.tmp 28) rfl N2 (asC none 0 0 none 0 0) rfl rfl 24 _ KR.out.2.2 rfl (by show _ = some 2; exact size_as) (asC_one _ _ _ _ _ _) ?_; intro w9 hp9 hg9; have KR9 := hid (kp_at KR.out hg9 hp9); clear hp9 hg9)
    (try simp only [Exit.inBlock, Exit.then])
    show bodyPost Try.prog Try.f83 _ _ _ _
    refine bodyPost_ret (results_cell_slot (p := 6) (u := 7) rfl _ _ N2 _ (asC none 0 0 none 0 0) (0, 0) _ (.bool false) rfl rfl KR9.out.2.2 Try.underlying24 rfl (by kernel_rfl)) rfl ?_
    have hv2 := hv.out
    rw [FF0.out] at hv2
    subst hv2
    have e0 := h0.out
    have e1 := h1.out
    subst e0
    subst e1
    rw [← h2.out, ← h3.out]
    exact ⟨⟨none, 0, none, 0, rfl, ⟨nrun_nil _, nrun_nil _⟩, far_nil _, far_nil _⟩, KR9.out.1⟩
  | true =>
    go_wp2
    have KS : Hid (∀ y, Below W.heap.size W y → (fun y => Below W.heap.size W y ∧ y.cell? ⟨N0, 0, none⟩ = some (.slice x0 x1 x2) ∧ y.cell? ⟨N1, 0, none⟩ = some (.slice y0 y1 y2)) y) := hid (fun y hb => ⟨hb, kp_cell (j := 0) (v := .slice x0 x1 x2) (KA.out.step hb) rfl, kp_cell (j := 0) (v := .slice y0 y1 y2) (KB.out.step hb) rfl⟩)
    refine wp_region_noPanic ?_
    refine wp_region_held_drew (S := fun y => Below W.heap.size W y ∧ y.cell? ⟨N0, 0, none⟩ = some (.slice x0 x1 x2) ∧ y.cell? ⟨N1, 0, none⟩ = some (.slice y0 y1 y2)) (by kernel_rfl) (KS.out _ (bdrew (Below.refl _ _))) (fun hHeld => ?_)
    refine wpAnyH_take (i := 0) (v := ?_) (by simp only [List.getElem?_toArray, List.getElem?_cons_succ, List.getElem?_cons_zero]; exact rfl) (by kernel_rfl) (by kernel_rfl) (by kernel_rfl) (fun _ _ _ h => h) (Or.inl ⟨by rfl, ?_⟩) (by assumption) ?_
    rotate_left
    · intro w hSw
      try dsimp only at hSw
      go_simp
      try with_reducible rfl
    try simp only [Act.put, List.setIfInBounds_toArray, List.set_cons_zero, List.set_cons_succ]
    refine wpAnyH_take (i := 1) (v := ?_) (by simp only [List.getElem?_toArray, List.getElem?_cons_succ, List.getElem?_cons_zero]; exact rfl) (by kernel_rfl) (by kernel_rfl) (by kernel_rfl) (fun _ _ _ h => h) (Or.inl ⟨by rfl, ?_⟩) (by assumption) ?_
    rotate_left
    · intro w hSw
      try dsimp only at hSw
      go_simp
      try with_reducible rfl
    try simp only [Act.put, List.setIfInBounds_toArray, List.set_cons_zero, List.set_cons_succ]
    refine wpAnyH_take (i := 2) (v := ?_) (by simp only [List.getElem?_toArray, List.getElem?_cons_succ, List.getElem?_cons_zero]; exact rfl) (by kernel_rfl) (by kernel_rfl) (by kernel_rfl) (fun _ _ _ h => h) (Or.inl ⟨by rfl, ?_⟩) (by assumption) ?_
    rotate_left
    · intro w hSw
      try dsimp only at hSw
      go_simp
      try with_reducible rfl
    try simp only [Act.put, List.setIfInBounds_toArray, List.set_cons_zero, List.set_cons_succ]
    refine wpAnyH_take (i := 3) (v := ?_) (by simp only [List.getElem?_toArray, List.getElem?_cons_succ, List.getElem?_cons_zero]; exact rfl) (by kernel_rfl) (by kernel_rfl) (by kernel_rfl) (fun _ _ _ h => h) (Or.inl ⟨by rfl, ?_⟩) (by assumption) ?_
    rotate_left
    · intro w hSw
      try dsimp only at hSw
      go_simp
      try with_reducible rfl
    try simp only [Act.put, List.setIfInBounds_toArray, List.set_cons_zero, List.set_cons_succ]
    refine wpAnyH_take (i := 4) (v := ?_) (by simp only [List.getElem?_toArray, List.getElem?_cons_succ, List.getElem?_cons_zero]; exact rfl) (by kernel_rfl) (by kernel_rfl) (by kernel_rfl) (fun _ _ _ h => h) (Or.inl ⟨by rfl, ?_⟩) (by assumption) ?_
    rotate_left
    · intro w hSw
      try dsimp only at hSw
      go_simp
      try with_reducible rfl
    try simp only [Act.put, List.setIfInBounds_toArray, List.set_cons_zero, List.set_cons_succ]
    refine wpAnyH_take (i := 5) (v := ?_) (by simp only [List.getElem?_toArray, List.getElem?_cons_succ, List.getElem?_cons_zero]; exact rfl) (by kernel_rfl) (by kernel_rfl) (by kernel_rfl) (fun _ _ _ h => h) (Or.inl ⟨by rfl, ?_⟩) (by assumption) ?_
    rotate_left
    · intro w hSw
      try dsimp only at hSw
      go_simp
      try with_reducible rfl
    try simp only [Act.put, List.setIfInBounds_toArray, List.set_cons_zero, List.set_cons_succ]
    refine wpAnyH_take (i := 6) (v := ?_) (by simp only [List.getElem?_toArray, List.getElem?_cons_succ, List.getElem?_cons_zero]; exact rfl) (by kernel_rfl) (by kernel_rfl) (by kernel_rfl) (fun _ _ _ h => h) (Or.inl ⟨by rfl, ?_⟩) (by assumption) ?_
    rotate_left
    · intro w hSw
      try dsimp only at hSw
      go_simp
      try with_reducible rfl
    try simp only [Act.put, List.setIfInBounds_toArray, List.set_cons_zero, List.set_cons_succ]
    refine wpAnyH_ready (rs := [7]) (by kernel_rfl) (by simp) ?_
    refine AllReadyH.cons (by simp only [List.getElem?_toArray, List.getElem?_cons_succ, List.getElem?_cons_zero]; exact rfl) (fun K hK => ?_) AllReadyH.nil
    go_simp
    go_at_call 91; refine (minus_n _ _ _ _ _ _ t0 l0 u0 L0 true _ (HX.out.1.below (bt KA.out.1 hHeld.1)) (HY.out.1.below (bt KA.out.1 hHeld.1)) HKX.out.1 HKY.out.1 (by have := HP.out; omega) (by have := HP.out; omega) FL0 FF0 FT0).mono ?_; rintro e z0 ⟨⟨A0, c0, rfl, hr0, hf0⟩, hbz0⟩
    have FA0 := hid (far_up hf0 (heap_lt (keep_blk KL.out.2.2 hHeld.1)))
    have FW0 := hid (far_low hf0 (bt KL.out.1 hHeld.1).size)
    have R0 := hid hr0
    clear hr0 hf0
    refine hK.out _ _ (KS.out _ (bt hHeld.1 hbz0)) (fun hHeld2 => ?_)
    clear hK K hHeld
    have hHeld := hHeld2
    clear hHeld2
    try simp only [Act.put, List.setIfInBounds_toArray, List.set_cons_zero, List.set_cons_succ]
    refine wpAnyH_take (i := 8) (v := ?_) (by simp only [List.getElem?_toArray, List.getElem?_cons_succ, List.getElem?_cons_zero]; exact rfl) (by kernel_rfl) (by kernel_rfl) (by kernel_rfl) (fun _ _ _ h => h) (Or.inl ⟨by rfl, ?_⟩) (by assumption) ?_
    rotate_left
    · intro w hSw
      try dsimp only at hSw
      go_simp
      try with_reducible rfl
    try simp only [Act.put, List.setIfInBounds_toArray, List.set_cons_zero, List.set_cons_succ]
    refine wpAnyH_take (i := 9) (v := ?_) (by simp only [List.getElem?_toArray, List.getElem?_cons_succ, List.getElem?_cons_zero]; exact rfl) (by kernel_rfl) (by kernel_rfl) (by kernel_rfl) (fun _ _ _ h => h) (Or.inl ⟨by rfl, ?_⟩) (by assumption) ?_
    rotate_left
    · intro w hSw
      try dsimp only at hSw
      go_simp
      try with_reducible rfl
    try simp only [Act.put, List.setIfInBounds_toArray, List.set_cons_zero, List.set_cons_succ]
    refine wpAnyH_take (i := 11) (v := ?_) (by simp only [List.getElem?_toArray, List.getElem?_cons_succ, List.getElem?_cons_zero]; exact rfl) (by kernel_rfl) (by kernel_rfl) (by kernel_rfl) (fun _ _ _ h => h) (Or.inl ⟨by rfl, ?_⟩) (by assumption) ?_
    rotate_left
    · intro w hSw
      try dsimp only at hSw
      go_simp
      try with_reducible rfl
    try simp only [Act.put, List.setIfInBounds_toArray, List.set_cons_zero, List.set_cons_succ]
    refine wpAnyH_take (i := 10) (v := ?_) (by simp only [List.getElem?_toArray, List.getElem?_cons_succ, List.getElem?_cons_zero]; exact rfl) (by kernel_rfl) (by kernel_rfl) (by kernel_rfl) (fun _ _ _ h => h) (Or.inl ⟨by rfl, ?_⟩) (by assumption) ?_
    rotate_left
    · intro w hSw
      try dsimp only at hSw
      go_simp
      try with_reducible rfl
    try simp only [Act.put, List.setIfInBounds_toArray, List.set_cons_zero, List.set_cons_succ]
    refine wpAnyH_take (i := 12) (v := ?_) (by simp only [List.getElem?_toArray, List.getElem?_cons_succ, List.getElem?_cons_zero]; exact rfl) (by kernel_rfl) (by kernel_rfl) (by kernel_rfl) (fun _ _ _ h => h) (Or.inl ⟨by rfl, ?_⟩) (by assumption) ?_
    rotate_left
    · intro w hSw
      try dsimp only at hSw
      go_simp
      try with_reducible rfl
    try simp only [Act.put, List.setIfInBounds_toArray, List.set_cons_zero, List.set_cons_succ]
    refine wpAnyH_done (by kernel_rfl) ?_ _
    refine NoPanic.normal ?_
    replace KA := hid (KA.out.step hHeld.1)
    replace KB := hid (KB.out.step hHeld.1)
    replace KR := hid (KR.out.step hHeld.1)
    replace KL := hid (KL.out.step hHeld.1)
    clear hHeld KS hbz0
    have fz0 := kp_froz KL.out 0
    have cz0 := kp_cell (j := 0) (v := .slice none 0 0) KL.out rfl
    go_wp2
    have KL1 : Hid (Kp w (z0.setCell ⟨N3, 0, none⟩ (.slice A0 t0 c0)) N3 (.cells #[.slice A0 t0 c0, .slice none 0 0] 24)) := hid (kp_set (j := 0) (v := .slice A0 t0 c0) KL.out)
    replace KA := hid (kp_other (j := 0) (v := .slice A0 t0 c0) (M := N3) KA.out (by have := HO.out; omega) (by have := HO.out; omega))
    replace KB := hid (kp_other (j := 0) (v := .slice A0 t0 c0) (M := N3) KB.out (by have := HO.out; omega) (by have := HO.out; omega))
    replace KR := hid (kp_other (j := 0) (v := .slice A0 t0 c0) (M := N3) KR.out (by have := HO.out; omega) (by have := HO.out; omega))
    replace R0 := hid (R0.out.grown (set_grown z0 N3 0 (.slice A0 t0 c0)) (fun b off e => by have := FA0.out b off e; have := HO.out; omega))
    clear KL fz0 cz0
    generalize z0.setCell ⟨N3, 0, none⟩ (.slice A0 t0 c0) = X1 at KL1 KA KB KR R0 ⊢
    have KL := KL1
    clear KL1
    rw [rounds_succ]
    cases f1 with
    | false =>
      go_wp2
      have KS : Hid (∀ y, Below X1.heap.size X1 y → (fun y => Below X1.heap.size X1 y ∧ y.cell? ⟨N0, 1, none⟩ = some (.slice x3 x4 x5) ∧ y.cell? ⟨N1, 1, none⟩ = some (.slice y3 y4 y5)) y) := hid (fun y hb => ⟨hb, kp_cell (j := 1) (v := .slice x3 x4 x5) (KA.out.step hb) rfl, kp_cell (j := 1) (v := .slice y3 y4 y5) (KB.out.step hb) rfl⟩)
      refine wp_region_noPanic ?_
      refine wp_region_held_drew (S := fun y => Below X1.heap.size X1 y ∧ y.cell? ⟨N0, 1, none⟩ = some (.slice x3 x4 x5) ∧ y.cell? ⟨N1, 1, none⟩ = some (.slice y3 y4 y5)) (by kernel_rfl) (KS.out _ (bdrew (Below.refl _ _))) (fun hHeld => ?_)
      refine wpAnyH_take (i := 0) (v := ?_) (by simp only [List.getElem?_toArray, List.getElem?_cons_succ, List.getElem?_cons_zero]; exact rfl) (by kernel_rfl) (by kernel_rfl) (by kernel_rfl) (fun _ _ _ h => h) (Or.inl ⟨by rfl, ?_⟩) (by assumption) ?_
      rotate_left
      · intro w hSw
        try dsimp only at hSw
        go_simp
        try with_reducible rfl
      try simp only [Act.put, List.setIfInBounds_toArray, List.set_cons_zero, List.set_cons_succ]
      refine wpAnyH_take (i := 1) (v := ?_) (by simp only [List.getElem?_toArray, List.getElem?_cons_succ, List.getElem?_cons_zero]; exact rfl) (by kernel_rfl) (by kernel_rfl) (by kernel_rfl) (fun _ _ _ h => h) (Or.inl ⟨by rfl, ?_⟩) (by assumption) ?_
      rotate_left
      · intro w hSw
        try dsimp only at hSw
        go_simp
        try with_reducible rfl
      try simp only [Act.put, List.setIfInBounds_toArray, List.set_cons_zero, List.set_cons_succ]
      refine wpAnyH_take (i := 2) (v := ?_) (by simp only [List.getElem?_toArray, List.getElem?_cons_succ, List.getElem?_cons_zero]; exact rfl) (by kernel_rfl) (by kernel_rfl) (by kernel_rfl) (fun _ _ _ h => h) (Or.inl ⟨by rfl, ?_⟩) (by assumption) ?_
      rotate_left
      · intro w hSw
        try dsimp only at hSw
        go_simp
        try with_reducible rfl
      try simp only [Act.put, List.setIfInBounds_toArray, List.set_cons_zero, List.set_cons_succ]
      refine wpAnyH_take (i := 3) (v := ?_) (by simp only [List.getElem?_toArray, List.getElem?_cons_succ, List.getElem?_cons_zero]; exact rfl) (by kernel_rfl) (by kernel_rfl) (by kernel_rfl) (fun _ _ _ h => h) (Or.inl ⟨by rfl, ?_⟩) (by assumption) ?_
      rotate_left
      · intro w hSw
        try dsimp only at hSw
        go_simp
        try with_reducible rfl
      try simp only [Act.put, List.setIfInBounds_toArray, List.set_cons_zero, List.set_cons_succ]
      refine wpAnyH_take (i := 4) (v := ?_) (by simp only [List.getElem?_toArray, List.getElem?_cons_succ, List.getElem?_cons_zero]; exact rfl) (by kernel_rfl) (by kernel_rfl) (by kernel_rfl) (fun _ _ _ h => h) (Or.inl ⟨by rfl, ?_⟩) (by assumption) ?_
      rotate_left
      · intro w hSw
        try dsimp only at hSw
        go_simp
        try with_reducible rfl
      try simp only [Act.put, List.setIfInBounds_toArray, List.set_cons_zero, List.set_cons_succ]
      refine wpAnyH_take (i := 5) (v := ?_) (by simp only [List.getElem?_toArray, List.getElem?_cons_succ, List.getElem?_cons_zero]; exact rfl) (by kernel_rfl) (by kernel_rfl) (by kernel_rfl) (fun _ _ _ h => h) (Or.inl ⟨by rfl, ?_⟩) (by assumption) ?_
      rotate_left
      · intro w hSw
        try dsimp only at hSw
        go_simp
        try with_reducible rfl
      try simp only [Act.put, List.setIfInBounds_toArray, List.set_cons_zero, List.set_cons_succ]
      refine wpAnyH_take (i := 6) (v := ?_) (by simp only [List.getElem?_toArray, List.getElem?_cons_succ, List.getElem?_cons_zero]; exact rfl) (by kernel_rfl) (by kernel_rfl) (by kernel_rfl) (fun _ _ _ h => h) (Or.inl ⟨by rfl, ?_⟩) (by assumption) ?_
      rotate_left
      · intro w hSw
        try dsimp only at hSw
        go_simp
        try with_reducible rfl
      try simp only [Act.put, List.setIfInBounds_toArray, List.set_cons_zero, List.set_cons_succ]
      refine wpAnyH_ready (rs := [7]) (by kernel_rfl) (by simp) ?_
      refine AllReadyH.cons (by simp only [List.getElem?_toArray, List.getElem?_cons_succ, List.getElem?_cons_zero]; exact rfl) (fun K hK => ?_) AllReadyH.nil
      go_simp
      go_at_call 91; refine (minus_n _ _ _ _ _ _ t1 l1 u1 L1 false _ (HX.out.2.below (bt KA.out.1 hHeld.1)) (HY.out.2.below (bt KA.out.1 hHeld.1)) HKX.out.2 HKY.out.2 (by have := HP.out; omega) (by have := HP.out; omega) FL1 FF1 FT1).mono ?_; rintro e z1 ⟨⟨A1, c1, rfl, hr1, hf1⟩, hbz1⟩
      have FA1 := hid (far_up hf1 (heap_lt (keep_blk KL.out.2.2 hHeld.1)))
      have FW1 := hid (far_low hf1 (bt KL.out.1 hHeld.1).size)
      have R1 := hid hr1
      clear hr1 hf1
      refine hK.out _ _ (KS.out _ (bt hHeld.1 hbz1)) (fun hHeld2 => ?_)
      clear hK K hHeld
      have hHeld := hHeld2
      clear hHeld2
      try simp only [Act.put, List.setIfInBounds_toArray, List.set_cons_zero, List.set_cons_succ]
      refine wpAnyH_take (i := 8) (v := ?_) (by simp only [List.getElem?_toArray, List.getElem?_cons_succ, List.getElem?_cons_zero]; exact rfl) (by kernel_rfl) (by kernel_rfl) (by kernel_rfl) (fun _ _ _ h => h) (Or.inl ⟨by rfl, ?_⟩) (by assumption) ?_
      rotate_left
      · intro w hSw
        try dsimp only at hSw
        go_simp
        try with_reducible rfl
      try simp only [Act.put, List.setIfInBounds_toArray, List.set_cons_zero, List.set_cons_succ]
      refine wpAnyH_take (i := 9) (v := ?_) (by simp only [List.getElem?_toArray, List.getElem?_cons_succ, List.getElem?_cons_zero]; exact rfl) (by kernel_rfl) (by kernel_rfl) (by kernel_rfl) (fun _ _ _ h => h) (Or.inl ⟨by rfl, ?_⟩) (by assumption) ?_
      rotate_left
      · intro w hSw
        try dsimp only at hSw
        go_simp
        try with_reducible rfl
      try simp only [Act.put, List.setIfInBounds_toArray, List.set_cons_zero, List.set_cons_succ]
      refine wpAnyH_take (i := 11) (v := ?_) (by simp only [List.getElem?_toArray, List.getElem?_cons_succ, List.getElem?_cons_zero]; exact rfl) (by kernel_rfl) (by kernel_rfl) (by kernel_rfl) (fun _ _ _ h => h) (Or.inl ⟨by rfl, ?_⟩) (by assumption) ?_
      rotate_left
      · intro w hSw
        try dsimp only at hSw
        go_simp
        try with_reducible rfl
      try simp only [Act.put, List.setIfInBounds_toArray, List.set_cons_zero, List.set_cons_succ]
      refine wpAnyH_take (i := 10) (v := ?_) (by simp only [List.getElem?_toArray, List.getElem?_cons_succ, List.getElem?_cons_zero]; exact rfl) (by kernel_rfl) (by kernel_rfl) (by kernel_rfl) (fun _ _ _ h => h) (Or.inl ⟨by rfl, ?_⟩) (by assumption) ?_
      rotate_left
      · intro w hSw
        try dsimp only at hSw
        go_simp
        try with_reducible rfl
      try simp only [Act.put, List.setIfInBounds_toArray, List.set_cons_zero, List.set_cons_succ]
      refine wpAnyH_take (i := 12) (v := ?_) (by simp only [List.getElem?_toArray, List.getElem?_cons_succ, List.getElem?_cons_zero]; exact rfl) (by kernel_rfl) (by kernel_rfl) (by kernel_rfl) (fun _ _ _ h => h) (Or.inl ⟨by rfl, ?_⟩) (by assumption) ?_
      rotate_left
      · intro w hSw
        try dsimp only at hSw
        go_simp
        try with_reducible rfl
      try simp only [Act.put, List.setIfInBounds_toArray, List.set_cons_zero, List.set_cons_succ]
      refine wpAnyH_done (by kernel_rfl) ?_ _
      refine NoPanic.normal ?_
      replace KR := hid (KR.out.step hHeld.1)
      clear hHeld KS hbz1 R0 R1
      go_wp2_with (refine wpList_store_whole rfl 24 (.tmp 6) (.tmp 28) rfl N2 (asC none 0 0 none 0 0) rfl rfl 24 _ KR.out.2.2 rfl (by show _ = some 2; exact size_as) (asC_one _ _ _ _ _ _) ?_; intro w9 hp9 hg9; have KR9 := hid (kp_at KR.out hg9 hp9); clear hp9 hg9)
      (try simp only [Exit.inBlock, Exit.then])
      show bodyPost Try.prog Try.f83 _ _ _ _
      refine bodyPost_ret (results_cell_slot (p := 6) (u := 7) rfl _ _ N2 _ (asC none 0 0 none 0 0) (0, 0) _ (.bool false) rfl rfl KR9.out.2.2 Try.underlying24 rfl (by kernel_rfl)) rfl ?_
      have hv2 := hv.out
      rw [FF0.out, FF1.out] at hv2
      subst hv2
      have e0 := h0.out
      have e1 := h1.out
      subst e0
      subst e1
      rw [← h2.out, ← h3.out]
      exact ⟨⟨none, 0, none, 0, rfl, ⟨nrun_nil _, nrun_nil _⟩, far_nil _, far_nil _⟩, KR9.out.1⟩
    | true =>
      go_wp2
      have KS : Hid (∀ y, Below X1.heap.size X1 y → (fun y => Below X1.heap.size X1 y ∧ y.cell? ⟨N0, 1, none⟩ = some (.slice x3 x4 x5) ∧ y.cell? ⟨N1, 1, none⟩ = some (.slice y3 y4 y5)) y) := hid (fun y hb => ⟨hb, kp_cell (j := 1) (v := .slice x3 x4 x5) (KA.out.step hb) rfl, kp_cell (j := 1) (v := .slice y3 y4 y5) (KB.out.step hb) rfl⟩)
      refine wp_region_noPanic ?_
      refine wp_region_held_drew (S := fun y => Below X1.heap.size X1 y ∧ y.cell? ⟨N0, 1, none⟩ = some (.slice x3 x4 x5) ∧ y.cell? ⟨N1, 1, none⟩ = some (.slice y3 y4 y5)) (by kernel_rfl) (KS.out _ (bdrew (Below.refl _ _))) (fun hHeld => ?_)
      refine wpAnyH_take (i := 0) (v := ?_) (by simp only [List.getElem?_toArray, List.getElem?_cons_succ, List.getElem?_cons_zero]; exact rfl) (by kernel_rfl) (by kernel_rfl) (by kernel_rfl) (fun _ _ _ h => h) (Or.inl ⟨by rfl, ?_⟩) (by assumption) ?_
      rotate_left
      · intro w hSw
        try dsimp only at hSw
        go_simp
        try with_reducible rfl
      try simp only [Act.put, List.setIfInBounds_toArray, List.set_cons_zero, List.set_cons_succ]
      refine wpAnyH_take (i := 1) (v := ?_) (by simp only [List.getElem?_toArray, List.getElem?_cons_succ, List.getElem?_cons_zero]; exact rfl) (by kernel_rfl) (by kernel_rfl) (by kernel_rfl) (fun _ _ _ h => h) (Or.inl ⟨by rfl, ?_⟩) (by assumption) ?_
      rotate_left
      · intro w hSw
        try dsimp only at hSw
        go_simp
        try with_reducible rfl
      try simp only [Act.put, List.setIfInBounds_toArray, List.set_cons_zero, List.set_cons_succ]
      refine wpAnyH_take (i := 2) (v := ?_) (by simp only [List.getElem?_toArray, List.getElem?_cons_succ, List.getElem?_cons_zero]; exact rfl) (by kernel_rfl) (by kernel_rfl) (by kernel_rfl) (fun _ _ _ h => h) (Or.inl ⟨by rfl, ?_⟩) (by assumption) ?_
      rotate_left
      · intro w hSw
        try dsimp only at hSw
        go_simp
        try with_reducible rfl
      try simp only [Act.put, List.setIfInBounds_toArray, List.set_cons_zero, List.set_cons_succ]
      refine wpAnyH_take (i := 3) (v := ?_) (by simp only [List.getElem?_toArray, List.getElem?_cons_succ, List.getElem?_cons_zero]; exact rfl) (by kernel_rfl) (by kernel_rfl) (by kernel_rfl) (fun _ _ _ h => h) (Or.inl ⟨by rfl, ?_⟩) (by assumption) ?_
      rotate_left
      · intro w hSw
        try dsimp only at hSw
        go_simp
        try with_reducible rfl
      try simp only [Act.put, List.setIfInBounds_toArray, List.set_cons_zero, List.set_cons_succ]
      refine wpAnyH_take (i := 4) (v := ?_) (by simp only [List.getElem?_toArray, List.getElem?_cons_succ, List.getElem?_cons_zero]; exact rfl) (by kernel_rfl) (by kernel_rfl) (by kernel_rfl) (fun _ _ _ h => h) (Or.inl ⟨by rfl, ?_⟩) (by assumption) ?_
      rotate_left
      · intro w hSw
        try dsimp only at hSw
        go_simp
        try with_reducible rfl
      try simp only [Act.put, List.setIfInBounds_toArray, List.set_cons_zero, List.set_cons_succ]
      refine wpAnyH_take (i := 5) (v := ?_) (by simp only [List.getElem?_toArray, List.getElem?_cons_succ, List.getElem?_cons_zero]; exact rfl) (by kernel_rfl) (by kernel_rfl) (by kernel_rfl) (fun _ _ _ h => h) (Or.inl ⟨by rfl, ?_⟩) (by assumption) ?_
      rotate_left
      · intro w hSw
        try dsimp only at hSw
        go_simp
        try with_reducible rfl
      try simp only [Act.put, List.setIfInBounds_toArray, List.set_cons_zero, List.set_cons_succ]
      refine wpAnyH_take (i := 6) (v := ?_) (by simp only [List.getElem?_toArray, List.getElem?_cons_succ, List.getElem?_cons_zero]; exact rfl) (by kernel_rfl) (by kernel_rfl) (by kernel_rfl) (fun _ _ _ h => h) (Or.inl ⟨by rfl, ?_⟩) (by assumption) ?_
      rotate_left
      · intro w hSw
        try dsimp only at hSw
        go_simp
        try with_reducible rfl
      try simp only [Act.put, List.setIfInBounds_toArray, List.set_cons_zero, List.set_cons_succ]
      refine wpAnyH_ready (rs := [7]) (by kernel_rfl) (by simp) ?_
      refine AllReadyH.cons (by simp only [List.getElem?_toArray, List.getElem?_cons_succ, List.getElem?_cons_zero]; exact rfl) (fun K hK => ?_) AllReadyH.nil
      go_simp
      go_at_call 91; refine (minus_n _ _ _ _ _ _ t1 l1 u1 L1 true _ (HX.out.2.below (bt KA.out.1 hHeld.1)) (HY.out.2.below (bt KA.out.1 hHeld.1)) HKX.out.2 HKY.out.2 (by have := HP.out; omega) (by have := HP.out; omega) FL1 FF1 FT1).mono ?_; rintro e z1 ⟨⟨A1, c1, rfl, hr1, hf1⟩, hbz1⟩
      have FA1 := hid (far_up hf1 (heap_lt (keep_blk KL.out.2.2 hHeld.1)))
      have FW1 := hid (far_low hf1 (bt KL.out.1 hHeld.1).size)
      have R1 := hid hr1
      clear hr1 hf1
      refine hK.out _ _ (KS.out _ (bt hHeld.1 hbz1)) (fun hHeld2 => ?_)
      clear hK K hHeld
      have hHeld := hHeld2
      clear hHeld2
      try simp only [Act.put, List.setIfInBounds_toArray, List.set_cons_zero, List.set_cons_succ]
      refine wpAnyH_take (i := 8) (v := ?_) (by simp only [List.getElem?_toArray, List.getElem?_cons_succ, List.getElem?_cons_zero]; exact rfl) (by kernel_rfl) (by kernel_rfl) (by kernel_rfl) (fun _ _ _ h => h) (Or.inl ⟨by rfl, ?_⟩) (by assumption) ?_
      rotate_left
      · intro w hSw
        try dsimp only at hSw
        go_simp
        try with_reducible rfl
      try simp only [Act.put, List.setIfInBounds_toArray, List.set_cons_zero, List.set_cons_succ]
      refine wpAnyH_take (i := 9) (v := ?_) (by simp only [List.getElem?_toArray, List.getElem?_cons_succ, List.getElem?_cons_zero]; exact rfl) (by kernel_rfl) (by kernel_rfl) (by kernel_rfl) (fun _ _ _ h => h) (Or.inl ⟨by rfl, ?_⟩) (by assumption) ?_
      rotate_left
      · intro w hSw
        try dsimp only at hSw
        go_simp
        try with_reducible rfl
      try simp only [Act.put, List.setIfInBounds_toArray, List.set_cons_zero, List.set_cons_succ]
      refine wpAnyH_take (i := 11) (v := ?_) (by simp only [List.getElem?_toArray, List.getElem?_cons_succ, List.getElem?_cons_zero]; exact rfl) (by kernel_rfl) (by kernel_rfl) (by kernel_rfl) (fun _ _ _ h => h) (Or.inl ⟨by rfl, ?_⟩) (by assumption) ?_
      rotate_left
      · intro w hSw
        try dsimp only at hSw
        go_simp
        try with_reducible rfl
      try simp only [Act.put, List.setIfInBounds_toArray, List.set_cons_zero, List.set_cons_succ]
      refine wpAnyH_take (i := 10) (v := ?_) (by simp only [List.getElem?_toArray, List.getElem?_cons_succ, List.getElem?_cons_zero]; exact rfl) (by kernel_rfl) (by kernel_rfl) (by kernel_rfl) (fun _ _ _ h => h) (Or.inl ⟨by rfl, ?_⟩) (by assumption) ?_
      rotate_left
      · intro w hSw
        try dsimp only at hSw
        go_simp
        try with_reducible rfl
      try simp only [Act.put, List.setIfInBounds_toArray, List.set_cons_zero, List.set_cons_succ]
      refine wpAnyH_take (i := 12) (v := ?_) (by simp only [List.getElem?_toArray, List.getElem?_cons_succ, List.getElem?_cons_zero]; exact rfl) (by kernel_rfl) (by kernel_rfl) (by kernel_rfl) (fun _ _ _ h => h) (Or.inl ⟨by rfl, ?_⟩) (by assumption) ?_
      rotate_left
      · intro w hSw
        try dsimp only at hSw
        go_simp
        try with_reducible rfl
      try simp only [Act.put, List.setIfInBounds_toArray, List.set_cons_zero, List.set_cons_succ]
      refine wpAnyH_done (by kernel_rfl) ?_ _
      refine NoPanic.normal ?_
      replace KR := hid (KR.out.step hHeld.1)
      replace KL := hid (KL.out.step hHeld.1)
      replace R0 := hid (R0.out.below hHeld.1)
      clear hHeld KS hbz1
      have fz1 := kp_froz KL.out 1
      have cz1 := kp_cell (j := 1) (v := .slice none 0 0) KL.out rfl
      go_wp2
      have KL2 : Hid (Kp w (z1.setCell ⟨N3, 1, none⟩ (.slice A1 t1 c1)) N3 (.cells #[.slice A0 t0 c0, .slice A1 t1 c1] 24)) := hid (kp_set (j := 1) (v := .slice A1 t1 c1) KL.out)
      replace KR := hid (kp_other (j := 1) (v := .slice A1 t1 c1) (M := N3) KR.out (by have := HO.out; omega) (by have := HO.out; omega))
      replace R0 := hid (R0.out.grown (set_grown z1 N3 1 (.slice A1 t1 c1)) (fun b off e => by have := FA0.out b off e; have := HO.out; omega))
      replace R1 := hid (R1.out.grown (set_grown z1 N3 1 (.slice A1 t1 c1)) (fun b off e => by have := FA1.out b off e; have := HO.out; omega))
      clear KL fz1 cz1
      generalize z1.setCell ⟨N3, 1, none⟩ (.slice A1 t1 c1) = X2 at KL2 KR R0 R1 ⊢
      obtain ⟨d0, d1⟩ := box_two KL2.out.2.2
      rw [rounds_succ]
      go_wp2_with (refine wpList_store_whole rfl 24 (.tmp 6) (.tmp 33) rfl N2 (asC A0 t0 c0 A1 t1 c1) rfl rfl 24 _ KR.out.2.2 rfl (by show _ = some 2; exact size_as) (asC_one _ _ _ _ _ _) ?_; intro w9 hp9 hg9; have KR9 := hid (kp_at KR.out hg9 hp9); replace R0 := hid (R0.out.grown hg9 (fun b off e => by have := FA0.out b off e; have := HO.out; omega)); replace R1 := hid (R1.out.grown hg9 (fun b off e => by have := FA1.out b off e; have := HO.out; omega)); clear hp9 hg9)
      (try simp only [Exit.inBlock, Exit.then])
      show bodyPost Try.prog Try.f83 _ _ _ _
      refine bodyPost_ret (results_cell_slot (p := 6) (u := 7) rfl _ _ N2 _ (asC A0 t0 c0 A1 t1 c1) (0, 0) _ (.bool true) rfl rfl KR9.out.2.2 Try.underlying24 rfl (by kernel_rfl)) rfl ?_
      have hv2 := hv.out
      rw [FF0.out, FF1.out] at hv2
      subst hv2
      have e0 : L0 = M0 := by rw [← FL0.out]; exact h0.out
      have e1 : L1 = M1 := by rw [← FL1.out]; exact h1.out
      subst e0
      subst e1
      have q0 := FT0.out.symm.trans h2.out
      have q1 := FT1.out.symm.trans h3.out
      subst q0
      subst q1
      exact ⟨⟨A0, c0, A1, c1, rfl, ⟨R0.out, R1.out⟩, FW0.out, FW1.out⟩, KR9.out.1⟩


end Go.Proofs.Ytjkkajhjcinalaa

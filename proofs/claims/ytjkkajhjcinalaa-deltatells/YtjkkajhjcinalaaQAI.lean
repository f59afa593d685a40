/-
  -
  Conditions: as each theorem states them.
-/
import Derived.Test.YtjkkajhjcinalaaQAG
import Derived.Test.YtjkkajhjcinalaaQAH
namespace Go.Proofs.Ytjkkajhjcinalaa
open Go.ChangeShapes Go.WideShapes Go.ChangeAt Go.RowKit
set_option linter.unusedVariables false
set_option linter.unusedSimpArgs false
set_option maxRecDepth 100000

theorem own_step {w w' : World} {base : Nat} {v : Value} {l : List Rn} (h : OwnN w base v l) (hb : Below w.heap.size w w') : OwnN w' base v l := by
  refine World.ownsRow.kept h (below_grow hb none) ?_
  cases e : v.ownBlock with
  | none => exact .inl rfl
  | some k => exact .inr (fun e => by cases e)
theorem OwnW.step {w wr w' : World} {v : Value} {l : List Rn} (h : OwnW w wr v l) (hb : Below wr.heap.size wr w') : OwnW w w' v l := ⟨bt h.1 hb, own_step h.2 hb⟩
theorem back_d (x S : Int) (f : Bool) (w : World) (hS : Hid (calc.fitV x = S)) (hf : Hid (calc.fitB x = f)) :
    Calls Try.prog 92 #[.agg (wvC x)] w fun e w' => e = .returned (.tuple #[.int .i64 S, .bool f]) ∧ Below w.heap.size w w' := by
  have := calc.back_any x w
  rw [hS.out, hf.out] at this
  exact this
def FD (w : World) (a0 : Option Addr) (a1 : Nat) (a3 : Option Addr) (a4 : Nat) (a6 : Option Addr) (a7 : Nat) (a9 : Option Addr) (a10 : Nat) : Prop := (FarN w a0 a1 ∧ FarN w a3 a4) ∧ FarN w a6 a7 ∧ FarN w a9 a10
theorem fd_0 (w : World) : FD w none 0 none 0 none 0 none 0 := ⟨⟨farN_0 w _, farN_0 w _⟩, farN_0 w _, farN_0 w _⟩
theorem size_rd : (Try.prog.info? 78).map (·.size) = some 8 := by kernel_rfl
abbrev rdC (n s0 s1 : Int) (x0 : Option Addr) (x1 x2 : Nat) (x3 : Option Addr) (x4 x5 : Nat) (x6 : Option Addr) (x7 x8 : Nat) (x9 : Option Addr) (x10 x11 : Nat) (v : Bool) : Array Value := #[.int .i64 n, .int .i64 s0, .int .i64 s1, .slice x0 x1 x2, .slice x3 x4 x5, .slice x6 x7 x8, .slice x9 x10 x11, .bool v]
theorem rdC_one (n s0 s1 : Int) (x0 : Option Addr) (x1 x2 : Nat) (x3 : Option Addr) (x4 x5 : Nat) (x6 : Option Addr) (x7 x8 : Nat) (x9 : Option Addr) (x10 x11 : Nat) (v : Bool) : ∀ u ∈ (rdC n s0 s1 x0 x1 x2 x3 x4 x5 x6 x7 x8 x9 x10 x11 v).toList, u.oneCell' = true := by
  intro u hu
  simp only [List.mem_cons, List.not_mem_nil, or_false] at hu
  rcases hu with rfl | rfl | rfl | rfl | rfl | rfl | rfl | rfl <;> rfl
theorem fitV_yes_d {x : Int} (h : calc.fitB x = true) : calc.fitV x = x := by unfold calc.fitV; rw [h]; rfl
theorem lefd_bag {a b : List Rn} (ha : Bag a) (hb : Bag b) : Bag (lefd a b) := by rw [lefd_is ha.1 ha.2.1 hb.2.1]; exact lef_bag ha b
theorem xd_f0 {m n : Int} {i0 i1 o0 o1 : List Rn} (h : calc.fitB (wsum i0 - wsum o0) = false) : xdB m n i0 i1 o0 o1 = false := by unfold xdB; rw [h]; rfl
theorem xd_f1 {n : Int} {i0 i1 o0 o1 : List Rn} (h : calc.fitB (wsum i1 - wsum o1) = false) : xdB 2 n i0 i1 o0 o1 = false := by unfold xdB; rw [h]; simp
theorem xd_1 {n : Int} {i0 i1 o0 o1 : List Rn} (h : calc.fitB (wsum i0 - wsum o0) = true) : xdB 1 n i0 i1 o0 o1 = dg 1 (xdR 1 n i0 i1 o0 o1) := by unfold xdB; rw [h]; simp
theorem xd_2 {n : Int} {i0 i1 o0 o1 : List Rn} (h : calc.fitB (wsum i0 - wsum o0) = true) (h1 : calc.fitB (wsum i1 - wsum o1) = true) : xdB 2 n i0 i1 o0 o1 = dg 2 (xdR 2 n i0 i1 o0 o1) := by unfold xdB; rw [h, h1]; simp
theorem lefd_sum {a b : List Rn} (ha : Bag a) (hb : Bag b) : wsum (lefd a b) - wsum (lefd b a) = wsum a - wsum b := by
  rw [lefd_is ha.1 ha.2.1 hb.2.1, lefd_is hb.1 hb.2.1 ha.2.1]
  exact (lef_diff ha.1 ha.2.1 hb.1 hb.2.1).1
theorem run_small {l : List Rn} (h : Bag l) {k : Nat} {r : Rn} (hr : l[k]? = some r) : 1 ≤ r.2 ∧ r.2 ≤ 1099511627776 := by
  have h1 := h.2.1 r (List.mem_of_getElem? hr)
  have h2 := cn_le (v := r.1) h.2.1
  have h3 := cn_at h.1 hr
  have h4 := h.2.2
  omega

set_option maxHeartbeats 128000000 in
theorem rmade_m (m : Int) (X : Dl) (a0 : Option Addr) (a1 a2 : Nat) (a3 : Option Addr) (a4 a5 : Nat) (a6 : Option Addr) (a7 a8 : Nat) (a9 : Option Addr) (a10 a11 : Nat) (D : Dl) (v : Bool) (w : World) (hx : DW w a0 a1 a2 a3 a4 a5 a6 a7 a8 a9 a10 a11 X) (hk : okd X) (hb : (Bag X.i0 ∧ Bag X.o0) ∧ Bag X.i1 ∧ Bag X.o1) (hp : shd X) (hm : m = 1 ∨ m = 2) (hC : Hid (xdC m X.n X.i0 X.i1 X.o0 X.o1 = D)) (hv : Hid (xdB m X.n X.i0 X.i1 X.o0 X.o1 = v)) :
    Calls Try.prog 76 #[.int .i64 m, .int .i64 X.n, .agg #[.slice a0 a1 a2, .slice a3 a4 a5], .agg #[.slice a6 a7 a8, .slice a9 a10 a11]] w fun e w' => (∃ r0 r1 r2 r3 r4 r5 r6 r7 r8 r9 r10 r11, e = .returned (.agg #[.int .i64 D.n, .int .i64 D.s0, .int .i64 D.s1, .slice r0 r1 r2, .slice r3 r4 r5, .slice r6 r7 r8, .slice r9 r10 r11, .bool v]) ∧ DW w' r0 r1 r2 r3 r4 r5 r6 r7 r8 r9 r10 r11 D ∧ FD w r0 r1 r3 r4 r6 r7 r9 r10) ∧ Below w.heap.size w w' := by
  have HX := hid hx
  have HK := hid hk
  have HB := hid hb
  have HP : Hid ((a1 ≤ 1000 ∧ a4 ≤ 1000) ∧ a7 ≤ 1000 ∧ a10 ≤ 1000) := hid (by have h1 := hx.1.1.lens.1; have h2 := hx.1.2.lens.1; have h3 := hx.2.1.lens.1; have h4 := hx.2.2.lens.1; have h5 := hp.1; have h6 := hp.2; omega)
  have KI := hid (kp_alloc (kp_alloc (kp_new w (.cells #[.slice a0 a1 a2, .slice a3 a4 a5] 24)) (.cells #[.slice a6 a7 a8, .slice a9 a10 a11] 24)) (.cells #[.int .i64 0, .int .i64 0, .int .i64 0, .slice none 0 0, .slice none 0 0, .slice none 0 0, .slice none 0 0, .bool false] 78))
  have KO := hid (kp_alloc (kp_new2 (b1alloc w (.cells #[.slice a0 a1 a2, .slice a3 a4 a5] 24)) (.cells #[.slice a6 a7 a8, .slice a9 a10 a11] 24) (w.heap.size + 1) (by simp)) (.cells #[.int .i64 0, .int .i64 0, .int .i64 0, .slice none 0 0, .slice none 0 0, .slice none 0 0, .slice none 0 0, .bool false] 78))
  have KR := hid (kp_new2 (bt (b1alloc w (.cells #[.slice a0 a1 a2, .slice a3 a4 a5] 24)) (b1alloc _ (.cells #[.slice a6 a7 a8, .slice a9 a10 a11] 24))) (.cells #[.int .i64 0, .int .i64 0, .int .i64 0, .slice none 0 0, .slice none 0 0, .slice none 0 0, .slice none 0 0, .bool false] 78) (w.heap.size + 1 + 1) (by simp))
  clear hx hk hb hp
  go_enter Try.func76, Try.ntmps76
  go_upto_region 1 with fail
  (try simp only [World.alloc_size] at KO KR ⊢)
  generalize ((w.alloc (.cells #[.slice a0 a1 a2, .slice a3 a4 a5] 24)).alloc (.cells #[.slice a6 a7 a8, .slice a9 a10 a11] 24)).alloc (.cells #[.int .i64 0, .int .i64 0, .int .i64 0, .slice none 0 0, .slice none 0 0, .slice none 0 0, .slice none 0 0, .bool false] 78) = W0 at KI KO KR ⊢
  obtain ⟨N0, hN0⟩ : ∃ y, w.heap.size = y := ⟨_, rfl⟩
  obtain ⟨N1, hN1⟩ : ∃ y, w.heap.size + 1 = y := ⟨_, rfl⟩
  obtain ⟨N2, hN2⟩ : ∃ y, w.heap.size + 1 + 1 = y := ⟨_, rfl⟩
  have KD : Hid (Kp w (W0.alloc (.cells #[.int .i64 X.n, .int .i64 0, .int .i64 0, .slice none 0 0, .slice none 0 0, .slice none 0 0, .slice none 0 0] 68)) W0.heap.size (.cells #[.int .i64 X.n, .int .i64 0, .int .i64 0, .slice none 0 0, .slice none 0 0, .slice none 0 0, .slice none 0 0] 68)) := hid (kp_new2 KI.out.1 _ _ rfl)
  have lt3 := heap_lt KR.out.2.2
  obtain ⟨N3, hN3⟩ : ∃ y, W0.heap.size = y := ⟨_, rfl⟩
  rw [hN3] at KD lt3
  replace KI := hid (kp_alloc KI.out (.cells #[.int .i64 X.n, .int .i64 0, .int .i64 0, .slice none 0 0, .slice none 0 0, .slice none 0 0, .slice none 0 0] 68))
  replace KO := hid (kp_alloc KO.out (.cells #[.int .i64 X.n, .int .i64 0, .int .i64 0, .slice none 0 0, .slice none 0 0, .slice none 0 0, .slice none 0 0] 68))
  replace KR := hid (kp_alloc KR.out (.cells #[.int .i64 X.n, .int .i64 0, .int .i64 0, .slice none 0 0, .slice none 0 0, .slice none 0 0, .slice none 0 0] 68))
  have HN : Hid (w.heap.size = N0 ∧ N0 < N1 ∧ N1 < N2 ∧ N2 < N3) := hid (by omega)
  go_upto_region 2 with fail
  (try rw [hN3])
  generalize W0.alloc (.cells #[.int .i64 X.n, .int .i64 0, .int .i64 0, .slice none 0 0, .slice none 0 0, .slice none 0 0, .slice none 0 0] 68) = W1 at KI KO KR KD ⊢
  (try rw [hN2] at KR ⊢); (try rw [hN1] at KO ⊢); (try rw [hN0] at KI ⊢)
  (try rw [hN2]); (try rw [hN1]); (try rw [hN0])
  clear hN0 hN1 hN2 hN3 lt3
  go_upto_region 3 with fail
  refine wp_loop_rounds 3 ?_
  rw [rounds_succ]
  have m0 : (0 : Int) < m := by omega
  have m0d : decide ((0 : Int) < m) = true := decide_eq_true m0
  go_wp2
  have bnp0 : a1 ≤ 1000 := by have := HP.out; omega
  go_loopw [11, 13] (fun so kk wr => ∃ (k : Nat) (u : Value) (out : List Rn), k ≤ a1 ∧ kk = .int .i64 k ∧ u = so ∧ Hid (out = lefd (X.i0.take k) X.o0) ∧ Hid (OwnW W1 wr u out)) (fun _ kk _ => a1 - (intOf kk).toNat)
  case atStart => exact ⟨0, _, [], by omega, rfl, rfl, hid rfl, hid ⟨Below.refl _ _, own_nil _ _⟩⟩
  case round =>
    obtain ⟨k, u, out, hkm, rfl, rfl, HO, OW⟩ := hrel
    have hk0 : (0 : Int) ≤ (k : Int) := by omega
    have OL : Hid (out.length ≤ 1000) := hid (by rw [HO.out]; have h1 := lefd_len (X.i0.take k) X.o0; rw [List.length_take] at h1; have h2 := HP.out; have h3 := HX.out.1.1.lens.1; omega)
    have hdr := kp_cell (j := 0) (v := .slice a0 a1 a2) (KI.out.step OW.out.1) rfl
    by_cases hlt : k < a1
    · have hki : (k : Int) < (a1 : Int) := by omega
      obtain ⟨b, off, x0, x1, ea, hb, hr, p0, p1⟩ := HX.out.1.1.pick (bt KI.out.1 OW.out.1) hlt
      subst ea
      have HR := hid hr
      have hs := run_small HB.out.1.1 hr
      simp only at hs
      obtain ⟨hs1, hs2⟩ := hs
      obtain ⟨C, hC⟩ : ∃ C, cn x0 X.o0 = C := ⟨_, rfl⟩
      have QC := hid hC
      have HC : Hid (hs x0 X.o0 = C) := hid (by rw [hs_yes (gd_yes HB.out.1.2), hC])
      have hcn := cn_nn (v := x0) HB.out.1.2.2.1
      rw [hC] at hcn
      obtain ⟨z, hz⟩ : ∃ z, min x1 C = z := ⟨_, rfl⟩
      have hz2 : (if x1 ≤ C then x1 else C) = z := by rw [← hz]; split <;> omega
      obtain ⟨x2, hx2⟩ : ∃ y, x1 - z = y := ⟨_, rfl⟩
      have hw2 : IntKind.i64.wrap (x1 - z) = x2 := by rw [IntWalk.i64_in _ (by omega)]; exact hx2
      have HX2 : Hid (x1 - min x1 (cn x0 X.o0) = x2) := hid (by rw [hC, hz]; exact hx2)
      have HH2 := hid hs2
      clear hr hC hcn hx2 hs1 hs2
      go_upto_region 10 with fail
      have KB := hid (kp_new wr (.cells #[.int .i64 x0, .int .i64 x1] 65))
      have OA := hid (OW.out.alloc (.cells #[.int .i64 x0, .int .i64 x1] 65))
      have OG := hid OW.out.1.size
      clear hdr p0 p1
      generalize wr.alloc (.cells #[.int .i64 x0, .int .i64 x1] 65) = w3 at KB OA ⊢
      obtain ⟨G, hG⟩ : ∃ y, wr.heap.size = y := ⟨_, rfl⟩
      rw [hG] at KB ⊢
      have HG := hid hG
      clear hG
      go_cut [51] (fun p wx => p = .int .i64 x2 ∧ Hid (Kp wr wx G (.cells #[.int .i64 x0, .int .i64 x2] 65)) ∧ Hid (OwnW W1 wx u out))
      case first =>
          refine wp_region_noPanic ?_
          refine wp_region_held_drew (S := fun y => y.cell? ⟨N1, 0, none⟩ = some (.slice a6 a7 a8) ∧ y.cell? ⟨G, 0, none⟩ = some (.int .i64 x0)) (by kernel_rfl) (⟨kp_cell (j := 0) (v := .slice a6 a7 a8) (KO.out.step OA.out.1) rfl, kp_cell (j := 0) (v := .int .i64 x0) KB.out rfl⟩) (fun hHeld => ?_)
          replace KB := hid (KB.out.step (bdrew (Below.refl _ _)))
          replace OA := hid (OA.out.step (bdrew (Below.refl _ _)))
          generalize w3.drew = w4 at KB OA hHeld ⊢
          have cx1 := kp_cell (j := 1) (v := .int .i64 x1) KB.out rfl
          have fx1 := kp_froz KB.out 1
          refine tk 0 (v := ?_) ?_ ?_
          rotate_left
          · intro w hSw; (try dsimp only at hSw); go_simp; (try with_reducible rfl)
          try simp only [Act.put, List.setIfInBounds_toArray, List.set_cons_zero, List.set_cons_succ]
          refine tk 2 (v := ?_) ?_ ?_
          rotate_left
          · intro w hSw; (try dsimp only at hSw); go_simp; (try with_reducible rfl)
          try simp only [Act.put, List.setIfInBounds_toArray, List.set_cons_zero, List.set_cons_succ]
          refine tk 4 (v := ?_) ?_ ?_
          rotate_left
          · intro w hSw; (try dsimp only at hSw); go_simp; (try with_reducible rfl)
          try simp only [Act.put, List.setIfInBounds_toArray, List.set_cons_zero, List.set_cons_succ]
          refine tk 5 (v := ?_) ?_ ?_
          rotate_left
          · intro w hSw; (try dsimp only at hSw); go_simp; (try with_reducible rfl)
          try simp only [Act.put, List.setIfInBounds_toArray, List.set_cons_zero, List.set_cons_succ]
          refine tk 6 (v := ?_) ?_ ?_
          rotate_left
          · intro w hSw; (try dsimp only at hSw); go_simp; (try with_reducible rfl)
          try simp only [Act.put, List.setIfInBounds_toArray, List.set_cons_zero, List.set_cons_succ]
          refine tk 7 (v := ?_) ?_ ?_
          rotate_left
          · intro w hSw; (try dsimp only at hSw); go_simp; (try with_reducible rfl)
          try simp only [Act.put, List.setIfInBounds_toArray, List.set_cons_zero, List.set_cons_succ]
          refine tk 8 (v := ?_) ?_ ?_
          rotate_left
          · intro w hSw; (try dsimp only at hSw); go_simp; (try with_reducible rfl)
          try simp only [Act.put, List.setIfInBounds_toArray, List.set_cons_zero, List.set_cons_succ]
          refine wpAnyH_ready (rs := [1, 3, 9]) (by kernel_rfl) (by simp) ?_
          refine (rdc (fun K hK => ?_) (rdc (fun K hK => ?_) (rdc (fun K hK => ?_) AllReadyH.nil)))
          · go_simp
            refine hK.out _ _ hHeld (fun hHeld2 => ?_)
            clear hK K hHeld2
            try simp only [Act.put, List.setIfInBounds_toArray, List.set_cons_zero, List.set_cons_succ]
            refine wpAnyH_ready (rs := [3, 9]) (by kernel_rfl) (by simp) ?_
            refine (rdc (fun K hK => ?_) (rdc (fun K hK => ?_) AllReadyH.nil))
            · go_simp
              refine hK.out _ _ hHeld (fun hHeld2 => ?_)
              clear hK K hHeld2
              try simp only [Act.put, List.setIfInBounds_toArray, List.set_cons_zero, List.set_cons_succ]
              refine rd1 9 (fun K hK => ?_)
              go_simp
              go_at_call 81; refine (rhas_m _ _ _ X.o0 x0 C _ (HX.out.2.1.below (bt KI.out.1 OA.out.1)) HK.out.2.2.1 HC).mono ?_; rintro e w5 ⟨rfl, hb⟩
              replace KB := hid (KB.out.step hb)
              replace OA := hid (OA.out.step hb)
              refine hK.out _ _ ⟨kp_cell (j := 0) (v := .slice a6 a7 a8) (KO.out.step OA.out.1) rfl, kp_cell (j := 0) (v := .int .i64 x0) KB.out rfl⟩ (fun hHeld2 => ?_)
              clear hK K hHeld
              have hHeld := hHeld2
              clear hHeld2 hb cx1 fx1
              have cx1 := kp_cell (j := 1) (v := .int .i64 x1) KB.out rfl
              have fx1 := kp_froz KB.out 1
              try simp only [Act.put, List.setIfInBounds_toArray, List.set_cons_zero, List.set_cons_succ]
              refine tk 10 (v := ?_) ?_ ?_
              rotate_left
              · intro w hSw; (try dsimp only at hSw); go_simp; (try with_reducible rfl)
              try simp only [Act.put, List.setIfInBounds_toArray, List.set_cons_zero, List.set_cons_succ]
              refine tk 11 (v := ?_) ?_ ?_
              rotate_left
              · intro w hSw; (try dsimp only at hSw); go_simp; (try with_reducible rfl)
              try simp only [Act.put, List.setIfInBounds_toArray, List.set_cons_zero, List.set_cons_succ]
              refine tk 12 (v := ?_) ?_ ?_
              rotate_left
              · intro w hSw; (try dsimp only at hSw); go_simp; (try with_reducible rfl)
              try simp only [Act.put, List.setIfInBounds_toArray, List.set_cons_zero, List.set_cons_succ]
              refine rd1 13 (fun K hK => ?_)
              go_simp
              have g9 := set_grown w5 G 1 (.int .i64 x2)
              replace OA : Hid (OwnW W1 (w5.setCell ⟨G, 1, none⟩ (.int .i64 x2)) u out) := hid ⟨OA.out.1.setCell (p := ⟨G, 1, none⟩) (show W1.heap.size ≤ G by have := HG.out; have := OG.out; omega) _, own_other OA.out.2 g9 (fun g hg => by have := (OW.out.2.lt g hg).2; have := HG.out; omega)⟩
              replace KB : Hid (Kp wr (w5.setCell ⟨G, 1, none⟩ (.int .i64 x2)) G (.cells #[.int .i64 x0, .int .i64 x2] 65)) := hid (kp_set (j := 1) (v := .int .i64 x2) KB.out)
              refine hK.out _ _ ⟨kp_cell (j := 0) (v := .slice a6 a7 a8) (KO.out.step OA.out.1) rfl, kp_cell (j := 0) (v := .int .i64 x0) KB.out rfl⟩ (fun hHeld2 => ?_)
              clear hK K hHeld hHeld2 g9 cx1 fx1
              try simp only [Act.put, List.setIfInBounds_toArray, List.set_cons_zero, List.set_cons_succ]
              refine wpAnyH_done (by kernel_rfl) ?_ _
              refine NoPanic.normal ?_
              try go_wp2_with fail
              go_meet
              exact ⟨rfl, KB, OA⟩
            · go_simp
              go_at_call 81; refine (rhas_m _ _ _ X.o0 x0 C _ (HX.out.2.1.below (bt KI.out.1 OA.out.1)) HK.out.2.2.1 HC).mono ?_; rintro e w5 ⟨rfl, hb⟩
              replace KB := hid (KB.out.step hb)
              replace OA := hid (OA.out.step hb)
              refine hK.out _ _ ⟨kp_cell (j := 0) (v := .slice a6 a7 a8) (KO.out.step OA.out.1) rfl, kp_cell (j := 0) (v := .int .i64 x0) KB.out rfl⟩ (fun hHeld2 => ?_)
              clear hK K hHeld
              have hHeld := hHeld2
              clear hHeld2 hb cx1 fx1
              have cx1 := kp_cell (j := 1) (v := .int .i64 x1) KB.out rfl
              have fx1 := kp_froz KB.out 1
              try simp only [Act.put, List.setIfInBounds_toArray, List.set_cons_zero, List.set_cons_succ]
              refine rd1 3 (fun K hK => ?_)
              go_simp
              refine hK.out _ _ hHeld (fun hHeld2 => ?_)
              clear hK K hHeld2
              try simp only [Act.put, List.setIfInBounds_toArray, List.set_cons_zero, List.set_cons_succ]
              refine tk 10 (v := ?_) ?_ ?_
              rotate_left
              · intro w hSw; (try dsimp only at hSw); go_simp; (try with_reducible rfl)
              try simp only [Act.put, List.setIfInBounds_toArray, List.set_cons_zero, List.set_cons_succ]
              refine tk 11 (v := ?_) ?_ ?_
              rotate_left
              · intro w hSw; (try dsimp only at hSw); go_simp; (try with_reducible rfl)
              try simp only [Act.put, List.setIfInBounds_toArray, List.set_cons_zero, List.set_cons_succ]
              refine tk 12 (v := ?_) ?_ ?_
              rotate_left
              · intro w hSw; (try dsimp only at hSw); go_simp; (try with_reducible rfl)
              try simp only [Act.put, List.setIfInBounds_toArray, List.set_cons_zero, List.set_cons_succ]
              refine rd1 13 (fun K hK => ?_)
              go_simp
              have g9 := set_grown w5 G 1 (.int .i64 x2)
              replace OA : Hid (OwnW W1 (w5.setCell ⟨G, 1, none⟩ (.int .i64 x2)) u out) := hid ⟨OA.out.1.setCell (p := ⟨G, 1, none⟩) (show W1.heap.size ≤ G by have := HG.out; have := OG.out; omega) _, own_other OA.out.2 g9 (fun g hg => by have := (OW.out.2.lt g hg).2; have := HG.out; omega)⟩
              replace KB : Hid (Kp wr (w5.setCell ⟨G, 1, none⟩ (.int .i64 x2)) G (.cells #[.int .i64 x0, .int .i64 x2] 65)) := hid (kp_set (j := 1) (v := .int .i64 x2) KB.out)
              refine hK.out _ _ ⟨kp_cell (j := 0) (v := .slice a6 a7 a8) (KO.out.step OA.out.1) rfl, kp_cell (j := 0) (v := .int .i64 x0) KB.out rfl⟩ (fun hHeld2 => ?_)
              clear hK K hHeld hHeld2 g9 cx1 fx1
              try simp only [Act.put, List.setIfInBounds_toArray, List.set_cons_zero, List.set_cons_succ]
              refine wpAnyH_done (by kernel_rfl) ?_ _
              refine NoPanic.normal ?_
              try go_wp2_with fail
              go_meet
              exact ⟨rfl, KB, OA⟩
          · go_simp
            refine hK.out _ _ hHeld (fun hHeld2 => ?_)
            clear hK K hHeld2
            try simp only [Act.put, List.setIfInBounds_toArray, List.set_cons_zero, List.set_cons_succ]
            refine wpAnyH_ready (rs := [1, 9]) (by kernel_rfl) (by simp) ?_
            refine (rdc (fun K hK => ?_) (rdc (fun K hK => ?_) AllReadyH.nil))
            · go_simp
              refine hK.out _ _ hHeld (fun hHeld2 => ?_)
              clear hK K hHeld2
              try simp only [Act.put, List.setIfInBounds_toArray, List.set_cons_zero, List.set_cons_succ]
              refine rd1 9 (fun K hK => ?_)
              go_simp
              go_at_call 81; refine (rhas_m _ _ _ X.o0 x0 C _ (HX.out.2.1.below (bt KI.out.1 OA.out.1)) HK.out.2.2.1 HC).mono ?_; rintro e w5 ⟨rfl, hb⟩
              replace KB := hid (KB.out.step hb)
              replace OA := hid (OA.out.step hb)
              refine hK.out _ _ ⟨kp_cell (j := 0) (v := .slice a6 a7 a8) (KO.out.step OA.out.1) rfl, kp_cell (j := 0) (v := .int .i64 x0) KB.out rfl⟩ (fun hHeld2 => ?_)
              clear hK K hHeld
              have hHeld := hHeld2
              clear hHeld2 hb cx1 fx1
              have cx1 := kp_cell (j := 1) (v := .int .i64 x1) KB.out rfl
              have fx1 := kp_froz KB.out 1
              try simp only [Act.put, List.setIfInBounds_toArray, List.set_cons_zero, List.set_cons_succ]
              refine tk 10 (v := ?_) ?_ ?_
              rotate_left
              · intro w hSw; (try dsimp only at hSw); go_simp; (try with_reducible rfl)
              try simp only [Act.put, List.setIfInBounds_toArray, List.set_cons_zero, List.set_cons_succ]
              refine tk 11 (v := ?_) ?_ ?_
              rotate_left
              · intro w hSw; (try dsimp only at hSw); go_simp; (try with_reducible rfl)
              try simp only [Act.put, List.setIfInBounds_toArray, List.set_cons_zero, List.set_cons_succ]
              refine tk 12 (v := ?_) ?_ ?_
              rotate_left
              · intro w hSw; (try dsimp only at hSw); go_simp; (try with_reducible rfl)
              try simp only [Act.put, List.setIfInBounds_toArray, List.set_cons_zero, List.set_cons_succ]
              refine rd1 13 (fun K hK => ?_)
              go_simp
              have g9 := set_grown w5 G 1 (.int .i64 x2)
              replace OA : Hid (OwnW W1 (w5.setCell ⟨G, 1, none⟩ (.int .i64 x2)) u out) := hid ⟨OA.out.1.setCell (p := ⟨G, 1, none⟩) (show W1.heap.size ≤ G by have := HG.out; have := OG.out; omega) _, own_other OA.out.2 g9 (fun g hg => by have := (OW.out.2.lt g hg).2; have := HG.out; omega)⟩
              replace KB : Hid (Kp wr (w5.setCell ⟨G, 1, none⟩ (.int .i64 x2)) G (.cells #[.int .i64 x0, .int .i64 x2] 65)) := hid (kp_set (j := 1) (v := .int .i64 x2) KB.out)
              refine hK.out _ _ ⟨kp_cell (j := 0) (v := .slice a6 a7 a8) (KO.out.step OA.out.1) rfl, kp_cell (j := 0) (v := .int .i64 x0) KB.out rfl⟩ (fun hHeld2 => ?_)
              clear hK K hHeld hHeld2 g9 cx1 fx1
              try simp only [Act.put, List.setIfInBounds_toArray, List.set_cons_zero, List.set_cons_succ]
              refine wpAnyH_done (by kernel_rfl) ?_ _
              refine NoPanic.normal ?_
              try go_wp2_with fail
              go_meet
              exact ⟨rfl, KB, OA⟩
            · go_simp
              go_at_call 81; refine (rhas_m _ _ _ X.o0 x0 C _ (HX.out.2.1.below (bt KI.out.1 OA.out.1)) HK.out.2.2.1 HC).mono ?_; rintro e w5 ⟨rfl, hb⟩
              replace KB := hid (KB.out.step hb)
              replace OA := hid (OA.out.step hb)
              refine hK.out _ _ ⟨kp_cell (j := 0) (v := .slice a6 a7 a8) (KO.out.step OA.out.1) rfl, kp_cell (j := 0) (v := .int .i64 x0) KB.out rfl⟩ (fun hHeld2 => ?_)
              clear hK K hHeld
              have hHeld := hHeld2
              clear hHeld2 hb cx1 fx1
              have cx1 := kp_cell (j := 1) (v := .int .i64 x1) KB.out rfl
              have fx1 := kp_froz KB.out 1
              try simp only [Act.put, List.setIfInBounds_toArray, List.set_cons_zero, List.set_cons_succ]
              refine tk 10 (v := ?_) ?_ ?_
              rotate_left
              · intro w hSw; (try dsimp only at hSw); go_simp; (try with_reducible rfl)
              try simp only [Act.put, List.setIfInBounds_toArray, List.set_cons_zero, List.set_cons_succ]
              refine rd1 1 (fun K hK => ?_)
              go_simp
              refine hK.out _ _ hHeld (fun hHeld2 => ?_)
              clear hK K hHeld2
              try simp only [Act.put, List.setIfInBounds_toArray, List.set_cons_zero, List.set_cons_succ]
              refine tk 11 (v := ?_) ?_ ?_
              rotate_left
              · intro w hSw; (try dsimp only at hSw); go_simp; (try with_reducible rfl)
              try simp only [Act.put, List.setIfInBounds_toArray, List.set_cons_zero, List.set_cons_succ]
              refine tk 12 (v := ?_) ?_ ?_
              rotate_left
              · intro w hSw; (try dsimp only at hSw); go_simp; (try with_reducible rfl)
              try simp only [Act.put, List.setIfInBounds_toArray, List.set_cons_zero, List.set_cons_succ]
              refine rd1 13 (fun K hK => ?_)
              go_simp
              have g9 := set_grown w5 G 1 (.int .i64 x2)
              replace OA : Hid (OwnW W1 (w5.setCell ⟨G, 1, none⟩ (.int .i64 x2)) u out) := hid ⟨OA.out.1.setCell (p := ⟨G, 1, none⟩) (show W1.heap.size ≤ G by have := HG.out; have := OG.out; omega) _, own_other OA.out.2 g9 (fun g hg => by have := (OW.out.2.lt g hg).2; have := HG.out; omega)⟩
              replace KB : Hid (Kp wr (w5.setCell ⟨G, 1, none⟩ (.int .i64 x2)) G (.cells #[.int .i64 x0, .int .i64 x2] 65)) := hid (kp_set (j := 1) (v := .int .i64 x2) KB.out)
              refine hK.out _ _ ⟨kp_cell (j := 0) (v := .slice a6 a7 a8) (KO.out.step OA.out.1) rfl, kp_cell (j := 0) (v := .int .i64 x0) KB.out rfl⟩ (fun hHeld2 => ?_)
              clear hK K hHeld hHeld2 g9 cx1 fx1
              try simp only [Act.put, List.setIfInBounds_toArray, List.set_cons_zero, List.set_cons_succ]
              refine wpAnyH_done (by kernel_rfl) ?_ _
              refine NoPanic.normal ?_
              try go_wp2_with fail
              go_meet
              exact ⟨rfl, KB, OA⟩
          · go_simp
            go_at_call 81; refine (rhas_m _ _ _ X.o0 x0 C _ (HX.out.2.1.below (bt KI.out.1 OA.out.1)) HK.out.2.2.1 HC).mono ?_; rintro e w5 ⟨rfl, hb⟩
            replace KB := hid (KB.out.step hb)
            replace OA := hid (OA.out.step hb)
            refine hK.out _ _ ⟨kp_cell (j := 0) (v := .slice a6 a7 a8) (KO.out.step OA.out.1) rfl, kp_cell (j := 0) (v := .int .i64 x0) KB.out rfl⟩ (fun hHeld2 => ?_)
            clear hK K hHeld
            have hHeld := hHeld2
            clear hHeld2 hb cx1 fx1
            have cx1 := kp_cell (j := 1) (v := .int .i64 x1) KB.out rfl
            have fx1 := kp_froz KB.out 1
            try simp only [Act.put, List.setIfInBounds_toArray, List.set_cons_zero, List.set_cons_succ]
            refine wpAnyH_ready (rs := [1, 3]) (by kernel_rfl) (by simp) ?_
            refine (rdc (fun K hK => ?_) (rdc (fun K hK => ?_) AllReadyH.nil))
            · go_simp
              refine hK.out _ _ hHeld (fun hHeld2 => ?_)
              clear hK K hHeld2
              try simp only [Act.put, List.setIfInBounds_toArray, List.set_cons_zero, List.set_cons_succ]
              refine rd1 3 (fun K hK => ?_)
              go_simp
              refine hK.out _ _ hHeld (fun hHeld2 => ?_)
              clear hK K hHeld2
              try simp only [Act.put, List.setIfInBounds_toArray, List.set_cons_zero, List.set_cons_succ]
              refine tk 10 (v := ?_) ?_ ?_
              rotate_left
              · intro w hSw; (try dsimp only at hSw); go_simp; (try with_reducible rfl)
              try simp only [Act.put, List.setIfInBounds_toArray, List.set_cons_zero, List.set_cons_succ]
              refine tk 11 (v := ?_) ?_ ?_
              rotate_left
              · intro w hSw; (try dsimp only at hSw); go_simp; (try with_reducible rfl)
              try simp only [Act.put, List.setIfInBounds_toArray, List.set_cons_zero, List.set_cons_succ]
              refine tk 12 (v := ?_) ?_ ?_
              rotate_left
              · intro w hSw; (try dsimp only at hSw); go_simp; (try with_reducible rfl)
              try simp only [Act.put, List.setIfInBounds_toArray, List.set_cons_zero, List.set_cons_succ]
              refine rd1 13 (fun K hK => ?_)
              go_simp
              have g9 := set_grown w5 G 1 (.int .i64 x2)
              replace OA : Hid (OwnW W1 (w5.setCell ⟨G, 1, none⟩ (.int .i64 x2)) u out) := hid ⟨OA.out.1.setCell (p := ⟨G, 1, none⟩) (show W1.heap.size ≤ G by have := HG.out; have := OG.out; omega) _, own_other OA.out.2 g9 (fun g hg => by have := (OW.out.2.lt g hg).2; have := HG.out; omega)⟩
              replace KB : Hid (Kp wr (w5.setCell ⟨G, 1, none⟩ (.int .i64 x2)) G (.cells #[.int .i64 x0, .int .i64 x2] 65)) := hid (kp_set (j := 1) (v := .int .i64 x2) KB.out)
              refine hK.out _ _ ⟨kp_cell (j := 0) (v := .slice a6 a7 a8) (KO.out.step OA.out.1) rfl, kp_cell (j := 0) (v := .int .i64 x0) KB.out rfl⟩ (fun hHeld2 => ?_)
              clear hK K hHeld hHeld2 g9 cx1 fx1
              try simp only [Act.put, List.setIfInBounds_toArray, List.set_cons_zero, List.set_cons_succ]
              refine wpAnyH_done (by kernel_rfl) ?_ _
              refine NoPanic.normal ?_
              try go_wp2_with fail
              go_meet
              exact ⟨rfl, KB, OA⟩
            · go_simp
              refine hK.out _ _ hHeld (fun hHeld2 => ?_)
              clear hK K hHeld2
              try simp only [Act.put, List.setIfInBounds_toArray, List.set_cons_zero, List.set_cons_succ]
              refine tk 10 (v := ?_) ?_ ?_
              rotate_left
              · intro w hSw; (try dsimp only at hSw); go_simp; (try with_reducible rfl)
              try simp only [Act.put, List.setIfInBounds_toArray, List.set_cons_zero, List.set_cons_succ]
              refine rd1 1 (fun K hK => ?_)
              go_simp
              refine hK.out _ _ hHeld (fun hHeld2 => ?_)
              clear hK K hHeld2
              try simp only [Act.put, List.setIfInBounds_toArray, List.set_cons_zero, List.set_cons_succ]
              refine tk 11 (v := ?_) ?_ ?_
              rotate_left
              · intro w hSw; (try dsimp only at hSw); go_simp; (try with_reducible rfl)
              try simp only [Act.put, List.setIfInBounds_toArray, List.set_cons_zero, List.set_cons_succ]
              refine tk 12 (v := ?_) ?_ ?_
              rotate_left
              · intro w hSw; (try dsimp only at hSw); go_simp; (try with_reducible rfl)
              try simp only [Act.put, List.setIfInBounds_toArray, List.set_cons_zero, List.set_cons_succ]
              refine rd1 13 (fun K hK => ?_)
              go_simp
              have g9 := set_grown w5 G 1 (.int .i64 x2)
              replace OA : Hid (OwnW W1 (w5.setCell ⟨G, 1, none⟩ (.int .i64 x2)) u out) := hid ⟨OA.out.1.setCell (p := ⟨G, 1, none⟩) (show W1.heap.size ≤ G by have := HG.out; have := OG.out; omega) _, own_other OA.out.2 g9 (fun g hg => by have := (OW.out.2.lt g hg).2; have := HG.out; omega)⟩
              replace KB : Hid (Kp wr (w5.setCell ⟨G, 1, none⟩ (.int .i64 x2)) G (.cells #[.int .i64 x0, .int .i64 x2] 65)) := hid (kp_set (j := 1) (v := .int .i64 x2) KB.out)
              refine hK.out _ _ ⟨kp_cell (j := 0) (v := .slice a6 a7 a8) (KO.out.step OA.out.1) rfl, kp_cell (j := 0) (v := .int .i64 x0) KB.out rfl⟩ (fun hHeld2 => ?_)
              clear hK K hHeld hHeld2 g9 cx1 fx1
              try simp only [Act.put, List.setIfInBounds_toArray, List.set_cons_zero, List.set_cons_succ]
              refine wpAnyH_done (by kernel_rfl) ?_ _
              refine NoPanic.normal ?_
              try go_wp2_with fail
              go_meet
              exact ⟨rfl, KB, OA⟩
      case rest =>
        obtain ⟨rfl, KB, OA⟩ := hcut
        rename World => wc
        obtain ⟨d0, d1⟩ := box_two KB.out.2.2
        by_cases hp : 0 < x2
        · have hpd : decide (0 < x2) = true := decide_eq_true hp
          have HPP := hid hp
          clear hp
          go_wp2_with (at_builtin; refine append_run rfl (.tmp 56) (.tmp 58) rfl W1.heap.size u out _ x0 x2 rfl (OA.out.alloc (.cells #[.int .i64 x0, .int .i64 x2] 65)).2 rfl (hnew (by simp)) (by have := OL.out; omega) (by have := (OA.out.alloc (.cells #[.int .i64 x0, .int .i64 x2] 65)).1.size; omega) ?_; intro u1 w1 ho1 hg1; have O1 := hid (OwnW.grown (OA.out.alloc (.cells #[.int .i64 x0, .int .i64 x2] 65)) hg1 ho1); clear ho1 hg1)
          go_roundw
          case rel => exact ⟨k + 1, u1, _, by omega, by go_num, rfl, hid (by rw [lefd_step HR.out, HX2.out, if_pos HPP.out, HO.out]), O1⟩
          case measure => simp [intOf]; omega
        · have hpd : decide (0 < x2) = false := decide_eq_false hp
          have HPP := hid hp
          clear hp
          go_wp2
          go_roundw
          case rel => exact ⟨k + 1, u, _, by omega, by go_num, rfl, hid (by rw [lefd_step HR.out, HX2.out, if_neg HPP.out, HO.out, List.append_nil]), OA⟩
          case measure => simp [intOf]; omega
    · have hkf : decide ((k : Int) < (a1 : Int)) = false := decide_eq_false (by omega)
      have HE : Hid (out = lefd X.i0 X.o0) := hid (by rw [HO.out, List.take_of_length_le (by have := HX.out.1.1.lens.1; omega)])
      have ltD := heap_lt KD.out.2.2
      obtain ⟨Ap0, cp0, eu, hrp0⟩ := own_any OW.out.2
      subst eu
      have FRp0 : Hid (0 < out.length → ∀ b off, Ap0 = some ⟨b, off, none⟩ → N3 < b) := hid (fun h b off e => by subst e; have := (OW.out.2.lt b rfl).1; omega)
      clear ltD
      have Rp0 := hid hrp0
      clear hrp0
      obtain ⟨np0, en⟩ : ∃ y, out.length = y := ⟨_, rfl⟩
      rw [en] at Rp0 FRp0
      (try rw [en])
      clear en
      have Lp0 : Hid (np0 ≤ 1000) := hid (by have := Rp0.out.lens.1; have := OL.out; omega)
      have hBn := OW.out.1
      replace KI := hid (KI.out.step hBn)
      replace KO := hid (KO.out.step hBn)
      replace KR := hid (KR.out.step hBn)
      replace KD := hid (KD.out.step hBn)
      have Ep0 : Hid (out = lefd X.i0 X.o0) := HE
      clear hBn OW OL HO HE
      rename World => Wp0
      generalize out = Lp0l at Rp0 Ep0
      go_upto_region 13 with fail
      clear hdr hkf
      go_wp2
      have bnq0 : a7 ≤ 1000 := by have := HP.out; omega
      go_loopw [12, 15] (fun so kk wr => ∃ (k : Nat) (u : Value) (out : List Rn), k ≤ a7 ∧ kk = .int .i64 k ∧ u = so ∧ Hid (out = lefd (X.o0.take k) X.i0) ∧ Hid (OwnW Wp0 wr u out)) (fun _ kk _ => a7 - (intOf kk).toNat)
      case atStart => exact ⟨0, _, [], by omega, rfl, rfl, hid rfl, hid ⟨Below.refl _ _, own_nil _ _⟩⟩
      case round =>
        obtain ⟨k, u, out, hkm, rfl, rfl, HO, OW⟩ := hrel
        have hk0 : (0 : Int) ≤ (k : Int) := by omega
        have OL : Hid (out.length ≤ 1000) := hid (by rw [HO.out]; have h1 := lefd_len (X.o0.take k) X.i0; rw [List.length_take] at h1; have h2 := HP.out; have h3 := HX.out.2.1.lens.1; omega)
        have hdr := kp_cell (j := 0) (v := .slice a6 a7 a8) (KO.out.step OW.out.1) rfl
        by_cases hlt : k < a7
        · have hki : (k : Int) < (a7 : Int) := by omega
          obtain ⟨b, off, x0, x1, ea, hb, hr, p0, p1⟩ := HX.out.2.1.pick (bt KO.out.1 OW.out.1) hlt
          subst ea
          have HR := hid hr
          have hs := run_small HB.out.1.2 hr
          simp only at hs
          obtain ⟨hs1, hs2⟩ := hs
          obtain ⟨C, hC⟩ : ∃ C, cn x0 X.i0 = C := ⟨_, rfl⟩
          have QC := hid hC
          have HC : Hid (hs x0 X.i0 = C) := hid (by rw [hs_yes (gd_yes HB.out.1.1), hC])
          have hcn := cn_nn (v := x0) HB.out.1.1.2.1
          rw [hC] at hcn
          obtain ⟨z, hz⟩ : ∃ z, min x1 C = z := ⟨_, rfl⟩
          have hz2 : (if x1 ≤ C then x1 else C) = z := by rw [← hz]; split <;> omega
          obtain ⟨x2, hx2⟩ : ∃ y, x1 - z = y := ⟨_, rfl⟩
          have hw2 : IntKind.i64.wrap (x1 - z) = x2 := by rw [IntWalk.i64_in _ (by omega)]; exact hx2
          have HX2 : Hid (x1 - min x1 (cn x0 X.i0) = x2) := hid (by rw [hC, hz]; exact hx2)
          have HH2 := hid hs2
          clear hr hC hcn hx2 hs1 hs2
          go_upto_region 17 with fail
          have KB := hid (kp_new wr (.cells #[.int .i64 x0, .int .i64 x1] 65))
          have OA := hid (OW.out.alloc (.cells #[.int .i64 x0, .int .i64 x1] 65))
          have OG := hid OW.out.1.size
          clear hdr p0 p1
          generalize wr.alloc (.cells #[.int .i64 x0, .int .i64 x1] 65) = w3 at KB OA ⊢
          obtain ⟨G, hG⟩ : ∃ y, wr.heap.size = y := ⟨_, rfl⟩
          rw [hG] at KB ⊢
          have HG := hid hG
          clear hG
          go_cut [85] (fun p wx => p = .int .i64 x2 ∧ Hid (Kp wr wx G (.cells #[.int .i64 x0, .int .i64 x2] 65)) ∧ Hid (OwnW Wp0 wx u out))
          case first =>
              refine wp_region_noPanic ?_
              refine wp_region_held_drew (S := fun y => y.cell? ⟨N0, 0, none⟩ = some (.slice a0 a1 a2) ∧ y.cell? ⟨G, 0, none⟩ = some (.int .i64 x0)) (by kernel_rfl) (⟨kp_cell (j := 0) (v := .slice a0 a1 a2) (KI.out.step OA.out.1) rfl, kp_cell (j := 0) (v := .int .i64 x0) KB.out rfl⟩) (fun hHeld => ?_)
              replace KB := hid (KB.out.step (bdrew (Below.refl _ _)))
              replace OA := hid (OA.out.step (bdrew (Below.refl _ _)))
              generalize w3.drew = w4 at KB OA hHeld ⊢
              have cx1 := kp_cell (j := 1) (v := .int .i64 x1) KB.out rfl
              have fx1 := kp_froz KB.out 1
              refine tk 0 (v := ?_) ?_ ?_
              rotate_left
              · intro w hSw; (try dsimp only at hSw); go_simp; (try with_reducible rfl)
              try simp only [Act.put, List.setIfInBounds_toArray, List.set_cons_zero, List.set_cons_succ]
              refine tk 2 (v := ?_) ?_ ?_
              rotate_left
              · intro w hSw; (try dsimp only at hSw); go_simp; (try with_reducible rfl)
              try simp only [Act.put, List.setIfInBounds_toArray, List.set_cons_zero, List.set_cons_succ]
              refine tk 4 (v := ?_) ?_ ?_
              rotate_left
              · intro w hSw; (try dsimp only at hSw); go_simp; (try with_reducible rfl)
              try simp only [Act.put, List.setIfInBounds_toArray, List.set_cons_zero, List.set_cons_succ]
              refine tk 5 (v := ?_) ?_ ?_
              rotate_left
              · intro w hSw; (try dsimp only at hSw); go_simp; (try with_reducible rfl)
              try simp only [Act.put, List.setIfInBounds_toArray, List.set_cons_zero, List.set_cons_succ]
              refine tk 6 (v := ?_) ?_ ?_
              rotate_left
              · intro w hSw; (try dsimp only at hSw); go_simp; (try with_reducible rfl)
              try simp only [Act.put, List.setIfInBounds_toArray, List.set_cons_zero, List.set_cons_succ]
              refine tk 7 (v := ?_) ?_ ?_
              rotate_left
              · intro w hSw; (try dsimp only at hSw); go_simp; (try with_reducible rfl)
              try simp only [Act.put, List.setIfInBounds_toArray, List.set_cons_zero, List.set_cons_succ]
              refine tk 8 (v := ?_) ?_ ?_
              rotate_left
              · intro w hSw; (try dsimp only at hSw); go_simp; (try with_reducible rfl)
              try simp only [Act.put, List.setIfInBounds_toArray, List.set_cons_zero, List.set_cons_succ]
              refine wpAnyH_ready (rs := [1, 3, 9]) (by kernel_rfl) (by simp) ?_
              refine (rdc (fun K hK => ?_) (rdc (fun K hK => ?_) (rdc (fun K hK => ?_) AllReadyH.nil)))
              · go_simp
                refine hK.out _ _ hHeld (fun hHeld2 => ?_)
                clear hK K hHeld2
                try simp only [Act.put, List.setIfInBounds_toArray, List.set_cons_zero, List.set_cons_succ]
                refine wpAnyH_ready (rs := [3, 9]) (by kernel_rfl) (by simp) ?_
                refine (rdc (fun K hK => ?_) (rdc (fun K hK => ?_) AllReadyH.nil))
                · go_simp
                  refine hK.out _ _ hHeld (fun hHeld2 => ?_)
                  clear hK K hHeld2
                  try simp only [Act.put, List.setIfInBounds_toArray, List.set_cons_zero, List.set_cons_succ]
                  refine rd1 9 (fun K hK => ?_)
                  go_simp
                  go_at_call 81; refine (rhas_m _ _ _ X.i0 x0 C _ (HX.out.1.1.below (bt KO.out.1 OA.out.1)) HK.out.2.1.1 HC).mono ?_; rintro e w5 ⟨rfl, hb⟩
                  replace KB := hid (KB.out.step hb)
                  replace OA := hid (OA.out.step hb)
                  refine hK.out _ _ ⟨kp_cell (j := 0) (v := .slice a0 a1 a2) (KI.out.step OA.out.1) rfl, kp_cell (j := 0) (v := .int .i64 x0) KB.out rfl⟩ (fun hHeld2 => ?_)
                  clear hK K hHeld
                  have hHeld := hHeld2
                  clear hHeld2 hb cx1 fx1
                  have cx1 := kp_cell (j := 1) (v := .int .i64 x1) KB.out rfl
                  have fx1 := kp_froz KB.out 1
                  try simp only [Act.put, List.setIfInBounds_toArray, List.set_cons_zero, List.set_cons_succ]
                  refine tk 10 (v := ?_) ?_ ?_
                  rotate_left
                  · intro w hSw; (try dsimp only at hSw); go_simp; (try with_reducible rfl)
                  try simp only [Act.put, List.setIfInBounds_toArray, List.set_cons_zero, List.set_cons_succ]
                  refine tk 11 (v := ?_) ?_ ?_
                  rotate_left
                  · intro w hSw; (try dsimp only at hSw); go_simp; (try with_reducible rfl)
                  try simp only [Act.put, List.setIfInBounds_toArray, List.set_cons_zero, List.set_cons_succ]
                  refine tk 12 (v := ?_) ?_ ?_
                  rotate_left
                  · intro w hSw; (try dsimp only at hSw); go_simp; (try with_reducible rfl)
                  try simp only [Act.put, List.setIfInBounds_toArray, List.set_cons_zero, List.set_cons_succ]
                  refine rd1 13 (fun K hK => ?_)
                  go_simp
                  have g9 := set_grown w5 G 1 (.int .i64 x2)
                  replace OA : Hid (OwnW Wp0 (w5.setCell ⟨G, 1, none⟩ (.int .i64 x2)) u out) := hid ⟨OA.out.1.setCell (p := ⟨G, 1, none⟩) (show Wp0.heap.size ≤ G by have := HG.out; have := OG.out; omega) _, own_other OA.out.2 g9 (fun g hg => by have := (OW.out.2.lt g hg).2; have := HG.out; omega)⟩
                  replace KB : Hid (Kp wr (w5.setCell ⟨G, 1, none⟩ (.int .i64 x2)) G (.cells #[.int .i64 x0, .int .i64 x2] 65)) := hid (kp_set (j := 1) (v := .int .i64 x2) KB.out)
                  refine hK.out _ _ ⟨kp_cell (j := 0) (v := .slice a0 a1 a2) (KI.out.step OA.out.1) rfl, kp_cell (j := 0) (v := .int .i64 x0) KB.out rfl⟩ (fun hHeld2 => ?_)
                  clear hK K hHeld hHeld2 g9 cx1 fx1
                  try simp only [Act.put, List.setIfInBounds_toArray, List.set_cons_zero, List.set_cons_succ]
                  refine wpAnyH_done (by kernel_rfl) ?_ _
                  refine NoPanic.normal ?_
                  try go_wp2_with fail
                  go_meet
                  exact ⟨rfl, KB, OA⟩
                · go_simp
                  go_at_call 81; refine (rhas_m _ _ _ X.i0 x0 C _ (HX.out.1.1.below (bt KO.out.1 OA.out.1)) HK.out.2.1.1 HC).mono ?_; rintro e w5 ⟨rfl, hb⟩
                  replace KB := hid (KB.out.step hb)
                  replace OA := hid (OA.out.step hb)
                  refine hK.out _ _ ⟨kp_cell (j := 0) (v := .slice a0 a1 a2) (KI.out.step OA.out.1) rfl, kp_cell (j := 0) (v := .int .i64 x0) KB.out rfl⟩ (fun hHeld2 => ?_)
                  clear hK K hHeld
                  have hHeld := hHeld2
                  clear hHeld2 hb cx1 fx1
                  have cx1 := kp_cell (j := 1) (v := .int .i64 x1) KB.out rfl
                  have fx1 := kp_froz KB.out 1
                  try simp only [Act.put, List.setIfInBounds_toArray, List.set_cons_zero, List.set_cons_succ]
                  refine rd1 3 (fun K hK => ?_)
                  go_simp
                  refine hK.out _ _ hHeld (fun hHeld2 => ?_)
                  clear hK K hHeld2
                  try simp only [Act.put, List.setIfInBounds_toArray, List.set_cons_zero, List.set_cons_succ]
                  refine tk 10 (v := ?_) ?_ ?_
                  rotate_left
                  · intro w hSw; (try dsimp only at hSw); go_simp; (try with_reducible rfl)
                  try simp only [Act.put, List.setIfInBounds_toArray, List.set_cons_zero, List.set_cons_succ]
                  refine tk 11 (v := ?_) ?_ ?_
                  rotate_left
                  · intro w hSw; (try dsimp only at hSw); go_simp; (try with_reducible rfl)
                  try simp only [Act.put, List.setIfInBounds_toArray, List.set_cons_zero, List.set_cons_succ]
                  refine tk 12 (v := ?_) ?_ ?_
                  rotate_left
                  · intro w hSw; (try dsimp only at hSw); go_simp; (try with_reducible rfl)
                  try simp only [Act.put, List.setIfInBounds_toArray, List.set_cons_zero, List.set_cons_succ]
                  refine rd1 13 (fun K hK => ?_)
                  go_simp
                  have g9 := set_grown w5 G 1 (.int .i64 x2)
                  replace OA : Hid (OwnW Wp0 (w5.setCell ⟨G, 1, none⟩ (.int .i64 x2)) u out) := hid ⟨OA.out.1.setCell (p := ⟨G, 1, none⟩) (show Wp0.heap.size ≤ G by have := HG.out; have := OG.out; omega) _, own_other OA.out.2 g9 (fun g hg => by have := (OW.out.2.lt g hg).2; have := HG.out; omega)⟩
                  replace KB : Hid (Kp wr (w5.setCell ⟨G, 1, none⟩ (.int .i64 x2)) G (.cells #[.int .i64 x0, .int .i64 x2] 65)) := hid (kp_set (j := 1) (v := .int .i64 x2) KB.out)
                  refine hK.out _ _ ⟨kp_cell (j := 0) (v := .slice a0 a1 a2) (KI.out.step OA.out.1) rfl, kp_cell (j := 0) (v := .int .i64 x0) KB.out rfl⟩ (fun hHeld2 => ?_)
                  clear hK K hHeld hHeld2 g9 cx1 fx1
                  try simp only [Act.put, List.setIfInBounds_toArray, List.set_cons_zero, List.set_cons_succ]
                  refine wpAnyH_done (by kernel_rfl) ?_ _
                  refine NoPanic.normal ?_
                  try go_wp2_with fail
                  go_meet
                  exact ⟨rfl, KB, OA⟩
              · go_simp
                refine hK.out _ _ hHeld (fun hHeld2 => ?_)
                clear hK K hHeld2
                try simp only [Act.put, List.setIfInBounds_toArray, List.set_cons_zero, List.set_cons_succ]
                refine wpAnyH_ready (rs := [1, 9]) (by kernel_rfl) (by simp) ?_
                refine (rdc (fun K hK => ?_) (rdc (fun K hK => ?_) AllReadyH.nil))
                · go_simp
                  refine hK.out _ _ hHeld (fun hHeld2 => ?_)
                  clear hK K hHeld2
                  try simp only [Act.put, List.setIfInBounds_toArray, List.set_cons_zero, List.set_cons_succ]
                  refine rd1 9 (fun K hK => ?_)
                  go_simp
                  go_at_call 81; refine (rhas_m _ _ _ X.i0 x0 C _ (HX.out.1.1.below (bt KO.out.1 OA.out.1)) HK.out.2.1.1 HC).mono ?_; rintro e w5 ⟨rfl, hb⟩
                  replace KB := hid (KB.out.step hb)
                  replace OA := hid (OA.out.step hb)
                  refine hK.out _ _ ⟨kp_cell (j := 0) (v := .slice a0 a1 a2) (KI.out.step OA.out.1) rfl, kp_cell (j := 0) (v := .int .i64 x0) KB.out rfl⟩ (fun hHeld2 => ?_)
                  clear hK K hHeld
                  have hHeld := hHeld2
                  clear hHeld2 hb cx1 fx1
                  have cx1 := kp_cell (j := 1) (v := .int .i64 x1) KB.out rfl
                  have fx1 := kp_froz KB.out 1
                  try simp only [Act.put, List.setIfInBounds_toArray, List.set_cons_zero, List.set_cons_succ]
                  refine tk 10 (v := ?_) ?_ ?_
                  rotate_left
                  · intro w hSw; (try dsimp only at hSw); go_simp; (try with_reducible rfl)
                  try simp only [Act.put, List.setIfInBounds_toArray, List.set_cons_zero, List.set_cons_succ]
                  refine tk 11 (v := ?_) ?_ ?_
                  rotate_left
                  · intro w hSw; (try dsimp only at hSw); go_simp; (try with_reducible rfl)
                  try simp only [Act.put, List.setIfInBounds_toArray, List.set_cons_zero, List.set_cons_succ]
                  refine tk 12 (v := ?_) ?_ ?_
                  rotate_left
                  · intro w hSw; (try dsimp only at hSw); go_simp; (try with_reducible rfl)
                  try simp only [Act.put, List.setIfInBounds_toArray, List.set_cons_zero, List.set_cons_succ]
                  refine rd1 13 (fun K hK => ?_)
                  go_simp
                  have g9 := set_grown w5 G 1 (.int .i64 x2)
                  replace OA : Hid (OwnW Wp0 (w5.setCell ⟨G, 1, none⟩ (.int .i64 x2)) u out) := hid ⟨OA.out.1.setCell (p := ⟨G, 1, none⟩) (show Wp0.heap.size ≤ G by have := HG.out; have := OG.out; omega) _, own_other OA.out.2 g9 (fun g hg => by have := (OW.out.2.lt g hg).2; have := HG.out; omega)⟩
                  replace KB : Hid (Kp wr (w5.setCell ⟨G, 1, none⟩ (.int .i64 x2)) G (.cells #[.int .i64 x0, .int .i64 x2] 65)) := hid (kp_set (j := 1) (v := .int .i64 x2) KB.out)
                  refine hK.out _ _ ⟨kp_cell (j := 0) (v := .slice a0 a1 a2) (KI.out.step OA.out.1) rfl, kp_cell (j := 0) (v := .int .i64 x0) KB.out rfl⟩ (fun hHeld2 => ?_)
                  clear hK K hHeld hHeld2 g9 cx1 fx1
                  try simp only [Act.put, List.setIfInBounds_toArray, List.set_cons_zero, List.set_cons_succ]
                  refine wpAnyH_done (by kernel_rfl) ?_ _
                  refine NoPanic.normal ?_
                  try go_wp2_with fail
                  go_meet
                  exact ⟨rfl, KB, OA⟩
                · go_simp
                  go_at_call 81; refine (rhas_m _ _ _ X.i0 x0 C _ (HX.out.1.1.below (bt KO.out.1 OA.out.1)) HK.out.2.1.1 HC).mono ?_; rintro e w5 ⟨rfl, hb⟩
                  replace KB := hid (KB.out.step hb)
                  replace OA := hid (OA.out.step hb)
                  refine hK.out _ _ ⟨kp_cell (j := 0) (v := .slice a0 a1 a2) (KI.out.step OA.out.1) rfl, kp_cell (j := 0) (v := .int .i64 x0) KB.out rfl⟩ (fun hHeld2 => ?_)
                  clear hK K hHeld
                  have hHeld := hHeld2
                  clear hHeld2 hb cx1 fx1
                  have cx1 := kp_cell (j := 1) (v := .int .i64 x1) KB.out rfl
                  have fx1 := kp_froz KB.out 1
                  try simp only [Act.put, List.setIfInBounds_toArray, List.set_cons_zero, List.set_cons_succ]
                  refine tk 10 (v := ?_) ?_ ?_
                  rotate_left
                  · intro w hSw; (try dsimp only at hSw); go_simp; (try with_reducible rfl)
                  try simp only [Act.put, List.setIfInBounds_toArray, List.set_cons_zero, List.set_cons_succ]
                  refine rd1 1 (fun K hK => ?_)
                  go_simp
                  refine hK.out _ _ hHeld (fun hHeld2 => ?_)
                  clear hK K hHeld2
                  try simp only [Act.put, List.setIfInBounds_toArray, List.set_cons_zero, List.set_cons_succ]
                  refine tk 11 (v := ?_) ?_ ?_
                  rotate_left
                  · intro w hSw; (try dsimp only at hSw); go_simp; (try with_reducible rfl)
                  try simp only [Act.put, List.setIfInBounds_toArray, List.set_cons_zero, List.set_cons_succ]
                  refine tk 12 (v := ?_) ?_ ?_
                  rotate_left
                  · intro w hSw; (try dsimp only at hSw); go_simp; (try with_reducible rfl)
                  try simp only [Act.put, List.setIfInBounds_toArray, List.set_cons_zero, List.set_cons_succ]
                  refine rd1 13 (fun K hK => ?_)
                  go_simp
                  have g9 := set_grown w5 G 1 (.int .i64 x2)
                  replace OA : Hid (OwnW Wp0 (w5.setCell ⟨G, 1, none⟩ (.int .i64 x2)) u out) := hid ⟨OA.out.1.setCell (p := ⟨G, 1, none⟩) (show Wp0.heap.size ≤ G by have := HG.out; have := OG.out; omega) _, own_other OA.out.2 g9 (fun g hg => by have := (OW.out.2.lt g hg).2; have := HG.out; omega)⟩
                  replace KB : Hid (Kp wr (w5.setCell ⟨G, 1, none⟩ (.int .i64 x2)) G (.cells #[.int .i64 x0, .int .i64 x2] 65)) := hid (kp_set (j := 1) (v := .int .i64 x2) KB.out)
                  refine hK.out _ _ ⟨kp_cell (j := 0) (v := .slice a0 a1 a2) (KI.out.step OA.out.1) rfl, kp_cell (j := 0) (v := .int .i64 x0) KB.out rfl⟩ (fun hHeld2 => ?_)
                  clear hK K hHeld hHeld2 g9 cx1 fx1
                  try simp only [Act.put, List.setIfInBounds_toArray, List.set_cons_zero, List.set_cons_succ]
                  refine wpAnyH_done (by kernel_rfl) ?_ _
                  refine NoPanic.normal ?_
                  try go_wp2_with fail
                  go_meet
                  exact ⟨rfl, KB, OA⟩
              · go_simp
                go_at_call 81; refine (rhas_m _ _ _ X.i0 x0 C _ (HX.out.1.1.below (bt KO.out.1 OA.out.1)) HK.out.2.1.1 HC).mono ?_; rintro e w5 ⟨rfl, hb⟩
                replace KB := hid (KB.out.step hb)
                replace OA := hid (OA.out.step hb)
                refine hK.out _ _ ⟨kp_cell (j := 0) (v := .slice a0 a1 a2) (KI.out.step OA.out.1) rfl, kp_cell (j := 0) (v := .int .i64 x0) KB.out rfl⟩ (fun hHeld2 => ?_)
                clear hK K hHeld
                have hHeld := hHeld2
                clear hHeld2 hb cx1 fx1
                have cx1 := kp_cell (j := 1) (v := .int .i64 x1) KB.out rfl
                have fx1 := kp_froz KB.out 1
                try simp only [Act.put, List.setIfInBounds_toArray, List.set_cons_zero, List.set_cons_succ]
                refine wpAnyH_ready (rs := [1, 3]) (by kernel_rfl) (by simp) ?_
                refine (rdc (fun K hK => ?_) (rdc (fun K hK => ?_) AllReadyH.nil))
                · go_simp
                  refine hK.out _ _ hHeld (fun hHeld2 => ?_)
                  clear hK K hHeld2
                  try simp only [Act.put, List.setIfInBounds_toArray, List.set_cons_zero, List.set_cons_succ]
                  refine rd1 3 (fun K hK => ?_)
                  go_simp
                  refine hK.out _ _ hHeld (fun hHeld2 => ?_)
                  clear hK K hHeld2
                  try simp only [Act.put, List.setIfInBounds_toArray, List.set_cons_zero, List.set_cons_succ]
                  refine tk 10 (v := ?_) ?_ ?_
                  rotate_left
                  · intro w hSw; (try dsimp only at hSw); go_simp; (try with_reducible rfl)
                  try simp only [Act.put, List.setIfInBounds_toArray, List.set_cons_zero, List.set_cons_succ]
                  refine tk 11 (v := ?_) ?_ ?_
                  rotate_left
                  · intro w hSw; (try dsimp only at hSw); go_simp; (try with_reducible rfl)
                  try simp only [Act.put, List.setIfInBounds_toArray, List.set_cons_zero, List.set_cons_succ]
                  refine tk 12 (v := ?_) ?_ ?_
                  rotate_left
                  · intro w hSw; (try dsimp only at hSw); go_simp; (try with_reducible rfl)
                  try simp only [Act.put, List.setIfInBounds_toArray, List.set_cons_zero, List.set_cons_succ]
                  refine rd1 13 (fun K hK => ?_)
                  go_simp
                  have g9 := set_grown w5 G 1 (.int .i64 x2)
                  replace OA : Hid (OwnW Wp0 (w5.setCell ⟨G, 1, none⟩ (.int .i64 x2)) u out) := hid ⟨OA.out.1.setCell (p := ⟨G, 1, none⟩) (show Wp0.heap.size ≤ G by have := HG.out; have := OG.out; omega) _, own_other OA.out.2 g9 (fun g hg => by have := (OW.out.2.lt g hg).2; have := HG.out; omega)⟩
                  replace KB : Hid (Kp wr (w5.setCell ⟨G, 1, none⟩ (.int .i64 x2)) G (.cells #[.int .i64 x0, .int .i64 x2] 65)) := hid (kp_set (j := 1) (v := .int .i64 x2) KB.out)
                  refine hK.out _ _ ⟨kp_cell (j := 0) (v := .slice a0 a1 a2) (KI.out.step OA.out.1) rfl, kp_cell (j := 0) (v := .int .i64 x0) KB.out rfl⟩ (fun hHeld2 => ?_)
                  clear hK K hHeld hHeld2 g9 cx1 fx1
                  try simp only [Act.put, List.setIfInBounds_toArray, List.set_cons_zero, List.set_cons_succ]
                  refine wpAnyH_done (by kernel_rfl) ?_ _
                  refine NoPanic.normal ?_
                  try go_wp2_with fail
                  go_meet
                  exact ⟨rfl, KB, OA⟩
                · go_simp
                  refine hK.out _ _ hHeld (fun hHeld2 => ?_)
                  clear hK K hHeld2
                  try simp only [Act.put, List.setIfInBounds_toArray, List.set_cons_zero, List.set_cons_succ]
                  refine tk 10 (v := ?_) ?_ ?_
                  rotate_left
                  · intro w hSw; (try dsimp only at hSw); go_simp; (try with_reducible rfl)
                  try simp only [Act.put, List.setIfInBounds_toArray, List.set_cons_zero, List.set_cons_succ]
                  refine rd1 1 (fun K hK => ?_)
                  go_simp
                  refine hK.out _ _ hHeld (fun hHeld2 => ?_)
                  clear hK K hHeld2
                  try simp only [Act.put, List.setIfInBounds_toArray, List.set_cons_zero, List.set_cons_succ]
                  refine tk 11 (v := ?_) ?_ ?_
                  rotate_left
                  · intro w hSw; (try dsimp only at hSw); go_simp; (try with_reducible rfl)
                  try simp only [Act.put, List.setIfInBounds_toArray, List.set_cons_zero, List.set_cons_succ]
                  refine tk 12 (v := ?_) ?_ ?_
                  rotate_left
                  · intro w hSw; (try dsimp only at hSw); go_simp; (try with_reducible rfl)
                  try simp only [Act.put, List.setIfInBounds_toArray, List.set_cons_zero, List.set_cons_succ]
                  refine rd1 13 (fun K hK => ?_)
                  go_simp
                  have g9 := set_grown w5 G 1 (.int .i64 x2)
                  replace OA : Hid (OwnW Wp0 (w5.setCell ⟨G, 1, none⟩ (.int .i64 x2)) u out) := hid ⟨OA.out.1.setCell (p := ⟨G, 1, none⟩) (show Wp0.heap.size ≤ G by have := HG.out; have := OG.out; omega) _, own_other OA.out.2 g9 (fun g hg => by have := (OW.out.2.lt g hg).2; have := HG.out; omega)⟩
                  replace KB : Hid (Kp wr (w5.setCell ⟨G, 1, none⟩ (.int .i64 x2)) G (.cells #[.int .i64 x0, .int .i64 x2] 65)) := hid (kp_set (j := 1) (v := .int .i64 x2) KB.out)
                  refine hK.out _ _ ⟨kp_cell (j := 0) (v := .slice a0 a1 a2) (KI.out.step OA.out.1) rfl, kp_cell (j := 0) (v := .int .i64 x0) KB.out rfl⟩ (fun hHeld2 => ?_)
                  clear hK K hHeld hHeld2 g9 cx1 fx1
                  try simp only [Act.put, List.setIfInBounds_toArray, List.set_cons_zero, List.set_cons_succ]
                  refine wpAnyH_done (by kernel_rfl) ?_ _
                  refine NoPanic.normal ?_
                  try go_wp2_with fail
                  go_meet
                  exact ⟨rfl, KB, OA⟩
          case rest =>
            obtain ⟨rfl, KB, OA⟩ := hcut
            rename World => wc
            obtain ⟨d0, d1⟩ := box_two KB.out.2.2
            by_cases hp : 0 < x2
            · have hpd : decide (0 < x2) = true := decide_eq_true hp
              have HPP := hid hp
              clear hp
              go_wp2_with (at_builtin; refine append_run rfl (.tmp 90) (.tmp 92) rfl Wp0.heap.size u out _ x0 x2 rfl (OA.out.alloc (.cells #[.int .i64 x0, .int .i64 x2] 65)).2 rfl (hnew (by simp)) (by have := OL.out; omega) (by have := (OA.out.alloc (.cells #[.int .i64 x0, .int .i64 x2] 65)).1.size; omega) ?_; intro u1 w1 ho1 hg1; have O1 := hid (OwnW.grown (OA.out.alloc (.cells #[.int .i64 x0, .int .i64 x2] 65)) hg1 ho1); clear ho1 hg1)
              go_roundw
              case rel => exact ⟨k + 1, u1, _, by omega, by go_num, rfl, hid (by rw [lefd_step HR.out, HX2.out, if_pos HPP.out, HO.out]), O1⟩
              case measure => simp [intOf]; omega
            · have hpd : decide (0 < x2) = false := decide_eq_false hp
              have HPP := hid hp
              clear hp
              go_wp2
              go_roundw
              case rel => exact ⟨k + 1, u, _, by omega, by go_num, rfl, hid (by rw [lefd_step HR.out, HX2.out, if_neg HPP.out, HO.out, List.append_nil]), OA⟩
              case measure => simp [intOf]; omega
        · have hkf : decide ((k : Int) < (a7 : Int)) = false := decide_eq_false (by omega)
          have HE : Hid (out = lefd X.o0 X.i0) := hid (by rw [HO.out, List.take_of_length_le (by have := HX.out.2.1.lens.1; omega)])
          have ltD := heap_lt KD.out.2.2
          obtain ⟨Aq0, cq0, eu, hrq0⟩ := own_any OW.out.2
          subst eu
          have FRq0 : Hid (0 < out.length → ∀ b off, Aq0 = some ⟨b, off, none⟩ → N3 < b) := hid (fun h b off e => by subst e; have := (OW.out.2.lt b rfl).1; omega)
          clear ltD
          have Rq0 := hid hrq0
          clear hrq0
          obtain ⟨nq0, en⟩ : ∃ y, out.length = y := ⟨_, rfl⟩
          rw [en] at Rq0 FRq0
          (try rw [en])
          clear en
          have Lq0 : Hid (nq0 ≤ 1000) := hid (by have := Rq0.out.lens.1; have := OL.out; omega)
          have hBn := OW.out.1
          replace KI := hid (KI.out.step hBn)
          replace KO := hid (KO.out.step hBn)
          replace KR := hid (KR.out.step hBn)
          replace KD := hid (KD.out.step hBn)
          replace Rp0 := hid (Rp0.out.below hBn)
          have Eq0 : Hid (out = lefd X.o0 X.i0) := HE
          clear hBn OW OL HO HE
          rename World => Wq0
          generalize out = Lq0l at Rq0 Eq0
          go_upto_region 20 with fail
          clear hdr hkf
          obtain ⟨Y0, hY0⟩ : ∃ y, wsum Lp0l - wsum Lq0l = y := ⟨_, rfl⟩
          obtain ⟨S0, hS0⟩ : ∃ y, calc.fitV Y0 = y := ⟨_, rfl⟩
          obtain ⟨f0, hf0⟩ : ∃ y, calc.fitB Y0 = y := ⟨_, rfl⟩
          have FY0 := hid hY0
          have FS0 := hid hS0
          have FF0 := hid hf0
          clear hY0 hS0 hf0
          have BP0 : Hid (Bag Lp0l) := hid (by rw [Ep0.out]; exact lefd_bag HB.out.1.1 HB.out.1.2)
          have BQ0 : Hid (Bag Lq0l) := hid (by rw [Eq0.out]; exact lefd_bag HB.out.1.2 HB.out.1.1)
          have KP0 : Hid (∀ r ∈ Lp0l, nok r) := hid (by rw [Ep0.out]; exact lefd_nok HK.out.2.1.1 HB.out.1.1.2.1 HB.out.1.2.2.1)
          have KQ0 : Hid (∀ r ∈ Lq0l, nok r) := hid (by rw [Eq0.out]; exact lefd_nok HK.out.2.2.1 HB.out.1.2.2.1 HB.out.1.1.2.1)
          have EY0 : Hid (wsum X.i0 - wsum X.o0 = Y0) := hid (by rw [← FY0.out, Ep0.out, Eq0.out]; exact (lefd_sum HB.out.1.1 HB.out.1.2).symm)
          go_upto_region 21 with (first
            | (go_at_call 82; refine (rwide_m _ _ _ _ _ _ Lp0l Lq0l Y0 _ Rp0.out Rq0.out KP0.out KQ0.out BP0.out BQ0.out FY0).mono ?_; rintro e v10 ⟨rfl, hb⟩; replace KI := hid (KI.out.step hb); replace KO := hid (KO.out.step hb); replace KR := hid (KR.out.step hb); replace KD := hid (KD.out.step hb); replace Rp0 := hid (Rp0.out.below hb); replace Rq0 := hid (Rq0.out.below hb); clear hb)
            | (go_at_call 92; refine (back_d Y0 S0 f0 _ FS0 FF0).mono ?_; rintro e v20 ⟨rfl, hb⟩; replace KI := hid (KI.out.step hb); replace KO := hid (KO.out.step hb); replace KR := hid (KR.out.step hb); replace KD := hid (KD.out.step hb); replace Rp0 := hid (Rp0.out.below hb); replace Rq0 := hid (Rq0.out.below hb); clear hb))
          cases f0 with
          | false =>
            have HZ := hid (And.intro (hC.out.symm.trans (xdC_no (xd_f0 (by rw [EY0.out]; exact FF0.out)))) (hv.out.symm.trans (xd_f0 (by rw [EY0.out]; exact FF0.out))))
            go_wp2_with (refine wpList_store_whole rfl 78 (.tmp 8) (.tmp 103) rfl N2 (rdC 0 0 0 none 0 0 none 0 0 none 0 0 none 0 0 false) rfl rfl 78 _ KR.out.2.2 rfl (by show _ = some 8; exact size_rd) (rdC_one _ _ _ _ _ _ _ _ _ _ _ _ _ _ _ _) ?_; intro w9 hp9 hg9; have KR9 := hid (kp_at KR.out hg9 hp9); clear hp9 hg9)
            (try simp only [Exit.inBlock, Exit.then])
            show bodyPost Try.prog Try.f76 _ _ _ _
            refine bodyPost_ret (results_cell_row (p := 8) rfl _ _ N2 _ (rdC 0 0 0 none 0 0 none 0 0 none 0 0 none 0 0 false) (0, 0) _ rfl KR9.out.2.2 Try.underlying78 rfl (by kernel_rfl)) rfl ?_
            obtain ⟨z1, z2⟩ := HZ.out
            subst z1
            subst z2
            exact ⟨⟨none, 0, 0, none, 0, 0, none, 0, 0, none, 0, 0, rfl, dw_0 _, fd_0 _⟩, KR9.out.1⟩
          | true =>
          have cz := kp_cell (j := 1) (v := .int .i64 0) KD.out rfl
          have fz := kp_froz KD.out 1
          go_upto_region 24 with fail
          clear cz fz
          have g9 := set_grown v20 N3 1 (.int .i64 S0)
          replace KI := hid (kp_gr KI.out g9 (by have := HN.out; omega) (by have := HN.out; omega))
          replace KO := hid (kp_gr KO.out g9 (by have := HN.out; omega) (by have := HN.out; omega))
          replace KR := hid (kp_gr KR.out g9 (by have := HN.out; omega) (by have := HN.out; omega))
          replace Rp0 := hid (Rp0.out.apart g9 (fun h b' o' e => by have := FRp0.out h b' o' e; omega))
          replace Rq0 := hid (Rq0.out.apart g9 (fun h b' o' e => by have := FRq0.out h b' o' e; omega))
          replace KD : Hid (Kp w (v20.setCell ⟨N3, 1, none⟩ (.int .i64 S0)) N3 (.cells #[.int .i64 X.n, .int .i64 S0, .int .i64 0, .slice none 0 0, .slice none 0 0, .slice none 0 0, .slice none 0 0] 68)) := hid (kp_set (j := 1) (v := .int .i64 S0) KD.out)
          clear g9
          generalize v20.setCell ⟨N3, 1, none⟩ (.int .i64 S0) = w00 at KI KO KR KD Rp0 Rq0 ⊢
          have cz := kp_cell (j := 3) (v := .slice none 0 0) KD.out rfl
          have fz := kp_froz KD.out 3
          go_upto_region 25 with fail
          clear cz fz
          have g9 := set_grown w00 N3 3 (.slice Ap0 np0 cp0)
          replace KI := hid (kp_gr KI.out g9 (by have := HN.out; omega) (by have := HN.out; omega))
          replace KO := hid (kp_gr KO.out g9 (by have := HN.out; omega) (by have := HN.out; omega))
          replace KR := hid (kp_gr KR.out g9 (by have := HN.out; omega) (by have := HN.out; omega))
          replace Rp0 := hid (Rp0.out.apart g9 (fun h b' o' e => by have := FRp0.out h b' o' e; omega))
          replace Rq0 := hid (Rq0.out.apart g9 (fun h b' o' e => by have := FRq0.out h b' o' e; omega))
          replace KD : Hid (Kp w (w00.setCell ⟨N3, 3, none⟩ (.slice Ap0 np0 cp0)) N3 (.cells #[.int .i64 X.n, .int .i64 S0, .int .i64 0, .slice Ap0 np0 cp0, .slice none 0 0, .slice none 0 0, .slice none 0 0] 68)) := hid (kp_set (j := 3) (v := .slice Ap0 np0 cp0) KD.out)
          clear g9
          generalize w00.setCell ⟨N3, 3, none⟩ (.slice Ap0 np0 cp0) = w01 at KI KO KR KD Rp0 Rq0 ⊢
          have cz := kp_cell (j := 5) (v := .slice none 0 0) KD.out rfl
          have fz := kp_froz KD.out 5
          go_upto_region 4 with fail
          clear cz fz
          have g9 := set_grown w01 N3 5 (.slice Aq0 nq0 cq0)
          replace KI := hid (kp_gr KI.out g9 (by have := HN.out; omega) (by have := HN.out; omega))
          replace KO := hid (kp_gr KO.out g9 (by have := HN.out; omega) (by have := HN.out; omega))
          replace KR := hid (kp_gr KR.out g9 (by have := HN.out; omega) (by have := HN.out; omega))
          replace Rp0 := hid (Rp0.out.apart g9 (fun h b' o' e => by have := FRp0.out h b' o' e; omega))
          replace Rq0 := hid (Rq0.out.apart g9 (fun h b' o' e => by have := FRq0.out h b' o' e; omega))
          replace KD : Hid (Kp w (w01.setCell ⟨N3, 5, none⟩ (.slice Aq0 nq0 cq0)) N3 (.cells #[.int .i64 X.n, .int .i64 S0, .int .i64 0, .slice Ap0 np0 cp0, .slice none 0 0, .slice Aq0 nq0 cq0, .slice none 0 0] 68)) := hid (kp_set (j := 5) (v := .slice Aq0 nq0 cq0) KD.out)
          clear g9
          generalize w01.setCell ⟨N3, 5, none⟩ (.slice Aq0 nq0 cq0) = w02 at KI KO KR KD Rp0 Rq0 ⊢
          go_wp2
          rw [rounds_succ]
          rcases hm with rfl | rfl
          · skip
            have I0 : Hid (I64 S0) := hid (by rw [← FS0.out, fitV_yes_d FF0.out]; exact fitB_iff.1 FF0.out)
            have EX : Hid (xdR 1 X.n X.i0 X.i1 X.o0 X.o1 = ⟨X.n, S0, 0, Lp0l, [], Lq0l, []⟩) := hid (by
              unfold xdR
              rw [EY0.out, ← FS0.out, fitV_yes_d FF0.out, Ep0.out, Eq0.out, lefd_is HB.out.1.1.1 HB.out.1.1.2.1 HB.out.1.2.2.1, lefd_is HB.out.1.2.1 HB.out.1.2.2.1 HB.out.1.1.2.1]
              rfl)
            have EB : Hid (xdB 1 X.n X.i0 X.i1 X.o0 X.o1 = dg 1 ⟨X.n, S0, 0, Lp0l, [], Lq0l, []⟩) := hid (by rw [xd_1 (by rw [EY0.out]; exact FF0.out), EX.out])
            obtain ⟨gg, hgg⟩ : ∃ y, dg 1 ⟨X.n, S0, 0, Lp0l, [], Lq0l, []⟩ = y := ⟨_, rfl⟩
            have FG := hid hgg
            clear hgg
            obtain ⟨z0, z1, z2, z3, z4, z5, z6⟩ := box_seven KD.out.2.2
            cases gg with
            | false =>
              go_upto_region 27 with (go_at_call 39; refine (rdgood_m 1 ⟨X.n, S0, 0, Lp0l, [], Lq0l, []⟩ Ap0 np0 cp0 none 0 0 Aq0 nq0 cq0 none 0 0 false _ ⟨⟨Rp0.out, nrun_nil _⟩, Rq0.out, nrun_nil _⟩ ⟨⟨HK.out.1.1, I0.out, calc.i64_0⟩, ⟨KP0.out, nok_nild⟩, KQ0.out, nok_nild⟩ FG).mono ?_; rintro e v8 ⟨rfl, hb⟩; replace KI := hid (KI.out.step hb); replace KO := hid (KO.out.step hb); replace KR := hid (KR.out.step hb); replace KD := hid (KD.out.step hb); replace Rp0 := hid (Rp0.out.below hb); replace Rq0 := hid (Rq0.out.below hb); clear hb z0 z1 z2 z3 z4 z5 z6)
              have HZ := hid (And.intro (hC.out.symm.trans (xdC_no (EB.out.trans FG.out))) (hv.out.symm.trans (EB.out.trans FG.out)))
              go_wp2_with (refine wpList_store_whole rfl 78 (.tmp 8) (.tmp 120) rfl N2 (rdC 0 0 0 none 0 0 none 0 0 none 0 0 none 0 0 false) rfl rfl 78 _ KR.out.2.2 rfl (by show _ = some 8; exact size_rd) (rdC_one _ _ _ _ _ _ _ _ _ _ _ _ _ _ _ _) ?_; intro w9 hp9 hg9; have KR9 := hid (kp_at KR.out hg9 hp9); clear hp9 hg9)
              (try simp only [Exit.inBlock, Exit.then])
              show bodyPost Try.prog Try.f76 _ _ _ _
              refine bodyPost_ret (results_cell_row (p := 8) rfl _ _ N2 _ (rdC 0 0 0 none 0 0 none 0 0 none 0 0 none 0 0 false) (0, 0) _ rfl KR9.out.2.2 Try.underlying78 rfl (by kernel_rfl)) rfl ?_
              obtain ⟨z1, z2⟩ := HZ.out
              subst z1
              subst z2
              exact ⟨⟨none, 0, 0, none, 0, 0, none, 0, 0, none, 0, 0, rfl, dw_0 _, fd_0 _⟩, KR9.out.1⟩
            | true =>
              go_upto_region 28 with (go_at_call 39; refine (rdgood_m 1 ⟨X.n, S0, 0, Lp0l, [], Lq0l, []⟩ Ap0 np0 cp0 none 0 0 Aq0 nq0 cq0 none 0 0 true _ ⟨⟨Rp0.out, nrun_nil _⟩, Rq0.out, nrun_nil _⟩ ⟨⟨HK.out.1.1, I0.out, calc.i64_0⟩, ⟨KP0.out, nok_nild⟩, KQ0.out, nok_nild⟩ FG).mono ?_; rintro e v8 ⟨rfl, hb⟩; replace KI := hid (KI.out.step hb); replace KO := hid (KO.out.step hb); replace KR := hid (KR.out.step hb); replace KD := hid (KD.out.step hb); replace Rp0 := hid (Rp0.out.below hb); replace Rq0 := hid (Rq0.out.below hb); clear hb z0 z1 z2 z3 z4 z5 z6)
              obtain ⟨z0, z1, z2, z3, z4, z5, z6⟩ := box_seven KD.out.2.2
              go_wp2_with (refine wpList_store_whole rfl 78 (.tmp 8) (.tmp 122) rfl N2 (rdC X.n S0 0 Ap0 np0 cp0 none 0 0 Aq0 nq0 cq0 none 0 0 true) rfl rfl 78 _ KR.out.2.2 rfl (by show _ = some 8; exact size_rd) (rdC_one _ _ _ _ _ _ _ _ _ _ _ _ _ _ _ _) ?_; intro w9 hp9 hg9; have KR9 := hid (kp_at KR.out hg9 hp9); have ZRp0 := hid (Rp0.out.apart hg9 (fun h b' o' e => by have := FRp0.out h b' o' e; have := HN.out; omega)); have ZRq0 := hid (Rq0.out.apart hg9 (fun h b' o' e => by have := FRq0.out h b' o' e; have := HN.out; omega)); clear hp9 hg9)
              (try simp only [Exit.inBlock, Exit.then])
              show bodyPost Try.prog Try.f76 _ _ _ _
              refine bodyPost_ret (results_cell_row (p := 8) rfl _ _ N2 _ (rdC X.n S0 0 Ap0 np0 cp0 none 0 0 Aq0 nq0 cq0 none 0 0 true) (0, 0) _ rfl KR9.out.2.2 Try.underlying78 rfl (by kernel_rfl)) rfl ?_
              have e1 : D = ⟨X.n, S0, 0, Lp0l, [], Lq0l, []⟩ := by rw [← hC.out, xdC_yes (EB.out.trans FG.out), EX.out]
              have e2 : v = true := by rw [← hv.out, EB.out, FG.out]
              subst e1
              subst e2
              exact ⟨⟨Ap0, np0, cp0, none, 0, 0, Aq0, nq0, cq0, none, 0, 0, rfl, ⟨⟨ZRp0.out, nrun_nil _⟩, ZRq0.out, nrun_nil _⟩, ⟨⟨(fun h b' o' e => by have := FRp0.out h b' o' e; have := HN.out; omega), farN_0 w _⟩, (fun h b' o' e => by have := FRq0.out h b' o' e; have := HN.out; omega), farN_0 w _⟩⟩, KR9.out.1⟩
          · skip
            go_wp2
            have bnp1 : a4 ≤ 1000 := by have := HP.out; omega
            go_loopw [11, 13] (fun so kk wr => ∃ (k : Nat) (u : Value) (out : List Rn), k ≤ a4 ∧ kk = .int .i64 k ∧ u = so ∧ Hid (out = lefd (X.i1.take k) X.o1) ∧ Hid (OwnW w02 wr u out)) (fun _ kk _ => a4 - (intOf kk).toNat)
            case atStart => exact ⟨0, _, [], by omega, rfl, rfl, hid rfl, hid ⟨Below.refl _ _, own_nil _ _⟩⟩
            case round =>
              obtain ⟨k, u, out, hkm, rfl, rfl, HO, OW⟩ := hrel
              have hk0 : (0 : Int) ≤ (k : Int) := by omega
              have OL : Hid (out.length ≤ 1000) := hid (by rw [HO.out]; have h1 := lefd_len (X.i1.take k) X.o1; rw [List.length_take] at h1; have h2 := HP.out; have h3 := HX.out.1.2.lens.1; omega)
              have hdr := kp_cell (j := 1) (v := .slice a3 a4 a5) (KI.out.step OW.out.1) rfl
              by_cases hlt : k < a4
              · have hki : (k : Int) < (a4 : Int) := by omega
                obtain ⟨b, off, x0, x1, ea, hb, hr, p0, p1⟩ := HX.out.1.2.pick (bt KI.out.1 OW.out.1) hlt
                subst ea
                have HR := hid hr
                have hs := run_small HB.out.2.1 hr
                simp only at hs
                obtain ⟨hs1, hs2⟩ := hs
                obtain ⟨C, hC⟩ : ∃ C, cn x0 X.o1 = C := ⟨_, rfl⟩
                have QC := hid hC
                have HC : Hid (hs x0 X.o1 = C) := hid (by rw [hs_yes (gd_yes HB.out.2.2), hC])
                have hcn := cn_nn (v := x0) HB.out.2.2.2.1
                rw [hC] at hcn
                obtain ⟨z, hz⟩ : ∃ z, min x1 C = z := ⟨_, rfl⟩
                have hz2 : (if x1 ≤ C then x1 else C) = z := by rw [← hz]; split <;> omega
                obtain ⟨x2, hx2⟩ : ∃ y, x1 - z = y := ⟨_, rfl⟩
                have hw2 : IntKind.i64.wrap (x1 - z) = x2 := by rw [IntWalk.i64_in _ (by omega)]; exact hx2
                have HX2 : Hid (x1 - min x1 (cn x0 X.o1) = x2) := hid (by rw [hC, hz]; exact hx2)
                have HH2 := hid hs2
                clear hr hC hcn hx2 hs1 hs2
                go_upto_region 10 with fail
                have KB := hid (kp_new wr (.cells #[.int .i64 x0, .int .i64 x1] 65))
                have OA := hid (OW.out.alloc (.cells #[.int .i64 x0, .int .i64 x1] 65))
                have OG := hid OW.out.1.size
                clear hdr p0 p1
                generalize wr.alloc (.cells #[.int .i64 x0, .int .i64 x1] 65) = w3 at KB OA ⊢
                obtain ⟨G, hG⟩ : ∃ y, wr.heap.size = y := ⟨_, rfl⟩
                rw [hG] at KB ⊢
                have HG := hid hG
                clear hG
                go_cut [51] (fun p wx => p = .int .i64 x2 ∧ Hid (Kp wr wx G (.cells #[.int .i64 x0, .int .i64 x2] 65)) ∧ Hid (OwnW w02 wx u out))
                case first =>
                    refine wp_region_noPanic ?_
                    refine wp_region_held_drew (S := fun y => y.cell? ⟨N1, 1, none⟩ = some (.slice a9 a10 a11) ∧ y.cell? ⟨G, 0, none⟩ = some (.int .i64 x0)) (by kernel_rfl) (⟨kp_cell (j := 1) (v := .slice a9 a10 a11) (KO.out.step OA.out.1) rfl, kp_cell (j := 0) (v := .int .i64 x0) KB.out rfl⟩) (fun hHeld => ?_)
                    replace KB := hid (KB.out.step (bdrew (Below.refl _ _)))
                    replace OA := hid (OA.out.step (bdrew (Below.refl _ _)))
                    generalize w3.drew = w4 at KB OA hHeld ⊢
                    have cx1 := kp_cell (j := 1) (v := .int .i64 x1) KB.out rfl
                    have fx1 := kp_froz KB.out 1
                    refine tk 0 (v := ?_) ?_ ?_
                    rotate_left
                    · intro w hSw; (try dsimp only at hSw); go_simp; (try with_reducible rfl)
                    try simp only [Act.put, List.setIfInBounds_toArray, List.set_cons_zero, List.set_cons_succ]
                    refine tk 2 (v := ?_) ?_ ?_
                    rotate_left
                    · intro w hSw; (try dsimp only at hSw); go_simp; (try with_reducible rfl)
                    try simp only [Act.put, List.setIfInBounds_toArray, List.set_cons_zero, List.set_cons_succ]
                    refine tk 4 (v := ?_) ?_ ?_
                    rotate_left
                    · intro w hSw; (try dsimp only at hSw); go_simp; (try with_reducible rfl)
                    try simp only [Act.put, List.setIfInBounds_toArray, List.set_cons_zero, List.set_cons_succ]
                    refine tk 5 (v := ?_) ?_ ?_
                    rotate_left
                    · intro w hSw; (try dsimp only at hSw); go_simp; (try with_reducible rfl)
                    try simp only [Act.put, List.setIfInBounds_toArray, List.set_cons_zero, List.set_cons_succ]
                    refine tk 6 (v := ?_) ?_ ?_
                    rotate_left
                    · intro w hSw; (try dsimp only at hSw); go_simp; (try with_reducible rfl)
                    try simp only [Act.put, List.setIfInBounds_toArray, List.set_cons_zero, List.set_cons_succ]
                    refine tk 7 (v := ?_) ?_ ?_
                    rotate_left
                    · intro w hSw; (try dsimp only at hSw); go_simp; (try with_reducible rfl)
                    try simp only [Act.put, List.setIfInBounds_toArray, List.set_cons_zero, List.set_cons_succ]
                    refine tk 8 (v := ?_) ?_ ?_
                    rotate_left
                    · intro w hSw; (try dsimp only at hSw); go_simp; (try with_reducible rfl)
                    try simp only [Act.put, List.setIfInBounds_toArray, List.set_cons_zero, List.set_cons_succ]
                    refine wpAnyH_ready (rs := [1, 3, 9]) (by kernel_rfl) (by simp) ?_
                    refine (rdc (fun K hK => ?_) (rdc (fun K hK => ?_) (rdc (fun K hK => ?_) AllReadyH.nil)))
                    · go_simp
                      refine hK.out _ _ hHeld (fun hHeld2 => ?_)
                      clear hK K hHeld2
                      try simp only [Act.put, List.setIfInBounds_toArray, List.set_cons_zero, List.set_cons_succ]
                      refine wpAnyH_ready (rs := [3, 9]) (by kernel_rfl) (by simp) ?_
                      refine (rdc (fun K hK => ?_) (rdc (fun K hK => ?_) AllReadyH.nil))
                      · go_simp
                        refine hK.out _ _ hHeld (fun hHeld2 => ?_)
                        clear hK K hHeld2
                        try simp only [Act.put, List.setIfInBounds_toArray, List.set_cons_zero, List.set_cons_succ]
                        refine rd1 9 (fun K hK => ?_)
                        go_simp
                        go_at_call 81; refine (rhas_m _ _ _ X.o1 x0 C _ (HX.out.2.2.below (bt KI.out.1 OA.out.1)) HK.out.2.2.2 HC).mono ?_; rintro e w5 ⟨rfl, hb⟩
                        replace KB := hid (KB.out.step hb)
                        replace OA := hid (OA.out.step hb)
                        refine hK.out _ _ ⟨kp_cell (j := 1) (v := .slice a9 a10 a11) (KO.out.step OA.out.1) rfl, kp_cell (j := 0) (v := .int .i64 x0) KB.out rfl⟩ (fun hHeld2 => ?_)
                        clear hK K hHeld
                        have hHeld := hHeld2
                        clear hHeld2 hb cx1 fx1
                        have cx1 := kp_cell (j := 1) (v := .int .i64 x1) KB.out rfl
                        have fx1 := kp_froz KB.out 1
                        try simp only [Act.put, List.setIfInBounds_toArray, List.set_cons_zero, List.set_cons_succ]
                        refine tk 10 (v := ?_) ?_ ?_
                        rotate_left
                        · intro w hSw; (try dsimp only at hSw); go_simp; (try with_reducible rfl)
                        try simp only [Act.put, List.setIfInBounds_toArray, List.set_cons_zero, List.set_cons_succ]
                        refine tk 11 (v := ?_) ?_ ?_
                        rotate_left
                        · intro w hSw; (try dsimp only at hSw); go_simp; (try with_reducible rfl)
                        try simp only [Act.put, List.setIfInBounds_toArray, List.set_cons_zero, List.set_cons_succ]
                        refine tk 12 (v := ?_) ?_ ?_
                        rotate_left
                        · intro w hSw; (try dsimp only at hSw); go_simp; (try with_reducible rfl)
                        try simp only [Act.put, List.setIfInBounds_toArray, List.set_cons_zero, List.set_cons_succ]
                        refine rd1 13 (fun K hK => ?_)
                        go_simp
                        have g9 := set_grown w5 G 1 (.int .i64 x2)
                        replace OA : Hid (OwnW w02 (w5.setCell ⟨G, 1, none⟩ (.int .i64 x2)) u out) := hid ⟨OA.out.1.setCell (p := ⟨G, 1, none⟩) (show w02.heap.size ≤ G by have := HG.out; have := OG.out; omega) _, own_other OA.out.2 g9 (fun g hg => by have := (OW.out.2.lt g hg).2; have := HG.out; omega)⟩
                        replace KB : Hid (Kp wr (w5.setCell ⟨G, 1, none⟩ (.int .i64 x2)) G (.cells #[.int .i64 x0, .int .i64 x2] 65)) := hid (kp_set (j := 1) (v := .int .i64 x2) KB.out)
                        refine hK.out _ _ ⟨kp_cell (j := 1) (v := .slice a9 a10 a11) (KO.out.step OA.out.1) rfl, kp_cell (j := 0) (v := .int .i64 x0) KB.out rfl⟩ (fun hHeld2 => ?_)
                        clear hK K hHeld hHeld2 g9 cx1 fx1
                        try simp only [Act.put, List.setIfInBounds_toArray, List.set_cons_zero, List.set_cons_succ]
                        refine wpAnyH_done (by kernel_rfl) ?_ _
                        refine NoPanic.normal ?_
                        try go_wp2_with fail
                        go_meet
                        exact ⟨rfl, KB, OA⟩
                      · go_simp
                        go_at_call 81; refine (rhas_m _ _ _ X.o1 x0 C _ (HX.out.2.2.below (bt KI.out.1 OA.out.1)) HK.out.2.2.2 HC).mono ?_; rintro e w5 ⟨rfl, hb⟩
                        replace KB := hid (KB.out.step hb)
                        replace OA := hid (OA.out.step hb)
                        refine hK.out _ _ ⟨kp_cell (j := 1) (v := .slice a9 a10 a11) (KO.out.step OA.out.1) rfl, kp_cell (j := 0) (v := .int .i64 x0) KB.out rfl⟩ (fun hHeld2 => ?_)
                        clear hK K hHeld
                        have hHeld := hHeld2
                        clear hHeld2 hb cx1 fx1
                        have cx1 := kp_cell (j := 1) (v := .int .i64 x1) KB.out rfl
                        have fx1 := kp_froz KB.out 1
                        try simp only [Act.put, List.setIfInBounds_toArray, List.set_cons_zero, List.set_cons_succ]
                        refine rd1 3 (fun K hK => ?_)
                        go_simp
                        refine hK.out _ _ hHeld (fun hHeld2 => ?_)
                        clear hK K hHeld2
                        try simp only [Act.put, List.setIfInBounds_toArray, List.set_cons_zero, List.set_cons_succ]
                        refine tk 10 (v := ?_) ?_ ?_
                        rotate_left
                        · intro w hSw; (try dsimp only at hSw); go_simp; (try with_reducible rfl)
                        try simp only [Act.put, List.setIfInBounds_toArray, List.set_cons_zero, List.set_cons_succ]
                        refine tk 11 (v := ?_) ?_ ?_
                        rotate_left
                        · intro w hSw; (try dsimp only at hSw); go_simp; (try with_reducible rfl)
                        try simp only [Act.put, List.setIfInBounds_toArray, List.set_cons_zero, List.set_cons_succ]
                        refine tk 12 (v := ?_) ?_ ?_
                        rotate_left
                        · intro w hSw; (try dsimp only at hSw); go_simp; (try with_reducible rfl)
                        try simp only [Act.put, List.setIfInBounds_toArray, List.set_cons_zero, List.set_cons_succ]
                        refine rd1 13 (fun K hK => ?_)
                        go_simp
                        have g9 := set_grown w5 G 1 (.int .i64 x2)
                        replace OA : Hid (OwnW w02 (w5.setCell ⟨G, 1, none⟩ (.int .i64 x2)) u out) := hid ⟨OA.out.1.setCell (p := ⟨G, 1, none⟩) (show w02.heap.size ≤ G by have := HG.out; have := OG.out; omega) _, own_other OA.out.2 g9 (fun g hg => by have := (OW.out.2.lt g hg).2; have := HG.out; omega)⟩
                        replace KB : Hid (Kp wr (w5.setCell ⟨G, 1, none⟩ (.int .i64 x2)) G (.cells #[.int .i64 x0, .int .i64 x2] 65)) := hid (kp_set (j := 1) (v := .int .i64 x2) KB.out)
                        refine hK.out _ _ ⟨kp_cell (j := 1) (v := .slice a9 a10 a11) (KO.out.step OA.out.1) rfl, kp_cell (j := 0) (v := .int .i64 x0) KB.out rfl⟩ (fun hHeld2 => ?_)
                        clear hK K hHeld hHeld2 g9 cx1 fx1
                        try simp only [Act.put, List.setIfInBounds_toArray, List.set_cons_zero, List.set_cons_succ]
                        refine wpAnyH_done (by kernel_rfl) ?_ _
                        refine NoPanic.normal ?_
                        try go_wp2_with fail
                        go_meet
                        exact ⟨rfl, KB, OA⟩
                    · go_simp
                      refine hK.out _ _ hHeld (fun hHeld2 => ?_)
                      clear hK K hHeld2
                      try simp only [Act.put, List.setIfInBounds_toArray, List.set_cons_zero, List.set_cons_succ]
                      refine wpAnyH_ready (rs := [1, 9]) (by kernel_rfl) (by simp) ?_
                      refine (rdc (fun K hK => ?_) (rdc (fun K hK => ?_) AllReadyH.nil))
                      · go_simp
                        refine hK.out _ _ hHeld (fun hHeld2 => ?_)
                        clear hK K hHeld2
                        try simp only [Act.put, List.setIfInBounds_toArray, List.set_cons_zero, List.set_cons_succ]
                        refine rd1 9 (fun K hK => ?_)
                        go_simp
                        go_at_call 81; refine (rhas_m _ _ _ X.o1 x0 C _ (HX.out.2.2.below (bt KI.out.1 OA.out.1)) HK.out.2.2.2 HC).mono ?_; rintro e w5 ⟨rfl, hb⟩
                        replace KB := hid (KB.out.step hb)
                        replace OA := hid (OA.out.step hb)
                        refine hK.out _ _ ⟨kp_cell (j := 1) (v := .slice a9 a10 a11) (KO.out.step OA.out.1) rfl, kp_cell (j := 0) (v := .int .i64 x0) KB.out rfl⟩ (fun hHeld2 => ?_)
                        clear hK K hHeld
                        have hHeld := hHeld2
                        clear hHeld2 hb cx1 fx1
                        have cx1 := kp_cell (j := 1) (v := .int .i64 x1) KB.out rfl
                        have fx1 := kp_froz KB.out 1
                        try simp only [Act.put, List.setIfInBounds_toArray, List.set_cons_zero, List.set_cons_succ]
                        refine tk 10 (v := ?_) ?_ ?_
                        rotate_left
                        · intro w hSw; (try dsimp only at hSw); go_simp; (try with_reducible rfl)
                        try simp only [Act.put, List.setIfInBounds_toArray, List.set_cons_zero, List.set_cons_succ]
                        refine tk 11 (v := ?_) ?_ ?_
                        rotate_left
                        · intro w hSw; (try dsimp only at hSw); go_simp; (try with_reducible rfl)
                        try simp only [Act.put, List.setIfInBounds_toArray, List.set_cons_zero, List.set_cons_succ]
                        refine tk 12 (v := ?_) ?_ ?_
                        rotate_left
                        · intro w hSw; (try dsimp only at hSw); go_simp; (try with_reducible rfl)
                        try simp only [Act.put, List.setIfInBounds_toArray, List.set_cons_zero, List.set_cons_succ]
                        refine rd1 13 (fun K hK => ?_)
                        go_simp
                        have g9 := set_grown w5 G 1 (.int .i64 x2)
                        replace OA : Hid (OwnW w02 (w5.setCell ⟨G, 1, none⟩ (.int .i64 x2)) u out) := hid ⟨OA.out.1.setCell (p := ⟨G, 1, none⟩) (show w02.heap.size ≤ G by have := HG.out; have := OG.out; omega) _, own_other OA.out.2 g9 (fun g hg => by have := (OW.out.2.lt g hg).2; have := HG.out; omega)⟩
                        replace KB : Hid (Kp wr (w5.setCell ⟨G, 1, none⟩ (.int .i64 x2)) G (.cells #[.int .i64 x0, .int .i64 x2] 65)) := hid (kp_set (j := 1) (v := .int .i64 x2) KB.out)
                        refine hK.out _ _ ⟨kp_cell (j := 1) (v := .slice a9 a10 a11) (KO.out.step OA.out.1) rfl, kp_cell (j := 0) (v := .int .i64 x0) KB.out rfl⟩ (fun hHeld2 => ?_)
                        clear hK K hHeld hHeld2 g9 cx1 fx1
                        try simp only [Act.put, List.setIfInBounds_toArray, List.set_cons_zero, List.set_cons_succ]
                        refine wpAnyH_done (by kernel_rfl) ?_ _
                        refine NoPanic.normal ?_
                        try go_wp2_with fail
                        go_meet
                        exact ⟨rfl, KB, OA⟩
                      · go_simp
                        go_at_call 81; refine (rhas_m _ _ _ X.o1 x0 C _ (HX.out.2.2.below (bt KI.out.1 OA.out.1)) HK.out.2.2.2 HC).mono ?_; rintro e w5 ⟨rfl, hb⟩
                        replace KB := hid (KB.out.step hb)
                        replace OA := hid (OA.out.step hb)
                        refine hK.out _ _ ⟨kp_cell (j := 1) (v := .slice a9 a10 a11) (KO.out.step OA.out.1) rfl, kp_cell (j := 0) (v := .int .i64 x0) KB.out rfl⟩ (fun hHeld2 => ?_)
                        clear hK K hHeld
                        have hHeld := hHeld2
                        clear hHeld2 hb cx1 fx1
                        have cx1 := kp_cell (j := 1) (v := .int .i64 x1) KB.out rfl
                        have fx1 := kp_froz KB.out 1
                        try simp only [Act.put, List.setIfInBounds_toArray, List.set_cons_zero, List.set_cons_succ]
                        refine tk 10 (v := ?_) ?_ ?_
                        rotate_left
                        · intro w hSw; (try dsimp only at hSw); go_simp; (try with_reducible rfl)
                        try simp only [Act.put, List.setIfInBounds_toArray, List.set_cons_zero, List.set_cons_succ]
                        refine rd1 1 (fun K hK => ?_)
                        go_simp
                        refine hK.out _ _ hHeld (fun hHeld2 => ?_)
                        clear hK K hHeld2
                        try simp only [Act.put, List.setIfInBounds_toArray, List.set_cons_zero, List.set_cons_succ]
                        refine tk 11 (v := ?_) ?_ ?_
                        rotate_left
                        · intro w hSw; (try dsimp only at hSw); go_simp; (try with_reducible rfl)
                        try simp only [Act.put, List.setIfInBounds_toArray, List.set_cons_zero, List.set_cons_succ]
                        refine tk 12 (v := ?_) ?_ ?_
                        rotate_left
                        · intro w hSw; (try dsimp only at hSw); go_simp; (try with_reducible rfl)
                        try simp only [Act.put, List.setIfInBounds_toArray, List.set_cons_zero, List.set_cons_succ]
                        refine rd1 13 (fun K hK => ?_)
                        go_simp
                        have g9 := set_grown w5 G 1 (.int .i64 x2)
                        replace OA : Hid (OwnW w02 (w5.setCell ⟨G, 1, none⟩ (.int .i64 x2)) u out) := hid ⟨OA.out.1.setCell (p := ⟨G, 1, none⟩) (show w02.heap.size ≤ G by have := HG.out; have := OG.out; omega) _, own_other OA.out.2 g9 (fun g hg => by have := (OW.out.2.lt g hg).2; have := HG.out; omega)⟩
                        replace KB : Hid (Kp wr (w5.setCell ⟨G, 1, none⟩ (.int .i64 x2)) G (.cells #[.int .i64 x0, .int .i64 x2] 65)) := hid (kp_set (j := 1) (v := .int .i64 x2) KB.out)
                        refine hK.out _ _ ⟨kp_cell (j := 1) (v := .slice a9 a10 a11) (KO.out.step OA.out.1) rfl, kp_cell (j := 0) (v := .int .i64 x0) KB.out rfl⟩ (fun hHeld2 => ?_)
                        clear hK K hHeld hHeld2 g9 cx1 fx1
                        try simp only [Act.put, List.setIfInBounds_toArray, List.set_cons_zero, List.set_cons_succ]
                        refine wpAnyH_done (by kernel_rfl) ?_ _
                        refine NoPanic.normal ?_
                        try go_wp2_with fail
                        go_meet
                        exact ⟨rfl, KB, OA⟩
                    · go_simp
                      go_at_call 81; refine (rhas_m _ _ _ X.o1 x0 C _ (HX.out.2.2.below (bt KI.out.1 OA.out.1)) HK.out.2.2.2 HC).mono ?_; rintro e w5 ⟨rfl, hb⟩
                      replace KB := hid (KB.out.step hb)
                      replace OA := hid (OA.out.step hb)
                      refine hK.out _ _ ⟨kp_cell (j := 1) (v := .slice a9 a10 a11) (KO.out.step OA.out.1) rfl, kp_cell (j := 0) (v := .int .i64 x0) KB.out rfl⟩ (fun hHeld2 => ?_)
                      clear hK K hHeld
                      have hHeld := hHeld2
                      clear hHeld2 hb cx1 fx1
                      have cx1 := kp_cell (j := 1) (v := .int .i64 x1) KB.out rfl
                      have fx1 := kp_froz KB.out 1
                      try simp only [Act.put, List.setIfInBounds_toArray, List.set_cons_zero, List.set_cons_succ]
                      refine wpAnyH_ready (rs := [1, 3]) (by kernel_rfl) (by simp) ?_
                      refine (rdc (fun K hK => ?_) (rdc (fun K hK => ?_) AllReadyH.nil))
                      · go_simp
                        refine hK.out _ _ hHeld (fun hHeld2 => ?_)
                        clear hK K hHeld2
                        try simp only [Act.put, List.setIfInBounds_toArray, List.set_cons_zero, List.set_cons_succ]
                        refine rd1 3 (fun K hK => ?_)
                        go_simp
                        refine hK.out _ _ hHeld (fun hHeld2 => ?_)
                        clear hK K hHeld2
                        try simp only [Act.put, List.setIfInBounds_toArray, List.set_cons_zero, List.set_cons_succ]
                        refine tk 10 (v := ?_) ?_ ?_
                        rotate_left
                        · intro w hSw; (try dsimp only at hSw); go_simp; (try with_reducible rfl)
                        try simp only [Act.put, List.setIfInBounds_toArray, List.set_cons_zero, List.set_cons_succ]
                        refine tk 11 (v := ?_) ?_ ?_
                        rotate_left
                        · intro w hSw; (try dsimp only at hSw); go_simp; (try with_reducible rfl)
                        try simp only [Act.put, List.setIfInBounds_toArray, List.set_cons_zero, List.set_cons_succ]
                        refine tk 12 (v := ?_) ?_ ?_
                        rotate_left
                        · intro w hSw; (try dsimp only at hSw); go_simp; (try with_reducible rfl)
                        try simp only [Act.put, List.setIfInBounds_toArray, List.set_cons_zero, List.set_cons_succ]
                        refine rd1 13 (fun K hK => ?_)
                        go_simp
                        have g9 := set_grown w5 G 1 (.int .i64 x2)
                        replace OA : Hid (OwnW w02 (w5.setCell ⟨G, 1, none⟩ (.int .i64 x2)) u out) := hid ⟨OA.out.1.setCell (p := ⟨G, 1, none⟩) (show w02.heap.size ≤ G by have := HG.out; have := OG.out; omega) _, own_other OA.out.2 g9 (fun g hg => by have := (OW.out.2.lt g hg).2; have := HG.out; omega)⟩
                        replace KB : Hid (Kp wr (w5.setCell ⟨G, 1, none⟩ (.int .i64 x2)) G (.cells #[.int .i64 x0, .int .i64 x2] 65)) := hid (kp_set (j := 1) (v := .int .i64 x2) KB.out)
                        refine hK.out _ _ ⟨kp_cell (j := 1) (v := .slice a9 a10 a11) (KO.out.step OA.out.1) rfl, kp_cell (j := 0) (v := .int .i64 x0) KB.out rfl⟩ (fun hHeld2 => ?_)
                        clear hK K hHeld hHeld2 g9 cx1 fx1
                        try simp only [Act.put, List.setIfInBounds_toArray, List.set_cons_zero, List.set_cons_succ]
                        refine wpAnyH_done (by kernel_rfl) ?_ _
                        refine NoPanic.normal ?_
                        try go_wp2_with fail
                        go_meet
                        exact ⟨rfl, KB, OA⟩
                      · go_simp
                        refine hK.out _ _ hHeld (fun hHeld2 => ?_)
                        clear hK K hHeld2
                        try simp only [Act.put, List.setIfInBounds_toArray, List.set_cons_zero, List.set_cons_succ]
                        refine tk 10 (v := ?_) ?_ ?_
                        rotate_left
                        · intro w hSw; (try dsimp only at hSw); go_simp; (try with_reducible rfl)
                        try simp only [Act.put, List.setIfInBounds_toArray, List.set_cons_zero, List.set_cons_succ]
                        refine rd1 1 (fun K hK => ?_)
                        go_simp
                        refine hK.out _ _ hHeld (fun hHeld2 => ?_)
                        clear hK K hHeld2
                        try simp only [Act.put, List.setIfInBounds_toArray, List.set_cons_zero, List.set_cons_succ]
                        refine tk 11 (v := ?_) ?_ ?_
                        rotate_left
                        · intro w hSw; (try dsimp only at hSw); go_simp; (try with_reducible rfl)
                        try simp only [Act.put, List.setIfInBounds_toArray, List.set_cons_zero, List.set_cons_succ]
                        refine tk 12 (v := ?_) ?_ ?_
                        rotate_left
                        · intro w hSw; (try dsimp only at hSw); go_simp; (try with_reducible rfl)
                        try simp only [Act.put, List.setIfInBounds_toArray, List.set_cons_zero, List.set_cons_succ]
                        refine rd1 13 (fun K hK => ?_)
                        go_simp
                        have g9 := set_grown w5 G 1 (.int .i64 x2)
                        replace OA : Hid (OwnW w02 (w5.setCell ⟨G, 1, none⟩ (.int .i64 x2)) u out) := hid ⟨OA.out.1.setCell (p := ⟨G, 1, none⟩) (show w02.heap.size ≤ G by have := HG.out; have := OG.out; omega) _, own_other OA.out.2 g9 (fun g hg => by have := (OW.out.2.lt g hg).2; have := HG.out; omega)⟩
                        replace KB : Hid (Kp wr (w5.setCell ⟨G, 1, none⟩ (.int .i64 x2)) G (.cells #[.int .i64 x0, .int .i64 x2] 65)) := hid (kp_set (j := 1) (v := .int .i64 x2) KB.out)
                        refine hK.out _ _ ⟨kp_cell (j := 1) (v := .slice a9 a10 a11) (KO.out.step OA.out.1) rfl, kp_cell (j := 0) (v := .int .i64 x0) KB.out rfl⟩ (fun hHeld2 => ?_)
                        clear hK K hHeld hHeld2 g9 cx1 fx1
                        try simp only [Act.put, List.setIfInBounds_toArray, List.set_cons_zero, List.set_cons_succ]
                        refine wpAnyH_done (by kernel_rfl) ?_ _
                        refine NoPanic.normal ?_
                        try go_wp2_with fail
                        go_meet
                        exact ⟨rfl, KB, OA⟩
                case rest =>
                  obtain ⟨rfl, KB, OA⟩ := hcut
                  rename World => wc
                  obtain ⟨d0, d1⟩ := box_two KB.out.2.2
                  by_cases hp : 0 < x2
                  · have hpd : decide (0 < x2) = true := decide_eq_true hp
                    have HPP := hid hp
                    clear hp
                    go_wp2_with (at_builtin; refine append_run rfl (.tmp 56) (.tmp 58) rfl w02.heap.size u out _ x0 x2 rfl (OA.out.alloc (.cells #[.int .i64 x0, .int .i64 x2] 65)).2 rfl (hnew (by simp)) (by have := OL.out; omega) (by have := (OA.out.alloc (.cells #[.int .i64 x0, .int .i64 x2] 65)).1.size; omega) ?_; intro u1 w1 ho1 hg1; have O1 := hid (OwnW.grown (OA.out.alloc (.cells #[.int .i64 x0, .int .i64 x2] 65)) hg1 ho1); clear ho1 hg1)
                    go_roundw
                    case rel => exact ⟨k + 1, u1, _, by omega, by go_num, rfl, hid (by rw [lefd_step HR.out, HX2.out, if_pos HPP.out, HO.out]), O1⟩
                    case measure => simp [intOf]; omega
                  · have hpd : decide (0 < x2) = false := decide_eq_false hp
                    have HPP := hid hp
                    clear hp
                    go_wp2
                    go_roundw
                    case rel => exact ⟨k + 1, u, _, by omega, by go_num, rfl, hid (by rw [lefd_step HR.out, HX2.out, if_neg HPP.out, HO.out, List.append_nil]), OA⟩
                    case measure => simp [intOf]; omega
              · have hkf : decide ((k : Int) < (a4 : Int)) = false := decide_eq_false (by omega)
                have HE : Hid (out = lefd X.i1 X.o1) := hid (by rw [HO.out, List.take_of_length_le (by have := HX.out.1.2.lens.1; omega)])
                have ltD := heap_lt KD.out.2.2
                obtain ⟨Ap1, cp1, eu, hrp1⟩ := own_any OW.out.2
                subst eu
                have FRp1 : Hid (0 < out.length → ∀ b off, Ap1 = some ⟨b, off, none⟩ → N3 < b) := hid (fun h b off e => by subst e; have := (OW.out.2.lt b rfl).1; omega)
                clear ltD
                have Rp1 := hid hrp1
                clear hrp1
                obtain ⟨np1, en⟩ : ∃ y, out.length = y := ⟨_, rfl⟩
                rw [en] at Rp1 FRp1
                (try rw [en])
                clear en
                have Lp1 : Hid (np1 ≤ 1000) := hid (by have := Rp1.out.lens.1; have := OL.out; omega)
                have hBn := OW.out.1
                replace KI := hid (KI.out.step hBn)
                replace KO := hid (KO.out.step hBn)
                replace KR := hid (KR.out.step hBn)
                replace KD := hid (KD.out.step hBn)
                replace Rp0 := hid (Rp0.out.below hBn)
                replace Rq0 := hid (Rq0.out.below hBn)
                have Ep1 : Hid (out = lefd X.i1 X.o1) := HE
                clear hBn OW OL HO HE
                rename World => Wp1
                generalize out = Lp1l at Rp1 Ep1
                go_upto_region 13 with fail
                clear hdr hkf
                go_wp2
                have bnq1 : a10 ≤ 1000 := by have := HP.out; omega
                go_loopw [12, 15] (fun so kk wr => ∃ (k : Nat) (u : Value) (out : List Rn), k ≤ a10 ∧ kk = .int .i64 k ∧ u = so ∧ Hid (out = lefd (X.o1.take k) X.i1) ∧ Hid (OwnW Wp1 wr u out)) (fun _ kk _ => a10 - (intOf kk).toNat)
                case atStart => exact ⟨0, _, [], by omega, rfl, rfl, hid rfl, hid ⟨Below.refl _ _, own_nil _ _⟩⟩
                case round =>
                  obtain ⟨k, u, out, hkm, rfl, rfl, HO, OW⟩ := hrel
                  have hk0 : (0 : Int) ≤ (k : Int) := by omega
                  have OL : Hid (out.length ≤ 1000) := hid (by rw [HO.out]; have h1 := lefd_len (X.o1.take k) X.i1; rw [List.length_take] at h1; have h2 := HP.out; have h3 := HX.out.2.2.lens.1; omega)
                  have hdr := kp_cell (j := 1) (v := .slice a9 a10 a11) (KO.out.step OW.out.1) rfl
                  by_cases hlt : k < a10
                  · have hki : (k : Int) < (a10 : Int) := by omega
                    obtain ⟨b, off, x0, x1, ea, hb, hr, p0, p1⟩ := HX.out.2.2.pick (bt KO.out.1 OW.out.1) hlt
                    subst ea
                    have HR := hid hr
                    have hs := run_small HB.out.2.2 hr
                    simp only at hs
                    obtain ⟨hs1, hs2⟩ := hs
                    obtain ⟨C, hC⟩ : ∃ C, cn x0 X.i1 = C := ⟨_, rfl⟩
                    have QC := hid hC
                    have HC : Hid (hs x0 X.i1 = C) := hid (by rw [hs_yes (gd_yes HB.out.2.1), hC])
                    have hcn := cn_nn (v := x0) HB.out.2.1.2.1
                    rw [hC] at hcn
                    obtain ⟨z, hz⟩ : ∃ z, min x1 C = z := ⟨_, rfl⟩
                    have hz2 : (if x1 ≤ C then x1 else C) = z := by rw [← hz]; split <;> omega
                    obtain ⟨x2, hx2⟩ : ∃ y, x1 - z = y := ⟨_, rfl⟩
                    have hw2 : IntKind.i64.wrap (x1 - z) = x2 := by rw [IntWalk.i64_in _ (by omega)]; exact hx2
                    have HX2 : Hid (x1 - min x1 (cn x0 X.i1) = x2) := hid (by rw [hC, hz]; exact hx2)
                    have HH2 := hid hs2
                    clear hr hC hcn hx2 hs1 hs2
                    go_upto_region 17 with fail
                    have KB := hid (kp_new wr (.cells #[.int .i64 x0, .int .i64 x1] 65))
                    have OA := hid (OW.out.alloc (.cells #[.int .i64 x0, .int .i64 x1] 65))
                    have OG := hid OW.out.1.size
                    clear hdr p0 p1
                    generalize wr.alloc (.cells #[.int .i64 x0, .int .i64 x1] 65) = w3 at KB OA ⊢
                    obtain ⟨G, hG⟩ : ∃ y, wr.heap.size = y := ⟨_, rfl⟩
                    rw [hG] at KB ⊢
                    have HG := hid hG
                    clear hG
                    go_cut [85] (fun p wx => p = .int .i64 x2 ∧ Hid (Kp wr wx G (.cells #[.int .i64 x0, .int .i64 x2] 65)) ∧ Hid (OwnW Wp1 wx u out))
                    case first =>
                        refine wp_region_noPanic ?_
                        refine wp_region_held_drew (S := fun y => y.cell? ⟨N0, 1, none⟩ = some (.slice a3 a4 a5) ∧ y.cell? ⟨G, 0, none⟩ = some (.int .i64 x0)) (by kernel_rfl) (⟨kp_cell (j := 1) (v := .slice a3 a4 a5) (KI.out.step OA.out.1) rfl, kp_cell (j := 0) (v := .int .i64 x0) KB.out rfl⟩) (fun hHeld => ?_)
                        replace KB := hid (KB.out.step (bdrew (Below.refl _ _)))
                        replace OA := hid (OA.out.step (bdrew (Below.refl _ _)))
                        generalize w3.drew = w4 at KB OA hHeld ⊢
                        have cx1 := kp_cell (j := 1) (v := .int .i64 x1) KB.out rfl
                        have fx1 := kp_froz KB.out 1
                        refine tk 0 (v := ?_) ?_ ?_
                        rotate_left
                        · intro w hSw; (try dsimp only at hSw); go_simp; (try with_reducible rfl)
                        try simp only [Act.put, List.setIfInBounds_toArray, List.set_cons_zero, List.set_cons_succ]
                        refine tk 2 (v := ?_) ?_ ?_
                        rotate_left
                        · intro w hSw; (try dsimp only at hSw); go_simp; (try with_reducible rfl)
                        try simp only [Act.put, List.setIfInBounds_toArray, List.set_cons_zero, List.set_cons_succ]
                        refine tk 4 (v := ?_) ?_ ?_
                        rotate_left
                        · intro w hSw; (try dsimp only at hSw); go_simp; (try with_reducible rfl)
                        try simp only [Act.put, List.setIfInBounds_toArray, List.set_cons_zero, List.set_cons_succ]
                        refine tk 5 (v := ?_) ?_ ?_
                        rotate_left
                        · intro w hSw; (try dsimp only at hSw); go_simp; (try with_reducible rfl)
                        try simp only [Act.put, List.setIfInBounds_toArray, List.set_cons_zero, List.set_cons_succ]
                        refine tk 6 (v := ?_) ?_ ?_
                        rotate_left
                        · intro w hSw; (try dsimp only at hSw); go_simp; (try with_reducible rfl)
                        try simp only [Act.put, List.setIfInBounds_toArray, List.set_cons_zero, List.set_cons_succ]
                        refine tk 7 (v := ?_) ?_ ?_
                        rotate_left
                        · intro w hSw; (try dsimp only at hSw); go_simp; (try with_reducible rfl)
                        try simp only [Act.put, List.setIfInBounds_toArray, List.set_cons_zero, List.set_cons_succ]
                        refine tk 8 (v := ?_) ?_ ?_
                        rotate_left
                        · intro w hSw; (try dsimp only at hSw); go_simp; (try with_reducible rfl)
                        try simp only [Act.put, List.setIfInBounds_toArray, List.set_cons_zero, List.set_cons_succ]
                        refine wpAnyH_ready (rs := [1, 3, 9]) (by kernel_rfl) (by simp) ?_
                        refine (rdc (fun K hK => ?_) (rdc (fun K hK => ?_) (rdc (fun K hK => ?_) AllReadyH.nil)))
                        · go_simp
                          refine hK.out _ _ hHeld (fun hHeld2 => ?_)
                          clear hK K hHeld2
                          try simp only [Act.put, List.setIfInBounds_toArray, List.set_cons_zero, List.set_cons_succ]
                          refine wpAnyH_ready (rs := [3, 9]) (by kernel_rfl) (by simp) ?_
                          refine (rdc (fun K hK => ?_) (rdc (fun K hK => ?_) AllReadyH.nil))
                          · go_simp
                            refine hK.out _ _ hHeld (fun hHeld2 => ?_)
                            clear hK K hHeld2
                            try simp only [Act.put, List.setIfInBounds_toArray, List.set_cons_zero, List.set_cons_succ]
                            refine rd1 9 (fun K hK => ?_)
                            go_simp
                            go_at_call 81; refine (rhas_m _ _ _ X.i1 x0 C _ (HX.out.1.2.below (bt KO.out.1 OA.out.1)) HK.out.2.1.2 HC).mono ?_; rintro e w5 ⟨rfl, hb⟩
                            replace KB := hid (KB.out.step hb)
                            replace OA := hid (OA.out.step hb)
                            refine hK.out _ _ ⟨kp_cell (j := 1) (v := .slice a3 a4 a5) (KI.out.step OA.out.1) rfl, kp_cell (j := 0) (v := .int .i64 x0) KB.out rfl⟩ (fun hHeld2 => ?_)
                            clear hK K hHeld
                            have hHeld := hHeld2
                            clear hHeld2 hb cx1 fx1
                            have cx1 := kp_cell (j := 1) (v := .int .i64 x1) KB.out rfl
                            have fx1 := kp_froz KB.out 1
                            try simp only [Act.put, List.setIfInBounds_toArray, List.set_cons_zero, List.set_cons_succ]
                            refine tk 10 (v := ?_) ?_ ?_
                            rotate_left
                            · intro w hSw; (try dsimp only at hSw); go_simp; (try with_reducible rfl)
                            try simp only [Act.put, List.setIfInBounds_toArray, List.set_cons_zero, List.set_cons_succ]
                            refine tk 11 (v := ?_) ?_ ?_
                            rotate_left
                            · intro w hSw; (try dsimp only at hSw); go_simp; (try with_reducible rfl)
                            try simp only [Act.put, List.setIfInBounds_toArray, List.set_cons_zero, List.set_cons_succ]
                            refine tk 12 (v := ?_) ?_ ?_
                            rotate_left
                            · intro w hSw; (try dsimp only at hSw); go_simp; (try with_reducible rfl)
                            try simp only [Act.put, List.setIfInBounds_toArray, List.set_cons_zero, List.set_cons_succ]
                            refine rd1 13 (fun K hK => ?_)
                            go_simp
                            have g9 := set_grown w5 G 1 (.int .i64 x2)
                            replace OA : Hid (OwnW Wp1 (w5.setCell ⟨G, 1, none⟩ (.int .i64 x2)) u out) := hid ⟨OA.out.1.setCell (p := ⟨G, 1, none⟩) (show Wp1.heap.size ≤ G by have := HG.out; have := OG.out; omega) _, own_other OA.out.2 g9 (fun g hg => by have := (OW.out.2.lt g hg).2; have := HG.out; omega)⟩
                            replace KB : Hid (Kp wr (w5.setCell ⟨G, 1, none⟩ (.int .i64 x2)) G (.cells #[.int .i64 x0, .int .i64 x2] 65)) := hid (kp_set (j := 1) (v := .int .i64 x2) KB.out)
                            refine hK.out _ _ ⟨kp_cell (j := 1) (v := .slice a3 a4 a5) (KI.out.step OA.out.1) rfl, kp_cell (j := 0) (v := .int .i64 x0) KB.out rfl⟩ (fun hHeld2 => ?_)
                            clear hK K hHeld hHeld2 g9 cx1 fx1
                            try simp only [Act.put, List.setIfInBounds_toArray, List.set_cons_zero, List.set_cons_succ]
                            refine wpAnyH_done (by kernel_rfl) ?_ _
                            refine NoPanic.normal ?_
                            try go_wp2_with fail
                            go_meet
                            exact ⟨rfl, KB, OA⟩
                          · go_simp
                            go_at_call 81; refine (rhas_m _ _ _ X.i1 x0 C _ (HX.out.1.2.below (bt KO.out.1 OA.out.1)) HK.out.2.1.2 HC).mono ?_; rintro e w5 ⟨rfl, hb⟩
                            replace KB := hid (KB.out.step hb)
                            replace OA := hid (OA.out.step hb)
                            refine hK.out _ _ ⟨kp_cell (j := 1) (v := .slice a3 a4 a5) (KI.out.step OA.out.1) rfl, kp_cell (j := 0) (v := .int .i64 x0) KB.out rfl⟩ (fun hHeld2 => ?_)
                            clear hK K hHeld
                            have hHeld := hHeld2
                            clear hHeld2 hb cx1 fx1
                            have cx1 := kp_cell (j := 1) (v := .int .i64 x1) KB.out rfl
                            have fx1 := kp_froz KB.out 1
                            try simp only [Act.put, List.setIfInBounds_toArray, List.set_cons_zero, List.set_cons_succ]
                            refine rd1 3 (fun K hK => ?_)
                            go_simp
                            refine hK.out _ _ hHeld (fun hHeld2 => ?_)
                            clear hK K hHeld2
                            try simp only [Act.put, List.setIfInBounds_toArray, List.set_cons_zero, List.set_cons_succ]
                            refine tk 10 (v := ?_) ?_ ?_
                            rotate_left
                            · intro w hSw; (try dsimp only at hSw); go_simp; (try with_reducible rfl)
                            try simp only [Act.put, List.setIfInBounds_toArray, List.set_cons_zero, List.set_cons_succ]
                            refine tk 11 (v := ?_) ?_ ?_
                            rotate_left
                            · intro w hSw; (try dsimp only at hSw); go_simp; (try with_reducible rfl)
                            try simp only [Act.put, List.setIfInBounds_toArray, List.set_cons_zero, List.set_cons_succ]
                            refine tk 12 (v := ?_) ?_ ?_
                            rotate_left
                            · intro w hSw; (try dsimp only at hSw); go_simp; (try with_reducible rfl)
                            try simp only [Act.put, List.setIfInBounds_toArray, List.set_cons_zero, List.set_cons_succ]
                            refine rd1 13 (fun K hK => ?_)
                            go_simp
                            have g9 := set_grown w5 G 1 (.int .i64 x2)
                            replace OA : Hid (OwnW Wp1 (w5.setCell ⟨G, 1, none⟩ (.int .i64 x2)) u out) := hid ⟨OA.out.1.setCell (p := ⟨G, 1, none⟩) (show Wp1.heap.size ≤ G by have := HG.out; have := OG.out; omega) _, own_other OA.out.2 g9 (fun g hg => by have := (OW.out.2.lt g hg).2; have := HG.out; omega)⟩
                            replace KB : Hid (Kp wr (w5.setCell ⟨G, 1, none⟩ (.int .i64 x2)) G (.cells #[.int .i64 x0, .int .i64 x2] 65)) := hid (kp_set (j := 1) (v := .int .i64 x2) KB.out)
                            refine hK.out _ _ ⟨kp_cell (j := 1) (v := .slice a3 a4 a5) (KI.out.step OA.out.1) rfl, kp_cell (j := 0) (v := .int .i64 x0) KB.out rfl⟩ (fun hHeld2 => ?_)
                            clear hK K hHeld hHeld2 g9 cx1 fx1
                            try simp only [Act.put, List.setIfInBounds_toArray, List.set_cons_zero, List.set_cons_succ]
                            refine wpAnyH_done (by kernel_rfl) ?_ _
                            refine NoPanic.normal ?_
                            try go_wp2_with fail
                            go_meet
                            exact ⟨rfl, KB, OA⟩
                        · go_simp
                          refine hK.out _ _ hHeld (fun hHeld2 => ?_)
                          clear hK K hHeld2
                          try simp only [Act.put, List.setIfInBounds_toArray, List.set_cons_zero, List.set_cons_succ]
                          refine wpAnyH_ready (rs := [1, 9]) (by kernel_rfl) (by simp) ?_
                          refine (rdc (fun K hK => ?_) (rdc (fun K hK => ?_) AllReadyH.nil))
                          · go_simp
                            refine hK.out _ _ hHeld (fun hHeld2 => ?_)
                            clear hK K hHeld2
                            try simp only [Act.put, List.setIfInBounds_toArray, List.set_cons_zero, List.set_cons_succ]
                            refine rd1 9 (fun K hK => ?_)
                            go_simp
                            go_at_call 81; refine (rhas_m _ _ _ X.i1 x0 C _ (HX.out.1.2.below (bt KO.out.1 OA.out.1)) HK.out.2.1.2 HC).mono ?_; rintro e w5 ⟨rfl, hb⟩
                            replace KB := hid (KB.out.step hb)
                            replace OA := hid (OA.out.step hb)
                            refine hK.out _ _ ⟨kp_cell (j := 1) (v := .slice a3 a4 a5) (KI.out.step OA.out.1) rfl, kp_cell (j := 0) (v := .int .i64 x0) KB.out rfl⟩ (fun hHeld2 => ?_)
                            clear hK K hHeld
                            have hHeld := hHeld2
                            clear hHeld2 hb cx1 fx1
                            have cx1 := kp_cell (j := 1) (v := .int .i64 x1) KB.out rfl
                            have fx1 := kp_froz KB.out 1
                            try simp only [Act.put, List.setIfInBounds_toArray, List.set_cons_zero, List.set_cons_succ]
                            refine tk 10 (v := ?_) ?_ ?_
                            rotate_left
                            · intro w hSw; (try dsimp only at hSw); go_simp; (try with_reducible rfl)
                            try simp only [Act.put, List.setIfInBounds_toArray, List.set_cons_zero, List.set_cons_succ]
                            refine tk 11 (v := ?_) ?_ ?_
                            rotate_left
                            · intro w hSw; (try dsimp only at hSw); go_simp; (try with_reducible rfl)
                            try simp only [Act.put, List.setIfInBounds_toArray, List.set_cons_zero, List.set_cons_succ]
                            refine tk 12 (v := ?_) ?_ ?_
                            rotate_left
                            · intro w hSw; (try dsimp only at hSw); go_simp; (try with_reducible rfl)
                            try simp only [Act.put, List.setIfInBounds_toArray, List.set_cons_zero, List.set_cons_succ]
                            refine rd1 13 (fun K hK => ?_)
                            go_simp
                            have g9 := set_grown w5 G 1 (.int .i64 x2)
                            replace OA : Hid (OwnW Wp1 (w5.setCell ⟨G, 1, none⟩ (.int .i64 x2)) u out) := hid ⟨OA.out.1.setCell (p := ⟨G, 1, none⟩) (show Wp1.heap.size ≤ G by have := HG.out; have := OG.out; omega) _, own_other OA.out.2 g9 (fun g hg => by have := (OW.out.2.lt g hg).2; have := HG.out; omega)⟩
                            replace KB : Hid (Kp wr (w5.setCell ⟨G, 1, none⟩ (.int .i64 x2)) G (.cells #[.int .i64 x0, .int .i64 x2] 65)) := hid (kp_set (j := 1) (v := .int .i64 x2) KB.out)
                            refine hK.out _ _ ⟨kp_cell (j := 1) (v := .slice a3 a4 a5) (KI.out.step OA.out.1) rfl, kp_cell (j := 0) (v := .int .i64 x0) KB.out rfl⟩ (fun hHeld2 => ?_)
                            clear hK K hHeld hHeld2 g9 cx1 fx1
                            try simp only [Act.put, List.setIfInBounds_toArray, List.set_cons_zero, List.set_cons_succ]
                            refine wpAnyH_done (by kernel_rfl) ?_ _
                            refine NoPanic.normal ?_
                            try go_wp2_with fail
                            go_meet
                            exact ⟨rfl, KB, OA⟩
                          · go_simp
                            go_at_call 81; refine (rhas_m _ _ _ X.i1 x0 C _ (HX.out.1.2.below (bt KO.out.1 OA.out.1)) HK.out.2.1.2 HC).mono ?_; rintro e w5 ⟨rfl, hb⟩
                            replace KB := hid (KB.out.step hb)
                            replace OA := hid (OA.out.step hb)
                            refine hK.out _ _ ⟨kp_cell (j := 1) (v := .slice a3 a4 a5) (KI.out.step OA.out.1) rfl, kp_cell (j := 0) (v := .int .i64 x0) KB.out rfl⟩ (fun hHeld2 => ?_)
                            clear hK K hHeld
                            have hHeld := hHeld2
                            clear hHeld2 hb cx1 fx1
                            have cx1 := kp_cell (j := 1) (v := .int .i64 x1) KB.out rfl
                            have fx1 := kp_froz KB.out 1
                            try simp only [Act.put, List.setIfInBounds_toArray, List.set_cons_zero, List.set_cons_succ]
                            refine tk 10 (v := ?_) ?_ ?_
                            rotate_left
                            · intro w hSw; (try dsimp only at hSw); go_simp; (try with_reducible rfl)
                            try simp only [Act.put, List.setIfInBounds_toArray, List.set_cons_zero, List.set_cons_succ]
                            refine rd1 1 (fun K hK => ?_)
                            go_simp
                            refine hK.out _ _ hHeld (fun hHeld2 => ?_)
                            clear hK K hHeld2
                            try simp only [Act.put, List.setIfInBounds_toArray, List.set_cons_zero, List.set_cons_succ]
                            refine tk 11 (v := ?_) ?_ ?_
                            rotate_left
                            · intro w hSw; (try dsimp only at hSw); go_simp; (try with_reducible rfl)
                            try simp only [Act.put, List.setIfInBounds_toArray, List.set_cons_zero, List.set_cons_succ]
                            refine tk 12 (v := ?_) ?_ ?_
                            rotate_left
                            · intro w hSw; (try dsimp only at hSw); go_simp; (try with_reducible rfl)
                            try simp only [Act.put, List.setIfInBounds_toArray, List.set_cons_zero, List.set_cons_succ]
                            refine rd1 13 (fun K hK => ?_)
                            go_simp
                            have g9 := set_grown w5 G 1 (.int .i64 x2)
                            replace OA : Hid (OwnW Wp1 (w5.setCell ⟨G, 1, none⟩ (.int .i64 x2)) u out) := hid ⟨OA.out.1.setCell (p := ⟨G, 1, none⟩) (show Wp1.heap.size ≤ G by have := HG.out; have := OG.out; omega) _, own_other OA.out.2 g9 (fun g hg => by have := (OW.out.2.lt g hg).2; have := HG.out; omega)⟩
                            replace KB : Hid (Kp wr (w5.setCell ⟨G, 1, none⟩ (.int .i64 x2)) G (.cells #[.int .i64 x0, .int .i64 x2] 65)) := hid (kp_set (j := 1) (v := .int .i64 x2) KB.out)
                            refine hK.out _ _ ⟨kp_cell (j := 1) (v := .slice a3 a4 a5) (KI.out.step OA.out.1) rfl, kp_cell (j := 0) (v := .int .i64 x0) KB.out rfl⟩ (fun hHeld2 => ?_)
                            clear hK K hHeld hHeld2 g9 cx1 fx1
                            try simp only [Act.put, List.setIfInBounds_toArray, List.set_cons_zero, List.set_cons_succ]
                            refine wpAnyH_done (by kernel_rfl) ?_ _
                            refine NoPanic.normal ?_
                            try go_wp2_with fail
                            go_meet
                            exact ⟨rfl, KB, OA⟩
                        · go_simp
                          go_at_call 81; refine (rhas_m _ _ _ X.i1 x0 C _ (HX.out.1.2.below (bt KO.out.1 OA.out.1)) HK.out.2.1.2 HC).mono ?_; rintro e w5 ⟨rfl, hb⟩
                          replace KB := hid (KB.out.step hb)
                          replace OA := hid (OA.out.step hb)
                          refine hK.out _ _ ⟨kp_cell (j := 1) (v := .slice a3 a4 a5) (KI.out.step OA.out.1) rfl, kp_cell (j := 0) (v := .int .i64 x0) KB.out rfl⟩ (fun hHeld2 => ?_)
                          clear hK K hHeld
                          have hHeld := hHeld2
                          clear hHeld2 hb cx1 fx1
                          have cx1 := kp_cell (j := 1) (v := .int .i64 x1) KB.out rfl
                          have fx1 := kp_froz KB.out 1
                          try simp only [Act.put, List.setIfInBounds_toArray, List.set_cons_zero, List.set_cons_succ]
                          refine wpAnyH_ready (rs := [1, 3]) (by kernel_rfl) (by simp) ?_
                          refine (rdc (fun K hK => ?_) (rdc (fun K hK => ?_) AllReadyH.nil))
                          · go_simp
                            refine hK.out _ _ hHeld (fun hHeld2 => ?_)
                            clear hK K hHeld2
                            try simp only [Act.put, List.setIfInBounds_toArray, List.set_cons_zero, List.set_cons_succ]
                            refine rd1 3 (fun K hK => ?_)
                            go_simp
                            refine hK.out _ _ hHeld (fun hHeld2 => ?_)
                            clear hK K hHeld2
                            try simp only [Act.put, List.setIfInBounds_toArray, List.set_cons_zero, List.set_cons_succ]
                            refine tk 10 (v := ?_) ?_ ?_
                            rotate_left
                            · intro w hSw; (try dsimp only at hSw); go_simp; (try with_reducible rfl)
                            try simp only [Act.put, List.setIfInBounds_toArray, List.set_cons_zero, List.set_cons_succ]
                            refine tk 11 (v := ?_) ?_ ?_
                            rotate_left
                            · intro w hSw; (try dsimp only at hSw); go_simp; (try with_reducible rfl)
                            try simp only [Act.put, List.setIfInBounds_toArray, List.set_cons_zero, List.set_cons_succ]
                            refine tk 12 (v := ?_) ?_ ?_
                            rotate_left
                            · intro w hSw; (try dsimp only at hSw); go_simp; (try with_reducible rfl)
                            try simp only [Act.put, List.setIfInBounds_toArray, List.set_cons_zero, List.set_cons_succ]
                            refine rd1 13 (fun K hK => ?_)
                            go_simp
                            have g9 := set_grown w5 G 1 (.int .i64 x2)
                            replace OA : Hid (OwnW Wp1 (w5.setCell ⟨G, 1, none⟩ (.int .i64 x2)) u out) := hid ⟨OA.out.1.setCell (p := ⟨G, 1, none⟩) (show Wp1.heap.size ≤ G by have := HG.out; have := OG.out; omega) _, own_other OA.out.2 g9 (fun g hg => by have := (OW.out.2.lt g hg).2; have := HG.out; omega)⟩
                            replace KB : Hid (Kp wr (w5.setCell ⟨G, 1, none⟩ (.int .i64 x2)) G (.cells #[.int .i64 x0, .int .i64 x2] 65)) := hid (kp_set (j := 1) (v := .int .i64 x2) KB.out)
                            refine hK.out _ _ ⟨kp_cell (j := 1) (v := .slice a3 a4 a5) (KI.out.step OA.out.1) rfl, kp_cell (j := 0) (v := .int .i64 x0) KB.out rfl⟩ (fun hHeld2 => ?_)
                            clear hK K hHeld hHeld2 g9 cx1 fx1
                            try simp only [Act.put, List.setIfInBounds_toArray, List.set_cons_zero, List.set_cons_succ]
                            refine wpAnyH_done (by kernel_rfl) ?_ _
                            refine NoPanic.normal ?_
                            try go_wp2_with fail
                            go_meet
                            exact ⟨rfl, KB, OA⟩
                          · go_simp
                            refine hK.out _ _ hHeld (fun hHeld2 => ?_)
                            clear hK K hHeld2
                            try simp only [Act.put, List.setIfInBounds_toArray, List.set_cons_zero, List.set_cons_succ]
                            refine tk 10 (v := ?_) ?_ ?_
                            rotate_left
                            · intro w hSw; (try dsimp only at hSw); go_simp; (try with_reducible rfl)
                            try simp only [Act.put, List.setIfInBounds_toArray, List.set_cons_zero, List.set_cons_succ]
                            refine rd1 1 (fun K hK => ?_)
                            go_simp
                            refine hK.out _ _ hHeld (fun hHeld2 => ?_)
                            clear hK K hHeld2
                            try simp only [Act.put, List.setIfInBounds_toArray, List.set_cons_zero, List.set_cons_succ]
                            refine tk 11 (v := ?_) ?_ ?_
                            rotate_left
                            · intro w hSw; (try dsimp only at hSw); go_simp; (try with_reducible rfl)
                            try simp only [Act.put, List.setIfInBounds_toArray, List.set_cons_zero, List.set_cons_succ]
                            refine tk 12 (v := ?_) ?_ ?_
                            rotate_left
                            · intro w hSw; (try dsimp only at hSw); go_simp; (try with_reducible rfl)
                            try simp only [Act.put, List.setIfInBounds_toArray, List.set_cons_zero, List.set_cons_succ]
                            refine rd1 13 (fun K hK => ?_)
                            go_simp
                            have g9 := set_grown w5 G 1 (.int .i64 x2)
                            replace OA : Hid (OwnW Wp1 (w5.setCell ⟨G, 1, none⟩ (.int .i64 x2)) u out) := hid ⟨OA.out.1.setCell (p := ⟨G, 1, none⟩) (show Wp1.heap.size ≤ G by have := HG.out; have := OG.out; omega) _, own_other OA.out.2 g9 (fun g hg => by have := (OW.out.2.lt g hg).2; have := HG.out; omega)⟩
                            replace KB : Hid (Kp wr (w5.setCell ⟨G, 1, none⟩ (.int .i64 x2)) G (.cells #[.int .i64 x0, .int .i64 x2] 65)) := hid (kp_set (j := 1) (v := .int .i64 x2) KB.out)
                            refine hK.out _ _ ⟨kp_cell (j := 1) (v := .slice a3 a4 a5) (KI.out.step OA.out.1) rfl, kp_cell (j := 0) (v := .int .i64 x0) KB.out rfl⟩ (fun hHeld2 => ?_)
                            clear hK K hHeld hHeld2 g9 cx1 fx1
                            try simp only [Act.put, List.setIfInBounds_toArray, List.set_cons_zero, List.set_cons_succ]
                            refine wpAnyH_done (by kernel_rfl) ?_ _
                            refine NoPanic.normal ?_
                            try go_wp2_with fail
                            go_meet
                            exact ⟨rfl, KB, OA⟩
                    case rest =>
                      obtain ⟨rfl, KB, OA⟩ := hcut
                      rename World => wc
                      obtain ⟨d0, d1⟩ := box_two KB.out.2.2
                      by_cases hp : 0 < x2
                      · have hpd : decide (0 < x2) = true := decide_eq_true hp
                        have HPP := hid hp
                        clear hp
                        go_wp2_with (at_builtin; refine append_run rfl (.tmp 90) (.tmp 92) rfl Wp1.heap.size u out _ x0 x2 rfl (OA.out.alloc (.cells #[.int .i64 x0, .int .i64 x2] 65)).2 rfl (hnew (by simp)) (by have := OL.out; omega) (by have := (OA.out.alloc (.cells #[.int .i64 x0, .int .i64 x2] 65)).1.size; omega) ?_; intro u1 w1 ho1 hg1; have O1 := hid (OwnW.grown (OA.out.alloc (.cells #[.int .i64 x0, .int .i64 x2] 65)) hg1 ho1); clear ho1 hg1)
                        go_roundw
                        case rel => exact ⟨k + 1, u1, _, by omega, by go_num, rfl, hid (by rw [lefd_step HR.out, HX2.out, if_pos HPP.out, HO.out]), O1⟩
                        case measure => simp [intOf]; omega
                      · have hpd : decide (0 < x2) = false := decide_eq_false hp
                        have HPP := hid hp
                        clear hp
                        go_wp2
                        go_roundw
                        case rel => exact ⟨k + 1, u, _, by omega, by go_num, rfl, hid (by rw [lefd_step HR.out, HX2.out, if_neg HPP.out, HO.out, List.append_nil]), OA⟩
                        case measure => simp [intOf]; omega
                  · have hkf : decide ((k : Int) < (a10 : Int)) = false := decide_eq_false (by omega)
                    have HE : Hid (out = lefd X.o1 X.i1) := hid (by rw [HO.out, List.take_of_length_le (by have := HX.out.2.2.lens.1; omega)])
                    have ltD := heap_lt KD.out.2.2
                    obtain ⟨Aq1, cq1, eu, hrq1⟩ := own_any OW.out.2
                    subst eu
                    have FRq1 : Hid (0 < out.length → ∀ b off, Aq1 = some ⟨b, off, none⟩ → N3 < b) := hid (fun h b off e => by subst e; have := (OW.out.2.lt b rfl).1; omega)
                    clear ltD
                    have Rq1 := hid hrq1
                    clear hrq1
                    obtain ⟨nq1, en⟩ : ∃ y, out.length = y := ⟨_, rfl⟩
                    rw [en] at Rq1 FRq1
                    (try rw [en])
                    clear en
                    have Lq1 : Hid (nq1 ≤ 1000) := hid (by have := Rq1.out.lens.1; have := OL.out; omega)
                    have hBn := OW.out.1
                    replace KI := hid (KI.out.step hBn)
                    replace KO := hid (KO.out.step hBn)
                    replace KR := hid (KR.out.step hBn)
                    replace KD := hid (KD.out.step hBn)
                    replace Rp0 := hid (Rp0.out.below hBn)
                    replace Rq0 := hid (Rq0.out.below hBn)
                    replace Rp1 := hid (Rp1.out.below hBn)
                    have Eq1 : Hid (out = lefd X.o1 X.i1) := HE
                    clear hBn OW OL HO HE
                    rename World => Wq1
                    generalize out = Lq1l at Rq1 Eq1
                    go_upto_region 20 with fail
                    clear hdr hkf
                    obtain ⟨Y1, hY1⟩ : ∃ y, wsum Lp1l - wsum Lq1l = y := ⟨_, rfl⟩
                    obtain ⟨S1, hS1⟩ : ∃ y, calc.fitV Y1 = y := ⟨_, rfl⟩
                    obtain ⟨f1, hf1⟩ : ∃ y, calc.fitB Y1 = y := ⟨_, rfl⟩
                    have FY1 := hid hY1
                    have FS1 := hid hS1
                    have FF1 := hid hf1
                    clear hY1 hS1 hf1
                    have BP1 : Hid (Bag Lp1l) := hid (by rw [Ep1.out]; exact lefd_bag HB.out.2.1 HB.out.2.2)
                    have BQ1 : Hid (Bag Lq1l) := hid (by rw [Eq1.out]; exact lefd_bag HB.out.2.2 HB.out.2.1)
                    have KP1 : Hid (∀ r ∈ Lp1l, nok r) := hid (by rw [Ep1.out]; exact lefd_nok HK.out.2.1.2 HB.out.2.1.2.1 HB.out.2.2.2.1)
                    have KQ1 : Hid (∀ r ∈ Lq1l, nok r) := hid (by rw [Eq1.out]; exact lefd_nok HK.out.2.2.2 HB.out.2.2.2.1 HB.out.2.1.2.1)
                    have EY1 : Hid (wsum X.i1 - wsum X.o1 = Y1) := hid (by rw [← FY1.out, Ep1.out, Eq1.out]; exact (lefd_sum HB.out.2.1 HB.out.2.2).symm)
                    go_upto_region 21 with (first
                      | (go_at_call 82; refine (rwide_m _ _ _ _ _ _ Lp1l Lq1l Y1 _ Rp1.out Rq1.out KP1.out KQ1.out BP1.out BQ1.out FY1).mono ?_; rintro e v11 ⟨rfl, hb⟩; replace KI := hid (KI.out.step hb); replace KO := hid (KO.out.step hb); replace KR := hid (KR.out.step hb); replace KD := hid (KD.out.step hb); replace Rp0 := hid (Rp0.out.below hb); replace Rq0 := hid (Rq0.out.below hb); replace Rp1 := hid (Rp1.out.below hb); replace Rq1 := hid (Rq1.out.below hb); clear hb)
                      | (go_at_call 92; refine (back_d Y1 S1 f1 _ FS1 FF1).mono ?_; rintro e v21 ⟨rfl, hb⟩; replace KI := hid (KI.out.step hb); replace KO := hid (KO.out.step hb); replace KR := hid (KR.out.step hb); replace KD := hid (KD.out.step hb); replace Rp0 := hid (Rp0.out.below hb); replace Rq0 := hid (Rq0.out.below hb); replace Rp1 := hid (Rp1.out.below hb); replace Rq1 := hid (Rq1.out.below hb); clear hb))
                    cases f1 with
                    | false =>
                      have HZ := hid (And.intro (hC.out.symm.trans (xdC_no (xd_f1 (by rw [EY1.out]; exact FF1.out)))) (hv.out.symm.trans (xd_f1 (by rw [EY1.out]; exact FF1.out))))
                      go_wp2_with (refine wpList_store_whole rfl 78 (.tmp 8) (.tmp 103) rfl N2 (rdC 0 0 0 none 0 0 none 0 0 none 0 0 none 0 0 false) rfl rfl 78 _ KR.out.2.2 rfl (by show _ = some 8; exact size_rd) (rdC_one _ _ _ _ _ _ _ _ _ _ _ _ _ _ _ _) ?_; intro w9 hp9 hg9; have KR9 := hid (kp_at KR.out hg9 hp9); clear hp9 hg9)
                      (try simp only [Exit.inBlock, Exit.then])
                      show bodyPost Try.prog Try.f76 _ _ _ _
                      refine bodyPost_ret (results_cell_row (p := 8) rfl _ _ N2 _ (rdC 0 0 0 none 0 0 none 0 0 none 0 0 none 0 0 false) (0, 0) _ rfl KR9.out.2.2 Try.underlying78 rfl (by kernel_rfl)) rfl ?_
                      obtain ⟨z1, z2⟩ := HZ.out
                      subst z1
                      subst z2
                      exact ⟨⟨none, 0, 0, none, 0, 0, none, 0, 0, none, 0, 0, rfl, dw_0 _, fd_0 _⟩, KR9.out.1⟩
                    | true =>
                    have cz := kp_cell (j := 2) (v := .int .i64 0) KD.out rfl
                    have fz := kp_froz KD.out 2
                    go_upto_region 24 with fail
                    clear cz fz
                    have g9 := set_grown v21 N3 2 (.int .i64 S1)
                    replace KI := hid (kp_gr KI.out g9 (by have := HN.out; omega) (by have := HN.out; omega))
                    replace KO := hid (kp_gr KO.out g9 (by have := HN.out; omega) (by have := HN.out; omega))
                    replace KR := hid (kp_gr KR.out g9 (by have := HN.out; omega) (by have := HN.out; omega))
                    replace Rp0 := hid (Rp0.out.apart g9 (fun h b' o' e => by have := FRp0.out h b' o' e; omega))
                    replace Rq0 := hid (Rq0.out.apart g9 (fun h b' o' e => by have := FRq0.out h b' o' e; omega))
                    replace Rp1 := hid (Rp1.out.apart g9 (fun h b' o' e => by have := FRp1.out h b' o' e; omega))
                    replace Rq1 := hid (Rq1.out.apart g9 (fun h b' o' e => by have := FRq1.out h b' o' e; omega))
                    replace KD : Hid (Kp w (v21.setCell ⟨N3, 2, none⟩ (.int .i64 S1)) N3 (.cells #[.int .i64 X.n, .int .i64 S0, .int .i64 S1, .slice Ap0 np0 cp0, .slice none 0 0, .slice Aq0 nq0 cq0, .slice none 0 0] 68)) := hid (kp_set (j := 2) (v := .int .i64 S1) KD.out)
                    clear g9
                    generalize v21.setCell ⟨N3, 2, none⟩ (.int .i64 S1) = w10 at KI KO KR KD Rp0 Rq0 Rp1 Rq1 ⊢
                    have cz := kp_cell (j := 4) (v := .slice none 0 0) KD.out rfl
                    have fz := kp_froz KD.out 4
                    go_upto_region 25 with fail
                    clear cz fz
                    have g9 := set_grown w10 N3 4 (.slice Ap1 np1 cp1)
                    replace KI := hid (kp_gr KI.out g9 (by have := HN.out; omega) (by have := HN.out; omega))
                    replace KO := hid (kp_gr KO.out g9 (by have := HN.out; omega) (by have := HN.out; omega))
                    replace KR := hid (kp_gr KR.out g9 (by have := HN.out; omega) (by have := HN.out; omega))
                    replace Rp0 := hid (Rp0.out.apart g9 (fun h b' o' e => by have := FRp0.out h b' o' e; omega))
                    replace Rq0 := hid (Rq0.out.apart g9 (fun h b' o' e => by have := FRq0.out h b' o' e; omega))
                    replace Rp1 := hid (Rp1.out.apart g9 (fun h b' o' e => by have := FRp1.out h b' o' e; omega))
                    replace Rq1 := hid (Rq1.out.apart g9 (fun h b' o' e => by have := FRq1.out h b' o' e; omega))
                    replace KD : Hid (Kp w (w10.setCell ⟨N3, 4, none⟩ (.slice Ap1 np1 cp1)) N3 (.cells #[.int .i64 X.n, .int .i64 S0, .int .i64 S1, .slice Ap0 np0 cp0, .slice Ap1 np1 cp1, .slice Aq0 nq0 cq0, .slice none 0 0] 68)) := hid (kp_set (j := 4) (v := .slice Ap1 np1 cp1) KD.out)
                    clear g9
                    generalize w10.setCell ⟨N3, 4, none⟩ (.slice Ap1 np1 cp1) = w11 at KI KO KR KD Rp0 Rq0 Rp1 Rq1 ⊢
                    have cz := kp_cell (j := 6) (v := .slice none 0 0) KD.out rfl
                    have fz := kp_froz KD.out 6
                    go_upto_region 4 with fail
                    clear cz fz
                    have g9 := set_grown w11 N3 6 (.slice Aq1 nq1 cq1)
                    replace KI := hid (kp_gr KI.out g9 (by have := HN.out; omega) (by have := HN.out; omega))
                    replace KO := hid (kp_gr KO.out g9 (by have := HN.out; omega) (by have := HN.out; omega))
                    replace KR := hid (kp_gr KR.out g9 (by have := HN.out; omega) (by have := HN.out; omega))
                    replace Rp0 := hid (Rp0.out.apart g9 (fun h b' o' e => by have := FRp0.out h b' o' e; omega))
                    replace Rq0 := hid (Rq0.out.apart g9 (fun h b' o' e => by have := FRq0.out h b' o' e; omega))
                    replace Rp1 := hid (Rp1.out.apart g9 (fun h b' o' e => by have := FRp1.out h b' o' e; omega))
                    replace Rq1 := hid (Rq1.out.apart g9 (fun h b' o' e => by have := FRq1.out h b' o' e; omega))
                    replace KD : Hid (Kp w (w11.setCell ⟨N3, 6, none⟩ (.slice Aq1 nq1 cq1)) N3 (.cells #[.int .i64 X.n, .int .i64 S0, .int .i64 S1, .slice Ap0 np0 cp0, .slice Ap1 np1 cp1, .slice Aq0 nq0 cq0, .slice Aq1 nq1 cq1] 68)) := hid (kp_set (j := 6) (v := .slice Aq1 nq1 cq1) KD.out)
                    clear g9
                    generalize w11.setCell ⟨N3, 6, none⟩ (.slice Aq1 nq1 cq1) = w12 at KI KO KR KD Rp0 Rq0 Rp1 Rq1 ⊢
                    go_wp2
                    rw [rounds_succ]
                    have I0 : Hid (I64 S0) := hid (by rw [← FS0.out, fitV_yes_d FF0.out]; exact fitB_iff.1 FF0.out)
                    have I1 : Hid (I64 S1) := hid (by rw [← FS1.out, fitV_yes_d FF1.out]; exact fitB_iff.1 FF1.out)
                    have EX : Hid (xdR 2 X.n X.i0 X.i1 X.o0 X.o1 = ⟨X.n, S0, S1, Lp0l, Lp1l, Lq0l, Lq1l⟩) := hid (by
                      unfold xdR
                      rw [EY0.out, EY1.out, ← FS0.out, fitV_yes_d FF0.out, ← FS1.out, fitV_yes_d FF1.out, Ep0.out, Eq0.out, Ep1.out, Eq1.out, lefd_is HB.out.1.1.1 HB.out.1.1.2.1 HB.out.1.2.2.1, lefd_is HB.out.1.2.1 HB.out.1.2.2.1 HB.out.1.1.2.1, lefd_is HB.out.2.1.1 HB.out.2.1.2.1 HB.out.2.2.2.1, lefd_is HB.out.2.2.1 HB.out.2.2.2.1 HB.out.2.1.2.1]
                      rfl)
                    have EB : Hid (xdB 2 X.n X.i0 X.i1 X.o0 X.o1 = dg 2 ⟨X.n, S0, S1, Lp0l, Lp1l, Lq0l, Lq1l⟩) := hid (by rw [xd_2 (by rw [EY0.out]; exact FF0.out) (by rw [EY1.out]; exact FF1.out), EX.out])
                    obtain ⟨gg, hgg⟩ : ∃ y, dg 2 ⟨X.n, S0, S1, Lp0l, Lp1l, Lq0l, Lq1l⟩ = y := ⟨_, rfl⟩
                    have FG := hid hgg
                    clear hgg
                    obtain ⟨z0, z1, z2, z3, z4, z5, z6⟩ := box_seven KD.out.2.2
                    cases gg with
                    | false =>
                      go_upto_region 27 with (go_at_call 39; refine (rdgood_m 2 ⟨X.n, S0, S1, Lp0l, Lp1l, Lq0l, Lq1l⟩ Ap0 np0 cp0 Ap1 np1 cp1 Aq0 nq0 cq0 Aq1 nq1 cq1 false _ ⟨⟨Rp0.out, Rp1.out⟩, Rq0.out, Rq1.out⟩ ⟨⟨HK.out.1.1, I0.out, I1.out⟩, ⟨KP0.out, KP1.out⟩, KQ0.out, KQ1.out⟩ FG).mono ?_; rintro e v8 ⟨rfl, hb⟩; replace KI := hid (KI.out.step hb); replace KO := hid (KO.out.step hb); replace KR := hid (KR.out.step hb); replace KD := hid (KD.out.step hb); replace Rp0 := hid (Rp0.out.below hb); replace Rq0 := hid (Rq0.out.below hb); replace Rp1 := hid (Rp1.out.below hb); replace Rq1 := hid (Rq1.out.below hb); clear hb z0 z1 z2 z3 z4 z5 z6)
                      have HZ := hid (And.intro (hC.out.symm.trans (xdC_no (EB.out.trans FG.out))) (hv.out.symm.trans (EB.out.trans FG.out)))
                      go_wp2_with (refine wpList_store_whole rfl 78 (.tmp 8) (.tmp 120) rfl N2 (rdC 0 0 0 none 0 0 none 0 0 none 0 0 none 0 0 false) rfl rfl 78 _ KR.out.2.2 rfl (by show _ = some 8; exact size_rd) (rdC_one _ _ _ _ _ _ _ _ _ _ _ _ _ _ _ _) ?_; intro w9 hp9 hg9; have KR9 := hid (kp_at KR.out hg9 hp9); clear hp9 hg9)
                      (try simp only [Exit.inBlock, Exit.then])
                      show bodyPost Try.prog Try.f76 _ _ _ _
                      refine bodyPost_ret (results_cell_row (p := 8) rfl _ _ N2 _ (rdC 0 0 0 none 0 0 none 0 0 none 0 0 none 0 0 false) (0, 0) _ rfl KR9.out.2.2 Try.underlying78 rfl (by kernel_rfl)) rfl ?_
                      obtain ⟨z1, z2⟩ := HZ.out
                      subst z1
                      subst z2
                      exact ⟨⟨none, 0, 0, none, 0, 0, none, 0, 0, none, 0, 0, rfl, dw_0 _, fd_0 _⟩, KR9.out.1⟩
                    | true =>
                      go_upto_region 28 with (go_at_call 39; refine (rdgood_m 2 ⟨X.n, S0, S1, Lp0l, Lp1l, Lq0l, Lq1l⟩ Ap0 np0 cp0 Ap1 np1 cp1 Aq0 nq0 cq0 Aq1 nq1 cq1 true _ ⟨⟨Rp0.out, Rp1.out⟩, Rq0.out, Rq1.out⟩ ⟨⟨HK.out.1.1, I0.out, I1.out⟩, ⟨KP0.out, KP1.out⟩, KQ0.out, KQ1.out⟩ FG).mono ?_; rintro e v8 ⟨rfl, hb⟩; replace KI := hid (KI.out.step hb); replace KO := hid (KO.out.step hb); replace KR := hid (KR.out.step hb); replace KD := hid (KD.out.step hb); replace Rp0 := hid (Rp0.out.below hb); replace Rq0 := hid (Rq0.out.below hb); replace Rp1 := hid (Rp1.out.below hb); replace Rq1 := hid (Rq1.out.below hb); clear hb z0 z1 z2 z3 z4 z5 z6)
                      obtain ⟨z0, z1, z2, z3, z4, z5, z6⟩ := box_seven KD.out.2.2
                      go_wp2_with (refine wpList_store_whole rfl 78 (.tmp 8) (.tmp 122) rfl N2 (rdC X.n S0 S1 Ap0 np0 cp0 Ap1 np1 cp1 Aq0 nq0 cq0 Aq1 nq1 cq1 true) rfl rfl 78 _ KR.out.2.2 rfl (by show _ = some 8; exact size_rd) (rdC_one _ _ _ _ _ _ _ _ _ _ _ _ _ _ _ _) ?_; intro w9 hp9 hg9; have KR9 := hid (kp_at KR.out hg9 hp9); have ZRp0 := hid (Rp0.out.apart hg9 (fun h b' o' e => by have := FRp0.out h b' o' e; have := HN.out; omega)); have ZRq0 := hid (Rq0.out.apart hg9 (fun h b' o' e => by have := FRq0.out h b' o' e; have := HN.out; omega)); have ZRp1 := hid (Rp1.out.apart hg9 (fun h b' o' e => by have := FRp1.out h b' o' e; have := HN.out; omega)); have ZRq1 := hid (Rq1.out.apart hg9 (fun h b' o' e => by have := FRq1.out h b' o' e; have := HN.out; omega)); clear hp9 hg9)
                      (try simp only [Exit.inBlock, Exit.then])
                      show bodyPost Try.prog Try.f76 _ _ _ _
                      refine bodyPost_ret (results_cell_row (p := 8) rfl _ _ N2 _ (rdC X.n S0 S1 Ap0 np0 cp0 Ap1 np1 cp1 Aq0 nq0 cq0 Aq1 nq1 cq1 true) (0, 0) _ rfl KR9.out.2.2 Try.underlying78 rfl (by kernel_rfl)) rfl ?_
                      have e1 : D = ⟨X.n, S0, S1, Lp0l, Lp1l, Lq0l, Lq1l⟩ := by rw [← hC.out, xdC_yes (EB.out.trans FG.out), EX.out]
                      have e2 : v = true := by rw [← hv.out, EB.out, FG.out]
                      subst e1
                      subst e2
                      exact ⟨⟨Ap0, np0, cp0, Ap1, np1, cp1, Aq0, nq0, cq0, Aq1, nq1, cq1, rfl, ⟨⟨ZRp0.out, ZRp1.out⟩, ZRq0.out, ZRq1.out⟩, ⟨⟨(fun h b' o' e => by have := FRp0.out h b' o' e; have := HN.out; omega), (fun h b' o' e => by have := FRp1.out h b' o' e; have := HN.out; omega)⟩, (fun h b' o' e => by have := FRq0.out h b' o' e; have := HN.out; omega), (fun h b' o' e => by have := FRq1.out h b' o' e; have := HN.out; omega)⟩⟩, KR9.out.1⟩

end Go.Proofs.Ytjkkajhjcinalaa

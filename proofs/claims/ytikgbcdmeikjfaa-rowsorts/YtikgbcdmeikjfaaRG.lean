/-
  What the document's Mass returns.
  Conditions: as each theorem states them.
-/
import Derived.Test.YtikgbcdmeikjfaaRF
namespace Go.Proofs.Ytikgbcdmeikjfaa
open Go.ChangeShapes Go.WideShapes Go.ChangeAt Go.RowKit
set_option linter.unusedVariables false
set_option linter.unusedSimpArgs false
set_option maxRecDepth 100000

theorem box_three {w : World} {B : Nat} {t : TypeId} {a b c : Value} (h : w.heap[B]? = some (.cells #[a, b, c] t)) : w.cell? ⟨B, 0, none⟩ = some a ∧ w.cell? ⟨B, 1, none⟩ = some b ∧ w.cell? ⟨B, 2, none⟩ = some c := by
  refine ⟨?_, ?_, ?_⟩ <;> simp [World.cell?, h]
/-- The result and the sums, in blocks behind a world. -/
def M3 (w wr : World) (a b : Int) : Prop :=
  Below w.heap.size w wr ∧ wr.heap[w.heap.size]? = some (.cells #[.int .i64 0, .int .i64 0, .bool false] 44) ∧ wr.heap[w.heap.size + 1]? = some (.cells #[.int .i64 a, .int .i64 b, .bool false] 44)
theorem m3_new (w : World) : M3 w ((w.alloc (.cells #[.int .i64 0, .int .i64 0, .bool false] 44)).alloc (.cells #[.int .i64 0, .int .i64 0, .bool false] 44)) 0 0 := by
  refine ⟨((Below.refl _ _).alloc (Nat.le_refl _) _).alloc (by simp) _, ?_, ?_⟩
  · rw [Below.heap_alloc _ _ _ (by simp)]; exact heap_alloc_new _ _
  · have := heap_alloc_new (w.alloc (.cells #[.int .i64 0, .int .i64 0, .bool false] 44)) (.cells #[.int .i64 0, .int .i64 0, .bool false] 44); simpa using this
theorem three_store {w : World} {B : Nat} {t : TypeId} {a b c : Value} (h : w.heap[B]? = some (.cells #[a, b, c] t)) (x y z : Value) : (((w.setCell ⟨B, 0, none⟩ x).setCell ⟨B, 1, none⟩ y).setCell ⟨B, 2, none⟩ z).heap[B]? = some (.cells #[x, y, z] t) := by
  have h1 := heap_setCell_same w B 0 _ _ x h
  have h2 := heap_setCell_same _ B 1 _ _ y h1
  have h3 := heap_setCell_same _ B 2 _ _ z h2
  simpa using h3
theorem M3.put0 {w wr : World} {a b : Int} (h : M3 w wr a b) (x : Int) : M3 w (wr.setCell ⟨w.heap.size + 1, 0, none⟩ (.int .i64 x)) x b := by
  refine ⟨h.1.setCell (by simp) _, ?_, ?_⟩
  · rw [Below.heap_setCell _ _ _ _ (by simp)]; exact h.2.1
  · have := heap_setCell_same wr (w.heap.size + 1) 0 _ _ (.int .i64 x) h.2.2; simpa using this
theorem M3.put1 {w wr : World} {a b : Int} (h : M3 w wr a b) (x : Int) : M3 w (wr.setCell ⟨w.heap.size + 1, 1, none⟩ (.int .i64 x)) a x := by
  refine ⟨h.1.setCell (by simp) _, ?_, ?_⟩
  · rw [Below.heap_setCell _ _ _ _ (by simp)]; exact h.2.1
  · have := heap_setCell_same wr (w.heap.size + 1) 1 _ _ (.int .i64 x) h.2.2; simpa using this
theorem M3.none {w wr : World} {a b : Int} (h : M3 w wr a b) (x y z : Value) : Below w.heap.size w (((wr.setCell ⟨w.heap.size, 0, none⟩ x).setCell ⟨w.heap.size, 1, none⟩ y).setCell ⟨w.heap.size, 2, none⟩ z) := ((h.1.setCell (Nat.le_refl _) _).setCell (Nat.le_refl _) _).setCell (Nat.le_refl _) _

set_option maxHeartbeats 8000000 in
theorem rmass_m (a : Option Addr) (n c : Nat) (l : List Rw) (V0 V1 : Int) (K : Bool) (w : World) (hl : RRow w a n c l) (hk : ∀ r ∈ l, rok r) (hv0 : Hid (mv0 l = V0)) (hv1 : Hid (mv1 l = V1)) (hK : Hid (mok l = K)) :
    Calls Try.prog 20 #[.slice a n c] w fun e w' => e = .returned (.agg #[.int .i64 V0, .int .i64 V1, .bool K]) ∧ Below w.heap.size w w' := by
  have HL := hid hl
  have HK := hid hk
  obtain ⟨l1, l2⟩ := hl.lens
  have EL := hid l1
  have MX := hid (m3_new w)
  clear hl hk l1
  go_enter Try.func20, Try.ntmps20
  go_wp2
  go_loopw [4] (fun i wr => ∃ k : Nat, k ≤ n ∧ i = .int .i64 k ∧ Hid (M3 w wr (sum0 (l.take k)) (sum1 (l.take k))) ∧ Hid (sum0 (l.take k) ≤ 2305843009213693952 ∧ sum1 (l.take k) ≤ 2305843009213693952)) (fun i _ => n - (intOf i).toNat)
  case atStart => exact ⟨0, by omega, rfl, MX, hid (by simp [sum0, sum1])⟩
  case round =>
    obtain ⟨k, hkn, rfl, MW, HS⟩ := hrel
    have hsz := heap_lt MW.out.2.2
    by_cases hlt : k < n
    · have hki : (k : Int) < (n : Int) := by omega
      obtain ⟨b, off, x0, x1, x2, x3, m0, m1, rfl, hb, hr, p0, p1, p2, p3, p4, p5⟩ := HL.out.pick MW.out.1 hlt
      have hbw : b < wr.heap.size := Nat.lt_of_lt_of_le hb MW.out.1.size
      have hb1 : ¬ b = w.heap.size + 1 := by omega
      have hb2 : ¬ w.heap.size + 1 = b := by omega
      have hk0 : (0 : Int) ≤ (k : Int) := by omega
      have s0 := sum0_step hr
      have s1 := sum1_step hr
      have t0 := sum0_take l (k + 1)
      have t1 := sum1_take l (k + 1)
      have n0 := sum0_nn (l.take k)
      have n1 := sum1_nn (l.take k)
      have hro := HK.out _ (List.mem_of_getElem? hr)
      have I0 : Hid (I64 m0) := hid hro.2.1
      have I1 : Hid (I64 m1) := hid hro.2.2
      have z0n := szi_nn m0
      have z1n := szi_nn m1
      have z0l := szi_le I0.out
      have z1l := szi_le I1.out
      simp only [rm0, rm1] at s0 s1
      obtain ⟨Z0, eZ0⟩ : ∃ y, szi m0 = y := ⟨_, rfl⟩
      obtain ⟨Z1, eZ1⟩ : ∃ y, szi m1 = y := ⟨_, rfl⟩
      rw [eZ0] at s0 z0n z0l
      rw [eZ1] at s1 z1n z1l
      have E0 := hid eZ0
      have E1 := hid eZ1
      obtain ⟨S0, eS0⟩ : ∃ y, sum0 (l.take k) = y := ⟨_, rfl⟩
      obtain ⟨S1, eS1⟩ : ∃ y, sum1 (l.take k) = y := ⟨_, rfl⟩
      rw [eS0] at s0 n0 MW HS
      rw [eS1] at s1 n1 MW HS
      obtain ⟨hs0, hs1⟩ := HS.out
      clear eS0 eS1 eZ0 eZ1 hro HS MX hr p0 p1 p2 p3
      obtain ⟨c0, c1, _⟩ := box_three MW.out.2.2
      obtain ⟨d0, d1, d2⟩ := box_three MW.out.2.1
      have f0 := frozen_of_row wr w.heap.size 0 _ _ MW.out.2.1
      have f1 := frozen_of_row wr w.heap.size 1 _ _ MW.out.2.1
      have f4 := frozen_of_row wr w.heap.size 2 _ _ MW.out.2.1
      have f2 := frozen_of_row wr (w.heap.size + 1) 0 _ _ MW.out.2.2
      have f3 := frozen_of_row wr (w.heap.size + 1) 1 _ _ MW.out.2.2
      obtain ⟨T0, eT0⟩ : ∃ y, S0 + Z0 = y := ⟨_, rfl⟩
      obtain ⟨T1, eT1⟩ : ∃ y, S1 + Z1 = y := ⟨_, rfl⟩
      obtain ⟨R0, eR0⟩ : ∃ y, 2305843009213693952 - S0 = y := ⟨_, rfl⟩
      obtain ⟨R1, eR1⟩ : ∃ y, 2305843009213693952 - S1 = y := ⟨_, rfl⟩
      have u0 : IntKind.i64.wrap (2305843009213693952 - S0) = R0 := by rw [eR0]; exact IntWalk.i64_in _ (by omega)
      have u1 : IntKind.i64.wrap (2305843009213693952 - S1) = R1 := by rw [eR1]; exact IntWalk.i64_in _ (by omega)
      have v0 : IntKind.u64.wrap R0 = R0 := by rw [IntKind.wrap_u64]; omega
      have v1 : IntKind.u64.wrap R1 = R1 := by rw [IntKind.wrap_u64]; omega
      have tk1 : True := trivial
      by_cases g0 : T0 ≤ 2305843009213693952
      · have g0' : decide (R0 < Z0) = false := decide_eq_false (by omega)
        have q0 : IntKind.i64.wrap Z0 = Z0 := IntWalk.i64_in _ (by omega)
        have y0 : IntKind.i64.wrap (S0 + Z0) = T0 := by rw [eT0]; exact IntWalk.i64_in _ (by omega)
        by_cases g1 : T1 ≤ 2305843009213693952
        · have g1' : decide (R1 < Z1) = false := decide_eq_false (by omega)
          have q1 : IntKind.i64.wrap Z1 = Z1 := IntWalk.i64_in _ (by omega)
          have y1 : IntKind.i64.wrap (S1 + Z1) = T1 := by rw [eT1]; exact IntWalk.i64_in _ (by omega)
          have HE : Hid (sum0 (l.take (k + 1)) = T0 ∧ sum1 (l.take (k + 1)) = T1) := hid (by omega)
          have HT : Hid (T0 ≤ 2305843009213693952 ∧ T1 ≤ 2305843009213693952) := hid (by omega)
          clear s0 s1 t0 t1 n0 n1 z0n z1n z0l z1l eT0 eT1 eR0 eR1 g0 g1 hs0 hs1 hv0 hv1 hK
          go_wp2
          refine wp_loop_rounds 3 ?_
          rw [rounds_succ]; go_wp2_with (first | (go_at_call 37; clear tk1; refine (crsize_m m0 Z0 _ I0 E0).mono ?_; rintro e w5 ⟨rfl, rfl⟩))
          rw [rounds_succ]; go_wp2_with (first | (go_at_call 37; refine (crsize_m m1 Z1 _ I1 E1).mono ?_; rintro e w5 ⟨rfl, rfl⟩))
          rw [rounds_succ]; go_wp2
          refine ⟨⟨k + 1, by omega, by go_num, hid (by rw [HE.out.1, HE.out.2]; exact (MW.out.put0 T0).put1 T1), hid (by rw [HE.out.1, HE.out.2]; exact HT.out)⟩, by simp [intOf]; omega⟩
        · have g1' : decide (R1 < Z1) = true := decide_eq_true (by omega)
          have hno : mok l = false := mok_no (.inr (by omega))
          have eK : K = false := by rw [← hK.out]; exact hno
          have e0 : V0 = 0 := by rw [← hv0.out]; unfold mv0; rw [hno]; rfl
          have e1 : V1 = 0 := by rw [← hv1.out]; unfold mv1; rw [hno]; rfl
          subst eK e0 e1
          have M6 := hid (MW.out.put0 T0)
          clear s0 s1 t0 t1 n0 n1 z0n z1n z0l z1l eT0 eT1 eR0 eR1 g0 g1 hs0 hs1 hv0 hv1 hK hno
          go_wp2
          refine wp_loop_rounds 2 ?_
          rw [rounds_succ]; go_wp2_with (first | (go_at_call 37; clear tk1; refine (crsize_m m0 Z0 _ I0 E0).mono ?_; rintro e w5 ⟨rfl, rfl⟩))
          rw [rounds_succ]; go_wp2_with (first | (go_at_call 37; refine (crsize_m m1 Z1 _ I1 E1).mono ?_; rintro e w5 ⟨rfl, rfl⟩))
          obtain ⟨r0, r1, r2⟩ := box_three (three_store M6.out.2.1 (.int .i64 0) (.int .i64 0) (.bool false))
          exact bodyPost_ret (v := .agg #[.int .i64 0, .int .i64 0, .bool false]) (by simp [results, Try.results20, go_sem, r0, r1, r2]) rfl ⟨rfl, M6.out.none _ _ _⟩
      · have g0' : decide (R0 < Z0) = true := decide_eq_true (by omega)
        have hno : mok l = false := mok_no (.inl (by omega))
        have eK : K = false := by rw [← hK.out]; exact hno
        have e0 : V0 = 0 := by rw [← hv0.out]; unfold mv0; rw [hno]; rfl
        have e1 : V1 = 0 := by rw [← hv1.out]; unfold mv1; rw [hno]; rfl
        subst eK e0 e1
        clear s0 s1 t0 t1 n0 n1 z0n z1n z0l z1l eT0 eT1 eR0 eR1 g0 hs0 hs1 hv0 hv1 hK hno
        go_wp2
        refine wp_loop_rounds 1 ?_
        rw [rounds_succ]; go_wp2_with (first | (go_at_call 37; refine (crsize_m m0 Z0 _ I0 E0).mono ?_; rintro e w5 ⟨rfl, rfl⟩))
        obtain ⟨r0, r1, r2⟩ := box_three (three_store MW.out.2.1 (.int .i64 0) (.int .i64 0) (.bool false))
        exact bodyPost_ret (v := .agg #[.int .i64 0, .int .i64 0, .bool false]) (by simp [results, Try.results20, go_sem, r0, r1, r2]) rfl ⟨rfl, MW.out.none _ _ _⟩
    · have hkf : decide ((k : Int) < (n : Int)) = false := decide_eq_false (by omega)
      have ek : k = n := by omega
      subst ek
      have et : l.take k = l := List.take_of_length_le (by have := EL.out; omega)
      rw [et] at MW HS
      have hok := mok_yes HS.out.1 HS.out.2
      have e0 : sum0 l = V0 := by rw [← hv0.out]; unfold mv0; rw [if_pos hok]
      have e1 : sum1 l = V1 := by rw [← hv1.out]; unfold mv1; rw [if_pos hok]
      have eK : K = true := by rw [← hK.out]; exact hok
      subst eK
      rw [e0, e1] at MW
      clear e0 e1 hok et
      obtain ⟨c0, c1, c2⟩ := box_three MW.out.2.2
      obtain ⟨d0, d1, d2⟩ := box_three MW.out.2.1
      have f0 := frozen_of_row wr w.heap.size 0 _ _ MW.out.2.1
      have f1 := frozen_of_row wr w.heap.size 1 _ _ MW.out.2.1
      have f2 := frozen_of_row wr w.heap.size 2 _ _ MW.out.2.1
      have f3 := frozen_of_row wr (w.heap.size + 1) 2 _ _ MW.out.2.2
      have B6 : Hid (Below w.heap.size w (wr.setCell ⟨w.heap.size + 1, 2, none⟩ (.bool true)) ∧ (wr.setCell ⟨w.heap.size + 1, 2, none⟩ (.bool true)).heap[w.heap.size]? = some (.cells #[.int .i64 0, .int .i64 0, .bool false] 44)) := hid ⟨MW.out.1.setCell (by simp) _, by rw [Below.heap_setCell _ _ _ _ (by simp)]; exact MW.out.2.1⟩
      go_wp2
      obtain ⟨r0, r1, r2⟩ := box_three (three_store B6.out.2 (.int .i64 V0) (.int .i64 V1) (.bool true))
      exact bodyPost_ret (v := .agg #[.int .i64 V0, .int .i64 V1, .bool true]) (by simp [results, Try.results20, go_sem, r0, r1, r2]) rfl ⟨rfl, ((B6.out.1.setCell (Nat.le_refl _) _).setCell (Nat.le_refl _) _).setCell (Nat.le_refl _) _⟩

end Go.Proofs.Ytikgbcdmeikjfaa

/-
  What row.Mass returns.
  Conditions: as each theorem states them.
-/
import Derived.Test.YtikgbcdmeikjfaaRE
namespace Go.Proofs.Ytikgbcdmeikjfaa
open Go.ChangeShapes Go.WideShapes Go.ChangeAt Go.RowKit
set_option linter.unusedVariables false
set_option linter.unusedSimpArgs false
set_option maxRecDepth 100000

/-- The result and the sums, in blocks behind a world. -/
def M2 (w wr : World) (a b : Int) : Prop :=
  Below w.heap.size w wr ∧ wr.heap[w.heap.size]? = some (.cells #[.int .i64 0, .int .i64 0] 31) ∧ wr.heap[w.heap.size + 1]? = some (.cells #[.int .i64 a, .int .i64 b] 31)
theorem M2.step {w wr w' : World} {a b : Int} (h : M2 w wr a b) (hb : Below wr.heap.size wr w') : M2 w w' a b := ⟨bt h.1 hb, keep_blk h.2.1 hb, keep_blk h.2.2 hb⟩
theorem m2_new (w : World) : M2 w ((w.alloc (.cells #[.int .i64 0, .int .i64 0] 31)).alloc (.cells #[.int .i64 0, .int .i64 0] 31)) 0 0 := by
  refine ⟨((Below.refl _ _).alloc (Nat.le_refl _) _).alloc (by simp) _, ?_, ?_⟩
  · rw [Below.heap_alloc _ _ _ (by simp)]; exact heap_alloc_new _ _
  · have := heap_alloc_new (w.alloc (.cells #[.int .i64 0, .int .i64 0] 31)) (.cells #[.int .i64 0, .int .i64 0] 31); simpa using this

theorem two_store {w : World} {B : Nat} {t : TypeId} {a b : Value} (h : w.heap[B]? = some (.cells #[a, b] t)) (c d : Value) : ((w.setCell ⟨B, 0, none⟩ c).setCell ⟨B, 1, none⟩ d).heap[B]? = some (.cells #[c, d] t) := by
  have h1 := heap_setCell_same w B 0 _ _ c h
  have h2 := heap_setCell_same _ B 1 _ _ d h1
  simpa using h2
theorem M2.put0 {w wr : World} {a b : Int} (h : M2 w wr a b) (x : Int) : M2 w (wr.setCell ⟨w.heap.size + 1, 0, none⟩ (.int .i64 x)) x b := by
  refine ⟨h.1.setCell (by simp) _, ?_, ?_⟩
  · rw [Below.heap_setCell _ _ _ _ (by simp)]; exact h.2.1
  · have := heap_setCell_same wr (w.heap.size + 1) 0 _ _ (.int .i64 x) h.2.2; simpa using this
theorem M2.put1 {w wr : World} {a b : Int} (h : M2 w wr a b) (x : Int) : M2 w (wr.setCell ⟨w.heap.size + 1, 1, none⟩ (.int .i64 x)) a x := by
  refine ⟨h.1.setCell (by simp) _, ?_, ?_⟩
  · rw [Below.heap_setCell _ _ _ _ (by simp)]; exact h.2.1
  · have := heap_setCell_same wr (w.heap.size + 1) 1 _ _ (.int .i64 x) h.2.2; simpa using this
theorem M2.drewN {w wr : World} {a b : Int} (h : M2 w wr a b) (q : Nat) : M2 w (wr.drewN q) a b := ⟨⟨h.1.os, h.1.tape, h.1.output, h.1.size, h.1.block⟩, h.2.1, h.2.2⟩
theorem M2.none {w wr : World} {a b : Int} (h : M2 w wr a b) (c d : Value) : Below w.heap.size w ((wr.setCell ⟨w.heap.size, 0, none⟩ c).setCell ⟨w.heap.size, 1, none⟩ d) := (h.1.setCell (Nat.le_refl _) _).setCell (Nat.le_refl _) _

set_option maxHeartbeats 8000000 in
theorem mass_m (a : Option Addr) (n c : Nat) (l : List Rw) (V0 V1 : Int) (K : Bool) (w : World) (hl : RRow w a n c l) (hk : ∀ r ∈ l, rok r) (hv0 : Hid (mv0 l = V0)) (hv1 : Hid (mv1 l = V1)) (hK : Hid (mok l = K)) :
    Calls Try.prog 19 #[.slice a n c] w fun e w' => e = .returned (.tuple #[.agg #[.int .i64 V0, .int .i64 V1], .bool K]) ∧ Below w.heap.size w w' := by
  have HL := hid hl
  have HK := hid hk
  obtain ⟨l1, l2⟩ := hl.lens
  have EL := hid l1
  have MX := hid (m2_new w)
  clear hl hk l1
  go_enter Try.func19, Try.ntmps19
  go_wp2
  go_loopw [12] (fun i wr => ∃ k : Nat, k ≤ n ∧ i = .int .i64 k ∧ Hid (M2 w wr (sum0 (l.take k)) (sum1 (l.take k))) ∧ Hid (sum0 (l.take k) ≤ 2305843009213693952 ∧ sum1 (l.take k) ≤ 2305843009213693952)) (fun i _ => n - (intOf i).toNat)
  case atStart => exact ⟨0, by omega, rfl, MX, hid (by simp [sum0, sum1])⟩
  case round =>
    obtain ⟨k, hkn, rfl, MW, HS⟩ := hrel
    have hsz := heap_lt MW.out.2.2
    by_cases hlt : k < n
    · have hki : (k : Int) < (n : Int) := by omega
      obtain ⟨b, off, x0, x1, x2, x3, m0, m1, rfl, hb, hr, p0, p1, p2, p3, p4, p5⟩ := HL.out.pick MW.out.1 hlt
      have hbw : b < wr.heap.size := Nat.lt_of_lt_of_le hb MW.out.1.size
      go_upto_region 5 with fail
      have M5 := hid (MW.out.step ((Below.refl _ _).alloc (Nat.le_refl _) (.cells #[.int .u8 x0, .int .u8 x1, .int .u8 x2, .int .u8 x3, .int .i64 m0, .int .i64 m1] 33)))
      have C5 : (wr.alloc (.cells #[.int .u8 x0, .int .u8 x1, .int .u8 x2, .int .u8 x3, .int .i64 m0, .int .i64 m1] 33)).cell? ⟨wr.heap.size, 4, none⟩ = some (.int .i64 m0) ∧ (wr.alloc (.cells #[.int .u8 x0, .int .u8 x1, .int .u8 x2, .int .u8 x3, .int .i64 m0, .int .i64 m1] 33)).cell? ⟨wr.heap.size, 5, none⟩ = some (.int .i64 m1) := by
        obtain ⟨_, _, _, _, g4, g5⟩ := box6 (heap_alloc_new wr (.cells #[.int .u8 x0, .int .u8 x1, .int .u8 x2, .int .u8 x3, .int .i64 m0, .int .i64 m1] 33))
        exact ⟨g4, g5⟩
      obtain ⟨C54, C55⟩ := C5
      have s0 := sum0_step hr
      have s1 := sum1_step hr
      have t0 := sum0_take l (k + 1)
      have t1 := sum1_take l (k + 1)
      have n0 := sum0_nn (l.take k)
      have n1 := sum1_nn (l.take k)
      have hro := HK.out _ (List.mem_of_getElem? hr)
      have I0 : Hid (I64 m0) := hid hro.2.1
      have I1 : Hid (I64 m1) := hid hro.2.2
      have z0n := szi_nn m0
      have z1n := szi_nn m1
      have z0l := szi_le I0.out
      have z1l := szi_le I1.out
      simp only [rm0, rm1] at s0 s1
      obtain ⟨Z0, eZ0⟩ : ∃ y, szi m0 = y := ⟨_, rfl⟩
      obtain ⟨Z1, eZ1⟩ : ∃ y, szi m1 = y := ⟨_, rfl⟩
      rw [eZ0] at s0 z0n z0l
      rw [eZ1] at s1 z1n z1l
      have E0 := hid eZ0
      have E1 := hid eZ1
      obtain ⟨S0, eS0⟩ : ∃ y, sum0 (l.take k) = y := ⟨_, rfl⟩
      obtain ⟨S1, eS1⟩ : ∃ y, sum1 (l.take k) = y := ⟨_, rfl⟩
      rw [eS0] at s0 n0 M5 HS
      rw [eS1] at s1 n1 M5 HS
      obtain ⟨hs0, hs1⟩ := HS.out
      clear eS0 eS1 eZ0 eZ1 hro HS p0 p1 p2 p3 p4 p5 MW MX hr
      generalize (wr.alloc (.cells #[.int .u8 x0, .int .u8 x1, .int .u8 x2, .int .u8 x3, .int .i64 m0, .int .i64 m1] 33)) = W5 at M5 C54 C55 ⊢
      obtain ⟨c0, c1⟩ := box_two M5.out.2.2
      obtain ⟨d0, d1⟩ := box_two M5.out.2.1
      have f0 := frozen_of_row W5 w.heap.size 0 _ _ M5.out.2.1
      have f1 := frozen_of_row W5 w.heap.size 1 _ _ M5.out.2.1
      have f2 := frozen_of_row W5 (w.heap.size + 1) 0 _ _ M5.out.2.2
      have f3 := frozen_of_row W5 (w.heap.size + 1) 1 _ _ M5.out.2.2
      obtain ⟨T0, eT0⟩ : ∃ y, S0 + Z0 = y := ⟨_, rfl⟩
      obtain ⟨T1, eT1⟩ : ∃ y, S1 + Z1 = y := ⟨_, rfl⟩
      have u0 : IntKind.u64.wrap S0 = S0 := by rw [IntKind.wrap_u64]; omega
      have u1 : IntKind.u64.wrap S1 = S1 := by rw [IntKind.wrap_u64]; omega
      have v0 : IntKind.u64.wrap (S0 + Z0) = T0 := by rw [IntKind.wrap_u64]; omega
      have v1 : IntKind.u64.wrap (S1 + Z1) = T1 := by rw [IntKind.wrap_u64]; omega
      have ix0 : ∀ w, (Instr.index 31 (.agg #[.int .i64 m0, .int .i64 m1]) (.int .i64 0)).run Try.prog w = .ok (.int .i64 m0) w := fun _ => by kernel_rfl
      have ix1 : ∀ w, (Instr.index 31 (.agg #[.int .i64 m0, .int .i64 m1]) (.int .i64 1)).run Try.prog w = .ok (.int .i64 m1) w := fun _ => by kernel_rfl
      by_cases g0 : T0 ≤ 2305843009213693952
      · have g0' : decide (2305843009213693952 < T0) = false := decide_eq_false (by omega)
        have y0 : IntKind.i64.wrap T0 = T0 := IntWalk.i64_in _ (by omega)
        by_cases g1 : T1 ≤ 2305843009213693952
        · have g1' : decide (2305843009213693952 < T1) = false := decide_eq_false (by omega)
          have y1 : IntKind.i64.wrap T1 = T1 := IntWalk.i64_in _ (by omega)
          have HE : Hid (sum0 (l.take (k + 1)) = T0 ∧ sum1 (l.take (k + 1)) = T1) := hid (by omega)
          have HT : Hid (T0 ≤ 2305843009213693952 ∧ T1 ≤ 2305843009213693952) := hid (by omega)
          clear s0 s1 t0 t1 n0 n1 z0n z1n z0l z1l eT0 eT1 g0 g1 hs0 hs1 hv0 hv1 hK
          go_wp2
          refine wp_loop_rounds 3 ?_
          rw [rounds_succ]; go_wp2
          have KS : Hid (∀ x, Gr W5 x → Gr W5 x ∧ x.cell? ⟨w.heap.size + 1, 0, none⟩ = some (.int .i64 S0)) := hid fun x h => ⟨h, h.cell (heap_lt M5.out.2.2) c0⟩
          go_region_held3 (fun x => Gr W5 x ∧ x.cell? ⟨w.heap.size + 1, 0, none⟩ = some (.int .i64 S0))
            (first | assumption | exact kg_drew KS | exact kg_same (by assumption) (by assumption) KS)
            (first | (go_at_call 36; refine (csize_m m0 Z0 _ I0 E0).mono ?_; rintro e w5 ⟨rfl, hb5⟩))
          subst hb5
          go_wp2
          rw [rounds_succ]; go_wp2
          have M6 := hid ((M5.out.put0 T0).step (Below.refl _ _).drew)
          generalize (W5.setCell ⟨w.heap.size + 1, 0, none⟩ (.int .i64 T0)).drew = W6 at M6 ⊢
          obtain ⟨_, j1⟩ := box_two M6.out.2.2
          have f6 := frozen_of_row W6 (w.heap.size + 1) 1 _ _ M6.out.2.2
          have KT : Hid (∀ x, Gr W6 x → Gr W6 x ∧ x.cell? ⟨w.heap.size + 1, 1, none⟩ = some (.int .i64 S1)) := hid fun x h => ⟨h, h.cell (heap_lt M6.out.2.2) j1⟩
          go_region_held3 (fun x => Gr W6 x ∧ x.cell? ⟨w.heap.size + 1, 1, none⟩ = some (.int .i64 S1))
            (first | assumption | exact kg_drew KT | exact kg_same (by assumption) (by assumption) KT)
            (first | (go_at_call 36; refine (csize_m m1 Z1 _ I1 E1).mono ?_; rintro e w6 ⟨rfl, hb6⟩))
          subst hb6
          go_wp2
          rw [rounds_succ]; go_wp2
          refine ⟨⟨k + 1, by omega, by go_num, hid (by rw [HE.out.1, HE.out.2]; exact (M6.out.put1 T1).step (Below.refl _ _).drew), hid (by rw [HE.out.1, HE.out.2]; exact HT.out)⟩, by simp [intOf]; omega⟩
        · have g1' : decide (2305843009213693952 < T1) = true := decide_eq_true (by omega)
          have hno : mok l = false := mok_no (.inr (by omega))
          have eK : K = false := by rw [← hK.out]; exact hno
          have e0 : V0 = 0 := by rw [← hv0.out]; unfold mv0; rw [hno]; rfl
          have e1 : V1 = 0 := by rw [← hv1.out]; unfold mv1; rw [hno]; rfl
          subst eK e0 e1
          clear s0 s1 t0 t1 n0 n1 z0n z1n z0l z1l eT0 eT1 g0 g1 hs0 hs1 hv0 hv1 hK hno
          go_wp2
          refine wp_loop_rounds 2 ?_
          rw [rounds_succ]; go_wp2
          have KS : Hid (∀ x, Gr W5 x → Gr W5 x ∧ x.cell? ⟨w.heap.size + 1, 0, none⟩ = some (.int .i64 S0)) := hid fun x h => ⟨h, h.cell (heap_lt M5.out.2.2) c0⟩
          go_region_held3 (fun x => Gr W5 x ∧ x.cell? ⟨w.heap.size + 1, 0, none⟩ = some (.int .i64 S0))
            (first | assumption | exact kg_drew KS | exact kg_same (by assumption) (by assumption) KS)
            (first | (go_at_call 36; refine (csize_m m0 Z0 _ I0 E0).mono ?_; rintro e w5 ⟨rfl, hb5⟩))
          subst hb5
          go_wp2
          rw [rounds_succ]; go_wp2
          have M6 := hid ((M5.out.put0 T0).step (Below.refl _ _).drew)
          generalize (W5.setCell ⟨w.heap.size + 1, 0, none⟩ (.int .i64 T0)).drew = W6 at M6 ⊢
          obtain ⟨_, j1⟩ := box_two M6.out.2.2
          have f6 := frozen_of_row W6 (w.heap.size + 1) 1 _ _ M6.out.2.2
          have KT : Hid (∀ x, Gr W6 x → Gr W6 x ∧ x.cell? ⟨w.heap.size + 1, 1, none⟩ = some (.int .i64 S1)) := hid fun x h => ⟨h, h.cell (heap_lt M6.out.2.2) j1⟩
          go_region_held3 (fun x => Gr W6 x ∧ x.cell? ⟨w.heap.size + 1, 1, none⟩ = some (.int .i64 S1))
            (first | assumption | exact kg_drew KT | exact kg_same (by assumption) (by assumption) KT)
            (first | (go_at_call 36; refine (csize_m m1 Z1 _ I1 E1).mono ?_; rintro e w6 ⟨rfl, hb6⟩))
          subst hb6
          obtain ⟨a0, a1⟩ := box_two M6.out.2.1
          have b0 := frozen_of_row W6 w.heap.size 0 _ _ M6.out.2.1
          have b1 := frozen_of_row W6 w.heap.size 1 _ _ M6.out.2.1
          go_wp2
          obtain ⟨r0, r1⟩ := box_two (two_store M6.out.2.1 (.int .i64 0) (.int .i64 0))
          exact bodyPost_ret (v := .tuple #[.agg #[.int .i64 0, .int .i64 0], .bool false]) (by simp [results, Try.results19, go_sem, r0, r1]) rfl ⟨rfl, (M6.out.none _ _).drew⟩
      · have g0' : decide (2305843009213693952 < T0) = true := decide_eq_true (by omega)
        have hno : mok l = false := mok_no (.inl (by omega))
        have eK : K = false := by rw [← hK.out]; exact hno
        have e0 : V0 = 0 := by rw [← hv0.out]; unfold mv0; rw [hno]; rfl
        have e1 : V1 = 0 := by rw [← hv1.out]; unfold mv1; rw [hno]; rfl
        subst eK e0 e1
        clear s0 s1 t0 t1 n0 n1 z0n z1n z0l z1l eT0 eT1 g0 hs0 hs1 hv0 hv1 hK hno
        go_wp2
        refine wp_loop_rounds 1 ?_
        rw [rounds_succ]; go_wp2
        have KS : Hid (∀ x, Gr W5 x → Gr W5 x ∧ x.cell? ⟨w.heap.size + 1, 0, none⟩ = some (.int .i64 S0)) := hid fun x h => ⟨h, h.cell (heap_lt M5.out.2.2) c0⟩
        go_region_held3 (fun x => Gr W5 x ∧ x.cell? ⟨w.heap.size + 1, 0, none⟩ = some (.int .i64 S0))
          (first | assumption | exact kg_drew KS | exact kg_same (by assumption) (by assumption) KS)
          (first | (go_at_call 36; refine (csize_m m0 Z0 _ I0 E0).mono ?_; rintro e w5 ⟨rfl, hb5⟩))
        subst hb5
        go_wp2
        obtain ⟨r0, r1⟩ := box_two (two_store M5.out.2.1 (.int .i64 0) (.int .i64 0))
        exact bodyPost_ret (v := .tuple #[.agg #[.int .i64 0, .int .i64 0], .bool false]) (by simp [results, Try.results19, go_sem, r0, r1]) rfl ⟨rfl, (M5.out.none _ _).drew⟩
    · have hkf : decide ((k : Int) < (n : Int)) = false := decide_eq_false (by omega)
      have ek : k = n := by omega
      subst ek
      have et : l.take k = l := List.take_of_length_le (by have := EL.out; omega)
      rw [et] at MW HS
      have hok := mok_yes HS.out.1 HS.out.2
      have e0 : sum0 l = V0 := by rw [← hv0.out]; unfold mv0; rw [if_pos hok]
      have e1 : sum1 l = V1 := by rw [← hv1.out]; unfold mv1; rw [if_pos hok]
      have eK : K = true := by rw [← hK.out]; exact hok
      subst eK
      rw [e0, e1] at MW
      clear e0 e1 hok et
      obtain ⟨c0, c1⟩ := box_two MW.out.2.2
      obtain ⟨d0, d1⟩ := box_two MW.out.2.1
      have f0 := frozen_of_row wr w.heap.size 0 _ _ MW.out.2.1
      have f1 := frozen_of_row wr w.heap.size 1 _ _ MW.out.2.1
      go_wp2
      obtain ⟨r0, r1⟩ := box_two (two_store MW.out.2.1 (.int .i64 V0) (.int .i64 V1))
      exact bodyPost_ret (v := .tuple #[.agg #[.int .i64 V0, .int .i64 V1], .bool true]) (by simp [results, Try.results19, go_sem, r0, r1]) rfl ⟨rfl, MW.out.none _ _⟩

end Go.Proofs.Ytikgbcdmeikjfaa

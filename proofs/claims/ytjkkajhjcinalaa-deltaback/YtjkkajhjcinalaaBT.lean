/-
  The document's wide numbers of whatever size: some sum, some number back; what the document's Wide returns.
  Conditions: as each theorem states them.
-/
import Derived.Test.YtjkkajhjcinalaaG7
import Derived.Test.YtjkkajhjcinalaaBR
namespace Go.Proofs.Ytjkkajhjcinalaa
open Go.ChangeShapes Go.WideShapes Go.ChangeAt Go.RowKit
set_option linter.unusedVariables false
set_option linter.unusedSimpArgs false
set_option maxRecDepth 100000

set_option maxHeartbeats 1000000 in
theorem plus_w0 (p : Bool) (xh xl yh yl zh z : Int) (w : World) (hz1 : IntKind.u64.wrap (xh + yh) = zh) (hz : IntKind.u64.wrap (xl + yl) = z) (c2 : decide (z < xl) = false) :
    Calls Try.prog 98 #[.agg #[.bool p, .int .u64 xh, .int .u64 xl], .agg #[.bool p, .int .u64 yh, .int .u64 yl]] w fun e w' => e = .returned (.agg #[.bool p, .int .u64 zh, .int .u64 z]) ∧ Below w.heap.size w w' := by
  go_enter Try.func98, Try.ntmps98
  go_wp2
  exact bodyPost_ret (v := .agg #[.bool p, .int .u64 zh, .int .u64 z]) (by simp [results, Try.results98, go_sem]) rfl ⟨rfl, (((((Below.refl _ _).alloc (Nat.le_refl _) _).alloc (by simp) _).alloc (by simp; omega) _).alloc (by simp; omega) _)⟩
set_option maxHeartbeats 1000000 in
theorem plus_w1 (p : Bool) (xh xl yh yl zh zh1 z : Int) (w : World) (hz1 : IntKind.u64.wrap (xh + yh) = zh) (hz2 : IntKind.u64.wrap (zh + 1) = zh1) (hz : IntKind.u64.wrap (xl + yl) = z) (c2 : decide (z < xl) = true) :
    Calls Try.prog 98 #[.agg #[.bool p, .int .u64 xh, .int .u64 xl], .agg #[.bool p, .int .u64 yh, .int .u64 yl]] w fun e w' => e = .returned (.agg #[.bool p, .int .u64 zh1, .int .u64 z]) ∧ Below w.heap.size w w' := by
  go_enter Try.func98, Try.ntmps98
  go_wp2
  exact bodyPost_ret (v := .agg #[.bool p, .int .u64 zh1, .int .u64 z]) (by simp [results, Try.results98, go_sem]) rfl ⟨rfl, (((((Below.refl _ _).alloc (Nat.le_refl _) _).alloc (by simp) _).alloc (by simp; omega) _).alloc (by simp; omega) _)⟩
theorem wrapu_u64 (x : Int) : U64 (IntKind.u64.wrap x) := by unfold U64; rw [IntKind.wrap_u64]; omega
/-- A wide number, whatever it is. -/
def WV (p : Bool) (h l : Int) : Value := .agg #[.bool p, .int .u64 h, .int .u64 l]
/-- Any two have some sum. -/
theorem plus_gen (p q : Bool) (xh xl yh yl : Int) (w : World) (a1 : U64 xh) (a2 : U64 xl) (a3 : U64 yh) (a4 : U64 yl) :
    Calls Try.prog 98 #[.agg #[.bool p, .int .u64 xh, .int .u64 xl], .agg #[.bool q, .int .u64 yh, .int .u64 yl]] w fun e w' => (∃ r zh zl, e = .returned (.agg #[.bool r, .int .u64 zh, .int .u64 zl]) ∧ U64 zh ∧ U64 zl) ∧ Below w.heap.size w w' := by
  obtain ⟨x1, x2⟩ := a1
  obtain ⟨x3, x4⟩ := a2
  obtain ⟨y1, y2⟩ := a3
  obtain ⟨y3, y4⟩ := a4
  have put : ∀ {r : Bool} {zh zl : Int}, U64 zh → U64 zl → ∀ {e : Ending} {w' : World}, (e = .returned (.agg #[.bool r, .int .u64 zh, .int .u64 zl]) ∧ Below w.heap.size w w') → (∃ r zh zl, e = .returned (.agg #[.bool r, .int .u64 zh, .int .u64 zl]) ∧ U64 zh ∧ U64 zl) ∧ Below w.heap.size w w' := fun u v _ _ h => ⟨⟨_, _, _, h.1, u, v⟩, h.2⟩
  by_cases hpq : p = q
  · subst hpq
    cases hc : decide (IntKind.u64.wrap (xl + yl) < xl) with
    | false => exact (plus_w0 p xh xl yh yl _ _ w rfl rfl hc).mono (fun e w' h => put (wrapu_u64 _) (wrapu_u64 _) h)
    | true => exact (plus_w1 p xh xl yh yl _ _ _ w rfl rfl rfl hc).mono (fun e w' h => put (wrapu_u64 _) (wrapu_u64 _) h)
  · have hpq' : (p == q) = false := by simpa using hpq
    cases hl : calc.lsB xh xl yh yl with
    | true =>
      have hl' := hl
      unfold calc.lsB at hl'
      simp only [Bool.or_eq_true, Bool.and_eq_true, decide_eq_true_eq] at hl'
      by_cases hc : xl ≤ yl
      · by_cases hz : yh - xh = 0
        · exact (calc.ps_nb2 p q xh xl yh yl w hpq' x1 x3 y1 y3 x2 x4 y2 y4 hl (by omega) hc (by simp [hz]) (by simp; omega)).mono (fun e w' h => put (by unfold U64; omega) (by unfold U64; omega) h)
        · exact (calc.ps_nb1 p q xh xl yh yl w hpq' x1 x3 y1 y3 x2 x4 y2 y4 hl (by omega) hc (by simp [hz])).mono (fun e w' h => put (by unfold U64; omega) (by unfold U64; omega) h)
      · by_cases hz : yh - xh - 1 = 0
        · exact (calc.ps_b2 p q xh xl yh yl _ w hpq' x1 x3 y1 y3 x2 x4 y2 y4 hl (by omega) (by omega) rfl (by simp [hz]) (by simp only [IntKind.wrap_u64, beq_eq_false_iff_ne, ne_eq]; omega)).mono (fun e w' h => put (by unfold U64; omega) (wrapu_u64 _) h)
        · exact (calc.ps_b1 p q xh xl yh yl _ w hpq' x1 x3 y1 y3 x2 x4 y2 y4 hl (by omega) (by omega) rfl (by simp [hz])).mono (fun e w' h => put (by unfold U64; omega) (wrapu_u64 _) h)
    | false =>
      have hl' := hl
      unfold calc.lsB at hl'
      simp only [Bool.or_eq_false_iff, Bool.and_eq_false_iff, decide_eq_false_iff_not] at hl'
      by_cases heq : xh = yh ∧ xl = yl
      · obtain ⟨rfl, rfl⟩ := heq
        exact (calc.pd_z p q xh xl w hpq' hl).mono (fun e w' h => put (by unfold U64; decide) (by unfold U64; decide) h)
      · by_cases hc : yl ≤ xl
        · by_cases hz : xh - yh = 0
          · exact (calc.pd_nb2 p q xh xl yh yl w hpq' x1 x3 y1 y3 x2 x4 y2 y4 hl (by omega) hc (by simp [hz]) (by simp; omega)).mono (fun e w' h => put (by unfold U64; omega) (by unfold U64; omega) h)
          · exact (calc.pd_nb1 p q xh xl yh yl w hpq' x1 x3 y1 y3 x2 x4 y2 y4 hl (by omega) hc (by simp [hz])).mono (fun e w' h => put (by unfold U64; omega) (by unfold U64; omega) h)
        · by_cases hz : xh - yh - 1 = 0
          · exact (calc.pd_b2 p q xh xl yh yl _ w hpq' x1 x3 y1 y3 x2 x4 y2 y4 hl (by omega) (by omega) rfl (by simp [hz]) (by simp only [IntKind.wrap_u64, beq_eq_false_iff_ne, ne_eq]; omega)).mono (fun e w' h => put (by unfold U64; omega) (wrapu_u64 _) h)
          · exact (calc.pd_b1 p q xh xl yh yl _ w hpq' x1 x3 y1 y3 x2 x4 y2 y4 hl (by omega) (by omega) rfl (by simp [hz])).mono (fun e w' h => put (by unfold U64; omega) (wrapu_u64 _) h)
/-- Some number, and whether it is one. -/
def SomeIB (e : Ending) : Prop := ∃ (x : Int) (f : Bool), e = .returned (.tuple #[.int .i64 x, .bool f])
set_option maxHeartbeats 400000 in
theorem back_gen (p : Bool) (h l : Int) (w : World) (h1 : U64 h) (l1 : U64 l) :
    Calls Try.prog 92 #[.agg #[.bool p, .int .u64 h, .int .u64 l]] w fun e w' => SomeIB e ∧ Below w.heap.size w w' := by
  obtain ⟨h2, h3⟩ := h1
  obtain ⟨l2, l3⟩ := l1
  go_enter Try.func92, Try.ntmps92
  go_wp2
  all_goals
    go_ret2
    exact ⟨⟨_, _, rfl⟩, (Below.refl _ _).alloc (Nat.le_refl _) _⟩

theorem kp_far {w wr : World} {N M : Nat} {o o' : Obj} (x y z : Value) (h : Kp w wr N o) (k : Kp w wr M o') (hne : ¬ N = M) : Kp w (((wr.setCell ⟨M, 0, none⟩ x).setCell ⟨M, 1, none⟩ y).setCell ⟨M, 2, none⟩ z) N o := by
  refine ⟨((h.1.setCell k.2.1 _).setCell k.2.1 _).setCell k.2.1 _, h.2.1, ?_⟩
  rw [Below.heap_setCell _ _ _ _ hne, Below.heap_setCell _ _ _ _ hne, Below.heap_setCell _ _ _ _ hne]
  exact h.2.2
theorem mul_abs {a b A B : Int} (ha : -A ≤ a ∧ a ≤ A) (hb : 0 ≤ b ∧ b ≤ B) (hA : 0 ≤ A) : -(A * B) ≤ a * b ∧ a * b ≤ A * B := by
  have h1 : a * b ≤ A * b := Int.mul_le_mul_of_nonneg_right ha.2 hb.1
  have h2 : -A * b ≤ a * b := Int.mul_le_mul_of_nonneg_right ha.1 hb.1
  have h3 : A * b ≤ A * B := Int.mul_le_mul_of_nonneg_left hb.2 hA
  have h4 : -A * b = -(A * b) := Int.neg_mul A b
  omega
theorem wide_bd {l : List Rn} (hb : Bag l) (hk : ∀ r ∈ l, nok r) {k : Nat} : calc.sz (wsum (l.take k)) ≤ 85070591730234615865843651857942052864 := by
  have hb' := bag_take hb k
  have h := wsum_bd (l := l.take k) (fun r hr => (hk r (List.mem_of_mem_take hr)).1) hb'.2.1
  have := hb'.2.2
  have := tot_nn hb'.2.1
  unfold calc.sz; split <;> omega
theorem wide_one {l : List Rn} (hb : Bag l) (hk : ∀ r ∈ l, nok r) {k : Nat} {x0 x1 : Int} (hr : l[k]? = some (x0, x1)) : calc.sz (x0 * x1) ≤ 85070591730234615865843651857942052864 := by
  have hx := (hk _ (List.mem_of_getElem? hr)).1
  have h := bag_at hb hr
  have h1 := h.2.1; have h2 := h.2.2.1; have h3 := h.2.2.2.1
  obtain ⟨x1', x2'⟩ := hx
  simp only at h1 h2 x1' x2'
  have := mul_abs (a := x0) (b := x1) (A := 9223372036854775808) (B := 1099511627776) (by omega) (by omega) (by omega)
  unfold calc.sz; split <;> omega
theorem wide_u {x y : Int} (hx : I64 x) (hy : I64 y) : U64 (calc.hi (calc.sz (x * y))) ∧ U64 (calc.lo (calc.sz (x * y))) := by
  have hxb := calc.sz_bd hx
  have hyb := calc.sz_bd hy
  have e := calc.sz_mul x y
  have b := calc.mul_bd hxb hyb
  rw [← e] at b
  unfold U64 calc.hi calc.lo
  omega

set_option maxHeartbeats 8000000 in
theorem wide_any (a : Option Addr) (n c : Nat) (l : List Rn) (w : World) (hl : NRun w a n c l) (hk : ∀ r ∈ l, nok r) :
    Calls Try.prog 61 #[.slice a n c] w fun e w' => (∃ r zh zl, e = .returned (.agg #[.bool r, .int .u64 zh, .int .u64 zl]) ∧ U64 zh ∧ U64 zl) ∧ Below w.heap.size w w' := by
  have HL := hid hl
  have HK := hid hk
  obtain ⟨l1, l2⟩ := hl.lens
  have EL := hid l1

  have K0 : Hid (Kp w ((w.alloc (.cells #[.bool false, .int .u64 0, .int .u64 0] 121)).alloc (.cells #[.bool false, .int .u64 0, .int .u64 0] 121)) w.heap.size (.cells #[.bool false, .int .u64 0, .int .u64 0] 121)) := hid ((kp_new w _).step (b1alloc _ _))
  have K1 : Hid (Kp w ((w.alloc (.cells #[.bool false, .int .u64 0, .int .u64 0] 121)).alloc (.cells #[.bool false, .int .u64 0, .int .u64 0] 121)) (w.heap.size + 1) (.cells #[.bool false, .int .u64 0, .int .u64 0] 121)) := hid ⟨(b1alloc w _).alloc (by simp) _, by omega, hnew (by simp)⟩
  clear hl hk l1
  go_enter Try.func61, Try.ntmps61
  go_upto_region 2 with fail
  generalize ((w.alloc (.cells #[.bool false, .int .u64 0, .int .u64 0] 121)).alloc (.cells #[.bool false, .int .u64 0, .int .u64 0] 121)) = W0 at K0 K1 ⊢
  go_wp2
  go_loopw [4] (fun i wr => ∃ (k : Nat) (p : Bool) (sh sl : Int), k ≤ n ∧ i = .int .i64 k ∧ Hid (U64 sh ∧ U64 sl) ∧ Hid (Kp w wr w.heap.size (.cells #[.bool false, .int .u64 0, .int .u64 0] 121)) ∧ Hid (Kp w wr (w.heap.size + 1) (.cells #[.bool p, .int .u64 sh, .int .u64 sl] 121))) (fun i _ => n - (intOf i).toNat)
  case atStart => exact ⟨0, false, 0, 0, by omega, rfl, hid ⟨by unfold U64; decide, by unfold U64; decide⟩, K0, K1⟩
  case round =>
    obtain ⟨k, p, sh, sl, hkn, rfl, HI, KA, KB⟩ := hrel
    have hk0 : (0 : Int) ≤ (k : Int) := by omega
    obtain ⟨c0, c1, c2⟩ := box_three KB.out.2.2
    by_cases hlt : k < n
    · have hki : (k : Int) < (n : Int) := by omega
      obtain ⟨b, off, x0, x1, rfl, hb, hr, p0, p1⟩ := HL.out.pick KA.out.1 hlt
      have HR := hid hr
      have hxx := HK.out _ (List.mem_of_getElem? hr)
      have HX0 := hid hxx.1
      have HX1 := hid hxx.2
      have hbw : b < wr.heap.size := Nat.lt_of_lt_of_le hb KA.out.1.size
      clear hr hxx
      have t1 : True := trivial
      go_wp2
      go_region_with (first
        | (go_at_call 74; refine (calc.times_any x0 x1 _ HX0.out HX1.out).mono ?_; rintro e w1 ⟨rfl, hb1⟩; have T1 : Hid (Below wr.heap.size wr w1) := hid (undrew hb1); clear hb1; have q0 := ((bcell T1.out).1 b _ hbw).trans p0; have q1 := ((bcell T1.out).1 b _ hbw).trans p1; obtain ⟨d0, d1, d2⟩ := box_three (KB.out.step T1.out).2.2)
        | (go_at_call 98; refine (plus_gen p (calc.ng (x0 * x1)) sh sl (calc.hi (calc.sz (x0 * x1))) (calc.lo (calc.sz (x0 * x1))) _ HI.out.1 HI.out.2 (wide_u HX0.out HX1.out).1 (wide_u HX0.out HX1.out).2).mono ?_; rintro e w2 ⟨⟨r2, zh2, zl2, rfl, hu2⟩, hb2⟩; have U2 := hid hu2; have T2 := hid (bt T1.out hb2); clear hb2 hu2; obtain ⟨e0, e1, e2⟩ := box_three (KB.out.step T2.out).2.2; obtain ⟨f0, f1, f2⟩ := froz3 (KB.out.step T2.out).2.2))
      all_goals
        go_wp2
        go_roundw
        case rel => exact ⟨k + 1, r2, zh2, zl2, by omega, by go_num, U2, hid (kp_far _ _ _ (KA.out.step T2.out) (KB.out.step T2.out) (by omega)), hid (kp_set3 _ _ _ (KB.out.step T2.out))⟩
        case measure => simp [intOf]; omega
    · have hkf : decide ((k : Int) < (n : Int)) = false := decide_eq_false (by omega)
      obtain ⟨f0, f1, f2⟩ := froz3 KA.out.2.2
      obtain ⟨g0, g1, g2⟩ := box_three KA.out.2.2

      go_wp2
      (try simp only [Exit.inBlock, Exit.then])
      show bodyPost Try.prog Try.f61 _ _ _ _
      have K9 := kp_set3 (.bool p) (.int .u64 sh) (.int .u64 sl) KA.out
      refine bodyPost_ret (results_cell_row (p := 2) rfl _ _ w.heap.size _ #[.bool p, .int .u64 sh, .int .u64 sl] (0, 0) _ rfl K9.2.2 Try.underlying121 rfl (by kernel_rfl)) rfl ?_
      exact ⟨⟨p, sh, sl, rfl, HI.out⟩, K9.1⟩

set_option maxHeartbeats 8000000 in
theorem wide_good (a : Option Addr) (n c : Nat) (l : List Rn) (w : World) (hl : NRun w a n c l) (hk : ∀ r ∈ l, nok r) (hb : Bag l) :
    Calls Try.prog 61 #[.slice a n c] w fun e w' => e = .returned (.agg #[.bool (calc.ng (wsum l)), .int .u64 (calc.hi (calc.sz (wsum l))), .int .u64 (calc.lo (calc.sz (wsum l)))]) ∧ Below w.heap.size w w' := by
  have HL := hid hl
  have HK := hid hk
  obtain ⟨l1, l2⟩ := hl.lens
  have EL := hid l1
  have HB := hid hb
  have K0 : Hid (Kp w ((w.alloc (.cells #[.bool false, .int .u64 0, .int .u64 0] 121)).alloc (.cells #[.bool false, .int .u64 0, .int .u64 0] 121)) w.heap.size (.cells #[.bool false, .int .u64 0, .int .u64 0] 121)) := hid ((kp_new w _).step (b1alloc _ _))
  have K1 : Hid (Kp w ((w.alloc (.cells #[.bool false, .int .u64 0, .int .u64 0] 121)).alloc (.cells #[.bool false, .int .u64 0, .int .u64 0] 121)) (w.heap.size + 1) (.cells #[.bool false, .int .u64 0, .int .u64 0] 121)) := hid ⟨(b1alloc w _).alloc (by simp) _, by omega, hnew (by simp)⟩
  clear hl hk l1 hb
  go_enter Try.func61, Try.ntmps61
  go_upto_region 2 with fail
  generalize ((w.alloc (.cells #[.bool false, .int .u64 0, .int .u64 0] 121)).alloc (.cells #[.bool false, .int .u64 0, .int .u64 0] 121)) = W0 at K0 K1 ⊢
  go_wp2
  go_loopw [4] (fun i wr => ∃ (k : Nat) (S : Int), k ≤ n ∧ i = .int .i64 k ∧ Hid (S = wsum (l.take k)) ∧ Hid (Kp w wr w.heap.size (.cells #[.bool false, .int .u64 0, .int .u64 0] 121)) ∧ Hid (Kp w wr (w.heap.size + 1) (.cells #[.bool (calc.ng S), .int .u64 (calc.hi (calc.sz S)), .int .u64 (calc.lo (calc.sz S))] 121))) (fun i _ => n - (intOf i).toNat)
  case atStart => exact ⟨0, 0, by omega, rfl, hid rfl, K0, K1⟩
  case round =>
    obtain ⟨k, S, hkn, rfl, HI, KA, KB⟩ := hrel
    have hk0 : (0 : Int) ≤ (k : Int) := by omega
    obtain ⟨c0, c1, c2⟩ := box_three KB.out.2.2
    by_cases hlt : k < n
    · have hki : (k : Int) < (n : Int) := by omega
      obtain ⟨b, off, x0, x1, rfl, hb, hr, p0, p1⟩ := HL.out.pick KA.out.1 hlt
      have HR := hid hr
      have hxx := HK.out _ (List.mem_of_getElem? hr)
      have HX0 := hid hxx.1
      have HX1 := hid hxx.2
      have hbw : b < wr.heap.size := Nat.lt_of_lt_of_le hb KA.out.1.size
      have hsb := wide_bd HB.out HK.out (k := k)
      have hsx := wide_one HB.out HK.out hr
      rw [← HI.out] at hsb
      have HS1 := hid hsb
      have HS2 := hid hsx
      have HI2 : Hid (S + x0 * x1 = wsum (l.take (k + 1))) := hid (by rw [HI.out, wsum_step hr])
      clear hsb hsx
      clear hr hxx
      have t1 : True := trivial
      go_wp2
      go_region_with (first
        | (go_at_call 74; refine (calc.times_any x0 x1 _ HX0.out HX1.out).mono ?_; rintro e w1 ⟨rfl, hb1⟩; have T1 : Hid (Below wr.heap.size wr w1) := hid (undrew hb1); clear hb1; have q0 := ((bcell T1.out).1 b _ hbw).trans p0; have q1 := ((bcell T1.out).1 b _ hbw).trans p1; obtain ⟨d0, d1, d2⟩ := box_three (KB.out.step T1.out).2.2)
        | (go_at_call 98; refine (calc.rplus_any S (x0 * x1) _ HS1.out HS2.out).mono ?_; rintro e w2 ⟨rfl, hb2⟩; have T2 := hid (bt T1.out hb2); clear hb2; obtain ⟨e0, e1, e2⟩ := box_three (KB.out.step T2.out).2.2; obtain ⟨f0, f1, f2⟩ := froz3 (KB.out.step T2.out).2.2))
      all_goals
        go_wp2
        go_roundw
        case rel => exact ⟨k + 1, S + x0 * x1, by omega, by go_num, HI2, hid (kp_far _ _ _ (KA.out.step T2.out) (KB.out.step T2.out) (by omega)), hid (kp_set3 _ _ _ (KB.out.step T2.out))⟩
        case measure => simp [intOf]; omega
    · have hkf : decide ((k : Int) < (n : Int)) = false := decide_eq_false (by omega)
      obtain ⟨f0, f1, f2⟩ := froz3 KA.out.2.2
      obtain ⟨g0, g1, g2⟩ := box_three KA.out.2.2
      have HE : Hid (S = wsum l) := hid (by rw [HI.out, List.take_of_length_le (by have := EL.out; omega)])
      go_wp2
      (try simp only [Exit.inBlock, Exit.then])
      show bodyPost Try.prog Try.f61 _ _ _ _
      have K9 := kp_set3 (.bool (calc.ng S)) (.int .u64 (calc.hi (calc.sz S))) (.int .u64 (calc.lo (calc.sz S))) KA.out
      refine bodyPost_ret (results_cell_row (p := 2) rfl _ _ w.heap.size _ #[.bool (calc.ng S), .int .u64 (calc.hi (calc.sz S)), .int .u64 (calc.lo (calc.sz S))] (0, 0) _ rfl K9.2.2 Try.underlying121 rfl (by kernel_rfl)) rfl ?_
      exact ⟨by rw [← HE.out], K9.1⟩

end Go.Proofs.Ytjkkajhjcinalaa

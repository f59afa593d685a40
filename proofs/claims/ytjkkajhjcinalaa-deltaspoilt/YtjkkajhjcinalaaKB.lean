/-
  What the wide numbers of calc come to.
  Conditions: as each theorem states them.
-/
import Derived.Test.YtjkkajhjcinalaaKA
import Derived.Below
import Derived.WalkSmall
import Derived.Deep.QuietTactic
import Derived.BigQuiet
namespace Go.Proofs.Ytjkkajhjcinalaa.calc
open Go.RowKit
set_option linter.unusedVariables false
set_option linter.unusedSimpArgs false
set_option maxRecDepth 100000

theorem lo_bd (x : Int) : 0 ≤ lo x ∧ lo x < 18446744073709551616 := by unfold lo; omega
theorem lohi (x : Int) : x = hi x * 18446744073709551616 + lo x := by unfold lo hi; omega
theorem turned_hi {x : Int} (h0 : 0 ≤ x) (h1 : x ≤ 85070591730234615865843651857942052864) : wrap64 (lo (-hi x - bor 0 (lo x))) = hi (-x) := by
  unfold wrap64 bor lo hi; split <;> omega
theorem turned_lo {x : Int} : lo (-lo x) = lo (-x) := by
  unfold lo; omega
set_option maxHeartbeats 400000 in
theorem turned_any (x : Int) (w : World) (h0 : 0 ≤ x) (h1 : x ≤ 85070591730234615865843651857942052864) :
    Calls Try.prog 121 #[.agg #[.int .i64 (hi x), .int .u64 (lo x)]] w fun e w' => e = .returned (.agg #[.int .i64 (hi (-x)), .int .u64 (lo (-x))]) ∧ Below w.heap.size w w' := by
  obtain ⟨l1, l2⟩ := lo_bd x
  have H1 : 0 ≤ hi x := by unfold hi; omega
  have H2 : hi x ≤ 4611686018427387904 := by unfold hi; omega
  have k0 : 0 ≤ bor 0 (lo x) := by unfold bor; split <;> omega
  have k1 : bor 0 (lo x) ≤ 1 := by unfold bor; split <;> omega
  go_enter Try.func121, Try.ntmps121
  go_wp2_with (first | simp only [sub64 _ _ _ (Int.le_refl 0) l1 l2 (Int.le_refl 0) (by decide : (0 : Int) ≤ 1)] | simp only [sub64 _ _ _ (Int.le_refl 0) H1 (by omega) k0 k1])
  rw [turned_hi h0 h1, turned_lo]
  exact bodyPost_ret (v := .agg #[.int .i64 (hi (-x)), .int .u64 (lo (-x))]) (by simp [results, Try.results121, go_sem]) rfl ⟨rfl, ((Below.refl _ _).alloc (Nat.le_refl _) _).alloc (by simp) _⟩
theorem narrow_yes {x : Int} (h : (hi x != hi (wrap64 (lo x))) = false) : (-9223372036854775808 ≤ x ∧ x ≤ 9223372036854775807) ∧ wrap64 (lo x) = x := by
  unfold wrap64 lo hi at *
  simp only [bne_eq_false_iff_eq] at h
  omega
theorem narrow_no {x : Int} (h : (hi x != hi (wrap64 (lo x))) = true) : ¬ (-9223372036854775808 ≤ x ∧ x ≤ 9223372036854775807) := by
  unfold wrap64 lo hi at *
  simp only [bne_iff_ne, ne_eq] at h
  omega
theorem wrap_i64 (x : Int) : I64 (wrap64 x) := by unfold I64 wrap64; omega
set_option maxHeartbeats 400000 in
theorem narrow_any (x : Int) (w : World) :
    Calls Try.prog 70 #[.agg #[.int .i64 (hi x), .int .u64 (lo x)]] w fun e w' => e = .returned (.tuple #[.int .i64 (fitV x), .bool (fitB x)]) ∧ Below w.heap.size w w' := by
  obtain ⟨l1, l2⟩ := lo_bd x
  go_enter Try.func70, Try.ntmps70
  go_wp2
  go_quiet ((go_at_call 104; exact Calls.quiet_of_same (signhalf_any _ _ (wrap_i64 _))))
  go_wp2
  · go_ret2
    exact ⟨ret_fit_no (narrow_no ‹_›), below_drewN ((Below.refl _ _).alloc (Nat.le_refl _) _) _⟩
  · go_ret2
    exact ⟨ret_fit_yes (narrow_yes ‹_›).1 (narrow_yes ‹_›).2, below_drewN ((Below.refl _ _).alloc (Nat.le_refl _) _) _⟩
theorem plus_hi {x v : Int} (h0 : -170141183460469231731687303715884105728 ≤ x + v) (h1 : x + v < 170141183460469231731687303715884105728) : wrap64 (lo (lo (hi x) + lo (hi v) + hi (lo x + lo v))) = hi (x + v) := by
  unfold wrap64 lo hi; omega
theorem plus_lo {x v : Int} : lo (lo x + lo v) = lo (x + v) := by unfold lo; omega
theorem wrapu (x : Int) : IntKind.u64.wrap x = lo x := by rw [IntKind.wrap_u64]; rfl
set_option maxHeartbeats 400000 in
theorem plus_any (x v : Int) (w : World) (hv : I64 v) (h0 : -170141183460469231731687303715884105728 ≤ x + v) (h1 : x + v < 170141183460469231731687303715884105728) :
    Calls Try.prog 69 #[.agg #[.int .i64 (hi x), .int .u64 (lo x)], .int .i64 v] w fun e w' => e = .returned (.agg #[.int .i64 (hi (x + v)), .int .u64 (lo (x + v))]) ∧ Below w.heap.size w w' := by
  obtain ⟨l1, l2⟩ := lo_bd x
  obtain ⟨v1, v2⟩ := lo_bd v
  obtain ⟨m1, m2⟩ := lo_bd (hi x)
  obtain ⟨n1, n2⟩ := lo_bd (hi v)
  have k0 : 0 ≤ hi (lo x + lo v) := by unfold lo hi; omega
  have k1 : hi (lo x + lo v) ≤ 1 := by unfold lo hi; omega
  have hadd : ∀ w', (callFunc 103 #[.int .u64 (IntKind.u64.wrap (hi x)), .int .u64 (IntKind.u64.wrap (hi v)), .int .u64 (hi (lo x + lo v))]).run Try.prog w' = .ok (.value (.tuple #[.int .u64 (lo (lo (hi x) + lo (hi v) + hi (lo x + lo v))), .int .u64 (hi (lo (hi x) + lo (hi v) + hi (lo x + lo v)))])) w' := by
    intro w'
    rw [wrapu, wrapu]
    exact add64 _ _ _ m1 n1 k0 k1 w'
  go_enter Try.func69, Try.ntmps69
  go_wp2_with (first | (simp only [wrapu, add64 _ _ _ l1 v1 (Int.le_refl 0) (by decide : (0 : Int) ≤ 1)]))
  go_quiet ((go_at_call 104; exact Calls.quiet_of_same (signhalf_any _ _ hv)))
  go_wp2
  rw [plus_hi h0 h1, plus_lo]
  exact bodyPost_ret (v := .agg #[.int .i64 (hi (x + v)), .int .u64 (lo (x + v))]) (by simp [results, Try.results69, go_sem]) rfl ⟨rfl, ((below_drewN (((Below.refl _ _).alloc (Nat.le_refl _) _).alloc (by simp) _) _).setCell (by simp) _).setCell (by simp) _⟩
theorem sg_hi {x y : Int} (h : (hi x != hi y) = true) : sg (hi x) (hi y) = sg x y := by
  simp only [bne_iff_ne, ne_eq] at h
  have := lohi x; have := lohi y; have := lo_bd x; have := lo_bd y
  unfold sg
  split <;> split <;> (try split) <;> (try split) <;> omega
theorem sg_lo {x y : Int} (h : (hi x != hi y) = false) : sg (lo x) (lo y) = sg x y := by
  simp only [bne_eq_false_iff_eq] at h
  have := lohi x; have := lohi y
  unfold sg
  split <;> split <;> (try split) <;> (try split) <;> omega
set_option maxHeartbeats 400000 in
theorem compare_any (x y : Int) (w : World) :
    Calls Try.prog 107 #[.agg #[.int .i64 (hi x), .int .u64 (lo x)], .agg #[.int .i64 (hi y), .int .u64 (lo y)]] w fun e w' => e = .returned (.int .i64 (sg x y)) ∧ Below w.heap.size w w' := by
  go_enter Try.func107, Try.ntmps107
  go_wp2_with (first | (go_at_call 71; refine (cmpi_any _ _ _).mono ?_; rintro e w' ⟨rfl, rfl⟩) | (go_at_call 122; refine (cmpu_any _ _ _).mono ?_; rintro e w' ⟨rfl, rfl⟩))
  · go_ret
    exact ⟨ret_int (sg_hi ‹_›), ((Below.refl _ _).alloc (Nat.le_refl _) _).alloc (by simp) _⟩
  · go_ret
    exact ⟨ret_int (sg_lo ‹_›), ((Below.refl _ _).alloc (Nat.le_refl _) _).alloc (by simp) _⟩
theorem sz_bd {a : Int} (h : I64 a) : 0 ≤ sz a ∧ sz a ≤ 9223372036854775808 := by
  obtain ⟨h1, h2⟩ := h
  unfold sz; split <;> omega
theorem mul_bd {x y : Int} (hx : 0 ≤ x ∧ x ≤ 9223372036854775808) (hy : 0 ≤ y ∧ y ≤ 9223372036854775808) : 0 ≤ x * y ∧ x * y ≤ 85070591730234615865843651857942052864 := by
  refine ⟨Int.mul_nonneg hx.1 hy.1, ?_⟩
  have h := Int.mul_le_mul hx.2 hy.2 hy.1 (by decide : (0 : Int) ≤ 9223372036854775808)
  exact h
theorem mul64_p (x y p : Int) (hx : 0 ≤ x) (hy : 0 ≤ y) (hx' : x < 18446744073709551616) (hy' : y < 18446744073709551616) (hp : x * y = p) (w : World) :
    Calls Try.prog 119 #[.int .u64 x, .int .u64 y] w fun e w' => e = .returned (.tuple #[.int .u64 (hi p), .int .u64 (lo p)]) ∧ w' = w := by
  subst hp; exact mul64_any x y hx hy hx' hy' w
set_option maxHeartbeats 400000 in
theorem product_any (a b : Int) (w : World) (ha : I64 a) (hb : I64 b) :
    Calls Try.prog 106 #[.int .i64 a, .int .i64 b] w fun e w' => e = .returned (.agg #[.int .i64 (hi (a * b)), .int .u64 (lo (a * b))]) ∧ Below w.heap.size w w' := by
  obtain ⟨s1, s2⟩ := sz_bd ha
  obtain ⟨t1, t2⟩ := sz_bd hb
  obtain ⟨p1, p2⟩ := mul_bd (sz_bd ha) (sz_bd hb)
  obtain ⟨p, hp⟩ : ∃ p, sz a * sz b = p := ⟨_, rfl⟩
  rw [hp] at p1 p2
  have q0 : 0 ≤ hi p := by unfold hi; omega
  have q1 : hi p ≤ 4611686018427387904 := by unfold hi; omega
  have HP : Hid (sz a * sz b = p) := hp
  clear hp
  by_cases ca : a < 0
  · by_cases cb : b < 0
    · have e1 : p = a * b := by rw [← HP.out, sz_neg ca, sz_neg cb, Int.neg_mul_neg]
      have e2 : Hid (p = a * b) := e1
      clear e1
      go_enter Try.func106, Try.ntmps106
      go_wp2_with (first | (go_at_call 120; refine (size_any _ _ (by assumption)).mono ?_; rintro e w' ⟨rfl, rfl⟩) | (go_at_call 119; refine (mul64_p _ _ p s1 t1 (by omega) (by omega) HP.out _).mono ?_; rintro e w' ⟨rfl, rfl⟩))
      rw [← e2.out]
      exact bodyPost_ret (v := .agg #[.int .i64 (hi p), .int .u64 (lo p)]) (by simp [results, Try.results106, go_sem]) rfl ⟨rfl, ((Below.refl _ _).alloc (Nat.le_refl _) _).alloc (by simp) _⟩
    · have e1 : -p = a * b := by rw [← HP.out, sz_neg ca, sz_pos (by omega), Int.neg_mul, Int.neg_neg]
      have e2 : Hid (-p = a * b) := e1
      clear e1
      have cb' : decide (b < 0) = false := decide_eq_false cb
      go_enter Try.func106, Try.ntmps106
      go_wp2_with (first | (go_at_call 120; refine (size_any _ _ (by assumption)).mono ?_; rintro e w' ⟨rfl, rfl⟩) | (go_at_call 119; refine (mul64_p _ _ p s1 t1 (by omega) (by omega) HP.out _).mono ?_; rintro e w' ⟨rfl, rfl⟩) | (go_at_call 121; refine (turned_any p _ p1 p2).mono ?_; rintro e w' ⟨rfl, hbel⟩; obtain ⟨hc, hf⟩ := bcell hbel; have hz := hbel.size; simp at hz))
      rw [← e2.out]
      have hc0 : w'.cell? ⟨w.heap.size, 0, none⟩ = some (.int .i64 0) := by rw [hc _ _ (by simp; omega)]; simp [go_sem]
      have hc1 : w'.cell? ⟨w.heap.size, 1, none⟩ = some (.int .u64 0) := by rw [hc _ _ (by simp; omega)]; simp [go_sem]
      exact bodyPost_ret (v := .agg #[.int .i64 (hi (-p)), .int .u64 (lo (-p))]) (by simp [results, Try.results106, go_sem, hc0, hc1]) rfl ⟨rfl, (((((Below.refl _ _).alloc (Nat.le_refl _) _).alloc (by simp) _).trans (hbel.mono (by simp; omega))).setCell (by simp) _).setCell (by simp) _⟩
  · have ca' : decide (a < 0) = false := decide_eq_false ca
    by_cases cb : b < 0
    · have e1 : -p = a * b := by rw [← HP.out, sz_pos (by omega), sz_neg cb, Int.mul_neg, Int.neg_neg]
      have e2 : Hid (-p = a * b) := e1
      clear e1
      go_enter Try.func106, Try.ntmps106
      go_wp2_with (first | (go_at_call 120; refine (size_any _ _ (by assumption)).mono ?_; rintro e w' ⟨rfl, rfl⟩) | (go_at_call 119; refine (mul64_p _ _ p s1 t1 (by omega) (by omega) HP.out _).mono ?_; rintro e w' ⟨rfl, rfl⟩) | (go_at_call 121; refine (turned_any p _ p1 p2).mono ?_; rintro e w' ⟨rfl, hbel⟩; obtain ⟨hc, hf⟩ := bcell hbel; have hz := hbel.size; simp at hz))
      rw [← e2.out]
      have hc0 : w'.cell? ⟨w.heap.size, 0, none⟩ = some (.int .i64 0) := by rw [hc _ _ (by simp; omega)]; simp [go_sem]
      have hc1 : w'.cell? ⟨w.heap.size, 1, none⟩ = some (.int .u64 0) := by rw [hc _ _ (by simp; omega)]; simp [go_sem]
      exact bodyPost_ret (v := .agg #[.int .i64 (hi (-p)), .int .u64 (lo (-p))]) (by simp [results, Try.results106, go_sem, hc0, hc1]) rfl ⟨rfl, (((((Below.refl _ _).alloc (Nat.le_refl _) _).alloc (by simp) _).trans (hbel.mono (by simp; omega))).setCell (by simp) _).setCell (by simp) _⟩
    · have e1 : p = a * b := by rw [← HP.out, sz_pos (by omega), sz_pos (by omega)]
      have e2 : Hid (p = a * b) := e1
      clear e1
      have cb' : decide (b < 0) = false := decide_eq_false cb
      go_enter Try.func106, Try.ntmps106
      go_wp2_with (first | (go_at_call 120; refine (size_any _ _ (by assumption)).mono ?_; rintro e w' ⟨rfl, rfl⟩) | (go_at_call 119; refine (mul64_p _ _ p s1 t1 (by omega) (by omega) HP.out _).mono ?_; rintro e w' ⟨rfl, rfl⟩))
      rw [← e2.out]
      exact bodyPost_ret (v := .agg #[.int .i64 (hi p), .int .u64 (lo p)]) (by simp [results, Try.results106, go_sem]) rfl ⟨rfl, ((Below.refl _ _).alloc (Nat.le_refl _) _).alloc (by simp) _⟩

end Go.Proofs.Ytjkkajhjcinalaa.calc

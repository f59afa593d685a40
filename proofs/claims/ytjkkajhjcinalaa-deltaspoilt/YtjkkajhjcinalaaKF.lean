/-
  Their products.
  Conditions: as each theorem states them.
-/
import Derived.Test.YtjkkajhjcinalaaKC
namespace Go.Proofs.Ytjkkajhjcinalaa.calc
open Go.RowKit
set_option linter.unusedVariables false
set_option linter.unusedSimpArgs false
set_option maxRecDepth 100000

set_option maxHeartbeats 1000000 in
theorem times_h (a b P Q R S PR PS QR QS PSl QRl QSl M H L : Int) (s : Bool) (w : World) (ha : I64 a) (hb : I64 b) (hs : (!(decide (a < 0) == decide (b < 0))) = s)
    (hP : sz a / 4294967296 = P) (hQ : bits .and .u64 (sz a) 4294967295 = Q) (hR : sz b / 4294967296 = R) (hS : bits .and .u64 (sz b) 4294967295 = S)
    (hPR : IntKind.u64.wrap (P * R) = PR) (hPS : IntKind.u64.wrap (P * S) = PS) (hQR : IntKind.u64.wrap (Q * R) = QR) (hQS : IntKind.u64.wrap (Q * S) = QS)
    (hPSl : bits .and .u64 PS 4294967295 = PSl) (hQRl : bits .and .u64 QR 4294967295 = QRl) (hQSl : bits .and .u64 QS 4294967295 = QSl)
    (b1 : 0 ≤ PR) (b2 : PR ≤ 4611686018427387904) (b3 : 0 ≤ PS) (b4 : PS ≤ 18446744065119617025) (b5 : 0 ≤ QR) (b6 : QR ≤ 18446744065119617025) (b7 : 0 ≤ QS) (b8 : QS ≤ 18446744065119617025)
    (b9 : 0 ≤ PSl) (b10 : PSl ≤ 4294967295) (b11 : 0 ≤ QRl) (b12 : QRl ≤ 4294967295) (b13 : 0 ≤ QSl) (b14 : QSl ≤ 4294967295)
    (hM : QS / 4294967296 + PSl + QRl = M) (m1 : 0 ≤ M) (m2 : M ≤ 12884901886) (hH : PR + PS / 4294967296 + QR / 4294967296 + M / 4294967296 = H) (hL : bits .or .u64 (IntKind.u64.wrap (M * 4294967296)) QSl = L) (n1 : (H == 0) = false) :
    Calls Try.prog 74 #[.int .i64 a, .int .i64 b] w fun e w' => e = .returned (.agg #[.bool s, .int .u64 H, .int .u64 L]) ∧ Below w.heap.size w w' := by
  go_enter Try.func74, Try.ntmps74
  go_wp2_with (go_at_call 99; refine (rsize_any _ _ (by assumption)).mono ?_; rintro e w' ⟨rfl, rfl⟩)
  exact bodyPost_ret (v := .agg #[.bool s, .int .u64 H, .int .u64 L]) (by simp [results, Try.results74, go_sem]) rfl ⟨rfl, ((Below.refl _ _).alloc (Nat.le_refl _) _).alloc (by simp) _⟩
set_option maxHeartbeats 1000000 in
theorem times_l (a b P Q R S PR PS QR QS PSl QRl QSl M H L : Int) (s : Bool) (w : World) (ha : I64 a) (hb : I64 b) (hs : (!(decide (a < 0) == decide (b < 0))) = s)
    (hP : sz a / 4294967296 = P) (hQ : bits .and .u64 (sz a) 4294967295 = Q) (hR : sz b / 4294967296 = R) (hS : bits .and .u64 (sz b) 4294967295 = S)
    (hPR : IntKind.u64.wrap (P * R) = PR) (hPS : IntKind.u64.wrap (P * S) = PS) (hQR : IntKind.u64.wrap (Q * R) = QR) (hQS : IntKind.u64.wrap (Q * S) = QS)
    (hPSl : bits .and .u64 PS 4294967295 = PSl) (hQRl : bits .and .u64 QR 4294967295 = QRl) (hQSl : bits .and .u64 QS 4294967295 = QSl)
    (b1 : 0 ≤ PR) (b2 : PR ≤ 4611686018427387904) (b3 : 0 ≤ PS) (b4 : PS ≤ 18446744065119617025) (b5 : 0 ≤ QR) (b6 : QR ≤ 18446744065119617025) (b7 : 0 ≤ QS) (b8 : QS ≤ 18446744065119617025)
    (b9 : 0 ≤ PSl) (b10 : PSl ≤ 4294967295) (b11 : 0 ≤ QRl) (b12 : QRl ≤ 4294967295) (b13 : 0 ≤ QSl) (b14 : QSl ≤ 4294967295)
    (hM : QS / 4294967296 + PSl + QRl = M) (m1 : 0 ≤ M) (m2 : M ≤ 12884901886) (hH : PR + PS / 4294967296 + QR / 4294967296 + M / 4294967296 = H) (hL : bits .or .u64 (IntKind.u64.wrap (M * 4294967296)) QSl = L) (n1 : (H == 0) = true) (n2 : (L == 0) = false) :
    Calls Try.prog 74 #[.int .i64 a, .int .i64 b] w fun e w' => e = .returned (.agg #[.bool s, .int .u64 H, .int .u64 L]) ∧ Below w.heap.size w w' := by
  go_enter Try.func74, Try.ntmps74
  go_wp2_with (go_at_call 99; refine (rsize_any _ _ (by assumption)).mono ?_; rintro e w' ⟨rfl, rfl⟩)
  exact bodyPost_ret (v := .agg #[.bool s, .int .u64 H, .int .u64 L]) (by simp [results, Try.results74, go_sem]) rfl ⟨rfl, ((Below.refl _ _).alloc (Nat.le_refl _) _).alloc (by simp) _⟩
set_option maxHeartbeats 1000000 in
theorem times_z (a b P Q R S PR PS QR QS PSl QRl QSl M H L : Int) (s : Bool) (w : World) (ha : I64 a) (hb : I64 b) (hs : (!(decide (a < 0) == decide (b < 0))) = s)
    (hP : sz a / 4294967296 = P) (hQ : bits .and .u64 (sz a) 4294967295 = Q) (hR : sz b / 4294967296 = R) (hS : bits .and .u64 (sz b) 4294967295 = S)
    (hPR : IntKind.u64.wrap (P * R) = PR) (hPS : IntKind.u64.wrap (P * S) = PS) (hQR : IntKind.u64.wrap (Q * R) = QR) (hQS : IntKind.u64.wrap (Q * S) = QS)
    (hPSl : bits .and .u64 PS 4294967295 = PSl) (hQRl : bits .and .u64 QR 4294967295 = QRl) (hQSl : bits .and .u64 QS 4294967295 = QSl)
    (b1 : 0 ≤ PR) (b2 : PR ≤ 4611686018427387904) (b3 : 0 ≤ PS) (b4 : PS ≤ 18446744065119617025) (b5 : 0 ≤ QR) (b6 : QR ≤ 18446744065119617025) (b7 : 0 ≤ QS) (b8 : QS ≤ 18446744065119617025)
    (b9 : 0 ≤ PSl) (b10 : PSl ≤ 4294967295) (b11 : 0 ≤ QRl) (b12 : QRl ≤ 4294967295) (b13 : 0 ≤ QSl) (b14 : QSl ≤ 4294967295)
    (hM : QS / 4294967296 + PSl + QRl = M) (m1 : 0 ≤ M) (m2 : M ≤ 12884901886) (hH : PR + PS / 4294967296 + QR / 4294967296 + M / 4294967296 = H) (hL : bits .or .u64 (IntKind.u64.wrap (M * 4294967296)) QSl = L) (n1 : (H == 0) = true) (n2 : (L == 0) = true) :
    Calls Try.prog 74 #[.int .i64 a, .int .i64 b] w fun e w' => e = .returned (.agg #[.bool false, .int .u64 H, .int .u64 L]) ∧ Below w.heap.size w w' := by
  go_enter Try.func74, Try.ntmps74
  go_wp2_with (go_at_call 99; refine (rsize_any _ _ (by assumption)).mono ?_; rintro e w' ⟨rfl, rfl⟩)
  exact bodyPost_ret (v := .agg #[.bool false, .int .u64 H, .int .u64 L]) (by simp [results, Try.results74, go_sem]) rfl ⟨rfl, ((Below.refl _ _).alloc (Nat.le_refl _) _).alloc (by simp) _⟩
theorem orI (m q : Int) (h0 : 0 ≤ m) (h1 : 0 ≤ q) (h2 : q < 4294967296) : bits .or .u64 (IntKind.u64.wrap (m * 4294967296)) q = (m * 4294967296) % 18446744073709551616 + q := by
  obtain ⟨m, rfl⟩ := Int.eq_ofNat_of_zero_le h0
  obtain ⟨q, rfl⟩ := Int.eq_ofNat_of_zero_le h1
  have e1 : IntKind.u64.wrap ((m : Int) * 4294967296) = (((m % 4294967296) * 4294967296 : Nat) : Int) := by rw [IntKind.wrap_u64]; omega
  have e2 : (m % 4294967296) * 4294967296 ||| q = (m % 4294967296) * 4294967296 + q := by
    have h := Nat.shiftLeft_add_eq_or_of_lt (b := q) (i := 32) (by omega) (m % 4294967296)
    rw [Nat.shiftLeft_eq] at h
    exact h.symm
  rw [e1, bits_or_u64_nat _ _ (by omega) (by omega), e2]
  omega
theorem sz_mul (a b : Int) : sz (a * b) = sz a * sz b := by
  rcases sz_cases a with ⟨_, h, s⟩ | ⟨_, h, s⟩ <;> rcases sz_cases b with ⟨_, g, t⟩ | ⟨_, g, t⟩ <;> rw [s, t]
  · rw [Int.neg_mul_neg, sz_pos (Int.le_of_lt (Int.mul_pos_of_neg_of_neg h g))]
  · rw [Int.neg_mul]
    have := Int.mul_nonneg (Int.le_of_lt (Int.neg_pos_of_neg h)) g
    rw [Int.neg_mul] at this
    by_cases z : a * b < 0
    · rw [sz_neg z]
    · have : a * b = 0 := by omega
      rw [this]; rfl
  · rw [Int.mul_neg]
    have := Int.mul_nonneg h (Int.le_of_lt (Int.neg_pos_of_neg g))
    rw [Int.mul_neg] at this
    by_cases z : a * b < 0
    · rw [sz_neg z]
    · have : a * b = 0 := by omega
      rw [this]; rfl
  · rw [sz_pos (Int.mul_nonneg h g)]
theorem ng_mul {a b : Int} (h : ¬ a * b = 0) : ng (a * b) = !(decide (a < 0) == decide (b < 0)) := by
  by_cases ca : a < 0 <;> by_cases cb : b < 0
  · rw [decide_eq_true ca, decide_eq_true cb, ng_f (Int.le_of_lt (Int.mul_pos_of_neg_of_neg ca cb))]; rfl
  · rw [decide_eq_true ca, decide_eq_false cb]
    have hb : 0 < b := by
      rcases Int.lt_or_le 0 b with h' | h'
      · exact h'
      · exfalso; have : b = 0 := by omega
        rw [this, Int.mul_zero] at h; exact h rfl
    rw [ng_t (Int.mul_neg_of_neg_of_pos ca hb)]; rfl
  · rw [decide_eq_false ca, decide_eq_true cb]
    have ha : 0 < a := by
      rcases Int.lt_or_le 0 a with h' | h'
      · exact h'
      · exfalso; have : a = 0 := by omega
        rw [this, Int.zero_mul] at h; exact h rfl
    rw [ng_t (Int.mul_neg_of_pos_of_neg ha cb)]; rfl
  · rw [decide_eq_false ca, decide_eq_false cb, ng_f (Int.mul_nonneg (by omega) (by omega))]; rfl
theorem times_any (a b : Int) (w : World) (ha : I64 a) (hb : I64 b) :
    Calls Try.prog 74 #[.int .i64 a, .int .i64 b] w fun e w' => e = .returned (.agg #[.bool (ng (a * b)), .int .u64 (hi (sz (a * b))), .int .u64 (lo (sz (a * b)))]) ∧ Below w.heap.size w w' := by
  obtain ⟨x1, x2⟩ := sz_bd ha
  obtain ⟨y1, y2⟩ := sz_bd hb
  have hT := mulsplit (sz a) (sz b) x1 y1
  rw [← sz_mul] at hT
  obtain ⟨u1, u2⟩ := half_bd (p := sz a / 4294967296) (q := sz b / 4294967296) (B := 2147483648) (C := 2147483648) (by omega) (by omega) (by omega) (by omega)
  obtain ⟨u3, u4⟩ := half_bd (p := sz a / 4294967296) (q := sz b % 4294967296) (B := 4294967295) (C := 4294967295) (by omega) (by omega) (by omega) (by omega)
  obtain ⟨u5, u6⟩ := half_bd (p := sz a % 4294967296) (q := sz b / 4294967296) (B := 4294967295) (C := 4294967295) (by omega) (by omega) (by omega) (by omega)
  obtain ⟨u7, u8⟩ := half_bd (p := sz a % 4294967296) (q := sz b % 4294967296) (B := 4294967295) (C := 4294967295) (by omega) (by omega) (by omega) (by omega)
  obtain ⟨PR, hPR⟩ : ∃ z, sz a / 4294967296 * (sz b / 4294967296) = z := ⟨_, rfl⟩
  obtain ⟨PS, hPS⟩ : ∃ z, sz a / 4294967296 * (sz b % 4294967296) = z := ⟨_, rfl⟩
  obtain ⟨QR, hQR⟩ : ∃ z, sz a % 4294967296 * (sz b / 4294967296) = z := ⟨_, rfl⟩
  obtain ⟨QS, hQS⟩ : ∃ z, sz a % 4294967296 * (sz b % 4294967296) = z := ⟨_, rfl⟩
  rw [hPR] at u1 u2 hT
  rw [hPS] at u3 u4 hT
  rw [hQR] at u5 u6 hT
  rw [hQS] at u7 u8 hT
  have eH : hi (sz (a * b)) = PR + PS / 4294967296 + QR / 4294967296 + (QS / 4294967296 + PS % 4294967296 + QR % 4294967296) / 4294967296 := by unfold hi; omega
  have eL : lo (sz (a * b)) = ((QS / 4294967296 + PS % 4294967296 + QR % 4294967296) * 4294967296) % 18446744073709551616 + QS % 4294967296 := by unfold lo; omega
  have W : ∀ z : Int, 0 ≤ z → z < 18446744073709551616 → IntKind.u64.wrap z = z := by intro z h1 h2; rw [IntKind.wrap_u64]; omega
  have hz : hi (sz (a * b)) = 0 → lo (sz (a * b)) = 0 → a * b = 0 := fun h1 h2 => sz_zero h1 h2
  have hnz1 : ¬ hi (sz (a * b)) = 0 → ¬ a * b = 0 := by intro h h'; rw [h'] at h; exact h rfl
  have hnz2 : ¬ lo (sz (a * b)) = 0 → ¬ a * b = 0 := by intro h h'; rw [h'] at h; exact h rfl
  by_cases n1 : hi (sz (a * b)) = 0
  · by_cases n2 : lo (sz (a * b)) = 0
    · rw [show ng (a * b) = false from by rw [hz n1 n2]; rfl]
      exact times_z a b _ _ _ _ _ _ _ _ _ _ _ _ _ _ _ w ha hb rfl rfl (maskI _ x1 (by omega)) rfl (maskI _ y1 (by omega)) (by rw [hPR]; exact W _ u1 (by omega)) (by rw [hPS]; exact W _ u3 (by omega)) (by rw [hQR]; exact W _ u5 (by omega)) (by rw [hQS]; exact W _ u7 (by omega)) (maskI _ u3 (by omega)) (maskI _ u5 (by omega)) (maskI _ u7 (by omega)) u1 (by omega) u3 (by omega) u5 (by omega) u7 (by omega) (by omega) (by omega) (by omega) (by omega) (by omega) (by omega) rfl (by omega) (by omega) eH.symm ((orI _ _ (by omega) (by omega) (by omega)).trans eL.symm) (by simp [n1]) (by simp [n2])
    · rw [ng_mul (hnz2 n2)]
      exact times_l a b _ _ _ _ _ _ _ _ _ _ _ _ _ _ _ w ha hb rfl rfl (maskI _ x1 (by omega)) rfl (maskI _ y1 (by omega)) (by rw [hPR]; exact W _ u1 (by omega)) (by rw [hPS]; exact W _ u3 (by omega)) (by rw [hQR]; exact W _ u5 (by omega)) (by rw [hQS]; exact W _ u7 (by omega)) (maskI _ u3 (by omega)) (maskI _ u5 (by omega)) (maskI _ u7 (by omega)) u1 (by omega) u3 (by omega) u5 (by omega) u7 (by omega) (by omega) (by omega) (by omega) (by omega) (by omega) (by omega) rfl (by omega) (by omega) eH.symm ((orI _ _ (by omega) (by omega) (by omega)).trans eL.symm) (by simp [n1]) (by simp [n2])
  · rw [ng_mul (hnz1 n1)]
    exact times_h a b _ _ _ _ _ _ _ _ _ _ _ _ _ _ _ w ha hb rfl rfl (maskI _ x1 (by omega)) rfl (maskI _ y1 (by omega)) (by rw [hPR]; exact W _ u1 (by omega)) (by rw [hPS]; exact W _ u3 (by omega)) (by rw [hQR]; exact W _ u5 (by omega)) (by rw [hQS]; exact W _ u7 (by omega)) (maskI _ u3 (by omega)) (maskI _ u5 (by omega)) (maskI _ u7 (by omega)) u1 (by omega) u3 (by omega) u5 (by omega) u7 (by omega) (by omega) (by omega) (by omega) (by omega) (by omega) (by omega) rfl (by omega) (by omega) eH.symm ((orI _ _ (by omega) (by omega) (by omega)).trans eL.symm) (by simp [n1])

end Go.Proofs.Ytjkkajhjcinalaa.calc

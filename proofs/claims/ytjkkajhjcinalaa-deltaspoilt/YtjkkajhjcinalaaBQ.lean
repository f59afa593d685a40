/-
  What a bag's values come to, in three parts: what parts.plus and parts.narrow return.
  Conditions: as each theorem states them.
-/
import Derived.Test.YtjkkajhjcinalaaBM
import Derived.Test.YtjkkajhjcinalaaKG
import Derived.Laws.Bits128
namespace Go.Proofs.Ytjkkajhjcinalaa
open Go.ChangeShapes Go.WideShapes Go.ChangeAt Go.RowKit
set_option linter.unusedVariables false
set_option linter.unusedSimpArgs false
set_option maxRecDepth 100000

theorem box_three {w : World} {D : Nat} {t : TypeId} {a b c : Value} (hD : w.heap[D]? = some (.cells #[a, b, c] t)) : w.cell? ⟨D, 0, none⟩ = some a ∧ w.cell? ⟨D, 1, none⟩ = some b ∧ w.cell? ⟨D, 2, none⟩ = some c := by
  refine ⟨?_, ?_, ?_⟩ <;> simp [World.cell?, hD]
theorem mask22 (n : Int) : bits .and .i64 n 4194303 = n % 4194304 := by
  have h127 : (BitVec.ofInt 64 4194303).toNat = 2 ^ 22 - 1 := by decide
  have key : (BitVec.ofInt 64 n &&& BitVec.ofInt 64 4194303).toNat = (n % ((2 ^ 64 : Nat) : Int)).toNat % 2 ^ 22 := by
    rw [BitVec.toNat_and, BitVec.toNat_ofInt, h127, Nat.and_two_pow_sub_one_eq_mod]
  show IntKind.i64.wrap ((BitVec.ofInt 64 n &&& BitVec.ofInt 64 4194303).toNat : Nat) = n % 4194304
  rw [key, IntKind.wrap_i64]
  omega
set_option maxHeartbeats 1000000 in
theorem pplus_raw (h m lo v n A B C P Q R : Int) (w : World) (hA : v / 17592186044416 = A) (hB : v / 4194304 % 4194304 = B) (hC : v % 4194304 = C) (hP : A * n = P) (hQ : B * n = Q) (hR : C * n = R)
    (h1 : -9223372036854775808 ≤ P) (h2 : P ≤ 9223372036854775807) (h3 : -9223372036854775808 ≤ Q) (h4 : Q ≤ 9223372036854775807) (h5 : -9223372036854775808 ≤ R) (h6 : R ≤ 9223372036854775807) (h7 : -9223372036854775808 ≤ h + P) (h8 : h + P ≤ 9223372036854775807) (h9 : -9223372036854775808 ≤ m + Q) (g0 : m + Q ≤ 9223372036854775807) (g1 : -9223372036854775808 ≤ lo + R) (g2 : lo + R ≤ 9223372036854775807) :
    Calls Try.prog 123 #[.agg #[.int .i64 h, .int .i64 m, .int .i64 lo], .int .i64 v, .int .i64 n] w fun e w' => e = .returned (.agg #[.int .i64 (h + P), .int .i64 (m + Q), .int .i64 (lo + R)]) ∧ Below w.heap.size w w' := by
  have mk := mask22
  go_enter Try.func123, Try.ntmps123
  go_wp2
  exact bodyPost_ret (v := .agg #[.int .i64 (h + P), .int .i64 (m + Q), .int .i64 (lo + R)]) (by simp [results, Try.results123, go_sem]) rfl ⟨rfl, ((Below.refl _ _).alloc (Nat.le_refl _) _).alloc (by simp) _⟩
/-- The sums of the three parts. -/
def hS : List Rn → Int | [] => 0 | r :: l => r.1 / 17592186044416 * r.2 + hS l
def mS : List Rn → Int | [] => 0 | r :: l => r.1 / 4194304 % 4194304 * r.2 + mS l
def lS : List Rn → Int | [] => 0 | r :: l => r.1 % 4194304 * r.2 + lS l
theorem hS_app (l m : List Rn) : hS (l ++ m) = hS l + hS m := by
  induction l with
  | nil => simp [hS]
  | cons r l ih => simp only [List.cons_append, hS, ih]; omega
theorem mS_app (l m : List Rn) : mS (l ++ m) = mS l + mS m := by
  induction l with
  | nil => simp [mS]
  | cons r l ih => simp only [List.cons_append, mS, ih]; omega
theorem lS_app (l m : List Rn) : lS (l ++ m) = lS l + lS m := by
  induction l with
  | nil => simp [lS]
  | cons r l ih => simp only [List.cons_append, lS, ih]; omega
theorem mul_le {a b c d n : Int} (ha : a ≤ b) (hb : b ≤ c) (hn : 0 ≤ n) : a * n ≤ b * n ∧ b * n ≤ c * n := ⟨Int.mul_le_mul_of_nonneg_right ha hn, Int.mul_le_mul_of_nonneg_right hb hn⟩
theorem part_bd {v n : Int} (hv : I64 v) (hn : 0 ≤ n) : -524288 * n ≤ v / 17592186044416 * n ∧ v / 17592186044416 * n ≤ 524288 * n ∧ 0 ≤ v / 4194304 % 4194304 * n ∧ v / 4194304 % 4194304 * n ≤ 4194304 * n ∧ 0 ≤ v % 4194304 * n ∧ v % 4194304 * n ≤ 4194304 * n ∧ v * n = v / 17592186044416 * n * 17592186044416 + v / 4194304 % 4194304 * n * 4194304 + v % 4194304 * n := by
  obtain ⟨h1, h2⟩ := hv
  have a1 : -524288 ≤ v / 17592186044416 := by omega
  have a2 : v / 17592186044416 ≤ 524288 := by omega
  have b1 : 0 ≤ v / 4194304 % 4194304 := by omega
  have b2 : v / 4194304 % 4194304 ≤ 4194304 := by omega
  have c1 : 0 ≤ v % 4194304 := by omega
  have c2 : v % 4194304 ≤ 4194304 := by omega
  have e : v = v / 17592186044416 * 17592186044416 + v / 4194304 % 4194304 * 4194304 + v % 4194304 := by omega
  obtain ⟨p1, p2⟩ := mul_le (d := 0) a1 a2 hn
  obtain ⟨q1, q2⟩ := mul_le (d := 0) b1 b2 hn
  obtain ⟨r1, r2⟩ := mul_le (d := 0) c1 c2 hn
  refine ⟨p1, p2, by omega, q2, by omega, r2, ?_⟩
  generalize v / 17592186044416 = A at e ⊢
  generalize v / 4194304 % 4194304 = B at e ⊢
  generalize v % 4194304 = C at e ⊢
  subst e
  rw [Int.add_mul, Int.add_mul, Int.mul_right_comm A, Int.mul_right_comm B]
theorem sum_bds {l : List Rn} (hv : ∀ r ∈ l, I64 r.1) (hp : Pos l) : -524288 * tot l ≤ hS l ∧ hS l ≤ 524288 * tot l ∧ 0 ≤ mS l ∧ mS l ≤ 4194304 * tot l ∧ 0 ≤ lS l ∧ lS l ≤ 4194304 * tot l ∧ wsum l = hS l * 17592186044416 + mS l * 4194304 + lS l := by
  induction l with
  | nil => simp [hS, mS, lS, tot, wsum]
  | cons r l ih =>
    have h1 := ih (fun q hq => hv q (by simp [hq])) (fun q hq => hp q (by simp [hq]))
    have h2 := part_bd (hv r (by simp)) (n := r.2) (by have := hp r (by simp); omega)
    simp only [hS, mS, lS, tot, wsum]
    omega
theorem narrow_fit {h m lo : Int} (h1 : -1152921504606846976 ≤ h) (h2 : h ≤ 1152921504606846976) (m1 : -4611686018427387904 ≤ m) (m2 : m ≤ 4611686018427387904) (l1 : -4611686018427387904 ≤ lo) (l2 : lo ≤ 4611686018427387904) {M H r1 r2 : Int} (hM : m + lo / 4194304 = M) (hH : h + M / 4194304 = H) (hr1 : M % 4194304 = r1) (hr2 : lo % 4194304 = r2) :
    h * 17592186044416 + m * 4194304 + lo = H * 17592186044416 + (r1 * 4194304 + r2) ∧ 0 ≤ r1 * 4194304 + r2 ∧ r1 * 4194304 + r2 < 17592186044416 := by omega
set_option maxHeartbeats 1000000 in
theorem narrow_m (h m lo : Int) (w : World) (h1 : -1152921504606846976 ≤ h) (h2 : h ≤ 1152921504606846976) (m1 : -4611686018427387904 ≤ m) (m2 : m ≤ 4611686018427387904) (l1 : -4611686018427387904 ≤ lo) (l2 : lo ≤ 4611686018427387904) :
    Calls Try.prog 124 #[.agg #[.int .i64 h, .int .i64 m, .int .i64 lo]] w fun e w' => e = .returned (.tuple #[.int .i64 (calc.fitV (h * 17592186044416 + m * 4194304 + lo)), .bool (calc.fitB (h * 17592186044416 + m * 4194304 + lo))]) ∧ Below w.heap.size w w' := by
  have mk := mask22
  obtain ⟨L, hL⟩ : ∃ x, lo / 4194304 = x := ⟨_, rfl⟩
  obtain ⟨M, hM⟩ : ∃ x, m + L = x := ⟨_, rfl⟩
  obtain ⟨K, hK⟩ : ∃ x, M / 4194304 = x := ⟨_, rfl⟩
  obtain ⟨H, hH⟩ : ∃ x, h + K = x := ⟨_, rfl⟩
  obtain ⟨r1, hr1⟩ : ∃ x, M % 4194304 = x := ⟨_, rfl⟩
  obtain ⟨r2, hr2⟩ : ∃ x, lo % 4194304 = x := ⟨_, rfl⟩
  obtain ⟨s1, hs1⟩ : ∃ x, r1 * 4194304 = x := ⟨_, rfl⟩
  obtain ⟨r, hr⟩ : ∃ x, s1 + r2 = x := ⟨_, rfl⟩
  obtain ⟨P, hP⟩ : ∃ x, H * 17592186044416 = x := ⟨_, rfl⟩
  have hf := narrow_fit h1 h2 m1 m2 l1 l2 (M := M) (H := H) (r1 := r1) (r2 := r2) (by rw [hL, hM]) (by rw [hK, hH]) hr1 hr2
  rw [hs1, hr, hP] at hf
  have b1 : -1099511627776 ≤ L ∧ L ≤ 1099511627776 := by omega
  have b2 : -4611687117939015680 ≤ M ∧ M ≤ 4611687117939015680 := by omega
  have b3 : -1099511889921 ≤ K ∧ K ≤ 1099511889920 := by omega
  have b4 : -1152922604118736897 ≤ H ∧ H ≤ 1152922604118736896 := by omega
  have b5 : 0 ≤ s1 ∧ s1 ≤ 17592181850112 := by omega
  have b6 : 0 ≤ r ∧ r ≤ 17592186044415 := by omega
  obtain ⟨b1a, b1b⟩ := b1
  obtain ⟨b2a, b2b⟩ := b2
  obtain ⟨b3a, b3b⟩ := b3
  obtain ⟨b4a, b4b⟩ := b4
  obtain ⟨b5a, b5b⟩ := b5
  obtain ⟨b6a, b6b⟩ := b6
  have b7 : 0 ≤ r1 := by omega
  have b8 : r1 ≤ 4194303 := by omega
  have b9 : 0 ≤ r2 := by omega
  have b10 : r2 ≤ 4194303 := by omega
  have HF := hid hf
  have HH : Hid (I64 H) := hid (by unfold I64; omega)
  have HR : Hid (I64 r) := hid (by unfold I64; omega)
  have HP := hid hP
  have H44 : Hid (I64 17592186044416) := hid (by unfold I64; decide)
  obtain ⟨X, hX⟩ : ∃ x, h * 17592186044416 + m * 4194304 + lo = x := ⟨_, rfl⟩
  rw [hX] at hf HF ⊢
  clear hX
  by_cases hfit : -9223372036854775808 ≤ P ∧ P ≤ 9223372036854775807
  · have HFP := hid (calc.fit_yes hfit)
    have HPI : Hid (I64 P) := hid hfit
    have C2 : Hid ((w.alloc (.cells #[.int .i64 h, .int .i64 m, .int .i64 lo] 192)).cell? ⟨w.heap.size, 2, none⟩ = some (.int .i64 lo)) := hid (box_three (heap_alloc_new w _)).2.2
    clear hfit hf hP
    go_enter Try.func124, Try.ntmps124
    go_wp2_with (first
      | (go_at_call 142; refine (calc.mul_any H 17592186044416 _ HH.out H44.out).mono ?_; rintro e w1 ⟨rfl, hb1⟩; rw [HP.out, HFP.out.1, HFP.out.2]; have B1 := hid (bt (b1alloc _ _) hb1); have c2 := ((bcell hb1).1 w.heap.size 2 (by simp)).trans C2.out; clear hb1)
      | (go_at_call 65; refine (calc.add_any P r _ HPI.out HR.out).mono ?_; rintro e w2 ⟨rfl, rfl⟩))
    go_ret2
    exact ⟨by rw [HF.out.1]; rfl, B1.out⟩
  · have HFP := hid (calc.fit_no hfit)
    have HNX : Hid (¬ (-9223372036854775808 ≤ X ∧ X ≤ 9223372036854775807)) := hid (by rw [← hP] at hfit hf; omega)
    clear hfit hf hP
    go_enter Try.func124, Try.ntmps124
    go_wp2_with (first
      | (go_at_call 142; refine (calc.mul_any H 17592186044416 _ HH.out H44.out).mono ?_; rintro e w1 ⟨rfl, hb1⟩; rw [HP.out, HFP.out.1, HFP.out.2]; have B1 := hid (bt (b1alloc _ _) hb1); clear hb1))
    go_ret2
    exact ⟨calc.ret_fit_no HNX.out, B1.out⟩

end Go.Proofs.Ytjkkajhjcinalaa

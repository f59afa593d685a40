/-
  The walk of the law RowMass.
  Conditions: as each theorem states them.
-/
import Derived.Test.YtikgbcdmeikjfaaRM
namespace Go.Proofs.Ytikgbcdmeikjfaa
open Go.ChangeShapes Go.WideShapes Go.ChangeAt Go.RowKit
set_option linter.unusedVariables false
set_option linter.unusedSimpArgs false
set_option maxRecDepth 100000

/-- One row in a new block. -/
theorem rrow_one (w : World) (r : Rw) (N : Nat) (hN : w.heap.size = N) (t : TypeId) : RRow (w.alloc (.cells (rcs r).toArray t)) (some ⟨N, 0, none⟩) 1 1 [r] := by
  subst hN
  refine ⟨rfl, Nat.le_refl _, by decide, (fun e => by cases e), fun _ => ⟨w.heap.size, 0, rfl, by simp, fun j q hj i v hi => ?_⟩⟩
  have hg := heap_alloc_new w (.cells (rcs r).toArray t)
  rw [cell_of_row _ _ _ _ t (0, 0) hg]
  match j, hj with
  | 0, hj =>
    simp at hj; subst hj
    simpa using hi
theorem mok_a : mok [(0, 0, 0, 0, 2305843009213693952, -2305843009213693952)] = true ∧ mv0 [(0, 0, 0, 0, 2305843009213693952, -2305843009213693952)] = 2305843009213693952 ∧ mv1 [(0, 0, 0, 0, 2305843009213693952, -2305843009213693952)] = 2305843009213693952 := by decide
theorem rok_a : rok (0, 0, 0, 0, 2305843009213693952, -2305843009213693952) := ⟨⟨⟨by decide, by decide⟩, ⟨by decide, by decide⟩, ⟨by decide, by decide⟩, ⟨by decide, by decide⟩⟩, ⟨by decide, by decide⟩, ⟨by decide, by decide⟩⟩
theorem rok_b {n : Int} (h : I64 n) : rok (0, 0, 0, 0, n, 0) := ⟨⟨⟨by decide, by decide⟩, ⟨by decide, by decide⟩, ⟨by decide, by decide⟩, ⟨by decide, by decide⟩⟩, h, ⟨by decide, by decide⟩⟩
theorem mok_b (n : Int) : mok [(0, 0, 0, 0, 2305843009213693952, -2305843009213693952), (0, 0, 0, 0, n, 0)] = (n == 0) := by
  have h := szi_nn n
  have h0 : szi n = 0 ↔ n = 0 := by unfold szi; split <;> omega
  have e1 : szi 2305843009213693952 = 2305843009213693952 := by decide
  have e2 : szi (-2305843009213693952) = 2305843009213693952 := by decide
  have e3 : szi 0 = 0 := by decide
  have s0 : sum0 [(0, 0, 0, 0, 2305843009213693952, -2305843009213693952), (0, 0, 0, 0, n, 0)] = 2305843009213693952 + szi n := by
    show szi 2305843009213693952 + (szi n + 0) = _
    rw [e1]; omega
  have s1 : sum1 [(0, 0, 0, 0, 2305843009213693952, -2305843009213693952), (0, 0, 0, 0, n, 0)] = 2305843009213693952 := by
    show szi (-2305843009213693952) + (szi 0 + 0) = _
    rw [e2, e3]; rfl
  by_cases hn : n = 0
  · rw [mok_yes (by have := h0.2 hn; omega) (by omega)]; simp [hn]
  · rw [mok_no (.inl (by have : ¬ szi n = 0 := fun e => hn (h0.1 e); omega))]; simp [hn]

set_option maxHeartbeats 16000000 in
theorem mass_walk (a : Option Addr) (n c : Nat) (l : List Rw) (near : Int) (w : World) (hl : RRow w a n c l) (hk : ∀ r ∈ l, rok r) (hnr : I64 near) :
    Calls Try.prog 6 #[.slice a n c, .int .i64 near] w fun e w' => e = .returned (.bool true) ∧ Below w.heap.size w w' := by
  have HL := hid hl
  have HK := hid hk
  have HN := hid hnr
  obtain ⟨l1, l2⟩ := hl.lens
  clear hl hk l1 hnr
  by_cases h200 : 200 < n
  · have hd : decide ((200 : Int) < (n : Int)) = true := decide_eq_true (by omega)
    have hdi : (200 : Int) < (n : Int) := by omega
    go_enter Try.func6, Try.ntmps6
    go_wp2_with (first | (go_at_call 10; refine (wakes_any _).mono ?_; rintro e wa ⟨rfl, hba⟩))
    go_ret
    exact ⟨rfl, hba⟩
  · have hd : decide ((200 : Int) < (n : Int)) = false := decide_eq_false (by omega)
    obtain ⟨V0, e0⟩ : ∃ y, mv0 l = y := ⟨_, rfl⟩
    obtain ⟨V1, e1⟩ : ∃ y, mv1 l = y := ⟨_, rfl⟩
    obtain ⟨K, eK⟩ : ∃ y, mok l = y := ⟨_, rfl⟩
    have E0 := hid e0
    have E1 := hid e1
    have EK := hid eK
    obtain ⟨U0, f0⟩ : ∃ y, mv0 [(0, 0, 0, 0, 2305843009213693952, -2305843009213693952), (0, 0, 0, 0, near, 0)] = y := ⟨_, rfl⟩
    obtain ⟨U1, f1⟩ : ∃ y, mv1 [(0, 0, 0, 0, 2305843009213693952, -2305843009213693952), (0, 0, 0, 0, near, 0)] = y := ⟨_, rfl⟩
    obtain ⟨Z, fZ⟩ : ∃ y, (near == 0) = y := ⟨_, rfl⟩
    have F0 := hid f0
    have F1 := hid f1
    have FK : Hid (mok [(0, 0, 0, 0, 2305843009213693952, -2305843009213693952), (0, 0, 0, 0, near, 0)] = Z) := hid ((mok_b near).trans fZ)
    have qmm : qm V0 V1 V0 V1 = true := qm_iff.2 ⟨rfl, rfl⟩
    have eqn := eqM2
    clear e0 e1 eK f0 f1
    go_enter Try.func6, Try.ntmps6
    go_upto_region 4 with (first
      | (go_at_call 19; refine (mass_m a n c l V0 V1 K _ HL.out HK.out E0 E1 EK).mono ?_; rintro e w1 ⟨rfl, hb1⟩; have B1 := hid hb1; clear hb1))
    have M1 := hid (heap_alloc_new w1 (.cells #[.int .i64 V0, .int .i64 V1] 31))
    have B2 := hid (bt B1.out ((Below.refl _ _).alloc (Nat.le_refl _) (.cells #[.int .i64 V0, .int .i64 V1] 31)))
    generalize (w1.alloc (.cells #[.int .i64 V0, .int .i64 V1] 31)) = W2 at M1 B2 ⊢
    go_upto_region 5 with (first
      | (go_at_call 20; refine (rmass_m a n c l V0 V1 K _ (HL.out.below B2.out) HK.out E0 E1 EK).mono ?_; rintro e w3 ⟨rfl, hb3⟩; have B3 := hid (bt B2.out hb3); have M3 := hid (keep_blk M1.out hb3); clear hb3))
    have X4 := hid (heap_alloc_new w3 (.cells #[.int .i64 V0, .int .i64 V1, .bool K] 44))
    have B4 := hid (bt B3.out ((Below.refl _ _).alloc (Nat.le_refl _) (.cells #[.int .i64 V0, .int .i64 V1, .bool K] 44)))
    have M4 := hid (keep_blk M3.out ((Below.refl _ _).alloc (Nat.le_refl _) (.cells #[.int .i64 V0, .int .i64 V1, .bool K] 44)))
    generalize (w3.alloc (.cells #[.int .i64 V0, .int .i64 V1, .bool K] 44)) = W4 at X4 B4 M4 ⊢
    obtain ⟨c0, c1⟩ := box_two M4.out
    obtain ⟨d0, d1, d2⟩ := box_three X4.out
    go_upto_region 9 with fail
    clear c0 c1 d0 d1 d2
    have A5 := hid (heap_alloc_new W4 (.cells #[.int .u8 0, .int .u8 0, .int .u8 0, .int .u8 0, .int .i64 2305843009213693952, .int .i64 (-2305843009213693952)] 33))
    have A6 := hid (keep_blk A5.out ((Below.refl _ _).alloc (Nat.le_refl _) (.cells #[.int .u8 0, .int .u8 0, .int .u8 0, .int .u8 0, .int .i64 near, .int .i64 0] 33)))
    have C6 := hid (heap_alloc_new (W4.alloc (.cells #[.int .u8 0, .int .u8 0, .int .u8 0, .int .u8 0, .int .i64 2305843009213693952, .int .i64 (-2305843009213693952)] 33)) (.cells #[.int .u8 0, .int .u8 0, .int .u8 0, .int .u8 0, .int .i64 near, .int .i64 0] 33))
    have B6 := hid (bt (bt B4.out ((Below.refl _ _).alloc (Nat.le_refl _) (.cells #[.int .u8 0, .int .u8 0, .int .u8 0, .int .u8 0, .int .i64 2305843009213693952, .int .i64 (-2305843009213693952)] 33))) ((Below.refl _ _).alloc (Nat.le_refl _) (.cells #[.int .u8 0, .int .u8 0, .int .u8 0, .int .u8 0, .int .i64 near, .int .i64 0] 33)))
    rw [World.size_alloc] at C6
    generalize ((W4.alloc (.cells #[.int .u8 0, .int .u8 0, .int .u8 0, .int .u8 0, .int .i64 2305843009213693952, .int .i64 (-2305843009213693952)] 33)).alloc (.cells #[.int .u8 0, .int .u8 0, .int .u8 0, .int .u8 0, .int .i64 near, .int .i64 0] 33)) = W6 at A6 C6 B6 ⊢
    obtain ⟨c0, c1, c2, c3, c4, c5⟩ := box6 A6.out
    go_upto_region 10 with (first
      | (go_at_call 19; refine (mass_m _ 1 1 [(0, 0, 0, 0, 2305843009213693952, -2305843009213693952)] 2305843009213693952 2305843009213693952 true _ (rrow_one W6 _ _ rfl _) (by intro r hr; simp at hr; subst hr; exact rok_a) (hid mok_a.2.1) (hid mok_a.2.2) (hid mok_a.1)).mono ?_; rintro e w7 ⟨rfl, hb7⟩; have b7 := bt ((Below.refl _ _).alloc (Nat.le_refl _) _) hb7; have B7 := hid (bt B6.out b7); have A7 := hid (keep_blk A6.out b7); have C7 := hid (keep_blk C6.out b7); clear hb7 b7))
    have B8 := hid (bt B7.out ((Below.refl _ _).alloc (Nat.le_refl _) (.cells #[.int .i64 2305843009213693952, .int .i64 2305843009213693952] 31)))
    have A8 := hid (keep_blk A7.out ((Below.refl _ _).alloc (Nat.le_refl _) (.cells #[.int .i64 2305843009213693952, .int .i64 2305843009213693952] 31)))
    have C8 := hid (keep_blk C7.out ((Below.refl _ _).alloc (Nat.le_refl _) (.cells #[.int .i64 2305843009213693952, .int .i64 2305843009213693952] 31)))
    generalize (w7.alloc (.cells #[.int .i64 2305843009213693952, .int .i64 2305843009213693952] 31)) = W8 at A8 C8 B8 ⊢
    clear c0 c1 c2 c3 c4 c5
    obtain ⟨c0, c1, c2, c3, c4, c5⟩ := box6 A8.out
    obtain ⟨d0, d1, d2, d3, d4, d5⟩ := box6 C8.out
    go_upto_region 11 with (first
      | (go_at_call 19; refine (mass_m _ 2 2 [(0, 0, 0, 0, 2305843009213693952, -2305843009213693952), (0, 0, 0, 0, near, 0)] U0 U1 Z _ (rrow_two W8 _ _ _ rfl _) (by intro r hr; simp at hr; rcases hr with rfl | rfl; exact rok_a; exact rok_b HN.out) F0 F1 FK).mono ?_; rintro e w9 ⟨rfl, hb9⟩; have B9 := hid (bt (bt B8.out ((Below.refl _ _).alloc (Nat.le_refl _) _)) hb9); clear hb9))
    have B10 := hid (bt B9.out ((Below.refl _ _).alloc (Nat.le_refl _) (.cells #[.int .i64 U0, .int .i64 U1] 31)))
    generalize (w9.alloc (.cells #[.int .i64 U0, .int .i64 U1] 31)) = W10 at B10 ⊢
    clear c0 c1 c2 c3 c4 c5 d0 d1 d2 d3 d4 d5
    go_wp2_with (first
      | (go_at_call 10; refine (wakes_any _).mono ?_; rintro e wa ⟨rfl, hba⟩; have Ba := hid (bt B10.out hba); clear hba))
    go_ret
    exact ⟨rfl, Ba.out⟩

end Go.Proofs.Ytikgbcdmeikjfaa

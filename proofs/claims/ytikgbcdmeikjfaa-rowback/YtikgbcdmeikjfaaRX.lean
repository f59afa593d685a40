/-
  The walk of the law RowBack.
  Conditions: as each theorem states them.
-/
import Derived.Test.YtikgbcdmeikjfaaRXa
import Derived.Deep.RegionHeld
namespace Go.Proofs.Ytikgbcdmeikjfaa
open Go.ChangeShapes Go.WideShapes Go.ChangeAt Go.RowKit
set_option linter.unusedVariables false
set_option linter.unusedSimpArgs false
set_option maxRecDepth 100000

set_option maxHeartbeats 16000000 in
theorem back_walk (x0 x1 x2 x3 m0 m1 : Int) (a : Option Addr) (n c : Nat) (l : List Int) (cut : Int) (w : World) (hx : rok (x0, x1, x2, x3, m0, m1)) (hl : code.Row8 w a n c l) (hcut : I64 cut) :
    Calls Try.prog 8 #[.agg #[.int .u8 x0, .int .u8 x1, .int .u8 x2, .int .u8 x3, .int .i64 m0, .int .i64 m1], .slice a n c, .int .i64 cut] w fun e w' => e = .returned (.bool true) ∧ Below w.heap.size w w' := by
  have HX := hid hx
  have HL := hid hl
  have HT := hid hcut
  have l2 : n ≤ 9223372036854775807 := by have := hl.2.1; have := hl.2.2.1; unfold maxLen at this; omega
  have B0 : Hid (Below w.heap.size w (w.alloc (.cells #[.int .u8 x0, .int .u8 x1, .int .u8 x2, .int .u8 x3, .int .i64 m0, .int .i64 m1] 33))) := hid ((Below.refl _ _).alloc (Nat.le_refl _) _)
  have R0 := hid (heap_alloc_new w (.cells #[.int .u8 x0, .int .u8 x1, .int .u8 x2, .int .u8 x3, .int .i64 m0, .int .i64 m1] 33))
  clear hl hcut
  by_cases h1000 : 1000 < n
  · have hd : decide ((1000 : Int) < (n : Int)) = true := decide_eq_true (by omega)
    have hdi : (1000 : Int) < (n : Int) := by omega
    go_enter Try.func8, Try.ntmps8
    go_wp2_with (first | (go_at_call 10; refine (wakes_any _).mono ?_; rintro e wa ⟨rfl, hba⟩))
    go_ret
    exact ⟨rfl, bt B0.out hba⟩
  · have hd : decide ((1000 : Int) < (n : Int)) = false := decide_eq_false (by omega)
    obtain ⟨L, eL⟩ : ∃ y, (bts (x0, x1, x2, x3, m0, m1)).length = y := ⟨_, rfl⟩
    have EL := hid eL
    have hbl := bts_len (x0, x1, x2, x3, m0, m1)
    rw [eL] at hbl
    obtain ⟨hb6, hb24⟩ := hbl
    have hL6 : decide ((L : Int) < 6) = false := decide_eq_false (by omega)
    obtain ⟨k, ek⟩ : ∃ k : Nat, cut % (L : Int) = k := ⟨(cut % (L : Int)).toNat, by have := Int.emod_nonneg cut (show (L : Int) ≠ 0 by omega); omega⟩
    have hkL : k < L := by have := Int.emod_lt_of_pos cut (show (0 : Int) < L by omega); omega
    have EKM := hid ek
    have hkL' : (k : Int) ≤ (L : Int) := by omega
    have hL0 : ¬ L = 0 := by omega
    obtain ⟨y0, y1, y2, y3, q0, q1, eY⟩ : ∃ y0 y1 y2 y3 q0 q1, rdR l = (y0, y1, y2, y3, q0, q1) := ⟨_, _, _, _, _, _, rfl⟩
    obtain ⟨J, eJ⟩ : ∃ y, rdN l = y := ⟨_, rfl⟩
    obtain ⟨I, eI⟩ : ∃ y, rdB l = y := ⟨_, rfl⟩
    have hJI : decide (0 < J) = I := by rw [← eJ, ← eI]; exact rd_pos l
    have EY := hid eY
    have EJ := hid eJ
    have EI := hid eI
    have RBK : Hid (rdB (bts (x0, x1, x2, x3, m0, m1) ++ l) = true ∧ rdN (bts (x0, x1, x2, x3, m0, m1) ++ l) = (L : Int) ∧ rdR (bts (x0, x1, x2, x3, m0, m1) ++ l) = (x0, x1, x2, x3, m0, m1)) := hid (by have := rd_back (x0, x1, x2, x3, m0, m1) hx l; rw [eL] at this; exact this)
    have RCT : Hid (rdB ((bts (x0, x1, x2, x3, m0, m1)).take k) = false) := hid (rd_cut _ hx k (by rw [eL]; exact hkL))
    have qxx : qr (x0, x1, x2, x3, m0, m1) (x0, x1, x2, x3, m0, m1) = true := qr_self _
    have qyy : qr (y0, y1, y2, y3, q0, q1) (y0, y1, y2, y3, q0, q1) = true := qr_self _
    have eqn := eqR6
    have HU : Hid (∀ x ∈ bts (x0, x1, x2, x3, m0, m1), U8 x) := hid (bts_u8 hx)
    clear eL ek eY eJ eI hx
    go_enter Try.func8, Try.ntmps8
    go_upto_region 4 with (first
      | (go_at_call 22; refine (rbytes_m x0 x1 x2 x3 m0 m1 L _ HX.out EL).mono ?_; rintro e w1 ⟨⟨g1, rfl, hr1⟩, hb1⟩; have RB1 := hid hr1; have B1 := hid (bt B0.out hb1); have R1 := hid (keep_blk R0.out hb1); clear hr1 hb1))
    have cv0 : (convert 52 9 (.slice (some ⟨g1, 0, none⟩) L L)).run Try.prog w1.drew = .ok (.string (txt (bts (x0, x1, x2, x3, m0, m1)))) w1.drew := conv8 (w := w1.drew) (RB1.out.below (Below.refl _ _).drew)
    have KS : Hid (∀ x, Below w1.heap.size w1 x → Below w1.heap.size w1 x ∧ (x.cell? ⟨w.heap.size, 0, none⟩ = some (.int .u8 x0) ∧ x.cell? ⟨w.heap.size, 1, none⟩ = some (.int .u8 x1) ∧ x.cell? ⟨w.heap.size, 2, none⟩ = some (.int .u8 x2) ∧ x.cell? ⟨w.heap.size, 3, none⟩ = some (.int .u8 x3) ∧ x.cell? ⟨w.heap.size, 4, none⟩ = some (.int .i64 m0) ∧ x.cell? ⟨w.heap.size, 5, none⟩ = some (.int .i64 m1)) ∧ (convert 52 9 (.slice (some ⟨g1, 0, none⟩) L L)).run Try.prog x = .ok (.string (txt (bts (x0, x1, x2, x3, m0, m1)))) x) := hid (fun x h => ⟨h, box6 (keep_blk R1.out h), conv8 (RB1.out.below h)⟩)
    have hlss : decide ((L : Int) < 6) = false := hL6
    go_region_held (fun x => Below w1.heap.size w1 x ∧ (x.cell? ⟨w.heap.size, 0, none⟩ = some (.int .u8 x0) ∧ x.cell? ⟨w.heap.size, 1, none⟩ = some (.int .u8 x1) ∧ x.cell? ⟨w.heap.size, 2, none⟩ = some (.int .u8 x2) ∧ x.cell? ⟨w.heap.size, 3, none⟩ = some (.int .u8 x3) ∧ x.cell? ⟨w.heap.size, 4, none⟩ = some (.int .i64 m0) ∧ x.cell? ⟨w.heap.size, 5, none⟩ = some (.int .i64 m1)) ∧ (convert 52 9 (.slice (some ⟨g1, 0, none⟩) L L)).run Try.prog x = .ok (.string (txt (bts (x0, x1, x2, x3, m0, m1)))) x)
      (first | assumption | exact keep_drew KS | exact keep_step (by assumption) (by assumption) KS)
      (first
        | (go_at_call 23; refine (rrbytes_m x0 x1 x2 x3 m0 m1 L _ HX.out EL).mono ?_; rintro e w2 ⟨⟨g2, cap2, rfl, hr2⟩, hb2⟩; have cv2 := conv8 hr2; have cv3 := conv8 (RB1.out.below (undrew hb2)); clear hr2))
    have B2 : Hid (Below w1.heap.size w1 w2) := hid (undrew hb2)
    have RB2 := hid (RB1.out.below B2.out)
    have R2 := hid (keep_blk R1.out B2.out)
    have BW2 := hid (bt B1.out B2.out)
    clear hb2 cv0 cv2 cv3 KS RB1 R1
    go_upto_region 7 with (first
      | (at_builtin; refine code.append_row rfl (.tmp 37) (.tmp 38) rfl w2.heap.size w2.heap.size 0 0 [] rfl (code.own_made w2 w2.heap.size (Nat.le_refl _)) (some ⟨g1, 0, none⟩) L L (bts (x0, x1, x2, x3, m0, m1)) rfl (RB2.out.below ((Below.refl _ _).alloc (Nat.le_refl _) _)) (by omega) (by simp) ?_; intro g3 cap3 w3 hown3 hgrow3; rw [Nat.zero_add, List.nil_append] at hown3; have B3 : Below w2.heap.size w2 w3 := ((Below.refl w2.heap.size w2).alloc (Nat.le_refl _) _).grown hgrow3 (by simp) (fun k hk => by cases hk; exact Nat.le_refl _))
      | (at_builtin; refine code.append_row rfl (.tmp 39) (.tmp 40) rfl w2.heap.size g3 L cap3 (bts (x0, x1, x2, x3, m0, m1)) rfl hown3 a n c l rfl (HL.out.below (bt BW2.out B3)) (by omega) B3.size ?_; intro g4 cap4 w4 hown4 hgrow4; have B4 : Hid (Below w2.heap.size w2 w4) := hid (B3.grown hgrow4 B3.size (fun k hk => by cases hk; exact (code.own_row hown3).1)); have R8 : Hid (code.Row8 w4 (some ⟨g4, 0, none⟩) (L + n) cap4 (bts (x0, x1, x2, x3, m0, m1) ++ l)) := hid (own_row8 hown4 (by intro x hx; rcases List.mem_append.mp hx with hx | hx; exact HU.out x hx; exact HL.out.2.2.2.1 x hx)); clear hown3 hgrow3 hown4 hgrow4 B3)
      | (go_at_call 24; refine (read_m _ (L + n) cap4 (bts (x0, x1, x2, x3, m0, m1) ++ l) x0 x1 x2 x3 m0 m1 L true _ R8.out (hid RBK.out.2.2) (hid RBK.out.2.1) (hid RBK.out.1)).mono ?_; rintro e w5 ⟨rfl, hb5⟩; have B5 := hid (bt B4.out hb5); clear hb5))
    have XB := hid (heap_alloc_new w5 (.cells #[.int .u8 x0, .int .u8 x1, .int .u8 x2, .int .u8 x3, .int .i64 m0, .int .i64 m1] 33))
    have b6 := bt B5.out ((Below.refl _ _).alloc (Nat.le_refl _) (.cells #[.int .u8 x0, .int .u8 x1, .int .u8 x2, .int .u8 x3, .int .i64 m0, .int .i64 m1] 33))
    have B6 := hid (bt BW2.out b6)
    have R6 := hid (keep_blk R2.out b6)
    have RB6 := hid (RB2.out.below b6)
    clear b6 R2 RB2 B5 B4
    generalize (w5.alloc (.cells #[.int .u8 x0, .int .u8 x1, .int .u8 x2, .int .u8 x3, .int .i64 m0, .int .i64 m1] 33)) = W6 at XB B6 R6 RB6 ⊢
    go_upto_region 8 with (first
      | (go_at_call 18; refine (kmod_m cut L k _ HT (by omega) (by omega) EKM).mono ?_; rintro e w7 ⟨rfl, hw⟩; have hw2 := hw.symm; clear hw; subst hw2)
      | (go_at_call 24; refine (read_m (some ⟨g1, 0, none⟩) k L ((bts (x0, x1, x2, x3, m0, m1)).take k) 0 0 0 0 0 0 0 false _ (first8 RB6.out k (by omega)) (hid (rd_none RCT.out).1) (hid (rd_none RCT.out).2) RCT).mono ?_; rintro e w8 ⟨rfl, hb8⟩; have B8 := hid (bt B6.out hb8); have R8' := hid (keep_blk R6.out hb8); have X8 := hid (keep_blk XB.out hb8); clear hb8))
    have b9 := (Below.refl w8.heap.size w8).alloc (Nat.le_refl _) (.cells #[.int .u8 0, .int .u8 0, .int .u8 0, .int .u8 0, .int .i64 0, .int .i64 0] 33)
    have B9 := hid (bt B8.out b9)
    have R9 := hid (keep_blk R8'.out b9)
    have X9 := hid (keep_blk X8.out b9)
    clear b9 B8 R8' X8 XB R6 RB6 B6
    generalize (w8.alloc (.cells #[.int .u8 0, .int .u8 0, .int .u8 0, .int .u8 0, .int .i64 0, .int .i64 0] 33)) = W9 at B9 R9 X9 ⊢
    go_upto_region 9 with (first
      | (go_at_call 24; refine (read_m a n c l y0 y1 y2 y3 q0 q1 J I _ (HL.out.below B9.out) EY EJ EI).mono ?_; rintro e w10 ⟨rfl, hb10⟩; have B10 := hid (bt B9.out hb10); have R10 := hid (keep_blk R9.out hb10); have X10 := hid (keep_blk X9.out hb10); clear hb10))
    have YB := hid (heap_alloc_new w10 (.cells #[.int .u8 y0, .int .u8 y1, .int .u8 y2, .int .u8 y3, .int .i64 q0, .int .i64 q1] 33))
    have b11 := (Below.refl w10.heap.size w10).alloc (Nat.le_refl _) (.cells #[.int .u8 y0, .int .u8 y1, .int .u8 y2, .int .u8 y3, .int .i64 q0, .int .i64 q1] 33)
    have B11 := hid (bt B10.out b11)
    have R11 := hid (keep_blk R10.out b11)
    have X11 := hid (keep_blk X10.out b11)
    clear b11 B10 R10 X10 R9 X9
    generalize (w10.alloc (.cells #[.int .u8 y0, .int .u8 y1, .int .u8 y2, .int .u8 y3, .int .i64 q0, .int .i64 q1] 33)) = W11 at YB B11 R11 X11 ⊢
    go_upto_region 10 with (first
      | (go_at_call 25; refine (rread_m a n c l y0 y1 y2 y3 q0 q1 J _ (HL.out.below B11.out) EY EJ).mono ?_; rintro e w12 ⟨rfl, hb12⟩; have B12 := hid (bt B11.out hb12); have R12 := hid (keep_blk R11.out hb12); have X12 := hid (keep_blk X11.out hb12); have Y12 := hid (keep_blk YB.out hb12); clear hb12))
    have ZB := hid (heap_alloc_new w12 (.cells #[.int .u8 y0, .int .u8 y1, .int .u8 y2, .int .u8 y3, .int .i64 q0, .int .i64 q1] 33))
    have b13 := (Below.refl w12.heap.size w12).alloc (Nat.le_refl _) (.cells #[.int .u8 y0, .int .u8 y1, .int .u8 y2, .int .u8 y3, .int .i64 q0, .int .i64 q1] 33)
    have B13 := hid (bt B12.out b13)
    have R13 := hid (keep_blk R12.out b13)
    have X13 := hid (keep_blk X12.out b13)
    have Y13 := hid (keep_blk Y12.out b13)
    clear b13 B12 R12 X12 Y12
    generalize (w12.alloc (.cells #[.int .u8 y0, .int .u8 y1, .int .u8 y2, .int .u8 y3, .int .i64 q0, .int .i64 q1] 33)) = W13 at ZB B13 R13 X13 Y13 ⊢
    obtain ⟨c0, c1, c2, c3, c4, c5⟩ := box6 R13.out
    obtain ⟨d0, d1, d2, d3, d4, d5⟩ := box6 X13.out
    obtain ⟨e0, e1, e2, e3, e4, e5⟩ := box6 Y13.out
    obtain ⟨f0, f1, f2, f3, f4, f5⟩ := box6 ZB.out
    go_wp2_with (first
      | (go_at_call 10; refine (wakes_any _).mono ?_; rintro e wa ⟨rfl, hba⟩; have Ba := hid (bt B13.out hba); clear hba))
    go_ret
    exact ⟨rfl, Ba.out⟩

end Go.Proofs.Ytikgbcdmeikjfaa

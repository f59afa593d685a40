/-
  May it be, how many, whose it is, who is under it: what the law's own told returns.
  Conditions: as each theorem states them.
-/
import Derived.Test.YtffhjmldijbolaaJ
import Derived.Deep.Cut
import Derived.Deep.DeepCutAuto
import Derived.Deep.RegionHeld
namespace Go.Proofs.Ytffhjmldijbolaa
open Go.ChangeShapes Go.WideShapes Go.ChangeAt Go.RowKit
set_option linter.unusedVariables false
set_option linter.unusedSimpArgs false

/-- The five cells of what is asked, in a block behind a world. -/
def B5 (w wr : World) (s u : Value) (f t m : Int) : Prop := w.heap.size < wr.heap.size ∧ Below w.heap.size w wr ∧ wr.cell? ⟨w.heap.size, 0, none⟩ = some s ∧ wr.cell? ⟨w.heap.size, 1, none⟩ = some u ∧ wr.cell? ⟨w.heap.size, 2, none⟩ = some (.int .i64 f) ∧ wr.cell? ⟨w.heap.size, 3, none⟩ = some (.int .i64 t) ∧ wr.cell? ⟨w.heap.size, 4, none⟩ = some (.int .i64 m)
theorem b5_new (w : World) (s u : Value) (f t m : Int) (y : TypeId) : B5 w (w.alloc (.cells #[s, u, .int .i64 f, .int .i64 t, .int .i64 m] y)) s u f t m := by
  refine ⟨by simp, (Below.refl _ _).alloc (Nat.le_refl _) _, ?_, ?_, ?_, ?_, ?_⟩ <;> simp [go_sem]
theorem B5.step {w wr w' : World} {s u : Value} {f t m : Int} (h : B5 w wr s u f t m) (hb : Below wr.heap.size wr w') : B5 w w' s u f t m := by
  obtain ⟨h0, h1, h2, h3, h4, h5, h6⟩ := h
  exact ⟨Nat.lt_of_lt_of_le h0 hb.size, bt h1 hb, ((bcell hb).1 _ _ h0).trans h2, ((bcell hb).1 _ _ h0).trans h3, ((bcell hb).1 _ _ h0).trans h4, ((bcell hb).1 _ _ h0).trans h5, ((bcell hb).1 _ _ h0).trans h6⟩
/-- What is borne through the last line. -/
def Inv (w w' : World) (s u : Value) (f t m : Int) (a6 : Option Addr) (n6 c6 : Nat) (l6 : List Int) (a7 : Option Addr) (n7 c7 : Nat) (l7 : List Int) : Prop :=
  (w.heap.size < w'.heap.size ∧ Below w.heap.size w w' ∧ w'.cell? ⟨w.heap.size, 0, none⟩ = some s ∧ w'.cell? ⟨w.heap.size, 1, none⟩ = some u ∧ w'.cell? ⟨w.heap.size, 2, none⟩ = some (.int .i64 f) ∧ w'.cell? ⟨w.heap.size, 3, none⟩ = some (.int .i64 t) ∧ w'.cell? ⟨w.heap.size, 4, none⟩ = some (.int .i64 m)) ∧ IRow .i64 w' a6 n6 c6 l6 ∧ IRow .i64 w' a7 n7 c7 l7

theorem inv_drew {w w' : World} {s u : Value} {f t m : Int} {a6 : Option Addr} {n6 c6 : Nat} {l6 : List Int} {a7 : Option Addr} {n7 c7 : Nat} {l7 : List Int} (h : Inv w w' s u f t m a6 n6 c6 l6 a7 n7 c7 l7) : Inv w w'.drew s u f t m a6 n6 c6 l6 a7 n7 c7 l7 :=
  ⟨⟨h.1.1, h.1.2.1.drew, h.1.2.2⟩, h.2.1, h.2.2⟩
theorem inv_step {w w' w1 : World} {s u : Value} {f t m : Int} {a6 : Option Addr} {n6 c6 : Nat} {l6 : List Int} {a7 : Option Addr} {n7 c7 : Nat} {l7 : List Int} (hb : Below w'.heap.size w' w1) (h : Inv w w' s u f t m a6 n6 c6 l6 a7 n7 c7 l7) : Inv w w1 s u f t m a6 n6 c6 l6 a7 n7 c7 l7 :=
  ⟨B5.step h.1 hb, h.2.1.below hb, h.2.2.below hb⟩

theorem inv_bel {w w' : World} {s u : Value} {f t m : Int} {a6 : Option Addr} {n6 c6 : Nat} {l6 : List Int} {a7 : Option Addr} {n7 c7 : Nat} {l7 : List Int} (h : Inv w w' s u f t m a6 n6 c6 l6 a7 n7 c7 l7) : Below w.heap.size w w' := h.1.2.1
theorem inv_6 {w w' : World} {s u : Value} {f t m : Int} {a6 : Option Addr} {n6 c6 : Nat} {l6 : List Int} {a7 : Option Addr} {n7 c7 : Nat} {l7 : List Int} (h : Inv w w' s u f t m a6 n6 c6 l6 a7 n7 c7 l7) : IRow .i64 w' a6 n6 c6 l6 := h.2.1
theorem inv_7 {w w' : World} {s u : Value} {f t m : Int} {a6 : Option Addr} {n6 c6 : Nat} {l6 : List Int} {a7 : Option Addr} {n7 c7 : Nat} {l7 : List Int} (h : Inv w w' s u f t m a6 n6 c6 l6 a7 n7 c7 l7) : IRow .i64 w' a7 n7 c7 l7 := h.2.2

set_option maxHeartbeats 4000000 in
set_option maxRecDepth 100000 in
theorem told_any (sa : Option Addr) (sl sc : Nat) (ua : Option Addr) (ul uc : Nat) (S : List Int) (U : List (List Int)) (f t m : Int) (w : World) (hd : Dim w sa sl sc ua ul uc S U) (hf : I64 f) (ht : I64 t) (hm : I64 m) :
    Calls Try.prog 11 #[.agg #[.slice sa sl sc, .slice ua ul uc, .int .i64 f, .int .i64 t, .int .i64 m]] w fun e w' => e = .returned (.bool true) ∧ Below w.heap.size w w' := by
  have HD : Hid (Dim w sa sl sc ua ul uc S U) := hd
  have HF : Hid (I64 f) := hf
  have HT : Hid (I64 t) := ht
  have HM : Hid (I64 m) := hm
  obtain ⟨f1, f2⟩ := hf
  obtain ⟨t1, t2⟩ := ht
  obtain ⟨m1, m2⟩ := hm
  clear hd
  have BX : Hid (B5 w (w.alloc (.cells #[.slice sa sl sc, .slice ua ul uc, .int .i64 f, .int .i64 t, .int .i64 m] 27)) (.slice sa sl sc) (.slice ua ul uc) f t m) := b5_new _ _ _ _ _ _ _
  go_enter Try.func11, Try.ntmps11
  go_upto_region 4 with (first
    | (go_at_call 15; refine (lift_any _ _ _ _ _ _ S U _ _ _ _ (HD.out.below BX.out.2.1) HF.out HT.out HM.out).mono ?_; rintro e w1 ⟨rfl, hb1⟩; have BX1 : Hid (B5 w w1 (.slice sa sl sc) (.slice ua ul uc) f t m) := BX.out.step hb1; clear hb1; obtain ⟨_, _, c0, c1, c2, c3, c4⟩ := BX1.out)
    | (go_at_call 21; refine (rlift_any _ _ _ _ _ _ S U _ _ _ _ (HD.out.below BX1.out.2.1) HF.out HT.out HM.out).mono ?_; rintro e w2 ⟨rfl, hb2⟩; have BX2 : Hid (B5 w w2 (.slice sa sl sc) (.slice ua ul uc) f t m) := BX1.out.step hb2; clear hb2; obtain ⟨_, _, d0, d1, d2, d3, d4⟩ := BX2.out))
  go_cut [38] (fun c wx => c = .bool (decide (0 ≤ f ∧ f ≤ t)) ∧ wx = w2)
  case first =>
    by_cases h1 : 0 ≤ f
    · by_cases h2 : f ≤ t
      · go_wp2_with fail
        go_meet
        case rel => exact ⟨congrArg Value.bool (decide_eq_true (p := 0 ≤ f ∧ f ≤ t) ⟨h1, h2⟩).symm, rfl⟩
      · have h2f : decide (f ≤ t) = false := decide_eq_false h2
        go_wp2_with fail
        go_meet
        case rel => exact ⟨congrArg Value.bool (decide_eq_false (p := 0 ≤ f ∧ f ≤ t) (by omega)).symm, rfl⟩
    · have h1f : decide (0 ≤ f) = false := decide_eq_false h1
      go_wp2_with fail
      go_meet
      case rel => exact ⟨congrArg Value.bool (decide_eq_false (p := 0 ≤ f ∧ f ≤ t) (by omega)).symm, rfl⟩
  case rest =>
    obtain ⟨rfl, hwx⟩ := hcut
    subst hwx
    obtain ⟨A, hA⟩ : ∃ A, decide (0 ≤ f ∧ f ≤ t) = A := ⟨_, rfl⟩
    rw [hA]
    go_upto_if 38 with fail
    go_cut [6] (fun v wx => ∃ a n c, v = .slice a n c ∧ IRow .i64 wx a n c (under S U t m f) ∧ Hid (B5 w wx (.slice sa sl sc) (.slice ua ul uc) f t m))
    case first =>
      cases A with
      | true =>
        go_wp2_with (go_at_call 22; refine (runder_any _ _ _ _ _ _ S U _ _ _ _ (HD.out.below BX2.out.2.1) HT.out HM.out HF.out).mono ?_; rintro e w3 ⟨⟨a, cap, rfl, hr⟩, hb3⟩)
        go_meet
        case rel => exact ⟨_, _, _, rfl, hr, BX2.out.step hb3⟩
      | false =>
        go_wp2_with fail
        go_meet
        case rel => exact ⟨_, _, _, rfl, by rw [under_if (of_decide_eq_false hA)]; exact row_nil _ _, BX2⟩
    case rest =>
      obtain ⟨a6, n6, c6, rfl, hr6, BX3⟩ := hcut
      have HR6 : Hid (IRow .i64 wc a6 n6 c6 (under S U t m f)) := hr6
      obtain ⟨_, _, g0, g1, g2, g3, g4⟩ := BX3.out
      clear hr6
      go_upto_if 50 with fail
      go_cut [7] (fun v wx => ∃ a n c, v = .slice a n c ∧ IRow .i64 wx a n c (kids S U t m) ∧ IRow .i64 wx a6 n6 c6 (under S U t m f) ∧ Hid (B5 w wx (.slice sa sl sc) (.slice ua ul uc) f t m))
      case first =>
        by_cases h3 : 0 < t
        · have HT1 : Hid (I64 (t - 1)) := by show I64 (t - 1); unfold I64; omega
          go_wp2_with (go_at_call 22; refine (runder_any _ _ _ _ _ _ S U _ _ _ _ (HD.out.below BX3.out.2.1) HT.out HM.out HT1.out).mono ?_; rintro e w3 ⟨⟨a, cap, rfl, hr⟩, hb3⟩)
          go_meet
          case rel => exact ⟨_, _, _, rfl, by rw [kids_is h3]; exact hr, HR6.out.below hb3, BX3.out.step hb3⟩
        · have h3f : decide (0 < t) = false := decide_eq_false h3
          go_wp2_with fail
          go_meet
          case rel => exact ⟨_, _, _, rfl, by rw [kids_if (by omega)]; exact row_nil _ _, HR6.out, BX3⟩
      case rest =>
        obtain ⟨a7, n7, c7, rfl, hr7, hr6, BX4⟩ := hcut
        obtain ⟨y0, y1, y2, y3, y4, y5, y6⟩ := BX4.out
        clear HR6 BX3 g0 g1 g2 g3 g4 BX2 BX1 BX c0 c1 c2 c3 c4 d0 d1 d2 d3 d4
        have ge := lift_ge S U f t m
        obtain ⟨x, hx⟩ : ∃ x, lift S U f t m = x := ⟨_, rfl⟩
        by_cases hx0 : 0 ≤ x
        · have e1 : liftV S U f t m = x := by unfold liftV; rw [hx]; exact Int.max_eq_left hx0
          have e2 : liftB S U f t m = true := by unfold liftB; rw [hx]; exact decide_eq_true hx0
          rw [hx] at ge
          have hmx : (if x < 0 then (0 : Int) else x) = x := if_neg (by omega)
          have hmy : ¬ x < 0 := by omega
          rw [e1, e2, hx]
          clear e1 e2 hx
          go_wp2
          go_region_held3 (fun w' => (w.heap.size < w'.heap.size ∧ Below w.heap.size w w' ∧ w'.cell? ⟨w.heap.size, 0, none⟩ = some (.slice sa sl sc) ∧ w'.cell? ⟨w.heap.size, 1, none⟩ = some (.slice ua ul uc) ∧ w'.cell? ⟨w.heap.size, 2, none⟩ = some (.int .i64 f) ∧ w'.cell? ⟨w.heap.size, 3, none⟩ = some (.int .i64 t) ∧ w'.cell? ⟨w.heap.size, 4, none⟩ = some (.int .i64 m)) ∧ IRow .i64 w' a6 n6 c6 (under S U t m f) ∧ IRow .i64 w' a7 n7 c7 (kids S U t m))
            (first | assumption | exact inv_drew ⟨⟨by assumption, by assumption, by assumption, by assumption, by assumption, by assumption, by assumption⟩, by assumption, by assumption⟩ | exact inv_step (by assumption) (by assumption))
            (first
              | (go_at_call 18; refine (good_any _ _ _ _ _ _ S U _ (HD.out.below (inv_bel (by assumption)))).mono ?_; rintro e w1 ⟨rfl, hb1⟩)
              | (go_at_call 12; refine (rgood_any _ _ _ _ _ _ S U _ (HD.out.below (inv_bel (by assumption)))).mono ?_; rintro e w1 ⟨rfl, hb1⟩)
              | (go_at_call 19; refine (size_any _ _ _ _ _ _ S U _ _ (HD.out.below (inv_bel (by assumption))) HT.out).mono ?_; rintro e w1 ⟨rfl, hb1⟩)
              | (go_at_call 14; refine (rsize_any _ _ _ _ _ _ S U _ _ (HD.out.below (inv_bel (by assumption))) HT.out).mono ?_; rintro e w1 ⟨rfl, hb1⟩)
              | (go_at_call 16; refine (under_any _ _ _ _ _ _ S U _ _ _ _ (HD.out.below (inv_bel (by assumption))) HT.out HM.out HF.out).mono ?_; rintro e w1 ⟨⟨a9, cap9, rfl, hr9⟩, hb1⟩)
              | (go_at_call 17; refine (kids_any _ _ _ _ _ _ S U _ _ _ (HD.out.below (inv_bel (by assumption))) HT.out HM.out).mono ?_; rintro e w1 ⟨⟨a9, cap9, rfl, hr9⟩, hb1⟩)
              | (go_at_call 23; refine (ints_same _ _ _ _ _ _ _ _ (by assumption) (by first | exact inv_6 (by assumption) | exact inv_7 (by assumption))).mono ?_; rintro e w1 ⟨rfl, hb1⟩))
          go_wp2
          go_ret
          exact ⟨rfl, inv_bel (by assumption)⟩
        · have hx1 : x = -1 := by rw [hx] at ge; omega
          subst hx1
          have e1 : liftV S U f t m = 0 := by unfold liftV; rw [hx]; rfl
          have e2 : liftB S U f t m = false := by unfold liftB; rw [hx]; rfl
          rw [e1, e2, hx]
          clear e1 e2 hx
          go_wp2
          go_region_held3 (fun w' => (w.heap.size < w'.heap.size ∧ Below w.heap.size w w' ∧ w'.cell? ⟨w.heap.size, 0, none⟩ = some (.slice sa sl sc) ∧ w'.cell? ⟨w.heap.size, 1, none⟩ = some (.slice ua ul uc) ∧ w'.cell? ⟨w.heap.size, 2, none⟩ = some (.int .i64 f) ∧ w'.cell? ⟨w.heap.size, 3, none⟩ = some (.int .i64 t) ∧ w'.cell? ⟨w.heap.size, 4, none⟩ = some (.int .i64 m)) ∧ IRow .i64 w' a6 n6 c6 (under S U t m f) ∧ IRow .i64 w' a7 n7 c7 (kids S U t m))
            (first | assumption | exact inv_drew ⟨⟨by assumption, by assumption, by assumption, by assumption, by assumption, by assumption, by assumption⟩, by assumption, by assumption⟩ | exact inv_step (by assumption) (by assumption))
            (first
              | (go_at_call 18; refine (good_any _ _ _ _ _ _ S U _ (HD.out.below (inv_bel (by assumption)))).mono ?_; rintro e w1 ⟨rfl, hb1⟩)
              | (go_at_call 12; refine (rgood_any _ _ _ _ _ _ S U _ (HD.out.below (inv_bel (by assumption)))).mono ?_; rintro e w1 ⟨rfl, hb1⟩)
              | (go_at_call 19; refine (size_any _ _ _ _ _ _ S U _ _ (HD.out.below (inv_bel (by assumption))) HT.out).mono ?_; rintro e w1 ⟨rfl, hb1⟩)
              | (go_at_call 14; refine (rsize_any _ _ _ _ _ _ S U _ _ (HD.out.below (inv_bel (by assumption))) HT.out).mono ?_; rintro e w1 ⟨rfl, hb1⟩)
              | (go_at_call 16; refine (under_any _ _ _ _ _ _ S U _ _ _ _ (HD.out.below (inv_bel (by assumption))) HT.out HM.out HF.out).mono ?_; rintro e w1 ⟨⟨a9, cap9, rfl, hr9⟩, hb1⟩)
              | (go_at_call 17; refine (kids_any _ _ _ _ _ _ S U _ _ _ (HD.out.below (inv_bel (by assumption))) HT.out HM.out).mono ?_; rintro e w1 ⟨⟨a9, cap9, rfl, hr9⟩, hb1⟩)
              | (go_at_call 23; refine (ints_same _ _ _ _ _ _ _ _ (by assumption) (by first | exact inv_6 (by assumption) | exact inv_7 (by assumption))).mono ?_; rintro e w1 ⟨rfl, hb1⟩))
          go_wp2
          go_ret
          exact ⟨rfl, inv_bel (by assumption)⟩

end Go.Proofs.Ytffhjmldijbolaa

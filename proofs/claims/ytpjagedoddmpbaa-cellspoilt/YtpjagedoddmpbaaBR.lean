/-
  What a bag comes to: what bag.Sum returns.
  Conditions: as each theorem states them.
-/
import Derived.Test.YtpjagedoddmpbaaBQ
import Derived.Test.YtpjagedoddmpbaaBG
namespace Go.Proofs.Ytpjagedoddmpbaa
open Go.ChangeShapes Go.WideShapes Go.ChangeAt Go.RowKit
set_option linter.unusedVariables false
set_option linter.unusedSimpArgs false
set_option maxRecDepth 100000

/-- What all come to, or 0; does it fit? -/
def sv (l : List Rn) : Int := if gd l then calc.fitV (wsum l) else 0
def sb (l : List Rn) : Bool := gd l && calc.fitB (wsum l)
theorem sv_no {l : List Rn} (h : gd l = false) : sv l = 0 ∧ sb l = false := by unfold sv sb; rw [h]; exact ⟨rfl, rfl⟩
theorem sv_yes {l : List Rn} (h : gd l = true) : sv l = calc.fitV (wsum l) ∧ sb l = calc.fitB (wsum l) := by unfold sv sb; rw [h]; exact ⟨rfl, rfl⟩
theorem hS_step {l : List Rn} {k : Nat} {x0 x1 : Int} (h : l[k]? = some (x0, x1)) : hS (l.take (k + 1)) = hS (l.take k) + x0 / 17592186044416 * x1 := by
  rw [take_one h, hS_app]; simp [hS]
theorem mS_step {l : List Rn} {k : Nat} {x0 x1 : Int} (h : l[k]? = some (x0, x1)) : mS (l.take (k + 1)) = mS (l.take k) + x0 / 4194304 % 4194304 * x1 := by
  rw [take_one h, mS_app]; simp [mS]
theorem lS_step {l : List Rn} {k : Nat} {x0 x1 : Int} (h : l[k]? = some (x0, x1)) : lS (l.take (k + 1)) = lS (l.take k) + x0 % 4194304 * x1 := by
  rw [take_one h, lS_app]; simp [lS]
/-- The way of Sum. -/
def SI (l : List Rn) (k : Nat) (h m lo : Int) : Prop := h = hS (l.take k) ∧ m = mS (l.take k) ∧ lo = lS (l.take k)
theorem si_bd {l : List Rn} {k : Nat} {h m lo : Int} (hs : SI l k h m lo) (hb : Bag l) (hk : ∀ r ∈ l, nok r) : -576460752303423488 ≤ h ∧ h ≤ 576460752303423488 ∧ 0 ≤ m ∧ m ≤ 4611686018427387904 ∧ 0 ≤ lo ∧ lo ≤ 4611686018427387904 := by
  obtain ⟨e1, e2, e3⟩ := hs
  have hb' := bag_take hb k
  have := sum_bds (l := l.take k) (fun r hr => (hk r (List.mem_of_mem_take hr)).1) hb'.2.1
  have t := hb'.2.2
  have t0 := tot_nn hb'.2.1
  omega
theorem si_end {l : List Rn} {k : Nat} {h m lo : Int} (hs : SI l k h m lo) (hb : Bag l) (hk : ∀ r ∈ l, nok r) (hl : l.length ≤ k) : h * 17592186044416 + m * 4194304 + lo = wsum l := by
  obtain ⟨e1, e2, e3⟩ := hs
  rw [List.take_of_length_le hl] at e1 e2 e3
  have := sum_bds (l := l) (fun r hr => (hk r hr).1) hb.2.1
  rw [e1, e2, e3]; omega
theorem kp_set3 {w wr : World} {N : Nat} {t : TypeId} {a b c : Value} (x y z : Value) (h : Kp w wr N (.cells #[a, b, c] t)) : Kp w (((wr.setCell ⟨N, 0, none⟩ x).setCell ⟨N, 1, none⟩ y).setCell ⟨N, 2, none⟩ z) N (.cells #[x, y, z] t) := by
  refine ⟨((h.1.setCell h.2.1 _).setCell h.2.1 _).setCell h.2.1 _, h.2.1, ?_⟩
  have h0 := heap_setCell_same wr N 0 _ t x h.2.2
  have h1 := heap_setCell_same _ N 1 _ t y h0
  have h2 := heap_setCell_same _ N 2 _ t z h1
  exact h2
theorem froz3 {w : World} {D : Nat} {t : TypeId} {cs : Array Value} (hD : w.heap[D]? = some (.cells cs t)) : w.frozen? ⟨D, 0, none⟩ = false ∧ w.frozen? ⟨D, 1, none⟩ = false ∧ w.frozen? ⟨D, 2, none⟩ = false :=
  ⟨frozen_of_row w D 0 _ _ hD, frozen_of_row w D 1 _ _ hD, frozen_of_row w D 2 _ _ hD⟩

set_option maxHeartbeats 8000000 in
theorem bsum_any (a : Option Addr) (n c : Nat) (l : List Rn) (w : World) (hl : NRun w a n c l) (hk : ∀ r ∈ l, nok r) :
    Calls Try.prog 53 #[.slice a n c] w fun e w' => e = .returned (.tuple #[.int .i64 (sv l), .bool (sb l)]) ∧ Below w.heap.size w w' := by
  have HL := hid hl
  have HK := hid hk
  obtain ⟨l1, l2⟩ := hl.lens
  have EL := hid l1
  clear hl hk l1
  cases hg : gd l with
  | false =>
    rw [(sv_no hg).1, (sv_no hg).2]
    have HG := hid hg
    clear hg
    go_enter Try.func53, Try.ntmps53
    go_wp2_with (go_at_call 56; refine (good_m a n c l false _ HL.out HK.out HG).mono ?_; rintro e w1 ⟨rfl, hb1⟩)
    go_ret2
    exact ⟨rfl, hb1⟩
  | true =>
    have HB := hid (gd_iff.1 hg)
    have HS := hid (sv_yes hg)
    have HG := hid hg
    clear hg
    go_enter Try.func53, Try.ntmps53
    go_upto_region 3 with (go_at_call 56; refine (good_m a n c l true _ HL.out HK.out HG).mono ?_; rintro e w1 ⟨rfl, hb1⟩; have B1 := hid hb1; clear hb1)
    have K0 : Hid (Kp w (w1.alloc (.cells #[.int .i64 0, .int .i64 0, .int .i64 0] 114)) w1.heap.size (.cells #[.int .i64 0, .int .i64 0, .int .i64 0] 114)) := hid ⟨B1.out.alloc B1.out.size _, B1.out.size, heap_alloc_new _ _⟩
    go_upto_region 4 with fail
    generalize w1.alloc (.cells #[.int .i64 0, .int .i64 0, .int .i64 0] 114) = W0 at K0 ⊢
    generalize w1.heap.size = N at K0 ⊢
    clear B1
    go_wp2
    go_loopw [12] (fun i wr => ∃ (k : Nat) (h m lo : Int), k ≤ n ∧ i = .int .i64 k ∧ Hid (SI l k h m lo) ∧ Hid (Kp w wr N (.cells #[.int .i64 h, .int .i64 m, .int .i64 lo] 114))) (fun i _ => n - (intOf i).toNat)
    case atStart => exact ⟨0, 0, 0, 0, by omega, rfl, hid ⟨rfl, rfl, rfl⟩, K0⟩
    case round =>
      obtain ⟨k, h, m, lo, hkn, rfl, HI, KW⟩ := hrel
      have hk0 : (0 : Int) ≤ (k : Int) := by omega
      by_cases hlt : k < n
      · have hki : (k : Int) < (n : Int) := by omega
        obtain ⟨b, off, x0, x1, rfl, hb, hr, p0, p1⟩ := HL.out.pick KW.out.1 hlt
        have HR := hid hr
        have hbd := si_bd HI.out HB.out HK.out
        have hnx : SI l (k + 1) (h + x0 / 17592186044416 * x1) (m + x0 / 4194304 % 4194304 * x1) (lo + x0 % 4194304 * x1) := ⟨by rw [HI.out.1, hS_step hr], by rw [HI.out.2.1, mS_step hr], by rw [HI.out.2.2, lS_step hr]⟩
        have hbd2 := si_bd hnx HB.out HK.out
        have hx1 : 1 ≤ x1 := HB.out.2.1 _ (List.mem_of_getElem? hr)
        have hx0 := (HK.out _ (List.mem_of_getElem? hr)).1
        have hpd := part_bd hx0 (n := x1) (by omega)
        obtain ⟨A, hA⟩ : ∃ y, x0 / 17592186044416 = y := ⟨_, rfl⟩
        obtain ⟨B, hB⟩ : ∃ y, x0 / 4194304 % 4194304 = y := ⟨_, rfl⟩
        obtain ⟨C, hC⟩ : ∃ y, x0 % 4194304 = y := ⟨_, rfl⟩
        rw [hA, hB, hC] at hnx hbd2 hpd
        obtain ⟨P, hP⟩ : ∃ y, A * x1 = y := ⟨_, rfl⟩
        obtain ⟨Q, hQ⟩ : ∃ y, B * x1 = y := ⟨_, rfl⟩
        obtain ⟨R, hR⟩ : ∃ y, C * x1 = y := ⟨_, rfl⟩
        rw [hP, hQ, hR] at hnx hbd2 hpd
        have HN := hid hnx
        have HPl : Hid (∀ W, Calls Try.prog 67 #[.agg #[.int .i64 h, .int .i64 m, .int .i64 lo], .agg #[.int .i64 x0, .int .i64 x1]] W fun e w' => e = .returned (.agg #[.int .i64 (h + P), .int .i64 (m + Q), .int .i64 (lo + R)]) ∧ Below W.heap.size W w') := hid (fun W => pplus_raw h m lo x0 x1 A B C P Q R W hA hB hC hP hQ hR (by omega) (by omega) (by omega) (by omega) (by omega) (by omega) (by omega) (by omega) (by omega) (by omega) (by omega) (by omega))
        clear hnx hbd hbd2 hpd hx0 hx1 hA hB hC hP hQ hR hr
        obtain ⟨d0, d1, d2⟩ := box_three KW.out.2.2
        have KX := hid (KW.out.step (b1alloc wr (.cells #[.int .i64 x0, .int .i64 x1] 65)))
        obtain ⟨c0, c1, c2⟩ := box_three KX.out.2.2
        go_wp2_with (go_at_call 67; refine (HPl.out _).mono ?_; rintro e w5 ⟨rfl, hb5⟩; have K5 := hid (KX.out.step hb5); obtain ⟨e0, e1, e2⟩ := box_three K5.out.2.2; obtain ⟨f0, f1, f2⟩ := froz3 K5.out.2.2; clear hb5)
        go_roundw
        case rel => exact ⟨k + 1, h + P, m + Q, lo + R, by omega, by go_num, HN, hid (kp_set3 _ _ _ K5.out)⟩
        case measure => simp [intOf]; omega
      · have hkf : decide ((k : Int) < (n : Int)) = false := decide_eq_false (by omega)
        obtain ⟨b1, b2, b3, b4, b5, b6⟩ := si_bd HI.out HB.out HK.out
        have HE := hid (si_end HI.out HB.out HK.out (by have := EL.out; omega))
        obtain ⟨c0, c1, c2⟩ := box_three KW.out.2.2
        go_wp2_with (go_at_call 68; refine (narrow_m h m lo _ (by omega) (by omega) b3 b4 b5 b6).mono ?_; rintro e w5 ⟨rfl, hb5⟩; have B5 := hid (bt KW.out.1 hb5); clear hb5)
        go_ret2
        exact ⟨by rw [HS.out.1, HS.out.2, ← HE.out]; rfl, B5.out⟩

end Go.Proofs.Ytpjagedoddmpbaa

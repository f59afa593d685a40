/-
  What the document's own Key and Rising return.
  Conditions: as each theorem states them.
-/
import Derived.Test.YtfgphphaopcolaaWR
import Derived.Handy
namespace Go.Proofs.Ytfgphphaopcolaa
open Go.ChangeShapes Go.WideShapes Go.ChangeAt Go.RowKit
set_option linter.unusedVariables false
set_option linter.unusedSimpArgs false

theorem u32_in {x : Int} (h : 0 ≤ x ∧ x ≤ 4294967295) : IntKind.u32.wrap x = x := by
  exact IntWalk.u32_in _ (by omega)

set_option maxHeartbeats 4000000 in
theorem rkey_any (x0 x1 x2 x3 K : Int) (w : World) (h0 : U8 x0) (h1 : U8 x1) (h2 : U8 x2) (h3 : U8 x3) (hK : Hid (kv (x0, x1, x2, x3) = K)) :
    Calls Try.prog 39 #[.agg #[.int .u8 x0, .int .u8 x1, .int .u8 x2, .int .u8 x3]] w fun e w' => e = .returned (.int .u32 K) ∧ Below w.heap.size w w' := by
  unfold U8 at h0 h1 h2 h3
  obtain ⟨P1, e1⟩ : ∃ y, x0 * 256 = y := ⟨_, rfl⟩
  obtain ⟨K2, e2⟩ : ∃ y, P1 + x1 = y := ⟨_, rfl⟩
  obtain ⟨P2, e3⟩ : ∃ y, K2 * 256 = y := ⟨_, rfl⟩
  obtain ⟨K3, e4⟩ : ∃ y, P2 + x2 = y := ⟨_, rfl⟩
  obtain ⟨P3, e5⟩ : ∃ y, K3 * 256 = y := ⟨_, rfl⟩
  have hk := hK.out
  simp only [kv] at hk
  have e6 : P3 + x3 = K := by omega
  have q0 : IntKind.u32.wrap x0 = x0 := u32_in (by omega)
  have q1 : IntKind.u32.wrap x1 = x1 := u32_in (by omega)
  have q2 : IntKind.u32.wrap x2 = x2 := u32_in (by omega)
  have q3 : IntKind.u32.wrap x3 = x3 := u32_in (by omega)
  have p1 : IntKind.u32.wrap (x0 * 256) = P1 := by rw [e1]; exact u32_in (by omega)
  have p2 : IntKind.u32.wrap (P1 + x1) = K2 := by rw [e2]; exact u32_in (by omega)
  have p3 : IntKind.u32.wrap (K2 * 256) = P2 := by rw [e3]; exact u32_in (by omega)
  have p4 : IntKind.u32.wrap (P2 + x2) = K3 := by rw [e4]; exact u32_in (by omega)
  have p5 : IntKind.u32.wrap (K3 * 256) = P3 := by rw [e5]; exact u32_in (by omega)
  have p6 : IntKind.u32.wrap (P3 + x3) = K := by rw [e6]; exact u32_in (by omega)
  clear e1 e2 e3 e4 e5 e6 hk h0 h1 h2 h3
  have bx : Hid (Below w.heap.size w (w.alloc (.cells #[.int .u8 x0, .int .u8 x1, .int .u8 x2, .int .u8 x3] 27))) := hid ((Below.refl _ _).alloc (Nat.le_refl _) _)
  go_enter Try.func39, Try.ntmps39
  go_wp2
  refine wp_loop_rounds 5 ?_
  rw [rounds_succ]; go_wp2
  rw [rounds_succ]; go_wp2
  rw [rounds_succ]; go_wp2
  rw [rounds_succ]; go_wp2
  rw [rounds_succ]; go_wp2
  go_ret
  exact ⟨rfl, bx.out⟩

theorem rise_at {l : List Nd} (h : l.Pairwise (fun a b => kv a < kv b)) {k : Nat} {x y : Nd} (hx : l[k]? = some x) (hy : l[k + 1]? = some y) : kv x < kv y := by
  obtain ⟨h1, rfl⟩ := List.getElem?_eq_some_iff.1 hx
  obtain ⟨h2, rfl⟩ := List.getElem?_eq_some_iff.1 hy
  exact List.pairwise_iff_getElem.mp h k (k + 1) h1 h2 (by omega)

set_option maxHeartbeats 8000000 in
theorem rising_any (a : Option Addr) (n c : Nat) (l : List Nd) (w : World) (hl : NRow w a n c l) (hr : l.Pairwise (fun a b => kv a < kv b)) (hu : ∀ x ∈ l, ∀ j, j < 4 → U8 (nf x j)) :
    Calls Try.prog 23 #[.slice a n c] w fun e w' => e = .returned (.bool true) ∧ Below w.heap.size w w' := by
  have HL := hid hl
  have HR := hid hr
  have HU := hid hu
  obtain ⟨l1, l2⟩ := hl.lens
  have EL := hid l1
  clear hl hr hu l1
  go_enter Try.func23, Try.ntmps23
  go_wp2
  go_loopg [3] n (fun g i wr => ∃ k : Nat, i = .int .i64 ((k : Int) + 1) ∧ Hid (g + k = n) ∧ Hid (Below w.heap.size w wr))
  case atStart => exact ⟨0, rfl, hid (by omega), hid (Below.refl _ _)⟩
  case round =>
    obtain ⟨k, rfl, HG, HB⟩ := hrel
    have hgn := HG.out
    by_cases hlt : k + 1 < n
    · have hki : (k : Int) + 1 < (n : Int) := by omega
      obtain ⟨b, off, rfl, hb, x0, x1, x2, x3, hx, p0, p1, p2, p3⟩ := HL.out.pick HB.out (k := k) (by omega)
      obtain ⟨b', off', e', hb', y0, y1, y2, y3, hy, q0, q1, q2, q3⟩ := HL.out.pick HB.out (k := k + 1) hlt
      cases e'
      have hxm := List.mem_of_getElem? hx
      have hym := List.mem_of_getElem? hy
      have ux := HU.out _ hxm
      have uy := HU.out _ hym
      have ux0 := hid (ux 0 (by omega))
      have ux1 := hid (ux 1 (by omega))
      have ux2 := hid (ux 2 (by omega))
      have ux3 := hid (ux 3 (by omega))
      have uy0 := hid (uy 0 (by omega))
      have uy1 := hid (uy 1 (by omega))
      have uy2 := hid (uy 2 (by omega))
      have uy3 := hid (uy 3 (by omega))
      have hlt2 := rise_at HR.out hx hy
      obtain ⟨KA, hKA⟩ : ∃ y, kv (x0, x1, x2, x3) = y := ⟨_, rfl⟩
      obtain ⟨KB, hKB⟩ : ∃ y, kv (y0, y1, y2, y3) = y := ⟨_, rfl⟩
      rw [hKA, hKB] at hlt2
      have HKA := hid hKA
      have HKB := hid hKB
      have hcmp : decide (KB ≤ KA) = false := decide_eq_false (by omega)
      have wk1 : IntKind.i64.wrap ((k : Int) + 1 - 1) = (k : Int) := by rw [show (k : Int) + 1 - 1 = k by omega]; exact IntWalk.i64_in _ (by omega)
      have wk2 : IntKind.i64.wrap (k : Int) = (k : Int) := IntWalk.i64_in _ (by omega)
      have hk0 : (0 : Int) ≤ (k : Int) := by omega
      have hkn : (k : Int) < (n : Int) := by omega
      have hk1 : (0 : Int) ≤ (k : Int) + 1 := by omega
      have hkt : ((k : Int) + 1).toNat = k + 1 := by omega
      clear hx hy hxm hym ux uy hKA hKB
      have tk1 : True := trivial
      have KS : Hid (∀ x', Below wr.heap.size wr x' → Below wr.heap.size wr x' ∧ x'.cell? ⟨b, off + k * 4, none⟩ = some (.int .u8 x0) ∧ x'.cell? ⟨b, off + k * 4 + 1, none⟩ = some (.int .u8 x1) ∧ x'.cell? ⟨b, off + k * 4 + 2, none⟩ = some (.int .u8 x2) ∧ x'.cell? ⟨b, off + k * 4 + 3, none⟩ = some (.int .u8 x3) ∧ x'.cell? ⟨b, off + (k + 1) * 4, none⟩ = some (.int .u8 y0) ∧ x'.cell? ⟨b, off + (k + 1) * 4 + 1, none⟩ = some (.int .u8 y1) ∧ x'.cell? ⟨b, off + (k + 1) * 4 + 2, none⟩ = some (.int .u8 y2) ∧ x'.cell? ⟨b, off + (k + 1) * 4 + 3, none⟩ = some (.int .u8 y3)) :=
        hid fun x' hB => ⟨hB, ((bcell hB).1 _ _ hb).trans p0, ((bcell hB).1 _ _ hb).trans p1, ((bcell hB).1 _ _ hb).trans p2, ((bcell hB).1 _ _ hb).trans p3, ((bcell hB).1 _ _ hb).trans q0, ((bcell hB).1 _ _ hb).trans q1, ((bcell hB).1 _ _ hb).trans q2, ((bcell hB).1 _ _ hb).trans q3⟩
      go_wp2
      go_region_held3 (fun x' => Below wr.heap.size wr x' ∧ x'.cell? ⟨b, off + k * 4, none⟩ = some (.int .u8 x0) ∧ x'.cell? ⟨b, off + k * 4 + 1, none⟩ = some (.int .u8 x1) ∧ x'.cell? ⟨b, off + k * 4 + 2, none⟩ = some (.int .u8 x2) ∧ x'.cell? ⟨b, off + k * 4 + 3, none⟩ = some (.int .u8 x3) ∧ x'.cell? ⟨b, off + (k + 1) * 4, none⟩ = some (.int .u8 y0) ∧ x'.cell? ⟨b, off + (k + 1) * 4 + 1, none⟩ = some (.int .u8 y1) ∧ x'.cell? ⟨b, off + (k + 1) * 4 + 2, none⟩ = some (.int .u8 y2) ∧ x'.cell? ⟨b, off + (k + 1) * 4 + 3, none⟩ = some (.int .u8 y3))
        (first | assumption | exact keep_drew KS | exact keep_step (by assumption) (by assumption) KS)
        (first
          | (go_at_call 39; clear tk1; refine (rkey_any x0 x1 x2 x3 KA _ ux0.out ux1.out ux2.out ux3.out HKA).mono ?_; rintro e w5 ⟨rfl, hb5⟩)
          | (go_at_call 39; refine (rkey_any y0 y1 y2 y3 KB _ uy0.out uy1.out uy2.out uy3.out HKB).mono ?_; rintro e w6 ⟨rfl, hb6⟩))
      go_wp2
      go_roundg (n - (k + 1))
      case measure => have := HG.out; omega
      case rel => exact ⟨k + 1, by go_num, hid (by have := HG.out; omega), hid (bt (bt HB.out (undrew hb5)) hb6)⟩
    · have hkf : decide ((k : Int) + 1 < (n : Int)) = false := decide_eq_false (by omega)
      go_wp2
      go_ret
      exact ⟨rfl, HB.out⟩

end Go.Proofs.Ytfgphphaopcolaa

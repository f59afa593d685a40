/-
  What the document's Sort and Same return.
  Conditions: as each theorem states them.
-/
import Derived.Test.YtikgbcdmeikjfaaRTb
namespace Go.Proofs.Ytikgbcdmeikjfaa
open Go.ChangeShapes Go.WideShapes Go.ChangeAt Go.RowKit
set_option linter.unusedVariables false
set_option linter.unusedSimpArgs false
set_option maxRecDepth 100000

theorem isrt_step {l : List Rw} {k : Nat} {r : Rw} (h : l[k]? = some r) : isrt [] (l.take (k + 1)) = insr r (isrt [] (l.take k)) := by
  rw [List.take_add_one, h]; exact isrt_snoc [] (l.take k) r
theorem isrt_ok {l : List Rw} (hk : ∀ r ∈ l, rok r) (k : Nat) : ∀ r ∈ isrt [] (l.take k), rok r := fun r hr => hk r (by
  have := (isrt_perm [] (l.take k)).mem_iff.1 hr
  exact List.mem_of_mem_take (by simpa using this))
set_option maxHeartbeats 4000000 in
theorem rrsort_any (a : Option Addr) (n c : Nat) (l : List Rw) (w : World) (hl : RRow w a n c l) (hk : ∀ r ∈ l, rok r) (hn : n ≤ 900) :
    Calls Try.prog 17 #[.slice a n c] w fun e w' => (∃ a' c', e = .returned (.slice a' n c') ∧ RRow w' a' n c' (srt l)) ∧ Below w.heap.size w w' := by
  have HL := hid hl
  have HK := hid hk
  have EL := hid hl.1
  have l2 : n ≤ 9223372036854775807 := by omega
  clear hl hk
  go_enter Try.func17, Try.ntmps17
  go_wp2
  go_loopw [3, 4] (fun bv i wr => ∃ (k : Nat) (oa : Option Addr) (oc : Nat), k ≤ n ∧ i = .int .i64 k ∧ bv = .slice oa k oc ∧ Hid (RRow wr oa k oc (isrt [] (l.take k))) ∧ Hid (Below w.heap.size w wr)) (fun _ i _ => n - (intOf i).toNat)
  case atStart => exact ⟨0, none, 0, by omega, rfl, rfl, hid (rrow_nil _), hid (Below.refl _ _)⟩
  case round =>
    obtain ⟨k, oa, oc, hkn, rfl, rfl, RO, BW⟩ := hrel
    have hk0 : (0 : Int) ≤ (k : Int) := by omega
    by_cases hlt : k < n
    · have hki : (k : Int) < (n : Int) := by omega
      obtain ⟨b, off, x0, x1, x2, x3, m0, m1, rfl, hb, hr, p0, p1, p2, p3, p4, p5⟩ := HL.out.pick BW.out hlt
      have HR := hid hr
      have HX := hid (HK.out _ (List.mem_of_getElem? hr))
      clear hr
      go_wp2_with (first
        | (go_at_call 35; refine (rinsert_any oa k oc (isrt [] (l.take k)) x0 x1 x2 x3 m0 m1 _ RO.out (isrt_ok HK.out k) HX.out (by omega)).mono ?_; rintro e w5 ⟨⟨g5, cap5, rfl, hr5⟩, hb5⟩; have R5 := hid hr5; have B5 := hid (bt BW.out hb5); clear hr5 hb5))
      go_roundw
      case rel => exact ⟨k + 1, some ⟨g5, 0, none⟩, cap5, by omega, by go_num, rfl, hid (by rw [isrt_step HR.out]; exact R5.out), B5⟩
      case measure => simp [intOf]; omega
    · have hkf : decide ((k : Int) < (n : Int)) = false := decide_eq_false (by omega)
      have ek : n = k := by omega
      subst ek
      go_wp2
      go_ret
      have := RO.out
      rw [List.take_of_length_le (by have := EL.out; omega), isrt_srt HK.out] at this
      exact ⟨⟨oa, oc, rfl, this⟩, BW.out⟩

set_option maxHeartbeats 4000000 in
theorem rsame_yes (a : Option Addr) (n c : Nat) (a' : Option Addr) (c' : Nat) (l : List Rw) (w : World) (hl : RRow w a n c l) (hl' : RRow w a' n c' l) (hn : n ≤ 1000) :
    Calls Try.prog 15 #[.slice a n c, .slice a' n c'] w fun e w' => e = .returned (.bool true) ∧ Below w.heap.size w w' := by
  have HL := hid hl
  have HL' := hid hl'
  have l2 : n ≤ 9223372036854775807 := by omega
  have eqn := eqR6
  clear hl hl'
  go_enter Try.func15, Try.ntmps15
  go_wp2
  go_loopw [5] (fun i wr => ∃ (k : Nat), k ≤ n ∧ i = .int .i64 k ∧ Hid (Below w.heap.size w wr)) (fun i _ => n - (intOf i).toNat)
  case atStart => exact ⟨0, by omega, rfl, hid (Below.refl _ _)⟩
  case round =>
    obtain ⟨k, hkn, rfl, BW⟩ := hrel
    have hk0 : (0 : Int) ≤ (k : Int) := by omega
    by_cases hlt : k < n
    · have hki : (k : Int) < (n : Int) := by omega
      obtain ⟨b, off, x0, x1, x2, x3, m0, m1, rfl, hb, hr, p0, p1, p2, p3, p4, p5⟩ := HL.out.pick BW.out hlt
      obtain ⟨b', off', y0, y1, y2, y3, n0, n1, rfl, hb', hr', q0, q1, q2, q3, q4, q5⟩ := HL'.out.pick BW.out hlt
      rw [hr] at hr'
      cases hr'
      have qxx : qr (x0, x1, x2, x3, m0, m1) (x0, x1, x2, x3, m0, m1) = true := qr_self _
      clear hr
      go_wp2
      go_quiet (fail)
      go_wp2
      go_roundw
      case rel => exact ⟨k + 1, by omega, by go_num, hid ⟨BW.out.os, BW.out.tape, BW.out.output, BW.out.size, BW.out.block⟩⟩
      case measure => simp [intOf]; omega
    · have hkf : decide ((k : Int) < (n : Int)) = false := decide_eq_false (by omega)
      go_wp2
      go_ret
      exact ⟨rfl, BW.out⟩

end Go.Proofs.Ytikgbcdmeikjfaa

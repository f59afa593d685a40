/-
  What slices.BinarySearchFunc at bag.Has's own function, and bag.Has, return.
  Conditions: as each theorem states them.
-/
import Derived.Test.YtgmnnpecihcdhabBC1
namespace Go.Proofs.Ytgmnnpecihcdhab
open Go.ChangeShapes Go.WideShapes Go.ChangeAt Go.RowKit
set_option linter.unusedVariables false
set_option linter.unusedSimpArgs false
set_option maxRecDepth 100000

def ci (a b : Int) : Int := if a < b then -1 else if b < a then 1 else 0
theorem nan64 (a : Int) (w : World) : Calls Try.prog 46 #[.int .i64 a] w fun e w' => e = .returned (.bool false) ∧ w' = w := by
  go_enter Try.func46, Try.ntmps46
  go_wp2
  go_ret
  exact ⟨by simp, rfl⟩
set_option maxHeartbeats 1000000 in
theorem cmp64 (a b C : Int) (w : World) (hC : Hid (ci a b = C)) : Calls Try.prog 36 #[.int .i64 a, .int .i64 b] w fun e w' => e = .returned (.int .i64 C) ∧ w' = w := by
  have h := hC.out
  unfold ci at h
  by_cases h1 : a < b
  · rw [if_pos h1] at h
    subst h
    go_enter Try.func36, Try.ntmps36
    go_wp2_with (go_at_call 46; refine (nan64 _ _).mono ?_; rintro e w' ⟨rfl, rfl⟩)
    go_ret
    exact ⟨rfl, rfl⟩
  · rw [if_neg h1] at h
    have h1' : decide (a < b) = false := decide_eq_false h1
    by_cases h2 : b < a
    · rw [if_pos h2] at h
      subst h
      go_enter Try.func36, Try.ntmps36
      go_wp2_with (go_at_call 46; refine (nan64 _ _).mono ?_; rintro e w' ⟨rfl, rfl⟩)
      go_ret
      exact ⟨rfl, rfl⟩
    · rw [if_neg h2] at h
      subst h
      have h2' : decide (b < a) = false := decide_eq_false h2
      go_enter Try.func36, Try.ntmps36
      go_wp2_with (go_at_call 46; refine (nan64 _ _).mono ?_; rintro e w' ⟨rfl, rfl⟩)
      go_ret
      exact ⟨rfl, rfl⟩
set_option maxHeartbeats 1000000 in
theorem clos_m (x0 x1 v C : Int) (w : World) (hC : Hid (ci x0 v = C)) : Calls Try.prog 35 #[.agg #[.int .i64 x0, .int .i64 x1], .int .i64 v] w fun e w' => e = .returned (.int .i64 C) ∧ Below w.heap.size w w' := by
  go_enter Try.func35, Try.ntmps35
  go_wp2_with (go_at_call 36; refine (cmp64 x0 v C _ hC).mono ?_; rintro e w' ⟨rfl, rfl⟩)
  go_ret
  exact ⟨rfl, b1alloc _ _⟩
theorem ci_neg {a b : Int} (h : a < b) : ci a b = -1 := by unfold ci; rw [if_pos h]
theorem ci_zero (a : Int) : ci a a = 0 := by unfold ci; rw [if_neg (by omega), if_neg (by omega)]
theorem ci_pos {a b : Int} (h : b < a) : ci a b = 1 := by unfold ci; rw [if_neg (by omega), if_pos h]
theorem ci_nn {a b : Int} (h : ¬ a < b) : 0 ≤ ci a b := by unfold ci; rw [if_neg h]; split <;> omega
/-- What a search tells of a value in a rising list. -/
def Found (l : List Rn) (v : Int) (j : Nat) (f : Bool) : Prop := j ≤ l.length ∧ (f = true → ∃ q, l[j]? = some (v, q)) ∧ (f = false → ∀ r ∈ l, ¬ r.1 = v)
set_option maxHeartbeats 4000000 in
theorem bsf_any (a : Option Addr) (n c : Nat) (l : List Rn) (v : Int) (w : World) (hl : NRun w a n c l) (hs : Srt l) (hn : n ≤ 4611686018427387904) :
    Calls Try.prog 34 #[.slice a n c, .int .i64 v, .func (.func 35) #[] #[]] w fun e w' => (∃ (j : Nat) (f : Bool), e = .returned (.tuple #[.int .i64 j, .bool f]) ∧ Found l v j f) ∧ Below w.heap.size w w' := by
  have HL := hid hl
  have HS := hid hs
  obtain ⟨l1, l2⟩ := hl.lens
  have EL := hid l1
  clear hl hs l1 l2
  go_enter Try.func34, Try.ntmps34
  go_wp2
  go_loopg [9, 10] n (fun g s9 s10 wr => ∃ lo hi : Nat, s9 = .int .i64 lo ∧ s10 = .int .i64 hi ∧ lo ≤ hi ∧ hi ≤ n ∧ hi - lo ≤ g ∧ Hid (∀ t r, t < lo → l[t]? = some r → r.1 < v) ∧ Hid (∀ t r, hi ≤ t → l[t]? = some r → v ≤ r.1) ∧ Hid (Below w.heap.size w wr))
  case atStart => exact ⟨0, n, rfl, rfl, Nat.zero_le _, Nat.le_refl _, by omega, hid (fun t r ht => by omega), hid (fun t r ht hr => by have := (List.getElem?_eq_some_iff.1 hr).1; have := EL.out; omega), hid (Below.refl _ _)⟩
  case round =>
    obtain ⟨lo, hi, rfl, rfl, hlh, hin, hg, LO, HI, BW⟩ := hrel
    by_cases hlt : lo < hi
    · obtain ⟨b, off, x0, x1, rfl, hb, hr, p0, p1⟩ := HL.out.pick BW.out (k := (lo + hi) / 2) (by omega)
      have HR := hid hr
      clear hr
      by_cases hx : x0 < v
      · have HX := hid hx
        clear hx
        go_wp2_with (go_at_call 35; refine (clos_m x0 x1 v (-1) _ (hid (ci_neg HX.out))).mono ?_; rintro e w1 ⟨rfl, hb1⟩; have B1 := hid (bt BW.out hb1); clear hb1)
        go_roundg (hi - ((lo + hi) / 2 + 1))
        case measure => omega
        case rel =>
          refine ⟨(lo + hi) / 2 + 1, hi, by rw [show ((lo : Int) + (hi : Int)) / 2 + 1 = (((lo + hi) / 2 + 1 : Nat) : Int) by omega], rfl, by omega, hin, Nat.le_refl _, hid (fun t r ht hr => ?_), HI, B1⟩
          by_cases he : t = (lo + hi) / 2
          · rw [he, HR.out] at hr; cases hr; exact HX.out
          · exact Int.lt_trans (srt_get HS.out hr HR.out (by omega)) HX.out
      · obtain ⟨C, hC⟩ : ∃ C, ci x0 v = C := ⟨_, rfl⟩
        have hC0 : 0 ≤ C := by rw [← hC]; exact ci_nn hx
        have HC := hid hC
        have HX := hid hx
        clear hx hC
        go_wp2_with (go_at_call 35; refine (clos_m x0 x1 v C _ HC).mono ?_; rintro e w1 ⟨rfl, hb1⟩; have B1 := hid (bt BW.out hb1); clear hb1)
        go_roundg ((lo + hi) / 2 - lo)
        case measure => omega
        case rel =>
          refine ⟨lo, (lo + hi) / 2, rfl, by rw [show ((lo : Int) + (hi : Int)) / 2 = (((lo + hi) / 2 : Nat) : Int) by omega], by omega, by omega, Nat.le_refl _, LO, hid (fun t r ht hr => ?_), B1⟩
          by_cases he : t = (lo + hi) / 2
          · rw [he, HR.out] at hr; cases hr; have := HX.out; show v ≤ x0; omega
          · have h2 := srt_get HS.out HR.out hr (by omega)
            have := HX.out
            simp only at h2
            omega
    · obtain rfl : hi = lo := by omega
      by_cases hn2 : hi < n
      · obtain ⟨b, off, x0, x1, rfl, hb, hr, p0, p1⟩ := HL.out.pick BW.out hn2
        have HR := hid hr
        clear hr
        by_cases hx : x0 = v
        · subst hx
          go_wp2_with (go_at_call 35; refine (clos_m x0 x1 x0 0 _ (hid (ci_zero x0))).mono ?_; rintro e w1 ⟨rfl, hb1⟩; have B1 := hid (bt BW.out hb1); clear hb1)
          go_ret2
          exact ⟨⟨hi, true, rfl, by have := EL.out; omega, fun _ => ⟨x1, HR.out⟩, fun h => by cases h⟩, B1.out⟩
        · have hlt2 : v < x0 := by have := HI.out _ _ (Nat.le_refl _) HR.out; simp only at this; omega
          have HX := hid hlt2
          clear hx hlt2
          go_wp2_with (go_at_call 35; refine (clos_m x0 x1 v 1 _ (hid (ci_pos HX.out))).mono ?_; rintro e w1 ⟨rfl, hb1⟩; have B1 := hid (bt BW.out hb1); clear hb1)
          go_ret2
          refine ⟨⟨hi, false, rfl, by have := EL.out; omega, (fun h => by cases h), fun _ r hr e => ?_⟩, B1.out⟩
          obtain ⟨t, ht⟩ := List.mem_iff_getElem?.1 hr
          have h1 := HX.out
          by_cases h2 : t < hi
          · have := LO.out t r h2 ht; omega
          · by_cases h3 : t = hi
            · rw [h3, HR.out] at ht; cases ht; simp only at e; omega
            · have := srt_get HS.out HR.out ht (by omega); simp only at this; omega
      · go_wp2
        go_ret2
        refine ⟨⟨hi, false, rfl, by have := EL.out; omega, (fun h => by cases h), fun _ r hr e => ?_⟩, BW.out⟩
        obtain ⟨t, ht⟩ := List.mem_iff_getElem?.1 hr
        have := LO.out t r (by have := (List.getElem?_eq_some_iff.1 ht).1; have := EL.out; omega) ht
        omega
set_option maxHeartbeats 1000000 in
theorem has_any (a : Option Addr) (n c : Nat) (l : List Rn) (v : Int) (w : World) (hl : NRun w a n c l) (hk : ∀ r ∈ l, nok r) (hn : n ≤ 4611686018427387904) :
    Calls Try.prog 16 #[.slice a n c, .int .i64 v] w fun e w' => e = .returned (.int .i64 (hs v l)) ∧ Below w.heap.size w w' := by
  have HL := hid hl
  have HK := hid hk
  obtain ⟨l1, l2⟩ := hl.lens
  have EL := hid l1
  clear hl hk l1
  cases hg : gd l with
  | false =>
    rw [hs_no hg]
    have HG := hid hg
    clear hg
    go_enter Try.func16, Try.ntmps16
    go_wp2_with (go_at_call 10; refine (good_m a n c l false _ HL.out HK.out HG).mono ?_; rintro e w1 ⟨rfl, hb1⟩)
    go_ret
    exact ⟨rfl, hb1⟩
  | true =>
    have HS := hid (gd_iff.1 hg).1
    rw [hs_yes hg]
    have HG := hid hg
    clear hg
    go_enter Try.func16, Try.ntmps16
    go_upto_region 4 with (first
      | (go_at_call 10; refine (good_m a n c l true _ HL.out HK.out HG).mono ?_; rintro e w1 ⟨rfl, hb1⟩; have B1 := hid hb1; clear hb1)
      | (go_at_call 34; refine (bsf_any a n c l v _ (HL.out.below B1.out) HS.out hn).mono ?_; rintro e w2 ⟨⟨j, f, rfl, hf⟩, hb2⟩; have F2 := hid hf; have B2 := hid (bt B1.out hb2); clear hb2 hf))
    cases f with
    | false =>
      have HE : Hid (0 = cn v l) := hid (cn_none (F2.out.2.2 rfl)).symm
      go_wp2
      go_ret
      exact ⟨ret_int HE.out, B2.out⟩
    | true =>
      obtain ⟨q, hq⟩ := F2.out.2.1 rfl
      have hjn : j < n := by have := (List.getElem?_eq_some_iff.1 hq).1; have := EL.out; omega
      obtain ⟨b, off, x0, x1, rfl, hb, hr, p0, p1⟩ := HL.out.pick B2.out hjn
      rw [hq] at hr
      cases hr
      have HE : Hid (q = cn v l) := hid (cn_at HS.out hq).symm
      have hji : (j : Int) < (n : Int) := by omega
      have hj0 : (0 : Int) ≤ (j : Int) := by omega
      clear hq
      go_wp2
      go_ret
      exact ⟨ret_int HE.out, B2.out⟩

end Go.Proofs.Ytgmnnpecihcdhab

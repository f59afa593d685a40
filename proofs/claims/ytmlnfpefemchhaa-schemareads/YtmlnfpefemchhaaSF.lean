/-
  Whether two dimensions, two catalogs are alike: what schema.sameDim, slices.EqualFunc and schema.Same return.
  Conditions: as each theorem states them.
-/
import Derived.Test.YtmlnfpefemchhaaSE
namespace Go.Proofs.Ytmlnfpefemchhaa
open Go.ChangeShapes Go.WideShapes Go.ChangeAt Go.RowKit
set_option linter.unusedVariables false
set_option linter.unusedSimpArgs false

/-- Two pairs of cells, in blocks behind a world. -/
def B2 (w wr : World) (s u s' u' : Value) : Prop :=
  w.heap.size + 1 < wr.heap.size ∧ Below w.heap.size w wr ∧ wr.cell? ⟨w.heap.size, 0, none⟩ = some s ∧ wr.cell? ⟨w.heap.size, 1, none⟩ = some u ∧ wr.cell? ⟨w.heap.size + 1, 0, none⟩ = some s' ∧ wr.cell? ⟨w.heap.size + 1, 1, none⟩ = some u'
theorem B2.step {w wr w' : World} {s u s' u' : Value} (h : B2 w wr s u s' u') (hb : Below wr.heap.size wr w') : B2 w w' s u s' u' := by
  obtain ⟨h0, h1, h2, h3, h4, h5⟩ := h
  exact ⟨Nat.lt_of_lt_of_le h0 hb.size, bt h1 hb, ((bcell hb).1 _ _ (by omega)).trans h2, ((bcell hb).1 _ _ (by omega)).trans h3, ((bcell hb).1 _ _ h0).trans h4, ((bcell hb).1 _ _ h0).trans h5⟩
theorem b2_new (w : World) (s u s' u' : Value) (t t1 : TypeId) : B2 w ((w.alloc (.cells #[s, u] t)).alloc (.cells #[s', u'] t1)) s u s' u' := by
  refine ⟨by simp, ((Below.refl _ _).alloc (Nat.le_refl _) _).alloc (by simp) _, ?_, ?_, ?_, ?_⟩ <;> simp [go_sem]
theorem B2.drew {w wr : World} {s u s' u' : Value} (h : B2 w wr s u s' u') : B2 w wr.drew s u s' u' := ⟨h.1, h.2.1.drew, h.2.2⟩

theorem equalRows_m (a b : Option Addr) (n c n2 c2 : Nat) (U V : List (List Int)) (v : Bool) (w : World) (h1 : IRows .i64 w a n c U) (h2 : IRows .i64 w b n2 c2 V) (hv : Hid (decide (U = V) = v)) :
    Calls Try.prog 71 #[.slice a n c, .slice b n2 c2, .func (.func 70) #[] #[]] w fun e w' => e = .returned (.bool v) ∧ Below w.heap.size w w' := by
  have := equalRows_any a b n c n2 c2 U V w h1 h2
  rw [hv.out] at this
  exact this
theorem ret_two {S T : List Int} {U V : List (List Int)} {p q : Bool} (h1 : decide (S = T) = p) (h2 : decide (U = V) = q) : (p && q) = decide (((S, U) : List Int × List (List Int)) = (T, V)) := by
  rw [← h1, ← h2]; simp
theorem two_no {S T : List Int} {U V : List (List Int)} (h1 : decide (S = T) = false) : decide (((S, U) : List Int × List (List Int)) = (T, V)) = false := by
  have := of_decide_eq_false h1; simp [this]
theorem two_no2 {S T : List Int} {U V : List (List Int)} (h1 : decide (U = V) = false) : decide (((S, U) : List Int × List (List Int)) = (T, V)) = false := by
  have := of_decide_eq_false h1; simp [this]
theorem two_yes {S T : List Int} {U V : List (List Int)} (h1 : decide (S = T) = true) (h2 : decide (U = V) = true) : decide (((S, U) : List Int × List (List Int)) = (T, V)) = true := by
  rw [of_decide_eq_true h1, of_decide_eq_true h2]; simp

set_option maxHeartbeats 1000000 in
theorem sameDim_any (sa : Option Addr) (sl sc : Nat) (ua : Option Addr) (ul uc : Nat) (ta : Option Addr) (tl tc : Nat) (va : Option Addr) (vl vc : Nat) (S T : List Int) (U V : List (List Int)) (w : World) (h1 : Dim w sa sl sc ua ul uc S U) (h2 : Dim w ta tl tc va vl vc T V) :
    Calls Try.prog 61 #[.agg #[.slice sa sl sc, .slice ua ul uc], .agg #[.slice ta tl tc, .slice va vl vc]] w fun e w' => e = .returned (.bool (decide ((S, U) = (T, V)))) ∧ Below w.heap.size w w' := by
  have BX : Hid (B2 w ((w.alloc (.cells #[.slice sa sl sc, .slice ua ul uc] 59)).alloc (.cells #[.slice ta tl tc, .slice va vl vc] 59)) (.slice sa sl sc) (.slice ua ul uc) (.slice ta tl tc) (.slice va vl vc)) := b2_new _ _ _ _ _ _ _
  have H1 : Hid (Dim w sa sl sc ua ul uc S U) := h1
  have H2 : Hid (Dim w ta tl tc va vl vc T V) := h2
  clear h1 h2
  obtain ⟨p, hp⟩ : ∃ p, decide (S = T) = p := ⟨_, rfl⟩
  obtain ⟨q, hq⟩ : ∃ q, decide (U = V) = q := ⟨_, rfl⟩
  have HP : Hid (decide (S = T) = p) := hp
  have HQ : Hid (decide (U = V) = q) := hq
  clear hp hq
  cases p with
  | false =>
    go_enter Try.func61, Try.ntmps61
    go_wp2_with (go_at_call 70; refine (equal_m _ _ _ _ _ _ S T false _ (H1.out.below BX.out.2.1).1 (H2.out.below BX.out.2.1).1 HP).mono ?_; rintro e w1 ⟨rfl, hb⟩)
    go_ret
    exact ⟨ret_bool (two_no HP.out).symm, bt BX.out.2.1 hb⟩
  | true =>
    cases q with
    | false =>
      go_enter Try.func61, Try.ntmps61
      go_wp2_with (first
        | (go_at_call 70; refine (equal_m _ _ _ _ _ _ S T true _ (H1.out.below BX.out.2.1).1 (H2.out.below BX.out.2.1).1 HP).mono ?_; rintro e w1 ⟨rfl, hb⟩; have BY : Hid (B2 w w1 (.slice sa sl sc) (.slice ua ul uc) (.slice ta tl tc) (.slice va vl vc)) := BX.out.step hb; obtain ⟨_, _, c1, c2, c3, c4⟩ := BY.out)
        | (go_at_call 71; refine (equalRows_m _ _ _ _ _ _ U V false _ (H1.out.below BY.out.2.1).2.1 (H2.out.below BY.out.2.1).2.1 HQ).mono ?_; rintro e w2 ⟨rfl, hb2⟩))
      go_ret
      exact ⟨ret_bool (two_no2 HQ.out).symm, bt BY.out.2.1 hb2⟩
    | true =>
      go_enter Try.func61, Try.ntmps61
      go_wp2_with (first
        | (go_at_call 70; refine (equal_m _ _ _ _ _ _ S T true _ (H1.out.below BX.out.2.1).1 (H2.out.below BX.out.2.1).1 HP).mono ?_; rintro e w1 ⟨rfl, hb⟩; have BY : Hid (B2 w w1 (.slice sa sl sc) (.slice ua ul uc) (.slice ta tl tc) (.slice va vl vc)) := BX.out.step hb; obtain ⟨_, _, c1, c2, c3, c4⟩ := BY.out)
        | (go_at_call 71; refine (equalRows_m _ _ _ _ _ _ U V true _ (H1.out.below BY.out.2.1).2.1 (H2.out.below BY.out.2.1).2.1 HQ).mono ?_; rintro e w2 ⟨rfl, hb2⟩))
      go_ret
      exact ⟨ret_bool (two_yes HP.out HQ.out).symm, bt BY.out.2.1 hb2⟩
theorem sameDim_m (sa : Option Addr) (sl sc : Nat) (ua : Option Addr) (ul uc : Nat) (ta : Option Addr) (tl tc : Nat) (va : Option Addr) (vl vc : Nat) (S T : List Int) (U V : List (List Int)) (v : Bool) (w : World) (h1 : Dim w sa sl sc ua ul uc S U) (h2 : Dim w ta tl tc va vl vc T V) (hv : Hid (decide (((S, U) : List Int × List (List Int)) = (T, V)) = v)) :
    Calls Try.prog 61 #[.agg #[.slice sa sl sc, .slice ua ul uc], .agg #[.slice ta tl tc, .slice va vl vc]] w fun e w' => e = .returned (.bool v) ∧ Below w.heap.size w w' := by
  have := sameDim_any sa sl sc ua ul uc ta tl tc va vl vc S T U V w h1 h2
  rw [hv.out] at this
  exact this

set_option maxHeartbeats 1000000 in
theorem equalDims_any (a b : Option Addr) (n c n2 c2 : Nat) (ds es : Dims) (w : World) (h1 : Cat w a n c ds) (h2 : Cat w b n2 c2 es) :
    Calls Try.prog 60 #[.slice a n c, .slice b n2 c2, .func (.func 61) #[] #[]] w fun e w' => e = .returned (.bool (decide (ds = es))) ∧ Below w.heap.size w w' := by
  obtain ⟨e1, e2⟩ := h1.lens
  obtain ⟨e3, e4⟩ := h2.lens
  have E1 : Hid (n = ds.length) := e1
  have E3 : Hid (n2 = es.length) := e3
  have H1 : Hid (Cat w a n c ds) := h1
  have H2 : Hid (Cat w b n2 c2 es) := h2
  clear h1 h2 e1 e3
  by_cases hn : n = n2
  · have hn2 : ((n : Int) != (n2 : Int)) = false := by simp; omega
    have HN : Hid (n = n2) := hn
    clear hn
    go_enter Try.func60, Try.ntmps60
    go_wp2
    go_loopw [17] (fun i wr => ∃ k : Nat, k ≤ n ∧ i = .int .i64 k ∧ Hid (∀ j, j < k → ds.getD j ([], []) = es.getD j ([], [])) ∧ Below w.heap.size w wr) (fun i _ => n - (intOf i).toNat)
    case atStart => exact ⟨0, Nat.zero_le _, rfl, hid fun j hj => by omega, Below.refl _ _⟩
    case round =>
      obtain ⟨k, hk, rfl, hall, bel⟩ := hrel
      by_cases hlt : k < n
      · have hlt2 : (k : Int) < (n : Int) := by omega
        have hk2 : k < n2 := by rw [← HN.out]; exact hlt
        have hlt3 : (k : Int) < (n2 : Int) := by omega
        obtain ⟨b1, off1, rfl, hb1, sa, sl, sc, ua, ul, uc, S, U, d1, d2, D1, L1⟩ := H1.out.get bel hlt
        obtain ⟨b2, off2, rfl, hb2, ta, tl, tc, va, vl, vc, T, V, d3, d4, D2, L2⟩ := H2.out.get bel hk2
        obtain ⟨v, hv⟩ : ∃ v, decide (((S, U) : List Int × List (List Int)) = (T, V)) = v := ⟨_, rfl⟩
        have HV : Hid (decide (((S, U) : List Int × List (List Int)) = (T, V)) = v) := hv
        clear hv
        have hb1' : b1 < wr.heap.size := Nat.lt_of_lt_of_le hb1 bel.size
        have hb2' : b2 < wr.heap.size := Nat.lt_of_lt_of_le hb2 bel.size
        have hne : ¬ b2 = wr.heap.size := by omega
        have BZ : Hid (B2 wr ((wr.alloc (.cells #[.slice sa sl sc, .slice ua ul uc] 59)).alloc (.cells #[.slice ta tl tc, .slice va vl vc] 59)) (.slice sa sl sc) (.slice ua ul uc) (.slice ta tl tc) (.slice va vl vc)) := b2_new _ _ _ _ _ _ _
        cases v with
        | true =>
          go_wp2_with (go_at_call 61; refine (sameDim_m _ _ _ _ _ _ _ _ _ _ _ _ S T U V true _ (D1.out.below BZ.out.2.1) (D2.out.below BZ.out.2.1) HV).mono ?_; rintro e w1 ⟨rfl, hb⟩)
          go_roundw
          case rel =>
            refine ⟨k + 1, by omega, by go_num, hid fun j hj => ?_, bt bel (bt BZ.out.2.1 hb)⟩
            by_cases e : j = k
            · subst e; rw [L1.out, L2.out]; exact of_decide_eq_true HV.out
            · exact hall.out j (by omega)
          case measure => simp [intOf]; omega
        | false =>
          go_wp2_with (go_at_call 61; refine (sameDim_m _ _ _ _ _ _ _ _ _ _ _ _ S T U V false _ (D1.out.below BZ.out.2.1) (D2.out.below BZ.out.2.1) HV).mono ?_; rintro e w1 ⟨rfl, hb⟩)
          go_ret
          exact ⟨ret_bool (decide_eq_false fun e => of_decide_eq_false HV.out (by rw [← L1.out, ← L2.out, e])).symm, bt bel (bt BZ.out.2.1 hb)⟩
      · obtain rfl : k = n := by omega
        go_wp2
        go_ret
        exact ⟨ret_bool (decide_eq_true (list_ext3 (by rw [← E1.out, ← E3.out]; exact HN.out) (by rw [← E1.out]; exact hall.out))).symm, bel⟩
  · have hn2 : ((n : Int) != (n2 : Int)) = true := by simp; omega
    go_enter Try.func60, Try.ntmps60
    go_wp2
    go_ret
    exact ⟨ret_bool (decide_eq_false fun e => hn (by rw [E1.out, E3.out, e])).symm, Below.refl _ _⟩

theorem equalDims_m (a b : Option Addr) (n c n2 c2 : Nat) (ds es : Dims) (v : Bool) (w : World) (h1 : Cat w a n c ds) (h2 : Cat w b n2 c2 es) (hv : Hid (decide (ds = es) = v)) :
    Calls Try.prog 60 #[.slice a n c, .slice b n2 c2, .func (.func 61) #[] #[]] w fun e w' => e = .returned (.bool v) ∧ Below w.heap.size w w' := by
  have := equalDims_any a b n c n2 c2 ds es w h1 h2
  rw [hv.out] at this
  exact this

/-- Two catalogs are alike. -/
def sameC (ds : Dims) (M : Int) (es : Dims) (N : Int) : Bool := decide (M = N ∧ ds = es)
theorem sameC_no1 {ds es : Dims} {M N : Int} (h : ¬ M = N) : sameC ds M es N = false := decide_eq_false fun e => h e.1
theorem sameC_no2 {ds es : Dims} {M N : Int} (h : ¬ ds = es) : sameC ds M es N = false := decide_eq_false fun e => h e.2
theorem sameC_yes {ds es : Dims} {M N : Int} (h : M = N) (h2 : ds = es) : sameC ds M es N = true := decide_eq_true ⟨h, h2⟩
theorem sameC_is {ds es : Dims} {M N : Int} (h : sameC ds M es N = true) : M = N ∧ ds = es := of_decide_eq_true h
theorem sameC_not {ds es : Dims} {M N : Int} (h : sameC ds M es N = false) : ¬ (M = N ∧ ds = es) := of_decide_eq_false h

set_option maxHeartbeats 1000000 in
theorem ssame_any (a b : Option Addr) (n c n2 c2 : Nat) (ds es : Dims) (M N : Int) (w : World) (h1 : Cat w a n c ds) (h2 : Cat w b n2 c2 es) :
    Calls Try.prog 43 #[.agg #[.slice a n c, .int .i64 M], .agg #[.slice b n2 c2, .int .i64 N]] w fun e w' => e = .returned (.bool (sameC ds M es N)) ∧ Below w.heap.size w w' := by
  have BX : Hid (B2 w ((w.alloc (.cells #[.slice a n c, .int .i64 M] 25)).alloc (.cells #[.slice b n2 c2, .int .i64 N] 25)) (.slice a n c) (.int .i64 M) (.slice b n2 c2) (.int .i64 N)) := b2_new _ _ _ _ _ _ _
  have H1 : Hid (Cat w a n c ds) := h1
  have H2 : Hid (Cat w b n2 c2 es) := h2
  clear h1 h2
  obtain ⟨q, hq⟩ : ∃ q, decide (ds = es) = q := ⟨_, rfl⟩
  have HQ : Hid (decide (ds = es) = q) := hq
  clear hq
  by_cases hM : M = N
  · have hM1 : (M == N) = true := by simp [hM]
    have HM : Hid (M = N) := hM
    clear hM
    cases q with
    | false =>
      go_enter Try.func43, Try.ntmps43
      go_wp2_with (go_at_call 60; refine (equalDims_m _ _ _ _ _ _ ds es false _ (H1.out.below BX.out.2.1) (H2.out.below BX.out.2.1) HQ).mono ?_; rintro e w1 ⟨rfl, hb⟩)
      go_ret
      exact ⟨ret_bool (sameC_no2 (of_decide_eq_false HQ.out)).symm, bt BX.out.2.1 hb⟩
    | true =>
      go_enter Try.func43, Try.ntmps43
      go_wp2_with (go_at_call 60; refine (equalDims_m _ _ _ _ _ _ ds es true _ (H1.out.below BX.out.2.1) (H2.out.below BX.out.2.1) HQ).mono ?_; rintro e w1 ⟨rfl, hb⟩)
      go_ret
      exact ⟨ret_bool (sameC_yes HM.out (of_decide_eq_true HQ.out)).symm, bt BX.out.2.1 hb⟩
  · have hM1 : (M == N) = false := by simp [hM]
    go_enter Try.func43, Try.ntmps43
    go_wp2
    go_ret
    exact ⟨ret_bool (sameC_no1 hM).symm, BX.out.2.1⟩
theorem ssame_m (a b : Option Addr) (n c n2 c2 : Nat) (ds es : Dims) (M N : Int) (v : Bool) (w : World) (h1 : Cat w a n c ds) (h2 : Cat w b n2 c2 es) (hv : Hid (sameC ds M es N = v)) :
    Calls Try.prog 43 #[.agg #[.slice a n c, .int .i64 M], .agg #[.slice b n2 c2, .int .i64 N]] w fun e w' => e = .returned (.bool v) ∧ Below w.heap.size w w' := by
  have := ssame_any a b n c n2 c2 ds es M N w h1 h2
  rw [hv.out] at this
  exact this

end Go.Proofs.Ytmlnfpefemchhaa

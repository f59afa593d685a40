/-
  What lift.Within returns, and slices.Contains over integers.
  Conditions: as each theorem states them.
-/
import Derived.Test.YtfgphphaopcolaaWC
namespace Go.Proofs.Ytfgphphaopcolaa
open Go.ChangeShapes Go.WideShapes Go.ChangeAt Go.RowKit
set_option linter.unusedVariables false
set_option linter.unusedSimpArgs false

theorem getD_in {l : List Int} {k : Nat} (h : k < l.length) : l.getD k 0 ∈ l := by
  have : l.getD k 0 = l[k] := by simp [List.getD_eq_getElem?_getD, List.getElem?_eq_getElem h]
  rw [this]; exact List.getElem_mem h
theorem in_getD {l : List Int} {x : Int} (h : x ∈ l) : ∃ k, k < l.length ∧ l.getD k 0 = x := by
  obtain ⟨k, hk, e⟩ := List.getElem_of_mem h
  exact ⟨k, hk, by simp [List.getD_eq_getElem?_getD, List.getElem?_eq_getElem hk, e]⟩

set_option maxHeartbeats 2000000 in
theorem index_any (a : Option Addr) (n c : Nat) (l : List Int) (x : Int) (b : Bool) (w : World) (hr : IRow .i64 w a n c l) (hx : Hid (decide (x ∈ l) = b)) :
    Calls Try.prog 48 #[.slice a n c, .int .i64 x] w fun e w' => ∃ i : Int, e = .returned (.int .i64 i) ∧ decide (0 ≤ i) = b ∧ w' = w := by
  have HR := hid hr
  obtain ⟨e1, e2, e3, _, _⟩ := hr
  have E1 := hid e1
  have hn : n ≤ 9223372036854775807 := by unfold maxLen at e3; omega
  clear e1 e3
  go_enter Try.func48, Try.ntmps48
  go_wp2
  go_loopw [8] (fun i wr => ∃ k : Nat, k ≤ n ∧ i = .int .i64 k ∧ wr = w ∧ Hid (∀ j, j < k → ¬ l.getD j 0 = x)) (fun i _ => n - (intOf i).toNat)
  case atStart => exact ⟨0, by omega, rfl, rfl, hid fun j hj => by omega⟩
  case round =>
    obtain ⟨k, hk, rfl, hw, HK⟩ := hrel
    have hw2 := hw.symm
    clear hw
    subst hw2
    by_cases hlt : k < n
    · obtain ⟨b', off, rfl, hb0, hl⟩ := HR.out.2.2.2.2 (by omega)
      have hc := hl k (by rw [← E1.out]; exact hlt)
      have hkn : (k : Int) < (n : Int) := by omega
      have HIN := hid (getD_in (l := l) (k := k) (by rw [← E1.out]; exact hlt))
      obtain ⟨y, hy⟩ : ∃ y, l.getD k 0 = y := ⟨_, rfl⟩
      have HY := hid hy
      rw [hy] at hc HIN
      clear hy hl
      by_cases hxy : x = y
      · have ht : (x == y) = true := by simp [hxy]
        have HXY := hid hxy
        clear hxy
        go_wp2
        go_ret
        refine ⟨k, rfl, ?_, rfl⟩
        rw [← hx.out, HXY.out, decide_eq_true HIN.out]
        exact decide_eq_true (by omega)
      · have ht : (x == y) = false := by simp [hxy]
        go_wp2
        go_roundw
        case rel =>
          refine ⟨k + 1, by omega, by go_num, trivial, hid fun j hj => ?_⟩
          by_cases e : j = k
          · subst e; rw [HY.out]; exact fun h => hxy h.symm
          · exact HK.out j (by omega)
        case measure => simp [intOf]; omega
    · obtain rfl : k = n := by omega
      go_wp2
      go_ret
      refine ⟨-1, rfl, ?_, rfl⟩
      rw [← hx.out, decide_eq_false (p := x ∈ l)]
      · rfl
      · intro h
        obtain ⟨j, hj, e⟩ := in_getD h
        exact HK.out j (by rw [E1.out]; exact hj) e

set_option maxHeartbeats 2000000 in
theorem contains_any (a : Option Addr) (n c : Nat) (l : List Int) (x : Int) (b : Bool) (w : World) (hr : IRow .i64 w a n c l) (hx : Hid (decide (x ∈ l) = b)) :
    Calls Try.prog 34 #[.slice a n c, .int .i64 x] w fun e w' => e = .returned (.bool b) ∧ w' = w := by
  have HR := hid hr
  clear hr
  go_enter Try.func34, Try.ntmps34
  go_wp2_with (go_at_call 48; refine (index_any _ _ _ _ _ _ _ HR.out hx).mono ?_; rintro e w1 ⟨i, rfl, hi, hw⟩; have hw2 := hw.symm; clear hw; subst hw2)
  go_ret
  first
  | exact ⟨rfl, rfl⟩
  | exact ⟨ret_bool (by simpa using hi), rfl⟩

/-! Does a place lie in a fix? -/
/-- The member of the fix's level. -/
def wl (ds : Dims) (V A : List Int) (d L : Int) : Int := lift (ds.getD d.toNat ([], [])).1 (ds.getD d.toNat ([], [])).2 (V.getD d.toNat 0) L (A.getD d.toNat 0)
def wthn (ds : Dims) (M : Int) (V A : List Int) (d L : Int) (Ms : List Int) : Bool := rightC ds M V A && decide (0 ≤ d ∧ d < ds.length ∧ 0 ≤ wl ds V A d L ∧ wl ds V A d L ∈ Ms)
theorem wthn_bad {ds : Dims} {M : Int} {V A : List Int} {d L : Int} {Ms : List Int} (h : rightC ds M V A = false) : wthn ds M V A d L Ms = false := by unfold wthn; rw [h]; rfl
theorem wthn_no {ds : Dims} {M : Int} {V A : List Int} {d L : Int} {Ms : List Int} (h : ¬ (0 ≤ d ∧ d < ds.length ∧ 0 ≤ wl ds V A d L ∧ wl ds V A d L ∈ Ms)) : wthn ds M V A d L Ms = false := by unfold wthn; rw [decide_eq_false h, Bool.and_false]
theorem wthn_is {ds : Dims} {M : Int} {V A : List Int} {d L : Int} {Ms : List Int} {x : Int} (h : rightC ds M V A = true) (h0 : 0 ≤ d) (h1 : d < ds.length) (hx : wl ds V A d L = x) (h2 : 0 ≤ x) : wthn ds M V A d L Ms = decide (x ∈ Ms) := by
  unfold wthn; rw [h, Bool.true_and, hx, decide_eq_decide]; exact ⟨fun h => h.2.2.2, fun h => ⟨h0, h1, h2, h⟩⟩
theorem wl_at {ds : Dims} {V A : List Int} {k : Nat} {L : Int} {S : List Int} {U : List (List Int)} (h : ds.getD k ([], []) = (S, U)) : wl ds V A k L = lift S U (V.getD k 0) L (A.getD k 0) := by
  unfold wl; rw [Int.toNat_natCast, h]
theorem box3 {w : World} {D : Nat} {t : TypeId} {a b c : Value} (hD : w.heap[D]? = some (.cells #[a, b, c] t)) : w.cell? ⟨D, 0, none⟩ = some a ∧ w.cell? ⟨D, 1, none⟩ = some b ∧ w.cell? ⟨D, 2, none⟩ = some c := by
  refine ⟨?_, ?_, ?_⟩ <;> simp [World.cell?, hD]
/-- A catalog, a node, a place and a fix, in blocks behind a world. -/
def W4 (w wr : World) (s u : Value) (V A : Nat → Int) (d L m : Value) : Prop :=
  Below w.heap.size w wr ∧ wr.heap[w.heap.size]? = some (.cells #[s, u] 24) ∧ wr.heap[w.heap.size + 1]? = some (.cells (n4 V) 26) ∧ wr.heap[w.heap.size + 2]? = some (.cells (n4 A) 27) ∧ wr.heap[w.heap.size + 3]? = some (.cells #[d, L, m] 30)
theorem W4.step {w wr w' : World} {s u : Value} {V A : Nat → Int} {d L m : Value} (h : W4 w wr s u V A d L m) (hb : Below wr.heap.size wr w') : W4 w w' s u V A d L m :=
  ⟨bt h.1 hb, keep_blk h.2.1 hb, keep_blk h.2.2.1 hb, keep_blk h.2.2.2.1 hb, keep_blk h.2.2.2.2 hb⟩
theorem w4_new (w : World) (s u : Value) (v0 v1 v2 v3 x0 x1 x2 x3 : Int) (d L m : Value) : W4 w ((((w.alloc (.cells #[s, u] 24)).alloc (.cells #[.int .u8 v0, .int .u8 v1, .int .u8 v2, .int .u8 v3] 26)).alloc (.cells #[.int .u8 x0, .int .u8 x1, .int .u8 x2, .int .u8 x3] 27)).alloc (.cells #[d, L, m] 30)) s u (fun j => [v0, v1, v2, v3].getD j 0) (fun j => [x0, x1, x2, x3].getD j 0) d L m := by
  refine ⟨((((Below.refl _ _).alloc (Nat.le_refl _) _).alloc (by simp) _).alloc (by simp; omega) _).alloc (by simp; omega) _, ?_, ?_, ?_, ?_⟩ <;> simp only [heap_alloc2, World.size_alloc]
  · rw [if_neg (by omega), if_neg (by omega), if_neg (by omega)]; simp
  · rw [if_neg (by omega), if_neg (by omega)]; simp [n4]
  · rw [if_neg (by omega)]; simp [n4]
  · simp
theorem W4.all {w wr : World} {s u : Value} {V A : Nat → Int} {d L m : Value} (h : W4 w wr s u V A d L m) :
    (wr.cell? ⟨w.heap.size, 0, none⟩ = some s ∧ wr.cell? ⟨w.heap.size, 1, none⟩ = some u) ∧ (wr.cell? ⟨w.heap.size + 3, 0, none⟩ = some d ∧ wr.cell? ⟨w.heap.size + 3, 1, none⟩ = some L ∧ wr.cell? ⟨w.heap.size + 3, 2, none⟩ = some m) := ⟨box_two h.2.1, box3 h.2.2.2.2⟩

set_option maxHeartbeats 8000000 in
theorem lwithin_any (a : Option Addr) (n c : Nat) (ds : Dims) (M v0 v1 v2 v3 x0 x1 x2 x3 d L : Int) (ma : Option Addr) (ml mc : Nat) (Ms : List Int) (w : World) (hc : Cat w a n c ds) (hM : I64 M) (hV : ∀ x ∈ [v0, v1, v2, v3], U8 x) (hA : ∀ x ∈ [x0, x1, x2, x3], U8 x) (hd : I64 d) (hL : I64 L) (hm : IRow .i64 w ma ml mc Ms) :
    Calls Try.prog 13 #[.agg #[.slice a n c, .int .i64 M], .agg #[.int .u8 v0, .int .u8 v1, .int .u8 v2, .int .u8 v3], .agg #[.int .u8 x0, .int .u8 x1, .int .u8 x2, .int .u8 x3], .agg #[.int .i64 d, .int .i64 L, .slice ma ml mc]] w
      fun e w' => e = .returned (.bool (wthn ds M [v0, v1, v2, v3] [x0, x1, x2, x3] d L Ms)) ∧ Below w.heap.size w w' := by
  obtain ⟨e1, e2⟩ := hc.lens
  have E1 : Hid (n = ds.length) := e1
  have HC : Hid (Cat w a n c ds) := hc
  have HM : Hid (I64 M) := hM
  have HV : Hid (∀ x ∈ [v0, v1, v2, v3], U8 x) := hV
  have HA : Hid (∀ x ∈ [x0, x1, x2, x3], U8 x) := hA
  have HLv : Hid (I64 L) := hL
  have HMs : Hid (IRow .i64 w ma ml mc Ms) := hm
  obtain ⟨dd1, dd2⟩ := hd
  have TX : Hid (W4 w _ (.slice a n c) (.int .i64 M) _ _ (.int .i64 d) (.int .i64 L) (.slice ma ml mc)) := w4_new w (.slice a n c) (.int .i64 M) v0 v1 v2 v3 x0 x1 x2 x3 (.int .i64 d) (.int .i64 L) (.slice ma ml mc)
  clear e1 hc hM hV hA hL hm
  cases hr : rightC ds M [v0, v1, v2, v3] [x0, x1, x2, x3] with
  | false =>
    have HR := hid hr
    rw [wthn_bad hr]
    clear hr
    go_enter Try.func13, Try.ntmps13
    go_wp2_with (go_at_call 28; refine (sright_m _ _ _ _ _ _ _ _ _ _ _ _ _ _ _ (HC.out.below TX.out.1) HM.out HV.out HA.out HR).mono ?_; rintro e w1 ⟨rfl, hb⟩)
    go_ret
    exact ⟨rfl, bt TX.out.1 hb⟩
  | true =>
    have HR := hid hr
    by_cases h0 : d < 0
    · rw [wthn_no (by omega)]
      clear hr
      have ht : decide (d < 0) = true := decide_eq_true h0
      go_enter Try.func13, Try.ntmps13
      go_wp2_with (go_at_call 28; refine (sright_m _ _ _ _ _ _ _ _ _ _ _ _ _ _ _ (HC.out.below TX.out.1) HM.out HV.out HA.out HR).mono ?_; rintro e w1 ⟨rfl, hb⟩; have TX1 := TX.out.step hb; obtain ⟨⟨b0, b1⟩, b2, b3, b4⟩ := TX1.all; have TX1 := hid TX1)
      go_ret
      exact ⟨rfl, bt TX.out.1 hb⟩
    · have ht : decide (d < 0) = false := decide_eq_false h0
      by_cases h1 : d < n
      · have ht2 : decide ((n : Int) ≤ d) = false := decide_eq_false (by omega)
        obtain ⟨k, rfl⟩ : ∃ k : Nat, d = k := ⟨d.toNat, by omega⟩
        have hlt : k < n := by omega
        have hgp := goodC_p (rightC_is hr).1
        rw [← E1.out] at hgp
        obtain ⟨n1, n4', _, _, _⟩ := hgp
        have hk4' : k < 4 := by omega
        have hk4 : (k : Int) < 4 := by omega
        have hk0 : (0 : Int) ≤ (k : Int) := by omega
        have bel0 := TX.out.1
        have HVL : Hid (∀ x, wl ds [v0, v1, v2, v3] [x0, x1, x2, x3] k L = x → 0 ≤ x → wthn ds M [v0, v1, v2, v3] [x0, x1, x2, x3] k L Ms = decide (x ∈ Ms)) := hid fun x hx h2 => wthn_is hr (by omega) (by rw [← E1.out]; exact h1) hx h2
        have HVN : Hid (wl ds [v0, v1, v2, v3] [x0, x1, x2, x3] k L = -1 → wthn ds M [v0, v1, v2, v3] [x0, x1, x2, x3] k L Ms = false) := hid fun hx => wthn_no (by rw [hx]; omega)
        obtain ⟨b, off, rfl, hb0, sa, sl, sc, ua, ul, uc, S, U, d1, d2, HDm, HSU⟩ := HC.out.get bel0 hlt
        have ew := wl_at (V := [v0, v1, v2, v3]) (A := [x0, x1, x2, x3]) (L := L) HSU.out
        have lg := lift_ge S U ([v0, v1, v2, v3].getD k 0) L ([x0, x1, x2, x3].getD k 0)
        have g1 := u8_at HV.out k
        have g2 := u8_at HA.out k
        have FK : Hid (∀ x, W4 w x (.slice (some ⟨b, off, none⟩) n c) (.int .i64 M) (fun j => [v0, v1, v2, v3].getD j 0) (fun j => [x0, x1, x2, x3].getD j 0) (.int .i64 k) (.int .i64 L) (.slice ma ml mc) → x.cell? ⟨w.heap.size + 1, k, none⟩ = some (.int .u8 ([v0, v1, v2, v3].getD k 0)) ∧ x.cell? ⟨w.heap.size + 2, k, none⟩ = some (.int .u8 ([x0, x1, x2, x3].getD k 0))) :=
          hid fun x h => ⟨n4_at h.2.2.1 hk4', n4_at h.2.2.2.1 hk4'⟩
        obtain ⟨vf, hvf⟩ : ∃ v, [v0, v1, v2, v3].getD k 0 = v := ⟨_, rfl⟩
        obtain ⟨va, hva⟩ : ∃ v, [x0, x1, x2, x3].getD k 0 = v := ⟨_, rfl⟩
        obtain ⟨X, hX⟩ : ∃ v, lift S U vf L va = v := ⟨_, rfl⟩
        rw [hvf, hva, hX] at ew lg
        rw [hvf, hva] at FK
        rw [hvf] at g1
        rw [hva] at g2
        have EW := hid ew
        have JV : Hid (I64 vf) := by show I64 vf; unfold I64; omega
        have JA : Hid (I64 va) := by show I64 va; unfold I64; omega
        have wf : IntKind.i64.wrap vf = vf := IntWalk.i64_in _ (by omega)
        have wa : IntKind.i64.wrap va = va := IntWalk.i64_in _ (by omega)
        have HB0 := hid hb0
        have HD1 := hid d1
        have HD2 := hid d2
        have HDW := hid HDm.out
        clear hr hvf hva ew d1 d2 HDm
        by_cases hn : X = -1
        · have HL : Hid (lift S U vf L va = -1) := hid (by rw [hX, hn])
          have hw : wthn ds M [v0, v1, v2, v3] [x0, x1, x2, x3] k L Ms = false := HVN.out (by rw [EW.out, hn])
          rw [hw]
          clear hw hX hn
          go_enter Try.func13, Try.ntmps13
          go_wp2_with (go_at_call 28; refine (sright_m _ _ _ _ _ _ _ _ _ _ _ _ _ _ _ (HC.out.below TX.out.1) HM.out HV.out HA.out HR).mono ?_; rintro e w1 ⟨rfl, hb⟩; have TX1 := TX.out.step hb; obtain ⟨⟨b0, b1⟩, b2, b3, b4⟩ := TX1.all; have TX1 := hid TX1; obtain ⟨q1, q2⟩ := FK.out _ TX1.out; have d1 := ((bcell hb).1 _ _ (Nat.lt_of_lt_of_le HB0.out TX.out.1.size)).trans HD1.out; have d2 := ((bcell hb).1 _ _ (Nat.lt_of_lt_of_le HB0.out TX.out.1.size)).trans HD2.out; have HDm := hid (HDW.out.below hb))
          have hbw : b < w1.heap.size := Nat.lt_of_lt_of_le HB0.out TX1.out.1.size
          have hz3 := heap_lt TX1.out.2.2.2.2
          have KS : Hid (∀ x', Below w1.heap.size w1 x' → Below w1.heap.size w1 x' ∧ x'.cell? ⟨w.heap.size, 0, none⟩ = some (.slice (some ⟨b, off, none⟩) n c) ∧ x'.cell? ⟨b, off + k * 2, none⟩ = some (.slice sa sl sc) ∧ x'.cell? ⟨b, off + k * 2 + 1, none⟩ = some (.slice ua ul uc) ∧ x'.cell? ⟨w.heap.size + 1, k, none⟩ = some (.int .u8 vf) ∧ x'.cell? ⟨w.heap.size + 2, k, none⟩ = some (.int .u8 va) ∧ x'.cell? ⟨w.heap.size + 3, 0, none⟩ = some (.int .i64 k) ∧ x'.cell? ⟨w.heap.size + 3, 1, none⟩ = some (.int .i64 L)) :=
            hid fun x' hB => ⟨hB, ((bcell hB).1 _ _ (by omega)).trans b0, ((bcell hB).1 _ _ hbw).trans d1, ((bcell hB).1 _ _ hbw).trans d2, ((bcell hB).1 _ _ (by omega)).trans q1, ((bcell hB).1 _ _ (by omega)).trans q2, ((bcell hB).1 _ _ (by omega)).trans b2, ((bcell hB).1 _ _ (by omega)).trans b3⟩
          go_region_held3 (fun x' => Below w1.heap.size w1 x' ∧ x'.cell? ⟨w.heap.size, 0, none⟩ = some (.slice (some ⟨b, off, none⟩) n c) ∧ x'.cell? ⟨b, off + k * 2, none⟩ = some (.slice sa sl sc) ∧ x'.cell? ⟨b, off + k * 2 + 1, none⟩ = some (.slice ua ul uc) ∧ x'.cell? ⟨w.heap.size + 1, k, none⟩ = some (.int .u8 vf) ∧ x'.cell? ⟨w.heap.size + 2, k, none⟩ = some (.int .u8 va) ∧ x'.cell? ⟨w.heap.size + 3, 0, none⟩ = some (.int .i64 k) ∧ x'.cell? ⟨w.heap.size + 3, 1, none⟩ = some (.int .i64 L))
            (first | assumption | exact keep_drew KS | exact keep_step (by assumption) (by assumption) KS)
            (first
              | (go_at_call 31; refine (lift_z _ _ _ _ _ _ S U _ _ _ _ (HDm.out.below (And.left (by assumption))) JV.out HLv.out JA.out HL).mono ?_; rintro e w5 ⟨rfl, hb5⟩))
          go_wp2
          go_ret
          exact ⟨rfl, bt TX1.out.1 (undrew hb5)⟩
        · have HL : Hid (lift S U vf L va = X ∧ 0 ≤ X) := hid ⟨hX, by omega⟩
          have hw : wthn ds M [v0, v1, v2, v3] [x0, x1, x2, x3] k L Ms = decide (X ∈ Ms) := HVL.out X EW.out (by omega)
          rw [hw]
          obtain ⟨bb, hbb⟩ : ∃ v, decide (X ∈ Ms) = v := ⟨_, rfl⟩
          have HBB := hid hbb
          rw [hbb]
          clear hw hX hn hbb
          go_enter Try.func13, Try.ntmps13
          go_wp2_with (go_at_call 28; refine (sright_m _ _ _ _ _ _ _ _ _ _ _ _ _ _ _ (HC.out.below TX.out.1) HM.out HV.out HA.out HR).mono ?_; rintro e w1 ⟨rfl, hb⟩; have TX1 := TX.out.step hb; obtain ⟨⟨b0, b1⟩, b2, b3, b4⟩ := TX1.all; have TX1 := hid TX1; obtain ⟨q1, q2⟩ := FK.out _ TX1.out; have d1 := ((bcell hb).1 _ _ (Nat.lt_of_lt_of_le HB0.out TX.out.1.size)).trans HD1.out; have d2 := ((bcell hb).1 _ _ (Nat.lt_of_lt_of_le HB0.out TX.out.1.size)).trans HD2.out; have HDm := hid (HDW.out.below hb))
          have hbw : b < w1.heap.size := Nat.lt_of_lt_of_le HB0.out TX1.out.1.size
          have hz3 := heap_lt TX1.out.2.2.2.2
          have KS : Hid (∀ x', Below w1.heap.size w1 x' → Below w1.heap.size w1 x' ∧ x'.cell? ⟨w.heap.size, 0, none⟩ = some (.slice (some ⟨b, off, none⟩) n c) ∧ x'.cell? ⟨b, off + k * 2, none⟩ = some (.slice sa sl sc) ∧ x'.cell? ⟨b, off + k * 2 + 1, none⟩ = some (.slice ua ul uc) ∧ x'.cell? ⟨w.heap.size + 1, k, none⟩ = some (.int .u8 vf) ∧ x'.cell? ⟨w.heap.size + 2, k, none⟩ = some (.int .u8 va) ∧ x'.cell? ⟨w.heap.size + 3, 0, none⟩ = some (.int .i64 k) ∧ x'.cell? ⟨w.heap.size + 3, 1, none⟩ = some (.int .i64 L)) :=
            hid fun x' hB => ⟨hB, ((bcell hB).1 _ _ (by omega)).trans b0, ((bcell hB).1 _ _ hbw).trans d1, ((bcell hB).1 _ _ hbw).trans d2, ((bcell hB).1 _ _ (by omega)).trans q1, ((bcell hB).1 _ _ (by omega)).trans q2, ((bcell hB).1 _ _ (by omega)).trans b2, ((bcell hB).1 _ _ (by omega)).trans b3⟩
          go_region_held3 (fun x' => Below w1.heap.size w1 x' ∧ x'.cell? ⟨w.heap.size, 0, none⟩ = some (.slice (some ⟨b, off, none⟩) n c) ∧ x'.cell? ⟨b, off + k * 2, none⟩ = some (.slice sa sl sc) ∧ x'.cell? ⟨b, off + k * 2 + 1, none⟩ = some (.slice ua ul uc) ∧ x'.cell? ⟨w.heap.size + 1, k, none⟩ = some (.int .u8 vf) ∧ x'.cell? ⟨w.heap.size + 2, k, none⟩ = some (.int .u8 va) ∧ x'.cell? ⟨w.heap.size + 3, 0, none⟩ = some (.int .i64 k) ∧ x'.cell? ⟨w.heap.size + 3, 1, none⟩ = some (.int .i64 L))
            (first | assumption | exact keep_drew KS | exact keep_step (by assumption) (by assumption) KS)
            (first
              | (go_at_call 31; refine (lift_m _ _ _ _ _ _ S U _ _ _ X _ (HDm.out.below (And.left (by assumption))) JV.out HLv.out JA.out HL).mono ?_; rintro e w5 ⟨rfl, hb5⟩))
          have hm5 := ((bcell (undrew hb5)).1 _ _ hz3).trans b4
          go_wp2_with (go_at_call 34; refine (contains_any _ _ _ _ _ _ _ (HMs.out.below (bt TX1.out.1 (undrew hb5))) HBB).mono ?_; rintro e w6 ⟨rfl, hw⟩; have hw2 := hw.symm; clear hw; subst hw2)
          go_ret
          exact ⟨rfl, bt TX1.out.1 (undrew hb5)⟩
      · rw [wthn_no (by rw [← E1.out]; omega)]
        have ht2 : decide ((n : Int) ≤ d) = true := decide_eq_true (by omega)
        clear hr
        go_enter Try.func13, Try.ntmps13
        go_wp2_with (go_at_call 28; refine (sright_m _ _ _ _ _ _ _ _ _ _ _ _ _ _ _ (HC.out.below TX.out.1) HM.out HV.out HA.out HR).mono ?_; rintro e w1 ⟨rfl, hb⟩; have TX1 := TX.out.step hb; obtain ⟨⟨b0, b1⟩, b2, b3, b4⟩ := TX1.all; have TX1 := hid TX1)
        go_ret
        exact ⟨rfl, bt TX.out.1 hb⟩

end Go.Proofs.Ytfgphphaopcolaa

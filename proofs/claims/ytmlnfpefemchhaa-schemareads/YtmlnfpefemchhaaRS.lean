/-
  The catalog of any bytes, and of such that are right but for one: the walk of the law SchemaReads.
  Conditions: as each theorem states them.
-/
import Derived.Test.YtmlnfpefemchhaaRR
import Derived.Test.YtmlnfpefemchhaaRQ
import Derived.Test.YtmlnfpefemchhaaSV
import Derived.Test.YtmlnfpefemchhaaSR
import Derived.Test.YtmlnfpefemchhaaSG
import Derived.Deep.Cut
import Derived.Deep.DeepCutAuto
import Derived.Deep.CutRange
namespace Go.Proofs.Ytmlnfpefemchhaa
open Go.ChangeShapes Go.WideShapes Go.ChangeAt Go.RowKit
set_option linter.unusedVariables false
set_option linter.unusedSimpArgs false

/-- A catalog and two bytes in their boxes. -/
def T2 (w wr : World) (s u : Value) (t0 t1 : Int) : Prop := Below w.heap.size w wr ∧ wr.heap[w.heap.size]? = some (.cells #[s, u] 25) ∧ wr.heap[w.heap.size + 1]? = some (.cells #[.int .u8 t0, .int .u8 t1] 26)
theorem T2.step {w wr w' : World} {s u : Value} {t0 t1 : Int} (h : T2 w wr s u t0 t1) (hb : Below wr.heap.size wr w') : T2 w w' s u t0 t1 := ⟨bt h.1 hb, keep_blk h.2.1 hb, keep_blk h.2.2 hb⟩
theorem t2_new (w : World) (s u : Value) (t0 t1 : Int) : T2 w ((w.alloc (.cells #[s, u] 25)).alloc (.cells #[.int .u8 t0, .int .u8 t1] 26)) s u t0 t1 := by
  refine ⟨((Below.refl _ _).alloc (Nat.le_refl _) _).alloc (by simp) _, ?_, ?_⟩ <;> simp only [heap_alloc2, World.size_alloc]
  · rw [if_neg (by omega)]; simp
  · simp
theorem bytesC_len (ds : Dims) (M : Int) : (bytesC ds M).length ≤ 502 := by
  cases h : goodC ds M with
  | true => rw [bytesC_nums h]; exact (nums_len h).2
  | false => rw [bytesC_bad h]; simp
theorem xor_u8 (x y : Int) : U8 (bits .xor .u8 x y) := by
  have e : ∃ z, bits .xor .u8 x y = IntKind.u8.wrap z := ⟨_, rfl⟩
  obtain ⟨z, e⟩ := e
  rw [e, IntKind.wrap_u8]
  unfold U8
  omega

theorem own_cap {w : World} {base g n cap : Nat} {e : TypeId} {xs : List Value} (h : w.ownsRow base e 1 (.slice (some ⟨g, 0, none⟩) n cap) n xs) : n ≤ cap ∧ cap ≤ 9223372036854775807 := by
  rcases h.2 with ⟨h', _⟩ | ⟨g', cap', cur, h', _, _, h1, h2, _, _⟩
  · simp at h'
  · simp only [Value.slice.injEq, Option.some.injEq, Addr.mk.injEq, and_true, true_and] at h'
    obtain ⟨rfl, rfl⟩ := h'
    unfold maxLen at h2
    exact ⟨h1, by omega⟩

theorem T2.grow {w w2 w3 : World} {s u : Value} {t0 t1 : Int} {R : Nat} (h : T2 w w2 s u t0 t1) (hg : w2.grownBy w3 (some R)) (hR : w.heap.size + 1 < R) : T2 w w3 s u t0 t1 := by
  refine ⟨h.1.trans (grow_below hg h.1.size (fun j e => by cases e; omega)), ?_, ?_⟩
  · exact (hg.block _ (heap_lt h.2.1) (fun e => by cases e; omega)).trans h.2.1
  · exact (hg.block _ (heap_lt h.2.2) (fun e => by cases e; omega)).trans h.2.2
theorem own_row8 {w : World} {base g n cap : Nat} {l : List Int} (h : w.ownsRow base 5 1 (.slice (some ⟨g, 0, none⟩) n cap) n (code.vals l)) (hu : ∀ x ∈ l, U8 x) : code.Row8 w (some ⟨g, 0, none⟩) n cap l := by
  obtain ⟨a, c, e, hr⟩ := row8_own (l := l) h hu
  simp only [Value.slice.injEq, true_and] at e
  obtain ⟨rfl, rfl⟩ := e
  exact hr
theorem u8_zero : ∀ (ds : Dims) (M : Int), ∀ x ∈ (0 :: bytesC ds M), U8 x := by
  intro ds M x hx
  rcases List.mem_cons.mp hx with rfl | hx
  · exact ⟨by decide, by decide⟩
  · exact bytesC_u8 ds M x hx
theorem own_cut1 {w : World} {base g n cap : Nat} {x : Int} {r : List Int} (h : w.ownsRow base 5 1 (.slice (some ⟨g, 0, none⟩) (1 + n) cap) (1 + n) (code.vals (x :: r))) (hu : ∀ y ∈ x :: r, U8 y) (hc : ¬ cap = 1) : code.Row8 w (some ⟨g, 1, none⟩) n (cap - 1) r := by
  have := row8_cut (own_row8 h hu)
  rw [if_neg hc, show 1 + n - 1 = n by omega, show 0 + 1 = 1 from rfl] at this
  exact this
theorem own_cut0 {w : World} {base g n cap : Nat} {x : Int} {r : List Int} (h : w.ownsRow base 5 1 (.slice (some ⟨g, 0, none⟩) (1 + n) cap) (1 + n) (code.vals (x :: r))) (hu : ∀ y ∈ x :: r, U8 y) (hc : cap = 1) : code.Row8 w (some ⟨g, 0, none⟩) n 0 r := by
  have := row8_cut (own_row8 h hu)
  rw [if_pos hc, show 1 + n - 1 = n by omega, show cap - 1 = 0 by omega] at this
  exact this
/-- The two rows that are read, in their block. -/
def Lp (w W : World) (P : Nat) (ra : Option Addr) (rn rc : Nat) (raw : List Int) (ba : Option Addr) (bn bc : Nat) (bs : List Int) : Prop :=
  Below w.heap.size w W ∧ W.heap[P]? = some (.cells #[.slice ra rn rc, .slice ba bn bc] 22) ∧ code.Row8 W ra rn rc raw ∧ code.Row8 W ba bn bc bs
theorem Lp.step {w W W' : World} {P : Nat} {ra ba : Option Addr} {rn rc bn bc : Nat} {raw bs : List Int} (h : Lp w W P ra rn rc raw ba bn bc bs) (hb : Below W.heap.size W W') : Lp w W' P ra rn rc raw ba bn bc bs :=
  ⟨bt h.1 hb, keep_blk h.2.1 hb, h.2.2.1.below hb, h.2.2.2.below hb⟩
theorem lp_new {w W : World} {ra ba : Option Addr} {rn rc bn bc : Nat} {raw bs : List Int} (hraw : code.Row8 w ra rn rc raw) (hb : Below w.heap.size w W) (hr : code.Row8 W ba bn bc bs) :
    Lp w (W.alloc (.cells #[.slice ra rn rc, .slice ba bn bc] 22)) W.heap.size ra rn rc raw ba bn bc bs := by
  have hb2 : Below W.heap.size W (W.alloc (.cells #[.slice ra rn rc, .slice ba bn bc] 22)) := (Below.refl _ _).alloc (Nat.le_refl _) _
  exact ⟨bt hb hb2, heap_alloc_new _ _, hraw.below (bt hb hb2), hr.below hb2⟩

set_option maxHeartbeats 16000000 in
set_option maxRecDepth 100000 in
theorem reads_walk (ra : Option Addr) (rn rc : Nat) (raw : List Int) (a : Option Addr) (n c : Nat) (ds : Dims) (M t0 t1 : Int) (w : World) (hraw : code.Row8 w ra rn rc raw) (hc : Cat w a n c ds) (hM : I64 M) (h0 : U8 t0) (h1 : U8 t1) :
    Calls Try.prog 3 #[.slice ra rn rc, .agg #[.slice a n c, .int .i64 M], .agg #[.int .u8 t0, .int .u8 t1]] w fun e w' => e = .returned (.bool true) ∧ Below w.heap.size w w' := by
  have HRaw := hid hraw
  have HC : Hid (Cat w a n c ds) := hc
  have HM : Hid (I64 M) := hM
  have TX : Hid (T2 w _ (.slice a n c) (.int .i64 M) t0 t1) := t2_new w (.slice a n c) (.int .i64 M) t0 t1
  have hrm : rn ≤ 9223372036854775807 := by have := hraw.2.1; have := hraw.2.2.1; unfold maxLen at this; omega
  obtain ⟨p0, p1⟩ := h0
  obtain ⟨p2, p3⟩ := h1
  clear hraw hc hM
  by_cases hbig : 1500 < rn
  · have hbt : decide ((1500 : Int) < (rn : Int)) = true := decide_eq_true (by omega)
    go_enter Try.func3, Try.ntmps3
    go_wp2_with (go_at_call 10; refine (wakes_any _).mono ?_; rintro e w9 ⟨rfl, hb9⟩)
    go_ret
    exact ⟨rfl, bt TX.out.1 hb9⟩
  · have hbf : decide ((1500 : Int) < (rn : Int)) = false := decide_eq_false (by omega)
    go_enter Try.func3, Try.ntmps3
    go_upto_if 21 with (first
      | (go_at_call 9; refine (lightC_any _ _ _ ds M _ (HC.out.below TX.out.1)).mono ?_; rintro e w1 ⟨⟨v, rfl, _⟩, hb1⟩; have TX1 := hid (TX.out.step hb1); clear hb1))
    cases v with
    | false =>
      go_wp2_with (go_at_call 10; refine (wakes_any _).mono ?_; rintro e w9 ⟨rfl, hb9⟩)
      go_ret
      exact ⟨rfl, bt TX1.out.1 hb9⟩
    | true =>
      have ho0 := World.ownsRow_lit (base := w1.heap.size) (e := 5) (size := 1) w1 #[.int .u8 0] 1 (Nat.le_refl _) (by decide) rfl
      have HO0 : Hid ((w1.alloc (.cells #[.int .u8 0] 5)).ownsRow w1.heap.size 5 1 (.slice (some ⟨w1.heap.size, 0, none⟩) 1 1) 1 (code.vals [0])) := hid ho0
      have TXa := hid (TX1.out.step ((Below.refl w1.heap.size w1).alloc (Nat.le_refl _) (.cells #[.int .u8 0] 5)))
      obtain ⟨i0, i1⟩ := box_two TX1.out.2.1
      have hz1 := heap_lt TX1.out.2.1
      have hz2 := heap_lt TX1.out.2.2
      clear ho0
      go_wp2_with (first
        | (go_at_call 11; refine (rbytes_row _ _ _ ds _ _ (HC.out.below TXa.out.1) HM.out).mono ?_; rintro e w2 ⟨⟨a2, n2, c2, rfl, hr2⟩, hb2⟩; have HR2 := hid hr2; have TX2 := hid (TXa.out.step hb2); have HO1 := hid (HO0.out.kept (below_grow hb2 none) (.inr (fun e => by cases e))); have hn2 : Hid (n2 ≤ 502 ∧ n2 = (bytesC ds M).length) := hid ⟨by rw [hr2.1]; exact bytesC_len ds M, hr2.1⟩; have hsz2 : w1.heap.size ≤ w2.heap.size := (by have := hb2.size; simp at this; omega); clear hr2 hb2)
        | (at_builtin; refine code.append_row rfl (.tmp 23) (.tmp 25) rfl w1.heap.size w1.heap.size 1 1 [0] rfl HO1.out _ _ _ (bytesC ds M) rfl HR2.out (by have := hn2.out.1; omega) hsz2 ?_; intro g3 cap3 w3 ho3 hg3; have HO3 := hid ho3; have HG3 := hid hg3; obtain ⟨hcp1, hcp2⟩ := own_cap ho3; clear ho3 hg3))
      · have T3 := hid (TX2.out.grow HG3.out hz2)
        obtain ⟨q0, q1⟩ := box_two T3.out.2.2
        have hq := heap_lt T3.out.2.2
        have hg3 := code.own_row HO3.out
        obtain ⟨j, hj, hjl⟩ : ∃ j : Nat, t0 % (n2 : Int) = (j : Int) ∧ j < n2 := by
          have h1 := Int.emod_nonneg t0 (show (n2 : Int) ≠ 0 by omega)
          have h2 := Int.emod_lt_of_pos t0 (show (0 : Int) < n2 by omega)
          exact ⟨(t0 % (n2 : Int)).toNat, by omega, by omega⟩
        have hlen := hn2.out.2
        obtain ⟨x, hx⟩ : ∃ x, (bytesC ds M)[j]? = some x := ⟨_, List.getElem?_eq_getElem (by omega)⟩
        have hxu := bytesC_u8 ds M x (List.mem_of_getElem? hx)
        have HL : w3.cell? ⟨g3, 1 + j, none⟩ = some (.int .u8 x) := by
          rw [HO3.out.cellAt (1 + j) (by omega)]
          rw [show 1 + j = j + 1 by omega]
          simp [code.vals, hx]
        have HF := HO3.out.frozenAt (1 + j)
        obtain ⟨hx1, hx2⟩ := hxu
        clear hlen hx
        go_region
        obtain ⟨st1, st2⟩ := HO3.out.stored (1 + j) (.int .u8 (bits .xor .u8 x t1))
        have HU : ∀ y ∈ (0 :: (bytesC ds M).set j (bits .xor .u8 x t1)), U8 y := by
          intro y hy
          rcases List.mem_cons.mp hy with rfl | hy
          · exact ⟨by decide, by decide⟩
          · rcases List.mem_or_eq_of_mem_set hy with hy | rfl
            · exact bytesC_u8 ds M y hy
            · exact xor_u8 _ _
        have es : (code.vals ([0] ++ bytesC ds M)).set (1 + j) (.int .u8 (bits .xor .u8 x t1)) = code.vals (0 :: (bytesC ds M).set j (bits .xor .u8 x t1)) := by
          rw [show 1 + j = j + 1 by omega]
          simp [code.vals, List.map_set]
        rw [es] at st1
        have HW := hid (lp_new HRaw.out ((T3.out.1.trans (grow_below st2 T3.out.1.size (fun i e => by cases e; omega)))).drew (own_cut1 st1.drew HU h))
        clear st1 st2 es HU HL HF q0 q1
        revert HW
        generalize (w3.setCell ⟨g3, 1 + j, none⟩ (.int .u8 (bits .xor .u8 x t1))).drew = W
        generalize hbs : (bytesC ds M).set j (bits .xor .u8 x t1) = bs
        intro HLP
        clear hbs hj
        go_wp2
        go_loopg [48] 2 (fun gk vi wr => ∃ k : Nat, vi = .int .i64 k ∧ Hid (gk + k = 2) ∧ Hid (Lp w wr W.heap.size ra rn rc raw (some ⟨g3, 1, none⟩) n2 (cap3 - 1) bs))
        case atStart => exact ⟨0, rfl, hid (by omega), HLP⟩
        case round =>
          obtain ⟨k, rfl, HK, L⟩ := hrel
          obtain ⟨c0, c1⟩ := box_two L.out.2.1
          have hzP := heap_lt L.out.2.1
          by_cases hlt : k < 2
          · rcases (show k = 0 ∨ k = 1 by omega) with rfl | rfl
            · go_wp2_with (first
                  | (go_at_call 12; refine (sread_any _ _ _ raw _ L.out.2.2.1).mono ?_; rintro e w4 ⟨⟨a4, n4, c4, rfl, hc4⟩, hb4⟩; have L4 := hid (L.out.step hb4); have C4 := hid hc4; have L5 := hid (L4.out.step ((Below.refl _ _).alloc (Nat.le_refl _) (.cells #[.slice a4 n4 c4, .int .i64 (rdM raw)] 25))); clear hc4 hb4)
                  | (go_at_call 13; refine (rread_any _ _ _ raw _ L5.out.2.2.1).mono ?_; rintro e w6 ⟨⟨a6, n6, c6, rfl, hc6⟩, hb6⟩; have L6 := hid (L5.out.step hb6); have C6 := hid hc6; have C46 := hid (C4.out.below (bt ((Below.refl _ _).alloc (Nat.le_refl _) (.cells #[.slice a4 n4 c4, .int .i64 (rdM raw)] 25)) hb6)); have K4 := keep_blk (heap_alloc_new w4 (.cells #[.slice a4 n4 c4, .int .i64 (rdM raw)] 25)) hb6; obtain ⟨u0, u1⟩ := box_two K4; have hu := heap_lt K4; have B6 := hid ((Below.refl w6.heap.size w6).alloc (Nat.le_refl _) (.cells #[.slice a6 n6 c6, .int .i64 (rdM raw)] 25)); clear hc6 hb6 K4)
                  | (go_at_call 14; refine (rsame_m _ _ _ _ _ _ (rdD raw) (rdD raw) _ _ true _ (C46.out.below B6.out) (C6.out.below B6.out) (hid (sameC_yes rfl rfl))).mono ?_; rintro e w7 ⟨rfl, hb7⟩; have L7 := hid ((L6.out.step B6.out).step hb7)))
              go_roundg (gk - 1)
              case measure => have := HK.out; omega
              case rel => exact ⟨0 + 1, rfl, hid (by have := HK.out; omega), L7⟩
            · go_wp2_with (first
                  | (go_at_call 12; refine (sread_any _ _ _ bs _ L.out.2.2.2).mono ?_; rintro e w4 ⟨⟨a4, n4, c4, rfl, hc4⟩, hb4⟩; have L4 := hid (L.out.step hb4); have C4 := hid hc4; have L5 := hid (L4.out.step ((Below.refl _ _).alloc (Nat.le_refl _) (.cells #[.slice a4 n4 c4, .int .i64 (rdM bs)] 25))); clear hc4 hb4)
                  | (go_at_call 13; refine (rread_any _ _ _ bs _ L5.out.2.2.2).mono ?_; rintro e w6 ⟨⟨a6, n6, c6, rfl, hc6⟩, hb6⟩; have L6 := hid (L5.out.step hb6); have C6 := hid hc6; have C46 := hid (C4.out.below (bt ((Below.refl _ _).alloc (Nat.le_refl _) (.cells #[.slice a4 n4 c4, .int .i64 (rdM bs)] 25)) hb6)); have K4 := keep_blk (heap_alloc_new w4 (.cells #[.slice a4 n4 c4, .int .i64 (rdM bs)] 25)) hb6; obtain ⟨u0, u1⟩ := box_two K4; have hu := heap_lt K4; have B6 := hid ((Below.refl w6.heap.size w6).alloc (Nat.le_refl _) (.cells #[.slice a6 n6 c6, .int .i64 (rdM bs)] 25)); clear hc6 hb6 K4)
                  | (go_at_call 14; refine (rsame_m _ _ _ _ _ _ (rdD bs) (rdD bs) _ _ true _ (C46.out.below B6.out) (C6.out.below B6.out) (hid (sameC_yes rfl rfl))).mono ?_; rintro e w7 ⟨rfl, hb7⟩; have L7 := hid ((L6.out.step B6.out).step hb7)))
              go_roundg (gk - 1)
              case measure => have := HK.out; omega
              case rel => exact ⟨1 + 1, rfl, hid (by have := HK.out; omega), L7⟩
          · obtain rfl : k = 2 := by have := HK.out; omega
            go_wp2_with (go_at_call 10; refine (wakes_any _).mono ?_; rintro e w9 ⟨rfl, hb9⟩)
            go_ret
            exact ⟨rfl, bt L.out.1 hb9⟩
      · have HLP := hid (lp_new HRaw.out (TX2.out.grow HG3.out hz2).1 (own_cut0 HO3.out (u8_zero ds M) ‹_›))
        go_loopg [48] 2 (fun gk vi wr => ∃ k : Nat, vi = .int .i64 k ∧ Hid (gk + k = 2) ∧ Hid (Lp w wr w3.heap.size ra rn rc raw (some ⟨g3, 0, none⟩) n2 0 (bytesC ds M)))
        case atStart => exact ⟨0, rfl, hid (by omega), HLP⟩
        case round =>
          obtain ⟨k, rfl, HK, L⟩ := hrel
          obtain ⟨c0, c1⟩ := box_two L.out.2.1
          have hzP := heap_lt L.out.2.1
          by_cases hlt : k < 2
          · rcases (show k = 0 ∨ k = 1 by omega) with rfl | rfl
            · go_wp2_with (first
                  | (go_at_call 12; refine (sread_any _ _ _ raw _ L.out.2.2.1).mono ?_; rintro e w4 ⟨⟨a4, n4, c4, rfl, hc4⟩, hb4⟩; have L4 := hid (L.out.step hb4); have C4 := hid hc4; have L5 := hid (L4.out.step ((Below.refl _ _).alloc (Nat.le_refl _) (.cells #[.slice a4 n4 c4, .int .i64 (rdM raw)] 25))); clear hc4 hb4)
                  | (go_at_call 13; refine (rread_any _ _ _ raw _ L5.out.2.2.1).mono ?_; rintro e w6 ⟨⟨a6, n6, c6, rfl, hc6⟩, hb6⟩; have L6 := hid (L5.out.step hb6); have C6 := hid hc6; have C46 := hid (C4.out.below (bt ((Below.refl _ _).alloc (Nat.le_refl _) (.cells #[.slice a4 n4 c4, .int .i64 (rdM raw)] 25)) hb6)); have K4 := keep_blk (heap_alloc_new w4 (.cells #[.slice a4 n4 c4, .int .i64 (rdM raw)] 25)) hb6; obtain ⟨u0, u1⟩ := box_two K4; have hu := heap_lt K4; have B6 := hid ((Below.refl w6.heap.size w6).alloc (Nat.le_refl _) (.cells #[.slice a6 n6 c6, .int .i64 (rdM raw)] 25)); clear hc6 hb6 K4)
                  | (go_at_call 14; refine (rsame_m _ _ _ _ _ _ (rdD raw) (rdD raw) _ _ true _ (C46.out.below B6.out) (C6.out.below B6.out) (hid (sameC_yes rfl rfl))).mono ?_; rintro e w7 ⟨rfl, hb7⟩; have L7 := hid ((L6.out.step B6.out).step hb7)))
              go_roundg (gk - 1)
              case measure => have := HK.out; omega
              case rel => exact ⟨0 + 1, rfl, hid (by have := HK.out; omega), L7⟩
            · go_wp2_with (first
                  | (go_at_call 12; refine (sread_any _ _ _ (bytesC ds M) _ L.out.2.2.2).mono ?_; rintro e w4 ⟨⟨a4, n4, c4, rfl, hc4⟩, hb4⟩; have L4 := hid (L.out.step hb4); have C4 := hid hc4; have L5 := hid (L4.out.step ((Below.refl _ _).alloc (Nat.le_refl _) (.cells #[.slice a4 n4 c4, .int .i64 (rdM (bytesC ds M))] 25))); clear hc4 hb4)
                  | (go_at_call 13; refine (rread_any _ _ _ (bytesC ds M) _ L5.out.2.2.2).mono ?_; rintro e w6 ⟨⟨a6, n6, c6, rfl, hc6⟩, hb6⟩; have L6 := hid (L5.out.step hb6); have C6 := hid hc6; have C46 := hid (C4.out.below (bt ((Below.refl _ _).alloc (Nat.le_refl _) (.cells #[.slice a4 n4 c4, .int .i64 (rdM (bytesC ds M))] 25)) hb6)); have K4 := keep_blk (heap_alloc_new w4 (.cells #[.slice a4 n4 c4, .int .i64 (rdM (bytesC ds M))] 25)) hb6; obtain ⟨u0, u1⟩ := box_two K4; have hu := heap_lt K4; have B6 := hid ((Below.refl w6.heap.size w6).alloc (Nat.le_refl _) (.cells #[.slice a6 n6 c6, .int .i64 (rdM (bytesC ds M))] 25)); clear hc6 hb6 K4)
                  | (go_at_call 14; refine (rsame_m _ _ _ _ _ _ (rdD (bytesC ds M)) (rdD (bytesC ds M)) _ _ true _ (C46.out.below B6.out) (C6.out.below B6.out) (hid (sameC_yes rfl rfl))).mono ?_; rintro e w7 ⟨rfl, hb7⟩; have L7 := hid ((L6.out.step B6.out).step hb7)))
              go_roundg (gk - 1)
              case measure => have := HK.out; omega
              case rel => exact ⟨1 + 1, rfl, hid (by have := HK.out; omega), L7⟩
          · obtain rfl : k = 2 := by have := HK.out; omega
            go_wp2_with (go_at_call 10; refine (wakes_any _).mono ?_; rintro e w9 ⟨rfl, hb9⟩)
            go_ret
            exact ⟨rfl, bt L.out.1 hb9⟩
      · have HLP := hid (lp_new HRaw.out (TX2.out.grow HG3.out hz2).1 (own_cut1 HO3.out (u8_zero ds M) ‹_›))
        go_loopg [48] 2 (fun gk vi wr => ∃ k : Nat, vi = .int .i64 k ∧ Hid (gk + k = 2) ∧ Hid (Lp w wr w3.heap.size ra rn rc raw (some ⟨g3, 1, none⟩) n2 (cap3 - 1) (bytesC ds M)))
        case atStart => exact ⟨0, rfl, hid (by omega), HLP⟩
        case round =>
          obtain ⟨k, rfl, HK, L⟩ := hrel
          obtain ⟨c0, c1⟩ := box_two L.out.2.1
          have hzP := heap_lt L.out.2.1
          by_cases hlt : k < 2
          · rcases (show k = 0 ∨ k = 1 by omega) with rfl | rfl
            · go_wp2_with (first
                  | (go_at_call 12; refine (sread_any _ _ _ raw _ L.out.2.2.1).mono ?_; rintro e w4 ⟨⟨a4, n4, c4, rfl, hc4⟩, hb4⟩; have L4 := hid (L.out.step hb4); have C4 := hid hc4; have L5 := hid (L4.out.step ((Below.refl _ _).alloc (Nat.le_refl _) (.cells #[.slice a4 n4 c4, .int .i64 (rdM raw)] 25))); clear hc4 hb4)
                  | (go_at_call 13; refine (rread_any _ _ _ raw _ L5.out.2.2.1).mono ?_; rintro e w6 ⟨⟨a6, n6, c6, rfl, hc6⟩, hb6⟩; have L6 := hid (L5.out.step hb6); have C6 := hid hc6; have C46 := hid (C4.out.below (bt ((Below.refl _ _).alloc (Nat.le_refl _) (.cells #[.slice a4 n4 c4, .int .i64 (rdM raw)] 25)) hb6)); have K4 := keep_blk (heap_alloc_new w4 (.cells #[.slice a4 n4 c4, .int .i64 (rdM raw)] 25)) hb6; obtain ⟨u0, u1⟩ := box_two K4; have hu := heap_lt K4; have B6 := hid ((Below.refl w6.heap.size w6).alloc (Nat.le_refl _) (.cells #[.slice a6 n6 c6, .int .i64 (rdM raw)] 25)); clear hc6 hb6 K4)
                  | (go_at_call 14; refine (rsame_m _ _ _ _ _ _ (rdD raw) (rdD raw) _ _ true _ (C46.out.below B6.out) (C6.out.below B6.out) (hid (sameC_yes rfl rfl))).mono ?_; rintro e w7 ⟨rfl, hb7⟩; have L7 := hid ((L6.out.step B6.out).step hb7)))
              go_roundg (gk - 1)
              case measure => have := HK.out; omega
              case rel => exact ⟨0 + 1, rfl, hid (by have := HK.out; omega), L7⟩
            · go_wp2_with (first
                  | (go_at_call 12; refine (sread_any _ _ _ (bytesC ds M) _ L.out.2.2.2).mono ?_; rintro e w4 ⟨⟨a4, n4, c4, rfl, hc4⟩, hb4⟩; have L4 := hid (L.out.step hb4); have C4 := hid hc4; have L5 := hid (L4.out.step ((Below.refl _ _).alloc (Nat.le_refl _) (.cells #[.slice a4 n4 c4, .int .i64 (rdM (bytesC ds M))] 25))); clear hc4 hb4)
                  | (go_at_call 13; refine (rread_any _ _ _ (bytesC ds M) _ L5.out.2.2.2).mono ?_; rintro e w6 ⟨⟨a6, n6, c6, rfl, hc6⟩, hb6⟩; have L6 := hid (L5.out.step hb6); have C6 := hid hc6; have C46 := hid (C4.out.below (bt ((Below.refl _ _).alloc (Nat.le_refl _) (.cells #[.slice a4 n4 c4, .int .i64 (rdM (bytesC ds M))] 25)) hb6)); have K4 := keep_blk (heap_alloc_new w4 (.cells #[.slice a4 n4 c4, .int .i64 (rdM (bytesC ds M))] 25)) hb6; obtain ⟨u0, u1⟩ := box_two K4; have hu := heap_lt K4; have B6 := hid ((Below.refl w6.heap.size w6).alloc (Nat.le_refl _) (.cells #[.slice a6 n6 c6, .int .i64 (rdM (bytesC ds M))] 25)); clear hc6 hb6 K4)
                  | (go_at_call 14; refine (rsame_m _ _ _ _ _ _ (rdD (bytesC ds M)) (rdD (bytesC ds M)) _ _ true _ (C46.out.below B6.out) (C6.out.below B6.out) (hid (sameC_yes rfl rfl))).mono ?_; rintro e w7 ⟨rfl, hb7⟩; have L7 := hid ((L6.out.step B6.out).step hb7)))
              go_roundg (gk - 1)
              case measure => have := HK.out; omega
              case rel => exact ⟨1 + 1, rfl, hid (by have := HK.out; omega), L7⟩
          · obtain rfl : k = 2 := by have := HK.out; omega
            go_wp2_with (go_at_call 10; refine (wakes_any _).mono ?_; rintro e w9 ⟨rfl, hb9⟩)
            go_ret
            exact ⟨rfl, bt L.out.1 hb9⟩

end Go.Proofs.Ytmlnfpefemchhaa

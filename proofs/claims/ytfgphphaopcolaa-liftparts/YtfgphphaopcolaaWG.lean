/-
  What lift.widen returns: each of the places with each of the members.
  Conditions: as each theorem states them.
-/
import Derived.Test.YtfgphphaopcolaaWF
import Derived.Deep.Cut
import Derived.Deep.DeepCutAuto
import Derived.Deep.LoopGhost
namespace Go.Proofs.Ytfgphphaopcolaa
open Go.ChangeShapes Go.WideShapes Go.ChangeAt Go.RowKit
set_option linter.unusedVariables false
set_option linter.unusedSimpArgs false

/-- What the inner loop bears: the row, the block of the place that is turned. -/
def WSt (w wr : World) (v : Value) (l : List Nd) (P d : Nat) (x : Nd) : Prop :=
  PlSt w wr v l ∧ w.heap.size ≤ P ∧ ¬ v.ownBlock = some P ∧ ∃ g : Nat → Int, wr.heap[P]? = some (.cells (n4 g) 27) ∧ ∀ j, j < 4 → ¬ j = d → g j = nf x j
theorem WSt.set {w wr : World} {v : Value} {l : List Nd} {P d : Nat} {x : Nd} (h : WSt w wr v l P d x) (hd : d < 4) (m : Int) :
    PlSt w (wr.setCell ⟨P, d, none⟩ (.int .u8 m)) v l ∧ (wr.setCell ⟨P, d, none⟩ (.int .u8 m)).heap[P]? = some (.cells (n4 (nf (pt x m d))) 27) := by
  obtain ⟨h1, h2, h3, g, h4, h5⟩ := h
  refine ⟨h1.set h2 h3, n4_set h4 hd fun j hj => ?_⟩
  rw [nf_pt x m d hj]
  by_cases e : j = d
  · rw [if_pos e, if_pos e]
  · rw [if_neg e, if_neg e, h5 j hj e]
theorem WSt.more {w w2 w3 : World} {v : Value} {l : List Nd} {P d : Nat} {x y : Nd} {g cap nn : Nat} (h : PlSt w w2 v l) (hP : w2.heap[P]? = some (.cells (n4 (nf y)) 27)) (hw : w.heap.size ≤ P) (hv : ¬ v.ownBlock = some P)
    (hy : ∀ j, j < 4 → ¬ j = d → nf y j = nf x j) (hg : v.ownBlock = some g ∨ w2.heap.size ≤ g) (hn : l.length = nn)
    (ho : w3.ownsRow w.heap.size 27 4 (.slice (some ⟨g, 0, none⟩) (nn + 1) cap) (nn + 1) (ncells (l ++ [y]))) (hgr : w2.grownBy w3 v.ownBlock) : WSt w w3 (.slice (some ⟨g, 0, none⟩) (nn + 1) cap) (l ++ [y]) P d x := by
  subst hn
  refine ⟨pl_step h ho hgr, hw, ?_, nf y, ?_, hy⟩
  · intro e
    have e' : g = P := by simpa [Value.ownBlock] using e
    rcases hg with hg | hg
    · exact hv (by rw [hg, e'])
    · have := heap_lt hP; omega
  · exact grown_keeps hgr hP (fun j hj e => hv (by rw [hj, e]))

set_option maxHeartbeats 16000000 in
set_option maxRecDepth 20000 in
theorem widen_any (a : Option Addr) (n c : Nat) (l : List Nd) (d : Nat) (ma : Option Addr) (ml mc : Nat) (ms : List Int) (w : World) (hl : NRow w a n c l) (hm : IRow .i64 w ma ml mc ms) (hd : d < 4) (hms : ∀ x ∈ ms, 0 ≤ x ∧ x ≤ 255) (hs : n * ml ≤ 200000) :
    Calls Try.prog 36 #[.slice a n c, .int .i64 d, .slice ma ml mc] w fun e w' => ∃ v, e = .returned v ∧ PlSt w w' v (wid l d ms) := by
  have HL := hid hl
  have HMs := hid hm
  have HB := hid hms
  obtain ⟨l1, l2⟩ := hl.lens
  have EL := hid l1
  obtain ⟨m1, m2, m3, _, _⟩ := hm
  have EM := hid m1
  have hml : ml ≤ 9223372036854775807 := by unfold maxLen at m3; omega
  have hd4 : (d : Int) < 4 := by omega
  have hd0 : (0 : Int) ≤ (d : Int) := by omega
  obtain ⟨K, hK⟩ : ∃ K : Nat, n * ml = K := ⟨_, rfl⟩
  have HK := hid hK
  have hKi : (n : Int) * (ml : Int) = (K : Int) := by rw [← hK, Int.natCast_mul]
  rw [hK] at hs
  have wK : IntKind.i64.wrap (K : Int) = K := IntWalk.i64_in _ (by omega)
  clear hl l1 m1 m3 hms hK
  obtain ⟨i0, hi, hz0, hz1, hz2⟩ := info_parts info_coord
  have HI : Hid (Try.prog.info? 27 = some i0 ∧ i0.zero = some (.agg #[.int .u8 0, .int .u8 0, .int .u8 0, .int .u8 0]) ∧ i0.size = 4 ∧ i0.bytes = 4) := hid ⟨hi, hz0, hz1, hz2⟩
  clear hi hz0 hz1 hz2
  go_enter Try.func36, Try.ntmps36
  go_wp2_with (at_make; refine wpList_make_own _ rfl _ _ 44 rfl w.heap.size 27 i0 _ 4 Try.underlying44 HI.out.1 HI.out.2.1 HI.out.2.2.1 .i64 .i64 (K : Int) K rfl rfl rfl (by rw [HI.out.2.2.2]; omega) (by unfold maxLen; omega) (Nat.le_refl _) ?_; intro w1 ho1 hg1; have HO1 := hid ho1; have HG1 := hid hg1; clear ho1 hg1)
  have PS0 : Hid (PlSt w w1 (.slice (some ⟨w.heap.size, 0, none⟩) 0 K) []) := hid ⟨grow_below HG1.out (Nat.le_refl _) (fun j h => by cases h), HO1.out⟩
  clear HG1 HO1
  go_loopg [7, 20] n (fun gk vo vi wr => ∃ k : Nat, vi = .int .i64 k ∧ Hid (gk + k = n) ∧ Hid (PlSt w wr vo (wid (l.take k) d ms))) 
  case atStart => exact ⟨0, rfl, hid (by omega), PS0⟩
  case round =>
    obtain ⟨k, rfl, HG, PS⟩ := hrel
    rename World => W0
    have hkn := HG.out
    by_cases hlt : k < n
    · have hki : (k : Int) < (n : Int) := by omega
      obtain ⟨x, hx⟩ : ∃ x, l[k]? = some x := ⟨_, List.getElem?_eq_getElem (by rw [← EL.out]; exact hlt)⟩
      have HX := hid hx
      obtain ⟨x0, x1, x2, x3⟩ := x
      obtain ⟨b, off, rfl, hb0, c0, c1, c2, c3⟩ := (HL.out.below PS.out.1).at hx
      have HN0 := hid (heap_alloc_new W0 (.cells #[.int .u8 x0, .int .u8 x1, .int .u8 x2, .int .u8 x3] 27))
      have HB0 : Hid (Below W0.heap.size W0 (W0.alloc (.cells #[.int .u8 x0, .int .u8 x1, .int .u8 x2, .int .u8 x3] 27))) := hid ((Below.refl _ _).alloc (Nat.le_refl _) _)
      have HOB : Hid (¬ u7.ownBlock = some W0.heap.size) := hid fun e => by have := (PS.out.2.lt _ e).2; omega
      clear hx
      go_wp2
      have WS0 : Hid (WSt w (W0.alloc (.cells #[.int .u8 x0, .int .u8 x1, .int .u8 x2, .int .u8 x3] 27)) u7 (wid (l.take k) d ms ++ (ms.take 0).map (fun m => pt (x0, x1, x2, x3) m d)) W0.heap.size d (x0, x1, x2, x3)) := by
        refine hid ⟨?_, PS.out.1.size, HOB.out, nf (x0, x1, x2, x3), HN0.out, fun j _ _ => rfl⟩
        simpa using PS.out.step HB0.out
      go_loopg [7, 26] ml (fun g2 vo vi wr => ∃ q : Nat, vi = .int .i64 q ∧ Hid (g2 + q = ml) ∧ Hid (WSt w wr vo (wid (l.take k) d ms ++ (ms.take q).map (fun m => pt (x0, x1, x2, x3) m d)) W0.heap.size d (x0, x1, x2, x3)))
      case atStart => exact ⟨0, rfl, hid (by omega), WS0⟩
      case round =>
        obtain ⟨q, rfl, HQ, WS⟩ := hrel
        have hqm := HQ.out
        by_cases hlq : q < ml
        · have hqi : (q : Int) < (ml : Int) := by omega
          obtain ⟨mb, moff, rfl, hmb, hml2⟩ := (HMs.out.below WS.out.1.1).2.2.2.2 (by omega)
          have hcq := hml2 q (by rw [← EM.out]; exact hlq)
          have hmv := HB.out _ (getD_of (l := ms) (p := fun x => x ∈ ms) (fun x hx => hx) q (by rw [← EM.out]; exact hlq))
          have HT : Hid (ms.take (q + 1) = ms.take q ++ [ms.getD q 0]) := hid (take_snoc ms q (by rw [← EM.out]; exact hlq))
          obtain ⟨m, hmm⟩ : ∃ m, ms.getD q 0 = m := ⟨_, rfl⟩
          rw [hmm] at hcq hmv HT
          clear hmm hml2
          have wm : IntKind.u8.wrap m = m := IntWalk.u8_in _ (by omega)
          obtain ⟨gP, hP, hPg⟩ := WS.out.2.2.2
          obtain ⟨qv, q4⟩ : ∃ v, wr.cell? ⟨W0.heap.size, d, none⟩ = some v := ⟨_, n4_at hP hd⟩
          have f4 := frozen_of_row wr W0.heap.size d _ _ hP
          obtain ⟨PS2, HP2⟩ := WS.out.set hd m
          obtain ⟨W2, hW2⟩ : ∃ W2, wr.setCell ⟨W0.heap.size, d, none⟩ (.int .u8 m) = W2 := ⟨_, rfl⟩
          rw [hW2] at PS2 HP2
          have PS2 := hid PS2
          have HW2 := hid hW2
          obtain ⟨p0, p1, p2, p3⟩ := n4_all HP2
          have HP2 := hid HP2
          clear hP hPg hW2
          go_upto_region 9 with fail
          rw [HW2.out]
          obtain ⟨LL, hLL⟩ : ∃ LL, (wid (l.take k) d ms ++ (ms.take q).map (fun m => pt (x0, x1, x2, x3) m d)).length = LL := ⟨_, rfl⟩
          have HLL := hid hLL
          have HLB : Hid (LL + 1 ≤ 1000000) := hid (by
            rw [← hLL, List.length_append, wid_len, List.length_map, List.length_take, List.length_take, ← EL.out, ← EM.out, Nat.min_eq_left (by omega), Nat.min_eq_left (by omega)]
            have h1 : k * ml + ml ≤ n * ml := by rw [← Nat.succ_mul]; exact Nat.mul_le_mul_right _ (by omega)
            have h2 := HK.out
            omega)
          have HO2 : Hid (W2.ownsRow w.heap.size 27 4 u7 LL (ncells (wid (l.take k) d ms ++ (ms.take q).map (fun m => pt (x0, x1, x2, x3) m d)))) := hid (by rw [← hLL]; exact PS2.out.2)
          clear hLL
          go_wp2_with (at_builtin; refine append_four Try.underlying44 info_coord (by decide) (by decide) rfl (.tmp 34) (.tmp 36) rfl w.heap.size LL _ _ _ _ _ _ _ rfl rfl HO2.out rfl HLB.out PS2.out.1.size ?_; rintro v5 w5 ho5 ⟨g5, c5, rfl, hg5⟩ hgr5; have HO5 := hid ho5; have HG5 := hid hg5; have HR5 := hid hgr5; clear ho5 hg5 hgr5)
          go_roundg (ml - (q + 1))
          case measure => have := HQ.out; omega
          case rel =>
            refine ⟨q + 1, by go_num, hid (by have := HQ.out; omega), hid ?_⟩
            rw [HT.out, List.map_append, ← List.append_assoc]
            exact WSt.more (x := (x0, x1, x2, x3)) (y := pt (x0, x1, x2, x3) m d) PS2.out HP2.out WS.out.2.1 WS.out.2.2.1 (fun j hj hne => by rw [nf_pt _ _ _ hj, if_neg hne]) HG5.out HLL.out HO5.out HR5.out
        · obtain rfl : q = ml := by omega
          go_wp2
          go_roundg (n - (k + 1))
          case measure => have := HG.out; omega
          case rel =>
            refine ⟨k + 1, by go_num, hid (by have := HG.out; omega), hid ?_⟩
            have := WS.out.1
            rw [take_full EM.out] at this
            rw [take_more HX.out, wid_snoc]
            exact this
    · obtain rfl : k = n := by omega
      go_wp2
      go_ret
      refine ⟨_, rfl, ?_⟩
      have := PS.out
      rw [take_full EL.out] at this
      exact this

end Go.Proofs.Ytfgphphaopcolaa

/-
  What the document's own Places returns: as many places as there are, each a place of the node.
  Conditions: as each theorem states them.
-/
import Derived.Test.YtmlnfpefemchhaaLUm
import Derived.Test.YtmlnfpefemchhaaLT
namespace Go.Proofs.Ytmlnfpefemchhaa
open Go.ChangeShapes Go.WideShapes Go.ChangeAt Go.RowKit
set_option linter.unusedVariables false
set_option linter.unusedSimpArgs false

theorem info_coord : (Try.prog.info? 54).map (fun i => (i.zero, i.size, i.bytes)) = some (some (.agg #[.int .u8 0, .int .u8 0, .int .u8 0, .int .u8 0]), 4, 4) := by kernel_rfl
/-- A row of places of one's own behind a world. -/
def PlSt (W wr : World) (v : Value) (l : List Nd) : Prop := Below W.heap.size W wr ∧ wr.ownsRow W.heap.size 54 4 v l.length (ncells l)
theorem PlSt.step {W wr w' : World} {v : Value} {l : List Nd} (h : PlSt W wr v l) (hb : Below wr.heap.size wr w') : PlSt W w' v l := by
  refine ⟨bt h.1 hb, h.2.kept (below_grow hb none) ?_⟩
  cases hv : v.ownBlock with
  | none => exact .inl rfl
  | some j => exact .inr (by simp)
theorem pl_step {W wr w3 : World} {g cap : Nat} {x : Nd} {v : Value} {l : List Nd} (h : PlSt W wr v l)
    (ho : w3.ownsRow W.heap.size 54 4 (.slice (some ⟨g, 0, none⟩) (l.length + 1) cap) (l.length + 1) (ncells (l ++ [x]))) (hg : wr.grownBy w3 v.ownBlock) : PlSt W w3 (.slice (some ⟨g, 0, none⟩) (l.length + 1) cap) (l ++ [x]) := by
  refine ⟨h.1.grown hg h.1.size (fun j hj => (h.2.lt j hj).1), ?_⟩
  rw [show (l ++ [x]).length = l.length + 1 by simp]
  exact ho
/-- How many are told. -/
def many (C : Int) : Int := if C ≤ 4000 then C else 0

/-- What Places tells. -/
def PlTold (ds : Dims) (M v0 v1 v2 v3 C : Int) (e : Ending) (w' : World) : Prop := ∃ a' n' c' l, e = .returned (.slice a' n' c') ∧ NRow w' a' n' c' l ∧ (l.length : Int) = many C ∧ ∀ x0 x1 x2 x3, (x0, x1, x2, x3) ∈ l → rightC ds M [v0, v1, v2, v3] [x0, x1, x2, x3] = true ∧ ∀ y ∈ [x0, x1, x2, x3], U8 y

set_option maxHeartbeats 16000000 in
set_option maxRecDepth 20000 in
theorem places_any (a : Option Addr) (n c : Nat) (ds : Dims) (M v0 v1 v2 v3 : Int) (w : World) (hc : Cat w a n c ds) (hM : I64 M) (hV : ∀ x ∈ [v0, v1, v2, v3], U8 x) (hn : nodeC ds M v0 v1 v2 v3 = true) :
    Calls Try.prog 38 #[.agg #[.slice a n c, .int .i64 M], .agg #[.int .u8 v0, .int .u8 v1, .int .u8 v2, .int .u8 v3], .int .i64 4000] w fun e w' => PlTold ds M v0 v1 v2 v3 (cost ds M v0 v1 v2 v3) e w' ∧ Below w.heap.size w w' := by
  obtain ⟨e1, e2⟩ := hc.lens
  have E1 : Hid (n = ds.length) := e1
  have HC : Hid (Cat w a n c ds) := hc
  have HM : Hid (I64 M) := hM
  have HV : Hid (∀ x ∈ [v0, v1, v2, v3], U8 x) := hV
  have HN : Hid (nodeC ds M v0 v1 v2 v3 = true) := hn
  have NX : Hid (N2 w _ (.slice a n c) (.int .i64 M) [v0, v1, v2, v3]) := n2_new w (.slice a n c) (.int .i64 M) v0 v1 v2 v3
  have hgp := goodC_p (nodeC_good hn)
  rw [← E1.out] at hgp
  obtain ⟨n1, n4, _, _, _⟩ := hgp
  have cb := cost_bd ds M v0 v1 v2 v3
  obtain ⟨C, hC⟩ : ∃ C, cost ds M v0 v1 v2 v3 = C := ⟨_, rfl⟩
  have HCC : Hid (cost ds M v0 v1 v2 v3 = C) := hC
  rw [hC] at cb ⊢
  obtain ⟨cb0, cb1⟩ := cb
  clear hc hM hV hn e1
  by_cases hbig : 4000 < C
  · have hbt : decide (4000 < C) = true := decide_eq_true hbig
    go_enter Try.func38, Try.ntmps38
    go_wp2_with (go_at_call 29; refine (rcost_any _ _ _ _ _ _ _ _ _ _ (HC.out.below NX.out.1) HM.out HV.out).mono ?_; rintro e w1 ⟨rfl, hb1⟩)
    go_ret
    refine ⟨⟨_, _, _, [], rfl, nrow_nil _, ?_, fun x0 x1 x2 x3 hx => by simp at hx⟩, bt NX.out.1 hb1⟩
    unfold many; rw [if_neg (by omega)]; rfl
  · have hbf : decide (4000 < C) = false := decide_eq_false hbig
    go_enter Try.func38, Try.ntmps38
    go_wp2_with (go_at_call 29; refine (rcost_any _ _ _ _ _ _ _ _ _ _ (HC.out.below NX.out.1) HM.out HV.out).mono ?_; rintro e w1 ⟨rfl, hb1⟩; have NX1 := hid (NX.out.step hb1); clear hb1)
    have PS0 : Hid (PlSt w1 w1 (.slice none 0 0) []) := hid ⟨Below.refl _ _, World.ownsRow_nil _ _ _ _⟩
    clear hC
    go_loopg [8, 9] C.toNat (fun gk vo vi wr => ∃ (i : Nat) (l : List Nd), vi = .int .i64 i ∧ Hid (gk + i = C.toNat ∧ l.length = i ∧ ∀ x0 x1 x2 x3, (x0, x1, x2, x3) ∈ l → rightC ds M [v0, v1, v2, v3] [x0, x1, x2, x3] = true ∧ ∀ y ∈ [x0, x1, x2, x3], U8 y) ∧ Hid (PlSt w1 wr vo l))
    case atStart => exact ⟨0, [], rfl, hid ⟨by omega, rfl, fun x0 x1 x2 x3 hx => by simp at hx⟩, PS0⟩
    case round =>
      obtain ⟨i, l, rfl, HI, PS⟩ := hrel
      rename World => W0
      have NX2 := hid (NX1.out.step PS.out.1)
      obtain ⟨⟨i0, i1⟩, i2, i3, i4, i5⟩ := n2_all NX2.out
      by_cases hi : (i : Int) < C
      · have HB0 := hid (heap_alloc_new W0 (.cells #[.int .u8 0, .int .u8 0, .int .u8 0, .int .u8 0] 54))
        have BL0 : Hid (Below W0.heap.size W0 (W0.alloc (.cells #[.int .u8 0, .int .u8 0, .int .u8 0, .int .u8 0] 54))) := hid ((Below.refl _ _).alloc (Nat.le_refl _) _)
        have PX0 := hid (px_start HN.out HV.out)
        rw [← E1.out] at PX0
        have hzw : w.heap.size < W0.heap.size := heap_lt NX2.out.2.1
        go_wp2
        go_loopg [11, 12] n (fun g2 vk vd wr => ∃ (q : Nat) (m d x0 x1 x2 x3 : Int), vk = .int .i64 m ∧ vd = .int .i64 d ∧ Hid (g2 = q ∧ q ≤ n ∧ d = (q : Int) - 1 ∧ 0 ≤ m ∧ m ≤ 4000 ∧ PX ds [v0, v1, v2, v3] [x0, x1, x2, x3] q) ∧ Hid (wr.heap[W0.heap.size]? = some (.cells #[.int .u8 x0, .int .u8 x1, .int .u8 x2, .int .u8 x3] 54)) ∧ Hid (Below W0.heap.size W0 wr))
        case atStart => exact ⟨n, i, (n : Int) - 1, 0, 0, 0, 0, rfl, rfl, hid ⟨rfl, Nat.le_refl _, rfl, by omega, by omega, PX0.out⟩, HB0, BL0⟩
        case round =>
          obtain ⟨q, m, d, x0, x1, x2, x3, rfl, rfl, HQ, HB, BL⟩ := hrel
          cases q with
          | zero =>
            obtain rfl : d = -1 := by have := HQ.out.2.2.1; omega
            have PS1 := hid (PS.out.step BL.out)
            obtain ⟨p0, p1, p2, p3⟩ := box4 HB.out
            go_wp2_with (at_builtin; refine append_four Try.underlying51 info_coord (by decide) (by decide) rfl (.tmp 53) (.tmp 55) rfl w1.heap.size _ _ _ _ _ _ _ _ rfl rfl PS1.out.2 rfl (by have := HI.out.2.1; omega) PS1.out.1.size ?_; rintro v5 w5 ho5 ⟨g, cap, rfl, hgc⟩ hgr5; have HO5 := hid ho5; have HG5 := hid hgr5; clear ho5 hgr5)
            go_roundg (C.toNat - (i + 1))
            case measure => have := HI.out.1; omega
            case rel =>
              refine ⟨i + 1, l ++ [(x0, x1, x2, x3)], by go_num, hid ⟨by have := HI.out.1; omega, by have := HI.out.2.1; simp; omega, fun y0 y1 y2 y3 hy => ?_⟩, hid (pl_step PS1.out HO5.out HG5.out)⟩
              rw [List.mem_append] at hy
              rcases hy with hy | hy
              · exact HI.out.2.2 _ _ _ _ hy
              · simp only [List.mem_singleton, Prod.mk.injEq] at hy
                obtain ⟨rfl, rfl, rfl, rfl⟩ := hy
                exact px_right (nodeC_good HN.out) HQ.out.2.2.2.2.2
          | succ p =>
            have hpn : p < n := by have := HQ.out.2.1; omega
            have hp4 : p < 4 := by omega
            obtain rfl : d = (p : Int) := by have := HQ.out.2.2.1; omega
            have hm0 : 0 ≤ m := HQ.out.2.2.2.1
            have hm1 : m ≤ 4000 := HQ.out.2.2.2.2.1
            have NX3 := hid (NX2.out.step BL.out)
            have bel3 := NX3.out.1
            obtain ⟨b, off, rfl, hb0, sa, sl, sc, ua, ul, uc, S, U, d1, d2, HDm, HSU⟩ := HC.out.get bel3 (k := p) hpn
            have hbw : b < wr.heap.size := Nat.lt_of_lt_of_le hb0 bel3.size
            have q1 := NX3.out.at (k := p) hp4
            have b1 := u8_at HV.out p
            have hmem := node_at HN.out HV.out hp4
            have HPX := hid (HQ.out.2.2.2.2.2)
            obtain ⟨v, hv⟩ : ∃ v, [v0, v1, v2, v3].getD p 0 = v := ⟨_, rfl⟩
            have HVk : Hid ([v0, v1, v2, v3].getD p 0 = v) := hv
            rw [hv] at q1 b1 hmem
            have mb := size_bd S U v
            rw [memC_at (by rw [← E1.out]; exact hpn) HSU.out] at hmem
            obtain ⟨s, hs⟩ : ∃ s, size S U v = s := ⟨_, rfl⟩
            rw [hs] at mb hmem
            have HMv : Hid (size S U v = s) := hs
            have HMs : Hid (memC ds p ([v0, v1, v2, v3].getD p 0) = s) := hid (by rw [hv, memC_at (by rw [← E1.out]; exact hpn) HSU.out, hs])
            have JV : Hid (I64 v) := by show I64 v; unfold I64; omega
            have wv : IntKind.i64.wrap v = v := IntWalk.i64_in _ (by omega)
            clear hv hs
            have c0 := (box_two NX3.out.2.1).1
            have hz1 : w.heap.size + 1 < wr.heap.size := heap_lt NX3.out.2.2
            have hpn' : (p : Int) < (n : Int) := by omega
            have hp4' : (p : Int) < 4 := by omega
            have hrm := Int.emod_lt_of_pos m (show 0 < s by omega)
            have hrm0 := Int.emod_nonneg m (show s ≠ 0 by omega)
            have hqd0 : 0 ≤ m / s := Int.ediv_nonneg hm0 (by omega)
            have hqd1 : m / s ≤ m := Int.ediv_le_self _ hm0
            have ht1 : m.tmod s = m % s := Int.tmod_eq_emod_of_nonneg hm0
            have ht2 : m.tdiv s = m / s := Int.tdiv_eq_ediv_of_nonneg hm0
            obtain ⟨rm, hrme⟩ : ∃ r, m % s = r := ⟨_, rfl⟩
            obtain ⟨qd, hqde⟩ : ∃ r, m / s = r := ⟨_, rfl⟩
            rw [hrme] at hrm hrm0 ht1
            rw [hqde] at hqd0 hqd1 ht2
            have wr1 : IntKind.u8.wrap rm = rm := IntWalk.u8_in _ (by omega)
            have hs0 : (s == 0) = false := by simp; omega
            have KS : Hid (∀ x', Below wr.heap.size wr x' → Below wr.heap.size wr x' ∧ x'.cell? ⟨w.heap.size, 0, none⟩ = some (.slice (some ⟨b, off, none⟩) n c) ∧ x'.cell? ⟨b, off + p * 2, none⟩ = some (.slice sa sl sc) ∧ x'.cell? ⟨b, off + p * 2 + 1, none⟩ = some (.slice ua ul uc) ∧ x'.cell? ⟨w.heap.size + 1, p, none⟩ = some (.int .u8 v)) :=
              hid fun x' hB => ⟨hB, ((bcell hB).1 _ _ (by omega)).trans c0, ((bcell hB).1 _ _ hbw).trans d1, ((bcell hB).1 _ _ hbw).trans d2, ((bcell hB).1 _ _ (by omega)).trans q1⟩
            go_wp2
            go_region_held3 (fun x' => Below wr.heap.size wr x' ∧ x'.cell? ⟨w.heap.size, 0, none⟩ = some (.slice (some ⟨b, off, none⟩) n c) ∧ x'.cell? ⟨b, off + p * 2, none⟩ = some (.slice sa sl sc) ∧ x'.cell? ⟨b, off + p * 2 + 1, none⟩ = some (.slice ua ul uc) ∧ x'.cell? ⟨w.heap.size + 1, p, none⟩ = some (.int .u8 v))
              (first | assumption | exact keep_drew KS | exact keep_step (by assumption) (by assumption) KS)
              (first
                | (go_at_call 54; refine (rsize_m _ _ _ _ _ _ S U _ s _ (HDm.out.below (And.left (by assumption))) JV.out HMv).mono ?_; rintro e w5 ⟨rfl, hb5⟩))
            have HB5 := hid (keep_blk HB.out (undrew hb5))
            have BL5 := hid (bt BL.out (undrew hb5))
            obtain ⟨qv, f1⟩ := cell_in4 HB5.out (k := p) hp4
            have f2 := frozen_of_row w5 W0.heap.size p _ _ HB5.out
            have hz5 := heap_lt HB5.out
            clear hb5 KS
            go_wp2
            go_roundg p
            case measure => have := HQ.out.1; omega
            case rel =>
              refine ⟨p, qd, (p : Int) - 1, (put4 x0 x1 x2 x3 rm p).1, (put4 x0 x1 x2 x3 rm p).2.1, (put4 x0 x1 x2 x3 rm p).2.2.1, (put4 x0 x1 x2 x3 rm p).2.2.2, rfl, rfl, hid ⟨rfl, by omega, rfl, hqd0, by omega, px_put hp4 HPX.out hrm0 (by rw [HMs.out]; exact hrm)⟩, hid ?_, hid (BL5.out.setCell (Nat.le_refl _) _)⟩
              rw [← put4_cells _ _ _ _ _ hp4]
              exact heap_setCell_same _ _ _ _ _ _ HB5.out
      · have hif : decide ((i : Int) < C) = false := decide_eq_false hi
        go_wp2
        go_ret
        obtain ⟨a5, c5, e5, hr5⟩ := nrow_own PS.out.2
        refine ⟨⟨a5, l.length, c5, l, by show Ending.returned _ = _; rw [← e5]; rfl, hr5, ?_, HI.out.2.2⟩, bt NX1.out.1 PS.out.1⟩
        have := HI.out
        unfold many; rw [if_pos (by omega)]
        omega

end Go.Proofs.Ytmlnfpefemchhaa

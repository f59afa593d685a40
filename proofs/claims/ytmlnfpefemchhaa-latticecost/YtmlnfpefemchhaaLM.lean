/-
  What the document's own All returns.
  Conditions: as each theorem states them.
-/
import Derived.Test.YtmlnfpefemchhaaLK
import Derived.Test.YtmlnfpefemchhaaLL
namespace Go.Proofs.Ytmlnfpefemchhaa
open Go.ChangeShapes Go.WideShapes Go.ChangeAt Go.RowKit
set_option linter.unusedVariables false
set_option linter.unusedSimpArgs false

theorem NRow.get {w wr : World} {a : Option Addr} {n c : Nat} {l : List Nd} (h : NRow w a n c l) (bel : Below w.heap.size w wr) {k : Nat} (hk : k < n) :
    ∃ b off, a = some ⟨b, off, none⟩ ∧ b < w.heap.size ∧ ∃ x0 x1 x2 x3, l[k]? = some (x0, x1, x2, x3) ∧ wr.cell? ⟨b, off + k * 4, none⟩ = some (.int .u8 x0) ∧ wr.cell? ⟨b, off + k * 4 + 1, none⟩ = some (.int .u8 x1) ∧ wr.cell? ⟨b, off + k * 4 + 2, none⟩ = some (.int .u8 x2) ∧ wr.cell? ⟨b, off + k * 4 + 3, none⟩ = some (.int .u8 x3) := by
  have hl := h.1
  obtain ⟨x0, x1, x2, x3⟩ : Nd := l[k]'(by omega)
  have e : l[k]? = some (l[k]'(by omega)) := List.getElem?_eq_getElem (by omega)
  obtain ⟨⟨y0, y1, y2, y3⟩, hy⟩ : ∃ v : Nd, l[k]? = some v := ⟨_, e⟩
  obtain ⟨b, off, ea, hb, c0, c1, c2, c3⟩ := h.at hy
  exact ⟨b, off, ea, hb, y0, y1, y2, y3, hy, ((bcell bel).1 _ _ hb).trans c0, ((bcell bel).1 _ _ hb).trans c1, ((bcell bel).1 _ _ hb).trans c2, ((bcell bel).1 _ _ hb).trans c3⟩
def tN (ds : Dims) (i : Nat) : Nat := (whl ds i).toNat
theorem tN_at {ds : Dims} {k : Nat} {S : List Int} {U : List (List Int)} (hk : k < ds.length) (h : ds.getD k ([], []) = (S, U)) : tN ds k = S.length := by unfold tN; rw [whl_at hk h]; simp
theorem tN_bd {ds : Dims} {M : Int} (h : goodC ds M = true) (i : Nat) : tN ds i ≤ 4 := by unfold tN; have := whl_bd h i; omega
theorem tN_tp {ds : Dims} {M : Int} (h : goodC ds M = true) (i : Nat) : tp ds M i = tN ds i := by unfold tN; rw [tp_good h]; have := whl_bd h i; omega
/-- All nodes of a catalog; none of one that may not be. -/
def allL (ds : Dims) (M : Int) : List Nd := if goodC ds M then allN (tN ds 0) (tN ds 1) (tN ds 2) (tN ds 3) else []
theorem ext_all {ds : Dims} {M : Int} (h : goodC ds M = true) : extN (tN ds) ds.length = allL ds M := by
  unfold allL
  rw [if_pos h]
  have g := goodC_p h
  exact extN_beyond (tN ds) ds.length g.2.1 g.1 (fun i hi => by unfold tN; rw [whl_out hi]; rfl)
theorem ext_len {ds : Dims} {M : Int} (h : goodC ds M = true) {i : Nat} (hi : i ≤ 4) : (extN (tN ds) i).length ≤ 625 := by
  refine Nat.le_trans (extN_len (tN ds) (fun i => tN_bd h i) i) ?_
  have : i = 0 ∨ i = 1 ∨ i = 2 ∨ i = 3 ∨ i = 4 := by omega
  rcases this with rfl | rfl | rfl | rfl | rfl <;> decide
theorem nrow_new (w : World) (x0 x1 x2 x3 : Int) (e : TypeId) : NRow (w.alloc (.cells #[.int .u8 x0, .int .u8 x1, .int .u8 x2, .int .u8 x3] e)) (some ⟨w.heap.size, 0, none⟩) 1 1 [(x0, x1, x2, x3)] := by
  refine ⟨rfl, Nat.le_refl _, by decide, (fun h => by cases h), fun _ => ⟨w.heap.size, 0, rfl, by simp, fun j y0 y1 y2 y3 hj => ?_⟩⟩
  have : j = 0 := by
    by_cases h0 : j = 0
    · exact h0
    · rw [List.getElem?_eq_none (by simp; omega)] at hj; cases hj
  subst this
  simp at hj
  obtain ⟨rfl, rfl, rfl, rfl⟩ := hj
  exact ⟨by simp, by simp, by simp, by simp⟩
theorem cov_row {W wr : World} {v : Value} {l : List Nd} (h : CovSt W wr v l) : ∃ a n c, v = .slice a n c ∧ NRow wr a n c l := by
  obtain ⟨a, c, e, hr⟩ := nrow_own h.2
  exact ⟨a, _, c, e, hr⟩

set_option maxHeartbeats 16000000 in
set_option maxRecDepth 20000 in
theorem rall_any (a : Option Addr) (n c : Nat) (ds : Dims) (M : Int) (w : World) (hc : Cat w a n c ds) (hM : I64 M) :
    Calls Try.prog 33 #[.agg #[.slice a n c, .int .i64 M]] w fun e w' => (∃ a' n' c', e = .returned (.slice a' n' c') ∧ NRow w' a' n' c' (allL ds M)) ∧ Below w.heap.size w w' := by
  obtain ⟨e1, e2⟩ := hc.lens
  have E1 : Hid (n = ds.length) := e1
  have HC : Hid (Cat w a n c ds) := hc
  have HM : Hid (I64 M) := hM
  have BX : Hid (Bx w (w.alloc (.cells #[.slice a n c, .int .i64 M] 25)) (.slice a n c) (.int .i64 M)) := bx_new _ _ _ _
  clear e1 hc hM
  cases hg : goodC ds M with
  | false =>
    have HG : Hid (goodC ds M = false) := hg
    go_enter Try.func33, Try.ntmps33
    go_wp2_with (go_at_call 37; refine (rgoodC_any _ _ _ _ _ _ (HC.out.below BX.out.2.1) HM.out).mono ?_; rintro e w1 ⟨rfl, hb⟩)
    go_ret
    refine ⟨⟨_, _, _, rfl, ?_⟩, bt BX.out.2.1 hb⟩
    unfold allL; rw [HG.out]; exact nrow_nil _
  | true =>
    have HG : Hid (goodC ds M = true) := hg
    have hgp := goodC_p hg
    rw [← E1.out] at hgp
    obtain ⟨n1, n4, _, _, _⟩ := hgp
    go_enter Try.func33, Try.ntmps33
    go_wp2_with (go_at_call 37; refine (rgoodC_any _ _ _ _ _ _ (HC.out.below BX.out.2.1) HM.out).mono ?_; rintro e w1 ⟨rfl, hb⟩; have BX1 := hid (BX.out.step hb))
    have NR0 : Hid (NRow (w1.alloc (.cells #[.int .u8 0, .int .u8 0, .int .u8 0, .int .u8 0] 36)) (some ⟨w1.heap.size, 0, none⟩) 1 1 (extN (tN ds) 0)) := nrow_new _ _ _ _ _ _
    have BX2 : Hid (Bx w (w1.alloc (.cells #[.int .u8 0, .int .u8 0, .int .u8 0, .int .u8 0] 36)) (.slice a n c) (.int .i64 M)) := hid (BX1.out.step ((Below.refl _ _).alloc (Nat.le_refl _) _))
    clear hb BX BX1
    go_loopg [3, 4] 4 (fun gk vo vi wr => ∃ (i : Nat) (j : Int) (a' : Option Addr) (n' c' : Nat), vo = .slice a' n' c' ∧ vi = .int .i64 j ∧ Hid (j = i ∧ gk + i = 4 ∧ i ≤ n) ∧ Hid (Bx w wr (.slice a n c) (.int .i64 M)) ∧ Hid (NRow wr a' n' c' (extN (tN ds) i)))
    case atStart => exact ⟨0, 0, _, _, _, rfl, rfl, hid (by omega), BX2, NR0⟩
    case round =>
      obtain ⟨i, j, a', n', c', rfl, rfl, HI, BW, NR⟩ := hrel
      rename World => W0
      obtain ⟨_, _, c0, c1⟩ := BW.out
      by_cases hlt : i < n
      · have hj : j < (n : Int) := by have := HI.out; omega
        have hj0 : 0 ≤ j := by have := HI.out; omega
        have ln := (NR.out.lens).2
        have ln2 : n' ≤ 625 := by have := ext_len HG.out (i := i) (by omega); have := (NR.out.lens).1; omega
        have hi4 : i = 0 ∨ i = 1 ∨ i = 2 ∨ i = 3 := by omega
        have ht4 : Hid (∀ i, tN ds i ≤ 4) := hid fun i => tN_bd HG.out i
        have hext : Hid ((extN (tN ds) i).length ≤ 625) := hid (ext_len HG.out (by omega))
        rcases hi4 with rfl | rfl | rfl | rfl
        · obtain rfl : j = 0 := by have := HI.out; omega
          have CS0 : Hid (CovSt W0 W0 (.slice none 0 0) (((extN (tN ds) 0).take 0).flatMap (fanN 0 (tN ds 0)))) := hid ⟨Below.refl _ _, World.ownsRow_nil _ _ _ _⟩
          go_wp2
          go_loopg [5, 6] n' (fun g2 vn vk wr => ∃ k : Nat, vk = .int .i64 k ∧ Hid (g2 + k = n') ∧ Hid (CovSt W0 wr vn (((extN (tN ds) 0).take k).flatMap (fanN 0 (tN ds 0)))))
          case atStart => exact ⟨0, rfl, hid (by omega), CS0⟩
          case round =>
            obtain ⟨k, rfl, HK, CS⟩ := hrel
            rename World => W1
            by_cases hk : k < n'
            · have hkn : (k : Int) < (n' : Int) := by omega
              obtain ⟨b, off, ea, hb0, x0, x1, x2, x3, hx, _, _, _, _⟩ := NR.out.get CS.out.1 hk
              have HX := hid hx
              clear hx
              have CP0 := CS.out
              rw [← partN_0 _ _ _ _ (x0, x1, x2, x3)] at CP0
              have CP0 := hid CP0
              go_wp2
              go_loopg [5, 7] (tN ds 0 + 1) (fun g3 vn vm wr => ∃ m : Nat, vm = .int .i64 m ∧ Hid (g3 + m = tN ds 0 + 1) ∧ Hid (CovSt W0 wr vn (partN (extN (tN ds) 0) 0 (tN ds 0) k m (x0, x1, x2, x3))))
              case atStart => exact ⟨0, rfl, hid (by omega), CP0⟩
              case round =>
                obtain ⟨m, rfl, HMm, CP⟩ := hrel
                obtain ⟨hz0, bw, c0', c1'⟩ := BW.out.step CP.out.1
                obtain ⟨b2, off2, ea2, hb2, sa, sl, sc, ua, ul, uc, S, U, d1, d2, HDm, HSU⟩ := HC.out.get bw (k := 0) hlt
                have htn := tN_at (by rw [← E1.out]; exact hlt) HSU.out
                rw [← (HDm.out.lens).1] at htn
                have HTN := hid htn
                clear htn
                simp at d1 d2
                subst ea2
                have hbw2 : b2 < wr.heap.size := Nat.lt_of_lt_of_le hb2 bw.size
                obtain ⟨b', off', ea', hb0', y0, y1, y2, y3, hy, q0, q1, q2, q3⟩ := NR.out.get CP.out.1 hk
                rw [HX.out] at hy
                simp only [Option.some.injEq, Prod.mk.injEq] at hy
                obtain ⟨rfl, rfl, rfl, rfl⟩ := hy
                rw [ea] at ea'
                simp only [Option.some.injEq, Addr.mk.injEq, and_true] at ea'
                obtain ⟨rfl, rfl⟩ := ea'
                subst ea
                have hbw0 : b < wr.heap.size := Nat.lt_of_lt_of_le hb0 CP.out.1.size
                have hsl4 : sl ≤ 4 := by have := ht4.out 0; have := HTN.out; omega
                have plen : Hid ((partN (extN (tN ds) 0) 0 (tN ds 0) k m (x0, x1, x2, x3)).length ≤ 4000) := hid (partN_len _ _ _ _ _ _ (ht4.out 0) hext.out (by have := HMm.out; have := ht4.out 0; omega))
                by_cases hm : m ≤ sl
                · have hml : (m : Int) ≤ (sl : Int) := by omega
                  have wm : IntKind.u8.wrap (m : Int) = m := IntWalk.u8_in _ (by omega)
                  go_wp2_with (at_builtin; refine append_four Try.underlying42 info_node (by decide) (by decide) rfl (.tmp 46) (.tmp 48) rfl W0.heap.size _ _ (m : Int) x1 x2 x3 _ (wr.heap.size + 1) (by simp) rfl (World.ownsRow.alloc CP.out.2 _) rfl (by have := plen.out; omega) (by have := CP.out.1.size; simp; omega) ?_; rintro v5 w5 ho5 ⟨g, cap, rfl, hgc⟩ hgr5; have HO5 := hid ho5; have HG5 := hid hgr5; clear ho5 hgr5)
                  go_roundg (tN ds 0 - m)
                  case measure => have := HMm.out; have := HTN.out; omega
                  case rel =>
                    refine ⟨m + 1, by go_num, hid (by have := HMm.out; have := HTN.out; omega), hid ?_⟩
                    rw [partN_succ]
                    exact cov_step CP.out HO5.out HG5.out
                · have hml : decide ((m : Int) ≤ (sl : Int)) = false := decide_eq_false (by omega)
                  go_wp2
                  go_roundg (n' - (k + 1))
                  case measure => have := HK.out; omega
                  case rel =>
                    refine ⟨k + 1, by go_num, hid (by have := HK.out; omega), hid ?_⟩
                    have em : m = tN ds 0 + 1 := by have := HMm.out; have := HTN.out; omega
                    have := CP.out
                    rw [em, partN_all _ _ _ _ _ HX.out] at this
                    exact this
            · have hkf : decide ((k : Int) < (n' : Int)) = false := decide_eq_false (by omega)
              go_wp2
              obtain ⟨a5, n5, c5, hv5, NR5⟩ := cov_row CS.out
              go_roundg (3)
              case measure => have := HI.out; omega
              case rel =>
                refine ⟨0 + 1, 0 + 1, a5, n5, c5, hv5, rfl, hid (by have := HI.out; omega), hid (BW.out.step CS.out.1), hid ?_⟩
                have ek : k = n' := by have := HK.out; omega
                rw [ek, (NR.out.lens).1, List.take_length] at NR5
                exact NR5
        · obtain rfl : j = 1 := by have := HI.out; omega
          have CS0 : Hid (CovSt W0 W0 (.slice none 0 0) (((extN (tN ds) 1).take 0).flatMap (fanN 1 (tN ds 1)))) := hid ⟨Below.refl _ _, World.ownsRow_nil _ _ _ _⟩
          go_wp2
          go_loopg [5, 6] n' (fun g2 vn vk wr => ∃ k : Nat, vk = .int .i64 k ∧ Hid (g2 + k = n') ∧ Hid (CovSt W0 wr vn (((extN (tN ds) 1).take k).flatMap (fanN 1 (tN ds 1)))))
          case atStart => exact ⟨0, rfl, hid (by omega), CS0⟩
          case round =>
            obtain ⟨k, rfl, HK, CS⟩ := hrel
            rename World => W1
            by_cases hk : k < n'
            · have hkn : (k : Int) < (n' : Int) := by omega
              obtain ⟨b, off, ea, hb0, x0, x1, x2, x3, hx, _, _, _, _⟩ := NR.out.get CS.out.1 hk
              have HX := hid hx
              clear hx
              have CP0 := CS.out
              rw [← partN_0 _ _ _ _ (x0, x1, x2, x3)] at CP0
              have CP0 := hid CP0
              go_wp2
              go_loopg [5, 7] (tN ds 1 + 1) (fun g3 vn vm wr => ∃ m : Nat, vm = .int .i64 m ∧ Hid (g3 + m = tN ds 1 + 1) ∧ Hid (CovSt W0 wr vn (partN (extN (tN ds) 1) 1 (tN ds 1) k m (x0, x1, x2, x3))))
              case atStart => exact ⟨0, rfl, hid (by omega), CP0⟩
              case round =>
                obtain ⟨m, rfl, HMm, CP⟩ := hrel
                obtain ⟨hz0, bw, c0', c1'⟩ := BW.out.step CP.out.1
                obtain ⟨b2, off2, ea2, hb2, sa, sl, sc, ua, ul, uc, S, U, d1, d2, HDm, HSU⟩ := HC.out.get bw (k := 1) hlt
                have htn := tN_at (by rw [← E1.out]; exact hlt) HSU.out
                rw [← (HDm.out.lens).1] at htn
                have HTN := hid htn
                clear htn
                simp at d1 d2
                subst ea2
                have hbw2 : b2 < wr.heap.size := Nat.lt_of_lt_of_le hb2 bw.size
                obtain ⟨b', off', ea', hb0', y0, y1, y2, y3, hy, q0, q1, q2, q3⟩ := NR.out.get CP.out.1 hk
                rw [HX.out] at hy
                simp only [Option.some.injEq, Prod.mk.injEq] at hy
                obtain ⟨rfl, rfl, rfl, rfl⟩ := hy
                rw [ea] at ea'
                simp only [Option.some.injEq, Addr.mk.injEq, and_true] at ea'
                obtain ⟨rfl, rfl⟩ := ea'
                subst ea
                have hbw0 : b < wr.heap.size := Nat.lt_of_lt_of_le hb0 CP.out.1.size
                have hsl4 : sl ≤ 4 := by have := ht4.out 1; have := HTN.out; omega
                have plen : Hid ((partN (extN (tN ds) 1) 1 (tN ds 1) k m (x0, x1, x2, x3)).length ≤ 4000) := hid (partN_len _ _ _ _ _ _ (ht4.out 1) hext.out (by have := HMm.out; have := ht4.out 1; omega))
                by_cases hm : m ≤ sl
                · have hml : (m : Int) ≤ (sl : Int) := by omega
                  have wm : IntKind.u8.wrap (m : Int) = m := IntWalk.u8_in _ (by omega)
                  go_wp2_with (at_builtin; refine append_four Try.underlying42 info_node (by decide) (by decide) rfl (.tmp 46) (.tmp 48) rfl W0.heap.size _ _ x0 (m : Int) x2 x3 _ (wr.heap.size + 1) (by simp) rfl (World.ownsRow.alloc CP.out.2 _) rfl (by have := plen.out; omega) (by have := CP.out.1.size; simp; omega) ?_; rintro v5 w5 ho5 ⟨g, cap, rfl, hgc⟩ hgr5; have HO5 := hid ho5; have HG5 := hid hgr5; clear ho5 hgr5)
                  go_roundg (tN ds 1 - m)
                  case measure => have := HMm.out; have := HTN.out; omega
                  case rel =>
                    refine ⟨m + 1, by go_num, hid (by have := HMm.out; have := HTN.out; omega), hid ?_⟩
                    rw [partN_succ]
                    exact cov_step CP.out HO5.out HG5.out
                · have hml : decide ((m : Int) ≤ (sl : Int)) = false := decide_eq_false (by omega)
                  go_wp2
                  go_roundg (n' - (k + 1))
                  case measure => have := HK.out; omega
                  case rel =>
                    refine ⟨k + 1, by go_num, hid (by have := HK.out; omega), hid ?_⟩
                    have em : m = tN ds 1 + 1 := by have := HMm.out; have := HTN.out; omega
                    have := CP.out
                    rw [em, partN_all _ _ _ _ _ HX.out] at this
                    exact this
            · have hkf : decide ((k : Int) < (n' : Int)) = false := decide_eq_false (by omega)
              go_wp2
              obtain ⟨a5, n5, c5, hv5, NR5⟩ := cov_row CS.out
              go_roundg (2)
              case measure => have := HI.out; omega
              case rel =>
                refine ⟨1 + 1, 1 + 1, a5, n5, c5, hv5, rfl, hid (by have := HI.out; omega), hid (BW.out.step CS.out.1), hid ?_⟩
                have ek : k = n' := by have := HK.out; omega
                rw [ek, (NR.out.lens).1, List.take_length] at NR5
                exact NR5
        · obtain rfl : j = 2 := by have := HI.out; omega
          have CS0 : Hid (CovSt W0 W0 (.slice none 0 0) (((extN (tN ds) 2).take 0).flatMap (fanN 2 (tN ds 2)))) := hid ⟨Below.refl _ _, World.ownsRow_nil _ _ _ _⟩
          go_wp2
          go_loopg [5, 6] n' (fun g2 vn vk wr => ∃ k : Nat, vk = .int .i64 k ∧ Hid (g2 + k = n') ∧ Hid (CovSt W0 wr vn (((extN (tN ds) 2).take k).flatMap (fanN 2 (tN ds 2)))))
          case atStart => exact ⟨0, rfl, hid (by omega), CS0⟩
          case round =>
            obtain ⟨k, rfl, HK, CS⟩ := hrel
            rename World => W1
            by_cases hk : k < n'
            · have hkn : (k : Int) < (n' : Int) := by omega
              obtain ⟨b, off, ea, hb0, x0, x1, x2, x3, hx, _, _, _, _⟩ := NR.out.get CS.out.1 hk
              have HX := hid hx
              clear hx
              have CP0 := CS.out
              rw [← partN_0 _ _ _ _ (x0, x1, x2, x3)] at CP0
              have CP0 := hid CP0
              go_wp2
              go_loopg [5, 7] (tN ds 2 + 1) (fun g3 vn vm wr => ∃ m : Nat, vm = .int .i64 m ∧ Hid (g3 + m = tN ds 2 + 1) ∧ Hid (CovSt W0 wr vn (partN (extN (tN ds) 2) 2 (tN ds 2) k m (x0, x1, x2, x3))))
              case atStart => exact ⟨0, rfl, hid (by omega), CP0⟩
              case round =>
                obtain ⟨m, rfl, HMm, CP⟩ := hrel
                obtain ⟨hz0, bw, c0', c1'⟩ := BW.out.step CP.out.1
                obtain ⟨b2, off2, ea2, hb2, sa, sl, sc, ua, ul, uc, S, U, d1, d2, HDm, HSU⟩ := HC.out.get bw (k := 2) hlt
                have htn := tN_at (by rw [← E1.out]; exact hlt) HSU.out
                rw [← (HDm.out.lens).1] at htn
                have HTN := hid htn
                clear htn
                simp at d1 d2
                subst ea2
                have hbw2 : b2 < wr.heap.size := Nat.lt_of_lt_of_le hb2 bw.size
                obtain ⟨b', off', ea', hb0', y0, y1, y2, y3, hy, q0, q1, q2, q3⟩ := NR.out.get CP.out.1 hk
                rw [HX.out] at hy
                simp only [Option.some.injEq, Prod.mk.injEq] at hy
                obtain ⟨rfl, rfl, rfl, rfl⟩ := hy
                rw [ea] at ea'
                simp only [Option.some.injEq, Addr.mk.injEq, and_true] at ea'
                obtain ⟨rfl, rfl⟩ := ea'
                subst ea
                have hbw0 : b < wr.heap.size := Nat.lt_of_lt_of_le hb0 CP.out.1.size
                have hsl4 : sl ≤ 4 := by have := ht4.out 2; have := HTN.out; omega
                have plen : Hid ((partN (extN (tN ds) 2) 2 (tN ds 2) k m (x0, x1, x2, x3)).length ≤ 4000) := hid (partN_len _ _ _ _ _ _ (ht4.out 2) hext.out (by have := HMm.out; have := ht4.out 2; omega))
                by_cases hm : m ≤ sl
                · have hml : (m : Int) ≤ (sl : Int) := by omega
                  have wm : IntKind.u8.wrap (m : Int) = m := IntWalk.u8_in _ (by omega)
                  go_wp2_with (at_builtin; refine append_four Try.underlying42 info_node (by decide) (by decide) rfl (.tmp 46) (.tmp 48) rfl W0.heap.size _ _ x0 x1 (m : Int) x3 _ (wr.heap.size + 1) (by simp) rfl (World.ownsRow.alloc CP.out.2 _) rfl (by have := plen.out; omega) (by have := CP.out.1.size; simp; omega) ?_; rintro v5 w5 ho5 ⟨g, cap, rfl, hgc⟩ hgr5; have HO5 := hid ho5; have HG5 := hid hgr5; clear ho5 hgr5)
                  go_roundg (tN ds 2 - m)
                  case measure => have := HMm.out; have := HTN.out; omega
                  case rel =>
                    refine ⟨m + 1, by go_num, hid (by have := HMm.out; have := HTN.out; omega), hid ?_⟩
                    rw [partN_succ]
                    exact cov_step CP.out HO5.out HG5.out
                · have hml : decide ((m : Int) ≤ (sl : Int)) = false := decide_eq_false (by omega)
                  go_wp2
                  go_roundg (n' - (k + 1))
                  case measure => have := HK.out; omega
                  case rel =>
                    refine ⟨k + 1, by go_num, hid (by have := HK.out; omega), hid ?_⟩
                    have em : m = tN ds 2 + 1 := by have := HMm.out; have := HTN.out; omega
                    have := CP.out
                    rw [em, partN_all _ _ _ _ _ HX.out] at this
                    exact this
            · have hkf : decide ((k : Int) < (n' : Int)) = false := decide_eq_false (by omega)
              go_wp2
              obtain ⟨a5, n5, c5, hv5, NR5⟩ := cov_row CS.out
              go_roundg (1)
              case measure => have := HI.out; omega
              case rel =>
                refine ⟨2 + 1, 2 + 1, a5, n5, c5, hv5, rfl, hid (by have := HI.out; omega), hid (BW.out.step CS.out.1), hid ?_⟩
                have ek : k = n' := by have := HK.out; omega
                rw [ek, (NR.out.lens).1, List.take_length] at NR5
                exact NR5
        · obtain rfl : j = 3 := by have := HI.out; omega
          have CS0 : Hid (CovSt W0 W0 (.slice none 0 0) (((extN (tN ds) 3).take 0).flatMap (fanN 3 (tN ds 3)))) := hid ⟨Below.refl _ _, World.ownsRow_nil _ _ _ _⟩
          go_wp2
          go_loopg [5, 6] n' (fun g2 vn vk wr => ∃ k : Nat, vk = .int .i64 k ∧ Hid (g2 + k = n') ∧ Hid (CovSt W0 wr vn (((extN (tN ds) 3).take k).flatMap (fanN 3 (tN ds 3)))))
          case atStart => exact ⟨0, rfl, hid (by omega), CS0⟩
          case round =>
            obtain ⟨k, rfl, HK, CS⟩ := hrel
            rename World => W1
            by_cases hk : k < n'
            · have hkn : (k : Int) < (n' : Int) := by omega
              obtain ⟨b, off, ea, hb0, x0, x1, x2, x3, hx, _, _, _, _⟩ := NR.out.get CS.out.1 hk
              have HX := hid hx
              clear hx
              have CP0 := CS.out
              rw [← partN_0 _ _ _ _ (x0, x1, x2, x3)] at CP0
              have CP0 := hid CP0
              go_wp2
              go_loopg [5, 7] (tN ds 3 + 1) (fun g3 vn vm wr => ∃ m : Nat, vm = .int .i64 m ∧ Hid (g3 + m = tN ds 3 + 1) ∧ Hid (CovSt W0 wr vn (partN (extN (tN ds) 3) 3 (tN ds 3) k m (x0, x1, x2, x3))))
              case atStart => exact ⟨0, rfl, hid (by omega), CP0⟩
              case round =>
                obtain ⟨m, rfl, HMm, CP⟩ := hrel
                obtain ⟨hz0, bw, c0', c1'⟩ := BW.out.step CP.out.1
                obtain ⟨b2, off2, ea2, hb2, sa, sl, sc, ua, ul, uc, S, U, d1, d2, HDm, HSU⟩ := HC.out.get bw (k := 3) hlt
                have htn := tN_at (by rw [← E1.out]; exact hlt) HSU.out
                rw [← (HDm.out.lens).1] at htn
                have HTN := hid htn
                clear htn
                simp at d1 d2
                subst ea2
                have hbw2 : b2 < wr.heap.size := Nat.lt_of_lt_of_le hb2 bw.size
                obtain ⟨b', off', ea', hb0', y0, y1, y2, y3, hy, q0, q1, q2, q3⟩ := NR.out.get CP.out.1 hk
                rw [HX.out] at hy
                simp only [Option.some.injEq, Prod.mk.injEq] at hy
                obtain ⟨rfl, rfl, rfl, rfl⟩ := hy
                rw [ea] at ea'
                simp only [Option.some.injEq, Addr.mk.injEq, and_true] at ea'
                obtain ⟨rfl, rfl⟩ := ea'
                subst ea
                have hbw0 : b < wr.heap.size := Nat.lt_of_lt_of_le hb0 CP.out.1.size
                have hsl4 : sl ≤ 4 := by have := ht4.out 3; have := HTN.out; omega
                have plen : Hid ((partN (extN (tN ds) 3) 3 (tN ds 3) k m (x0, x1, x2, x3)).length ≤ 4000) := hid (partN_len _ _ _ _ _ _ (ht4.out 3) hext.out (by have := HMm.out; have := ht4.out 3; omega))
                by_cases hm : m ≤ sl
                · have hml : (m : Int) ≤ (sl : Int) := by omega
                  have wm : IntKind.u8.wrap (m : Int) = m := IntWalk.u8_in _ (by omega)
                  go_wp2_with (at_builtin; refine append_four Try.underlying42 info_node (by decide) (by decide) rfl (.tmp 46) (.tmp 48) rfl W0.heap.size _ _ x0 x1 x2 (m : Int) _ (wr.heap.size + 1) (by simp) rfl (World.ownsRow.alloc CP.out.2 _) rfl (by have := plen.out; omega) (by have := CP.out.1.size; simp; omega) ?_; rintro v5 w5 ho5 ⟨g, cap, rfl, hgc⟩ hgr5; have HO5 := hid ho5; have HG5 := hid hgr5; clear ho5 hgr5)
                  go_roundg (tN ds 3 - m)
                  case measure => have := HMm.out; have := HTN.out; omega
                  case rel =>
                    refine ⟨m + 1, by go_num, hid (by have := HMm.out; have := HTN.out; omega), hid ?_⟩
                    rw [partN_succ]
                    exact cov_step CP.out HO5.out HG5.out
                · have hml : decide ((m : Int) ≤ (sl : Int)) = false := decide_eq_false (by omega)
                  go_wp2
                  go_roundg (n' - (k + 1))
                  case measure => have := HK.out; omega
                  case rel =>
                    refine ⟨k + 1, by go_num, hid (by have := HK.out; omega), hid ?_⟩
                    have em : m = tN ds 3 + 1 := by have := HMm.out; have := HTN.out; omega
                    have := CP.out
                    rw [em, partN_all _ _ _ _ _ HX.out] at this
                    exact this
            · have hkf : decide ((k : Int) < (n' : Int)) = false := decide_eq_false (by omega)
              go_wp2
              obtain ⟨a5, n5, c5, hv5, NR5⟩ := cov_row CS.out
              go_roundg (0)
              case measure => have := HI.out; omega
              case rel =>
                refine ⟨3 + 1, 3 + 1, a5, n5, c5, hv5, rfl, hid (by have := HI.out; omega), hid (BW.out.step CS.out.1), hid ?_⟩
                have ek : k = n' := by have := HK.out; omega
                rw [ek, (NR.out.lens).1, List.take_length] at NR5
                exact NR5
      · obtain rfl : i = n := by have := HI.out; omega
        obtain rfl : j = i := HI.out.1
        go_wp2
        go_ret
        refine ⟨⟨_, _, _, rfl, ?_⟩, BW.out.2.1⟩
        rw [← ext_all HG.out, ← E1.out]; exact NR.out

end Go.Proofs.Ytmlnfpefemchhaa

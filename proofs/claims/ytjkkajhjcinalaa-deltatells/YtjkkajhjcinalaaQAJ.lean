/-
  -
  -
  -
  -
  -
  Conditions: as each theorem states them.
-/
import Derived.Deep.Slices
import Derived.Laws.ResultCell
import Derived.Test.YtjkkajhjcinalaaQAC
import Derived.Test.YtjkkajhjcinalaaQAD
import Derived.Test.YtjkkajhjcinalaaQAE
import Derived.Test.YtjkkajhjcinalaaQAF
namespace Go.Proofs.Ytjkkajhjcinalaa
open Go.ChangeShapes Go.WideShapes Go.ChangeAt Go.RowKit
set_option linter.unusedVariables false
set_option linter.unusedSimpArgs false
set_option maxRecDepth 100000

set_option maxHeartbeats 16000000 in
theorem minus_own (a1 a2 : Option Addr) (n c m d : Nat) (l u : List Rn) (w : World) (hl : NRun w a1 n c l) (hu : NRun w a2 m d u) (hk : ∀ r ∈ l, nok r) (hk' : ∀ r ∈ u, nok r) (hn : n ≤ 1000) (hm : m ≤ 1000) :
    Calls Try.prog 91 #[.slice a1 n c, .slice a2 m d] w fun e w' => (∃ A cap, e = .returned (.tuple #[.slice A (Ml l u).length cap, .bool (Mn l u)]) ∧ NRun w' A (Ml l u).length cap (Ml l u) ∧ Far w A) ∧ Below w.heap.size w w' := by
  have HL := hid hl
  have HU := hid hu
  have HK := hid hk
  have HK' := hid hk'
  obtain ⟨l1, l2⟩ := hl.lens
  obtain ⟨u1, u2⟩ := hu.lens
  have EL := hid l1
  have EU := hid u1
  have KN : Hid (Mn l u = false → ∀ W, NRun W none 0 0 (Ml l u) ∧ (Ml l u).length = 0) := hid (fun h W => by rw [ml_no h]; exact ⟨nrun_nil W, rfl⟩)
  clear hl hu hk hk' l1 u1
  have t1 : True := trivial
  cases hg : gd l with
  | false =>
    have HG := hid hg
    have HJ := hid (mn_no1 (b := u) hg)
    clear hg
    go_enter Try.func91, Try.ntmps91
    go_wp2_with (first
      | (go_at_call 100; refine (good_m a1 n c l false _ HL.out HK.out HG).mono ?_; rintro e w1 ⟨rfl, hb1⟩; have B1 := hid hb1; clear hb1))
    go_ret2
    rw [HJ.out, (KN.out HJ.out w).2]
    exact ⟨⟨none, 0, rfl, (KN.out HJ.out _).1, far_nil _⟩, B1.out⟩
  | true =>
    have HG := hid hg
    have HB := hid (gd_iff.1 hg)
    clear hg
    cases hg' : gd u with
    | false =>
      have HG2 := hid hg'
      have HJ := hid (mn_no2 (a := l) hg')
      clear hg'
      go_enter Try.func91, Try.ntmps91
      go_wp2_with (first
        | (go_at_call 100; clear t1; refine (good_m a1 n c l true _ HL.out HK.out HG).mono ?_; rintro e w1 ⟨rfl, hb1⟩; have B1 := hid hb1; clear hb1)
        | (go_at_call 100; refine (good_m a2 m d u false _ (HU.out.below B1.out) HK'.out HG2).mono ?_; rintro e w2 ⟨rfl, hb2⟩; have B2 := hid (bt B1.out hb2); clear hb2))
      go_ret2
      rw [HJ.out, (KN.out HJ.out w).2]
      exact ⟨⟨none, 0, rfl, (KN.out HJ.out _).1, far_nil _⟩, B2.out⟩
    | true =>
      have HG2 := hid hg'
      have HB' := hid (gd_iff.1 hg')
      clear hg'
      go_enter Try.func91, Try.ntmps91
      go_upto_region 3 with (first
        | (go_at_call 100; clear t1; refine (good_m a1 n c l true _ HL.out HK.out HG).mono ?_; rintro e w1 ⟨rfl, hb1⟩; have B1 := hid hb1; clear hb1)
        | (go_at_call 100; refine (good_m a2 m d u true _ (HU.out.below B1.out) HK'.out HG2).mono ?_; rintro e w2 ⟨rfl, hb2⟩; have B2 := hid (bt B1.out hb2); clear hb2))
      have O2 : Hid (OwnW w w2 (.slice none 0 0) []) := hid ⟨B2.out, own_nil _ _⟩
      clear B1 B2
      go_wp2
      go_loopw [1, 6, 19] (fun sb so i wr => ∃ (k j : Nat) (B : Option Addr) (r s : Nat) (v : Value) (out : List Rn), k ≤ n ∧ j ≤ m ∧ i = .int .i64 k ∧ sb = .slice B r s ∧ v = so ∧ Hid (r = m - j) ∧ Hid (NRun w B r s (u.drop j)) ∧ Hid (MI l u out k j) ∧ Hid (OwnW w wr v out) ∧ Hid (out.length ≤ k)) (fun _ _ i _ => n - (intOf i).toNat)
      case atStart => exact ⟨0, 0, a2, m, d, _, [], by omega, by omega, rfl, rfl, rfl, hid rfl, HU, hid (mi_0 l u), O2, hid (Nat.le_refl _)⟩
      case round =>
        obtain ⟨k, j, B, r, s, v, out, hkn, hjm, rfl, rfl, rfl, ER, HN, MM, OW, HLo⟩ := hrel
        have hk0 : (0 : Int) ≤ (k : Int) := by omega
        have hr1 : r ≤ 1000 := by have := ER.out; omega
        have HLn : Hid (out.length ≤ 1000) := hid (by have := HLo.out; omega)
        by_cases hlt : k < n
        · have hki : (k : Int) < (n : Int) := by omega
          obtain ⟨b, off, x0, x1, rfl, hb, hrr, p0, p1⟩ := HL.out.pick OW.out.1 hlt
          have HR := hid hrr
          have hx1 : 1 ≤ x1 := HB.out.2.1 _ (List.mem_of_getElem? hrr)
          have hx2 : x1 ≤ 1099511627776 := by have h := bag_at HB.out hrr; have h1 := h.2.2.1; have h2 := h.2.2.2.1; simp only at h1; omega
          have BX : Hid (OwnW w (wr.alloc (.cells #[.int .i64 x0, .int .i64 x1] 65)) v out) := hid (OW.out.alloc _)
          have hbw : b < wr.heap.size := Nat.lt_of_lt_of_le hb OW.out.1.size
          clear hrr
          have hneg : decide (x1 < 0) = false := decide_eq_false (by omega)
          have hpos : decide (0 < x1) = true := decide_eq_true (by omega)
          by_cases hr0 : r = 0
          · have HNE : Hid (∀ y, u[j]? = some y → ¬ x0 = y.1) := hid (fun y hy => by have := (List.getElem?_eq_some_iff.1 hy).1; have := ER.out; have := EU.out; omega)
            subst hr0
            go_wp2
            go_quiet (fail)
            have OD : Hid (OwnW w ((wr.alloc (.cells #[.int .i64 x0, .int .i64 x1] 65)).drewN nq) v out ∧ ((wr.alloc (.cells #[.int .i64 x0, .int .i64 x1] 65)).drewN nq).heap[wr.heap.size]? = some (.cells #[.int .i64 x0, .int .i64 x1] 65)) := hid ⟨⟨bdrewN BX.out.1, BX.out.2⟩, heap_alloc_new wr _⟩
            clear p0 p1
            generalize (wr.alloc (.cells #[.int .i64 x0, .int .i64 x1] 65)).drewN nq = W at OD ⊢
            obtain ⟨c0, c1⟩ := box_two OD.out.2
            go_wp2_with (at_builtin; refine append_run rfl (.tmp 51) (.tmp 53) rfl w.heap.size v out _ x0 x1 rfl (OD.out.1.alloc (.cells #[.int .i64 x0, .int .i64 x1] 65)).2 rfl (hnew (by simp)) (by have := HLn.out; omega) (by have := (OD.out.1.alloc (.cells #[.int .i64 x0, .int .i64 x1] 65)).1.size; simp at this ⊢; omega) ?_; intro u1 w1 ho1 hg1; have O1 := hid (OwnW.grown (OD.out.1.alloc (.cells #[.int .i64 x0, .int .i64 x1] 65)) hg1 ho1); clear ho1 hg1)
            go_roundw
            case rel => exact ⟨k + 1, j, B, 0, s, u1, _, by omega, hjm, by go_num, rfl, rfl, ER, HN, hid (mi_keep MM.out HB.out.1 HB.out.2.1 HR.out HNE.out), O1, hid (by rw [List.length_append]; have := HLo.out; simp; omega)⟩
            case measure => simp [intOf]; omega
          · have hrd : decide ((0 : Int) < (r : Int)) = true := decide_eq_true (by omega)
            have hri : (0 : Int) < (r : Int) := by omega
            have hrn : decide (0 < r) = true := decide_eq_true (by omega)
            have hrm : 0 < r := by omega
            obtain ⟨b', off', y0, y1, e2, hb', hqq, q0, q1⟩ := HN.out.pick BX.out.1 (k := 0) (by omega)
            subst e2
            simp only [Nat.zero_mul, Nat.add_zero] at q0 q1
            rw [List.getElem?_drop, Nat.add_zero] at hqq
            have HQ := hid hqq
            have hy1 : 1 ≤ y1 := HB'.out.2.1 _ (List.mem_of_getElem? hqq)
            have hy2 : y1 ≤ 1099511627776 := by have h := bag_at HB'.out hqq; have h1 := h.2.2.1; have h2 := h.2.2.2.1; simp only at h1; omega
            clear hqq
            by_cases he : y0 = x0
            · have he' := he.symm
              subst he'
              obtain ⟨A1, hsl, hr1'⟩ := restN HN.out 1 (by omega)
              have hsl' : ∀ w', (Instr.slice 23 (.slice (some ⟨b', off', none⟩) r s) (some (.int .i64 1)) none none).run Try.prog w' = .ok (.slice A1 (r - 1) (s - 1)) w' := hsl
              rw [List.drop_drop, Nat.add_comm] at hr1'
              have R1 : Hid (NRun w A1 (r - 1) (s - 1) (u.drop (j + 1))) := hid (by rw [Nat.add_comm]; exact hr1')
              clear hsl hr1'
              have ER1 : Hid (r - 1 = m - (j + 1)) := hid (by have := ER.out; omega)
              have hjm' : j + 1 ≤ m := by have := ER.out; omega
              have wsub : IntKind.i64.wrap (x1 - y1) = x1 - y1 := IntWalk.i64_in _ (by omega)
              clear hneg hpos
              go_wp2
              go_quiet (fail)
              have FR : Hid (∀ q, OwnW w ((wr.alloc (.cells #[.int .i64 x0, .int .i64 x1] 65)).drewN q) v out ∧ ((wr.alloc (.cells #[.int .i64 x0, .int .i64 x1] 65)).drewN q).heap[wr.heap.size]? = some (.cells #[.int .i64 x0, .int .i64 x1] 65) ∧ ((wr.alloc (.cells #[.int .i64 x0, .int .i64 x1] 65)).drewN q).cell? ⟨b', off', none⟩ = some (.int .i64 x0) ∧ ((wr.alloc (.cells #[.int .i64 x0, .int .i64 x1] 65)).drewN q).cell? ⟨b', off' + 1, none⟩ = some (.int .i64 y1)) := hid (fun q => ⟨⟨bdrewN BX.out.1, BX.out.2⟩, heap_alloc_new wr _, q0, q1⟩)
              have OD := hid (FR.out nq)
              clear p0 p1 q0 q1 FR
              generalize (wr.alloc (.cells #[.int .i64 x0, .int .i64 x1] 65)).drewN nq = W at OD ⊢
              obtain ⟨c0, c1⟩ := box_two OD.out.2.1
              have q0 := OD.out.2.2.1
              have q1 := OD.out.2.2.2
              have f1 := frozen_of_row W wr.heap.size 1 _ _ OD.out.2.1
              go_wp2
              go_region
              have OD3 : Hid (OwnW w (W.setCell ⟨wr.heap.size, 1, none⟩ (.int .i64 (x1 - y1))).drew v out ∧ (W.setCell ⟨wr.heap.size, 1, none⟩ (.int .i64 (x1 - y1))).drew.heap[wr.heap.size]? = some (.cells #[.int .i64 x0, .int .i64 (x1 - y1)] 65)) := hid ⟨⟨bdrew (OD.out.1.1.setCell OW.out.1.size _), own_other OD.out.1.2 (gdrew1 (set_grown W wr.heap.size 1 _)) (fun g hg e => by have := (OW.out.2.lt g hg).2; omega)⟩, heap_setCell_same W wr.heap.size 1 _ _ _ OD.out.2.1⟩
              clear c0 c1 q0 q1 f1
              generalize (W.setCell ⟨wr.heap.size, 1, none⟩ (.int .i64 (x1 - y1))).drew = W3 at OD3 ⊢
              obtain ⟨c0, c1⟩ := box_two OD3.out.2
              by_cases hlo : x1 < y1
              · have hd1 : decide (x1 - y1 < 0) = true := decide_eq_true (by omega)
                have HJ := hid (mn_no3 (mi_bad HB.out.1 HR.out HQ.out hlo))
                go_wp2
                go_ret2
                rw [HJ.out, (KN.out HJ.out w).2]
                exact ⟨⟨none, 0, rfl, (KN.out HJ.out _).1, far_nil _⟩, OD3.out.1.1⟩
              · have hd1 : decide (x1 - y1 < 0) = false := decide_eq_false (by omega)
                by_cases hz : y1 = x1
                · have hd2 : decide (0 < x1 - y1) = false := decide_eq_false (by omega)
                  have hd3 : decide (y1 < x1) = false := decide_eq_false (by omega)
                  have HZ := hid hz
                  clear hz hlo
                  go_wp2
                  go_roundw
                  case rel => exact ⟨k + 1, j + 1, A1, r - 1, s - 1, v, out, by omega, hjm', by go_num, rfl, rfl, ER1, R1, hid (mi_gone MM.out HB.out.1 HB'.out.1 HR.out HQ.out HZ.out), hid OD3.out.1, hid (by have := HLo.out; omega)⟩
                  case measure => simp [intOf]; omega
                · have hd2 : decide (0 < x1 - y1) = true := decide_eq_true (by omega)
                  have hd3 : decide (y1 < x1) = true := decide_eq_true (by omega)
                  have HZ : Hid (y1 < x1) := hid (by omega)
                  clear hz hlo
                  go_wp2_with (at_builtin; refine append_run rfl (.tmp 51) (.tmp 53) rfl w.heap.size v out _ x0 (x1 - y1) rfl (OD3.out.1.alloc (.cells #[.int .i64 x0, .int .i64 (x1 - y1)] 65)).2 rfl (hnew (by simp)) (by have := HLn.out; omega) (by have := (OD3.out.1.alloc (.cells #[.int .i64 x0, .int .i64 (x1 - y1)] 65)).1.size; simp at this ⊢; omega) ?_; intro u1 w1 ho1 hg1; have O1 := hid (OwnW.grown (OD3.out.1.alloc (.cells #[.int .i64 x0, .int .i64 (x1 - y1)] 65)) hg1 ho1); clear ho1 hg1)
                  go_roundw
                  case rel => exact ⟨k + 1, j + 1, A1, r - 1, s - 1, u1, _, by omega, hjm', by go_num, rfl, rfl, ER1, R1, hid (mi_sub MM.out HB.out.1 HB'.out.1 HR.out HQ.out HZ.out), O1, hid (by rw [List.length_append]; have := HLo.out; simp; omega)⟩
                  case measure => simp [intOf]; omega
            · have hed : (y0 == x0) = false := by simpa using he
              have HNE : Hid (∀ y, u[j]? = some y → ¬ x0 = y.1) := hid (fun y hy => by rw [HQ.out] at hy; cases hy; exact fun e => he e.symm)
              clear he
              go_wp2
              go_quiet (fail)
              have OD : Hid (OwnW w ((wr.alloc (.cells #[.int .i64 x0, .int .i64 x1] 65)).drewN nq) v out ∧ ((wr.alloc (.cells #[.int .i64 x0, .int .i64 x1] 65)).drewN nq).heap[wr.heap.size]? = some (.cells #[.int .i64 x0, .int .i64 x1] 65)) := hid ⟨⟨bdrewN BX.out.1, BX.out.2⟩, heap_alloc_new wr _⟩
              clear p0 p1 q0 q1
              generalize (wr.alloc (.cells #[.int .i64 x0, .int .i64 x1] 65)).drewN nq = W at OD ⊢
              obtain ⟨c0, c1⟩ := box_two OD.out.2
              go_wp2_with (at_builtin; refine append_run rfl (.tmp 51) (.tmp 53) rfl w.heap.size v out _ x0 x1 rfl (OD.out.1.alloc (.cells #[.int .i64 x0, .int .i64 x1] 65)).2 rfl (hnew (by simp)) (by have := HLn.out; omega) (by have := (OD.out.1.alloc (.cells #[.int .i64 x0, .int .i64 x1] 65)).1.size; simp at this ⊢; omega) ?_; intro u1 w1 ho1 hg1; have O1 := hid (OwnW.grown (OD.out.1.alloc (.cells #[.int .i64 x0, .int .i64 x1] 65)) hg1 ho1); clear ho1 hg1)
              go_roundw
              case rel => exact ⟨k + 1, j, _, r, s, u1, _, by omega, hjm, by go_num, rfl, rfl, ER, HN, hid (mi_keep MM.out HB.out.1 HB.out.2.1 HR.out HNE.out), O1, hid (by rw [List.length_append]; have := HLo.out; simp; omega)⟩
              case measure => simp [intOf]; omega
        · have hkf : decide ((k : Int) < (n : Int)) = false := decide_eq_false (by omega)
          by_cases hr0 : r = 0
          · have hdn := mi_done MM.out HB.out.1 HB.out.2.1 HB'.out.2.1 (by have := EL.out; omega) (by have := ER.out; have := EU.out; omega)
            have HJ := hid (mn_yes HB.out HB'.out hdn.1)
            have HE : Hid (out = Ml l u) := hid (by rw [ml_yes HJ.out]; exact hdn.2)
            clear hdn
            subst hr0
            obtain ⟨A9, cap, e, hr9⟩ := own_any OW.out.2
            have HF := hid (own_far OW.out.2 e (Nat.le_refl _))
            subst e
            have HR9 := hid hr9
            clear hr9
            go_wp2
            go_ret2
            rw [HJ.out, ← HE.out]
            exact ⟨⟨A9, cap, rfl, HR9.out, HF.out⟩, OW.out.1⟩
          · have hrd : decide ((0 : Int) < (r : Int)) = true := decide_eq_true (by omega)
            have hrn : decide (0 < r) = true := decide_eq_true (by omega)
            have hjl : j < u.length := by have := ER.out; have := EU.out; omega
            have HJ := hid (mn_no3 (mi_end MM.out HB'.out.2.1 (by have := EL.out; omega) (List.getElem?_eq_getElem hjl)))
            clear hjl
            go_wp2
            go_ret2
            rw [HJ.out, (KN.out HJ.out w).2]
            exact ⟨⟨none, 0, rfl, (KN.out HJ.out _).1, far_nil _⟩, OW.out.1⟩
theorem minus_n (a1 a2 : Option Addr) (n c m d k : Nat) (l u M : List Rn) (v : Bool) (w : World) (hl : NRun w a1 n c l) (hu : NRun w a2 m d u) (hk : ∀ r ∈ l, nok r) (hk' : ∀ r ∈ u, nok r) (hn : n ≤ 1000) (hm : m ≤ 1000) (hM : Hid (Ml l u = M)) (hv : Hid (Mn l u = v)) (hl2 : Hid (M.length = k)) :
    Calls Try.prog 91 #[.slice a1 n c, .slice a2 m d] w fun e w' => (∃ A cap, e = .returned (.tuple #[.slice A k cap, .bool v]) ∧ NRun w' A k cap M ∧ Far w A) ∧ Below w.heap.size w w' := by
  have := minus_own a1 a2 n c m d l u w hl hu hk hk' hn hm
  rw [hM.out, hv.out, hl2.out] at this
  exact this

end Go.Proofs.Ytjkkajhjcinalaa

namespace Go.Proofs.Ytjkkajhjcinalaa
open Go.ChangeShapes Go.WideShapes Go.ChangeAt Go.RowKit
set_option linter.unusedVariables false
set_option linter.unusedSimpArgs false
set_option maxRecDepth 100000

theorem cells_nr : Try.prog.cellsOf 65 = 2 := by kernel_rfl
theorem open_run_cells {H : Type} {enc : TypeId × Value → H} {W : World} {base fuel : Nat} {spare : Nat → Bool} {held : Bool} {c0 c1 : Value} {x : DataW H × List MemPlace}
    (hf : DataW.trod enc Try.prog W base spare held fuel 65 [c0, c1] = some x) : ∃ x0 x1 : Int, [c0, c1] = ncs (x0, x1) ∧ nok (x0, x1) := by
  have hO : Try.prog.cellsOf 2 = 1 := by kernel_rfl
  obtain ⟨xs, m, _, _, _, hl, hg⟩ := DataW.trod_struct Try.underlying65 hf
  have g0 := hg 0
  have g1 := hg 1
  simp [hO] at g0 g1
  match xs, hl with
  | [y0, y1], _ =>
    obtain ⟨a, e0, _, w0⟩ := DataW.trod_int Try.underlying2 g0
    obtain ⟨b, e1, _, w1⟩ := DataW.trod_int Try.underlying2 g1
    simp at e0 e1
    subst e0 e1
    exact ⟨a, b, rfl, bounds_i64 w0, bounds_i64 w1⟩
end Go.Proofs.Ytjkkajhjcinalaa

namespace Go.Proofs.Ytjkkajhjcinalaa
open Go.ChangeShapes Go.WideShapes Go.ChangeAt Go.RowKit
set_option linter.unusedVariables false
set_option linter.unusedSimpArgs false
set_option maxRecDepth 100000

/-- A slice of rows, in a world. -/
def RRow (w : World) (a : Option Addr) (n c : Nat) (l : List Rw) : Prop :=
  n = l.length ∧ n ≤ c ∧ c ≤ maxLen ∧ (a = none → c = 0) ∧ (0 < n → ∃ b off, a = some ⟨b, off, none⟩ ∧ b < w.heap.size ∧ ∀ j r, l[j]? = some r → ∀ i v, (rcs r)[i]? = some v → w.cell? ⟨b, off + j * 6 + i, none⟩ = some v)
theorem RRow.below {w w' : World} {a : Option Addr} {n c : Nat} {l : List Rw} (h : RRow w a n c l) (hb : Below w.heap.size w w') : RRow w' a n c l := by
  obtain ⟨h1, h2, h3, h4, h5⟩ := h
  refine ⟨h1, h2, h3, h4, fun h0 => ?_⟩
  obtain ⟨b, off, e, hlt, hl⟩ := h5 h0
  exact ⟨b, off, e, Nat.lt_of_lt_of_le hlt hb.size, fun j r hj i v hi => ((bcell hb).1 b _ hlt).trans (hl j r hj i v hi)⟩
theorem RRow.lens {w : World} {a : Option Addr} {n c : Nat} {l : List Rw} (h : RRow w a n c l) : n = l.length ∧ n ≤ 9223372036854775807 := by
  obtain ⟨h1, h2, h3, _⟩ := h
  unfold maxLen at h3
  exact ⟨h1, by omega⟩
/-- One row of it, read. -/
theorem RRow.pick {w w' : World} {a : Option Addr} {n c : Nat} {l : List Rw} (h : RRow w a n c l) (hb : Below w.heap.size w w') {k : Nat} (hk : k < n) :
    ∃ b off x0 x1 x2 x3 m0 m1, a = some ⟨b, off, none⟩ ∧ b < w.heap.size ∧ l[k]? = some (x0, x1, x2, x3, m0, m1) ∧ w'.cell? ⟨b, off + k * 6, none⟩ = some (.int .u8 x0) ∧ w'.cell? ⟨b, off + k * 6 + 1, none⟩ = some (.int .u8 x1) ∧ w'.cell? ⟨b, off + k * 6 + 2, none⟩ = some (.int .u8 x2) ∧ w'.cell? ⟨b, off + k * 6 + 3, none⟩ = some (.int .u8 x3) ∧ w'.cell? ⟨b, off + k * 6 + 4, none⟩ = some (.int .i64 m0) ∧ w'.cell? ⟨b, off + k * 6 + 5, none⟩ = some (.int .i64 m1) := by
  obtain ⟨h1, h2, h3, h4, h5⟩ := h.below hb
  obtain ⟨h1', _, _, _, h5'⟩ := h
  obtain ⟨b, off, e, hlt, hl⟩ := h5 (by omega)
  obtain ⟨b', off', e', hlt', _⟩ := h5' (by omega)
  rw [e] at e'
  cases e'
  obtain ⟨r, hr⟩ : ∃ r, l[k]? = some r := ⟨l[k]'(by omega), List.getElem?_eq_getElem (by omega)⟩
  obtain ⟨x0, x1, x2, x3, m0, m1⟩ := r
  have := hl k _ hr
  exact ⟨b, off, x0, x1, x2, x3, m0, m1, e, hlt', hr, this 0 _ rfl, this 1 _ rfl, this 2 _ rfl, this 3 _ rfl, this 4 _ rfl, this 5 _ rfl⟩

theorem open_coord_cells {H : Type} {enc : TypeId × Value → H} {W : World} {base fuel : Nat} {spare : Nat → Bool} {held : Bool} {c0 c1 c2 c3 : Value} {x : DataW H × List MemPlace}
    (hf : DataW.trod enc Try.prog W base spare held fuel 28 [c0, c1, c2, c3] = some x) : ∃ a b c d : Int, c0 = .int .u8 a ∧ c1 = .int .u8 b ∧ c2 = .int .u8 c ∧ c3 = .int .u8 d ∧ ∀ y ∈ [a, b, c, d], U8 y := by
  have hC2 : Try.prog.cellsOf 5 = 1 := by kernel_rfl
  obtain ⟨ys, m, _, hx, _, hl, hg⟩ := DataW.trod_array Try.underlying28 hf
  have g0 := hg 0 (by decide); have g1 := hg 1 (by decide); have g2 := hg 2 (by decide); have g3 := hg 3 (by decide)
  rw [hC2] at g0 g1 g2 g3
  match ys, hl with
  | [y0, y1, y2, y3], _ =>
    simp at g0 g1 g2 g3
    obtain ⟨a, e0, _, w0⟩ := DataW.trod_int Try.underlying5 g0
    obtain ⟨b, e1, _, w1⟩ := DataW.trod_int Try.underlying5 g1
    obtain ⟨c, e2, _, w2⟩ := DataW.trod_int Try.underlying5 g2
    obtain ⟨d, e3, _, w3⟩ := DataW.trod_int Try.underlying5 g3
    simp at e0 e1 e2 e3
    subst e0 e1 e2 e3
    exact ⟨a, b, c, d, rfl, rfl, rfl, rfl, by intro y hy; simp at hy; rcases hy with rfl | rfl | rfl | rfl <;> first | exact bounds_u8 w0 | exact bounds_u8 w1 | exact bounds_u8 w2 | exact bounds_u8 w3⟩

theorem open_meas_cells {H : Type} {enc : TypeId × Value → H} {W : World} {base fuel : Nat} {spare : Nat → Bool} {held : Bool} {c0 c1 : Value} {x : DataW H × List MemPlace}
    (hf : DataW.trod enc Try.prog W base spare held fuel 22 [c0, c1] = some x) : ∃ a b : Int, c0 = .int .i64 a ∧ c1 = .int .i64 b ∧ I64 a ∧ I64 b := by
  have hC2 : Try.prog.cellsOf 2 = 1 := by kernel_rfl
  obtain ⟨ys, m, _, hx, _, hl, hg⟩ := DataW.trod_array Try.underlying22 hf
  have g0 := hg 0 (by decide); have g1 := hg 1 (by decide)
  rw [hC2] at g0 g1
  match ys, hl with
  | [y0, y1], _ =>
    simp at g0 g1
    obtain ⟨a, e0, _, w0⟩ := DataW.trod_int Try.underlying2 g0
    obtain ⟨b, e1, _, w1⟩ := DataW.trod_int Try.underlying2 g1
    simp at e0 e1
    subst e0 e1
    exact ⟨a, b, rfl, rfl, bounds_i64 w0, bounds_i64 w1⟩
theorem open_row_cells {H : Type} {enc : TypeId × Value → H} {W : World} {base fuel : Nat} {spare : Nat → Bool} {held : Bool} {c0 c1 c2 c3 c4 c5 : Value} {x : DataW H × List MemPlace}
    (hf : DataW.trod enc Try.prog W base spare held fuel 53 [c0, c1, c2, c3, c4, c5] = some x) : ∃ x0 x1 x2 x3 m0 m1 : Int, [c0, c1, c2, c3, c4, c5] = rcs (x0, x1, x2, x3, m0, m1) ∧ rok (x0, x1, x2, x3, m0, m1) := by
  have hO : Try.prog.cellsOf 28 = 4 := by kernel_rfl
  have hM : Try.prog.cellsOf 22 = 2 := by kernel_rfl
  obtain ⟨xs, m, _, _, _, hl, hg⟩ := DataW.trod_struct Try.underlying53 hf
  have g0 := hg 0
  have g1 := hg 1
  simp [hO, hM] at g0 g1
  match xs, hl with
  | [y0, y1], _ =>
    obtain ⟨a, b, c, d, rfl, rfl, rfl, rfl, hu⟩ := open_coord_cells (c0 := c0) (c1 := c1) (c2 := c2) (c3 := c3) g0
    obtain ⟨m0, m1, rfl, rfl, i0, i1⟩ := open_meas_cells (c0 := c4) (c1 := c5) g1
    exact ⟨a, b, c, d, m0, m1, rfl, ⟨hu a (by simp), hu b (by simp), hu c (by simp), hu d (by simp)⟩, i0, i1⟩
end Go.Proofs.Ytjkkajhjcinalaa

namespace Go.Proofs.Ytjkkajhjcinalaa.calc
open Go.RowKit
set_option linter.unusedVariables false
set_option linter.unusedSimpArgs false
set_option maxRecDepth 100000

set_option maxHeartbeats 400000 in
theorem total_0 (a : Option Addr) (cap : Nat) (w : World) :
    Calls Try.prog 27 #[.slice a 0 cap] w fun e w' => e = .returned (.tuple #[.int .i64 0, .bool true]) ∧ Below w.heap.size w w' := by
  go_enter Try.func27, Try.ntmps27
  go_wp2
  go_loopw [9] (fun i wr => i = .int .i64 0 ∧ wr = w.alloc (.cells #[.int .i64 (hi 0), .int .u64 (lo 0)] 133))
    (fun _ _ => 0)
  case atStart => exact ⟨rfl, rfl⟩
  case round =>
    obtain ⟨rfl, rfl⟩ := hrel
    go_wp2_with (go_at_call 70; refine (narrow_any 0 _).mono ?_; rintro e w2 ⟨rfl, hb2⟩)
    go_ret2
    exact ⟨rfl, ((Below.refl _ _).alloc (Nat.le_refl _) _).trans (hb2.mono (by simp))⟩
end Go.Proofs.Ytjkkajhjcinalaa.calc

namespace Go.Proofs.Ytjkkajhjcinalaa
open Go.ChangeShapes Go.WideShapes Go.ChangeAt Go.RowKit
set_option linter.unusedVariables false
set_option linter.unusedSimpArgs false
set_option maxRecDepth 100000

theorem results_cell_slot {P : Program} {fn : Func} {p u : Tmp} {ty : TypeId} (h : fn.results = #[.cell p ty, .tmp u]) (tmps : Array Value) (w : World) (g : Nat) (t : TypeId) (cs : Array Value) (fr : Nat × Nat) (d : TypeDesc) (v : Value)
    (hp : tmps.getD p undef = .pointer (some ⟨g, 0, none⟩)) (hv : tmps.getD u undef = v) (hg : w.heap[g]? = some (.cells cs t fr))
    (hu : P.underlying ty = some d) (hd : (match d with | .struct _ | .array _ _ => true | _ => false) = true) (hi : (P.info? ty).map (·.size) = some cs.size) :
    (results fn tmps).run P w = .ok (.tuple #[.agg cs, v]) w := by
  rw [results_cell_tmp h, hp, hv]
  simp [asAddr, run_loadVar_row w g t ty cs fr d hg hu hd hi, Result.andThen]

theorem total_m (a : Option Addr) (n c : Nat) (l : List Int) (w : World) (hl : IRow .i64 w a n c l) (hk : ∀ x ∈ l, I64 x) (hn : n ≤ 1000) :
    Calls Try.prog 27 #[.slice a n c] w fun e w' => e = .returned (.tuple #[.int .i64 (calc.fitV (calc.sumI l)), .bool (calc.fitB (calc.sumI l))]) ∧ Below w.heap.size w w' := by
  obtain ⟨h1, h2, h3, h4, h5⟩ := hl
  by_cases h0 : n = 0
  · subst h0
    have hx : l = [] := List.length_eq_zero_iff.mp h1.symm
    subst hx
    exact calc.total_0 a c w
  · obtain ⟨b, off, rfl, hb, hl⟩ := h5 (by omega)
    have := calc.total_any b off n c l w (by omega) (by omega) hb (fun k hk => hl k (by omega)) hk
    rw [List.take_of_length_le (by omega)] at this
    exact this
theorem total_n (a : Option Addr) (n c : Nat) (l : List Int) (S : Int) (f : Bool) (w : World) (hl : IRow .i64 w a n c l) (hk : ∀ x ∈ l, I64 x) (hn : n ≤ 1000) (hS : Hid (calc.fitV (calc.sumI l) = S)) (hf : Hid (calc.fitB (calc.sumI l) = f)) :
    Calls Try.prog 27 #[.slice a n c] w fun e w' => e = .returned (.tuple #[.int .i64 S, .bool f]) ∧ Below w.heap.size w w' := by
  have := total_m a n c l w hl hk hn
  rw [hS.out, hf.out] at this
  exact this
/-- Runs, or numbers, that lie behind a block. -/
def NF (w : World) (a : Option Addr) (n c : Nat) (l : List Rn) (G : Nat) : Prop := NRun w a n c l ∧ ∀ b off, a = some ⟨b, off, none⟩ → G < b
def IF (w : World) (a : Option Addr) (n c : Nat) (l : List Int) (G : Nat) : Prop := IRow .i64 w a n c l ∧ ∀ b off, a = some ⟨b, off, none⟩ → G < b
theorem nf_of {w w0 : World} {a : Option Addr} {n c : Nat} {l : List Rn} {G : Nat} (h : NRun w a n c l) (hf : Far w0 a) (hG : G < w0.heap.size) : NF w a n c l G := ⟨h, fun b off e => by have := hf b off e; omega⟩
theorem if_of {w w0 : World} {a : Option Addr} {n c : Nat} {l : List Int} {G : Nat} (h : IRow .i64 w a n c l) (hf : Far w0 a) (hG : G < w0.heap.size) : IF w a n c l G := ⟨h, fun b off e => by have := hf b off e; omega⟩
theorem NF.below {w w' : World} {a : Option Addr} {n c : Nat} {l : List Rn} {G : Nat} (h : NF w a n c l G) (hb : Below w.heap.size w w') : NF w' a n c l G := ⟨h.1.below hb, h.2⟩
theorem IF.below {w w' : World} {a : Option Addr} {n c : Nat} {l : List Int} {G : Nat} (h : IF w a n c l G) (hb : Below w.heap.size w w') : IF w' a n c l G := ⟨h.1.below hb, h.2⟩
theorem NF.gr {w w' : World} {a : Option Addr} {n c : Nat} {l : List Rn} {G B : Nat} (h : NF w a n c l G) (hg : w.grownBy w' (some B)) (hB : B ≤ G) : NF w' a n c l G := ⟨h.1.grown hg (fun b off e => by have := h.2 b off e; omega), h.2⟩
theorem irow_grown {w w' : World} {a : Option Addr} {n c G : Nat} {l : List Int} (h : IRow .i64 w a n c l) (hg : w.grownBy w' (some G)) (hne : ∀ b off, a = some ⟨b, off, none⟩ → ¬ b = G) : IRow .i64 w' a n c l := by
  obtain ⟨h1, h2, h3, h4, h5⟩ := h
  refine ⟨h1, h2, h3, h4, fun h0 => ?_⟩
  obtain ⟨b, off, e, hlt, hl⟩ := h5 h0
  exact ⟨b, off, e, Nat.lt_of_lt_of_le hlt hg.size, fun j hj => (grown_cell hg hlt (fun e' => hne b off e (by cases e'; rfl))).trans (hl j hj)⟩
theorem IF.gr {w w' : World} {a : Option Addr} {n c : Nat} {l : List Int} {G B : Nat} (h : IF w a n c l G) (hg : w.grownBy w' (some B)) (hB : B ≤ G) : IF w' a n c l G := ⟨irow_grown h.1 hg (fun b off e => by have := h.2 b off e; omega), h.2⟩
theorem map_take {l : List Rw} {k : Nat} {r : Rw} (f : Rw → Int) (h : l[k]? = some r) : (l.take (k + 1)).map f = (l.take k).map f ++ [f r] := by
  rw [take_one h]; simp
set_option maxHeartbeats 4000000 in
theorem vals0_m (a : Option Addr) (n c : Nat) (l : List Rw) (M : List Int) (w : World) (hl : RRow w a n c l) (hn : n ≤ 1000) (hM : Hid (l.map rm0 = M)) :
    Calls Try.prog 55 #[.int .i64 0, .slice a n c] w fun e w' => (∃ A cap, e = .returned (.slice A n cap) ∧ IRow .i64 w' A n cap M ∧ Far w A) ∧ Below w.heap.size w w' := by
  have h := hM.out
  subst h
  clear hM
  have HL := hid hl
  obtain ⟨l1, l2⟩ := hl.lens
  have EL := hid l1
  clear hl l1
  obtain ⟨i0, hi, hz0, hz1, hz2⟩ := info_parts info_i64
  go_enter Try.func55, Try.ntmps55
  go_upto_region 3 with (at_make; refine wpList_make_own _ rfl _ _ 51 rfl w.heap.size 2 i0 _ 1 Try.underlying51 hi hz0 hz1 _ _ _ n rfl rfl (by omega) (by rw [hz2]; omega) (by unfold maxLen; omega) (Nat.le_refl _) ?_; intro w3 ho3 hg3; have O3 := hid ho3; have B3 := hid (grow_below hg3 (Nat.le_refl _) (fun k hk => by cases hk)); clear ho3 hg3)
  clear hi hz0 hz1 hz2
  go_loopw [5, 13] (fun u i wr => ∃ (q : Nat) (v : Value), q ≤ n ∧ i = .int .i64 q ∧ v = u ∧ Hid (∃ g cap, v = .slice (some ⟨g, 0, none⟩) q cap) ∧ Hid (Below w.heap.size w wr ∧ wr.ownsRow w.heap.size 2 1 v q (vals .i64 ((l.take q).map rm0)))) (fun _ i _ => n - (intOf i).toNat)
  case atStart => exact ⟨0, _, by omega, rfl, rfl, hid ⟨_, _, rfl⟩, hid ⟨B3.out, O3.out⟩⟩
  case round =>
    obtain ⟨q, v, hqn, rfl, rfl, HX, HO⟩ := hrel
    have hq0 : (0 : Int) ≤ (q : Int) := by omega
    by_cases hlt : q < n
    · have hki : (q : Int) < (n : Int) := by omega
      obtain ⟨b, off, x0, x1, x2, x3, m0, m1, rfl, hb, hr, p0, p1, p2, p3, p4, p5⟩ := HL.out.pick HO.out.1 hlt
      have HR := hid hr
      clear hr
      have B5 : Hid (Below w.heap.size w (wr.alloc (.cells #[.int .u8 x0, .int .u8 x1, .int .u8 x2, .int .u8 x3, .int .i64 m0, .int .i64 m1] 53))) := hid (bt HO.out.1 (b1alloc _ _))
      have O5 := hid (HO.out.2.alloc (.cells #[.int .u8 x0, .int .u8 x1, .int .u8 x2, .int .u8 x3, .int .i64 m0, .int .i64 m1] 53))
      go_upto_region 5 with fail
      generalize hW : wr.alloc (.cells #[.int .u8 x0, .int .u8 x1, .int .u8 x2, .int .u8 x3, .int .i64 m0, .int .i64 m1] 53) = W5 at B5 O5 ⊢
      have hz : W5.heap[wr.heap.size]? = some (.cells #[.int .u8 x0, .int .u8 x1, .int .u8 x2, .int .u8 x3, .int .i64 m0, .int .i64 m1] 53) := by rw [← hW]; exact heap_alloc_new _ _
      have z4 : W5.cell? ⟨wr.heap.size, 4, none⟩ = some (.int .i64 m0) := by simp [World.cell?, hz]
      have z5 : W5.cell? ⟨wr.heap.size, 5, none⟩ = some (.int .i64 m1) := by simp [World.cell?, hz]
      clear hW hz p0 p1 p2 p3 p4 p5
      have hst := map_take rm0 HR.out
      have HST := hid hst
      clear hst
      go_wp2_with (at_builtin; refine append_one (k := .i64) Try.underlying51 info_i64 (by decide) rfl (.tmp 17) (.tmp 22) rfl w.heap.size q _ m0 ((l.take q).map rm0) W5.heap.size rfl rfl O5.out rfl (by omega) B5.out.size ?_; intro v7 w7 hown7 hex7 hb7; have O7 := hid hown7; have X7 := hid hex7; have B7 := hid (B5.out.trans hb7); clear hown7 hex7 hb7)
      go_roundw
      case rel => exact ⟨q + 1, v7, by omega, by go_num, rfl, X7, hid ⟨B7.out, by rw [HST.out]; exact O7.out⟩⟩
      case measure => simp [intOf]; omega
    · have hkf : decide ((q : Int) < (n : Int)) = false := decide_eq_false (by omega)
      have hkf2 : decide (q < n) = false := decide_eq_false hlt
      obtain rfl : q = n := by omega
      obtain ⟨g, cap, hv⟩ := HX.out
      subst hv
      have HR := hid (own_row HO.out.2)
      have HF : Hid (Far w (some ⟨g, 0, none⟩)) := hid (fun b off e => by cases e; exact (HO.out.2.lt g rfl).1)
      go_wp2
      go_ret
      exact ⟨⟨_, _, rfl, by have h5 := HR.out; rw [List.take_of_length_le (by have := EL.out; omega)] at h5; exact h5, HF.out⟩, HO.out.1⟩
set_option maxHeartbeats 4000000 in
theorem vals1_m (a : Option Addr) (n c : Nat) (l : List Rw) (M : List Int) (w : World) (hl : RRow w a n c l) (hn : n ≤ 1000) (hM : Hid (l.map rm1 = M)) :
    Calls Try.prog 55 #[.int .i64 1, .slice a n c] w fun e w' => (∃ A cap, e = .returned (.slice A n cap) ∧ IRow .i64 w' A n cap M ∧ Far w A) ∧ Below w.heap.size w w' := by
  have h := hM.out
  subst h
  clear hM
  have HL := hid hl
  obtain ⟨l1, l2⟩ := hl.lens
  have EL := hid l1
  clear hl l1
  obtain ⟨i0, hi, hz0, hz1, hz2⟩ := info_parts info_i64
  go_enter Try.func55, Try.ntmps55
  go_upto_region 3 with (at_make; refine wpList_make_own _ rfl _ _ 51 rfl w.heap.size 2 i0 _ 1 Try.underlying51 hi hz0 hz1 _ _ _ n rfl rfl (by omega) (by rw [hz2]; omega) (by unfold maxLen; omega) (Nat.le_refl _) ?_; intro w3 ho3 hg3; have O3 := hid ho3; have B3 := hid (grow_below hg3 (Nat.le_refl _) (fun k hk => by cases hk)); clear ho3 hg3)
  clear hi hz0 hz1 hz2
  go_loopw [5, 13] (fun u i wr => ∃ (q : Nat) (v : Value), q ≤ n ∧ i = .int .i64 q ∧ v = u ∧ Hid (∃ g cap, v = .slice (some ⟨g, 0, none⟩) q cap) ∧ Hid (Below w.heap.size w wr ∧ wr.ownsRow w.heap.size 2 1 v q (vals .i64 ((l.take q).map rm1)))) (fun _ i _ => n - (intOf i).toNat)
  case atStart => exact ⟨0, _, by omega, rfl, rfl, hid ⟨_, _, rfl⟩, hid ⟨B3.out, O3.out⟩⟩
  case round =>
    obtain ⟨q, v, hqn, rfl, rfl, HX, HO⟩ := hrel
    have hq0 : (0 : Int) ≤ (q : Int) := by omega
    by_cases hlt : q < n
    · have hki : (q : Int) < (n : Int) := by omega
      obtain ⟨b, off, x0, x1, x2, x3, m0, m1, rfl, hb, hr, p0, p1, p2, p3, p4, p5⟩ := HL.out.pick HO.out.1 hlt
      have HR := hid hr
      clear hr
      have B5 : Hid (Below w.heap.size w (wr.alloc (.cells #[.int .u8 x0, .int .u8 x1, .int .u8 x2, .int .u8 x3, .int .i64 m0, .int .i64 m1] 53))) := hid (bt HO.out.1 (b1alloc _ _))
      have O5 := hid (HO.out.2.alloc (.cells #[.int .u8 x0, .int .u8 x1, .int .u8 x2, .int .u8 x3, .int .i64 m0, .int .i64 m1] 53))
      go_upto_region 5 with fail
      generalize hW : wr.alloc (.cells #[.int .u8 x0, .int .u8 x1, .int .u8 x2, .int .u8 x3, .int .i64 m0, .int .i64 m1] 53) = W5 at B5 O5 ⊢
      have hz : W5.heap[wr.heap.size]? = some (.cells #[.int .u8 x0, .int .u8 x1, .int .u8 x2, .int .u8 x3, .int .i64 m0, .int .i64 m1] 53) := by rw [← hW]; exact heap_alloc_new _ _
      have z4 : W5.cell? ⟨wr.heap.size, 4, none⟩ = some (.int .i64 m0) := by simp [World.cell?, hz]
      have z5 : W5.cell? ⟨wr.heap.size, 5, none⟩ = some (.int .i64 m1) := by simp [World.cell?, hz]
      clear hW hz p0 p1 p2 p3 p4 p5
      have hst := map_take rm1 HR.out
      have HST := hid hst
      clear hst
      go_wp2_with (at_builtin; refine append_one (k := .i64) Try.underlying51 info_i64 (by decide) rfl (.tmp 17) (.tmp 22) rfl w.heap.size q _ m1 ((l.take q).map rm1) W5.heap.size rfl rfl O5.out rfl (by omega) B5.out.size ?_; intro v7 w7 hown7 hex7 hb7; have O7 := hid hown7; have X7 := hid hex7; have B7 := hid (B5.out.trans hb7); clear hown7 hex7 hb7)
      go_roundw
      case rel => exact ⟨q + 1, v7, by omega, by go_num, rfl, X7, hid ⟨B7.out, by rw [HST.out]; exact O7.out⟩⟩
      case measure => simp [intOf]; omega
    · have hkf : decide ((q : Int) < (n : Int)) = false := decide_eq_false (by omega)
      have hkf2 : decide (q < n) = false := decide_eq_false hlt
      obtain rfl : q = n := by omega
      obtain ⟨g, cap, hv⟩ := HX.out
      subst hv
      have HR := hid (own_row HO.out.2)
      have HF : Hid (Far w (some ⟨g, 0, none⟩)) := hid (fun b off e => by cases e; exact (HO.out.2.lt g rfl).1)
      go_wp2
      go_ret
      exact ⟨⟨_, _, rfl, by have h5 := HR.out; rw [List.take_of_length_le (by have := EL.out; omega)] at h5; exact h5, HF.out⟩, HO.out.1⟩

theorem cw_nil (w : World) : CW w none 0 0 none 0 0 cl0 := ⟨nrun_nil w, nrun_nil w⟩
theorem ofB_m {m : Int} {l : List Rw} (h : ¬ (m = 1 ∨ m = 2)) : ofB m l = false := ofB_no (fun g => h g.1)
theorem ofB_e {m : Int} : ofB m [] = false := ofB_no (fun g => g.2.1 rfl)
theorem ofB_s0 {m : Int} {l : List Rw} (h : calc.fitB (calc.sumI (V0 l)) = false) : ofB m l = false := ofB_no (fun g => by rw [g.2.2.1] at h; cases h)
theorem ofB_s1 {l : List Rw} (h : calc.fitB (calc.sumI (V1 l)) = false) : ofB 2 l = false := ofB_no (fun g => by
  rcases g.2.2.2 with e | e
  · cases e
  · rw [e] at h; cases h)
set_option maxHeartbeats 32000000 in
theorem cof_m (m : Int) (a : Option Addr) (n c : Nat) (l : List Rw) (C : Cl) (v : Bool) (w : World) (hl : RRow w a n c l) (hk : ∀ r ∈ l, rok r) (hn : n ≤ 1000) (hC : Hid (ofC m l = C)) (hv : Hid (ofB m l = v)) :
    Calls Try.prog 17 #[.int .i64 m, .slice a n c] w fun e w' => (∃ a0 p0 k0 a1 p1 k1, e = .returned (.tuple #[.agg #[.int .i64 C.n, .int .i64 C.s0, .int .i64 C.s1, .slice a0 p0 k0, .slice a1 p1 k1], .bool v]) ∧ CW w' a0 p0 k0 a1 p1 k1 C) ∧ Below w.heap.size w w' := by
  have HL := hid hl
  obtain ⟨l1, l2⟩ := hl.lens
  have EL := hid l1
  have I0 := hid (V0_i64 hk)
  have I1 := hid (V1_i64 hk)
  clear hl l1 hk
  have KR0 := hid (kp_new w (.cells #[.int .i64 0, .int .i64 0, .int .i64 0, .slice none 0 0, .slice none 0 0] 26))
  by_cases hm : m = 1 ∨ m = 2
  · have HM : Hid ((decide (m = 1) || decide (m = 2)) = true) := hid (by simp only [Bool.or_eq_true, decide_eq_true_iff]; exact hm)
    by_cases h0 : n = 0
    · subst h0
      have hx : l = [] := List.length_eq_zero_iff.mp EL.out.symm
      subst hx
      have HZ := hid (And.intro (hC.out.symm.trans (ofC_no ofB_e)) (hv.out.symm.trans ofB_e))
      go_enter Try.func17, Try.ntmps17
      go_upto_region 2 with (go_at_call 54; refine (meas_m _ true _ HM).mono ?_; rintro e w1 ⟨rfl, hb1⟩; have KR1 := hid (KR0.out.step hb1); clear hb1)
      go_wp2_with (refine wpList_store_whole rfl 26 (.tmp 4) (.tmp 19) rfl w.heap.size (clC 0 0 0 none 0 0 none 0 0) rfl rfl 26 _ KR1.out.2.2 rfl (by show _ = some 5; exact size_cl) (clC_one _ _ _ _ _ _ _ _ _) ?_; intro w9 hp9 hg9; have KR9 := hid (kp_at KR1.out hg9 hp9); clear hp9 hg9)
      (try simp only [Exit.inBlock, Exit.then])
      show bodyPost Try.prog Try.f17 _ _ _ _
      refine bodyPost_ret (results_cell_slot (p := 4) (u := 5) rfl _ _ w.heap.size _ (clC 0 0 0 none 0 0 none 0 0) (0, 0) _ (.bool false) rfl rfl KR9.out.2.2 Try.underlying26 rfl (by kernel_rfl)) rfl ?_
      obtain ⟨z1, z2⟩ := HZ.out; subst z1; subst z2; exact ⟨⟨none, 0, 0, none, 0, 0, rfl, cw_nil _⟩, KR9.out.1⟩

    · have hnt : ((n : Int) == 0) = false := by simp; omega
      have hnt2 : (n == 0) = false := by simp; omega
      have HNE : Hid (¬ l = []) := hid (fun e => h0 (by rw [EL.out, e]; rfl))
      clear h0
      obtain ⟨S0, hS0⟩ : ∃ y, calc.fitV (calc.sumI (V0 l)) = y := ⟨_, rfl⟩
      obtain ⟨f0, hf0⟩ : ∃ y, calc.fitB (calc.sumI (V0 l)) = y := ⟨_, rfl⟩
      obtain ⟨M0, hM0⟩ : ∃ y, bagOf (V0 l) = y := ⟨_, rfl⟩
      obtain ⟨t0, ht0⟩ : ∃ y, M0.length = y := ⟨_, rfl⟩
      have FS0 := hid hS0
      have FF0 := hid hf0
      have FM0 := hid hM0
      have FT0 := hid ht0
      have HV0 : Hid (l.map rm0 = V0 l) := hid rfl
      clear hS0 hM0 ht0
      go_enter Try.func17, Try.ntmps17
      go_upto_region 3 with (go_at_call 54; refine (meas_m _ true _ HM).mono ?_; rintro e w1 ⟨rfl, hb1⟩; have KR1 := hid (KR0.out.step hb1); clear hb1)
      go_upto_region 4 with fail
      have KN1 : Hid (Kp w (w1.alloc (.cells #[.int .i64 (n : Int), .int .i64 0, .int .i64 0, .slice none 0 0, .slice none 0 0] 26)) w1.heap.size (.cells #[.int .i64 (n : Int), .int .i64 0, .int .i64 0, .slice none 0 0, .slice none 0 0] 26)) := hid (kp_new2 KR1.out.1 _ _ rfl)
      have hne : w.heap.size < w1.heap.size := heap_lt KR1.out.2.2
      have KR1 := hid (kp_alloc KR1.out (.cells #[.int .i64 (n : Int), .int .i64 0, .int .i64 0, .slice none 0 0, .slice none 0 0] 26))
      have HNN := hid hne
      clear hne KR0
      generalize w1.alloc (.cells #[.int .i64 (n : Int), .int .i64 0, .int .i64 0, .slice none 0 0, .slice none 0 0] 26) = W2 at KN1 KR1 ⊢
      generalize w1.heap.size = G at KN1 HNN ⊢
      go_upto_region 5 with fail
      refine wp_loop_rounds 3 ?_
      rw [rounds_succ]
      cases f0 with
      | false =>
        have HZ := hid (And.intro (hC.out.symm.trans (ofC_no (ofB_s0 hf0))) (hv.out.symm.trans (ofB_s0 hf0)))
        clear hf0
        have hm0 : (0 : Int) < m := by omega
        have hm0d : decide ((0 : Int) < m) = true := decide_eq_true hm0
        go_upto_region 10 with (first
          | (go_at_call 55; refine (vals0_m _ _ _ l (V0 l) _ (HL.out.below KN1.out.1) hn HV0).mono ?_; rintro e w3 ⟨⟨A3, c3, rfl, hr3, _⟩, hb3⟩; have R3 := hid hr3; have KR3 := hid (KR1.out.step hb3); clear hr3 hb3)
          | (go_at_call 27; refine (total_n _ _ _ (V0 l) S0 false _ R3.out I0.out hn FS0 FF0).mono ?_; rintro e w4 ⟨rfl, hb4⟩; have KR4 := hid (KR3.out.step hb4); clear hb4))
        go_wp2_with (refine wpList_store_whole rfl 26 (.tmp 4) (.tmp 37) rfl w.heap.size (clC 0 0 0 none 0 0 none 0 0) rfl rfl 26 _ KR4.out.2.2 rfl (by show _ = some 5; exact size_cl) (clC_one _ _ _ _ _ _ _ _ _) ?_; intro w9 hp9 hg9; have KR9 := hid (kp_at KR4.out hg9 hp9); clear hp9 hg9)
        (try simp only [Exit.inBlock, Exit.then])
        show bodyPost Try.prog Try.f17 _ _ _ _
        refine bodyPost_ret (results_cell_slot (p := 4) (u := 5) rfl _ _ w.heap.size _ (clC 0 0 0 none 0 0 none 0 0) (0, 0) _ (.bool false) rfl rfl KR9.out.2.2 Try.underlying26 rfl (by kernel_rfl)) rfl ?_
        obtain ⟨z1, z2⟩ := HZ.out; subst z1; subst z2; exact ⟨⟨none, 0, 0, none, 0, 0, rfl, cw_nil _⟩, KR9.out.1⟩

      | true =>
        rcases hm with rfl | rfl
        · skip
          have HC : Hid (C = ofR 1 l) := hid (hC.out.symm.trans (ofC_yes (ofB_iff.2 ⟨.inl rfl, HNE.out, hf0, .inl rfl⟩)))
          have HVv : Hid (v = true) := hid (hv.out.symm.trans (ofB_iff.2 ⟨.inl rfl, HNE.out, hf0, .inl rfl⟩))
          have HS0 : Hid (S0 = calc.sumI (V0 l)) := hid (FS0.out.symm.trans (fitV_yes hf0))
          clear hf0
          go_upto_region 11 with (first
            | (go_at_call 55; refine (vals0_m _ _ _ l (V0 l) _ (HL.out.below KN1.out.1) hn HV0).mono ?_; rintro e w1 ⟨⟨A1, c1, rfl, hr, hf⟩, hb⟩; have R1 := hid (if_of hr hf (heap_lt KN1.out.2.2)); have KRa := hid (KR1.out.step hb); have KNa := hid (KN1.out.step hb); clear hr hb hf)
            | (go_at_call 27; refine (total_n _ _ _ (V0 l) S0 true _ R1.out.1 I0.out hn FS0 FF0).mono ?_; rintro e w1b ⟨rfl, hb⟩; have R1b := hid (R1.out.below hb); have KRb := hid (KRa.out.step hb); have KNb := hid (KNa.out.step hb); clear hb))
          have fz := kp_froz KNb.out 1
          have cz := kp_cell (j := 1) (v := .int .i64 0) KNb.out rfl
          go_upto_region 12 with fail
          clear fz cz
          have R1c := hid (R1b.out.gr (set_grown w1b G 1 (.int .i64 S0)) (Nat.le_refl _))
          have KNc : Hid (Kp w _ G (.cells #[.int .i64 (n : Int), .int .i64 S0, .int .i64 0, (.slice none 0 0), (.slice none 0 0)] 26)) := hid (kp_set (j := 1) (v := .int .i64 S0) KNb.out)
          have KRc := hid (kp_other (j := 1) (v := .int .i64 S0) KRb.out (Nat.ne_of_lt HNN.out) (Nat.le_of_lt HNN.out))
          generalize (w1b.setCell ⟨G, 1, none⟩ (.int .i64 S0)) = W1c at R1c KNc KRc ⊢
          clear R1 R1b KNa KNb KRa KRb
          go_upto_region 13 with (go_at_call 56; refine (of_n _ _ _ t0 (V0 l) M0 _ R1c.out.1 hn FM0 FT0).mono ?_; rintro e w1d ⟨⟨A1m, c1m, rfl, hr, hf⟩, hb⟩; have X0d := hid (nf_of hr hf (heap_lt KNc.out.2.2)); have KRd := hid (KRc.out.step hb); have KNd := hid (KNc.out.step hb); have fz := kp_froz KNd.out 3; have cz := kp_cell (j := 3) (v := .slice none 0 0) KNd.out rfl; clear hr hb hf)
          clear fz cz
          have X0 := hid (X0d.out.gr (set_grown w1d G 3 (.slice A1m t0 c1m)) (Nat.le_refl _))
          have KN2 : Hid (Kp w _ G (.cells #[.int .i64 (n : Int), .int .i64 S0, .int .i64 0, (.slice A1m t0 c1m), (.slice none 0 0)] 26)) := hid (kp_set (j := 3) (v := .slice A1m t0 c1m) KNd.out)
          have KR2 := hid (kp_other (j := 3) (v := .slice A1m t0 c1m) KRd.out (Nat.ne_of_lt HNN.out) (Nat.le_of_lt HNN.out))
          generalize (w1d.setCell ⟨G, 3, none⟩ (.slice A1m t0 c1m)) = W2 at X0 KN2 KR2 ⊢
          clear R1c X0d KNc KNd KRc KRd
          go_wp2
          rw [rounds_succ]
          obtain ⟨d0, d1, d2, d3, d4⟩ := box_five KN2.out.2.2
          go_wp2_with (refine wpList_store_whole rfl 26 (.tmp 4) (.tmp 48) rfl w.heap.size (clC (n : Int) S0 0 A1m t0 c1m none 0 0) rfl rfl 26 _ KR2.out.2.2 rfl (by show _ = some 5; exact size_cl) (clC_one _ _ _ _ _ _ _ _ _) ?_; intro w9 hp9 hg9; have KR9 := hid (kp_at KR2.out hg9 hp9); have X09 := hid (X0.out.gr hg9 (Nat.le_of_lt HNN.out)); clear hp9 hg9)
          (try simp only [Exit.inBlock, Exit.then])
          show bodyPost Try.prog Try.f17 _ _ _ _
          refine bodyPost_ret (results_cell_slot (p := 4) (u := 5) rfl _ _ w.heap.size _ (clC (n : Int) S0 0 A1m t0 c1m none 0 0) (0, 0) _ (.bool true) rfl rfl KR9.out.2.2 Try.underlying26 rfl (by kernel_rfl)) rfl ?_
          have e1 : C = ⟨(n : Int), S0, 0, M0, []⟩ := by rw [HC.out, HS0.out, ← FM0.out, EL.out]; rfl
          have e2 := HVv.out
          subst e1
          subst e2
          exact ⟨⟨_, _, _, _, _, _, rfl, X09.out.1, nrun_nil _⟩, KR9.out.1⟩
        · skip
          obtain ⟨S1, hS1⟩ : ∃ y, calc.fitV (calc.sumI (V1 l)) = y := ⟨_, rfl⟩
          obtain ⟨f1, hf1⟩ : ∃ y, calc.fitB (calc.sumI (V1 l)) = y := ⟨_, rfl⟩
          obtain ⟨M1, hM1⟩ : ∃ y, bagOf (V1 l) = y := ⟨_, rfl⟩
          obtain ⟨t1, ht1⟩ : ∃ y, M1.length = y := ⟨_, rfl⟩
          have FS1 := hid hS1
          have FF1 := hid hf1
          have FM1 := hid hM1
          have FT1 := hid ht1
          have HV1 : Hid (l.map rm1 = V1 l) := hid rfl
          have HS0 : Hid (S0 = calc.sumI (V0 l)) := hid (FS0.out.symm.trans (fitV_yes hf0))
          clear hS1 hM1 ht1
          go_upto_region 11 with (first
            | (go_at_call 55; refine (vals0_m _ _ _ l (V0 l) _ (HL.out.below KN1.out.1) hn HV0).mono ?_; rintro e w1 ⟨⟨A1, c1, rfl, hr, hf⟩, hb⟩; have R1 := hid (if_of hr hf (heap_lt KN1.out.2.2)); have KRa := hid (KR1.out.step hb); have KNa := hid (KN1.out.step hb); clear hr hb hf)
            | (go_at_call 27; refine (total_n _ _ _ (V0 l) S0 true _ R1.out.1 I0.out hn FS0 FF0).mono ?_; rintro e w1b ⟨rfl, hb⟩; have R1b := hid (R1.out.below hb); have KRb := hid (KRa.out.step hb); have KNb := hid (KNa.out.step hb); clear hb))
          have fz := kp_froz KNb.out 1
          have cz := kp_cell (j := 1) (v := .int .i64 0) KNb.out rfl
          go_upto_region 12 with fail
          clear fz cz
          have R1c := hid (R1b.out.gr (set_grown w1b G 1 (.int .i64 S0)) (Nat.le_refl _))
          have KNc : Hid (Kp w _ G (.cells #[.int .i64 (n : Int), .int .i64 S0, .int .i64 0, (.slice none 0 0), (.slice none 0 0)] 26)) := hid (kp_set (j := 1) (v := .int .i64 S0) KNb.out)
          have KRc := hid (kp_other (j := 1) (v := .int .i64 S0) KRb.out (Nat.ne_of_lt HNN.out) (Nat.le_of_lt HNN.out))
          generalize (w1b.setCell ⟨G, 1, none⟩ (.int .i64 S0)) = W1c at R1c KNc KRc ⊢
          clear R1 R1b KNa KNb KRa KRb
          go_upto_region 13 with (go_at_call 56; refine (of_n _ _ _ t0 (V0 l) M0 _ R1c.out.1 hn FM0 FT0).mono ?_; rintro e w1d ⟨⟨A1m, c1m, rfl, hr, hf⟩, hb⟩; have X0d := hid (nf_of hr hf (heap_lt KNc.out.2.2)); have KRd := hid (KRc.out.step hb); have KNd := hid (KNc.out.step hb); have fz := kp_froz KNd.out 3; have cz := kp_cell (j := 3) (v := .slice none 0 0) KNd.out rfl; clear hr hb hf)
          clear fz cz
          have X0 := hid (X0d.out.gr (set_grown w1d G 3 (.slice A1m t0 c1m)) (Nat.le_refl _))
          have KN2 : Hid (Kp w _ G (.cells #[.int .i64 (n : Int), .int .i64 S0, .int .i64 0, (.slice A1m t0 c1m), (.slice none 0 0)] 26)) := hid (kp_set (j := 3) (v := .slice A1m t0 c1m) KNd.out)
          have KR2 := hid (kp_other (j := 3) (v := .slice A1m t0 c1m) KRd.out (Nat.ne_of_lt HNN.out) (Nat.le_of_lt HNN.out))
          generalize (w1d.setCell ⟨G, 3, none⟩ (.slice A1m t0 c1m)) = W2 at X0 KN2 KR2 ⊢
          clear R1c X0d KNc KNd KRc KRd
          go_wp2
          rw [rounds_succ]
          cases f1 with
          | false =>
            have HZ := hid (And.intro (hC.out.symm.trans (ofC_no (ofB_s1 hf1))) (hv.out.symm.trans (ofB_s1 hf1)))
            clear hf0 hf1
            go_upto_region 10 with (first
              | (go_at_call 55; refine (vals1_m _ _ _ l (V1 l) _ (HL.out.below KN2.out.1) hn HV1).mono ?_; rintro e w3 ⟨⟨A3, c3, rfl, hr3, _⟩, hb3⟩; have R3 := hid hr3; have KR3 := hid (KR2.out.step hb3); clear hr3 hb3)
              | (go_at_call 27; refine (total_n _ _ _ (V1 l) S1 false _ R3.out I1.out hn FS1 FF1).mono ?_; rintro e w4 ⟨rfl, hb4⟩; have KR4 := hid (KR3.out.step hb4); clear hb4))
            go_wp2_with (refine wpList_store_whole rfl 26 (.tmp 4) (.tmp 37) rfl w.heap.size (clC 0 0 0 none 0 0 none 0 0) rfl rfl 26 _ KR4.out.2.2 rfl (by show _ = some 5; exact size_cl) (clC_one _ _ _ _ _ _ _ _ _) ?_; intro w9 hp9 hg9; have KR9 := hid (kp_at KR4.out hg9 hp9); clear hp9 hg9)
            (try simp only [Exit.inBlock, Exit.then])
            show bodyPost Try.prog Try.f17 _ _ _ _
            refine bodyPost_ret (results_cell_slot (p := 4) (u := 5) rfl _ _ w.heap.size _ (clC 0 0 0 none 0 0 none 0 0) (0, 0) _ (.bool false) rfl rfl KR9.out.2.2 Try.underlying26 rfl (by kernel_rfl)) rfl ?_
            obtain ⟨z1, z2⟩ := HZ.out; subst z1; subst z2; exact ⟨⟨none, 0, 0, none, 0, 0, rfl, cw_nil _⟩, KR9.out.1⟩
          | true =>
            have HC : Hid (C = ofR 2 l) := hid (hC.out.symm.trans (ofC_yes (ofB_iff.2 ⟨.inr rfl, HNE.out, hf0, .inr hf1⟩)))
            have HVv : Hid (v = true) := hid (hv.out.symm.trans (ofB_iff.2 ⟨.inr rfl, HNE.out, hf0, .inr hf1⟩))
            have HS1 : Hid (S1 = calc.sumI (V1 l)) := hid (FS1.out.symm.trans (fitV_yes hf1))
            clear hf0 hf1
            go_upto_region 11 with (first
              | (go_at_call 55; refine (vals1_m _ _ _ l (V1 l) _ (HL.out.below KN2.out.1) hn HV1).mono ?_; rintro e w2 ⟨⟨A2, c2, rfl, hr, hf⟩, hb⟩; have R2 := hid (if_of hr hf (heap_lt KN2.out.2.2)); have KRa := hid (KR2.out.step hb); have KNa := hid (KN2.out.step hb); have X0a := hid (X0.out.below hb); clear hr hb hf)
              | (go_at_call 27; refine (total_n _ _ _ (V1 l) S1 true _ R2.out.1 I1.out hn FS1 FF1).mono ?_; rintro e w2b ⟨rfl, hb⟩; have R2b := hid (R2.out.below hb); have KRb := hid (KRa.out.step hb); have KNb := hid (KNa.out.step hb); have X0b := hid (X0a.out.below hb); clear hb))
            have fz := kp_froz KNb.out 2
            have cz := kp_cell (j := 2) (v := .int .i64 0) KNb.out rfl
            go_upto_region 12 with fail
            clear fz cz
            have R2c := hid (R2b.out.gr (set_grown w2b G 2 (.int .i64 S1)) (Nat.le_refl _))
            have KNc : Hid (Kp w _ G (.cells #[.int .i64 (n : Int), .int .i64 S0, .int .i64 S1, (.slice A1m t0 c1m), (.slice none 0 0)] 26)) := hid (kp_set (j := 2) (v := .int .i64 S1) KNb.out)
            have KRc := hid (kp_other (j := 2) (v := .int .i64 S1) KRb.out (Nat.ne_of_lt HNN.out) (Nat.le_of_lt HNN.out))
            have X0c := hid (X0b.out.gr (set_grown w2b G 2 (.int .i64 S1)) (Nat.le_refl _))
            generalize (w2b.setCell ⟨G, 2, none⟩ (.int .i64 S1)) = W2c at R2c KNc KRc X0c ⊢
            clear R2 R2b KNa KNb KRa KRb X0 X0a X0b
            go_upto_region 13 with (go_at_call 56; refine (of_n _ _ _ t1 (V1 l) M1 _ R2c.out.1 hn FM1 FT1).mono ?_; rintro e w2d ⟨⟨A2m, c2m, rfl, hr, hf⟩, hb⟩; have X1d := hid (nf_of hr hf (heap_lt KNc.out.2.2)); have KRd := hid (KRc.out.step hb); have KNd := hid (KNc.out.step hb); have X0d := hid (X0c.out.below hb); have fz := kp_froz KNd.out 4; have cz := kp_cell (j := 4) (v := .slice none 0 0) KNd.out rfl; clear hr hb hf)
            clear fz cz
            have X1 := hid (X1d.out.gr (set_grown w2d G 4 (.slice A2m t1 c2m)) (Nat.le_refl _))
            have KN3 : Hid (Kp w _ G (.cells #[.int .i64 (n : Int), .int .i64 S0, .int .i64 S1, (.slice A1m t0 c1m), (.slice A2m t1 c2m)] 26)) := hid (kp_set (j := 4) (v := .slice A2m t1 c2m) KNd.out)
            have KR3 := hid (kp_other (j := 4) (v := .slice A2m t1 c2m) KRd.out (Nat.ne_of_lt HNN.out) (Nat.le_of_lt HNN.out))
            have X0 := hid (X0d.out.gr (set_grown w2d G 4 (.slice A2m t1 c2m)) (Nat.le_refl _))
            generalize (w2d.setCell ⟨G, 4, none⟩ (.slice A2m t1 c2m)) = W3 at X1 KN3 KR3 X0 ⊢
            clear R2c X1d KNc KNd KRc KRd X0c X0d
            go_wp2
            rw [rounds_succ]
            obtain ⟨d0, d1, d2, d3, d4⟩ := box_five KN3.out.2.2
            go_wp2_with (refine wpList_store_whole rfl 26 (.tmp 4) (.tmp 48) rfl w.heap.size (clC (n : Int) S0 S1 A1m t0 c1m A2m t1 c2m) rfl rfl 26 _ KR3.out.2.2 rfl (by show _ = some 5; exact size_cl) (clC_one _ _ _ _ _ _ _ _ _) ?_; intro w9 hp9 hg9; have KR9 := hid (kp_at KR3.out hg9 hp9); have X09 := hid (X0.out.gr hg9 (Nat.le_of_lt HNN.out)); have X19 := hid (X1.out.gr hg9 (Nat.le_of_lt HNN.out)); clear hp9 hg9)
            (try simp only [Exit.inBlock, Exit.then])
            show bodyPost Try.prog Try.f17 _ _ _ _
            refine bodyPost_ret (results_cell_slot (p := 4) (u := 5) rfl _ _ w.heap.size _ (clC (n : Int) S0 S1 A1m t0 c1m A2m t1 c2m) (0, 0) _ (.bool true) rfl rfl KR9.out.2.2 Try.underlying26 rfl (by kernel_rfl)) rfl ?_
            have e1 : C = ⟨(n : Int), S0, S1, M0, M1⟩ := by rw [HC.out, HS0.out, HS1.out, ← FM0.out, ← FM1.out, EL.out]; rfl
            have e2 := HVv.out
            subst e1
            subst e2
            exact ⟨⟨_, _, _, _, _, _, rfl, X09.out.1, X19.out.1⟩, KR9.out.1⟩
  · have HZ := hid (And.intro (hC.out.symm.trans (ofC_no (ofB_m hm))) (hv.out.symm.trans (ofB_m hm)))
    have HM : Hid ((decide (m = 1) || decide (m = 2)) = false) := hid (by simp only [Bool.or_eq_false_iff, decide_eq_false_iff_not]; omega)
    go_enter Try.func17, Try.ntmps17
    go_upto_region 2 with (go_at_call 54; refine (meas_m _ false _ HM).mono ?_; rintro e w1 ⟨rfl, hb1⟩; have KR1 := hid (KR0.out.step hb1); clear hb1)
    go_wp2_with (refine wpList_store_whole rfl 26 (.tmp 4) (.tmp 19) rfl w.heap.size (clC 0 0 0 none 0 0 none 0 0) rfl rfl 26 _ KR1.out.2.2 rfl (by show _ = some 5; exact size_cl) (clC_one _ _ _ _ _ _ _ _ _) ?_; intro w9 hp9 hg9; have KR9 := hid (kp_at KR1.out hg9 hp9); clear hp9 hg9)
    (try simp only [Exit.inBlock, Exit.then])
    show bodyPost Try.prog Try.f17 _ _ _ _
    refine bodyPost_ret (results_cell_slot (p := 4) (u := 5) rfl _ _ w.heap.size _ (clC 0 0 0 none 0 0 none 0 0) (0, 0) _ (.bool false) rfl rfl KR9.out.2.2 Try.underlying26 rfl (by kernel_rfl)) rfl ?_
    obtain ⟨z1, z2⟩ := HZ.out; subst z1; subst z2; exact ⟨⟨none, 0, 0, none, 0, 0, rfl, cw_nil _⟩, KR9.out.1⟩


end Go.Proofs.Ytjkkajhjcinalaa

/-
  What bag.Minus returns.
  Conditions: as each theorem states them.
-/
import Derived.Test.YtjkkajhjcinalaaG3
namespace Go.Proofs.Ytjkkajhjcinalaa
open Go.ChangeShapes Go.WideShapes Go.ChangeAt Go.RowKit
set_option linter.unusedVariables false
set_option linter.unusedSimpArgs false
set_option maxRecDepth 100000

set_option maxHeartbeats 8000000 in
theorem minus_any (a1 a2 : Option Addr) (n c m d : Nat) (l u : List Rn) (w : World) (hl : NRun w a1 n c l) (hu : NRun w a2 m d u) (hk : ∀ r ∈ l, nok r) (hk' : ∀ r ∈ u, nok r) (hn : n ≤ 1000) (hm : m ≤ 1000) :
    Calls Try.prog 91 #[.slice a1 n c, .slice a2 m d] w fun e w' => (∃ A cap, e = .returned (.tuple #[.slice A (Ml l u).length cap, .bool (Mn l u)]) ∧ NRun w' A (Ml l u).length cap (Ml l u)) ∧ Below w.heap.size w w' := by
  have HL := hid hl
  have HU := hid hu
  have HK := hid hk
  have HK' := hid hk'
  obtain ⟨l1, l2⟩ := hl.lens
  obtain ⟨u1, u2⟩ := hu.lens
  have EL := hid l1
  have EU := hid u1
  have KN : Hid (Mn l u = false → ∀ W, NRun W none 0 0 (Ml l u) ∧ (Ml l u).length = 0) := hid (fun h W => by rw [ml_no h]; exact ⟨nrun_nil W, rfl⟩)
  clear hl hu hk hk' l1 u1
  have t1 : True := trivial
  cases hg : gd l with
  | false =>
    have HG := hid hg
    have HJ := hid (mn_no1 (b := u) hg)
    clear hg
    go_enter Try.func91, Try.ntmps91
    go_wp2_with (first
      | (go_at_call 100; refine (good_m a1 n c l false _ HL.out HK.out HG).mono ?_; rintro e w1 ⟨rfl, hb1⟩; have B1 := hid hb1; clear hb1))
    go_ret2
    rw [HJ.out, (KN.out HJ.out w).2]
    exact ⟨⟨none, 0, rfl, (KN.out HJ.out _).1⟩, B1.out⟩
  | true =>
    have HG := hid hg
    have HB := hid (gd_iff.1 hg)
    clear hg
    cases hg' : gd u with
    | false =>
      have HG2 := hid hg'
      have HJ := hid (mn_no2 (a := l) hg')
      clear hg'
      go_enter Try.func91, Try.ntmps91
      go_wp2_with (first
        | (go_at_call 100; clear t1; refine (good_m a1 n c l true _ HL.out HK.out HG).mono ?_; rintro e w1 ⟨rfl, hb1⟩; have B1 := hid hb1; clear hb1)
        | (go_at_call 100; refine (good_m a2 m d u false _ (HU.out.below B1.out) HK'.out HG2).mono ?_; rintro e w2 ⟨rfl, hb2⟩; have B2 := hid (bt B1.out hb2); clear hb2))
      go_ret2
      rw [HJ.out, (KN.out HJ.out w).2]
      exact ⟨⟨none, 0, rfl, (KN.out HJ.out _).1⟩, B2.out⟩
    | true =>
      have HG2 := hid hg'
      have HB' := hid (gd_iff.1 hg')
      clear hg'
      go_enter Try.func91, Try.ntmps91
      go_upto_region 3 with (first
        | (go_at_call 100; clear t1; refine (good_m a1 n c l true _ HL.out HK.out HG).mono ?_; rintro e w1 ⟨rfl, hb1⟩; have B1 := hid hb1; clear hb1)
        | (go_at_call 100; refine (good_m a2 m d u true _ (HU.out.below B1.out) HK'.out HG2).mono ?_; rintro e w2 ⟨rfl, hb2⟩; have B2 := hid (bt B1.out hb2); clear hb2))
      have O2 : Hid (OwnW w w2 (.slice none 0 0) []) := hid ⟨B2.out, own_nil _ _⟩
      clear B1 B2
      go_wp2
      go_loopw [1, 6, 19] (fun sb so i wr => ∃ (k j : Nat) (B : Option Addr) (r s : Nat) (v : Value) (out : List Rn), k ≤ n ∧ j ≤ m ∧ i = .int .i64 k ∧ sb = .slice B r s ∧ v = so ∧ Hid (r = m - j) ∧ Hid (NRun w B r s (u.drop j)) ∧ Hid (MI l u out k j) ∧ Hid (OwnW w wr v out) ∧ Hid (out.length ≤ k)) (fun _ _ i _ => n - (intOf i).toNat)
      case atStart => exact ⟨0, 0, a2, m, d, _, [], by omega, by omega, rfl, rfl, rfl, hid rfl, HU, hid (mi_0 l u), O2, hid (Nat.le_refl _)⟩
      case round =>
        obtain ⟨k, j, B, r, s, v, out, hkn, hjm, rfl, rfl, rfl, ER, HN, MM, OW, HLo⟩ := hrel
        have hk0 : (0 : Int) ≤ (k : Int) := by omega
        have hr1 : r ≤ 1000 := by have := ER.out; omega
        have HLn : Hid (out.length ≤ 1000) := hid (by have := HLo.out; omega)
        by_cases hlt : k < n
        · have hki : (k : Int) < (n : Int) := by omega
          obtain ⟨b, off, x0, x1, rfl, hb, hrr, p0, p1⟩ := HL.out.pick OW.out.1 hlt
          have HR := hid hrr
          have hx1 : 1 ≤ x1 := HB.out.2.1 _ (List.mem_of_getElem? hrr)
          have hx2 : x1 ≤ 1099511627776 := by have h := bag_at HB.out hrr; have h1 := h.2.2.1; have h2 := h.2.2.2.1; simp only at h1; omega
          have BX : Hid (OwnW w (wr.alloc (.cells #[.int .i64 x0, .int .i64 x1] 65)) v out) := hid (OW.out.alloc _)
          have hbw : b < wr.heap.size := Nat.lt_of_lt_of_le hb OW.out.1.size
          clear hrr
          have hneg : decide (x1 < 0) = false := decide_eq_false (by omega)
          have hpos : decide (0 < x1) = true := decide_eq_true (by omega)
          by_cases hr0 : r = 0
          · have HNE : Hid (∀ y, u[j]? = some y → ¬ x0 = y.1) := hid (fun y hy => by have := (List.getElem?_eq_some_iff.1 hy).1; have := ER.out; have := EU.out; omega)
            subst hr0
            go_wp2
            go_quiet (fail)
            have OD : Hid (OwnW w ((wr.alloc (.cells #[.int .i64 x0, .int .i64 x1] 65)).drewN nq) v out ∧ ((wr.alloc (.cells #[.int .i64 x0, .int .i64 x1] 65)).drewN nq).heap[wr.heap.size]? = some (.cells #[.int .i64 x0, .int .i64 x1] 65)) := hid ⟨⟨bdrewN BX.out.1, BX.out.2⟩, heap_alloc_new wr _⟩
            clear p0 p1
            generalize (wr.alloc (.cells #[.int .i64 x0, .int .i64 x1] 65)).drewN nq = W at OD ⊢
            obtain ⟨c0, c1⟩ := box_two OD.out.2
            go_wp2_with (at_builtin; refine append_run rfl (.tmp 51) (.tmp 53) rfl w.heap.size v out _ x0 x1 rfl (OD.out.1.alloc (.cells #[.int .i64 x0, .int .i64 x1] 65)).2 rfl (hnew (by simp)) (by have := HLn.out; omega) (by have := (OD.out.1.alloc (.cells #[.int .i64 x0, .int .i64 x1] 65)).1.size; simp at this ⊢; omega) ?_; intro u1 w1 ho1 hg1; have O1 := hid (OwnW.grown (OD.out.1.alloc (.cells #[.int .i64 x0, .int .i64 x1] 65)) hg1 ho1); clear ho1 hg1)
            go_roundw
            case rel => exact ⟨k + 1, j, B, 0, s, u1, _, by omega, hjm, by go_num, rfl, rfl, ER, HN, hid (mi_keep MM.out HB.out.1 HB.out.2.1 HR.out HNE.out), O1, hid (by rw [List.length_append]; have := HLo.out; simp; omega)⟩
            case measure => simp [intOf]; omega
          · have hrd : decide ((0 : Int) < (r : Int)) = true := decide_eq_true (by omega)
            have hri : (0 : Int) < (r : Int) := by omega
            have hrn : decide (0 < r) = true := decide_eq_true (by omega)
            have hrm : 0 < r := by omega
            obtain ⟨b', off', y0, y1, e2, hb', hqq, q0, q1⟩ := HN.out.pick BX.out.1 (k := 0) (by omega)
            subst e2
            simp only [Nat.zero_mul, Nat.add_zero] at q0 q1
            rw [List.getElem?_drop, Nat.add_zero] at hqq
            have HQ := hid hqq
            have hy1 : 1 ≤ y1 := HB'.out.2.1 _ (List.mem_of_getElem? hqq)
            have hy2 : y1 ≤ 1099511627776 := by have h := bag_at HB'.out hqq; have h1 := h.2.2.1; have h2 := h.2.2.2.1; simp only at h1; omega
            clear hqq
            by_cases he : y0 = x0
            · have he' := he.symm
              subst he'
              obtain ⟨A1, hsl, hr1'⟩ := restN HN.out 1 (by omega)
              have hsl' : ∀ w', (Instr.slice 23 (.slice (some ⟨b', off', none⟩) r s) (some (.int .i64 1)) none none).run Try.prog w' = .ok (.slice A1 (r - 1) (s - 1)) w' := hsl
              rw [List.drop_drop, Nat.add_comm] at hr1'
              have R1 : Hid (NRun w A1 (r - 1) (s - 1) (u.drop (j + 1))) := hid (by rw [Nat.add_comm]; exact hr1')
              clear hsl hr1'
              have ER1 : Hid (r - 1 = m - (j + 1)) := hid (by have := ER.out; omega)
              have hjm' : j + 1 ≤ m := by have := ER.out; omega
              have wsub : IntKind.i64.wrap (x1 - y1) = x1 - y1 := IntWalk.i64_in _ (by omega)
              clear hneg hpos
              go_wp2
              go_quiet (fail)
              have FR : Hid (∀ q, OwnW w ((wr.alloc (.cells #[.int .i64 x0, .int .i64 x1] 65)).drewN q) v out ∧ ((wr.alloc (.cells #[.int .i64 x0, .int .i64 x1] 65)).drewN q).heap[wr.heap.size]? = some (.cells #[.int .i64 x0, .int .i64 x1] 65) ∧ ((wr.alloc (.cells #[.int .i64 x0, .int .i64 x1] 65)).drewN q).cell? ⟨b', off', none⟩ = some (.int .i64 x0) ∧ ((wr.alloc (.cells #[.int .i64 x0, .int .i64 x1] 65)).drewN q).cell? ⟨b', off' + 1, none⟩ = some (.int .i64 y1)) := hid (fun q => ⟨⟨bdrewN BX.out.1, BX.out.2⟩, heap_alloc_new wr _, q0, q1⟩)
              have OD := hid (FR.out nq)
              clear p0 p1 q0 q1 FR
              generalize (wr.alloc (.cells #[.int .i64 x0, .int .i64 x1] 65)).drewN nq = W at OD ⊢
              obtain ⟨c0, c1⟩ := box_two OD.out.2.1
              have q0 := OD.out.2.2.1
              have q1 := OD.out.2.2.2
              have f1 := frozen_of_row W wr.heap.size 1 _ _ OD.out.2.1
              go_wp2
              go_region
              have OD3 : Hid (OwnW w (W.setCell ⟨wr.heap.size, 1, none⟩ (.int .i64 (x1 - y1))).drew v out ∧ (W.setCell ⟨wr.heap.size, 1, none⟩ (.int .i64 (x1 - y1))).drew.heap[wr.heap.size]? = some (.cells #[.int .i64 x0, .int .i64 (x1 - y1)] 65)) := hid ⟨⟨bdrew (OD.out.1.1.setCell OW.out.1.size _), own_other OD.out.1.2 (gdrew1 (set_grown W wr.heap.size 1 _)) (fun g hg e => by have := (OW.out.2.lt g hg).2; omega)⟩, heap_setCell_same W wr.heap.size 1 _ _ _ OD.out.2.1⟩
              clear c0 c1 q0 q1 f1
              generalize (W.setCell ⟨wr.heap.size, 1, none⟩ (.int .i64 (x1 - y1))).drew = W3 at OD3 ⊢
              obtain ⟨c0, c1⟩ := box_two OD3.out.2
              by_cases hlo : x1 < y1
              · have hd1 : decide (x1 - y1 < 0) = true := decide_eq_true (by omega)
                have HJ := hid (mn_no3 (mi_bad HB.out.1 HR.out HQ.out hlo))
                go_wp2
                go_ret2
                rw [HJ.out, (KN.out HJ.out w).2]
                exact ⟨⟨none, 0, rfl, (KN.out HJ.out _).1⟩, OD3.out.1.1⟩
              · have hd1 : decide (x1 - y1 < 0) = false := decide_eq_false (by omega)
                by_cases hz : y1 = x1
                · have hd2 : decide (0 < x1 - y1) = false := decide_eq_false (by omega)
                  have hd3 : decide (y1 < x1) = false := decide_eq_false (by omega)
                  have HZ := hid hz
                  clear hz hlo
                  go_wp2
                  go_roundw
                  case rel => exact ⟨k + 1, j + 1, A1, r - 1, s - 1, v, out, by omega, hjm', by go_num, rfl, rfl, ER1, R1, hid (mi_gone MM.out HB.out.1 HB'.out.1 HR.out HQ.out HZ.out), hid OD3.out.1, hid (by have := HLo.out; omega)⟩
                  case measure => simp [intOf]; omega
                · have hd2 : decide (0 < x1 - y1) = true := decide_eq_true (by omega)
                  have hd3 : decide (y1 < x1) = true := decide_eq_true (by omega)
                  have HZ : Hid (y1 < x1) := hid (by omega)
                  clear hz hlo
                  go_wp2_with (at_builtin; refine append_run rfl (.tmp 51) (.tmp 53) rfl w.heap.size v out _ x0 (x1 - y1) rfl (OD3.out.1.alloc (.cells #[.int .i64 x0, .int .i64 (x1 - y1)] 65)).2 rfl (hnew (by simp)) (by have := HLn.out; omega) (by have := (OD3.out.1.alloc (.cells #[.int .i64 x0, .int .i64 (x1 - y1)] 65)).1.size; simp at this ⊢; omega) ?_; intro u1 w1 ho1 hg1; have O1 := hid (OwnW.grown (OD3.out.1.alloc (.cells #[.int .i64 x0, .int .i64 (x1 - y1)] 65)) hg1 ho1); clear ho1 hg1)
                  go_roundw
                  case rel => exact ⟨k + 1, j + 1, A1, r - 1, s - 1, u1, _, by omega, hjm', by go_num, rfl, rfl, ER1, R1, hid (mi_sub MM.out HB.out.1 HB'.out.1 HR.out HQ.out HZ.out), O1, hid (by rw [List.length_append]; have := HLo.out; simp; omega)⟩
                  case measure => simp [intOf]; omega
            · have hed : (y0 == x0) = false := by simpa using he
              have HNE : Hid (∀ y, u[j]? = some y → ¬ x0 = y.1) := hid (fun y hy => by rw [HQ.out] at hy; cases hy; exact fun e => he e.symm)
              clear he
              go_wp2
              go_quiet (fail)
              have OD : Hid (OwnW w ((wr.alloc (.cells #[.int .i64 x0, .int .i64 x1] 65)).drewN nq) v out ∧ ((wr.alloc (.cells #[.int .i64 x0, .int .i64 x1] 65)).drewN nq).heap[wr.heap.size]? = some (.cells #[.int .i64 x0, .int .i64 x1] 65)) := hid ⟨⟨bdrewN BX.out.1, BX.out.2⟩, heap_alloc_new wr _⟩
              clear p0 p1 q0 q1
              generalize (wr.alloc (.cells #[.int .i64 x0, .int .i64 x1] 65)).drewN nq = W at OD ⊢
              obtain ⟨c0, c1⟩ := box_two OD.out.2
              go_wp2_with (at_builtin; refine append_run rfl (.tmp 51) (.tmp 53) rfl w.heap.size v out _ x0 x1 rfl (OD.out.1.alloc (.cells #[.int .i64 x0, .int .i64 x1] 65)).2 rfl (hnew (by simp)) (by have := HLn.out; omega) (by have := (OD.out.1.alloc (.cells #[.int .i64 x0, .int .i64 x1] 65)).1.size; simp at this ⊢; omega) ?_; intro u1 w1 ho1 hg1; have O1 := hid (OwnW.grown (OD.out.1.alloc (.cells #[.int .i64 x0, .int .i64 x1] 65)) hg1 ho1); clear ho1 hg1)
              go_roundw
              case rel => exact ⟨k + 1, j, _, r, s, u1, _, by omega, hjm, by go_num, rfl, rfl, ER, HN, hid (mi_keep MM.out HB.out.1 HB.out.2.1 HR.out HNE.out), O1, hid (by rw [List.length_append]; have := HLo.out; simp; omega)⟩
              case measure => simp [intOf]; omega
        · have hkf : decide ((k : Int) < (n : Int)) = false := decide_eq_false (by omega)
          by_cases hr0 : r = 0
          · have hdn := mi_done MM.out HB.out.1 HB.out.2.1 HB'.out.2.1 (by have := EL.out; omega) (by have := ER.out; have := EU.out; omega)
            have HJ := hid (mn_yes HB.out HB'.out hdn.1)
            have HE : Hid (out = Ml l u) := hid (by rw [ml_yes HJ.out]; exact hdn.2)
            clear hdn
            subst hr0
            obtain ⟨A9, cap, e, hr9⟩ := own_any OW.out.2
            subst e
            have HR9 := hid hr9
            clear hr9
            go_wp2
            go_ret2
            rw [HJ.out, ← HE.out]
            exact ⟨⟨A9, cap, rfl, HR9.out⟩, OW.out.1⟩
          · have hrd : decide ((0 : Int) < (r : Int)) = true := decide_eq_true (by omega)
            have hrn : decide (0 < r) = true := decide_eq_true (by omega)
            have hjl : j < u.length := by have := ER.out; have := EU.out; omega
            have HJ := hid (mn_no3 (mi_end MM.out HB'.out.2.1 (by have := EL.out; omega) (List.getElem?_eq_getElem hjl)))
            clear hjl
            go_wp2
            go_ret2
            rw [HJ.out, (KN.out HJ.out w).2]
            exact ⟨⟨none, 0, rfl, (KN.out HJ.out _).1⟩, OW.out.1⟩

end Go.Proofs.Ytjkkajhjcinalaa

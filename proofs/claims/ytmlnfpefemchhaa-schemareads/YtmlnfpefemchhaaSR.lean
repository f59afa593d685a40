/-
  What the document's own Same returns.
  Conditions: as each theorem states them.
-/
import Derived.Test.YtmlnfpefemchhaaSF
import Derived.Deep.Cut
import Derived.Deep.DeepCutAuto
import Derived.Deep.CutRange
namespace Go.Proofs.Ytmlnfpefemchhaa
open Go.ChangeShapes Go.WideShapes Go.ChangeAt Go.RowKit
set_option linter.unusedVariables false
set_option linter.unusedSimpArgs false

theorem rints_m (a b : Option Addr) (n c n2 c2 : Nat) (l l2 : List Int) (v : Bool) (w : World) (h1 : IRow .i64 w a n c l) (h2 : IRow .i64 w b n2 c2 l2) (hv : Hid (decide (l = l2) = v)) :
    Calls Try.prog 51 #[.slice a n c, .slice b n2 c2] w fun e w' => e = .returned (.bool v) ∧ Below w.heap.size w w' := by
  have := rints_any a b n c n2 c2 l l2 w h1 h2
  rw [hv.out] at this
  exact this
theorem same_step {wr w' w'' : World} {Q : World → Prop} {R : Prop} (hb : Below w'.heap.size w' w'') (h : Below wr.heap.size wr w' ∧ R) (K : Hid (∀ x, Below wr.heap.size wr x → Q x)) : Q w'' := K.out _ (bt h.1 hb)
theorem same_drew {wr : World} {Q : World → Prop} (K : Hid (∀ x, Below wr.heap.size wr x → Q x)) : Q wr.drew := K.out _ (Below.refl _ _).drew
theorem ret_same {ds es : Dims} {M N : Int} {v : Bool} (hv : sameC ds M es N = v) : Ending.returned (.bool v) = .returned (.bool (sameC ds M es N)) := by rw [hv]
/-- Two dimensions in blocks of one's own, in either order. -/
def D2 (w wr : World) (Dx Dy : Nat) (s u s' u' : Value) : Prop := Dx < wr.heap.size ∧ Dy < wr.heap.size ∧ Below w.heap.size w wr ∧ wr.cell? ⟨Dx, 0, none⟩ = some s ∧ wr.cell? ⟨Dx, 1, none⟩ = some u ∧ wr.cell? ⟨Dy, 0, none⟩ = some s' ∧ wr.cell? ⟨Dy, 1, none⟩ = some u'
theorem D2.step {w wr w' : World} {Dx Dy : Nat} {s u s' u' : Value} (h : D2 w wr Dx Dy s u s' u') (hb : Below wr.heap.size wr w') : D2 w w' Dx Dy s u s' u' := by
  obtain ⟨h0, h1, h2, h3, h4, h5, h6⟩ := h
  exact ⟨Nat.lt_of_lt_of_le h0 hb.size, Nat.lt_of_lt_of_le h1 hb.size, bt h2 hb, ((bcell hb).1 _ _ h0).trans h3, ((bcell hb).1 _ _ h0).trans h4, ((bcell hb).1 _ _ h1).trans h5, ((bcell hb).1 _ _ h1).trans h6⟩
theorem d2_new (w : World) (s u s' u' : Value) (t t1 : TypeId) : D2 w ((w.alloc (.cells #[s, u] t)).alloc (.cells #[s', u'] t1)).drew w.heap.size (w.heap.size + 1) s u s' u' := by
  have h := b2_new w s u s' u' t t1
  obtain ⟨h0, h1, h2, h3, h4, h5⟩ := h
  exact ⟨by simp; omega, h0, h1.drew, h2, h3, h4, h5⟩
theorem d2_new' (w : World) (s u s' u' : Value) (t t1 : TypeId) : D2 w ((w.alloc (.cells #[s', u'] t)).alloc (.cells #[s, u] t1)).drew (w.heap.size + 1) w.heap.size s u s' u' := by
  have h := b2_new w s' u' s u t t1
  obtain ⟨h0, h1, h2, h3, h4, h5⟩ := h
  exact ⟨h0, by simp; omega, h1.drew, h4, h5, h2, h3⟩
theorem D2.drew {w wr : World} {Dx Dy : Nat} {s u s' u' : Value} (h : D2 w wr Dx Dy s u s' u') (n : Nat) : D2 w (wr.drewN n) Dx Dy s u s' u' := ⟨h.1, h.2.1, below_drewN h.2.2.1 n, h.2.2.2⟩

set_option maxHeartbeats 2000000 in
set_option maxRecDepth 100000 in
theorem rsame_any (a b : Option Addr) (n c n2 c2 : Nat) (ds es : Dims) (M N : Int) (w : World) (h1 : Cat w a n c ds) (h2 : Cat w b n2 c2 es) :
    Calls Try.prog 14 #[.agg #[.slice a n c, .int .i64 M], .agg #[.slice b n2 c2, .int .i64 N]] w fun e w' => e = .returned (.bool (sameC ds M es N)) ∧ Below w.heap.size w w' := by
  obtain ⟨e1, e2⟩ := h1.lens
  obtain ⟨e3, e4⟩ := h2.lens
  have E1 : Hid (n = ds.length) := e1
  have E3 : Hid (n2 = es.length) := e3
  have H1 : Hid (Cat w a n c ds) := h1
  have H2 : Hid (Cat w b n2 c2 es) := h2
  have BX : Hid (B2 w ((w.alloc (.cells #[.slice a n c, .int .i64 M] 25)).alloc (.cells #[.slice b n2 c2, .int .i64 N] 25)) (.slice a n c) (.int .i64 M) (.slice b n2 c2) (.int .i64 N)) := b2_new _ _ _ _ _ _ _
  clear h1 h2 e1 e3
  by_cases hM : M = N
  · have hM1 : (M != N) = false := by simp [hM]
    have HMN : Hid (M = N) := hM
    clear hM
    by_cases hn : n = n2
    · have hn2 : ((n : Int) != (n2 : Int)) = false := by simp; omega
      have HN : Hid (n = n2) := hn
      clear hn
      go_enter Try.func14, Try.ntmps14
      go_wp2
      go_loopw [5] (fun i wr => ∃ k : Nat, k ≤ n ∧ i = .int .i64 k ∧ Hid (∀ j, j < k → ds.getD j ([], []) = es.getD j ([], [])) ∧ Hid (B2 w wr (.slice a n c) (.int .i64 M) (.slice b n2 c2) (.int .i64 N))) (fun i _ => n - (intOf i).toNat)
      case atStart => exact ⟨0, Nat.zero_le _, rfl, hid fun j hj => by omega, BX⟩
      case round =>
        obtain ⟨k, hk, rfl, hall, BX1⟩ := hrel
        rename World => Wr
        obtain ⟨sz, bel, q0, q1, q2, q3⟩ := BX1.out
        by_cases hlt : k < n
        · have hlt2 : (k : Int) < (n : Int) := by omega
          have hk2 : k < n2 := by rw [← HN.out]; exact hlt
          have hlt3 : (k : Int) < (n2 : Int) := by omega
          obtain ⟨b1, off1, rfl, hb1, sa, sl, sc, ua, ul, uc, S, U, d1, d2, D1, L1⟩ := H1.out.get bel hlt
          obtain ⟨b2, off2, rfl, hb2, ta, tl, tc, va, vl, vc, T, V, d3, d4, D2', L2⟩ := H2.out.get bel hk2
          have hb1' : b1 < Wr.heap.size := Nat.lt_of_lt_of_le hb1 bel.size
          have hb2' : b2 < Wr.heap.size := Nat.lt_of_lt_of_le hb2 bel.size
          have ne1 := World.new_ne Wr _ q0
          have ne2 := World.new_ne Wr _ q2
          have ne3 := World.new_ne Wr _ d1
          have ne4 := World.new_ne Wr _ d3
          have ne5 := World.new_ne Wr _ d2
          have ne6 := World.new_ne Wr _ d4
          go_upto_region 6 with fail
          go_cut [6, 7] (fun p q wx => ∃ Dx Dy, p = .pointer (some ⟨Dx, 0, none⟩) ∧ q = .pointer (some ⟨Dy, 0, none⟩) ∧ Hid (D2 Wr wx Dx Dy (.slice sa sl sc) (.slice ua ul uc) (.slice ta tl tc) (.slice va vl vc)))
          case first =>
            go_region_held3 (fun w' => w'.cell? ⟨w.heap.size, 0, none⟩ = some (.slice (some ⟨b1, off1, none⟩) n c) ∧ w'.cell? ⟨w.heap.size + 1, 0, none⟩ = some (.slice (some ⟨b2, off2, none⟩) n2 c2) ∧ w'.cell? ⟨b1, off1 + k * 2, none⟩ = some (.slice sa sl sc) ∧ w'.cell? ⟨b1, off1 + k * 2 + 1, none⟩ = some (.slice ua ul uc) ∧ w'.cell? ⟨b2, off2 + k * 2, none⟩ = some (.slice ta tl tc) ∧ w'.cell? ⟨b2, off2 + k * 2 + 1, none⟩ = some (.slice va vl vc))
              (first | assumption | go_keep)
              (fail)
            all_goals
              go_wp2_with fail
              go_meet
              first
                | exact ⟨_, _, rfl, rfl, hid (d2_new _ _ _ _ _ _ _)⟩
                | exact ⟨_, _, rfl, rfl, hid (d2_new' _ _ _ _ _ _ _)⟩
          case rest =>
            obtain ⟨Dx, Dy, rfl, rfl, DD⟩ := hcut
            obtain ⟨x0, x1, x2, x3, x4, x5, x6⟩ := DD.out
            clear q0 q1 q2 q3 d1 d2 d3 d4
            have HWc : Hid (∀ wx, Below Wr.heap.size Wr wx → B2 w wx (.slice (some ⟨b1, off1, none⟩) n c) (.int .i64 M) (.slice (some ⟨b2, off2, none⟩) n2 c2) (.int .i64 N)) := hid fun wx hb => BX1.out.step hb
            have lU := D1.out.lens
            have lV := D2'.out.lens
            obtain ⟨lu1, lu2, lu3, lu4⟩ := lU
            obtain ⟨lv1, lv2, lv3, lv4⟩ := lV
            have E4 : Hid (ul = U.length) := lu2
            have E5 : Hid (vl = V.length) := lv2
            clear lu1 lu2 lv1 lv2
            obtain ⟨p, hp⟩ : ∃ p, decide (S = T) = p := ⟨_, rfl⟩
            have HP : Hid (decide (S = T) = p) := hp
            clear hp
            cases p with
            | false =>
              go_wp2_with (go_at_call 51; refine (rints_m _ _ _ _ _ _ S T false _ (D1.out.below x2).1 (D2'.out.below x2).1 HP).mono ?_; rintro e w5 ⟨rfl, hb5⟩)
              go_ret
              exact ⟨ret_same (sameC_no2 (fun e => by subst e; have h := L1.out.symm.trans L2.out; cases h; have := HP.out; simp at this)), bt (HWc.out _ x2).2.1 hb5⟩
            | true =>
              by_cases hul : ul = vl
              · have hu2 : ((ul : Int) != (vl : Int)) = false := by simp; omega
                have HUL : Hid (ul = vl) := hul
                clear hul
                go_wp2_with (go_at_call 51; refine (rints_m _ _ _ _ _ _ S T true _ (D1.out.below x2).1 (D2'.out.below x2).1 HP).mono ?_; rintro e w5 ⟨rfl, hb5⟩; have DD5 : Hid (D2 Wr w5 Dx Dy (.slice sa sl sc) (.slice ua ul uc) (.slice ta tl tc) (.slice va vl vc)) := DD.out.step hb5; obtain ⟨_, _, _, y3, y4, y5, y6⟩ := DD5.out)
                go_loopw [8] (fun i wx => ∃ m : Nat, m ≤ ul ∧ i = .int .i64 m ∧ Hid (∀ j, j < m → U.getD j [] = V.getD j []) ∧ Hid (D2 Wr wx Dx Dy (.slice sa sl sc) (.slice ua ul uc) (.slice ta tl tc) (.slice va vl vc))) (fun i _ => ul - (intOf i).toNat)
                case atStart => exact ⟨0, Nat.zero_le _, rfl, hid fun j hj => by omega, DD5⟩
                case round =>
                  obtain ⟨m, hm, rfl, hall2, DD6⟩ := hrel
                  obtain ⟨z0, z1, z2, z3, z4, z5, z6⟩ := DD6.out
                  by_cases hlm : m < ul
                  · have hm1 : (m : Int) < (ul : Int) := by omega
                    have hm2 : m < vl := by rw [← HUL.out]; exact hlm
                    have hm3 : (m : Int) < (vl : Int) := by omega
                    obtain ⟨b5, off5, rfl, hb5', ra, rl, rc, l, r1, R1, LL1⟩ := D1.out.2.1.get z2 hlm
                    obtain ⟨b6, off6, rfl, hb6', ta', tl', tc', l', r2, R2, LL2⟩ := D2'.out.2.1.get z2 hm2
                    obtain ⟨v, hv⟩ : ∃ v, decide (l = l') = v := ⟨_, rfl⟩
                    have HV : Hid (decide (l = l') = v) := hv
                    clear hv
                    have hb5'' : b5 < wr.heap.size := Nat.lt_of_lt_of_le hb5' z2.size
                    have hb6'' : b6 < wr.heap.size := Nat.lt_of_lt_of_le hb6' z2.size
                    have KS : Hid (∀ w', Below wr.heap.size wr w' → Below wr.heap.size wr w' ∧ w'.cell? ⟨Dx, 1, none⟩ = some (.slice (some ⟨b5, off5, none⟩) ul uc) ∧ w'.cell? ⟨Dy, 1, none⟩ = some (.slice (some ⟨b6, off6, none⟩) vl vc) ∧ w'.cell? ⟨b5, off5 + m, none⟩ = some (.slice ra rl rc) ∧ w'.cell? ⟨b6, off6 + m, none⟩ = some (.slice ta' tl' tc')) :=
                      hid fun w' hB => ⟨hB, ((bcell hB).1 _ _ z0).trans z4, ((bcell hB).1 _ _ z1).trans z6, ((bcell hB).1 _ _ hb5'').trans r1, ((bcell hB).1 _ _ hb6'').trans r2⟩
                    cases v with
                    | true =>
                      go_wp2
                      go_region_held3 (fun w' => Below wr.heap.size wr w' ∧ w'.cell? ⟨Dx, 1, none⟩ = some (.slice (some ⟨b5, off5, none⟩) ul uc) ∧ w'.cell? ⟨Dy, 1, none⟩ = some (.slice (some ⟨b6, off6, none⟩) vl vc) ∧ w'.cell? ⟨b5, off5 + m, none⟩ = some (.slice ra rl rc) ∧ w'.cell? ⟨b6, off6 + m, none⟩ = some (.slice ta' tl' tc'))
                        (first | assumption | exact same_drew KS | exact same_step (by assumption) (by assumption) KS)
                        (first
                          | (go_at_call 51; refine (rints_m _ _ _ _ _ _ l l' true _ (R1.out.below (And.left (by assumption))) (R2.out.below (And.left (by assumption))) HV).mono ?_; rintro e w7 ⟨rfl, hb7⟩))
                      go_wp2
                      go_roundw
                      case rel =>
                        refine ⟨m + 1, by omega, by go_num, hid fun j hj => ?_, DD6.out.step (undrew hb7)⟩
                        by_cases e : j = m
                        · subst e; rw [LL1.out, LL2.out]; exact of_decide_eq_true HV.out
                        · exact hall2.out j (by omega)
                      case measure => simp [intOf]; omega
                    | false =>
                      go_wp2
                      go_region_held3 (fun w' => Below wr.heap.size wr w' ∧ w'.cell? ⟨Dx, 1, none⟩ = some (.slice (some ⟨b5, off5, none⟩) ul uc) ∧ w'.cell? ⟨Dy, 1, none⟩ = some (.slice (some ⟨b6, off6, none⟩) vl vc) ∧ w'.cell? ⟨b5, off5 + m, none⟩ = some (.slice ra rl rc) ∧ w'.cell? ⟨b6, off6 + m, none⟩ = some (.slice ta' tl' tc'))
                        (first | assumption | exact same_drew KS | exact same_step (by assumption) (by assumption) KS)
                        (first
                          | (go_at_call 51; refine (rints_m _ _ _ _ _ _ l l' false _ (R1.out.below (And.left (by assumption))) (R2.out.below (And.left (by assumption))) HV).mono ?_; rintro e w7 ⟨rfl, hb7⟩))
                      go_wp2
                      go_ret
                      exact ⟨ret_same (sameC_no2 (fun e => by subst e; have h := L1.out.symm.trans L2.out; cases h; have h2 := LL1.out.symm.trans LL2.out; subst h2; have := HV.out; simp at this)), bt (HWc.out _ z2).2.1 (undrew hb7)⟩
                  · obtain rfl : m = ul := by omega
                    go_wp2
                    go_roundw
                    case rel =>
                      refine ⟨k + 1, by omega, by go_num, hid fun j hj => ?_, HWc.out _ z2⟩
                      by_cases e : j = k
                      · subst e
                        rw [L1.out, L2.out, of_decide_eq_true HP.out, list_ext2 (l := U) (l2 := V) (by rw [← E4.out, ← E5.out]; exact HUL.out) (by rw [← E4.out]; exact hall2.out)]
                      · exact hall.out j (by omega)
                    case measure => simp [intOf]; omega
              · have hu2 : ((ul : Int) != (vl : Int)) = true := by simp; omega
                go_wp2_with (go_at_call 51; refine (rints_m _ _ _ _ _ _ S T true _ (D1.out.below x2).1 (D2'.out.below x2).1 HP).mono ?_; rintro e w5 ⟨rfl, hb5⟩; have DD5 : Hid (D2 Wr w5 Dx Dy (.slice sa sl sc) (.slice ua ul uc) (.slice ta tl tc) (.slice va vl vc)) := DD.out.step hb5; obtain ⟨_, _, _, y3, y4, y5, y6⟩ := DD5.out)
                go_ret
                exact ⟨ret_same (sameC_no2 (fun e => by subst e; have h := L1.out.symm.trans L2.out; cases h; exact hul (by rw [E4.out, E5.out]))), bt (HWc.out _ x2).2.1 hb5⟩
        · obtain rfl : k = n := by omega
          go_wp2
          go_ret
          exact ⟨ret_same (sameC_yes HMN.out (list_ext3 (by rw [← E1.out, ← E3.out]; exact HN.out) (by rw [← E1.out]; exact hall.out))), bel⟩
    · have hn2 : ((n : Int) != (n2 : Int)) = true := by simp; omega
      go_enter Try.func14, Try.ntmps14
      go_wp2
      go_ret
      exact ⟨ret_same (sameC_no2 (fun e => hn (by rw [E1.out, E3.out, e]))), BX.out.2.1⟩
  · have hM1 : (M != N) = true := by simp [hM]
    go_enter Try.func14, Try.ntmps14
    go_wp2
    go_ret
    exact ⟨ret_same (sameC_no1 hM), BX.out.2.1⟩
theorem rsame_m (a b : Option Addr) (n c n2 c2 : Nat) (ds es : Dims) (M N : Int) (v : Bool) (w : World) (h1 : Cat w a n c ds) (h2 : Cat w b n2 c2 es) (hv : Hid (sameC ds M es N = v)) :
    Calls Try.prog 14 #[.agg #[.slice a n c, .int .i64 M], .agg #[.slice b n2 c2, .int .i64 N]] w fun e w' => e = .returned (.bool v) ∧ Below w.heap.size w w' := by
  have := rsame_any a b n c n2 c2 ds es M N w h1 h2
  rw [hv.out] at this
  exact this

end Go.Proofs.Ytmlnfpefemchhaa

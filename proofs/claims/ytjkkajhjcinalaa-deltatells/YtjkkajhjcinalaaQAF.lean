/-
  -
  -
  -
  -
  -
  -
  Conditions: as each theorem states them.
-/
import Derived.Deep.RegionLaw
import Derived.Deep.MidRow
import Derived.Test.YtjkkajhjcinalaaQAC
import Derived.Test.YtjkkajhjcinalaaQAD
import Derived.Test.YtjkkajhjcinalaaQAE
namespace Go.Proofs.Ytjkkajhjcinalaa
open Go.ChangeShapes Go.WideShapes Go.ChangeAt Go.RowKit
set_option linter.unusedVariables false
set_option linter.unusedSimpArgs false
set_option maxRecDepth 100000

/-- What freshly told runs lie in is new. -/
def FarN (w : World) (a : Option Addr) (n : Nat) : Prop := 0 < n → ∀ b off, a = some ⟨b, off, none⟩ → w.heap.size ≤ b
theorem farN_0 (w : World) (a : Option Addr) : FarN w a 0 := fun h => by cases h
theorem FarN.mono {w w' : World} {a : Option Addr} {n : Nat} (h : FarN w' a n) (hs : w.heap.size ≤ w'.heap.size) : FarN w a n := fun h0 b off e => Nat.le_trans hs (h h0 b off e)
/-- Runs whose block is none of those below: another block's stores don't turn them. -/
theorem NRun.apart {w w' : World} {a : Option Addr} {n c G : Nat} {l : List Rn} (h : NRun w a n c l) (hg : w.grownBy w' (some G)) (hne : 0 < n → ∀ b off, a = some ⟨b, off, none⟩ → ¬ b = G) : NRun w' a n c l := by
  obtain ⟨h1, h2, h3, h4, h5⟩ := h
  refine ⟨h1, h2, h3, h4, fun h0 => ?_⟩
  obtain ⟨b, off, e, hlt, hl⟩ := h5 h0
  exact ⟨b, off, e, Nat.lt_of_lt_of_le hlt hg.size, fun j r hj i v hi => (grown_cell hg hlt (fun e' => hne h0 b off e (by cases e'; rfl))).trans (hl j r hj i v hi)⟩

theorem dmeas_m (m : Int) (v : Bool) (w : World) (hv : Hid ((decide (m = 1) || decide (m = 2)) = v)) :
    Calls Try.prog 75 #[.int .i64 m] w fun e w' => e = .returned (.bool v) ∧ Below w.heap.size w w' := by
  have h := hv.out
  subst h
  clear hv
  by_cases h1 : 1 ≤ m
  · have h1d : decide (m < 1) = false := decide_eq_false (by omega)
    by_cases h2 : m ≤ 2
    · have h2d : decide (2 < m) = false := decide_eq_false (by omega)
      have hd : (decide (m = 1) || decide (m = 2)) = true := by simp only [Bool.or_eq_true, decide_eq_true_iff]; omega
      rw [hd]
      clear hd
      go_enter Try.func75, Try.ntmps75
      go_wp2
      go_ret
      exact ⟨rfl, Below.refl _ _⟩
    · have h2d : decide (2 < m) = true := decide_eq_true (by omega)
      have hd : (decide (m = 1) || decide (m = 2)) = false := by simp only [Bool.or_eq_false_iff, decide_eq_false_iff_not]; omega
      rw [hd]
      clear hd
      go_enter Try.func75, Try.ntmps75
      go_wp2
      go_ret
      exact ⟨rfl, Below.refl _ _⟩
  · have h1d : decide (m < 1) = true := decide_eq_true (by omega)
    have hd : (decide (m = 1) || decide (m = 2)) = false := by simp only [Bool.or_eq_false_iff, decide_eq_false_iff_not]; omega
    rw [hd]
    clear hd
    go_enter Try.func75, Try.ntmps75
    go_wp2
    go_ret
    exact ⟨rfl, Below.refl _ _⟩

/-- What is common, step by step. -/
theorem com_lt {x y : Rn} {a b : List Rn} (hb : Srt (y :: b)) (h : x.1 < y.1) : com (x :: a) (y :: b) = com a (y :: b) := by
  have hb' := hb
  rw [Srt, List.pairwise_cons] at hb'
  have z : cn x.1 (y :: b) = 0 := cn_gt (fun r hr => by
    rcases List.mem_cons.1 hr with rfl | hr
    · exact h
    · have := hb'.1 r hr; unfold ltR at this; omega)
  rw [com_cons, z, if_neg (by have := imin x.2 0; omega)]
  rfl
theorem com_skip {y : Rn} {a b : List Rn} (h : ∀ r ∈ a, ¬ y.1 = r.1) : com a (y :: b) = com a b := by
  unfold com
  congr 1
  refine List.map_congr_left (fun r hr => ?_)
  have e : cn r.1 (y :: b) = cn r.1 b := by simp only [cn, if_neg (h r hr)]; omega
  rw [e]
theorem com_gt {x y : Rn} {a b : List Rn} (ha : Srt (x :: a)) (h : y.1 < x.1) : com (x :: a) (y :: b) = com (x :: a) b := by
  have ha' := ha
  rw [Srt, List.pairwise_cons] at ha'
  refine com_skip (fun r hr => ?_)
  rcases List.mem_cons.1 hr with rfl | hr
  · omega
  · have := ha'.1 r hr; unfold ltR at this; omega
theorem com_eq {x y : Rn} {a b : List Rn} (ha : Srt (x :: a)) (hb : Srt (y :: b)) (px : 1 ≤ x.2) (py : 1 ≤ y.2) (h : x.1 = y.1) : com (x :: a) (y :: b) = (x.1, min x.2 y.2) :: com a b := by
  have ha' := ha
  have hb' := hb
  rw [Srt, List.pairwise_cons] at ha' hb'
  have z : cn x.1 (y :: b) = y.2 := by rw [h]; exact cn_at hb (k := 0) rfl
  rw [com_cons, z, if_pos (by have := imin x.2 y.2; omega), com_skip (fun r hr => by have := ha'.1 r hr; unfold ltR at this; omega)]
  rfl
theorem com_nilR (a : List Rn) : com a [] = [] := com_empty.2 (fun r hr => by have := imin r.2 (cn r.1 []); simp only [cn] at *; omega)
/-- The way of common. -/
def CI (l u la lb out : List Rn) : Prop := Bag la ∧ Bag lb ∧ com l u = out ++ com la lb
theorem ci_0 {l u : List Rn} (hl : Bag l) (hu : Bag u) : CI l u l u [] := ⟨hl, hu, rfl⟩
theorem bag_tail {x : Rn} {a : List Rn} (h : Bag (x :: a)) : Bag a := bag_drop h 1
theorem ci_lt {l u a b out : List Rn} {x y : Rn} (h : CI l u (x :: a) (y :: b) out) (hlt : x.1 < y.1) : CI l u a (y :: b) out := by
  obtain ⟨h1, h2, h3⟩ := h
  exact ⟨bag_tail h1, h2, by rw [h3, com_lt h2.1 hlt]⟩
theorem ci_gt {l u a b out : List Rn} {x y : Rn} (h : CI l u (x :: a) (y :: b) out) (hlt : y.1 < x.1) : CI l u (x :: a) b out := by
  obtain ⟨h1, h2, h3⟩ := h
  exact ⟨h1, bag_tail h2, by rw [h3, com_gt h1.1 hlt]⟩
theorem ci_eq {l u a b out : List Rn} {x y : Rn} (h : CI l u (x :: a) (y :: b) out) (he : x.1 = y.1) : CI l u a b (out ++ [(x.1, min x.2 y.2)]) := by
  obtain ⟨h1, h2, h3⟩ := h
  refine ⟨bag_tail h1, bag_tail h2, ?_⟩
  rw [h3, com_eq h1.1 h2.1 (h1.2.1 x (by simp)) (h2.2.1 y (by simp)) he, List.append_assoc]
  rfl
theorem ci_end {l u la lb out : List Rn} (h : CI l u la lb out) (he : la = [] ∨ lb = []) : com l u = out := by
  obtain ⟨h1, h2, h3⟩ := h
  rcases he with rfl | rfl
  · rw [h3, com_nil, List.append_nil]
  · rw [h3, com_nilR, List.append_nil]
theorem ci_len {l u la lb out : List Rn} (h : CI l u la lb out) : out.length ≤ l.length := by
  have := com_len l u
  rw [h.2.2, List.length_append] at this
  omega
theorem cons_of {a : List Rn} {x : Rn} (h : a[0]? = some x) : a = x :: a.drop 1 := by
  cases a with
  | nil => simp at h
  | cons y a => simp at h; subst h; rfl

/-- One run more behind a row of one's own, as a step of a drawn region. -/
theorem step_append_run (w : World) {ops : Array Oper} {o : Oper} {a : Act} {K : Act → World → Prop} {Q : Exit → Act → World → Prop} {E : Prop} (hgd : o.guard = none) (s x : Operand)
    (ho : o.op = .call { callee := .builtin .append, args := #[s, x], argTypes := #[23, 23] }) (base : Nat) (v : Value) (xs : List Rn) (N : Nat) (p q : Int)
    (hs : a.eval s = v) (hown : OwnN w base v xs) (hx : a.eval x = .slice (some ⟨N, 0, none⟩) 1 1) (hN : w.heap[N]? = some (.cells #[.int .i64 p, .int .i64 q] 65)) (hn : xs.length ≤ 1000000) (hbase : base ≤ w.heap.size)
    (h : ∀ v' w', OwnN w' base v' (xs ++ [(p, q)]) → w.grownBy w' v.ownBlock → K (a.put o.dst v') w') :
    if Region.wanted o (yielded ops a.tmps) = true then Oper.wp Try.prog o a w K Q else E := by
  have hw : Region.wanted o (yielded ops a.tmps) = true := by simp [Region.wanted, hgd]
  rw [if_pos hw]
  obtain ⟨i0, hi, hz0, hz1, hz2⟩ := info_parts info_nr
  have hc : ∀ j u, [Value.int .i64 p, Value.int .i64 q][j]? = some u → w.cell? ((⟨N, 0, none⟩ : Addr).add j) = some u := by
    intro j u hu
    obtain ⟨c0, c1⟩ := box_two hN
    match j, hu with
    | 0, hu => simp at hu; subst hu; exact c0
    | 1, hu => simp at hu; subst hu; exact c1
  obtain ⟨v', w', hr', h2, h3, hiff⟩ := run_append_own (P := Try.prog) w base 23 o.type 65 i0 _ 2 16 Try.underlying23 hi hz0 hz1 hz2 rfl (by decide) v xs.length (ncells xs) hown ⟨N, 0, none⟩ 1 1 [.int .i64 p, .int .i64 q] rfl hc (by intro u hu; simp at hu; rcases hu with rfl | rfl <;> rfl) (by unfold maxLen; omega) (by omega) hbase
  unfold Oper.wp execOp
  simp only [ho, resolve, invoke, builtin, Sem.run_bind, Sem.run_pure, Result.andThen_ok, List.map_toArray, List.map_cons, List.map_nil, hs, hx, hr']
  refine h v' w' ?_ h3
  have e1 : ncells xs ++ [.int .i64 p, .int .i64 q] = ncells (xs ++ [(p, q)]) := by rw [ncells_app]; rfl
  rw [e1] at h2
  unfold OwnN
  rw [List.length_append]
  exact h2

set_option maxHeartbeats 8000000 in
theorem dcom_m (a1 a2 : Option Addr) (n c m d k : Nat) (l u M : List Rn) (w : World) (hl : NRun w a1 n c l) (hu : NRun w a2 m d u) (bl : Bag l) (bu : Bag u) (hn : n ≤ 1000) (hm : m ≤ 1000) (hM : Hid (com l u = M)) (hk : Hid (M.length = k)) :
    Calls Try.prog 110 #[.slice a1 n c, .slice a2 m d] w fun e w' => (∃ A cap, e = .returned (.slice A k cap) ∧ NRun w' A k cap M) ∧ Below w.heap.size w w' := by
  have HL := hid hl
  have HU := hid hu
  have EL := hid hl.lens.1
  have C0 := hid (ci_0 bl bu)
  have O0 : Hid (OwnW w w (.slice none 0 0) []) := hid ⟨Below.refl _ _, own_nil _ _⟩
  clear hl hu bl bu
  go_enter Try.func110, Try.ntmps110
  go_wp2
  go_loopg [0, 1, 5] (n + m) (fun g sa sb so wr => ∃ (A : Option Addr) (p q : Nat) (B : Option Addr) (r s : Nat) (la lb : List Rn) (v : Value) (out : List Rn), sa = .slice A p q ∧ sb = .slice B r s ∧ v = so ∧ p ≤ 1000 ∧ r ≤ 1000 ∧ p + r ≤ g ∧ Hid (NRun w A p q la) ∧ Hid (NRun w B r s lb) ∧ Hid (CI l u la lb out) ∧ Hid (OwnW w wr v out))
  case atStart => exact ⟨a1, n, c, a2, m, d, l, u, _, [], rfl, rfl, rfl, hn, hm, Nat.le_refl _, HL, HU, C0, O0⟩
  case round =>
    obtain ⟨A, p, q, B, r, s, la, lb, v, out, rfl, rfl, rfl, hp, hr, hg, HA, HBr, CC, OW⟩ := hrel
    by_cases hp0 : p = 0
    · have HE : Hid (out = M) := hid (by rw [← hM.out]; exact (ci_end CC.out (.inl (List.length_eq_zero_iff.mp (by have := HA.out.lens.1; omega)))).symm)
      subst hp0
      obtain ⟨A9, cap, e, hr9⟩ := own_any OW.out.2
      subst e
      have HR9 := hid hr9
      clear hr9
      go_wp2
      go_ret
      have := HE.out
      rw [← hk.out, ← HE.out]
      exact ⟨⟨A9, cap, rfl, HR9.out⟩, OW.out.1⟩
    · have hpd : decide ((0 : Int) < (p : Int)) = true := decide_eq_true (by omega)
      have hpi : (0 : Int) < (p : Int) := by omega
      have hpn : decide (0 < p) = true := decide_eq_true (by omega)
      by_cases hr0 : r = 0
      · have HE : Hid (out = M) := hid (by rw [← hM.out]; exact (ci_end CC.out (.inr (List.length_eq_zero_iff.mp (by have := HBr.out.lens.1; omega)))).symm)
        subst hr0
        obtain ⟨A9, cap, e, hr9⟩ := own_any OW.out.2
        subst e
        have HR9 := hid hr9
        clear hr9
        go_wp2
        go_ret
        have := HE.out
        rw [← hk.out, ← HE.out]
        exact ⟨⟨A9, cap, rfl, HR9.out⟩, OW.out.1⟩
      · have hrd : decide ((0 : Int) < (r : Int)) = true := decide_eq_true (by omega)
        have hri : (0 : Int) < (r : Int) := by omega
        have hrn : decide (0 < r) = true := decide_eq_true (by omega)
        have hpm : 0 < p := by omega
        have hrm : 0 < r := by omega
        obtain ⟨b, off, x0, x1, e1, hb, hxx, p0, p1⟩ := HA.out.pick OW.out.1 (k := 0) (by omega)
        subst e1
        simp only [Nat.zero_mul, Nat.add_zero] at p0 p1
        obtain ⟨b', off', y0, y1, e2, hb', hyy, q0, q1⟩ := HBr.out.pick OW.out.1 (k := 0) (by omega)
        subst e2
        simp only [Nat.zero_mul, Nat.add_zero] at q0 q1
        have CX : Hid (CI l u ((x0, x1) :: la.drop 1) ((y0, y1) :: lb.drop 1) out) := hid (by rw [← cons_of hxx, ← cons_of hyy]; exact CC.out)
        have EA := hid (cons_of hxx)
        have EB := hid (cons_of hyy)
        obtain ⟨A1, hsl, hr1⟩ := restN HA.out 1 (by omega)
        have hsl' : ∀ w', (Instr.slice 23 (.slice (some ⟨b, off, none⟩) p q) (some (.int .i64 1)) none none).run Try.prog w' = .ok (.slice A1 (p - 1) (q - 1)) w' := hsl
        have R1 := hid hr1
        obtain ⟨A2, hsm, hr2⟩ := restN HBr.out 1 (by omega)
        have hsm' : ∀ w', (Instr.slice 23 (.slice (some ⟨b', off', none⟩) r s) (some (.int .i64 1)) none none).run Try.prog w' = .ok (.slice A2 (r - 1) (s - 1)) w' := hsm
        have R2 := hid hr2
        clear hsl hsm hr1 hr2 hxx hyy CC
        by_cases hlt : x0 < y0
        · have hld : decide (x0 < y0) = true := decide_eq_true hlt
          have C1 : Hid (CI l u (la.drop 1) lb out) := hid (by rw [EB.out]; exact ci_lt CX.out hlt)
          clear hlt
          go_wp2
          go_quiet (fail)
          have OD : Hid (OwnW w (wr.drewN nq) v out) := hid ⟨bdrewN OW.out.1, OW.out.2⟩
          clear p0 p1 q0 q1
          generalize wr.drewN nq = W at OD ⊢
          go_wp2
          go_roundg (p - 1 + r)
          case measure => omega
          case rel => exact ⟨A1, p - 1, q - 1, _, r, s, la.drop 1, lb, v, out, rfl, rfl, rfl, by omega, by omega, Nat.le_refl _, R1, HBr, C1, OD⟩
        · have hld : decide (x0 < y0) = false := decide_eq_false hlt
          by_cases hgt : y0 < x0
          · have hgd : decide (y0 < x0) = true := decide_eq_true hgt
            have C1 : Hid (CI l u la (lb.drop 1) out) := hid (by rw [EA.out]; exact ci_gt CX.out hgt)
            clear hlt hgt
            go_wp2
            go_quiet (fail)
            have FR : Hid (∀ t, OwnW w (wr.drewN t) v out ∧ (wr.drewN t).cell? ⟨b, off, none⟩ = some (.int .i64 x0) ∧ (wr.drewN t).cell? ⟨b', off', none⟩ = some (.int .i64 y0)) := hid (fun t => ⟨⟨bdrewN OW.out.1, OW.out.2⟩, p0, q0⟩)
            have OD := hid (FR.out nq)
            clear p0 p1 q0 q1 FR
            generalize wr.drewN nq = W at OD ⊢
            have p0 := OD.out.2.1
            have q0 := OD.out.2.2
            go_wp2
            go_quiet (fail)
            have OE : Hid (∀ t, OwnW w (W.drewN t) v out) := hid (fun t => ⟨bdrewN OD.out.1.1, OD.out.1.2⟩)
            clear p0 q0
            go_wp2
            go_roundg (p + (r - 1))
            case measure => omega
            case rel => exact ⟨_, p, q, A2, r - 1, s - 1, la, lb.drop 1, v, out, rfl, rfl, rfl, by omega, by omega, Nat.le_refl _, HA, R2, C1, hid (OE.out _)⟩
          · have hgd : decide (y0 < x0) = false := decide_eq_false hgt
            have he : x0 = y0 := by omega
            obtain ⟨z, hz⟩ : ∃ z, min x1 y1 = z := ⟨_, rfl⟩
            have hz2 : (if x1 ≤ y1 then x1 else y1) = z := by rw [← hz]; split <;> omega
            have C1 : Hid (CI l u (la.drop 1) (lb.drop 1) (out ++ [(x0, z)])) := hid (by rw [← hz]; exact ci_eq CX.out he)
            have LL : Hid (out.length ≤ 1000) := hid (by have := ci_len CX.out; have := EL.out; omega)
            subst he
            clear hlt hgt
            go_wp2
            go_quiet (fail)
            have FR : Hid (∀ t, OwnW w (wr.drewN t) v out ∧ (wr.drewN t).cell? ⟨b, off, none⟩ = some (.int .i64 x0) ∧ (wr.drewN t).cell? ⟨b, off + 1, none⟩ = some (.int .i64 x1) ∧ (wr.drewN t).cell? ⟨b', off', none⟩ = some (.int .i64 x0) ∧ (wr.drewN t).cell? ⟨b', off' + 1, none⟩ = some (.int .i64 y1)) := hid (fun t => ⟨⟨bdrewN OW.out.1, OW.out.2⟩, p0, p1, q0, q1⟩)
            have OD := hid (FR.out nq)
            clear p0 p1 q0 q1 FR
            generalize wr.drewN nq = W at OD ⊢
            obtain ⟨_, p0, p1, q0, q1⟩ := OD.out
            go_wp2
            go_quiet (fail)
            have FR : Hid (∀ t, OwnW w (W.drewN t) v out ∧ (W.drewN t).cell? ⟨b, off, none⟩ = some (.int .i64 x0) ∧ (W.drewN t).cell? ⟨b, off + 1, none⟩ = some (.int .i64 x1) ∧ (W.drewN t).cell? ⟨b', off', none⟩ = some (.int .i64 x0) ∧ (W.drewN t).cell? ⟨b', off' + 1, none⟩ = some (.int .i64 y1)) := hid (fun t => ⟨⟨bdrewN OD.out.1.1, OD.out.1.2⟩, p0, p1, q0, q1⟩)
            have OE := hid (FR.out nq)
            clear p0 p1 q0 q1 FR
            generalize W.drewN nq = X at OE ⊢
            obtain ⟨_, p0, p1, q0, q1⟩ := OE.out
            have OX0 : OwnW w X.drew v out := ⟨bdrew OE.out.1.1, OE.out.1.2⟩
            have OX := hid (OwnW.alloc OX0 (.cells #[.int .i64 x0, .int .i64 z] 65))
            go_wp2
            go_region_law (refine step_append_run _ (by rfl) (.tmp 14) (.tmp 29) (by rfl) w.heap.size v out X.heap.size x0 z (by rfl) OX.out.2 (by rfl) (hnew rfl) (by have := LL.out; omega) (by have := OX.out.1.size; simp at this ⊢; omega) ?_; intro u1 w1 ho1 hg1; have O1 := hid (OwnW.grown OX.out hg1 ho1); clear ho1 hg1)
            all_goals
              go_wp2
              go_quiet (fail)
              have OY : Hid (∀ t, OwnW w (w1.drewN t) u1 (out ++ [(x0, z)])) := hid (fun t => ⟨bdrewN O1.out.1, O1.out.2⟩)
              clear p0 p1 q0 q1 O1
              go_wp2
              go_roundg (p - 1 + (r - 1))
              case measure => omega
              case rel => exact ⟨A1, p - 1, q - 1, A2, r - 1, s - 1, la.drop 1, lb.drop 1, u1, _, rfl, rfl, rfl, by omega, by omega, Nat.le_refl _, R1, R2, C1, hid (OY.out _)⟩

end Go.Proofs.Ytjkkajhjcinalaa

namespace Go.Proofs.Ytjkkajhjcinalaa
open Go.ChangeShapes Go.WideShapes Go.ChangeAt Go.RowKit
set_option linter.unusedVariables false
set_option linter.unusedSimpArgs false
set_option maxRecDepth 100000

theorem bnet_m (a1 a2 : Option Addr) (n c m d : Nat) (l u : List Rn) (S : Int) (f : Bool) (w : World) (hl : NRun w a1 n c l) (hu : NRun w a2 m d u) (hk : ∀ r ∈ l, nok r) (hk' : ∀ r ∈ u, nok r) (hS : Hid (nv l u = S)) (hf : Hid (nb l u = f)) :
    Calls Try.prog 109 #[.slice a1 n c, .slice a2 m d] w fun e w' => e = .returned (.tuple #[.int .i64 S, .bool f]) ∧ Below w.heap.size w w' := by
  have := bnet_any a1 a2 n c m d l u w hl hk hu hk'
  rw [hS.out, hf.out] at this
  exact this
/-- When is a measure reckoned. -/
theorem nt_no1 {n s : Int} {i o : List Rn} (h : gd i = false ∨ gd o = false) : nt n s i o = false := by
  unfold nt
  rcases h with h | h <;> rw [h] <;> simp
theorem nt_net {n s : Int} {i o : List Rn} (h : nb i o = false) (hs : I64 s) : nt n s i o = false := by
  refine nt_no (fun g => ?_)
  have e := (nv_yes (gd_yes g.1) (gd_yes g.2.1)).2
  rw [g.2.2.2.1, fitB_i64 hs] at e
  rw [e] at h; cases h
theorem nt_of {i o : List Rn} (h : nb i o = true) : Bag i ∧ Bag o ∧ nv i o = wsum i - wsum o := by
  cases h1 : gd i with
  | false => rw [(nv_no (.inl h1)).2] at h; cases h
  | true =>
    cases h2 : gd o with
    | false => rw [(nv_no (.inr h2)).2] at h; cases h
    | true =>
      have e := nv_yes h1 h2
      rw [h] at e
      exact ⟨gd_iff.1 h1, gd_iff.1 h2, by rw [e.1]; exact fitV_yes e.2.symm⟩
theorem nt_eq {n s : Int} {i o : List Rn} (h1 : Bag i) (h2 : Bag o) (hs : wsum i - wsum o = s) (hn : tot i - tot o = n) : nt n s i o = apt i o := by
  unfold nt
  rw [gd_yes h1, gd_yes h2, decide_eq_true hs, decide_eq_true hn]
  simp
set_option maxHeartbeats 4000000 in
theorem dreck_m (n s : Int) (a1 : Option Addr) (p1 k1 : Nat) (a2 : Option Addr) (p2 k2 : Nat) (i o : List Rn) (v : Bool) (w : World) (hi : NRun w a1 p1 k1 i) (ho : NRun w a2 p2 k2 o) (ki : ∀ r ∈ i, nok r) (ko : ∀ r ∈ o, nok r) (hp1 : p1 ≤ 1000) (hp2 : p2 ≤ 1000) (hs : I64 s) (hv : Hid (nt n s i o = v)) :
    Calls Try.prog 80 #[.int .i64 n, .int .i64 s, .slice a1 p1 k1, .slice a2 p2 k2] w fun e w' => e = .returned (.bool v) ∧ Below w.heap.size w w' := by
  have HI := hid hi
  have HO := hid ho
  have KI := hid ki
  have KO := hid ko
  clear hi ho ki ko
  obtain ⟨S, hS⟩ : ∃ x, nv i o = x := ⟨_, rfl⟩
  obtain ⟨f, hf⟩ : ∃ x, nb i o = x := ⟨_, rfl⟩
  have GS := hid hS
  have FF := hid hf
  cases f with
  | false =>
    have hv2 := hv.out
    rw [nt_net hf hs] at hv2
    subst hv2
    clear hS hf hv
    go_enter Try.func80, Try.ntmps80
    go_wp2_with (go_at_call 109; refine (bnet_m _ _ _ _ _ _ _ _ S false _ HI.out HO.out KI.out KO.out GS FF).mono ?_; rintro e w1 ⟨rfl, hb1⟩; have B1 := hid hb1; clear hb1)
    go_ret
    exact ⟨rfl, B1.out⟩
  | true =>
    obtain ⟨bi, bo, hS2⟩ := nt_of hf
    rw [hS] at hS2
    by_cases hSs : S = s
    · subst hSs
      have hne : (S != S) = false := by simp
      obtain ⟨ti, hti⟩ : ∃ x, tl i = x := ⟨_, rfl⟩
      obtain ⟨to', hto⟩ : ∃ x, tl o = x := ⟨_, rfl⟩
      have TI := hid hti
      have TO := hid hto
      rw [tl_yes bi] at hti
      rw [tl_yes bo] at hto
      have r1 := tot_nn bi.2.1
      have r2 := bi.2.2
      have r3 := tot_nn bo.2.1
      have r4 := bo.2.2
      rw [hti] at r1 r2
      rw [hto] at r3 r4
      have wsub : IntKind.i64.wrap (ti - to') = ti - to' := IntWalk.i64_in _ (by omega)
      have BI := hid bi
      have BO := hid bo
      have tkA : True := trivial
      by_cases hn : ti - to' = n
      · have hnd : ((ti - to') == n) = true := by simp [hn]
        obtain ⟨M, hM⟩ : ∃ x, com i o = x := ⟨_, rfl⟩
        obtain ⟨k, hk⟩ : ∃ x, M.length = x := ⟨_, rfl⟩
        have HM := hid hM
        have HK := hid hk
        have hv2 := hv.out
        rw [nt_eq bi bo hS2.symm (by rw [hti, hto]; exact hn)] at hv2
        unfold apt at hv2
        rw [hM, len_emp hk.symm] at hv2
        have HV := hid hv2
        have hkd : ((k : Int) == 0) = v := by rw [← hv2]; by_cases h : k = 0 <;> simp [h]
        clear hS hf hv hti hto r1 r2 r3 r4 bi bo hS2 hM hk hv2 hn
        go_enter Try.func80, Try.ntmps80
        go_wp2_with (first
          | (go_at_call 109; refine (bnet_m _ _ _ _ _ _ _ _ S true _ HI.out HO.out KI.out KO.out GS FF).mono ?_; rintro e w1 ⟨rfl, hb1⟩; have B1 := hid hb1; clear hb1)
          | (go_at_call 96; clear tkA; refine (count_m _ _ _ i ti _ (HI.out.below B1.out) KI.out TI).mono ?_; rintro e w2 ⟨rfl, hb2⟩; have B2 := hid (bt B1.out hb2); clear hb2)
          | (go_at_call 96; refine (count_m _ _ _ o to' _ (HO.out.below B2.out) KO.out TO).mono ?_; rintro e w3 ⟨rfl, hb3⟩; have B3 := hid (bt B2.out hb3); clear hb3)
          | (go_at_call 110; refine (dcom_m _ _ _ _ _ _ k i o M _ (HI.out.below B3.out) (HO.out.below B3.out) BI.out BO.out hp1 hp2 HM HK).mono ?_; rintro e w4 ⟨⟨A4, c4, rfl, hr4⟩, hb4⟩; have B4 := hid (bt B3.out hb4); clear hb4 hr4))
        go_ret
        exact ⟨rfl, B4.out⟩
      · have hnd : ((ti - to') == n) = false := by simp [hn]
        have hv2 := hv.out
        rw [nt_no (fun g => hn (by have := g.2.2.1; rw [← hti, ← hto]; exact this))] at hv2
        subst hv2
        clear hS hf hv hti hto r1 r2 r3 r4 bi bo hS2 hn
        go_enter Try.func80, Try.ntmps80
        go_wp2_with (first
          | (go_at_call 109; refine (bnet_m _ _ _ _ _ _ _ _ S true _ HI.out HO.out KI.out KO.out GS FF).mono ?_; rintro e w1 ⟨rfl, hb1⟩; have B1 := hid hb1; clear hb1)
          | (go_at_call 96; clear tkA; refine (count_m _ _ _ i ti _ (HI.out.below B1.out) KI.out TI).mono ?_; rintro e w2 ⟨rfl, hb2⟩; have B2 := hid (bt B1.out hb2); clear hb2)
          | (go_at_call 96; refine (count_m _ _ _ o to' _ (HO.out.below B2.out) KO.out TO).mono ?_; rintro e w3 ⟨rfl, hb3⟩; have B3 := hid (bt B2.out hb3); clear hb3))
        go_ret
        exact ⟨rfl, B3.out⟩
    · have hne : (S != s) = true := by simp [hSs]
      have hv2 := hv.out
      rw [nt_no (fun g => hSs (by rw [hS2]; exact g.2.2.2.1))] at hv2
      subst hv2
      clear hS hf hv hSs bi bo hS2
      go_enter Try.func80, Try.ntmps80
      go_wp2_with (go_at_call 109; refine (bnet_m _ _ _ _ _ _ _ _ S true _ HI.out HO.out KI.out KO.out GS FF).mono ?_; rintro e w1 ⟨rfl, hb1⟩; have B1 := hid hb1; clear hb1)
      go_ret
      exact ⟨rfl, B1.out⟩

end Go.Proofs.Ytjkkajhjcinalaa

namespace Go.Proofs.Ytjkkajhjcinalaa
open Go.ChangeShapes Go.WideShapes Go.ChangeAt Go.RowKit
set_option linter.unusedVariables false
set_option linter.unusedSimpArgs false
set_option maxRecDepth 100000

theorem eqM (a b x y : Int) (w : World) (n : Nat) : (Op.equalIn (n + 2) 22 (.agg #[.int .i64 a, .int .i64 b]) (.agg #[.int .i64 x, .int .i64 y])).run Try.prog w = .ok (a == x && b == y) w := by
  have u3 := Try.underlying2
  have a3 := Try.isAgg2
  have z3 := Try.sizeOf2
  rw [show n + 2 = (n + 1) + 1 from rfl, Op.equalIn]
  simp only [Sem.run_bind, run_underlying Try.underlying22, Result.andThen_ok]
  simp only [Std.Legacy.Range.forIn_eq_forIn_range', Std.Legacy.Range.size, Nat.sub_zero, Nat.add_sub_cancel, Nat.div_one, List.range'_succ, List.range'_zero, List.forIn_cons, List.forIn_nil]
  go_simp
  by_cases h1 : a = x <;> by_cases h2 : b = y <;> simp [h1, h2]
def qm (a b x y : Int) : Bool := a == x && b == y
theorem qm_iff {a b x y : Int} : qm a b x y = true ↔ a = x ∧ b = y := by unfold qm; simp
theorem eqM2 (a b x y : Int) (w : World) : (Op.equalIn 10000 22 (.agg #[.int .i64 a, .int .i64 b]) (.agg #[.int .i64 x, .int .i64 y])).run Try.prog w = .ok (qm a b x y) w := eqM a b x y w 9998

/-- Two boxes that are kept. -/
def Kq (w wr : World) (o o' : Obj) : Prop := Kp w wr w.heap.size o ∧ Kp w wr (w.heap.size + 1) o'
theorem Kq.step {w wr w' : World} {o o' : Obj} (h : Kq w wr o o') (hb : Below wr.heap.size wr w') : Kq w w' o o' := ⟨h.1.step hb, h.2.step hb⟩
theorem kq_new (w : World) (o o' : Obj) : Kq w ((w.alloc o).alloc o') o o' := ⟨(kp_new w o).step (b1alloc _ _), bt (b1alloc _ _) (b1alloc _ _), by omega, hnew (by simp)⟩
theorem Kq.ten {w W y : World} {a b c d e a' b' c' d' e' : Value} {t t' : TypeId} (h : Kq w W (.cells #[a, b, c, d, e] t) (.cells #[a', b', c', d', e'] t')) (hb : Below W.heap.size W y) :
    Below W.heap.size W y ∧ y.cell? ⟨w.heap.size, 0, none⟩ = some a ∧ y.cell? ⟨w.heap.size, 1, none⟩ = some b ∧ y.cell? ⟨w.heap.size, 2, none⟩ = some c ∧ y.cell? ⟨w.heap.size, 3, none⟩ = some d ∧ y.cell? ⟨w.heap.size, 4, none⟩ = some e ∧ y.cell? ⟨w.heap.size + 1, 0, none⟩ = some a' ∧ y.cell? ⟨w.heap.size + 1, 1, none⟩ = some b' ∧ y.cell? ⟨w.heap.size + 1, 2, none⟩ = some c' ∧ y.cell? ⟨w.heap.size + 1, 3, none⟩ = some d' ∧ y.cell? ⟨w.heap.size + 1, 4, none⟩ = some e' := by
  obtain ⟨x0, x1, x2, x3, x4⟩ := box_five (h.step hb).1.2.2
  obtain ⟨y0, y1, y2, y3, y4⟩ := box_five (h.step hb).2.2.2
  exact ⟨hb, x0, x1, x2, x3, x4, y0, y1, y2, y3, y4⟩
theorem csm_n {c d : Cl} (h : ¬ c.n = d.n) : csm c d = false := csm_no (fun e => h (by rw [e]))
theorem csm_s {c d : Cl} (h : ¬ (c.s0 = d.s0 ∧ c.s1 = d.s1)) : csm c d = false := csm_no (fun e => h (by rw [e]; exact ⟨rfl, rfl⟩))
theorem csm_b0 {c d : Cl} (h : sm c.b0 d.b0 = false) : csm c d = false := csm_no (fun e => by rw [e, sm_yes rfl] at h; cases h)
theorem csm_b1 {c d : Cl} (h : sm c.b1 d.b1 = false) : csm c d = false := csm_no (fun e => by rw [e, sm_yes rfl] at h; cases h)
theorem csm_all {c d : Cl} (h0 : c.s0 = d.s0) (h1 : c.s1 = d.s1) (h2 : sm c.b0 d.b0 = true) (h3 : sm c.b1 d.b1 = true) : csm c d = (c.n == d.n) := by
  unfold csm
  rw [decide_eq_true h0, decide_eq_true h1, h2, h3]
  by_cases h : c.n = d.n <;> simp [h]

set_option maxHeartbeats 32000000 in
theorem csame_m (c d : Cl) (a0 : Option Addr) (p0 k0 : Nat) (a1 : Option Addr) (p1 k1 : Nat) (b0 : Option Addr) (q0 j0 : Nat) (b1 : Option Addr) (q1 j1 : Nat) (v : Bool) (w : World) (hw : CW w a0 p0 k0 a1 p1 k1 c) (hz : CW w b0 q0 j0 b1 q1 j1 d) (hv : Hid (csm c d = v)) :
    Calls Try.prog 25 #[.agg #[.int .i64 c.n, .int .i64 c.s0, .int .i64 c.s1, .slice a0 p0 k0, .slice a1 p1 k1], .agg #[.int .i64 d.n, .int .i64 d.s0, .int .i64 d.s1, .slice b0 q0 j0, .slice b1 q1 j1]] w fun e w' => e = .returned (.bool v) ∧ Below w.heap.size w w' := by
  have h := hv.out
  subst h
  clear hv
  obtain ⟨l1, l2⟩ := hw.1.lens
  obtain ⟨u1, u2⟩ := hw.2.lens
  obtain ⟨l1', l2'⟩ := hz.1.lens
  obtain ⟨u1', u2'⟩ := hz.2.lens
  have HW := hid hw
  have HZ := hid hz
  have eqm := eqM2
  have K0 := hid (kq_new w (.cells #[.int .i64 c.n, .int .i64 c.s0, .int .i64 c.s1, .slice a0 p0 k0, .slice a1 p1 k1] 26) (.cells #[.int .i64 d.n, .int .i64 d.s0, .int .i64 d.s1, .slice b0 q0 j0, .slice b1 q1 j1] 26))
  clear hw hz l1 u1 l1' u1'
  by_cases hn : c.n = d.n
  · have hnt : (c.n != d.n) = false := by simp [hn]
    have HN := hid hn
    clear hn
    by_cases hs : c.s0 = d.s0 ∧ c.s1 = d.s1
    · have hst : qm c.s0 c.s1 d.s0 d.s1 = true := qm_iff.2 hs
      have HS := hid hs
      clear hs
      go_enter Try.func25, Try.ntmps25
      go_upto_region 1 with fail
      generalize (w.alloc (.cells #[.int .i64 c.n, .int .i64 c.s0, .int .i64 c.s1, .slice a0 p0 k0, .slice a1 p1 k1] 26)).alloc (.cells #[.int .i64 d.n, .int .i64 d.s0, .int .i64 d.s1, .slice b0 q0 j0, .slice b1 q1 j1] 26) = W at K0 ⊢
      obtain ⟨_, d0, d1, d2, d3, d4, f0, f1, f2, f3, f4⟩ := K0.out.ten (Below.refl _ _)
      go_upto_region 4 with fail
      clear d0 d1 d2 d3 d4 f0 f1 f2 f3 f4
      go_loopw [18] (fun i wr => Hid (Kq w wr (.cells #[.int .i64 c.n, .int .i64 c.s0, .int .i64 c.s1, .slice a0 p0 k0, .slice a1 p1 k1] 26) (.cells #[.int .i64 d.n, .int .i64 d.s0, .int .i64 d.s1, .slice b0 q0 j0, .slice b1 q1 j1] 26)) ∧ (i = .int .i64 0 ∨ (i = .int .i64 1 ∧ Hid (sm c.b0 d.b0 = true)) ∨ (i = .int .i64 2 ∧ Hid (sm c.b0 d.b0 = true ∧ sm c.b1 d.b1 = true)))) (fun i _ => 2 - (intOf i).toNat)
      case atStart => exact ⟨K0, .inl rfl⟩
      case round =>
        obtain ⟨KW, hi⟩ := hrel
        obtain ⟨_, d0, d1, d2, d3, d4, f0, f1, f2, f3, f4⟩ := KW.out.ten (Below.refl _ _)
        rcases hi with rfl | ⟨rfl, R0⟩ | ⟨rfl, R1⟩
        · skip
          obtain ⟨V, ev⟩ : ∃ x, sm c.b0 d.b0 = x := ⟨_, rfl⟩
          have EV := hid ev
          clear ev
          have KS : Hid (∀ y, Below wr.heap.size wr y → Below wr.heap.size wr y ∧ y.cell? ⟨w.heap.size, 0, none⟩ = some (.int .i64 c.n) ∧ y.cell? ⟨w.heap.size, 1, none⟩ = some (.int .i64 c.s0) ∧ y.cell? ⟨w.heap.size, 2, none⟩ = some (.int .i64 c.s1) ∧ y.cell? ⟨w.heap.size, 3, none⟩ = some (.slice a0 p0 k0) ∧ y.cell? ⟨w.heap.size, 4, none⟩ = some (.slice a1 p1 k1) ∧ y.cell? ⟨w.heap.size + 1, 0, none⟩ = some (.int .i64 d.n) ∧ y.cell? ⟨w.heap.size + 1, 1, none⟩ = some (.int .i64 d.s0) ∧ y.cell? ⟨w.heap.size + 1, 2, none⟩ = some (.int .i64 d.s1) ∧ y.cell? ⟨w.heap.size + 1, 3, none⟩ = some (.slice b0 q0 j0) ∧ y.cell? ⟨w.heap.size + 1, 4, none⟩ = some (.slice b1 q1 j1)) := hid (fun y hb => KW.out.ten hb)
          clear d0 d1 d2 d3 d4 f0 f1 f2 f3 f4
          go_wp2
          go_region_held3 (fun y => Below wr.heap.size wr y ∧ y.cell? ⟨w.heap.size, 0, none⟩ = some (.int .i64 c.n) ∧ y.cell? ⟨w.heap.size, 1, none⟩ = some (.int .i64 c.s0) ∧ y.cell? ⟨w.heap.size, 2, none⟩ = some (.int .i64 c.s1) ∧ y.cell? ⟨w.heap.size, 3, none⟩ = some (.slice a0 p0 k0) ∧ y.cell? ⟨w.heap.size, 4, none⟩ = some (.slice a1 p1 k1) ∧ y.cell? ⟨w.heap.size + 1, 0, none⟩ = some (.int .i64 d.n) ∧ y.cell? ⟨w.heap.size + 1, 1, none⟩ = some (.int .i64 d.s0) ∧ y.cell? ⟨w.heap.size + 1, 2, none⟩ = some (.int .i64 d.s1) ∧ y.cell? ⟨w.heap.size + 1, 3, none⟩ = some (.slice b0 q0 j0) ∧ y.cell? ⟨w.heap.size + 1, 4, none⟩ = some (.slice b1 q1 j1))
            (first | assumption | exact keep_drew KS | exact keep_step (by assumption) (by assumption) KS)
            (first
              | (go_at_call 68; refine (same_m _ _ _ _ _ _ _ _ _ _ (HW.out.1.below (bt KW.out.1.1 (And.left (by assumption)))) (HZ.out.1.below (bt KW.out.1.1 (And.left (by assumption)))) EV).mono ?_; rintro e w1 ⟨rfl, hb1⟩))
          have K2 := hid (KW.out.step (undrew hb1))
          cases V with
          | false =>
            go_wp2
            go_ret
            exact ⟨ret_bool (csm_b0 EV.out).symm, K2.out.1.1⟩
          | true =>
            go_wp2
            go_roundw
            case rel => exact ⟨K2, .inr (.inl ⟨by go_num, EV⟩)⟩
            case measure => simp [intOf]
        · skip
          obtain ⟨V, ev⟩ : ∃ x, sm c.b1 d.b1 = x := ⟨_, rfl⟩
          have EV := hid ev
          clear ev
          have KS : Hid (∀ y, Below wr.heap.size wr y → Below wr.heap.size wr y ∧ y.cell? ⟨w.heap.size, 0, none⟩ = some (.int .i64 c.n) ∧ y.cell? ⟨w.heap.size, 1, none⟩ = some (.int .i64 c.s0) ∧ y.cell? ⟨w.heap.size, 2, none⟩ = some (.int .i64 c.s1) ∧ y.cell? ⟨w.heap.size, 3, none⟩ = some (.slice a0 p0 k0) ∧ y.cell? ⟨w.heap.size, 4, none⟩ = some (.slice a1 p1 k1) ∧ y.cell? ⟨w.heap.size + 1, 0, none⟩ = some (.int .i64 d.n) ∧ y.cell? ⟨w.heap.size + 1, 1, none⟩ = some (.int .i64 d.s0) ∧ y.cell? ⟨w.heap.size + 1, 2, none⟩ = some (.int .i64 d.s1) ∧ y.cell? ⟨w.heap.size + 1, 3, none⟩ = some (.slice b0 q0 j0) ∧ y.cell? ⟨w.heap.size + 1, 4, none⟩ = some (.slice b1 q1 j1)) := hid (fun y hb => KW.out.ten hb)
          clear d0 d1 d2 d3 d4 f0 f1 f2 f3 f4
          go_wp2
          go_region_held3 (fun y => Below wr.heap.size wr y ∧ y.cell? ⟨w.heap.size, 0, none⟩ = some (.int .i64 c.n) ∧ y.cell? ⟨w.heap.size, 1, none⟩ = some (.int .i64 c.s0) ∧ y.cell? ⟨w.heap.size, 2, none⟩ = some (.int .i64 c.s1) ∧ y.cell? ⟨w.heap.size, 3, none⟩ = some (.slice a0 p0 k0) ∧ y.cell? ⟨w.heap.size, 4, none⟩ = some (.slice a1 p1 k1) ∧ y.cell? ⟨w.heap.size + 1, 0, none⟩ = some (.int .i64 d.n) ∧ y.cell? ⟨w.heap.size + 1, 1, none⟩ = some (.int .i64 d.s0) ∧ y.cell? ⟨w.heap.size + 1, 2, none⟩ = some (.int .i64 d.s1) ∧ y.cell? ⟨w.heap.size + 1, 3, none⟩ = some (.slice b0 q0 j0) ∧ y.cell? ⟨w.heap.size + 1, 4, none⟩ = some (.slice b1 q1 j1))
            (first | assumption | exact keep_drew KS | exact keep_step (by assumption) (by assumption) KS)
            (first
              | (go_at_call 68; refine (same_m _ _ _ _ _ _ _ _ _ _ (HW.out.2.below (bt KW.out.1.1 (And.left (by assumption)))) (HZ.out.2.below (bt KW.out.1.1 (And.left (by assumption)))) EV).mono ?_; rintro e w1 ⟨rfl, hb1⟩))
          have K2 := hid (KW.out.step (undrew hb1))
          cases V with
          | false =>
            go_wp2
            go_ret
            exact ⟨ret_bool (csm_b1 EV.out).symm, K2.out.1.1⟩
          | true =>
            go_wp2
            go_roundw
            case rel => exact ⟨K2, .inr (.inr ⟨by go_num, hid ⟨R0.out, EV.out⟩⟩)⟩
            case measure => simp [intOf]
        · go_wp2
          go_ret
          exact ⟨ret_bool (by rw [csm_all HS.out.1 HS.out.2 R1.out.1 R1.out.2, HN.out]; simp), KW.out.1.1⟩
    · have hst : qm c.s0 c.s1 d.s0 d.s1 = false := by
        cases e : qm c.s0 c.s1 d.s0 d.s1 with
        | false => rfl
        | true => exact absurd (qm_iff.1 e) hs
      rw [csm_s hs]
      clear hs
      go_enter Try.func25, Try.ntmps25
      go_upto_region 1 with fail
      generalize (w.alloc (.cells #[.int .i64 c.n, .int .i64 c.s0, .int .i64 c.s1, .slice a0 p0 k0, .slice a1 p1 k1] 26)).alloc (.cells #[.int .i64 d.n, .int .i64 d.s0, .int .i64 d.s1, .slice b0 q0 j0, .slice b1 q1 j1] 26) = W at K0 ⊢
      obtain ⟨_, d0, d1, d2, d3, d4, f0, f1, f2, f3, f4⟩ := K0.out.ten (Below.refl _ _)
      go_wp2
      go_ret
      exact ⟨rfl, K0.out.1.1⟩
  · have hnt : (c.n != d.n) = true := by simp [hn]
    rw [csm_n hn]
    clear hn
    go_enter Try.func25, Try.ntmps25
    go_upto_region 1 with fail
    generalize (w.alloc (.cells #[.int .i64 c.n, .int .i64 c.s0, .int .i64 c.s1, .slice a0 p0 k0, .slice a1 p1 k1] 26)).alloc (.cells #[.int .i64 d.n, .int .i64 d.s0, .int .i64 d.s1, .slice b0 q0 j0, .slice b1 q1 j1] 26) = W at K0 ⊢
    obtain ⟨_, d0, d1, d2, d3, d4, f0, f1, f2, f3, f4⟩ := K0.out.ten (Below.refl _ _)
    go_wp2
    go_ret
    exact ⟨rfl, K0.out.1.1⟩

end Go.Proofs.Ytjkkajhjcinalaa

namespace Go.Proofs.Ytjkkajhjcinalaa
open Go.ChangeShapes Go.WideShapes Go.ChangeAt Go.RowKit
set_option linter.unusedVariables false
set_option linter.unusedSimpArgs false
set_option maxRecDepth 100000

theorem setCells_heap (g : Nat) (t : TypeId) : ∀ (vs : List Value) (o : Nat) (w : World) (cs : Array Value), w.heap[g]? = some (.cells cs t) → ∃ cs', (w.setCells g o vs).heap[g]? = some (.cells cs' t) ∧ cs'.size = cs.size
  | [], _, w, cs, h => ⟨cs, h, rfl⟩
  | v :: r, o, w, cs, h => by
    rw [World.setCells]
    obtain ⟨cs', h1, h2⟩ := setCells_heap g t r (o + 1) _ _ (heap_setCell_same w g o cs t v h)
    exact ⟨cs', h1, by rw [h2]; simp⟩
theorem setCells_grown (g : Nat) : ∀ (vs : List Value) (o : Nat) (w : World), w.grownBy (w.setCells g o vs) (some g)
  | [], _, w => ⟨rfl, rfl, rfl, Nat.le_refl _, fun _ _ _ => rfl⟩
  | v :: r, o, w => by
    rw [World.setCells]
    have h1 := set_grown w g o v
    have h2 := setCells_grown g r (o + 1) (w.setCell ⟨g, o, none⟩ v)
    exact ⟨h2.os.trans h1.os, h2.tape.trans h1.tape, h2.output.trans h1.output, Nat.le_trans h1.size h2.size, fun k hk hne => (h2.block k (Nat.lt_of_lt_of_le hk h1.size) hne).trans (h1.block k hk hne)⟩
/-- A whole row is stored: the block holds it; no other block is turned. -/
theorem wpList_store_whole {P : Program} {ops : Array Oper} {rest : List Oper} {o : Oper} {a : Act} {w : World} {Q : Exit → Act → World → Prop} (hgd : o.guard = none) (ty : TypeId) (x y : Operand) (ho : o.op = .store ty x y)
    (g : Nat) (X : Array Value) (hx : a.eval x = .pointer (some ⟨g, 0, none⟩)) (hy : a.eval y = .agg X) (t : TypeId) (cs : Array Value) (hg : w.heap[g]? = some (.cells cs t)) (hs : cs.size = X.size)
    (hi : (P.info? ty).map (·.size) = some X.size) (h1 : ∀ v ∈ X.toList, v.oneCell' = true)
    (h : ∀ w', w'.heap[g]? = some (.cells X t) → w.grownBy w' (some g) → wpList P ops Q rest (a.put o.dst undef) w') : wpList P ops Q (o :: rest) a w := by
  have ht : w.there g 0 X.size := fun j hj => by
    constructor
    · rw [Nat.zero_add, cell_of_row w g j cs t (0, 0) hg, Array.getElem?_eq_getElem (by omega)]; rfl
    · exact frozen_of_row w g _ _ _ hg
  refine wpList_store_mid hgd ty x y ho g 0 X hx hy ht hi (by have := all_oneCell_toArray h1; simpa using this) ?_
  refine h _ ?_ (setCells_grown g _ 0 w)
  obtain ⟨cs', e1, e2⟩ := setCells_heap g t X.toList 0 w cs hg
  rw [e1]
  have hr := World.rangeAt_setCells_same w g 0 X.toList (by simpa using ht)
  have : cs' = X := by
    apply Array.ext_getElem?
    intro j
    by_cases hj : j < X.size
    · have h2 := hr j X[j] (by simp [hj])
      rw [Nat.zero_add, cell_of_row _ g j cs' t (0, 0) e1] at h2
      rw [h2]; simp [hj]
    · rw [Array.getElem?_eq_none (by omega), Array.getElem?_eq_none (by omega)]
  rw [this]
theorem kp_alloc {w wr : World} {N : Nat} {o : Obj} (h : Kp w wr N o) (o' : Obj) : Kp w (wr.alloc o') N o := h.step (b1alloc _ _)
theorem kp_new2 {w wr : World} (h : Below w.heap.size w wr) (o : Obj) (N : Nat) (hN : wr.heap.size = N) : Kp w (wr.alloc o) N o := ⟨bt h (b1alloc _ _), by have := h.size; omega, hnew hN⟩
theorem kp_set {w wr : World} {N j : Nat} {cs : Array Value} {t : TypeId} {v : Value} (h : Kp w wr N (.cells cs t)) : Kp w (wr.setCell ⟨N, j, none⟩ v) N (.cells (cs.setIfInBounds j v) t) :=
  ⟨h.1.setCell h.2.1 _, h.2.1, heap_setCell_same wr N j cs t v h.2.2⟩
theorem kp_other {w wr : World} {N M j : Nat} {o : Obj} {v : Value} (h : Kp w wr N o) (hne : ¬ N = M) (hM : w.heap.size ≤ M) : Kp w (wr.setCell ⟨M, j, none⟩ v) N o :=
  ⟨h.1.setCell hM _, h.2.1, by rw [Below.heap_setCell _ _ _ _ hne]; exact h.2.2⟩
theorem kp_gr {w wr w' : World} {N M : Nat} {o : Obj} (h : Kp w wr N o) (hg : wr.grownBy w' (some M)) (hne : ¬ N = M) (hM : w.heap.size ≤ M) : Kp w w' N o :=
  ⟨h.1.grown hg h.1.size (fun k hk => by cases hk; exact hM), h.2.1, (hg.block N (heap_lt h.2.2) (fun e => hne (by cases e; rfl))).trans h.2.2⟩
theorem kp_at {w wr w' : World} {M : Nat} {o o' : Obj} (h : Kp w wr M o) (hg : wr.grownBy w' (some M)) (hp : w'.heap[M]? = some o') : Kp w w' M o' :=
  ⟨h.1.grown hg h.1.size (fun k hk => by cases hk; exact h.2.1), h.2.1, hp⟩
theorem kp_cell {w wr : World} {N : Nat} {cs : Array Value} {t : TypeId} (h : Kp w wr N (.cells cs t)) {j : Nat} {v : Value} (hj : cs[j]? = some v) : wr.cell? ⟨N, j, none⟩ = some v := by
  rw [cell_of_row _ _ _ _ t (0, 0) h.2.2]; exact hj
theorem kp_froz {w wr : World} {N : Nat} {cs : Array Value} {t : TypeId} (h : Kp w wr N (.cells cs t)) (j : Nat) : wr.frozen? ⟨N, j, none⟩ = false := frozen_of_row _ _ _ _ _ h.2.2
abbrev clC (n s0 s1 : Int) (a0 : Option Addr) (p0 k0 : Nat) (a1 : Option Addr) (p1 k1 : Nat) : Array Value := #[.int .i64 n, .int .i64 s0, .int .i64 s1, .slice a0 p0 k0, .slice a1 p1 k1]
theorem clC_one (n s0 s1 : Int) (a0 : Option Addr) (p0 k0 : Nat) (a1 : Option Addr) (p1 k1 : Nat) : ∀ v ∈ (clC n s0 s1 a0 p0 k0 a1 p1 k1).toList, v.oneCell' = true := by
  intro v hv
  simp only [List.mem_cons, List.not_mem_nil, or_false] at hv
  rcases hv with rfl | rfl | rfl | rfl | rfl <;> rfl
theorem size_cl : (Try.prog.info? 26).map (·.size) = some 5 := by kernel_rfl

end Go.Proofs.Ytjkkajhjcinalaa

namespace Go.Proofs.Ytjkkajhjcinalaa
open Go.ChangeShapes Go.WideShapes Go.ChangeAt Go.RowKit
set_option linter.unusedVariables false
set_option linter.unusedSimpArgs false
set_option maxRecDepth 100000

theorem box_seven {w : World} {D : Nat} {t : TypeId} {a b c d e f g : Value} (hD : w.heap[D]? = some (.cells #[a, b, c, d, e, f, g] t)) : w.cell? ⟨D, 0, none⟩ = some a ∧ w.cell? ⟨D, 1, none⟩ = some b ∧ w.cell? ⟨D, 2, none⟩ = some c ∧ w.cell? ⟨D, 3, none⟩ = some d ∧ w.cell? ⟨D, 4, none⟩ = some e ∧ w.cell? ⟨D, 5, none⟩ = some f ∧ w.cell? ⟨D, 6, none⟩ = some g := by
  refine ⟨?_, ?_, ?_, ?_, ?_, ?_, ?_⟩ <;> simp [World.cell?, hD]
/-- The four bags of a delta, in a world. -/
def DW (w : World) (a0 : Option Addr) (a1 a2 : Nat) (a3 : Option Addr) (a4 a5 : Nat) (a6 : Option Addr) (a7 a8 : Nat) (a9 : Option Addr) (a10 a11 : Nat) (d : Dl) : Prop := (NRun w a0 a1 a2 d.i0 ∧ NRun w a3 a4 a5 d.i1) ∧ NRun w a6 a7 a8 d.o0 ∧ NRun w a9 a10 a11 d.o1
theorem DW.below {w w' : World} {a0 : Option Addr} {a1 a2 : Nat} {a3 : Option Addr} {a4 a5 : Nat} {a6 : Option Addr} {a7 a8 : Nat} {a9 : Option Addr} {a10 a11 : Nat} {d : Dl} (h : DW w a0 a1 a2 a3 a4 a5 a6 a7 a8 a9 a10 a11 d) (hb : Below w.heap.size w w') : DW w' a0 a1 a2 a3 a4 a5 a6 a7 a8 a9 a10 a11 d := ⟨⟨h.1.1.below hb, h.1.2.below hb⟩, h.2.1.below hb, h.2.2.below hb⟩
theorem dw_0 (w : World) : DW w none 0 0 none 0 0 none 0 0 none 0 0 dl0 := ⟨⟨nrun_nil w, nrun_nil w⟩, nrun_nil w, nrun_nil w⟩
/-- Its numbers are numbers. -/
def okd (d : Dl) : Prop := (I64 d.n ∧ I64 d.s0 ∧ I64 d.s1) ∧ ((∀ r ∈ d.i0, nok r) ∧ (∀ r ∈ d.i1, nok r)) ∧ (∀ r ∈ d.o0, nok r) ∧ (∀ r ∈ d.o1, nok r)
/-- Its bags are short. -/
def shd (d : Dl) : Prop := (d.i0.length ≤ 1000 ∧ d.i1.length ≤ 1000) ∧ d.o0.length ≤ 1000 ∧ d.o1.length ≤ 1000
theorem dsm_n {a b : Dl} (h : ¬ a.n = b.n) : dsm a b = false := dsm_no (fun e => h (by rw [e]))
theorem dsm_s {a b : Dl} (h : ¬ (a.s0 = b.s0 ∧ a.s1 = b.s1)) : dsm a b = false := dsm_no (fun e => h (by rw [e]; exact ⟨rfl, rfl⟩))
theorem dsm_b {a b : Dl} (h : sm a.i0 b.i0 = false ∨ sm a.o0 b.o0 = false ∨ sm a.i1 b.i1 = false ∨ sm a.o1 b.o1 = false) : dsm a b = false := dsm_no (fun e => by
  subst e
  rcases h with h | h | h | h <;> (rw [sm_yes rfl] at h; cases h))
theorem dsm_all {a b : Dl} (h0 : a.n = b.n) (h1 : a.s0 = b.s0 ∧ a.s1 = b.s1) (h2 : sm a.i0 b.i0 = true) (h3 : sm a.o0 b.o0 = true) (h4 : sm a.i1 b.i1 = true) (h5 : sm a.o1 b.o1 = true) : dsm a b = true := by
  unfold dsm
  rw [decide_eq_true h0, decide_eq_true h1.1, decide_eq_true h1.2, h2, h3, h4, h5]
  rfl

set_option maxHeartbeats 32000000 in
theorem dsame_m (c d : Dl) (a0 : Option Addr) (a1 a2 : Nat) (a3 : Option Addr) (a4 a5 : Nat) (a6 : Option Addr) (a7 a8 : Nat) (a9 : Option Addr) (a10 a11 : Nat) (b0 : Option Addr) (b1 b2 : Nat) (b3 : Option Addr) (b4 b5 : Nat) (b6 : Option Addr) (b7 b8 : Nat) (b9 : Option Addr) (b10 b11 : Nat) (v : Bool) (w : World) (hw : DW w a0 a1 a2 a3 a4 a5 a6 a7 a8 a9 a10 a11 c) (hz : DW w b0 b1 b2 b3 b4 b5 b6 b7 b8 b9 b10 b11 d) (hv : Hid (dsm c d = v)) :
    Calls Try.prog 44 #[(.agg #[.int .i64 c.n, .int .i64 c.s0, .int .i64 c.s1, .slice a0 a1 a2, .slice a3 a4 a5, .slice a6 a7 a8, .slice a9 a10 a11]), (.agg #[.int .i64 d.n, .int .i64 d.s0, .int .i64 d.s1, .slice b0 b1 b2, .slice b3 b4 b5, .slice b6 b7 b8, .slice b9 b10 b11])] w fun e w' => e = .returned (.bool v) ∧ Below w.heap.size w w' := by
  have h := hv.out
  subst h
  clear hv
  have HW := hid hw
  have HZ := hid hz
  have eqm := eqM2
  have K0 := hid (kq_new w (.cells #[.int .i64 c.n, .int .i64 c.s0, .int .i64 c.s1, .slice a0 a1 a2, .slice a3 a4 a5, .slice a6 a7 a8, .slice a9 a10 a11] 68) (.cells #[.int .i64 d.n, .int .i64 d.s0, .int .i64 d.s1, .slice b0 b1 b2, .slice b3 b4 b5, .slice b6 b7 b8, .slice b9 b10 b11] 68))
  clear hw hz
  by_cases hn : c.n = d.n
  · have hnt : (c.n != d.n) = false := by simp [hn]
    have HN := hid hn
    clear hn
    by_cases hs : c.s0 = d.s0 ∧ c.s1 = d.s1
    · have hst : qm c.s0 c.s1 d.s0 d.s1 = true := qm_iff.2 hs
      have HS := hid hs
      clear hs
      go_enter Try.func44, Try.ntmps44
      go_upto_region 1 with fail
      generalize (w.alloc (.cells #[.int .i64 c.n, .int .i64 c.s0, .int .i64 c.s1, .slice a0 a1 a2, .slice a3 a4 a5, .slice a6 a7 a8, .slice a9 a10 a11] 68)).alloc (.cells #[.int .i64 d.n, .int .i64 d.s0, .int .i64 d.s1, .slice b0 b1 b2, .slice b3 b4 b5, .slice b6 b7 b8, .slice b9 b10 b11] 68) = W at K0 ⊢
      have KA := hid K0.out.1
      have KB := hid K0.out.2
      clear K0
      obtain ⟨N, hN⟩ : ∃ y, w.heap.size = y := ⟨_, rfl⟩
      obtain ⟨M, hM⟩ : ∃ y, w.heap.size + 1 = y := ⟨_, rfl⟩
      rw [hN] at KA ⊢
      have hM2 : N + 1 = M := by rw [← hN]; exact hM
      rw [hM] at KB
      (try rw [hM2])
      clear hN hM hM2
      obtain ⟨d0, d1, d2, d3, d4, d5, d6⟩ := box_seven KA.out.2.2
      obtain ⟨f0, f1, f2, f3, f4, f5, f6⟩ := box_seven KB.out.2.2
      go_upto_region 4 with fail
      clear d0 d1 d2 d3 d4 d5 d6 f0 f1 f2 f3 f4 f5 f6
      refine wp_loop_rounds 3 ?_
      rw [rounds_succ]
      obtain ⟨V0, ev0⟩ : ∃ x, sm c.i0 d.i0 = x := ⟨_, rfl⟩
      have EV0 := hid ev0
      clear ev0
      obtain ⟨U0, eu0⟩ : ∃ x, sm c.o0 d.o0 = x := ⟨_, rfl⟩
      have EU0 := hid eu0
      clear eu0
      go_wp2
      cases V0 with
      | false =>
        have KS : Hid (∀ y, Below W.heap.size W y → (fun y => Below W.heap.size W y ∧ y.cell? ⟨N, 3, none⟩ = some (.slice a0 a1 a2) ∧ y.cell? ⟨M, 3, none⟩ = some (.slice b0 b1 b2) ∧ y.cell? ⟨N, 5, none⟩ = some (.slice a6 a7 a8) ∧ y.cell? ⟨M, 5, none⟩ = some (.slice b6 b7 b8)) y) := hid (fun y hb => ⟨hb, kp_cell (j := 3) (v := .slice a0 a1 a2) (KA.out.step hb) rfl, kp_cell (j := 3) (v := .slice b0 b1 b2) (KB.out.step hb) rfl, kp_cell (j := 5) (v := .slice a6 a7 a8) (KA.out.step hb) rfl, kp_cell (j := 5) (v := .slice b6 b7 b8) (KB.out.step hb) rfl⟩)
        refine wp_region_noPanic ?_
        refine wp_region_held_drew (S := fun y => Below W.heap.size W y ∧ y.cell? ⟨N, 3, none⟩ = some (.slice a0 a1 a2) ∧ y.cell? ⟨M, 3, none⟩ = some (.slice b0 b1 b2) ∧ y.cell? ⟨N, 5, none⟩ = some (.slice a6 a7 a8) ∧ y.cell? ⟨M, 5, none⟩ = some (.slice b6 b7 b8)) (by kernel_rfl) (KS.out _ (bdrew (Below.refl _ _))) (fun hHeld => ?_)
        refine tk 0 (v := ?_) ?_ ?_
        rotate_left
        · intro w hSw; (try dsimp only at hSw); go_simp; (try with_reducible rfl)
        try simp only [Act.put, List.setIfInBounds_toArray, List.set_cons_zero, List.set_cons_succ]
        refine tk 1 (v := ?_) ?_ ?_
        rotate_left
        · intro w hSw; (try dsimp only at hSw); go_simp; (try with_reducible rfl)
        try simp only [Act.put, List.setIfInBounds_toArray, List.set_cons_zero, List.set_cons_succ]
        refine tk 2 (v := ?_) ?_ ?_
        rotate_left
        · intro w hSw; (try dsimp only at hSw); go_simp; (try with_reducible rfl)
        try simp only [Act.put, List.setIfInBounds_toArray, List.set_cons_zero, List.set_cons_succ]
        refine tk 3 (v := ?_) ?_ ?_
        rotate_left
        · intro w hSw; (try dsimp only at hSw); go_simp; (try with_reducible rfl)
        try simp only [Act.put, List.setIfInBounds_toArray, List.set_cons_zero, List.set_cons_succ]
        refine tk 4 (v := ?_) ?_ ?_
        rotate_left
        · intro w hSw; (try dsimp only at hSw); go_simp; (try with_reducible rfl)
        try simp only [Act.put, List.setIfInBounds_toArray, List.set_cons_zero, List.set_cons_succ]
        refine tk 5 (v := ?_) ?_ ?_
        rotate_left
        · intro w hSw; (try dsimp only at hSw); go_simp; (try with_reducible rfl)
        try simp only [Act.put, List.setIfInBounds_toArray, List.set_cons_zero, List.set_cons_succ]
        refine tk 6 (v := ?_) ?_ ?_
        rotate_left
        · intro w hSw; (try dsimp only at hSw); go_simp; (try with_reducible rfl)
        try simp only [Act.put, List.setIfInBounds_toArray, List.set_cons_zero, List.set_cons_succ]
        refine tk 7 (v := ?_) ?_ ?_
        rotate_left
        · intro w hSw; (try dsimp only at hSw); go_simp; (try with_reducible rfl)
        try simp only [Act.put, List.setIfInBounds_toArray, List.set_cons_zero, List.set_cons_succ]
        refine rd1 8 (fun K hK => ?_)
        go_simp
        go_at_call 68; refine (same_m _ _ _ _ _ _ _ _ _ _ (HW.out.1.1.below (bt KA.out.1 hHeld.1)) (HZ.out.1.1.below (bt KA.out.1 hHeld.1)) EV0).mono ?_; rintro e x0 ⟨rfl, hbx0⟩
        refine hK.out _ _ (KS.out _ (bt hHeld.1 hbx0)) (fun hHeld2 => ?_)
        clear hK K hHeld; have hHeld := hHeld2; clear hHeld2
        try simp only [Act.put, List.setIfInBounds_toArray, List.set_cons_zero, List.set_cons_succ]
        refine tk 9 (v := ?_) ?_ ?_
        rotate_left
        · intro w hSw; (try dsimp only at hSw); go_simp; (try with_reducible rfl)
        try simp only [Act.put, List.setIfInBounds_toArray, List.set_cons_zero, List.set_cons_succ]
        refine tk 10 (v := ?_) ?_ ?_
        rotate_left
        · intro w hSw; (try dsimp only at hSw); go_simp; (try with_reducible rfl)
        try simp only [Act.put, List.setIfInBounds_toArray, List.set_cons_zero, List.set_cons_succ]
        refine tks 11 ?_
        try simp only [Act.put, List.setIfInBounds_toArray, List.set_cons_zero, List.set_cons_succ]
        refine tks 12 ?_
        try simp only [Act.put, List.setIfInBounds_toArray, List.set_cons_zero, List.set_cons_succ]
        refine tks 13 ?_
        try simp only [Act.put, List.setIfInBounds_toArray, List.set_cons_zero, List.set_cons_succ]
        refine tks 14 ?_
        try simp only [Act.put, List.setIfInBounds_toArray, List.set_cons_zero, List.set_cons_succ]
        refine tks 15 ?_
        try simp only [Act.put, List.setIfInBounds_toArray, List.set_cons_zero, List.set_cons_succ]
        refine tks 16 ?_
        try simp only [Act.put, List.setIfInBounds_toArray, List.set_cons_zero, List.set_cons_succ]
        refine tks 17 ?_
        try simp only [Act.put, List.setIfInBounds_toArray, List.set_cons_zero, List.set_cons_succ]
        refine tks 18 ?_
        try simp only [Act.put, List.setIfInBounds_toArray, List.set_cons_zero, List.set_cons_succ]
        refine tks 19 ?_
        try simp only [Act.put, List.setIfInBounds_toArray, List.set_cons_zero, List.set_cons_succ]
        refine tks 20 ?_
        try simp only [Act.put, List.setIfInBounds_toArray, List.set_cons_zero, List.set_cons_succ]
        refine tk 21 (v := ?_) ?_ ?_
        rotate_left
        · intro w hSw; (try dsimp only at hSw); go_simp; (try with_reducible rfl)
        try simp only [Act.put, List.setIfInBounds_toArray, List.set_cons_zero, List.set_cons_succ]
        refine wpAnyH_done (by kernel_rfl) ?_ _
        refine NoPanic.normal ?_
        have B0 := hid (bt KA.out.1 hHeld.1)
        go_wp2
        go_ret
        exact ⟨ret_bool (dsm_b (by first | exact .inl EV0.out | exact .inr (.inr (.inl EV0.out)))).symm, B0.out⟩
      | true =>
        have KS : Hid (∀ y, Below W.heap.size W y → (fun y => Below W.heap.size W y ∧ y.cell? ⟨N, 3, none⟩ = some (.slice a0 a1 a2) ∧ y.cell? ⟨M, 3, none⟩ = some (.slice b0 b1 b2) ∧ y.cell? ⟨N, 5, none⟩ = some (.slice a6 a7 a8) ∧ y.cell? ⟨M, 5, none⟩ = some (.slice b6 b7 b8)) y) := hid (fun y hb => ⟨hb, kp_cell (j := 3) (v := .slice a0 a1 a2) (KA.out.step hb) rfl, kp_cell (j := 3) (v := .slice b0 b1 b2) (KB.out.step hb) rfl, kp_cell (j := 5) (v := .slice a6 a7 a8) (KA.out.step hb) rfl, kp_cell (j := 5) (v := .slice b6 b7 b8) (KB.out.step hb) rfl⟩)
        refine wp_region_noPanic ?_
        refine wp_region_held_drew (S := fun y => Below W.heap.size W y ∧ y.cell? ⟨N, 3, none⟩ = some (.slice a0 a1 a2) ∧ y.cell? ⟨M, 3, none⟩ = some (.slice b0 b1 b2) ∧ y.cell? ⟨N, 5, none⟩ = some (.slice a6 a7 a8) ∧ y.cell? ⟨M, 5, none⟩ = some (.slice b6 b7 b8)) (by kernel_rfl) (KS.out _ (bdrew (Below.refl _ _))) (fun hHeld => ?_)
        refine tk 0 (v := ?_) ?_ ?_
        rotate_left
        · intro w hSw; (try dsimp only at hSw); go_simp; (try with_reducible rfl)
        try simp only [Act.put, List.setIfInBounds_toArray, List.set_cons_zero, List.set_cons_succ]
        refine tk 1 (v := ?_) ?_ ?_
        rotate_left
        · intro w hSw; (try dsimp only at hSw); go_simp; (try with_reducible rfl)
        try simp only [Act.put, List.setIfInBounds_toArray, List.set_cons_zero, List.set_cons_succ]
        refine tk 2 (v := ?_) ?_ ?_
        rotate_left
        · intro w hSw; (try dsimp only at hSw); go_simp; (try with_reducible rfl)
        try simp only [Act.put, List.setIfInBounds_toArray, List.set_cons_zero, List.set_cons_succ]
        refine tk 3 (v := ?_) ?_ ?_
        rotate_left
        · intro w hSw; (try dsimp only at hSw); go_simp; (try with_reducible rfl)
        try simp only [Act.put, List.setIfInBounds_toArray, List.set_cons_zero, List.set_cons_succ]
        refine tk 4 (v := ?_) ?_ ?_
        rotate_left
        · intro w hSw; (try dsimp only at hSw); go_simp; (try with_reducible rfl)
        try simp only [Act.put, List.setIfInBounds_toArray, List.set_cons_zero, List.set_cons_succ]
        refine tk 5 (v := ?_) ?_ ?_
        rotate_left
        · intro w hSw; (try dsimp only at hSw); go_simp; (try with_reducible rfl)
        try simp only [Act.put, List.setIfInBounds_toArray, List.set_cons_zero, List.set_cons_succ]
        refine tk 6 (v := ?_) ?_ ?_
        rotate_left
        · intro w hSw; (try dsimp only at hSw); go_simp; (try with_reducible rfl)
        try simp only [Act.put, List.setIfInBounds_toArray, List.set_cons_zero, List.set_cons_succ]
        refine tk 7 (v := ?_) ?_ ?_
        rotate_left
        · intro w hSw; (try dsimp only at hSw); go_simp; (try with_reducible rfl)
        try simp only [Act.put, List.setIfInBounds_toArray, List.set_cons_zero, List.set_cons_succ]
        refine rd1 8 (fun K hK => ?_)
        go_simp
        go_at_call 68; refine (same_m _ _ _ _ _ _ _ _ _ _ (HW.out.1.1.below (bt KA.out.1 hHeld.1)) (HZ.out.1.1.below (bt KA.out.1 hHeld.1)) EV0).mono ?_; rintro e x0 ⟨rfl, hbx0⟩
        refine hK.out _ _ (KS.out _ (bt hHeld.1 hbx0)) (fun hHeld2 => ?_)
        clear hK K hHeld; have hHeld := hHeld2; clear hHeld2
        try simp only [Act.put, List.setIfInBounds_toArray, List.set_cons_zero, List.set_cons_succ]
        refine tk 9 (v := ?_) ?_ ?_
        rotate_left
        · intro w hSw; (try dsimp only at hSw); go_simp; (try with_reducible rfl)
        try simp only [Act.put, List.setIfInBounds_toArray, List.set_cons_zero, List.set_cons_succ]
        refine tk 10 (v := ?_) ?_ ?_
        rotate_left
        · intro w hSw; (try dsimp only at hSw); go_simp; (try with_reducible rfl)
        try simp only [Act.put, List.setIfInBounds_toArray, List.set_cons_zero, List.set_cons_succ]
        refine tk 11 (v := ?_) ?_ ?_
        rotate_left
        · intro w hSw; (try dsimp only at hSw); go_simp; (try with_reducible rfl)
        try simp only [Act.put, List.setIfInBounds_toArray, List.set_cons_zero, List.set_cons_succ]
        refine tk 12 (v := ?_) ?_ ?_
        rotate_left
        · intro w hSw; (try dsimp only at hSw); go_simp; (try with_reducible rfl)
        try simp only [Act.put, List.setIfInBounds_toArray, List.set_cons_zero, List.set_cons_succ]
        refine tk 13 (v := ?_) ?_ ?_
        rotate_left
        · intro w hSw; (try dsimp only at hSw); go_simp; (try with_reducible rfl)
        try simp only [Act.put, List.setIfInBounds_toArray, List.set_cons_zero, List.set_cons_succ]
        refine tk 14 (v := ?_) ?_ ?_
        rotate_left
        · intro w hSw; (try dsimp only at hSw); go_simp; (try with_reducible rfl)
        try simp only [Act.put, List.setIfInBounds_toArray, List.set_cons_zero, List.set_cons_succ]
        refine tk 15 (v := ?_) ?_ ?_
        rotate_left
        · intro w hSw; (try dsimp only at hSw); go_simp; (try with_reducible rfl)
        try simp only [Act.put, List.setIfInBounds_toArray, List.set_cons_zero, List.set_cons_succ]
        refine tk 16 (v := ?_) ?_ ?_
        rotate_left
        · intro w hSw; (try dsimp only at hSw); go_simp; (try with_reducible rfl)
        try simp only [Act.put, List.setIfInBounds_toArray, List.set_cons_zero, List.set_cons_succ]
        refine tk 17 (v := ?_) ?_ ?_
        rotate_left
        · intro w hSw; (try dsimp only at hSw); go_simp; (try with_reducible rfl)
        try simp only [Act.put, List.setIfInBounds_toArray, List.set_cons_zero, List.set_cons_succ]
        refine tk 18 (v := ?_) ?_ ?_
        rotate_left
        · intro w hSw; (try dsimp only at hSw); go_simp; (try with_reducible rfl)
        try simp only [Act.put, List.setIfInBounds_toArray, List.set_cons_zero, List.set_cons_succ]
        refine rd1 19 (fun K hK => ?_)
        go_simp
        go_at_call 68; refine (same_m _ _ _ _ _ _ _ _ _ _ (HW.out.2.1.below (bt KA.out.1 hHeld.1)) (HZ.out.2.1.below (bt KA.out.1 hHeld.1)) EU0).mono ?_; rintro e y0 ⟨rfl, hby0⟩
        refine hK.out _ _ (KS.out _ (bt hHeld.1 hby0)) (fun hHeld2 => ?_)
        clear hK K hHeld; have hHeld := hHeld2; clear hHeld2
        try simp only [Act.put, List.setIfInBounds_toArray, List.set_cons_zero, List.set_cons_succ]
        refine tk 20 (v := ?_) ?_ ?_
        rotate_left
        · intro w hSw; (try dsimp only at hSw); go_simp; (try with_reducible rfl)
        try simp only [Act.put, List.setIfInBounds_toArray, List.set_cons_zero, List.set_cons_succ]
        refine tk 21 (v := ?_) ?_ ?_
        rotate_left
        · intro w hSw; (try dsimp only at hSw); go_simp; (try with_reducible rfl)
        try simp only [Act.put, List.setIfInBounds_toArray, List.set_cons_zero, List.set_cons_succ]
        refine wpAnyH_done (by kernel_rfl) ?_ _
        refine NoPanic.normal ?_
        replace KA := hid (KA.out.step hHeld.1)
        replace KB := hid (KB.out.step hHeld.1)
        cases U0 with
        | false =>
          go_wp2
          go_ret
          exact ⟨ret_bool (dsm_b (by first | exact .inr (.inl EU0.out) | exact .inr (.inr (.inr EU0.out)))).symm, KA.out.1⟩
        | true =>
          clear hHeld KS
          go_wp2
          rw [rounds_succ]
          obtain ⟨V1, ev1⟩ : ∃ x, sm c.i1 d.i1 = x := ⟨_, rfl⟩
          have EV1 := hid ev1
          clear ev1
          obtain ⟨U1, eu1⟩ : ∃ x, sm c.o1 d.o1 = x := ⟨_, rfl⟩
          have EU1 := hid eu1
          clear eu1
          go_wp2
          cases V1 with
          | false =>
            have KS : Hid (∀ y, Below y0.heap.size y0 y → (fun y => Below y0.heap.size y0 y ∧ y.cell? ⟨N, 4, none⟩ = some (.slice a3 a4 a5) ∧ y.cell? ⟨M, 4, none⟩ = some (.slice b3 b4 b5) ∧ y.cell? ⟨N, 6, none⟩ = some (.slice a9 a10 a11) ∧ y.cell? ⟨M, 6, none⟩ = some (.slice b9 b10 b11)) y) := hid (fun y hb => ⟨hb, kp_cell (j := 4) (v := .slice a3 a4 a5) (KA.out.step hb) rfl, kp_cell (j := 4) (v := .slice b3 b4 b5) (KB.out.step hb) rfl, kp_cell (j := 6) (v := .slice a9 a10 a11) (KA.out.step hb) rfl, kp_cell (j := 6) (v := .slice b9 b10 b11) (KB.out.step hb) rfl⟩)
            refine wp_region_noPanic ?_
            refine wp_region_held_drew (S := fun y => Below y0.heap.size y0 y ∧ y.cell? ⟨N, 4, none⟩ = some (.slice a3 a4 a5) ∧ y.cell? ⟨M, 4, none⟩ = some (.slice b3 b4 b5) ∧ y.cell? ⟨N, 6, none⟩ = some (.slice a9 a10 a11) ∧ y.cell? ⟨M, 6, none⟩ = some (.slice b9 b10 b11)) (by kernel_rfl) (KS.out _ (bdrew (Below.refl _ _))) (fun hHeld => ?_)
            refine tk 0 (v := ?_) ?_ ?_
            rotate_left
            · intro w hSw; (try dsimp only at hSw); go_simp; (try with_reducible rfl)
            try simp only [Act.put, List.setIfInBounds_toArray, List.set_cons_zero, List.set_cons_succ]
            refine tk 1 (v := ?_) ?_ ?_
            rotate_left
            · intro w hSw; (try dsimp only at hSw); go_simp; (try with_reducible rfl)
            try simp only [Act.put, List.setIfInBounds_toArray, List.set_cons_zero, List.set_cons_succ]
            refine tk 2 (v := ?_) ?_ ?_
            rotate_left
            · intro w hSw; (try dsimp only at hSw); go_simp; (try with_reducible rfl)
            try simp only [Act.put, List.setIfInBounds_toArray, List.set_cons_zero, List.set_cons_succ]
            refine tk 3 (v := ?_) ?_ ?_
            rotate_left
            · intro w hSw; (try dsimp only at hSw); go_simp; (try with_reducible rfl)
            try simp only [Act.put, List.setIfInBounds_toArray, List.set_cons_zero, List.set_cons_succ]
            refine tk 4 (v := ?_) ?_ ?_
            rotate_left
            · intro w hSw; (try dsimp only at hSw); go_simp; (try with_reducible rfl)
            try simp only [Act.put, List.setIfInBounds_toArray, List.set_cons_zero, List.set_cons_succ]
            refine tk 5 (v := ?_) ?_ ?_
            rotate_left
            · intro w hSw; (try dsimp only at hSw); go_simp; (try with_reducible rfl)
            try simp only [Act.put, List.setIfInBounds_toArray, List.set_cons_zero, List.set_cons_succ]
            refine tk 6 (v := ?_) ?_ ?_
            rotate_left
            · intro w hSw; (try dsimp only at hSw); go_simp; (try with_reducible rfl)
            try simp only [Act.put, List.setIfInBounds_toArray, List.set_cons_zero, List.set_cons_succ]
            refine tk 7 (v := ?_) ?_ ?_
            rotate_left
            · intro w hSw; (try dsimp only at hSw); go_simp; (try with_reducible rfl)
            try simp only [Act.put, List.setIfInBounds_toArray, List.set_cons_zero, List.set_cons_succ]
            refine rd1 8 (fun K hK => ?_)
            go_simp
            go_at_call 68; refine (same_m _ _ _ _ _ _ _ _ _ _ (HW.out.1.2.below (bt KA.out.1 hHeld.1)) (HZ.out.1.2.below (bt KA.out.1 hHeld.1)) EV1).mono ?_; rintro e x1 ⟨rfl, hbx1⟩
            refine hK.out _ _ (KS.out _ (bt hHeld.1 hbx1)) (fun hHeld2 => ?_)
            clear hK K hHeld; have hHeld := hHeld2; clear hHeld2
            try simp only [Act.put, List.setIfInBounds_toArray, List.set_cons_zero, List.set_cons_succ]
            refine tk 9 (v := ?_) ?_ ?_
            rotate_left
            · intro w hSw; (try dsimp only at hSw); go_simp; (try with_reducible rfl)
            try simp only [Act.put, List.setIfInBounds_toArray, List.set_cons_zero, List.set_cons_succ]
            refine tk 10 (v := ?_) ?_ ?_
            rotate_left
            · intro w hSw; (try dsimp only at hSw); go_simp; (try with_reducible rfl)
            try simp only [Act.put, List.setIfInBounds_toArray, List.set_cons_zero, List.set_cons_succ]
            refine tks 11 ?_
            try simp only [Act.put, List.setIfInBounds_toArray, List.set_cons_zero, List.set_cons_succ]
            refine tks 12 ?_
            try simp only [Act.put, List.setIfInBounds_toArray, List.set_cons_zero, List.set_cons_succ]
            refine tks 13 ?_
            try simp only [Act.put, List.setIfInBounds_toArray, List.set_cons_zero, List.set_cons_succ]
            refine tks 14 ?_
            try simp only [Act.put, List.setIfInBounds_toArray, List.set_cons_zero, List.set_cons_succ]
            refine tks 15 ?_
            try simp only [Act.put, List.setIfInBounds_toArray, List.set_cons_zero, List.set_cons_succ]
            refine tks 16 ?_
            try simp only [Act.put, List.setIfInBounds_toArray, List.set_cons_zero, List.set_cons_succ]
            refine tks 17 ?_
            try simp only [Act.put, List.setIfInBounds_toArray, List.set_cons_zero, List.set_cons_succ]
            refine tks 18 ?_
            try simp only [Act.put, List.setIfInBounds_toArray, List.set_cons_zero, List.set_cons_succ]
            refine tks 19 ?_
            try simp only [Act.put, List.setIfInBounds_toArray, List.set_cons_zero, List.set_cons_succ]
            refine tks 20 ?_
            try simp only [Act.put, List.setIfInBounds_toArray, List.set_cons_zero, List.set_cons_succ]
            refine tk 21 (v := ?_) ?_ ?_
            rotate_left
            · intro w hSw; (try dsimp only at hSw); go_simp; (try with_reducible rfl)
            try simp only [Act.put, List.setIfInBounds_toArray, List.set_cons_zero, List.set_cons_succ]
            refine wpAnyH_done (by kernel_rfl) ?_ _
            refine NoPanic.normal ?_
            have B1 := hid (bt KA.out.1 hHeld.1)
            go_wp2
            go_ret
            exact ⟨ret_bool (dsm_b (by first | exact .inl EV1.out | exact .inr (.inr (.inl EV1.out)))).symm, B1.out⟩
          | true =>
            have KS : Hid (∀ y, Below y0.heap.size y0 y → (fun y => Below y0.heap.size y0 y ∧ y.cell? ⟨N, 4, none⟩ = some (.slice a3 a4 a5) ∧ y.cell? ⟨M, 4, none⟩ = some (.slice b3 b4 b5) ∧ y.cell? ⟨N, 6, none⟩ = some (.slice a9 a10 a11) ∧ y.cell? ⟨M, 6, none⟩ = some (.slice b9 b10 b11)) y) := hid (fun y hb => ⟨hb, kp_cell (j := 4) (v := .slice a3 a4 a5) (KA.out.step hb) rfl, kp_cell (j := 4) (v := .slice b3 b4 b5) (KB.out.step hb) rfl, kp_cell (j := 6) (v := .slice a9 a10 a11) (KA.out.step hb) rfl, kp_cell (j := 6) (v := .slice b9 b10 b11) (KB.out.step hb) rfl⟩)
            refine wp_region_noPanic ?_
            refine wp_region_held_drew (S := fun y => Below y0.heap.size y0 y ∧ y.cell? ⟨N, 4, none⟩ = some (.slice a3 a4 a5) ∧ y.cell? ⟨M, 4, none⟩ = some (.slice b3 b4 b5) ∧ y.cell? ⟨N, 6, none⟩ = some (.slice a9 a10 a11) ∧ y.cell? ⟨M, 6, none⟩ = some (.slice b9 b10 b11)) (by kernel_rfl) (KS.out _ (bdrew (Below.refl _ _))) (fun hHeld => ?_)
            refine tk 0 (v := ?_) ?_ ?_
            rotate_left
            · intro w hSw; (try dsimp only at hSw); go_simp; (try with_reducible rfl)
            try simp only [Act.put, List.setIfInBounds_toArray, List.set_cons_zero, List.set_cons_succ]
            refine tk 1 (v := ?_) ?_ ?_
            rotate_left
            · intro w hSw; (try dsimp only at hSw); go_simp; (try with_reducible rfl)
            try simp only [Act.put, List.setIfInBounds_toArray, List.set_cons_zero, List.set_cons_succ]
            refine tk 2 (v := ?_) ?_ ?_
            rotate_left
            · intro w hSw; (try dsimp only at hSw); go_simp; (try with_reducible rfl)
            try simp only [Act.put, List.setIfInBounds_toArray, List.set_cons_zero, List.set_cons_succ]
            refine tk 3 (v := ?_) ?_ ?_
            rotate_left
            · intro w hSw; (try dsimp only at hSw); go_simp; (try with_reducible rfl)
            try simp only [Act.put, List.setIfInBounds_toArray, List.set_cons_zero, List.set_cons_succ]
            refine tk 4 (v := ?_) ?_ ?_
            rotate_left
            · intro w hSw; (try dsimp only at hSw); go_simp; (try with_reducible rfl)
            try simp only [Act.put, List.setIfInBounds_toArray, List.set_cons_zero, List.set_cons_succ]
            refine tk 5 (v := ?_) ?_ ?_
            rotate_left
            · intro w hSw; (try dsimp only at hSw); go_simp; (try with_reducible rfl)
            try simp only [Act.put, List.setIfInBounds_toArray, List.set_cons_zero, List.set_cons_succ]
            refine tk 6 (v := ?_) ?_ ?_
            rotate_left
            · intro w hSw; (try dsimp only at hSw); go_simp; (try with_reducible rfl)
            try simp only [Act.put, List.setIfInBounds_toArray, List.set_cons_zero, List.set_cons_succ]
            refine tk 7 (v := ?_) ?_ ?_
            rotate_left
            · intro w hSw; (try dsimp only at hSw); go_simp; (try with_reducible rfl)
            try simp only [Act.put, List.setIfInBounds_toArray, List.set_cons_zero, List.set_cons_succ]
            refine rd1 8 (fun K hK => ?_)
            go_simp
            go_at_call 68; refine (same_m _ _ _ _ _ _ _ _ _ _ (HW.out.1.2.below (bt KA.out.1 hHeld.1)) (HZ.out.1.2.below (bt KA.out.1 hHeld.1)) EV1).mono ?_; rintro e x1 ⟨rfl, hbx1⟩
            refine hK.out _ _ (KS.out _ (bt hHeld.1 hbx1)) (fun hHeld2 => ?_)
            clear hK K hHeld; have hHeld := hHeld2; clear hHeld2
            try simp only [Act.put, List.setIfInBounds_toArray, List.set_cons_zero, List.set_cons_succ]
            refine tk 9 (v := ?_) ?_ ?_
            rotate_left
            · intro w hSw; (try dsimp only at hSw); go_simp; (try with_reducible rfl)
            try simp only [Act.put, List.setIfInBounds_toArray, List.set_cons_zero, List.set_cons_succ]
            refine tk 10 (v := ?_) ?_ ?_
            rotate_left
            · intro w hSw; (try dsimp only at hSw); go_simp; (try with_reducible rfl)
            try simp only [Act.put, List.setIfInBounds_toArray, List.set_cons_zero, List.set_cons_succ]
            refine tk 11 (v := ?_) ?_ ?_
            rotate_left
            · intro w hSw; (try dsimp only at hSw); go_simp; (try with_reducible rfl)
            try simp only [Act.put, List.setIfInBounds_toArray, List.set_cons_zero, List.set_cons_succ]
            refine tk 12 (v := ?_) ?_ ?_
            rotate_left
            · intro w hSw; (try dsimp only at hSw); go_simp; (try with_reducible rfl)
            try simp only [Act.put, List.setIfInBounds_toArray, List.set_cons_zero, List.set_cons_succ]
            refine tk 13 (v := ?_) ?_ ?_
            rotate_left
            · intro w hSw; (try dsimp only at hSw); go_simp; (try with_reducible rfl)
            try simp only [Act.put, List.setIfInBounds_toArray, List.set_cons_zero, List.set_cons_succ]
            refine tk 14 (v := ?_) ?_ ?_
            rotate_left
            · intro w hSw; (try dsimp only at hSw); go_simp; (try with_reducible rfl)
            try simp only [Act.put, List.setIfInBounds_toArray, List.set_cons_zero, List.set_cons_succ]
            refine tk 15 (v := ?_) ?_ ?_
            rotate_left
            · intro w hSw; (try dsimp only at hSw); go_simp; (try with_reducible rfl)
            try simp only [Act.put, List.setIfInBounds_toArray, List.set_cons_zero, List.set_cons_succ]
            refine tk 16 (v := ?_) ?_ ?_
            rotate_left
            · intro w hSw; (try dsimp only at hSw); go_simp; (try with_reducible rfl)
            try simp only [Act.put, List.setIfInBounds_toArray, List.set_cons_zero, List.set_cons_succ]
            refine tk 17 (v := ?_) ?_ ?_
            rotate_left
            · intro w hSw; (try dsimp only at hSw); go_simp; (try with_reducible rfl)
            try simp only [Act.put, List.setIfInBounds_toArray, List.set_cons_zero, List.set_cons_succ]
            refine tk 18 (v := ?_) ?_ ?_
            rotate_left
            · intro w hSw; (try dsimp only at hSw); go_simp; (try with_reducible rfl)
            try simp only [Act.put, List.setIfInBounds_toArray, List.set_cons_zero, List.set_cons_succ]
            refine rd1 19 (fun K hK => ?_)
            go_simp
            go_at_call 68; refine (same_m _ _ _ _ _ _ _ _ _ _ (HW.out.2.2.below (bt KA.out.1 hHeld.1)) (HZ.out.2.2.below (bt KA.out.1 hHeld.1)) EU1).mono ?_; rintro e y1 ⟨rfl, hby1⟩
            refine hK.out _ _ (KS.out _ (bt hHeld.1 hby1)) (fun hHeld2 => ?_)
            clear hK K hHeld; have hHeld := hHeld2; clear hHeld2
            try simp only [Act.put, List.setIfInBounds_toArray, List.set_cons_zero, List.set_cons_succ]
            refine tk 20 (v := ?_) ?_ ?_
            rotate_left
            · intro w hSw; (try dsimp only at hSw); go_simp; (try with_reducible rfl)
            try simp only [Act.put, List.setIfInBounds_toArray, List.set_cons_zero, List.set_cons_succ]
            refine tk 21 (v := ?_) ?_ ?_
            rotate_left
            · intro w hSw; (try dsimp only at hSw); go_simp; (try with_reducible rfl)
            try simp only [Act.put, List.setIfInBounds_toArray, List.set_cons_zero, List.set_cons_succ]
            refine wpAnyH_done (by kernel_rfl) ?_ _
            refine NoPanic.normal ?_
            replace KA := hid (KA.out.step hHeld.1)
            replace KB := hid (KB.out.step hHeld.1)
            cases U1 with
            | false =>
              go_wp2
              go_ret
              exact ⟨ret_bool (dsm_b (by first | exact .inr (.inl EU1.out) | exact .inr (.inr (.inr EU1.out)))).symm, KA.out.1⟩
            | true =>
              clear hHeld KS
              go_wp2
              rw [rounds_succ]
              go_wp2
              go_ret
              exact ⟨ret_bool (dsm_all HN.out HS.out EV0.out EU0.out EV1.out EU1.out).symm, KA.out.1⟩
    · have hst : qm c.s0 c.s1 d.s0 d.s1 = false := by
        cases e : qm c.s0 c.s1 d.s0 d.s1 with
        | false => rfl
        | true => exact absurd (qm_iff.1 e) hs
      have HS := hid hs
      clear hs
      go_enter Try.func44, Try.ntmps44
      go_upto_region 1 with fail
      generalize (w.alloc (.cells #[.int .i64 c.n, .int .i64 c.s0, .int .i64 c.s1, .slice a0 a1 a2, .slice a3 a4 a5, .slice a6 a7 a8, .slice a9 a10 a11] 68)).alloc (.cells #[.int .i64 d.n, .int .i64 d.s0, .int .i64 d.s1, .slice b0 b1 b2, .slice b3 b4 b5, .slice b6 b7 b8, .slice b9 b10 b11] 68) = W at K0 ⊢
      obtain ⟨d0, d1, d2, d3, d4, d5, d6⟩ := box_seven K0.out.1.2.2
      obtain ⟨f0, f1, f2, f3, f4, f5, f6⟩ := box_seven K0.out.2.2.2
      go_wp2
      go_ret
      exact ⟨ret_bool (dsm_s HS.out).symm, K0.out.1.1⟩
  · have hnt : (c.n != d.n) = true := by simp [hn]
    have HN := hid hn
    clear hn
    go_enter Try.func44, Try.ntmps44
    go_upto_region 1 with fail
    generalize (w.alloc (.cells #[.int .i64 c.n, .int .i64 c.s0, .int .i64 c.s1, .slice a0 a1 a2, .slice a3 a4 a5, .slice a6 a7 a8, .slice a9 a10 a11] 68)).alloc (.cells #[.int .i64 d.n, .int .i64 d.s0, .int .i64 d.s1, .slice b0 b1 b2, .slice b3 b4 b5, .slice b6 b7 b8, .slice b9 b10 b11] 68) = W at K0 ⊢
    obtain ⟨d0, d1, d2, d3, d4, d5, d6⟩ := box_seven K0.out.1.2.2
    obtain ⟨f0, f1, f2, f3, f4, f5, f6⟩ := box_seven K0.out.2.2.2
    go_wp2
    go_ret
    exact ⟨ret_bool (dsm_n HN.out).symm, K0.out.1.1⟩

end Go.Proofs.Ytjkkajhjcinalaa

namespace Go.Proofs.Ytjkkajhjcinalaa.calc
open Go.ChangeShapes Go.WideShapes Go.ChangeAt Go.RowKit
set_option linter.unusedVariables false
set_option linter.unusedSimpArgs false
set_option maxRecDepth 100000
set_option maxHeartbeats 400000 in
theorem rminus_any (x : Int) (w : World) :
    Calls Try.prog 111 #[.agg #[.bool (ng x), .int .u64 (hi (sz x)), .int .u64 (lo (sz x))]] w fun e w' => e = .returned (.agg #[.bool (ng (-x)), .int .u64 (hi (sz (-x))), .int .u64 (lo (sz (-x)))]) ∧ Below w.heap.size w w' := by
  rw [sz_minus]
  by_cases hx : x = 0
  · have e : ng (-x) = ng x := by rw [hx]; rfl
    have e1 : (hi (sz x) == 0) = true := by rw [hx]; rfl
    have e2 : (lo (sz x) == 0) = true := by rw [hx]; rfl
    rw [e]
    clear hx e
    go_enter Try.func111, Try.ntmps111
    go_wp2
    exact bodyPost_ret (v := .agg #[.bool (ng x), .int .u64 (hi (sz x)), .int .u64 (lo (sz x))]) (by simp [results, Try.results111, go_sem]) rfl ⟨rfl, ((Below.refl _ _).alloc (Nat.le_refl _) _).alloc (by simp) _⟩
  · rw [ng_minus1 hx]
    by_cases h1 : hi (sz x) = 0
    · have h2 : (lo (sz x) == 0) = false := by
        simp only [beq_eq_false_iff_ne, ne_eq]; exact fun h => hx (sz_zero h1 h)
      have h3 : (hi (sz x) == 0) = true := by simp [h1]
      clear h1 hx
      go_enter Try.func111, Try.ntmps111
      go_wp2
      exact bodyPost_ret (v := .agg #[.bool (!ng x), .int .u64 (hi (sz x)), .int .u64 (lo (sz x))]) (by simp [results, Try.results111, go_sem]) rfl ⟨rfl, ((Below.refl _ _).alloc (Nat.le_refl _) _).alloc (by simp) _⟩
    · have h3 : (hi (sz x) == 0) = false := by simp [h1]
      clear h1 hx
      go_enter Try.func111, Try.ntmps111
      go_wp2
      exact bodyPost_ret (v := .agg #[.bool (!ng x), .int .u64 (hi (sz x)), .int .u64 (lo (sz x))]) (by simp [results, Try.results111, go_sem]) rfl ⟨rfl, ((Below.refl _ _).alloc (Nat.le_refl _) _).alloc (by simp) _⟩
end Go.Proofs.Ytjkkajhjcinalaa.calc
namespace Go.Proofs.Ytjkkajhjcinalaa
open Go.ChangeShapes Go.WideShapes Go.ChangeAt Go.RowKit
set_option linter.unusedVariables false
set_option linter.unusedSimpArgs false
set_option maxRecDepth 100000

abbrev wvC (x : Int) : Array Value := #[.bool (calc.ng x), .int .u64 (calc.hi (calc.sz x)), .int .u64 (calc.lo (calc.sz x))]
theorem wvC_one (x : Int) : ∀ v ∈ (wvC x).toList, v.oneCell' = true := by
  intro v hv
  simp at hv
  rcases hv with rfl | rfl | rfl <;> rfl
theorem size_wv : (Try.prog.info? 121).map (·.size) = some 3 := by kernel_rfl
theorem wsum_sz {l : List Rn} (hb : Bag l) (hk : ∀ r ∈ l, nok r) : calc.sz (wsum l) ≤ 10141204801825835211973625643008 ∧ calc.sz (-wsum l) ≤ 10141204801825835211973625643008 := by
  have h := wsum_bd (fun r hr => (hk r hr).1) hb.2.1
  have := hb.2.2
  have := tot_nn hb.2.1
  unfold calc.sz
  constructor <;> split <;> omega
set_option maxHeartbeats 8000000 in
theorem rwide_m (a1 a2 : Option Addr) (n c m d : Nat) (l u : List Rn) (X : Int) (w : World) (hl : NRun w a1 n c l) (hu : NRun w a2 m d u) (hk : ∀ r ∈ l, nok r) (hk' : ∀ r ∈ u, nok r) (bl : Bag l) (bu : Bag u) (hX : Hid (wsum l - wsum u = X)) :
    Calls Try.prog 82 #[.slice a1 n c, .slice a2 m d] w fun e w' => e = .returned (.agg (wvC X)) ∧ Below w.heap.size w w' := by
  have HL := hid hl
  have HU := hid hu
  have KL := hid hk
  have KU := hid hk'
  have BL := hid bl
  have BU := hid bu
  have tkA : True := trivial
  obtain ⟨P, hP⟩ : ∃ y, wsum l = y := ⟨_, rfl⟩
  obtain ⟨Q, hQ⟩ : ∃ y, wsum u = y := ⟨_, rfl⟩
  have s1 := (wsum_sz bl hk).1
  have s2 := (wsum_sz bu hk').2
  rw [hP] at s1
  rw [hQ] at s2
  have hPQ : P + -Q = X := by rw [← hX.out, hP, hQ]; omega
  have WL : Hid (∀ W, NRun W a1 n c l → Calls Try.prog 61 #[.slice a1 n c] W fun e w' => e = .returned (.agg #[.bool (calc.ng P), .int .u64 (calc.hi (calc.sz P)), .int .u64 (calc.lo (calc.sz P))]) ∧ Below W.heap.size W w') := hid (fun W h => by have := wide_good a1 n c l W h KL.out BL.out; rw [hP] at this; exact this)
  have WU : Hid (∀ W, NRun W a2 m d u → Calls Try.prog 61 #[.slice a2 m d] W fun e w' => e = .returned (.agg #[.bool (calc.ng Q), .int .u64 (calc.hi (calc.sz Q)), .int .u64 (calc.lo (calc.sz Q))]) ∧ Below W.heap.size W w') := hid (fun W h => by have := wide_good a2 m d u W h KU.out BU.out; rw [hQ] at this; exact this)
  have PL : Hid (∀ W, Calls Try.prog 98 #[.agg #[.bool (calc.ng P), .int .u64 (calc.hi (calc.sz P)), .int .u64 (calc.lo (calc.sz P))], .agg #[.bool (calc.ng (-Q)), .int .u64 (calc.hi (calc.sz (-Q))), .int .u64 (calc.lo (calc.sz (-Q)))]] W fun e w' => e = .returned (.agg (wvC X)) ∧ Below W.heap.size W w') := hid (fun W => by have := calc.rplus_any P (-Q) W (by omega) (by omega); rw [hPQ] at this; exact this)
  have KR := hid (kp_new w (.cells #[.bool false, .int .u64 0, .int .u64 0] 121))
  clear hl hu hk hk' bl bu hP hQ s1 s2 hPQ
  go_enter Try.func82, Try.ntmps82
  go_upto_region 1 with fail
  generalize w.alloc (.cells #[.bool false, .int .u64 0, .int .u64 0] 121) = W0 at KR ⊢
  go_wp2_with (first
    | (go_at_call 61; clear tkA; refine (WL.out _ (HL.out.below KR.out.1)).mono ?_; rintro e w1 ⟨rfl, hb⟩; replace KR := hid (KR.out.step hb); clear hb)
    | (go_at_call 61; refine (WU.out _ (HU.out.below KR.out.1)).mono ?_; rintro e w2 ⟨rfl, hb⟩; replace KR := hid (KR.out.step hb); clear hb)
    | (go_at_call 111; refine (calc.rminus_any Q _).mono ?_; rintro e w3 ⟨rfl, hb⟩; replace KR := hid (KR.out.step hb); clear hb)
    | (go_at_call 98; refine (PL.out _).mono ?_; rintro e w4 ⟨rfl, hb⟩; replace KR := hid (KR.out.step hb); clear hb)
    | (refine wpList_store_whole rfl 121 (.tmp 4) (.tmp 10) rfl w.heap.size (wvC X) rfl rfl 121 _ KR.out.2.2 rfl (by show _ = some 3; exact size_wv) (wvC_one _) ?_; intro w9 hp9 hg9; have KR9 := hid (kp_at KR.out hg9 hp9); clear hp9 hg9))
  (try simp only [Exit.inBlock, Exit.then])
  show bodyPost Try.prog Try.f82 _ _ _ _
  refine bodyPost_ret (results_cell_row (p := 4) rfl _ _ w.heap.size _ (wvC X) (0, 0) _ rfl KR9.out.2.2 Try.underlying121 rfl (by kernel_rfl)) rfl ?_
  exact ⟨rfl, KR9.out.1⟩

end Go.Proofs.Ytjkkajhjcinalaa

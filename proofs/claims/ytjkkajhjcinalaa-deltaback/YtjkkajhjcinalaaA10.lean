/-
  What measured, common and reckoned of delta return.
  Conditions: as each theorem states them.
-/
import Derived.Test.YtjkkajhjcinalaaG3
import Derived.Test.YtjkkajhjcinalaaG1
import Derived.Test.YtjkkajhjcinalaaBP
import Derived.Test.YtjkkajhjcinalaaB9
import Derived.Test.YtjkkajhjcinalaaQ9
import Derived.Deep.RegionLaw
namespace Go.Proofs.Ytjkkajhjcinalaa
open Go.ChangeShapes Go.WideShapes Go.ChangeAt Go.RowKit
set_option linter.unusedVariables false
set_option linter.unusedSimpArgs false
set_option maxRecDepth 100000

/-- What freshly told runs lie in is new. -/
def FarN (w : World) (a : Option Addr) (n : Nat) : Prop := 0 < n → ∀ b off, a = some ⟨b, off, none⟩ → w.heap.size ≤ b
theorem farN_0 (w : World) (a : Option Addr) : FarN w a 0 := fun h => by cases h
theorem own_farN {w wr : World} {base k cap : Nat} {v : Value} {l : List Rn} {a : Option Addr} {n : Nat} (h : OwnN wr base v l) (e : v = .slice a k cap) (hb : w.heap.size ≤ base) : FarN w a n := by
  intro _ b off ea
  subst e ea
  have := (h.lt b rfl).1
  omega
theorem FarN.mono {w w' : World} {a : Option Addr} {n : Nat} (h : FarN w' a n) (hs : w.heap.size ≤ w'.heap.size) : FarN w a n := fun h0 b off e => Nat.le_trans hs (h h0 b off e)
/-- Runs whose block is none of those below: another block's stores don't turn them. -/
theorem NRun.apart {w w' : World} {a : Option Addr} {n c G : Nat} {l : List Rn} (h : NRun w a n c l) (hg : w.grownBy w' (some G)) (hne : 0 < n → ∀ b off, a = some ⟨b, off, none⟩ → ¬ b = G) : NRun w' a n c l := by
  obtain ⟨h1, h2, h3, h4, h5⟩ := h
  refine ⟨h1, h2, h3, h4, fun h0 => ?_⟩
  obtain ⟨b, off, e, hlt, hl⟩ := h5 h0
  exact ⟨b, off, e, Nat.lt_of_lt_of_le hlt hg.size, fun j r hj i v hi => (grown_cell hg hlt (fun e' => hne h0 b off e (by cases e'; rfl))).trans (hl j r hj i v hi)⟩

theorem dmeas_m (m : Int) (v : Bool) (w : World) (hv : Hid ((decide (m = 1) || decide (m = 2)) = v)) :
    Calls Try.prog 75 #[.int .i64 m] w fun e w' => e = .returned (.bool v) ∧ Below w.heap.size w w' := by
  have h := hv.out
  subst h
  clear hv
  by_cases h1 : 1 ≤ m
  · have h1d : decide (m < 1) = false := decide_eq_false (by omega)
    by_cases h2 : m ≤ 2
    · have h2d : decide (2 < m) = false := decide_eq_false (by omega)
      have hd : (decide (m = 1) || decide (m = 2)) = true := by simp only [Bool.or_eq_true, decide_eq_true_iff]; omega
      rw [hd]
      clear hd
      go_enter Try.func75, Try.ntmps75
      go_wp2
      go_ret
      exact ⟨rfl, Below.refl _ _⟩
    · have h2d : decide (2 < m) = true := decide_eq_true (by omega)
      have hd : (decide (m = 1) || decide (m = 2)) = false := by simp only [Bool.or_eq_false_iff, decide_eq_false_iff_not]; omega
      rw [hd]
      clear hd
      go_enter Try.func75, Try.ntmps75
      go_wp2
      go_ret
      exact ⟨rfl, Below.refl _ _⟩
  · have h1d : decide (m < 1) = true := decide_eq_true (by omega)
    have hd : (decide (m = 1) || decide (m = 2)) = false := by simp only [Bool.or_eq_false_iff, decide_eq_false_iff_not]; omega
    rw [hd]
    clear hd
    go_enter Try.func75, Try.ntmps75
    go_wp2
    go_ret
    exact ⟨rfl, Below.refl _ _⟩

/-- What is common, step by step. -/
theorem com_lt {x y : Rn} {a b : List Rn} (hb : Srt (y :: b)) (h : x.1 < y.1) : com (x :: a) (y :: b) = com a (y :: b) := by
  have hb' := hb
  rw [Srt, List.pairwise_cons] at hb'
  have z : cn x.1 (y :: b) = 0 := cn_gt (fun r hr => by
    rcases List.mem_cons.1 hr with rfl | hr
    · exact h
    · have := hb'.1 r hr; unfold ltR at this; omega)
  rw [com_cons, z, if_neg (by have := imin x.2 0; omega)]
  rfl
theorem com_skip {y : Rn} {a b : List Rn} (h : ∀ r ∈ a, ¬ y.1 = r.1) : com a (y :: b) = com a b := by
  unfold com
  congr 1
  refine List.map_congr_left (fun r hr => ?_)
  have e : cn r.1 (y :: b) = cn r.1 b := by simp only [cn, if_neg (h r hr)]; omega
  rw [e]
theorem com_gt {x y : Rn} {a b : List Rn} (ha : Srt (x :: a)) (h : y.1 < x.1) : com (x :: a) (y :: b) = com (x :: a) b := by
  have ha' := ha
  rw [Srt, List.pairwise_cons] at ha'
  refine com_skip (fun r hr => ?_)
  rcases List.mem_cons.1 hr with rfl | hr
  · omega
  · have := ha'.1 r hr; unfold ltR at this; omega
theorem com_eq {x y : Rn} {a b : List Rn} (ha : Srt (x :: a)) (hb : Srt (y :: b)) (px : 1 ≤ x.2) (py : 1 ≤ y.2) (h : x.1 = y.1) : com (x :: a) (y :: b) = (x.1, min x.2 y.2) :: com a b := by
  have ha' := ha
  have hb' := hb
  rw [Srt, List.pairwise_cons] at ha' hb'
  have z : cn x.1 (y :: b) = y.2 := by rw [h]; exact cn_at hb (k := 0) rfl
  rw [com_cons, z, if_pos (by have := imin x.2 y.2; omega), com_skip (fun r hr => by have := ha'.1 r hr; unfold ltR at this; omega)]
  rfl
theorem com_nilR (a : List Rn) : com a [] = [] := com_empty.2 (fun r hr => by have := imin r.2 (cn r.1 []); simp only [cn] at *; omega)
/-- The way of common. -/
def CI (l u la lb out : List Rn) : Prop := Bag la ∧ Bag lb ∧ com l u = out ++ com la lb
theorem ci_0 {l u : List Rn} (hl : Bag l) (hu : Bag u) : CI l u l u [] := ⟨hl, hu, rfl⟩
theorem bag_tail {x : Rn} {a : List Rn} (h : Bag (x :: a)) : Bag a := bag_drop h 1
theorem ci_lt {l u a b out : List Rn} {x y : Rn} (h : CI l u (x :: a) (y :: b) out) (hlt : x.1 < y.1) : CI l u a (y :: b) out := by
  obtain ⟨h1, h2, h3⟩ := h
  exact ⟨bag_tail h1, h2, by rw [h3, com_lt h2.1 hlt]⟩
theorem ci_gt {l u a b out : List Rn} {x y : Rn} (h : CI l u (x :: a) (y :: b) out) (hlt : y.1 < x.1) : CI l u (x :: a) b out := by
  obtain ⟨h1, h2, h3⟩ := h
  exact ⟨h1, bag_tail h2, by rw [h3, com_gt h1.1 hlt]⟩
theorem ci_eq {l u a b out : List Rn} {x y : Rn} (h : CI l u (x :: a) (y :: b) out) (he : x.1 = y.1) : CI l u a b (out ++ [(x.1, min x.2 y.2)]) := by
  obtain ⟨h1, h2, h3⟩ := h
  refine ⟨bag_tail h1, bag_tail h2, ?_⟩
  rw [h3, com_eq h1.1 h2.1 (h1.2.1 x (by simp)) (h2.2.1 y (by simp)) he, List.append_assoc]
  rfl
theorem ci_end {l u la lb out : List Rn} (h : CI l u la lb out) (he : la = [] ∨ lb = []) : com l u = out := by
  obtain ⟨h1, h2, h3⟩ := h
  rcases he with rfl | rfl
  · rw [h3, com_nil, List.append_nil]
  · rw [h3, com_nilR, List.append_nil]
theorem ci_len {l u la lb out : List Rn} (h : CI l u la lb out) : out.length ≤ l.length := by
  have := com_len l u
  rw [h.2.2, List.length_append] at this
  omega
theorem cons_of {a : List Rn} {x : Rn} (h : a[0]? = some x) : a = x :: a.drop 1 := by
  cases a with
  | nil => simp at h
  | cons y a => simp at h; subst h; rfl

/-- One run more behind a row of one's own, as a step of a drawn region. -/
theorem step_append_run (w : World) {ops : Array Oper} {o : Oper} {a : Act} {K : Act → World → Prop} {Q : Exit → Act → World → Prop} {E : Prop} (hgd : o.guard = none) (s x : Operand)
    (ho : o.op = .call { callee := .builtin .append, args := #[s, x], argTypes := #[23, 23] }) (base : Nat) (v : Value) (xs : List Rn) (N : Nat) (p q : Int)
    (hs : a.eval s = v) (hown : OwnN w base v xs) (hx : a.eval x = .slice (some ⟨N, 0, none⟩) 1 1) (hN : w.heap[N]? = some (.cells #[.int .i64 p, .int .i64 q] 65)) (hn : xs.length ≤ 1000000) (hbase : base ≤ w.heap.size)
    (h : ∀ v' w', OwnN w' base v' (xs ++ [(p, q)]) → w.grownBy w' v.ownBlock → K (a.put o.dst v') w') :
    if Region.wanted o (yielded ops a.tmps) = true then Oper.wp Try.prog o a w K Q else E := by
  have hw : Region.wanted o (yielded ops a.tmps) = true := by simp [Region.wanted, hgd]
  rw [if_pos hw]
  obtain ⟨i0, hi, hz0, hz1, hz2⟩ := info_parts info_nr
  have hc : ∀ j u, [Value.int .i64 p, Value.int .i64 q][j]? = some u → w.cell? ((⟨N, 0, none⟩ : Addr).add j) = some u := by
    intro j u hu
    obtain ⟨c0, c1⟩ := box_two hN
    match j, hu with
    | 0, hu => simp at hu; subst hu; exact c0
    | 1, hu => simp at hu; subst hu; exact c1
  obtain ⟨v', w', hr', h2, h3, hiff⟩ := run_append_own (P := Try.prog) w base 23 o.type 65 i0 _ 2 16 Try.underlying23 hi hz0 hz1 hz2 rfl (by decide) v xs.length (ncells xs) hown ⟨N, 0, none⟩ 1 1 [.int .i64 p, .int .i64 q] rfl hc (by intro u hu; simp at hu; rcases hu with rfl | rfl <;> rfl) (by unfold maxLen; omega) (by omega) hbase
  unfold Oper.wp execOp
  simp only [ho, resolve, invoke, builtin, Sem.run_bind, Sem.run_pure, Result.andThen_ok, List.map_toArray, List.map_cons, List.map_nil, hs, hx, hr']
  refine h v' w' ?_ h3
  have e1 : ncells xs ++ [.int .i64 p, .int .i64 q] = ncells (xs ++ [(p, q)]) := by rw [ncells_app]; rfl
  rw [e1] at h2
  unfold OwnN
  rw [List.length_append]
  exact h2

set_option maxHeartbeats 8000000 in
theorem dcom_m (a1 a2 : Option Addr) (n c m d k : Nat) (l u M : List Rn) (w : World) (hl : NRun w a1 n c l) (hu : NRun w a2 m d u) (bl : Bag l) (bu : Bag u) (hn : n ≤ 1000) (hm : m ≤ 1000) (hM : Hid (com l u = M)) (hk : Hid (M.length = k)) :
    Calls Try.prog 110 #[.slice a1 n c, .slice a2 m d] w fun e w' => (∃ A cap, e = .returned (.slice A k cap) ∧ NRun w' A k cap M) ∧ Below w.heap.size w w' := by
  have HL := hid hl
  have HU := hid hu
  have EL := hid hl.lens.1
  have C0 := hid (ci_0 bl bu)
  have O0 : Hid (OwnW w w (.slice none 0 0) []) := hid ⟨Below.refl _ _, own_nil _ _⟩
  clear hl hu bl bu
  go_enter Try.func110, Try.ntmps110
  go_wp2
  go_loopg [0, 1, 5] (n + m) (fun g sa sb so wr => ∃ (A : Option Addr) (p q : Nat) (B : Option Addr) (r s : Nat) (la lb : List Rn) (v : Value) (out : List Rn), sa = .slice A p q ∧ sb = .slice B r s ∧ v = so ∧ p ≤ 1000 ∧ r ≤ 1000 ∧ p + r ≤ g ∧ Hid (NRun w A p q la) ∧ Hid (NRun w B r s lb) ∧ Hid (CI l u la lb out) ∧ Hid (OwnW w wr v out))
  case atStart => exact ⟨a1, n, c, a2, m, d, l, u, _, [], rfl, rfl, rfl, hn, hm, Nat.le_refl _, HL, HU, C0, O0⟩
  case round =>
    obtain ⟨A, p, q, B, r, s, la, lb, v, out, rfl, rfl, rfl, hp, hr, hg, HA, HBr, CC, OW⟩ := hrel
    by_cases hp0 : p = 0
    · have HE : Hid (out = M) := hid (by rw [← hM.out]; exact (ci_end CC.out (.inl (List.length_eq_zero_iff.mp (by have := HA.out.lens.1; omega)))).symm)
      subst hp0
      obtain ⟨A9, cap, e, hr9⟩ := own_any OW.out.2
      subst e
      have HR9 := hid hr9
      clear hr9
      go_wp2
      go_ret
      have := HE.out
      rw [← hk.out, ← HE.out]
      exact ⟨⟨A9, cap, rfl, HR9.out⟩, OW.out.1⟩
    · have hpd : decide ((0 : Int) < (p : Int)) = true := decide_eq_true (by omega)
      have hpi : (0 : Int) < (p : Int) := by omega
      have hpn : decide (0 < p) = true := decide_eq_true (by omega)
      by_cases hr0 : r = 0
      · have HE : Hid (out = M) := hid (by rw [← hM.out]; exact (ci_end CC.out (.inr (List.length_eq_zero_iff.mp (by have := HBr.out.lens.1; omega)))).symm)
        subst hr0
        obtain ⟨A9, cap, e, hr9⟩ := own_any OW.out.2
        subst e
        have HR9 := hid hr9
        clear hr9
        go_wp2
        go_ret
        have := HE.out
        rw [← hk.out, ← HE.out]
        exact ⟨⟨A9, cap, rfl, HR9.out⟩, OW.out.1⟩
      · have hrd : decide ((0 : Int) < (r : Int)) = true := decide_eq_true (by omega)
        have hri : (0 : Int) < (r : Int) := by omega
        have hrn : decide (0 < r) = true := decide_eq_true (by omega)
        have hpm : 0 < p := by omega
        have hrm : 0 < r := by omega
        obtain ⟨b, off, x0, x1, e1, hb, hxx, p0, p1⟩ := HA.out.pick OW.out.1 (k := 0) (by omega)
        subst e1
        simp only [Nat.zero_mul, Nat.add_zero] at p0 p1
        obtain ⟨b', off', y0, y1, e2, hb', hyy, q0, q1⟩ := HBr.out.pick OW.out.1 (k := 0) (by omega)
        subst e2
        simp only [Nat.zero_mul, Nat.add_zero] at q0 q1
        have CX : Hid (CI l u ((x0, x1) :: la.drop 1) ((y0, y1) :: lb.drop 1) out) := hid (by rw [← cons_of hxx, ← cons_of hyy]; exact CC.out)
        have EA := hid (cons_of hxx)
        have EB := hid (cons_of hyy)
        obtain ⟨A1, hsl, hr1⟩ := restN HA.out 1 (by omega)
        have hsl' : ∀ w', (Instr.slice 23 (.slice (some ⟨b, off, none⟩) p q) (some (.int .i64 1)) none none).run Try.prog w' = .ok (.slice A1 (p - 1) (q - 1)) w' := hsl
        have R1 := hid hr1
        obtain ⟨A2, hsm, hr2⟩ := restN HBr.out 1 (by omega)
        have hsm' : ∀ w', (Instr.slice 23 (.slice (some ⟨b', off', none⟩) r s) (some (.int .i64 1)) none none).run Try.prog w' = .ok (.slice A2 (r - 1) (s - 1)) w' := hsm
        have R2 := hid hr2
        clear hsl hsm hr1 hr2 hxx hyy CC
        by_cases hlt : x0 < y0
        · have hld : decide (x0 < y0) = true := decide_eq_true hlt
          have C1 : Hid (CI l u (la.drop 1) lb out) := hid (by rw [EB.out]; exact ci_lt CX.out hlt)
          clear hlt
          go_wp2
          go_quiet (fail)
          have OD : Hid (OwnW w (wr.drewN nq) v out) := hid ⟨bdrewN OW.out.1, OW.out.2⟩
          clear p0 p1 q0 q1
          generalize wr.drewN nq = W at OD ⊢
          go_wp2
          go_roundg (p - 1 + r)
          case measure => omega
          case rel => exact ⟨A1, p - 1, q - 1, _, r, s, la.drop 1, lb, v, out, rfl, rfl, rfl, by omega, by omega, Nat.le_refl _, R1, HBr, C1, OD⟩
        · have hld : decide (x0 < y0) = false := decide_eq_false hlt
          by_cases hgt : y0 < x0
          · have hgd : decide (y0 < x0) = true := decide_eq_true hgt
            have C1 : Hid (CI l u la (lb.drop 1) out) := hid (by rw [EA.out]; exact ci_gt CX.out hgt)
            clear hlt hgt
            go_wp2
            go_quiet (fail)
            have FR : Hid (∀ t, OwnW w (wr.drewN t) v out ∧ (wr.drewN t).cell? ⟨b, off, none⟩ = some (.int .i64 x0) ∧ (wr.drewN t).cell? ⟨b', off', none⟩ = some (.int .i64 y0)) := hid (fun t => ⟨⟨bdrewN OW.out.1, OW.out.2⟩, p0, q0⟩)
            have OD := hid (FR.out nq)
            clear p0 p1 q0 q1 FR
            generalize wr.drewN nq = W at OD ⊢
            have p0 := OD.out.2.1
            have q0 := OD.out.2.2
            go_wp2
            go_quiet (fail)
            have OE : Hid (∀ t, OwnW w (W.drewN t) v out) := hid (fun t => ⟨bdrewN OD.out.1.1, OD.out.1.2⟩)
            clear p0 q0
            go_wp2
            go_roundg (p + (r - 1))
            case measure => omega
            case rel => exact ⟨_, p, q, A2, r - 1, s - 1, la, lb.drop 1, v, out, rfl, rfl, rfl, by omega, by omega, Nat.le_refl _, HA, R2, C1, hid (OE.out _)⟩
          · have hgd : decide (y0 < x0) = false := decide_eq_false hgt
            have he : x0 = y0 := by omega
            obtain ⟨z, hz⟩ : ∃ z, min x1 y1 = z := ⟨_, rfl⟩
            have hz2 : (if x1 ≤ y1 then x1 else y1) = z := by rw [← hz]; split <;> omega
            have C1 : Hid (CI l u (la.drop 1) (lb.drop 1) (out ++ [(x0, z)])) := hid (by rw [← hz]; exact ci_eq CX.out he)
            have LL : Hid (out.length ≤ 1000) := hid (by have := ci_len CX.out; have := EL.out; omega)
            subst he
            clear hlt hgt
            go_wp2
            go_quiet (fail)
            have FR : Hid (∀ t, OwnW w (wr.drewN t) v out ∧ (wr.drewN t).cell? ⟨b, off, none⟩ = some (.int .i64 x0) ∧ (wr.drewN t).cell? ⟨b, off + 1, none⟩ = some (.int .i64 x1) ∧ (wr.drewN t).cell? ⟨b', off', none⟩ = some (.int .i64 x0) ∧ (wr.drewN t).cell? ⟨b', off' + 1, none⟩ = some (.int .i64 y1)) := hid (fun t => ⟨⟨bdrewN OW.out.1, OW.out.2⟩, p0, p1, q0, q1⟩)
            have OD := hid (FR.out nq)
            clear p0 p1 q0 q1 FR
            generalize wr.drewN nq = W at OD ⊢
            obtain ⟨_, p0, p1, q0, q1⟩ := OD.out
            go_wp2
            go_quiet (fail)
            have FR : Hid (∀ t, OwnW w (W.drewN t) v out ∧ (W.drewN t).cell? ⟨b, off, none⟩ = some (.int .i64 x0) ∧ (W.drewN t).cell? ⟨b, off + 1, none⟩ = some (.int .i64 x1) ∧ (W.drewN t).cell? ⟨b', off', none⟩ = some (.int .i64 x0) ∧ (W.drewN t).cell? ⟨b', off' + 1, none⟩ = some (.int .i64 y1)) := hid (fun t => ⟨⟨bdrewN OD.out.1.1, OD.out.1.2⟩, p0, p1, q0, q1⟩)
            have OE := hid (FR.out nq)
            clear p0 p1 q0 q1 FR
            generalize W.drewN nq = X at OE ⊢
            obtain ⟨_, p0, p1, q0, q1⟩ := OE.out
            have OX0 : OwnW w X.drew v out := ⟨bdrew OE.out.1.1, OE.out.1.2⟩
            have OX := hid (OwnW.alloc OX0 (.cells #[.int .i64 x0, .int .i64 z] 65))
            go_wp2
            go_region_law (refine step_append_run _ (by rfl) (.tmp 14) (.tmp 29) (by rfl) w.heap.size v out X.heap.size x0 z (by rfl) OX.out.2 (by rfl) (hnew rfl) (by have := LL.out; omega) (by have := OX.out.1.size; simp at this ⊢; omega) ?_; intro u1 w1 ho1 hg1; have O1 := hid (OwnW.grown OX.out hg1 ho1); clear ho1 hg1)
            all_goals
              go_wp2
              go_quiet (fail)
              have OY : Hid (∀ t, OwnW w (w1.drewN t) u1 (out ++ [(x0, z)])) := hid (fun t => ⟨bdrewN O1.out.1, O1.out.2⟩)
              clear p0 p1 q0 q1 O1
              go_wp2
              go_roundg (p - 1 + (r - 1))
              case measure => omega
              case rel => exact ⟨A1, p - 1, q - 1, A2, r - 1, s - 1, la.drop 1, lb.drop 1, u1, _, rfl, rfl, rfl, by omega, by omega, Nat.le_refl _, R1, R2, C1, hid (OY.out _)⟩

end Go.Proofs.Ytjkkajhjcinalaa

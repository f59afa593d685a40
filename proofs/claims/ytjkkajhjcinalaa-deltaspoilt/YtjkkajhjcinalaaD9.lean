/-
  Are two cells alike: what Same of cell returns.
  Conditions: as each theorem states them.
-/
import Derived.Test.YtjkkajhjcinalaaB9
import Derived.Test.YtjkkajhjcinalaaBD
namespace Go.Proofs.Ytjkkajhjcinalaa
open Go.ChangeShapes Go.WideShapes Go.ChangeAt Go.RowKit
set_option linter.unusedVariables false
set_option linter.unusedSimpArgs false
set_option maxRecDepth 100000

theorem eqM (a b x y : Int) (w : World) (n : Nat) : (Op.equalIn (n + 2) 22 (.agg #[.int .i64 a, .int .i64 b]) (.agg #[.int .i64 x, .int .i64 y])).run Try.prog w = .ok (a == x && b == y) w := by
  have u3 := Try.underlying2
  have a3 := Try.isAgg2
  have z3 := Try.sizeOf2
  rw [show n + 2 = (n + 1) + 1 from rfl, Op.equalIn]
  simp only [Sem.run_bind, run_underlying Try.underlying22, Result.andThen_ok]
  simp only [Std.Legacy.Range.forIn_eq_forIn_range', Std.Legacy.Range.size, Nat.sub_zero, Nat.add_sub_cancel, Nat.div_one, List.range'_succ, List.range'_zero, List.forIn_cons, List.forIn_nil]
  go_simp
  by_cases h1 : a = x <;> by_cases h2 : b = y <;> simp [h1, h2]
def qm (a b x y : Int) : Bool := a == x && b == y
theorem qm_iff {a b x y : Int} : qm a b x y = true ↔ a = x ∧ b = y := by unfold qm; simp
theorem eqM2 (a b x y : Int) (w : World) : (Op.equalIn 10000 22 (.agg #[.int .i64 a, .int .i64 b]) (.agg #[.int .i64 x, .int .i64 y])).run Try.prog w = .ok (qm a b x y) w := eqM a b x y w 9998

/-- Two boxes that are kept. -/
def Kq (w wr : World) (o o' : Obj) : Prop := Kp w wr w.heap.size o ∧ Kp w wr (w.heap.size + 1) o'
theorem Kq.step {w wr w' : World} {o o' : Obj} (h : Kq w wr o o') (hb : Below wr.heap.size wr w') : Kq w w' o o' := ⟨h.1.step hb, h.2.step hb⟩
theorem kq_new (w : World) (o o' : Obj) : Kq w ((w.alloc o).alloc o') o o' := ⟨(kp_new w o).step (b1alloc _ _), bt (b1alloc _ _) (b1alloc _ _), by omega, hnew (by simp)⟩
theorem Kq.ten {w W y : World} {a b c d e a' b' c' d' e' : Value} {t t' : TypeId} (h : Kq w W (.cells #[a, b, c, d, e] t) (.cells #[a', b', c', d', e'] t')) (hb : Below W.heap.size W y) :
    Below W.heap.size W y ∧ y.cell? ⟨w.heap.size, 0, none⟩ = some a ∧ y.cell? ⟨w.heap.size, 1, none⟩ = some b ∧ y.cell? ⟨w.heap.size, 2, none⟩ = some c ∧ y.cell? ⟨w.heap.size, 3, none⟩ = some d ∧ y.cell? ⟨w.heap.size, 4, none⟩ = some e ∧ y.cell? ⟨w.heap.size + 1, 0, none⟩ = some a' ∧ y.cell? ⟨w.heap.size + 1, 1, none⟩ = some b' ∧ y.cell? ⟨w.heap.size + 1, 2, none⟩ = some c' ∧ y.cell? ⟨w.heap.size + 1, 3, none⟩ = some d' ∧ y.cell? ⟨w.heap.size + 1, 4, none⟩ = some e' := by
  obtain ⟨x0, x1, x2, x3, x4⟩ := box_five (h.step hb).1.2.2
  obtain ⟨y0, y1, y2, y3, y4⟩ := box_five (h.step hb).2.2.2
  exact ⟨hb, x0, x1, x2, x3, x4, y0, y1, y2, y3, y4⟩
theorem csm_n {c d : Cl} (h : ¬ c.n = d.n) : csm c d = false := csm_no (fun e => h (by rw [e]))
theorem csm_s {c d : Cl} (h : ¬ (c.s0 = d.s0 ∧ c.s1 = d.s1)) : csm c d = false := csm_no (fun e => h (by rw [e]; exact ⟨rfl, rfl⟩))
theorem csm_b0 {c d : Cl} (h : sm c.b0 d.b0 = false) : csm c d = false := csm_no (fun e => by rw [e, sm_yes rfl] at h; cases h)
theorem csm_b1 {c d : Cl} (h : sm c.b1 d.b1 = false) : csm c d = false := csm_no (fun e => by rw [e, sm_yes rfl] at h; cases h)
theorem csm_all {c d : Cl} (h0 : c.s0 = d.s0) (h1 : c.s1 = d.s1) (h2 : sm c.b0 d.b0 = true) (h3 : sm c.b1 d.b1 = true) : csm c d = (c.n == d.n) := by
  unfold csm
  rw [decide_eq_true h0, decide_eq_true h1, h2, h3]
  by_cases h : c.n = d.n <;> simp [h]

set_option maxHeartbeats 32000000 in
theorem csame_m (c d : Cl) (a0 : Option Addr) (p0 k0 : Nat) (a1 : Option Addr) (p1 k1 : Nat) (b0 : Option Addr) (q0 j0 : Nat) (b1 : Option Addr) (q1 j1 : Nat) (v : Bool) (w : World) (hw : CW w a0 p0 k0 a1 p1 k1 c) (hz : CW w b0 q0 j0 b1 q1 j1 d) (hv : Hid (csm c d = v)) :
    Calls Try.prog 25 #[.agg #[.int .i64 c.n, .int .i64 c.s0, .int .i64 c.s1, .slice a0 p0 k0, .slice a1 p1 k1], .agg #[.int .i64 d.n, .int .i64 d.s0, .int .i64 d.s1, .slice b0 q0 j0, .slice b1 q1 j1]] w fun e w' => e = .returned (.bool v) ∧ Below w.heap.size w w' := by
  have h := hv.out
  subst h
  clear hv
  obtain ⟨l1, l2⟩ := hw.1.lens
  obtain ⟨u1, u2⟩ := hw.2.lens
  obtain ⟨l1', l2'⟩ := hz.1.lens
  obtain ⟨u1', u2'⟩ := hz.2.lens
  have HW := hid hw
  have HZ := hid hz
  have eqm := eqM2
  have K0 := hid (kq_new w (.cells #[.int .i64 c.n, .int .i64 c.s0, .int .i64 c.s1, .slice a0 p0 k0, .slice a1 p1 k1] 26) (.cells #[.int .i64 d.n, .int .i64 d.s0, .int .i64 d.s1, .slice b0 q0 j0, .slice b1 q1 j1] 26))
  clear hw hz l1 u1 l1' u1'
  by_cases hn : c.n = d.n
  · have hnt : (c.n != d.n) = false := by simp [hn]
    have HN := hid hn
    clear hn
    by_cases hs : c.s0 = d.s0 ∧ c.s1 = d.s1
    · have hst : qm c.s0 c.s1 d.s0 d.s1 = true := qm_iff.2 hs
      have HS := hid hs
      clear hs
      go_enter Try.func25, Try.ntmps25
      go_upto_region 1 with fail
      generalize (w.alloc (.cells #[.int .i64 c.n, .int .i64 c.s0, .int .i64 c.s1, .slice a0 p0 k0, .slice a1 p1 k1] 26)).alloc (.cells #[.int .i64 d.n, .int .i64 d.s0, .int .i64 d.s1, .slice b0 q0 j0, .slice b1 q1 j1] 26) = W at K0 ⊢
      obtain ⟨_, d0, d1, d2, d3, d4, f0, f1, f2, f3, f4⟩ := K0.out.ten (Below.refl _ _)
      go_upto_region 4 with fail
      clear d0 d1 d2 d3 d4 f0 f1 f2 f3 f4
      go_loopw [18] (fun i wr => Hid (Kq w wr (.cells #[.int .i64 c.n, .int .i64 c.s0, .int .i64 c.s1, .slice a0 p0 k0, .slice a1 p1 k1] 26) (.cells #[.int .i64 d.n, .int .i64 d.s0, .int .i64 d.s1, .slice b0 q0 j0, .slice b1 q1 j1] 26)) ∧ (i = .int .i64 0 ∨ (i = .int .i64 1 ∧ Hid (sm c.b0 d.b0 = true)) ∨ (i = .int .i64 2 ∧ Hid (sm c.b0 d.b0 = true ∧ sm c.b1 d.b1 = true)))) (fun i _ => 2 - (intOf i).toNat)
      case atStart => exact ⟨K0, .inl rfl⟩
      case round =>
        obtain ⟨KW, hi⟩ := hrel
        obtain ⟨_, d0, d1, d2, d3, d4, f0, f1, f2, f3, f4⟩ := KW.out.ten (Below.refl _ _)
        rcases hi with rfl | ⟨rfl, R0⟩ | ⟨rfl, R1⟩
        · skip
          obtain ⟨V, ev⟩ : ∃ x, sm c.b0 d.b0 = x := ⟨_, rfl⟩
          have EV := hid ev
          clear ev
          have KS : Hid (∀ y, Below wr.heap.size wr y → Below wr.heap.size wr y ∧ y.cell? ⟨w.heap.size, 0, none⟩ = some (.int .i64 c.n) ∧ y.cell? ⟨w.heap.size, 1, none⟩ = some (.int .i64 c.s0) ∧ y.cell? ⟨w.heap.size, 2, none⟩ = some (.int .i64 c.s1) ∧ y.cell? ⟨w.heap.size, 3, none⟩ = some (.slice a0 p0 k0) ∧ y.cell? ⟨w.heap.size, 4, none⟩ = some (.slice a1 p1 k1) ∧ y.cell? ⟨w.heap.size + 1, 0, none⟩ = some (.int .i64 d.n) ∧ y.cell? ⟨w.heap.size + 1, 1, none⟩ = some (.int .i64 d.s0) ∧ y.cell? ⟨w.heap.size + 1, 2, none⟩ = some (.int .i64 d.s1) ∧ y.cell? ⟨w.heap.size + 1, 3, none⟩ = some (.slice b0 q0 j0) ∧ y.cell? ⟨w.heap.size + 1, 4, none⟩ = some (.slice b1 q1 j1)) := hid (fun y hb => KW.out.ten hb)
          clear d0 d1 d2 d3 d4 f0 f1 f2 f3 f4
          go_wp2
          go_region_held3 (fun y => Below wr.heap.size wr y ∧ y.cell? ⟨w.heap.size, 0, none⟩ = some (.int .i64 c.n) ∧ y.cell? ⟨w.heap.size, 1, none⟩ = some (.int .i64 c.s0) ∧ y.cell? ⟨w.heap.size, 2, none⟩ = some (.int .i64 c.s1) ∧ y.cell? ⟨w.heap.size, 3, none⟩ = some (.slice a0 p0 k0) ∧ y.cell? ⟨w.heap.size, 4, none⟩ = some (.slice a1 p1 k1) ∧ y.cell? ⟨w.heap.size + 1, 0, none⟩ = some (.int .i64 d.n) ∧ y.cell? ⟨w.heap.size + 1, 1, none⟩ = some (.int .i64 d.s0) ∧ y.cell? ⟨w.heap.size + 1, 2, none⟩ = some (.int .i64 d.s1) ∧ y.cell? ⟨w.heap.size + 1, 3, none⟩ = some (.slice b0 q0 j0) ∧ y.cell? ⟨w.heap.size + 1, 4, none⟩ = some (.slice b1 q1 j1))
            (first | assumption | exact keep_drew KS | exact keep_step (by assumption) (by assumption) KS)
            (first
              | (go_at_call 68; refine (same_m _ _ _ _ _ _ _ _ _ _ (HW.out.1.below (bt KW.out.1.1 (And.left (by assumption)))) (HZ.out.1.below (bt KW.out.1.1 (And.left (by assumption)))) EV).mono ?_; rintro e w1 ⟨rfl, hb1⟩))
          have K2 := hid (KW.out.step (undrew hb1))
          cases V with
          | false =>
            go_wp2
            go_ret
            exact ⟨ret_bool (csm_b0 EV.out).symm, K2.out.1.1⟩
          | true =>
            go_wp2
            go_roundw
            case rel => exact ⟨K2, .inr (.inl ⟨by go_num, EV⟩)⟩
            case measure => simp [intOf]
        · skip
          obtain ⟨V, ev⟩ : ∃ x, sm c.b1 d.b1 = x := ⟨_, rfl⟩
          have EV := hid ev
          clear ev
          have KS : Hid (∀ y, Below wr.heap.size wr y → Below wr.heap.size wr y ∧ y.cell? ⟨w.heap.size, 0, none⟩ = some (.int .i64 c.n) ∧ y.cell? ⟨w.heap.size, 1, none⟩ = some (.int .i64 c.s0) ∧ y.cell? ⟨w.heap.size, 2, none⟩ = some (.int .i64 c.s1) ∧ y.cell? ⟨w.heap.size, 3, none⟩ = some (.slice a0 p0 k0) ∧ y.cell? ⟨w.heap.size, 4, none⟩ = some (.slice a1 p1 k1) ∧ y.cell? ⟨w.heap.size + 1, 0, none⟩ = some (.int .i64 d.n) ∧ y.cell? ⟨w.heap.size + 1, 1, none⟩ = some (.int .i64 d.s0) ∧ y.cell? ⟨w.heap.size + 1, 2, none⟩ = some (.int .i64 d.s1) ∧ y.cell? ⟨w.heap.size + 1, 3, none⟩ = some (.slice b0 q0 j0) ∧ y.cell? ⟨w.heap.size + 1, 4, none⟩ = some (.slice b1 q1 j1)) := hid (fun y hb => KW.out.ten hb)
          clear d0 d1 d2 d3 d4 f0 f1 f2 f3 f4
          go_wp2
          go_region_held3 (fun y => Below wr.heap.size wr y ∧ y.cell? ⟨w.heap.size, 0, none⟩ = some (.int .i64 c.n) ∧ y.cell? ⟨w.heap.size, 1, none⟩ = some (.int .i64 c.s0) ∧ y.cell? ⟨w.heap.size, 2, none⟩ = some (.int .i64 c.s1) ∧ y.cell? ⟨w.heap.size, 3, none⟩ = some (.slice a0 p0 k0) ∧ y.cell? ⟨w.heap.size, 4, none⟩ = some (.slice a1 p1 k1) ∧ y.cell? ⟨w.heap.size + 1, 0, none⟩ = some (.int .i64 d.n) ∧ y.cell? ⟨w.heap.size + 1, 1, none⟩ = some (.int .i64 d.s0) ∧ y.cell? ⟨w.heap.size + 1, 2, none⟩ = some (.int .i64 d.s1) ∧ y.cell? ⟨w.heap.size + 1, 3, none⟩ = some (.slice b0 q0 j0) ∧ y.cell? ⟨w.heap.size + 1, 4, none⟩ = some (.slice b1 q1 j1))
            (first | assumption | exact keep_drew KS | exact keep_step (by assumption) (by assumption) KS)
            (first
              | (go_at_call 68; refine (same_m _ _ _ _ _ _ _ _ _ _ (HW.out.2.below (bt KW.out.1.1 (And.left (by assumption)))) (HZ.out.2.below (bt KW.out.1.1 (And.left (by assumption)))) EV).mono ?_; rintro e w1 ⟨rfl, hb1⟩))
          have K2 := hid (KW.out.step (undrew hb1))
          cases V with
          | false =>
            go_wp2
            go_ret
            exact ⟨ret_bool (csm_b1 EV.out).symm, K2.out.1.1⟩
          | true =>
            go_wp2
            go_roundw
            case rel => exact ⟨K2, .inr (.inr ⟨by go_num, hid ⟨R0.out, EV.out⟩⟩)⟩
            case measure => simp [intOf]
        · go_wp2
          go_ret
          exact ⟨ret_bool (by rw [csm_all HS.out.1 HS.out.2 R1.out.1 R1.out.2, HN.out]; simp), KW.out.1.1⟩
    · have hst : qm c.s0 c.s1 d.s0 d.s1 = false := by
        cases e : qm c.s0 c.s1 d.s0 d.s1 with
        | false => rfl
        | true => exact absurd (qm_iff.1 e) hs
      rw [csm_s hs]
      clear hs
      go_enter Try.func25, Try.ntmps25
      go_upto_region 1 with fail
      generalize (w.alloc (.cells #[.int .i64 c.n, .int .i64 c.s0, .int .i64 c.s1, .slice a0 p0 k0, .slice a1 p1 k1] 26)).alloc (.cells #[.int .i64 d.n, .int .i64 d.s0, .int .i64 d.s1, .slice b0 q0 j0, .slice b1 q1 j1] 26) = W at K0 ⊢
      obtain ⟨_, d0, d1, d2, d3, d4, f0, f1, f2, f3, f4⟩ := K0.out.ten (Below.refl _ _)
      go_wp2
      go_ret
      exact ⟨rfl, K0.out.1.1⟩
  · have hnt : (c.n != d.n) = true := by simp [hn]
    rw [csm_n hn]
    clear hn
    go_enter Try.func25, Try.ntmps25
    go_upto_region 1 with fail
    generalize (w.alloc (.cells #[.int .i64 c.n, .int .i64 c.s0, .int .i64 c.s1, .slice a0 p0 k0, .slice a1 p1 k1] 26)).alloc (.cells #[.int .i64 d.n, .int .i64 d.s0, .int .i64 d.s1, .slice b0 q0 j0, .slice b1 q1 j1] 26) = W at K0 ⊢
    obtain ⟨_, d0, d1, d2, d3, d4, f0, f1, f2, f3, f4⟩ := K0.out.ten (Below.refl _ _)
    go_wp2
    go_ret
    exact ⟨rfl, K0.out.1.1⟩

end Go.Proofs.Ytjkkajhjcinalaa

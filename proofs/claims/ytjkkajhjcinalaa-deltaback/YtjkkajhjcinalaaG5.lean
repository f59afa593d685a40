/-
  Are two cells alike: what Same of cell returns.
  Blocks that are kept while one of them is written; whole rows stored; lines in a world.
  Conditions: as each theorem states them.
-/
import Derived.Test.YtjkkajhjcinalaaB9
import Derived.Test.YtjkkajhjcinalaaG1
import Derived.Deep.MidRow
namespace Go.Proofs.Ytjkkajhjcinalaa
open Go.ChangeShapes Go.WideShapes Go.ChangeAt Go.RowKit
set_option linter.unusedVariables false
set_option linter.unusedSimpArgs false
set_option maxRecDepth 100000

theorem eqM (a b x y : Int) (w : World) (n : Nat) : (Op.equalIn (n + 2) 22 (.agg #[.int .i64 a, .int .i64 b]) (.agg #[.int .i64 x, .int .i64 y])).run Try.prog w = .ok (a == x && b == y) w := by
  have u3 := Try.underlying2
  have a3 := Try.isAgg2
  have z3 := Try.sizeOf2
  rw [show n + 2 = (n + 1) + 1 from rfl, Op.equalIn]
  simp only [Sem.run_bind, run_underlying Try.underlying22, Result.andThen_ok]
  simp only [Std.Legacy.Range.forIn_eq_forIn_range', Std.Legacy.Range.size, Nat.sub_zero, Nat.add_sub_cancel, Nat.div_one, List.range'_succ, List.range'_zero, List.forIn_cons, List.forIn_nil]
  go_simp
  by_cases h1 : a = x <;> by_cases h2 : b = y <;> simp [h1, h2]
def qm (a b x y : Int) : Bool := a == x && b == y
theorem qm_iff {a b x y : Int} : qm a b x y = true ↔ a = x ∧ b = y := by unfold qm; simp
theorem eqM2 (a b x y : Int) (w : World) : (Op.equalIn 10000 22 (.agg #[.int .i64 a, .int .i64 b]) (.agg #[.int .i64 x, .int .i64 y])).run Try.prog w = .ok (qm a b x y) w := eqM a b x y w 9998

/-- Two boxes that are kept. -/
def Kq (w wr : World) (o o' : Obj) : Prop := Kp w wr w.heap.size o ∧ Kp w wr (w.heap.size + 1) o'
theorem Kq.step {w wr w' : World} {o o' : Obj} (h : Kq w wr o o') (hb : Below wr.heap.size wr w') : Kq w w' o o' := ⟨h.1.step hb, h.2.step hb⟩
theorem kq_new (w : World) (o o' : Obj) : Kq w ((w.alloc o).alloc o') o o' := ⟨(kp_new w o).step (b1alloc _ _), bt (b1alloc _ _) (b1alloc _ _), by omega, hnew (by simp)⟩
theorem Kq.ten {w W y : World} {a b c d e a' b' c' d' e' : Value} {t t' : TypeId} (h : Kq w W (.cells #[a, b, c, d, e] t) (.cells #[a', b', c', d', e'] t')) (hb : Below W.heap.size W y) :
    Below W.heap.size W y ∧ y.cell? ⟨w.heap.size, 0, none⟩ = some a ∧ y.cell? ⟨w.heap.size, 1, none⟩ = some b ∧ y.cell? ⟨w.heap.size, 2, none⟩ = some c ∧ y.cell? ⟨w.heap.size, 3, none⟩ = some d ∧ y.cell? ⟨w.heap.size, 4, none⟩ = some e ∧ y.cell? ⟨w.heap.size + 1, 0, none⟩ = some a' ∧ y.cell? ⟨w.heap.size + 1, 1, none⟩ = some b' ∧ y.cell? ⟨w.heap.size + 1, 2, none⟩ = some c' ∧ y.cell? ⟨w.heap.size + 1, 3, none⟩ = some d' ∧ y.cell? ⟨w.heap.size + 1, 4, none⟩ = some e' := by
  obtain ⟨x0, x1, x2, x3, x4⟩ := box_five (h.step hb).1.2.2
  obtain ⟨y0, y1, y2, y3, y4⟩ := box_five (h.step hb).2.2.2
  exact ⟨hb, x0, x1, x2, x3, x4, y0, y1, y2, y3, y4⟩
theorem csm_n {c d : Cl} (h : ¬ c.n = d.n) : csm c d = false := csm_no (fun e => h (by rw [e]))
theorem csm_s {c d : Cl} (h : ¬ (c.s0 = d.s0 ∧ c.s1 = d.s1)) : csm c d = false := csm_no (fun e => h (by rw [e]; exact ⟨rfl, rfl⟩))
theorem csm_b0 {c d : Cl} (h : sm c.b0 d.b0 = false) : csm c d = false := csm_no (fun e => by rw [e, sm_yes rfl] at h; cases h)
theorem csm_b1 {c d : Cl} (h : sm c.b1 d.b1 = false) : csm c d = false := csm_no (fun e => by rw [e, sm_yes rfl] at h; cases h)
theorem csm_all {c d : Cl} (h0 : c.s0 = d.s0) (h1 : c.s1 = d.s1) (h2 : sm c.b0 d.b0 = true) (h3 : sm c.b1 d.b1 = true) : csm c d = (c.n == d.n) := by
  unfold csm
  rw [decide_eq_true h0, decide_eq_true h1, h2, h3]
  by_cases h : c.n = d.n <;> simp [h]

set_option maxHeartbeats 32000000 in
theorem csame_m (c d : Cl) (a0 : Option Addr) (p0 k0 : Nat) (a1 : Option Addr) (p1 k1 : Nat) (b0 : Option Addr) (q0 j0 : Nat) (b1 : Option Addr) (q1 j1 : Nat) (v : Bool) (w : World) (hw : CW w a0 p0 k0 a1 p1 k1 c) (hz : CW w b0 q0 j0 b1 q1 j1 d) (hv : Hid (csm c d = v)) :
    Calls Try.prog 25 #[.agg #[.int .i64 c.n, .int .i64 c.s0, .int .i64 c.s1, .slice a0 p0 k0, .slice a1 p1 k1], .agg #[.int .i64 d.n, .int .i64 d.s0, .int .i64 d.s1, .slice b0 q0 j0, .slice b1 q1 j1]] w fun e w' => e = .returned (.bool v) ∧ Below w.heap.size w w' := by
  have h := hv.out
  subst h
  clear hv
  obtain ⟨l1, l2⟩ := hw.1.lens
  obtain ⟨u1, u2⟩ := hw.2.lens
  obtain ⟨l1', l2'⟩ := hz.1.lens
  obtain ⟨u1', u2'⟩ := hz.2.lens
  have HW := hid hw
  have HZ := hid hz
  have eqm := eqM2
  have K0 := hid (kq_new w (.cells #[.int .i64 c.n, .int .i64 c.s0, .int .i64 c.s1, .slice a0 p0 k0, .slice a1 p1 k1] 26) (.cells #[.int .i64 d.n, .int .i64 d.s0, .int .i64 d.s1, .slice b0 q0 j0, .slice b1 q1 j1] 26))
  clear hw hz l1 u1 l1' u1'
  by_cases hn : c.n = d.n
  · have hnt : (c.n != d.n) = false := by simp [hn]
    have HN := hid hn
    clear hn
    by_cases hs : c.s0 = d.s0 ∧ c.s1 = d.s1
    · have hst : qm c.s0 c.s1 d.s0 d.s1 = true := qm_iff.2 hs
      have HS := hid hs
      clear hs
      go_enter Try.func25, Try.ntmps25
      go_upto_region 1 with fail
      generalize (w.alloc (.cells #[.int .i64 c.n, .int .i64 c.s0, .int .i64 c.s1, .slice a0 p0 k0, .slice a1 p1 k1] 26)).alloc (.cells #[.int .i64 d.n, .int .i64 d.s0, .int .i64 d.s1, .slice b0 q0 j0, .slice b1 q1 j1] 26) = W at K0 ⊢
      obtain ⟨_, d0, d1, d2, d3, d4, f0, f1, f2, f3, f4⟩ := K0.out.ten (Below.refl _ _)
      go_upto_region 4 with fail
      clear d0 d1 d2 d3 d4 f0 f1 f2 f3 f4
      go_loopw [18] (fun i wr => Hid (Kq w wr (.cells #[.int .i64 c.n, .int .i64 c.s0, .int .i64 c.s1, .slice a0 p0 k0, .slice a1 p1 k1] 26) (.cells #[.int .i64 d.n, .int .i64 d.s0, .int .i64 d.s1, .slice b0 q0 j0, .slice b1 q1 j1] 26)) ∧ (i = .int .i64 0 ∨ (i = .int .i64 1 ∧ Hid (sm c.b0 d.b0 = true)) ∨ (i = .int .i64 2 ∧ Hid (sm c.b0 d.b0 = true ∧ sm c.b1 d.b1 = true)))) (fun i _ => 2 - (intOf i).toNat)
      case atStart => exact ⟨K0, .inl rfl⟩
      case round =>
        obtain ⟨KW, hi⟩ := hrel
        obtain ⟨_, d0, d1, d2, d3, d4, f0, f1, f2, f3, f4⟩ := KW.out.ten (Below.refl _ _)
        rcases hi with rfl | ⟨rfl, R0⟩ | ⟨rfl, R1⟩
        · skip
          obtain ⟨V, ev⟩ : ∃ x, sm c.b0 d.b0 = x := ⟨_, rfl⟩
          have EV := hid ev
          clear ev
          have KS : Hid (∀ y, Below wr.heap.size wr y → Below wr.heap.size wr y ∧ y.cell? ⟨w.heap.size, 0, none⟩ = some (.int .i64 c.n) ∧ y.cell? ⟨w.heap.size, 1, none⟩ = some (.int .i64 c.s0) ∧ y.cell? ⟨w.heap.size, 2, none⟩ = some (.int .i64 c.s1) ∧ y.cell? ⟨w.heap.size, 3, none⟩ = some (.slice a0 p0 k0) ∧ y.cell? ⟨w.heap.size, 4, none⟩ = some (.slice a1 p1 k1) ∧ y.cell? ⟨w.heap.size + 1, 0, none⟩ = some (.int .i64 d.n) ∧ y.cell? ⟨w.heap.size + 1, 1, none⟩ = some (.int .i64 d.s0) ∧ y.cell? ⟨w.heap.size + 1, 2, none⟩ = some (.int .i64 d.s1) ∧ y.cell? ⟨w.heap.size + 1, 3, none⟩ = some (.slice b0 q0 j0) ∧ y.cell? ⟨w.heap.size + 1, 4, none⟩ = some (.slice b1 q1 j1)) := hid (fun y hb => KW.out.ten hb)
          clear d0 d1 d2 d3 d4 f0 f1 f2 f3 f4
          go_wp2
          go_region_held3 (fun y => Below wr.heap.size wr y ∧ y.cell? ⟨w.heap.size, 0, none⟩ = some (.int .i64 c.n) ∧ y.cell? ⟨w.heap.size, 1, none⟩ = some (.int .i64 c.s0) ∧ y.cell? ⟨w.heap.size, 2, none⟩ = some (.int .i64 c.s1) ∧ y.cell? ⟨w.heap.size, 3, none⟩ = some (.slice a0 p0 k0) ∧ y.cell? ⟨w.heap.size, 4, none⟩ = some (.slice a1 p1 k1) ∧ y.cell? ⟨w.heap.size + 1, 0, none⟩ = some (.int .i64 d.n) ∧ y.cell? ⟨w.heap.size + 1, 1, none⟩ = some (.int .i64 d.s0) ∧ y.cell? ⟨w.heap.size + 1, 2, none⟩ = some (.int .i64 d.s1) ∧ y.cell? ⟨w.heap.size + 1, 3, none⟩ = some (.slice b0 q0 j0) ∧ y.cell? ⟨w.heap.size + 1, 4, none⟩ = some (.slice b1 q1 j1))
            (first | assumption | exact keep_drew KS | exact keep_step (by assumption) (by assumption) KS)
            (first
              | (go_at_call 68; refine (same_m _ _ _ _ _ _ _ _ _ _ (HW.out.1.below (bt KW.out.1.1 (And.left (by assumption)))) (HZ.out.1.below (bt KW.out.1.1 (And.left (by assumption)))) EV).mono ?_; rintro e w1 ⟨rfl, hb1⟩))
          have K2 := hid (KW.out.step (undrew hb1))
          cases V with
          | false =>
            go_wp2
            go_ret
            exact ⟨ret_bool (csm_b0 EV.out).symm, K2.out.1.1⟩
          | true =>
            go_wp2
            go_roundw
            case rel => exact ⟨K2, .inr (.inl ⟨by go_num, EV⟩)⟩
            case measure => simp [intOf]
        · skip
          obtain ⟨V, ev⟩ : ∃ x, sm c.b1 d.b1 = x := ⟨_, rfl⟩
          have EV := hid ev
          clear ev
          have KS : Hid (∀ y, Below wr.heap.size wr y → Below wr.heap.size wr y ∧ y.cell? ⟨w.heap.size, 0, none⟩ = some (.int .i64 c.n) ∧ y.cell? ⟨w.heap.size, 1, none⟩ = some (.int .i64 c.s0) ∧ y.cell? ⟨w.heap.size, 2, none⟩ = some (.int .i64 c.s1) ∧ y.cell? ⟨w.heap.size, 3, none⟩ = some (.slice a0 p0 k0) ∧ y.cell? ⟨w.heap.size, 4, none⟩ = some (.slice a1 p1 k1) ∧ y.cell? ⟨w.heap.size + 1, 0, none⟩ = some (.int .i64 d.n) ∧ y.cell? ⟨w.heap.size + 1, 1, none⟩ = some (.int .i64 d.s0) ∧ y.cell? ⟨w.heap.size + 1, 2, none⟩ = some (.int .i64 d.s1) ∧ y.cell? ⟨w.heap.size + 1, 3, none⟩ = some (.slice b0 q0 j0) ∧ y.cell? ⟨w.heap.size + 1, 4, none⟩ = some (.slice b1 q1 j1)) := hid (fun y hb => KW.out.ten hb)
          clear d0 d1 d2 d3 d4 f0 f1 f2 f3 f4
          go_wp2
          go_region_held3 (fun y => Below wr.heap.size wr y ∧ y.cell? ⟨w.heap.size, 0, none⟩ = some (.int .i64 c.n) ∧ y.cell? ⟨w.heap.size, 1, none⟩ = some (.int .i64 c.s0) ∧ y.cell? ⟨w.heap.size, 2, none⟩ = some (.int .i64 c.s1) ∧ y.cell? ⟨w.heap.size, 3, none⟩ = some (.slice a0 p0 k0) ∧ y.cell? ⟨w.heap.size, 4, none⟩ = some (.slice a1 p1 k1) ∧ y.cell? ⟨w.heap.size + 1, 0, none⟩ = some (.int .i64 d.n) ∧ y.cell? ⟨w.heap.size + 1, 1, none⟩ = some (.int .i64 d.s0) ∧ y.cell? ⟨w.heap.size + 1, 2, none⟩ = some (.int .i64 d.s1) ∧ y.cell? ⟨w.heap.size + 1, 3, none⟩ = some (.slice b0 q0 j0) ∧ y.cell? ⟨w.heap.size + 1, 4, none⟩ = some (.slice b1 q1 j1))
            (first | assumption | exact keep_drew KS | exact keep_step (by assumption) (by assumption) KS)
            (first
              | (go_at_call 68; refine (same_m _ _ _ _ _ _ _ _ _ _ (HW.out.2.below (bt KW.out.1.1 (And.left (by assumption)))) (HZ.out.2.below (bt KW.out.1.1 (And.left (by assumption)))) EV).mono ?_; rintro e w1 ⟨rfl, hb1⟩))
          have K2 := hid (KW.out.step (undrew hb1))
          cases V with
          | false =>
            go_wp2
            go_ret
            exact ⟨ret_bool (csm_b1 EV.out).symm, K2.out.1.1⟩
          | true =>
            go_wp2
            go_roundw
            case rel => exact ⟨K2, .inr (.inr ⟨by go_num, hid ⟨R0.out, EV.out⟩⟩)⟩
            case measure => simp [intOf]
        · go_wp2
          go_ret
          exact ⟨ret_bool (by rw [csm_all HS.out.1 HS.out.2 R1.out.1 R1.out.2, HN.out]; simp), KW.out.1.1⟩
    · have hst : qm c.s0 c.s1 d.s0 d.s1 = false := by
        cases e : qm c.s0 c.s1 d.s0 d.s1 with
        | false => rfl
        | true => exact absurd (qm_iff.1 e) hs
      rw [csm_s hs]
      clear hs
      go_enter Try.func25, Try.ntmps25
      go_upto_region 1 with fail
      generalize (w.alloc (.cells #[.int .i64 c.n, .int .i64 c.s0, .int .i64 c.s1, .slice a0 p0 k0, .slice a1 p1 k1] 26)).alloc (.cells #[.int .i64 d.n, .int .i64 d.s0, .int .i64 d.s1, .slice b0 q0 j0, .slice b1 q1 j1] 26) = W at K0 ⊢
      obtain ⟨_, d0, d1, d2, d3, d4, f0, f1, f2, f3, f4⟩ := K0.out.ten (Below.refl _ _)
      go_wp2
      go_ret
      exact ⟨rfl, K0.out.1.1⟩
  · have hnt : (c.n != d.n) = true := by simp [hn]
    rw [csm_n hn]
    clear hn
    go_enter Try.func25, Try.ntmps25
    go_upto_region 1 with fail
    generalize (w.alloc (.cells #[.int .i64 c.n, .int .i64 c.s0, .int .i64 c.s1, .slice a0 p0 k0, .slice a1 p1 k1] 26)).alloc (.cells #[.int .i64 d.n, .int .i64 d.s0, .int .i64 d.s1, .slice b0 q0 j0, .slice b1 q1 j1] 26) = W at K0 ⊢
    obtain ⟨_, d0, d1, d2, d3, d4, f0, f1, f2, f3, f4⟩ := K0.out.ten (Below.refl _ _)
    go_wp2
    go_ret
    exact ⟨rfl, K0.out.1.1⟩

end Go.Proofs.Ytjkkajhjcinalaa

namespace Go.Proofs.Ytjkkajhjcinalaa
open Go.ChangeShapes Go.WideShapes Go.ChangeAt Go.RowKit
set_option linter.unusedVariables false
set_option linter.unusedSimpArgs false
set_option maxRecDepth 100000

theorem setCells_heap (g : Nat) (t : TypeId) : ∀ (vs : List Value) (o : Nat) (w : World) (cs : Array Value), w.heap[g]? = some (.cells cs t) → ∃ cs', (w.setCells g o vs).heap[g]? = some (.cells cs' t) ∧ cs'.size = cs.size
  | [], _, w, cs, h => ⟨cs, h, rfl⟩
  | v :: r, o, w, cs, h => by
    rw [World.setCells]
    obtain ⟨cs', h1, h2⟩ := setCells_heap g t r (o + 1) _ _ (heap_setCell_same w g o cs t v h)
    exact ⟨cs', h1, by rw [h2]; simp⟩
theorem setCells_grown (g : Nat) : ∀ (vs : List Value) (o : Nat) (w : World), w.grownBy (w.setCells g o vs) (some g)
  | [], _, w => ⟨rfl, rfl, rfl, Nat.le_refl _, fun _ _ _ => rfl⟩
  | v :: r, o, w => by
    rw [World.setCells]
    have h1 := set_grown w g o v
    have h2 := setCells_grown g r (o + 1) (w.setCell ⟨g, o, none⟩ v)
    exact ⟨h2.os.trans h1.os, h2.tape.trans h1.tape, h2.output.trans h1.output, Nat.le_trans h1.size h2.size, fun k hk hne => (h2.block k (Nat.lt_of_lt_of_le hk h1.size) hne).trans (h1.block k hk hne)⟩
/-- A whole row is stored: the block holds it; no other block is turned. -/
theorem wpList_store_whole {P : Program} {ops : Array Oper} {rest : List Oper} {o : Oper} {a : Act} {w : World} {Q : Exit → Act → World → Prop} (hgd : o.guard = none) (ty : TypeId) (x y : Operand) (ho : o.op = .store ty x y)
    (g : Nat) (X : Array Value) (hx : a.eval x = .pointer (some ⟨g, 0, none⟩)) (hy : a.eval y = .agg X) (t : TypeId) (cs : Array Value) (hg : w.heap[g]? = some (.cells cs t)) (hs : cs.size = X.size)
    (hi : (P.info? ty).map (·.size) = some X.size) (h1 : ∀ v ∈ X.toList, v.oneCell' = true)
    (h : ∀ w', w'.heap[g]? = some (.cells X t) → w.grownBy w' (some g) → wpList P ops Q rest (a.put o.dst undef) w') : wpList P ops Q (o :: rest) a w := by
  have ht : w.there g 0 X.size := fun j hj => by
    constructor
    · rw [Nat.zero_add, cell_of_row w g j cs t (0, 0) hg, Array.getElem?_eq_getElem (by omega)]; rfl
    · exact frozen_of_row w g _ _ _ hg
  refine wpList_store_mid hgd ty x y ho g 0 X hx hy ht hi (by have := all_oneCell_toArray h1; simpa using this) ?_
  refine h _ ?_ (setCells_grown g _ 0 w)
  obtain ⟨cs', e1, e2⟩ := setCells_heap g t X.toList 0 w cs hg
  rw [e1]
  have hr := World.rangeAt_setCells_same w g 0 X.toList (by simpa using ht)
  have : cs' = X := by
    apply Array.ext_getElem?
    intro j
    by_cases hj : j < X.size
    · have h2 := hr j X[j] (by simp [hj])
      rw [Nat.zero_add, cell_of_row _ g j cs' t (0, 0) e1] at h2
      rw [h2]; simp [hj]
    · rw [Array.getElem?_eq_none (by omega), Array.getElem?_eq_none (by omega)]
  rw [this]
theorem box_four {w : World} {D : Nat} {t : TypeId} {a b c d : Value} (hD : w.heap[D]? = some (.cells #[a, b, c, d] t)) : w.cell? ⟨D, 0, none⟩ = some a ∧ w.cell? ⟨D, 1, none⟩ = some b ∧ w.cell? ⟨D, 2, none⟩ = some c ∧ w.cell? ⟨D, 3, none⟩ = some d := by
  refine ⟨?_, ?_, ?_, ?_⟩ <;> simp [World.cell?, hD]
theorem kp_alloc {w wr : World} {N : Nat} {o : Obj} (h : Kp w wr N o) (o' : Obj) : Kp w (wr.alloc o') N o := h.step (b1alloc _ _)
theorem kp_new2 {w wr : World} (h : Below w.heap.size w wr) (o : Obj) (N : Nat) (hN : wr.heap.size = N) : Kp w (wr.alloc o) N o := ⟨bt h (b1alloc _ _), by have := h.size; omega, hnew hN⟩
theorem kp_set {w wr : World} {N j : Nat} {cs : Array Value} {t : TypeId} {v : Value} (h : Kp w wr N (.cells cs t)) : Kp w (wr.setCell ⟨N, j, none⟩ v) N (.cells (cs.setIfInBounds j v) t) :=
  ⟨h.1.setCell h.2.1 _, h.2.1, heap_setCell_same wr N j cs t v h.2.2⟩
theorem kp_other {w wr : World} {N M j : Nat} {o : Obj} {v : Value} (h : Kp w wr N o) (hne : ¬ N = M) (hM : w.heap.size ≤ M) : Kp w (wr.setCell ⟨M, j, none⟩ v) N o :=
  ⟨h.1.setCell hM _, h.2.1, by rw [Below.heap_setCell _ _ _ _ hne]; exact h.2.2⟩
theorem kp_gr {w wr w' : World} {N M : Nat} {o : Obj} (h : Kp w wr N o) (hg : wr.grownBy w' (some M)) (hne : ¬ N = M) (hM : w.heap.size ≤ M) : Kp w w' N o :=
  ⟨h.1.grown hg h.1.size (fun k hk => by cases hk; exact hM), h.2.1, (hg.block N (heap_lt h.2.2) (fun e => hne (by cases e; rfl))).trans h.2.2⟩
theorem kp_at {w wr w' : World} {M : Nat} {o o' : Obj} (h : Kp w wr M o) (hg : wr.grownBy w' (some M)) (hp : w'.heap[M]? = some o') : Kp w w' M o' :=
  ⟨h.1.grown hg h.1.size (fun k hk => by cases hk; exact h.2.1), h.2.1, hp⟩
theorem kp_cell {w wr : World} {N : Nat} {cs : Array Value} {t : TypeId} (h : Kp w wr N (.cells cs t)) {j : Nat} {v : Value} (hj : cs[j]? = some v) : wr.cell? ⟨N, j, none⟩ = some v := by
  rw [cell_of_row _ _ _ _ t (0, 0) h.2.2]; exact hj
theorem kp_froz {w wr : World} {N : Nat} {cs : Array Value} {t : TypeId} (h : Kp w wr N (.cells cs t)) (j : Nat) : wr.frozen? ⟨N, j, none⟩ = false := frozen_of_row _ _ _ _ _ h.2.2
theorem box_elf {w : World} {D : Nat} {t : TypeId} {a b c d e f g h i j k : Value} (h0 : w.heap[D]? = some (.cells #[a, b, c, d, e, f, g, h, i, j, k] t)) : w.cell? ⟨D, 0, none⟩ = some a ∧ w.cell? ⟨D, 1, none⟩ = some b ∧ w.cell? ⟨D, 2, none⟩ = some c ∧ w.cell? ⟨D, 3, none⟩ = some d ∧ w.cell? ⟨D, 4, none⟩ = some e ∧ w.cell? ⟨D, 5, none⟩ = some f ∧ w.cell? ⟨D, 6, none⟩ = some g ∧ w.cell? ⟨D, 7, none⟩ = some h ∧ w.cell? ⟨D, 8, none⟩ = some i ∧ w.cell? ⟨D, 9, none⟩ = some j ∧ w.cell? ⟨D, 10, none⟩ = some k := by
  refine ⟨?_, ?_, ?_, ?_, ?_, ?_, ?_, ?_, ?_, ?_, ?_⟩ <;> simp [World.cell?, h0]
/-- A line's cells. -/
abbrev lnC (x0 x1 x2 x3 n s0 s1 a0 a1 b0 b1 : Int) : Array Value := #[.int .u8 x0, .int .u8 x1, .int .u8 x2, .int .u8 x3, .int .i64 n, .int .i64 s0, .int .i64 s1, .int .i64 a0, .int .i64 a1, .int .i64 b0, .int .i64 b1]
theorem lnC_one (x0 x1 x2 x3 n s0 s1 a0 a1 b0 b1 : Int) : ∀ v ∈ (lnC x0 x1 x2 x3 n s0 s1 a0 a1 b0 b1).toList, v.oneCell' = true := by
  intro v hv
  simp only [List.mem_cons, List.not_mem_nil, or_false] at hv
  rcases hv with rfl | rfl | rfl | rfl | rfl | rfl | rfl | rfl | rfl | rfl | rfl <;> rfl
theorem size_ln : (Try.prog.info? 44).map (·.size) = some 11 := by kernel_rfl
abbrev clC (n s0 s1 : Int) (a0 : Option Addr) (p0 k0 : Nat) (a1 : Option Addr) (p1 k1 : Nat) : Array Value := #[.int .i64 n, .int .i64 s0, .int .i64 s1, .slice a0 p0 k0, .slice a1 p1 k1]
theorem clC_one (n s0 s1 : Int) (a0 : Option Addr) (p0 k0 : Nat) (a1 : Option Addr) (p1 k1 : Nat) : ∀ v ∈ (clC n s0 s1 a0 p0 k0 a1 p1 k1).toList, v.oneCell' = true := by
  intro v hv
  simp only [List.mem_cons, List.not_mem_nil, or_false] at hv
  rcases hv with rfl | rfl | rfl | rfl | rfl <;> rfl
theorem size_cl : (Try.prog.info? 26).map (·.size) = some 5 := by kernel_rfl

end Go.Proofs.Ytjkkajhjcinalaa

/-
  What row.compare and Less return, and the document's Less.
  Conditions: as each theorem states them.
-/
import Derived.Test.YtikgbcdmeikjfaaRA
import Derived.Deep.Cut
namespace Go.Proofs.Ytikgbcdmeikjfaa
open Go.ChangeShapes Go.WideShapes Go.ChangeAt Go.RowKit
set_option linter.unusedVariables false
set_option linter.unusedSimpArgs false
set_option maxRecDepth 100000

/-- code.Key, with its world. -/
theorem key_gr (a b c d K : Int) (w : World) (ha : U8 a) (hb : U8 b) (hc : U8 c) (hd : U8 d) (hK : Hid (code.key a b c d = K)) :
    Calls Try.prog 55 #[.agg #[.int .u8 a, .int .u8 b, .int .u8 c, .int .u8 d]] w fun e w' => e = .returned (.int .u32 K) ∧ Gr w w' := by
  obtain ⟨a1, a2⟩ := ha; obtain ⟨b1, b2⟩ := hb; obtain ⟨c1, c2⟩ := hc; obtain ⟨d1, d2⟩ := hd
  have e1 : bits .or .u32 0 a = a := by have := code.u32_join (x := 0) (m := a) (by omega) (by omega) a1 a2; simpa using this
  have e2 := code.u32_join (x := a) (m := b) (by omega) (by omega) b1 b2
  obtain ⟨K2, h2⟩ : ∃ K, a * 256 + b = K := ⟨_, rfl⟩
  rw [h2] at e2
  have e3 := code.u32_join (x := K2) (m := c) (by omega) (by omega) c1 c2
  obtain ⟨K3, h3⟩ : ∃ K, K2 * 256 + c = K := ⟨_, rfl⟩
  rw [h3] at e3
  have e4 := code.u32_join (x := K3) (m := d) (by omega) (by omega) d1 d2
  have h4 : K3 * 256 + d = K := by have := hK.out; unfold code.key at this; omega
  rw [h4] at e4
  have k2 : 0 ≤ K2 ∧ K2 ≤ 65535 := by omega
  have k3 : 0 ≤ K3 ∧ K3 ≤ 16777215 := by omega
  clear h2 h3 h4
  obtain ⟨k21, k22⟩ := k2; obtain ⟨k31, k32⟩ := k3
  have i0 : ∀ w, (Instr.index 30 (.agg #[.int .u8 a, .int .u8 b, .int .u8 c, .int .u8 d]) (.int .i64 0)).run Try.prog w = .ok (.int .u8 a) w := fun _ => by kernel_rfl
  have i1 : ∀ w, (Instr.index 30 (.agg #[.int .u8 a, .int .u8 b, .int .u8 c, .int .u8 d]) (.int .i64 1)).run Try.prog w = .ok (.int .u8 b) w := fun _ => by kernel_rfl
  have i2 : ∀ w, (Instr.index 30 (.agg #[.int .u8 a, .int .u8 b, .int .u8 c, .int .u8 d]) (.int .i64 2)).run Try.prog w = .ok (.int .u8 c) w := fun _ => by kernel_rfl
  have i3 : ∀ w, (Instr.index 30 (.agg #[.int .u8 a, .int .u8 b, .int .u8 c, .int .u8 d]) (.int .i64 3)).run Try.prog w = .ok (.int .u8 d) w := fun _ => by kernel_rfl
  have bx : Hid (Gr w (w.alloc (.cells #[.int .u8 a, .int .u8 b, .int .u8 c, .int .u8 d] 30))) := hid ((Gr.refl _).alloc _)
  go_enter Try.func55, Try.ntmps55
  go_wp2
  refine wp_loop_rounds 5 ?_
  rw [rounds_succ]; go_wp2
  rw [rounds_succ]; go_wp2
  rw [rounds_succ]; go_wp2
  rw [rounds_succ]; go_wp2
  rw [rounds_succ]; go_wp2
  go_ret
  exact ⟨rfl, bx.out⟩

theorem box6 {w : World} {B : Nat} {t : TypeId} {a b c d e f : Value} (h : w.heap[B]? = some (.cells #[a, b, c, d, e, f] t)) :
    w.cell? ⟨B, 0, none⟩ = some a ∧ w.cell? ⟨B, 1, none⟩ = some b ∧ w.cell? ⟨B, 2, none⟩ = some c ∧ w.cell? ⟨B, 3, none⟩ = some d ∧ w.cell? ⟨B, 4, none⟩ = some e ∧ w.cell? ⟨B, 5, none⟩ = some f := by
  refine ⟨?_, ?_, ?_, ?_, ?_, ?_⟩ <;> simp [World.cell?, h]

set_option maxHeartbeats 8000000 in
theorem compare_gr (x0 x1 x2 x3 m0 m1 y0 y1 y2 y3 n0 n1 C : Int) (w : World) (hx : rok (x0, x1, x2, x3, m0, m1)) (hy : rok (y0, y1, y2, y3, n0, n1)) (hC : rcmp (x0, x1, x2, x3, m0, m1) (y0, y1, y2, y3, n0, n1) = C) :
    Calls Try.prog 31 #[.agg #[.int .u8 x0, .int .u8 x1, .int .u8 x2, .int .u8 x3, .int .i64 m0, .int .i64 m1], .agg #[.int .u8 y0, .int .u8 y1, .int .u8 y2, .int .u8 y3, .int .i64 n0, .int .i64 n1]] w fun e w' => e = .returned (.int .i64 C) ∧ Gr w w' := by
  have HX := hid hx
  have HY := hid hy
  obtain ⟨KA, eA⟩ : ∃ y, code.key x0 x1 x2 x3 = y := ⟨_, rfl⟩
  obtain ⟨KB, eB⟩ : ∃ y, code.key y0 y1 y2 y3 = y := ⟨_, rfl⟩
  obtain ⟨C1, e1⟩ : ∃ y, ci KA KB = y := ⟨_, rfl⟩
  obtain ⟨C2, e2⟩ : ∃ y, (if ci m0 n0 ≠ 0 then ci m0 n0 else ci m1 n1) = y := ⟨_, rfl⟩
  have hc : C = if C1 ≠ 0 then C1 else C2 := by
    rw [← hC, ← e1, ← e2, ← eA, ← eB]; rfl
  have EA := hid eA
  have EB := hid eB
  have E1 := hid e1
  have E2 := hid e2
  clear eA eB e1 e2 hx hy hC
  have g2 : Hid (Gr w ((w.alloc (.cells #[.int .u8 x0, .int .u8 x1, .int .u8 x2, .int .u8 x3, .int .i64 m0, .int .i64 m1] 33)).alloc (.cells #[.int .u8 y0, .int .u8 y1, .int .u8 y2, .int .u8 y3, .int .i64 n0, .int .i64 n1] 33))) := hid (((Gr.refl _).alloc _).alloc _)
  have KC : Hid (∀ x, Gr ((w.alloc (.cells #[.int .u8 x0, .int .u8 x1, .int .u8 x2, .int .u8 x3, .int .i64 m0, .int .i64 m1] 33)).alloc (.cells #[.int .u8 y0, .int .u8 y1, .int .u8 y2, .int .u8 y3, .int .i64 n0, .int .i64 n1] 33)) x →
      (x.cell? ⟨w.heap.size, 0, none⟩ = some (.int .u8 x0) ∧ x.cell? ⟨w.heap.size, 1, none⟩ = some (.int .u8 x1) ∧ x.cell? ⟨w.heap.size, 2, none⟩ = some (.int .u8 x2) ∧ x.cell? ⟨w.heap.size, 3, none⟩ = some (.int .u8 x3) ∧ x.cell? ⟨w.heap.size, 4, none⟩ = some (.int .i64 m0) ∧ x.cell? ⟨w.heap.size, 5, none⟩ = some (.int .i64 m1)) ∧
      x.cell? ⟨w.heap.size + 1, 0, none⟩ = some (.int .u8 y0) ∧ x.cell? ⟨w.heap.size + 1, 1, none⟩ = some (.int .u8 y1) ∧ x.cell? ⟨w.heap.size + 1, 2, none⟩ = some (.int .u8 y2) ∧ x.cell? ⟨w.heap.size + 1, 3, none⟩ = some (.int .u8 y3) ∧ x.cell? ⟨w.heap.size + 1, 4, none⟩ = some (.int .i64 n0) ∧ x.cell? ⟨w.heap.size + 1, 5, none⟩ = some (.int .i64 n1)) := hid (by
    intro x h
    have hb := h.below
    refine ⟨box6 (t := 33) ?_, box6 (t := 33) ?_⟩
    · rw [hb.block _ (by simp; omega), Below.heap_alloc _ _ _ (by simp)]; exact heap_alloc_new _ _
    · rw [hb.block _ (by simp)]; have := heap_alloc_new (w.alloc (.cells #[.int .u8 x0, .int .u8 x1, .int .u8 x2, .int .u8 x3, .int .i64 m0, .int .i64 m1] 33)) (.cells #[.int .u8 y0, .int .u8 y1, .int .u8 y2, .int .u8 y3, .int .i64 n0, .int .i64 n1] 33); simpa using this)
  have tk1 : True := trivial
  by_cases hz : C1 = 0
  · have hz' : (C1 == 0) = true := by simpa using hz
    rw [if_neg (by simpa using hz)] at hc
    subst hc
    go_enter Try.func31, Try.ntmps31
    go_upto_region 1 with fail
    generalize ((w.alloc (.cells #[.int .u8 x0, .int .u8 x1, .int .u8 x2, .int .u8 x3, .int .i64 m0, .int .i64 m1] 33)).alloc (.cells #[.int .u8 y0, .int .u8 y1, .int .u8 y2, .int .u8 y3, .int .i64 n0, .int .i64 n1] 33)) = W at g2 KC ⊢
    generalize w.heap.size + 1 = B2 at KC ⊢
    have KS : Hid (∀ x, Gr W x → Gr W x ∧ (x.cell? ⟨w.heap.size, 0, none⟩ = some (.int .u8 x0) ∧ x.cell? ⟨w.heap.size, 1, none⟩ = some (.int .u8 x1) ∧ x.cell? ⟨w.heap.size, 2, none⟩ = some (.int .u8 x2) ∧ x.cell? ⟨w.heap.size, 3, none⟩ = some (.int .u8 x3)) ∧ x.cell? ⟨B2, 0, none⟩ = some (.int .u8 y0) ∧ x.cell? ⟨B2, 1, none⟩ = some (.int .u8 y1) ∧ x.cell? ⟨B2, 2, none⟩ = some (.int .u8 y2) ∧ x.cell? ⟨B2, 3, none⟩ = some (.int .u8 y3)) := hid (by
      intro x h
      obtain ⟨⟨p0, p1, p2, p3, _, _⟩, q0, q1, q2, q3, _, _⟩ := KC.out x h
      exact ⟨h, ⟨p0, p1, p2, p3⟩, q0, q1, q2, q3⟩)
    go_region_held3 (fun x => Gr W x ∧ (x.cell? ⟨w.heap.size, 0, none⟩ = some (.int .u8 x0) ∧ x.cell? ⟨w.heap.size, 1, none⟩ = some (.int .u8 x1) ∧ x.cell? ⟨w.heap.size, 2, none⟩ = some (.int .u8 x2) ∧ x.cell? ⟨w.heap.size, 3, none⟩ = some (.int .u8 x3)) ∧ x.cell? ⟨B2, 0, none⟩ = some (.int .u8 y0) ∧ x.cell? ⟨B2, 1, none⟩ = some (.int .u8 y1) ∧ x.cell? ⟨B2, 2, none⟩ = some (.int .u8 y2) ∧ x.cell? ⟨B2, 3, none⟩ = some (.int .u8 y3))
      (first | assumption | exact kg_drew KS | exact kg_step (by assumption) (by assumption) KS | exact kg_same (by assumption) (by assumption) KS)
      (first
        | (go_at_call 55; clear tk1; refine (key_gr x0 x1 x2 x3 KA _ HX.out.1.1 HX.out.1.2.1 HX.out.1.2.2.1 HX.out.1.2.2.2 EA).mono ?_; rintro e w5 ⟨rfl, hb5⟩)
        | (go_at_call 55; refine (key_gr y0 y1 y2 y3 KB _ HY.out.1.1 HY.out.1.2.1 HY.out.1.2.2.1 HY.out.1.2.2.2 EB).mono ?_; rintro e w6 ⟨rfl, hb6⟩)
        | (go_at_call 54; refine (cmp32 KA KB C1 _ E1).mono ?_; rintro e w7 ⟨rfl, hb7⟩))
    subst hb7
    have G7 : Hid (Gr w w7) := hid (g2.out.trans ((Gr.refl W).drew.trans (hb5.trans hb6)))
    have G8 : Hid (Gr W w7) := hid ((Gr.refl W).drew.trans (hb5.trans hb6))
    clear hb5 hb6
    have KT : Hid (∀ x, Gr w7 x → Gr w7 x ∧ x.cell? ⟨w.heap.size, 4, none⟩ = some (.int .i64 m0) ∧ x.cell? ⟨w.heap.size, 4 + 1, none⟩ = some (.int .i64 m1) ∧ x.cell? ⟨B2, 4, none⟩ = some (.int .i64 n0) ∧ x.cell? ⟨B2, 4 + 1, none⟩ = some (.int .i64 n1)) := hid (by
      intro x h
      obtain ⟨⟨_, _, _, _, p4, p5⟩, _, _, _, _, q4, q5⟩ := KC.out x (G8.out.trans h)
      exact ⟨h, p4, p5, q4, q5⟩)
    go_upto_region 4 with fail
    go_region_held3 (fun x => Gr w7 x ∧ x.cell? ⟨w.heap.size, 4, none⟩ = some (.int .i64 m0) ∧ x.cell? ⟨w.heap.size, 4 + 1, none⟩ = some (.int .i64 m1) ∧ x.cell? ⟨B2, 4, none⟩ = some (.int .i64 n0) ∧ x.cell? ⟨B2, 4 + 1, none⟩ = some (.int .i64 n1))
      (first | assumption | exact kg_drew KT | exact kg_step (by assumption) (by assumption) KT | exact kg_same (by assumption) (by assumption) KT)
      (first | (go_at_call 56; refine (scmp _ _ 4 4 m0 m1 n0 n1 C _ (KT.out _ (Gr.refl _).drew).2.1 (KT.out _ (Gr.refl _).drew).2.2.1 (KT.out _ (Gr.refl _).drew).2.2.2.1 (KT.out _ (Gr.refl _).drew).2.2.2.2 E2).mono ?_; rintro e w8 ⟨rfl, hb8⟩))
    go_wp2
    go_ret
    exact ⟨rfl, by subst hb8; exact G7.out.drew⟩
  · have hz' : (C1 == 0) = false := by simpa using hz
    rw [if_pos hz] at hc
    subst hc
    go_enter Try.func31, Try.ntmps31
    go_upto_region 1 with fail
    generalize ((w.alloc (.cells #[.int .u8 x0, .int .u8 x1, .int .u8 x2, .int .u8 x3, .int .i64 m0, .int .i64 m1] 33)).alloc (.cells #[.int .u8 y0, .int .u8 y1, .int .u8 y2, .int .u8 y3, .int .i64 n0, .int .i64 n1] 33)) = W at g2 KC ⊢
    generalize w.heap.size + 1 = B2 at KC ⊢
    have KS : Hid (∀ x, Gr W x → Gr W x ∧ (x.cell? ⟨w.heap.size, 0, none⟩ = some (.int .u8 x0) ∧ x.cell? ⟨w.heap.size, 1, none⟩ = some (.int .u8 x1) ∧ x.cell? ⟨w.heap.size, 2, none⟩ = some (.int .u8 x2) ∧ x.cell? ⟨w.heap.size, 3, none⟩ = some (.int .u8 x3)) ∧ x.cell? ⟨B2, 0, none⟩ = some (.int .u8 y0) ∧ x.cell? ⟨B2, 1, none⟩ = some (.int .u8 y1) ∧ x.cell? ⟨B2, 2, none⟩ = some (.int .u8 y2) ∧ x.cell? ⟨B2, 3, none⟩ = some (.int .u8 y3)) := hid (by
      intro x h
      obtain ⟨⟨p0, p1, p2, p3, _, _⟩, q0, q1, q2, q3, _, _⟩ := KC.out x h
      exact ⟨h, ⟨p0, p1, p2, p3⟩, q0, q1, q2, q3⟩)
    go_region_held3 (fun x => Gr W x ∧ (x.cell? ⟨w.heap.size, 0, none⟩ = some (.int .u8 x0) ∧ x.cell? ⟨w.heap.size, 1, none⟩ = some (.int .u8 x1) ∧ x.cell? ⟨w.heap.size, 2, none⟩ = some (.int .u8 x2) ∧ x.cell? ⟨w.heap.size, 3, none⟩ = some (.int .u8 x3)) ∧ x.cell? ⟨B2, 0, none⟩ = some (.int .u8 y0) ∧ x.cell? ⟨B2, 1, none⟩ = some (.int .u8 y1) ∧ x.cell? ⟨B2, 2, none⟩ = some (.int .u8 y2) ∧ x.cell? ⟨B2, 3, none⟩ = some (.int .u8 y3))
      (first | assumption | exact kg_drew KS | exact kg_step (by assumption) (by assumption) KS | exact kg_same (by assumption) (by assumption) KS)
      (first
        | (go_at_call 55; clear tk1; refine (key_gr x0 x1 x2 x3 KA _ HX.out.1.1 HX.out.1.2.1 HX.out.1.2.2.1 HX.out.1.2.2.2 EA).mono ?_; rintro e w5 ⟨rfl, hb5⟩)
        | (go_at_call 55; refine (key_gr y0 y1 y2 y3 KB _ HY.out.1.1 HY.out.1.2.1 HY.out.1.2.2.1 HY.out.1.2.2.2 EB).mono ?_; rintro e w6 ⟨rfl, hb6⟩)
        | (go_at_call 54; refine (cmp32 KA KB C _ E1).mono ?_; rintro e w7 ⟨rfl, hb7⟩))
    subst hb7
    go_wp2
    go_ret
    exact ⟨rfl, g2.out.trans ((Gr.refl W).drew.trans (hb5.trans hb6))⟩


theorem less_m (x0 x1 x2 x3 m0 m1 y0 y1 y2 y3 n0 n1 : Int) (L : Bool) (w : World) (hx : rok (x0, x1, x2, x3, m0, m1)) (hy : rok (y0, y1, y2, y3, n0, n1)) (hL : Hid (rlt (x0, x1, x2, x3, m0, m1) (y0, y1, y2, y3, n0, n1) = L)) :
    Calls Try.prog 13 #[.agg #[.int .u8 x0, .int .u8 x1, .int .u8 x2, .int .u8 x3, .int .i64 m0, .int .i64 m1], .agg #[.int .u8 y0, .int .u8 y1, .int .u8 y2, .int .u8 y3, .int .i64 n0, .int .i64 n1]] w fun e w' => e = .returned (.bool L) ∧ Below w.heap.size w w' := by
  have HX := hid hx
  have HY := hid hy
  obtain ⟨C, eC⟩ : ∃ y, rcmp (x0, x1, x2, x3, m0, m1) (y0, y1, y2, y3, n0, n1) = y := ⟨_, rfl⟩
  have hL' : decide (C < 0) = L := by have := hL.out; unfold rlt at this; rw [eC] at this; exact this
  have EC := hid eC
  have g2 : Hid (Gr w ((w.alloc (.cells #[.int .u8 x0, .int .u8 x1, .int .u8 x2, .int .u8 x3, .int .i64 m0, .int .i64 m1] 33)).alloc (.cells #[.int .u8 y0, .int .u8 y1, .int .u8 y2, .int .u8 y3, .int .i64 n0, .int .i64 n1] 33))) := hid (((Gr.refl _).alloc _).alloc _)
  clear eC hL hx hy
  go_enter Try.func13, Try.ntmps13
  go_wp2_with (go_at_call 31; refine (compare_gr x0 x1 x2 x3 m0 m1 y0 y1 y2 y3 n0 n1 C _ HX.out HY.out EC.out).mono ?_; rintro e w5 ⟨rfl, hb5⟩)
  go_ret
  exact ⟨rfl, (g2.out.trans hb5).below⟩

end Go.Proofs.Ytikgbcdmeikjfaa

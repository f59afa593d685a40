/-
  What lattice.All returns.
  Conditions: as each theorem states them.
-/
import Derived.Test.YtmlnfpefemchhaaLG
import Derived.Deep.LoopGhost
import Derived.Deep.Onto
namespace Go.Proofs.Ytmlnfpefemchhaa
open Go.ChangeShapes Go.WideShapes Go.ChangeAt Go.RowKit
set_option linter.unusedVariables false
set_option linter.unusedSimpArgs false

theorem info_node : (Try.prog.info? 36).map (fun i => (i.zero, i.size, i.bytes)) = some (some (.agg #[.int .u8 0, .int .u8 0, .int .u8 0, .int .u8 0]), 4, 4) := by kernel_rfl
/-- A node in a block of its own, a row of nodes of one's own beside it. -/
def AllSt (W wr : World) (V : Nat) (x0 x1 x2 x3 : Int) (v : Value) (l : List Nd) : Prop :=
  Below W.heap.size W wr ∧ W.heap.size ≤ V ∧ wr.heap[V]? = some (.cells #[.int .u8 x0, .int .u8 x1, .int .u8 x2, .int .u8 x3] 36) ∧ ¬ v.ownBlock = some V ∧ wr.ownsRow W.heap.size 36 4 v l.length (ncells l)
theorem keep_blk2 {w w' : World} {row : Option Nat} {D : Nat} {o : Obj} (h : w.heap[D]? = some o) (hg : w.grownBy w' row) (hr : ¬ row = some D) : w'.heap[D]? = some o := (hg.block D (heap_lt h) (fun e => hr e.symm)).trans h
theorem and4_true (a b c d : Int) : (a == a && (b == b && (c == c && d == d))) = true := by simp
theorem and4_false {a b c d x y z u : Int} (h : ¬ (a = x ∧ b = y ∧ c = z ∧ d = u)) : (a == x && (b == y && (c == z && d == u))) = false := by
  by_cases h1 : a = x <;> by_cases h2 : b = y <;> by_cases h3 : c = z <;> by_cases h4 : d = u <;> simp [h1, h2, h3, h4]
  exact h ⟨h1, h2, h3, h4⟩

/-- One more node in the row, and the next one in a block of its own. -/
theorem all_step {W wr w3 w4 : World} {V g cap : Nat} {x0 x1 x2 x3 y0 y1 y2 y3 : Int} {v : Value} {l : List Nd} (h : AllSt W wr V x0 x1 x2 x3 v l)
    (ho : w3.ownsRow W.heap.size 36 4 (.slice (some ⟨g, 0, none⟩) (l.length + 1) cap) (l.length + 1) (ncells (l ++ [(x0, x1, x2, x3)]))) (hg : wr.grownBy w3 v.ownBlock)
    (hb : Below (w3.alloc (.cells #[.int .u8 x0, .int .u8 x1, .int .u8 x2, .int .u8 x3] 36)).heap.size (w3.alloc (.cells #[.int .u8 x0, .int .u8 x1, .int .u8 x2, .int .u8 x3] 36)) w4) :
    AllSt W ((((w4.setCell ⟨w3.heap.size, 0, none⟩ (.int .u8 y0)).setCell ⟨w3.heap.size, 1, none⟩ (.int .u8 y1)).setCell ⟨w3.heap.size, 2, none⟩ (.int .u8 y2)).setCell ⟨w3.heap.size, 3, none⟩ (.int .u8 y3)) w3.heap.size y0 y1 y2 y3 (.slice (some ⟨g, 0, none⟩) (l.length + 1) cap) (l ++ [(x0, x1, x2, x3)]) := by
  obtain ⟨h1, h2, h3, h4, h5⟩ := h
  have b3 : Below W.heap.size W w3 := h1.grown hg h1.size (fun j hj => (h5.lt j hj).1)
  have b4 : Below W.heap.size W w4 := (b3.alloc b3.size _).trans (hb.mono (by simp; have := b3.size; omega))
  have k4 : w4.heap[w3.heap.size]? = some (.cells #[.int .u8 x0, .int .u8 x1, .int .u8 x2, .int .u8 x3] 36) := keep_blk (heap_alloc_new w3 _) hb
  have hlt := (ho.lt g rfl).2
  have o4 : w4.ownsRow W.heap.size 36 4 (.slice (some ⟨g, 0, none⟩) (l.length + 1) cap) (l.length + 1) (ncells (l ++ [(x0, x1, x2, x3)])) := (ho.alloc _).kept (below_grow hb none) (.inr (fun e => by cases e))
  have st : ∀ (w' : World) (i : Nat) (u : Value), w'.ownsRow W.heap.size 36 4 (.slice (some ⟨g, 0, none⟩) (l.length + 1) cap) (l.length + 1) (ncells (l ++ [(x0, x1, x2, x3)])) → (w'.setCell ⟨w3.heap.size, i, none⟩ u).ownsRow W.heap.size 36 4 (.slice (some ⟨g, 0, none⟩) (l.length + 1) cap) (l.length + 1) (ncells (l ++ [(x0, x1, x2, x3)])) :=
    fun w' i u hw => hw.kept (set_grown w' w3.heap.size i u) (.inr (fun e => by have e' : some g = some w3.heap.size := e; cases e'; omega))
  refine ⟨below4 b4 b3.size _ _ _ _, b3.size, store4 k4 _ _ _ _, fun e => ?_, ?_⟩
  · have e' : some g = some w3.heap.size := e
    cases e'; omega
  · rw [show (l ++ [(x0, x1, x2, x3)]).length = l.length + 1 by simp]
    exact st _ 3 _ (st _ 2 _ (st _ 1 _ (st _ 0 _ o4)))

set_option maxHeartbeats 8000000 in
theorem all_any (a : Option Addr) (n c : Nat) (ds : Dims) (M : Int) (w : World) (hc : Cat w a n c ds) (hM : I64 M) (t0 t1 t2 t3 : Nat) (hg : goodC ds M = true) (h0 : tp ds M 0 = t0) (h1 : tp ds M 1 = t1) (h2 : tp ds M 2 = t2) (h3 : tp ds M 3 = t3) :
    Calls Try.prog 36 #[.agg #[.slice a n c, .int .i64 M]] w fun e w' => (∃ v, e = .returned v ∧ w'.ownsRow w.heap.size 36 4 v (allN t0 t1 t2 t3).length (ncells (allN t0 t1 t2 t3))) ∧ Below w.heap.size w w' := by
  have HC : Hid (Cat w a n c ds) := hc
  have HM : Hid (I64 M) := hM
  have bx : Below w.heap.size w (w.alloc (.cells #[.slice a n c, .int .i64 M] 25)) := (Below.refl _ _).alloc (Nat.le_refl _) _
  have HG : Hid (goodC ds M = true) := hg
  have HT : Hid (t0 ≤ 4 ∧ t1 ≤ 4 ∧ t2 ≤ 4 ∧ t3 ≤ 4) := by
    have b0 := tp_bd ds M 0; have b1 := tp_bd ds M 1; have b2 := tp_bd ds M 2; have b3 := tp_bd ds M 3
    show _ ∧ _
    omega
  have eqn := eqN
  clear hc hM
  go_enter Try.func36, Try.ntmps36
  go_wp2_with (first
    | (go_at_call 52; refine (top_any _ _ _ _ _ _ (HC.out.below bx) HM.out).mono ?_; rintro e w1 ⟨rfl, hb1⟩; rw [h0, h1, h2, h3])
    | (go_at_call 16; refine (base_any _).mono ?_; rintro e w2 ⟨rfl, hb2⟩))
  obtain ⟨W, hW⟩ : ∃ W, w1.alloc (.cells #[.int .u8 t0, .int .u8 t1, .int .u8 t2, .int .u8 t3] 36) = W := ⟨_, rfl⟩
  rw [hW] at hb2
  have BW : Hid (Below w.heap.size w W) := by show Below _ _ _; rw [← hW]; exact (bx.trans (hb1.mono (by simp))).alloc (by have := hb1.size; simp at this; omega) _
  have TB : Hid (W.heap[w1.heap.size]? = some (.cells #[.int .u8 t0, .int .u8 t1, .int .u8 t2, .int .u8 t3] 36)) := by show _ = _; rw [← hW]; exact heap_alloc_new _ _
  have AS0 : Hid (AllSt W (w2.alloc (.cells #[.int .u8 0, .int .u8 0, .int .u8 0, .int .u8 0] 36)) w2.heap.size 0 0 0 0 (.slice none 0 0) []) :=
    hid ⟨hb2.alloc hb2.size _, hb2.size, heap_alloc_new _ _, by simp [Value.ownBlock], World.ownsRow_nil _ _ _ _⟩
  clear hW hb2 hb1 bx
  go_loopg [5, 6] 1000 (fun gk va vp wr => ∃ (V a b c d : Nat), vp = .pointer (some ⟨V, 0, none⟩) ∧ Hid (a ≤ t0 ∧ b ≤ t1 ∧ c ≤ t2 ∧ d ≤ t3 ∧ gk + (a * 125 + b * 25 + c * 5 + d) = 1000) ∧ Hid (AllSt W wr V a b c d va (pref t1 t2 t3 a b c d)))
  case atStart => exact ⟨_, 0, 0, 0, 0, rfl, hid (by omega), AS0⟩
  case round =>
    obtain ⟨V, a', b, c', d, rfl, HR, AS⟩ := hrel
    obtain ⟨x0, x1, x2, x3⟩ := box4 AS.out.2.2.1
    have hVlt := heap_lt AS.out.2.2.1
    obtain ⟨y0, y1, y2, y3⟩ := box4 (keep_blk TB.out AS.out.1)
    have hT1 : w1.heap.size < wr.heap.size := Nat.lt_of_lt_of_le (heap_lt TB.out) AS.out.1.size
    have plen : Hid ((pref t1 t2 t3 a' b c' d).length ≤ 700) := hid (by have := pref_len (t1 := t1) (t2 := t2) (t3 := t3) (a := a') (b := b) (c := c') (d := d) HT.out.2.1 HT.out.2.2.1 HT.out.2.2.2; have := HR.out; have := HT.out; omega)
    by_cases he : ((a' : Int) = t0 ∧ (b : Int) = t1 ∧ (c' : Int) = t2 ∧ (d : Int) = t3)
    · obtain ⟨e0, e1, e2, e3⟩ := he
      obtain rfl : a' = t0 := by omega
      obtain rfl : b = t1 := by omega
      obtain rfl : c' = t2 := by omega
      obtain rfl : d = t3 := by omega
      go_wp2_with (at_builtin; refine append_four Try.underlying42 info_node (by decide) (by decide) rfl (.tmp 26) (.tmp 28) rfl W.heap.size _ _ _ _ _ _ _ _ rfl rfl AS.out.2.2.2.2 rfl (by have := plen.out; omega) AS.out.1.size ?_; rintro v3 w3 ho3 ⟨g, cap, rfl, hgc⟩ hgr3)
      go_ret
      refine ⟨⟨_, rfl, ?_⟩, BW.out.trans (AS.out.1.grown hgr3 AS.out.1.size (fun j hj => (AS.out.2.2.2.2.lt j hj).1) |>.mono BW.out.size)⟩
      rw [all_last, List.length_append]
      exact ho3.mono BW.out.size
    · have hfalse := and4_false he
      by_cases e3 : d = t3
      · subst e3
        by_cases e2 : c' = t2
        · subst e2
          by_cases e1 : b = t1
          · subst e1
            have e0' : ¬ (a' : Int) = t0 := fun e => he ⟨e, rfl, rfl, rfl⟩
            have hfalse2 : ((a' : Int) == (t0 : Int)) = false := by simp; omega
            have dd : (a' : Int) ≤ 100 := by have := HR.out; have := HT.out; omega
            go_wp2_with
                    (first
                    | (at_builtin; refine append_four Try.underlying42 info_node (by decide) (by decide) rfl (.tmp 21) (.tmp 23) rfl W.heap.size _ _ _ _ _ _ _ _ rfl rfl AS.out.2.2.2.2 rfl (by have := plen.out; omega) AS.out.1.size ?_; rintro v3 w3 ho3 ⟨g, cap, rfl, hgc⟩ hgr3; have KV := keep_blk2 AS.out.2.2.1 hgr3 AS.out.2.2.2.1; obtain ⟨z0, z1, z2, z3⟩ := box4 KV; have BW3 := AS.out.1.grown hgr3 AS.out.1.size (fun j hj => (AS.out.2.2.2.2.lt j hj).1); have KT := keep_blk TB.out BW3; obtain ⟨r0, r1, r2, r3⟩ := box4 KT; have HW3 := hid BW3; have HO3 := hid ho3; have HGR := hid hgr3; have hT3 := heap_lt KT; have hV3 := heap_lt KV; clear ho3 hgr3 KV KT BW3)
                    | (go_at_call 55; refine (next_a _ _ _ _ _ _ e0' (by omega) dd).mono ?_; rintro e w4 ⟨rfl, hb4⟩; have KN := keep_blk (heap_alloc_new w3 _) hb4; obtain ⟨n0, n1, n2, n3⟩ := box4 KN; obtain ⟨f0, f1, f2, f3⟩ := froz4 KN; have HB4 := hid hb4; clear KN hb4))
            go_roundg (1000 - (a' + 1) * 125)
            case measure => have := HR.out; have := HT.out; omega
            case rel =>
              refine ⟨w3.heap.size, a' + 1, 0, 0, 0, rfl, hid (by have := HR.out; have := HT.out; omega), hid ?_⟩
              rw [pref_a, pref_b, pref_c, pref_d, Int.natCast_add a' 1, show ((1 : Nat) : Int) = 1 from rfl, show ((0 : Nat) : Int) = 0 from rfl]
              exact all_step AS.out HO3.out HGR.out HB4.out
          · have e1' : ¬ (b : Int) = t1 := by omega
            have hfalse2 : ((a' : Int) == (t0 : Int) && (b : Int) == (t1 : Int)) = false := by simp; omega
            have dd : (b : Int) ≤ 100 := by have := HR.out; have := HT.out; omega
            go_wp2_with
                    (first
                    | (at_builtin; refine append_four Try.underlying42 info_node (by decide) (by decide) rfl (.tmp 21) (.tmp 23) rfl W.heap.size _ _ _ _ _ _ _ _ rfl rfl AS.out.2.2.2.2 rfl (by have := plen.out; omega) AS.out.1.size ?_; rintro v3 w3 ho3 ⟨g, cap, rfl, hgc⟩ hgr3; have KV := keep_blk2 AS.out.2.2.1 hgr3 AS.out.2.2.2.1; obtain ⟨z0, z1, z2, z3⟩ := box4 KV; have BW3 := AS.out.1.grown hgr3 AS.out.1.size (fun j hj => (AS.out.2.2.2.2.lt j hj).1); have KT := keep_blk TB.out BW3; obtain ⟨r0, r1, r2, r3⟩ := box4 KT; have HW3 := hid BW3; have HO3 := hid ho3; have HGR := hid hgr3; have hT3 := heap_lt KT; have hV3 := heap_lt KV; clear ho3 hgr3 KV KT BW3)
                    | (go_at_call 55; refine (next_b _ _ _ _ _ _ _ e1' (by omega) dd).mono ?_; rintro e w4 ⟨rfl, hb4⟩; have KN := keep_blk (heap_alloc_new w3 _) hb4; obtain ⟨n0, n1, n2, n3⟩ := box4 KN; obtain ⟨f0, f1, f2, f3⟩ := froz4 KN; have HB4 := hid hb4; clear KN hb4))
            go_roundg (1000 - (a' * 125 + (b + 1) * 25))
            case measure => have := HR.out; have := HT.out; omega
            case rel =>
              refine ⟨w3.heap.size, a', b + 1, 0, 0, rfl, hid (by have := HR.out; have := HT.out; omega), hid ?_⟩
              rw [pref_b, pref_c, pref_d, Int.natCast_add b 1, show ((1 : Nat) : Int) = 1 from rfl, show ((0 : Nat) : Int) = 0 from rfl]
              exact all_step AS.out HO3.out HGR.out HB4.out
        · have e2' : ¬ (c' : Int) = t2 := by omega
          have hfalse2 : ((a' : Int) == (t0 : Int) && ((b : Int) == (t1 : Int) && (c' : Int) == (t2 : Int))) = false := by simp; omega
          have dd : (c' : Int) ≤ 100 := by have := HR.out; have := HT.out; omega
          go_wp2_with
                  (first
                  | (at_builtin; refine append_four Try.underlying42 info_node (by decide) (by decide) rfl (.tmp 21) (.tmp 23) rfl W.heap.size _ _ _ _ _ _ _ _ rfl rfl AS.out.2.2.2.2 rfl (by have := plen.out; omega) AS.out.1.size ?_; rintro v3 w3 ho3 ⟨g, cap, rfl, hgc⟩ hgr3; have KV := keep_blk2 AS.out.2.2.1 hgr3 AS.out.2.2.2.1; obtain ⟨z0, z1, z2, z3⟩ := box4 KV; have BW3 := AS.out.1.grown hgr3 AS.out.1.size (fun j hj => (AS.out.2.2.2.2.lt j hj).1); have KT := keep_blk TB.out BW3; obtain ⟨r0, r1, r2, r3⟩ := box4 KT; have HW3 := hid BW3; have HO3 := hid ho3; have HGR := hid hgr3; have hT3 := heap_lt KT; have hV3 := heap_lt KV; clear ho3 hgr3 KV KT BW3)
                  | (go_at_call 55; refine (next_c _ _ _ _ _ _ _ _ e2' (by omega) dd).mono ?_; rintro e w4 ⟨rfl, hb4⟩; have KN := keep_blk (heap_alloc_new w3 _) hb4; obtain ⟨n0, n1, n2, n3⟩ := box4 KN; obtain ⟨f0, f1, f2, f3⟩ := froz4 KN; have HB4 := hid hb4; clear KN hb4))
          go_roundg (1000 - (a' * 125 + b * 25 + (c' + 1) * 5))
          case measure => have := HR.out; have := HT.out; omega
          case rel =>
            refine ⟨w3.heap.size, a', b, c' + 1, 0, rfl, hid (by have := HR.out; have := HT.out; omega), hid ?_⟩
            rw [pref_c, pref_d, Int.natCast_add c' 1, show ((1 : Nat) : Int) = 1 from rfl, show ((0 : Nat) : Int) = 0 from rfl]
            exact all_step AS.out HO3.out HGR.out HB4.out
      · have e3' : ¬ (d : Int) = t3 := by omega
        have dd : (d : Int) ≤ 100 := by have := HR.out; have := HT.out; omega
        go_wp2_with
                (first
                | (at_builtin; refine append_four Try.underlying42 info_node (by decide) (by decide) rfl (.tmp 21) (.tmp 23) rfl W.heap.size _ _ _ _ _ _ _ _ rfl rfl AS.out.2.2.2.2 rfl (by have := plen.out; omega) AS.out.1.size ?_; rintro v3 w3 ho3 ⟨g, cap, rfl, hgc⟩ hgr3; have KV := keep_blk2 AS.out.2.2.1 hgr3 AS.out.2.2.2.1; obtain ⟨z0, z1, z2, z3⟩ := box4 KV; have BW3 := AS.out.1.grown hgr3 AS.out.1.size (fun j hj => (AS.out.2.2.2.2.lt j hj).1); have KT := keep_blk TB.out BW3; obtain ⟨r0, r1, r2, r3⟩ := box4 KT; have HW3 := hid BW3; have HO3 := hid ho3; have HGR := hid hgr3; have hT3 := heap_lt KT; have hV3 := heap_lt KV; clear ho3 hgr3 KV KT BW3)
                | (go_at_call 55; refine (next_d _ _ _ _ _ _ _ _ _ e3' (by omega) dd).mono ?_; rintro e w4 ⟨rfl, hb4⟩; have KN := keep_blk (heap_alloc_new w3 _) hb4; obtain ⟨n0, n1, n2, n3⟩ := box4 KN; obtain ⟨f0, f1, f2, f3⟩ := froz4 KN; have HB4 := hid hb4; clear KN hb4))
        go_roundg (1000 - (a' * 125 + b * 25 + c' * 5 + (d + 1)))
        case measure => have := HR.out; have := HT.out; omega
        case rel =>
          refine ⟨w3.heap.size, a', b, c', d + 1, rfl, hid (by have := HR.out; have := HT.out; omega), hid ?_⟩
          rw [pref_d, Int.natCast_add d 1, show ((1 : Nat) : Int) = 1 from rfl]
          exact all_step AS.out HO3.out HGR.out HB4.out

end Go.Proofs.Ytmlnfpefemchhaa

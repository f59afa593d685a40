/-
  What the document's Insert, Sort and Same return.
  Conditions: as each theorem states them.
-/
import Derived.Test.YtikgbcdmeikjfaaRTa
namespace Go.Proofs.Ytikgbcdmeikjfaa
open Go.ChangeShapes Go.WideShapes Go.ChangeAt Go.RowKit
set_option linter.unusedVariables false
set_option linter.unusedSimpArgs false
set_option maxRecDepth 100000

theorem pairR1 (w : World) (X Y : Array Value) : ((w.drew.alloc (.cells X 33)).alloc (.cells Y 33)).heap[w.heap.size + 1]? = some (.cells Y 33) := by
  have := heap_alloc_new (w.drew.alloc (.cells X 33)) (.cells Y 33)
  simpa using this
theorem pairR2 (w : World) (X Y : Array Value) : ((w.drew.alloc (.cells X 33)).alloc (.cells Y 33)).heap[w.heap.size]? = some (.cells X 33) := by
  rw [Below.heap_alloc _ _ _ (by simp)]
  exact heap_alloc_new w.drew (.cells X 33)

set_option maxHeartbeats 16000000 in
theorem rinsert_any (a : Option Addr) (n c : Nat) (l : List Rw) (x0 x1 x2 x3 m0 m1 : Int) (w : World) (hl : RRow w a n c l) (hk : ∀ r ∈ l, rok r) (hx : rok (x0, x1, x2, x3, m0, m1)) (hn : n ≤ 1000) :
    Calls Try.prog 35 #[.slice a n c, .agg #[.int .u8 x0, .int .u8 x1, .int .u8 x2, .int .u8 x3, .int .i64 m0, .int .i64 m1]] w fun e w' => (∃ g cap, e = .returned (.slice (some ⟨g, 0, none⟩) (n + 1) cap) ∧ RRow w' (some ⟨g, 0, none⟩) (n + 1) cap (insr (x0, x1, x2, x3, m0, m1) l)) ∧ Below w.heap.size w w' := by
  have HL := hid hl
  have HK := hid hk
  have HX := hid hx
  have EL := hid hl.1
  have l2 : n ≤ 9223372036854775807 := by omega
  have R0 : Hid (Below w.heap.size w (w.alloc (.cells #[.int .u8 x0, .int .u8 x1, .int .u8 x2, .int .u8 x3, .int .i64 m0, .int .i64 m1] 33)) ∧ (w.alloc (.cells #[.int .u8 x0, .int .u8 x1, .int .u8 x2, .int .u8 x3, .int .i64 m0, .int .i64 m1] 33)).heap[w.heap.size]? = some (.cells #[.int .u8 x0, .int .u8 x1, .int .u8 x2, .int .u8 x3, .int .i64 m0, .int .i64 m1] 33)) := hid ⟨(Below.refl _ _).alloc (Nat.le_refl _) _, heap_alloc_new _ _⟩
  clear hl hk hx
  go_enter Try.func35, Try.ntmps35
  go_wp2
  go_loopw [5] (fun i wr => ∃ k : Nat, k ≤ n ∧ i = .int .i64 k ∧ Hid (Below w.heap.size w wr ∧ wr.heap[w.heap.size]? = some (.cells #[.int .u8 x0, .int .u8 x1, .int .u8 x2, .int .u8 x3, .int .i64 m0, .int .i64 m1] 33)) ∧ Hid (∀ j x, j < k → l[j]? = some x → rlt (x0, x1, x2, x3, m0, m1) x = false)) (fun i _ => n - (intOf i).toNat)
  case atStart => exact ⟨0, by omega, rfl, R0, hid (fun j x hj => by omega)⟩
  case round =>
    obtain ⟨k, hkn, rfl, RW, HS⟩ := hrel
    have hk0 : (0 : Int) ≤ (k : Int) := by omega
    have hkn' : (k : Int) ≤ (n : Int) := by omega
    obtain ⟨c0, c1, c2, c3, c4, c5⟩ := box6 RW.out.2
    by_cases hlt : k < n
    · have hki : (k : Int) < (n : Int) := by omega
      obtain ⟨b, off, y0, y1, y2, y3, n0, n1, rfl, hb, hr, p0, p1, p2, p3, p4, p5⟩ := HL.out.pick RW.out.1 hlt
      have HR := hid hr
      have HY := hid (HK.out _ (List.mem_of_getElem? hr))
      have hbw : b < wr.heap.size := Nat.lt_of_lt_of_le hb RW.out.1.size
      have KS : Hid (∀ x, Below wr.heap.size wr x → Below wr.heap.size wr x ∧ (x.cell? ⟨w.heap.size, 0, none⟩ = some (.int .u8 x0) ∧ x.cell? ⟨w.heap.size, 1, none⟩ = some (.int .u8 x1) ∧ x.cell? ⟨w.heap.size, 2, none⟩ = some (.int .u8 x2) ∧ x.cell? ⟨w.heap.size, 3, none⟩ = some (.int .u8 x3) ∧ x.cell? ⟨w.heap.size, 4, none⟩ = some (.int .i64 m0) ∧ x.cell? ⟨w.heap.size, 5, none⟩ = some (.int .i64 m1)) ∧ x.cell? ⟨b, off + k * 6, none⟩ = some (.int .u8 y0) ∧ x.cell? ⟨b, off + k * 6 + 1, none⟩ = some (.int .u8 y1) ∧ x.cell? ⟨b, off + k * 6 + 2, none⟩ = some (.int .u8 y2) ∧ x.cell? ⟨b, off + k * 6 + 3, none⟩ = some (.int .u8 y3) ∧ x.cell? ⟨b, off + k * 6 + 4, none⟩ = some (.int .i64 n0) ∧ x.cell? ⟨b, off + k * 6 + 5, none⟩ = some (.int .i64 n1)) := hid (fun x h => ⟨h, box6 (keep_blk RW.out.2 h), ((bcell h).1 _ _ hbw).trans p0, ((bcell h).1 _ _ hbw).trans p1, ((bcell h).1 _ _ hbw).trans p2, ((bcell h).1 _ _ hbw).trans p3, ((bcell h).1 _ _ hbw).trans p4, ((bcell h).1 _ _ hbw).trans p5⟩)
      clear hr p0 p1 p2 p3 p4 p5
      cases hL : rlt (x0, x1, x2, x3, m0, m1) (y0, y1, y2, y3, n0, n1) with
      | false =>
        have EE := hid hL
        clear hL
        go_wp2
        go_region_held3 (fun x => Below wr.heap.size wr x ∧ (x.cell? ⟨w.heap.size, 0, none⟩ = some (.int .u8 x0) ∧ x.cell? ⟨w.heap.size, 1, none⟩ = some (.int .u8 x1) ∧ x.cell? ⟨w.heap.size, 2, none⟩ = some (.int .u8 x2) ∧ x.cell? ⟨w.heap.size, 3, none⟩ = some (.int .u8 x3) ∧ x.cell? ⟨w.heap.size, 4, none⟩ = some (.int .i64 m0) ∧ x.cell? ⟨w.heap.size, 5, none⟩ = some (.int .i64 m1)) ∧ x.cell? ⟨b, off + k * 6, none⟩ = some (.int .u8 y0) ∧ x.cell? ⟨b, off + k * 6 + 1, none⟩ = some (.int .u8 y1) ∧ x.cell? ⟨b, off + k * 6 + 2, none⟩ = some (.int .u8 y2) ∧ x.cell? ⟨b, off + k * 6 + 3, none⟩ = some (.int .u8 y3) ∧ x.cell? ⟨b, off + k * 6 + 4, none⟩ = some (.int .i64 n0) ∧ x.cell? ⟨b, off + k * 6 + 5, none⟩ = some (.int .i64 n1))
          (first | assumption | exact keep_drew KS | exact keep_step (by assumption) (by assumption) KS)
          (first | (go_at_call 14; refine (rless_m x0 x1 x2 x3 m0 m1 y0 y1 y2 y3 n0 n1 false _ HX.out HY.out EE).mono ?_; rintro e w5 ⟨rfl, hb5⟩))
        have B5 : Hid (Below wr.heap.size wr w5) := hid (undrew hb5)
        clear hb5
        go_wp2
        go_roundw
        case rel =>
          refine ⟨k + 1, by omega, by go_num, hid ⟨bt RW.out.1 B5.out, keep_blk RW.out.2 B5.out⟩, hid (fun j x hj hx => ?_)⟩
          by_cases hjk : j = k
          · subst hjk; rw [HR.out] at hx; cases hx; exact EE.out
          · exact HS.out j x (by omega) hx
        case measure => simp [intOf]; omega
      | true =>
        have EE := hid hL
        clear hL
        go_wp2
        go_region_held3 (fun x => Below wr.heap.size wr x ∧ (x.cell? ⟨w.heap.size, 0, none⟩ = some (.int .u8 x0) ∧ x.cell? ⟨w.heap.size, 1, none⟩ = some (.int .u8 x1) ∧ x.cell? ⟨w.heap.size, 2, none⟩ = some (.int .u8 x2) ∧ x.cell? ⟨w.heap.size, 3, none⟩ = some (.int .u8 x3) ∧ x.cell? ⟨w.heap.size, 4, none⟩ = some (.int .i64 m0) ∧ x.cell? ⟨w.heap.size, 5, none⟩ = some (.int .i64 m1)) ∧ x.cell? ⟨b, off + k * 6, none⟩ = some (.int .u8 y0) ∧ x.cell? ⟨b, off + k * 6 + 1, none⟩ = some (.int .u8 y1) ∧ x.cell? ⟨b, off + k * 6 + 2, none⟩ = some (.int .u8 y2) ∧ x.cell? ⟨b, off + k * 6 + 3, none⟩ = some (.int .u8 y3) ∧ x.cell? ⟨b, off + k * 6 + 4, none⟩ = some (.int .i64 n0) ∧ x.cell? ⟨b, off + k * 6 + 5, none⟩ = some (.int .i64 n1))
          (first | assumption | exact keep_drew KS | exact keep_step (by assumption) (by assumption) KS)
          (first | (go_at_call 14; refine (rless_m x0 x1 x2 x3 m0 m1 y0 y1 y2 y3 n0 n1 true _ HX.out HY.out EE).mono ?_; rintro e w5 ⟨rfl, hb5⟩))
        have B5 : Hid (Below wr.heap.size wr w5) := hid (undrew hb5)
        clear hb5
        have STOP : Hid (∀ x, l[k]? = some x → rlt (x0, x1, x2, x3, m0, m1) x = true) := hid (fun x hx => by rw [HR.out] at hx; cases hx; exact EE.out)
        have RV : Hid (Below w.heap.size w w5 ∧ w5.heap[w.heap.size]? = some (.cells #[.int .u8 x0, .int .u8 x1, .int .u8 x2, .int .u8 x3, .int .i64 m0, .int .i64 m1] 33)) := hid ⟨bt RW.out.1 B5.out, keep_blk RW.out.2 B5.out⟩
        clear KS RW B5 c0 c1 c2 c3 c4 c5 HR HY EE
        obtain ⟨hsH, hrH⟩ := firstR (HL.out.below RV.out.1) k (by omega)
        obtain ⟨A, hsL, hrL⟩ := restR (HL.out.below RV.out.1) k (by omega)
        have RH := hid hrH
        have RL := hid hrL
        clear hrH hrL
        have hsz := heap_lt RV.out.2
        have KS : Hid (∀ x, Below w5.heap.size w5 x → Below w5.heap.size w5 x ∧ (x.cell? ⟨w.heap.size, 0, none⟩ = some (.int .u8 x0) ∧ x.cell? ⟨w.heap.size, 1, none⟩ = some (.int .u8 x1) ∧ x.cell? ⟨w.heap.size, 2, none⟩ = some (.int .u8 x2) ∧ x.cell? ⟨w.heap.size, 3, none⟩ = some (.int .u8 x3) ∧ x.cell? ⟨w.heap.size, 4, none⟩ = some (.int .i64 m0) ∧ x.cell? ⟨w.heap.size, 5, none⟩ = some (.int .i64 m1))) := hid (fun x h => ⟨h, box6 (keep_blk RV.out.2 h)⟩)
        have HKE : Hid (∀ x, Below w5.heap.size w5 x → w5.heap.size ≤ x.heap.size) := hid fun x h => h.size
        go_upto_region 4 with fail
        go_region_held3 (fun x => Below w5.heap.size w5 x ∧ (x.cell? ⟨w.heap.size, 0, none⟩ = some (.int .u8 x0) ∧ x.cell? ⟨w.heap.size, 1, none⟩ = some (.int .u8 x1) ∧ x.cell? ⟨w.heap.size, 2, none⟩ = some (.int .u8 x2) ∧ x.cell? ⟨w.heap.size, 3, none⟩ = some (.int .u8 x3) ∧ x.cell? ⟨w.heap.size, 4, none⟩ = some (.int .i64 m0) ∧ x.cell? ⟨w.heap.size, 5, none⟩ = some (.int .i64 m1)))
          (first | assumption | exact keep_drew KS | exact KS.out _ (Hid.out (by assumption)) | exact kr_alloc (by assumption) KS)
          (first
            | (refine step_append_rn _ (by rfl) (.tmp 21) (.tmp 24) (by rfl) w5.heap.size _ 0 0 [] (by rfl) (by first | exact rown_at _ _ _ (by first | rfl | simp) (by first | exact Nat.le_refl _ | simp) | exact (rown_at _ _ _ (by first | rfl | simp) (by first | exact Nat.le_refl _ | simp)).alloc _) _ k c (l.take k) (by rfl) (RH.out.below (And.left (by assumption))) (by omega) (HKE.out _ (And.left (by assumption))) k (l.take k) (by omega) rfl ?_; intro g16 cap16 w16 ho16 hg16; have O16 : Hid (w16.ownsRow w5.heap.size 33 6 (.slice (some ⟨g16, 0, none⟩) k cap16) k (rcells (l.take k))) := hid ho16; have B16 : Hid (Below w5.heap.size w5 w16) := hid (kr_grown (And.left (by assumption)) hg16 (by first | exact Nat.le_refl _ | simp)); (try (have HZ3 : Hid (w16.heap[w5.heap.size + 1]? = some (.cells #[.int .u8 x0, .int .u8 x1, .int .u8 x2, .int .u8 x3, .int .i64 m0, .int .i64 m1] 33)) := hid (kr_block hg16 (pairR1 w5 _ _) (by omega)))); (try (have HZ4 : Hid (w16.heap[w5.heap.size]? = some (.cells #[.int .u8 x0, .int .u8 x1, .int .u8 x2, .int .u8 x3, .int .i64 m0, .int .i64 m1] 33)) := hid (kr_block hg16 (pairR2 w5 _ _) (by omega)))); clear ho16 hg16)
            | (refine step_append_rn _ (by rfl) (.tmp 25) (.tmp 27) (by rfl) w5.heap.size g16 k cap16 (l.take k) (by rfl) (by first | exact O16.out.alloc _ | exact O16.out) _ 1 1 [(x0, x1, x2, x3, m0, m1)] (by rfl) (by first | exact rrow_heap (r := (x0, x1, x2, x3, m0, m1)) (heap_alloc_new _ _) | exact rrow_heap (r := (x0, x1, x2, x3, m0, m1)) HZ3.out | exact rrow_heap (r := (x0, x1, x2, x3, m0, m1)) HZ4.out) (by omega) (HKE.out _ (And.left (by assumption))) (k + 1) (l.take k ++ [(x0, x1, x2, x3, m0, m1)]) rfl rfl ?_; intro g17 cap17 w17 ho17 hg17; have O17 : Hid (w17.ownsRow w5.heap.size 33 6 (.slice (some ⟨g17, 0, none⟩) (k + 1) cap17) (k + 1) (rcells (l.take k ++ [(x0, x1, x2, x3, m0, m1)]))) := hid ho17; have B17 : Hid (Below w5.heap.size w5 w17) := hid (kr_grown (And.left (by assumption)) hg17 (O16.out.lt g16 rfl).1); clear ho17 hg17)
            | (refine step_append_rn _ (by rfl) (.tmp 28) (.tmp 31) (by rfl) w5.heap.size g17 (k + 1) cap17 (l.take k ++ [(x0, x1, x2, x3, m0, m1)]) (by rfl) O17.out A (n - k) (c - k) (l.drop k) (by rfl) (RL.out.below (And.left (by assumption))) (by omega) (HKE.out _ (And.left (by assumption))) (n + 1) (insr (x0, x1, x2, x3, m0, m1) l) (by omega) (insr_at (x0, x1, x2, x3, m0, m1) l k (by have := EL.out; omega) HS.out STOP.out) ?_; intro g18 cap18 w18 ho18 hg18; have O18 : Hid (w18.ownsRow w5.heap.size 33 6 (.slice (some ⟨g18, 0, none⟩) (n + 1) cap18) (n + 1) (rcells (insr (x0, x1, x2, x3, m0, m1) l))) := hid ho18; have B18 : Hid (Below w5.heap.size w5 w18) := hid (kr_grown (And.left (by assumption)) hg18 (O17.out.lt g17 rfl).1); clear ho18 hg18))
        all_goals
          go_wp2
          go_ret
          exact ⟨⟨g18, cap18, rfl, own_rrow O18.out⟩, bt RV.out.1 B18.out⟩
    · have hkf : decide ((k : Int) < (n : Int)) = false := decide_eq_false (by omega)
      have KS : Hid (∀ x, Below wr.heap.size wr x → Below wr.heap.size wr x ∧ (x.cell? ⟨w.heap.size, 0, none⟩ = some (.int .u8 x0) ∧ x.cell? ⟨w.heap.size, 1, none⟩ = some (.int .u8 x1) ∧ x.cell? ⟨w.heap.size, 2, none⟩ = some (.int .u8 x2) ∧ x.cell? ⟨w.heap.size, 3, none⟩ = some (.int .u8 x3) ∧ x.cell? ⟨w.heap.size, 4, none⟩ = some (.int .i64 m0) ∧ x.cell? ⟨w.heap.size, 5, none⟩ = some (.int .i64 m1))) := hid (fun x h => ⟨h, box6 (keep_blk RW.out.2 h)⟩)
      have STOP : Hid (∀ x, l[k]? = some x → rlt (x0, x1, x2, x3, m0, m1) x = true) := hid (fun x hx => by have := (List.getElem?_eq_some_iff.1 hx).1; have := EL.out; omega)
      go_wp2
      go_quiet (fail)
      have RV : Hid (Below w.heap.size w (wr.drewN nq) ∧ (wr.drewN nq).heap[w.heap.size]? = some (.cells #[.int .u8 x0, .int .u8 x1, .int .u8 x2, .int .u8 x3, .int .i64 m0, .int .i64 m1] 33)) := hid ⟨⟨RW.out.1.os, RW.out.1.tape, RW.out.1.output, RW.out.1.size, RW.out.1.block⟩, RW.out.2⟩
      generalize wr.drewN nq = w5 at RV ⊢
      clear KS RW c0 c1 c2 c3 c4 c5
      obtain ⟨hsH, hrH⟩ := firstR (HL.out.below RV.out.1) k (by omega)
      obtain ⟨A, hsL, hrL⟩ := restR (HL.out.below RV.out.1) k (by omega)
      have RH := hid hrH
      have RL := hid hrL
      clear hrH hrL
      have hsz := heap_lt RV.out.2
      have KS : Hid (∀ x, Below w5.heap.size w5 x → Below w5.heap.size w5 x ∧ (x.cell? ⟨w.heap.size, 0, none⟩ = some (.int .u8 x0) ∧ x.cell? ⟨w.heap.size, 1, none⟩ = some (.int .u8 x1) ∧ x.cell? ⟨w.heap.size, 2, none⟩ = some (.int .u8 x2) ∧ x.cell? ⟨w.heap.size, 3, none⟩ = some (.int .u8 x3) ∧ x.cell? ⟨w.heap.size, 4, none⟩ = some (.int .i64 m0) ∧ x.cell? ⟨w.heap.size, 5, none⟩ = some (.int .i64 m1))) := hid (fun x h => ⟨h, box6 (keep_blk RV.out.2 h)⟩)
      have HKE : Hid (∀ x, Below w5.heap.size w5 x → w5.heap.size ≤ x.heap.size) := hid fun x h => h.size
      go_upto_region 4 with fail
      go_region_held3 (fun x => Below w5.heap.size w5 x ∧ (x.cell? ⟨w.heap.size, 0, none⟩ = some (.int .u8 x0) ∧ x.cell? ⟨w.heap.size, 1, none⟩ = some (.int .u8 x1) ∧ x.cell? ⟨w.heap.size, 2, none⟩ = some (.int .u8 x2) ∧ x.cell? ⟨w.heap.size, 3, none⟩ = some (.int .u8 x3) ∧ x.cell? ⟨w.heap.size, 4, none⟩ = some (.int .i64 m0) ∧ x.cell? ⟨w.heap.size, 5, none⟩ = some (.int .i64 m1)))
        (first | assumption | exact keep_drew KS | exact KS.out _ (Hid.out (by assumption)) | exact kr_alloc (by assumption) KS)
        (first
          | (refine step_append_rn _ (by rfl) (.tmp 21) (.tmp 24) (by rfl) w5.heap.size _ 0 0 [] (by rfl) (by first | exact rown_at _ _ _ (by first | rfl | simp) (by first | exact Nat.le_refl _ | simp) | exact (rown_at _ _ _ (by first | rfl | simp) (by first | exact Nat.le_refl _ | simp)).alloc _) _ k c (l.take k) (by rfl) (RH.out.below (And.left (by assumption))) (by omega) (HKE.out _ (And.left (by assumption))) k (l.take k) (by omega) rfl ?_; intro g16 cap16 w16 ho16 hg16; have O16 : Hid (w16.ownsRow w5.heap.size 33 6 (.slice (some ⟨g16, 0, none⟩) k cap16) k (rcells (l.take k))) := hid ho16; have B16 : Hid (Below w5.heap.size w5 w16) := hid (kr_grown (And.left (by assumption)) hg16 (by first | exact Nat.le_refl _ | simp)); (try (have HZ3 : Hid (w16.heap[w5.heap.size + 1]? = some (.cells #[.int .u8 x0, .int .u8 x1, .int .u8 x2, .int .u8 x3, .int .i64 m0, .int .i64 m1] 33)) := hid (kr_block hg16 (pairR1 w5 _ _) (by omega)))); (try (have HZ4 : Hid (w16.heap[w5.heap.size]? = some (.cells #[.int .u8 x0, .int .u8 x1, .int .u8 x2, .int .u8 x3, .int .i64 m0, .int .i64 m1] 33)) := hid (kr_block hg16 (pairR2 w5 _ _) (by omega)))); clear ho16 hg16)
          | (refine step_append_rn _ (by rfl) (.tmp 25) (.tmp 27) (by rfl) w5.heap.size g16 k cap16 (l.take k) (by rfl) (by first | exact O16.out.alloc _ | exact O16.out) _ 1 1 [(x0, x1, x2, x3, m0, m1)] (by rfl) (by first | exact rrow_heap (r := (x0, x1, x2, x3, m0, m1)) (heap_alloc_new _ _) | exact rrow_heap (r := (x0, x1, x2, x3, m0, m1)) HZ3.out | exact rrow_heap (r := (x0, x1, x2, x3, m0, m1)) HZ4.out) (by omega) (HKE.out _ (And.left (by assumption))) (k + 1) (l.take k ++ [(x0, x1, x2, x3, m0, m1)]) rfl rfl ?_; intro g17 cap17 w17 ho17 hg17; have O17 : Hid (w17.ownsRow w5.heap.size 33 6 (.slice (some ⟨g17, 0, none⟩) (k + 1) cap17) (k + 1) (rcells (l.take k ++ [(x0, x1, x2, x3, m0, m1)]))) := hid ho17; have B17 : Hid (Below w5.heap.size w5 w17) := hid (kr_grown (And.left (by assumption)) hg17 (O16.out.lt g16 rfl).1); clear ho17 hg17)
          | (refine step_append_rn _ (by rfl) (.tmp 28) (.tmp 31) (by rfl) w5.heap.size g17 (k + 1) cap17 (l.take k ++ [(x0, x1, x2, x3, m0, m1)]) (by rfl) O17.out A (n - k) (c - k) (l.drop k) (by rfl) (RL.out.below (And.left (by assumption))) (by omega) (HKE.out _ (And.left (by assumption))) (n + 1) (insr (x0, x1, x2, x3, m0, m1) l) (by omega) (insr_at (x0, x1, x2, x3, m0, m1) l k (by have := EL.out; omega) HS.out STOP.out) ?_; intro g18 cap18 w18 ho18 hg18; have O18 : Hid (w18.ownsRow w5.heap.size 33 6 (.slice (some ⟨g18, 0, none⟩) (n + 1) cap18) (n + 1) (rcells (insr (x0, x1, x2, x3, m0, m1) l))) := hid ho18; have B18 : Hid (Below w5.heap.size w5 w18) := hid (kr_grown (And.left (by assumption)) hg18 (O17.out.lt g17 rfl).1); clear ho18 hg18))
      all_goals
        go_wp2
        go_ret
        exact ⟨⟨g18, cap18, rfl, own_rrow O18.out⟩, bt RV.out.1 B18.out⟩

end Go.Proofs.Ytikgbcdmeikjfaa

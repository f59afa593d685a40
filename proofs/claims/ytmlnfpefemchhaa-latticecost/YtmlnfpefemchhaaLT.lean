/-
  What a node covers lies one above it; a way of covers to each node: the walk of the law LatticeCovers.
  Conditions: as each theorem states them.
-/
import Derived.Test.YtmlnfpefemchhaaLTm
import Derived.Deep.RegionHeld
import Derived.Deep.Cut
import Derived.Deep.DeepCutAuto
import Derived.Deep.CutRange
namespace Go.Proofs.Ytmlnfpefemchhaa
open Go.ChangeShapes Go.WideShapes Go.ChangeAt Go.RowKit
set_option linter.unusedVariables false
set_option linter.unusedSimpArgs false

theorem n2_all {w wr : World} {s u : Value} {v0 v1 v2 v3 : Int} (h : N2 w wr s u [v0, v1, v2, v3]) : (wr.cell? ⟨w.heap.size, 0, none⟩ = some s ∧ wr.cell? ⟨w.heap.size, 1, none⟩ = some u) ∧ wr.cell? ⟨w.heap.size + 1, 0, none⟩ = some (.int .u8 v0) ∧ wr.cell? ⟨w.heap.size + 1, 1, none⟩ = some (.int .u8 v1) ∧ wr.cell? ⟨w.heap.size + 1, 2, none⟩ = some (.int .u8 v2) ∧ wr.cell? ⟨w.heap.size + 1, 3, none⟩ = some (.int .u8 v3) :=
  ⟨box_two h.2.1, box4 h.2.2⟩
/-- Where a node of a way stands. -/
def Way (ds : Dims) (M v0 v1 v2 v3 y0 y1 y2 y3 : Int) : Prop := nodeC ds M y0 y1 y2 y3 = true ∧ bel y0 y1 y2 y3 v0 v1 v2 v3 = true ∧ ∀ x ∈ [y0, y1, y2, y3], U8 x

set_option maxHeartbeats 16000000 in
set_option maxRecDepth 100000 in
theorem covers5_walk (a : Option Addr) (n c : Nat) (ds : Dims) (M : Int) (v0 v1 v2 v3 : Int) (w : World) (hc : Cat w a n c ds) (hM : I64 M) (hV : ∀ x ∈ [v0, v1, v2, v3], U8 x) :
    Calls Try.prog 7 #[.agg #[.slice a n c, .int .i64 M], .agg #[.int .u8 v0, .int .u8 v1, .int .u8 v2, .int .u8 v3]] w fun e w' => e = .returned (.bool true) ∧ Below w.heap.size w w' := by
  have HC : Hid (Cat w a n c ds) := hc
  have HM : Hid (I64 M) := hM
  have HV : Hid (∀ x ∈ [v0, v1, v2, v3], U8 x) := hV
  have NX : Hid (N2 w _ (.slice a n c) (.int .i64 M) [v0, v1, v2, v3]) := n2_new w (.slice a n c) (.int .i64 M) v0 v1 v2 v3
  have eqn := eqN
  clear hc hM hV
  cases hn : nodeC ds M v0 v1 v2 v3 with
  | false =>
    have HN := hid hn
    clear hn
    go_enter Try.func7, Try.ntmps7
    go_wp2_with (first
      | (go_at_call 27; refine (rlgood_m _ _ _ _ _ _ _ _ _ _ _ (HC.out.below NX.out.1) HM.out HV.out HN).mono ?_; rintro e w1 ⟨rfl, hb1⟩)
      | (go_at_call 15; refine (wakes5 _).mono ?_; rintro e w9 ⟨rfl, hb9⟩))
    go_ret
    exact ⟨rfl, bt (bt NX.out.1 hb1) hb9⟩
  | true =>
    have HN := hid hn
    have HR16 := hid (rnk_le hn)
    have HR0 := hid (rnk_ge HV.out)
    clear hn
    go_enter Try.func7, Try.ntmps7
    go_wp2_with (first
      | (go_at_call 27; refine (rlgood_m _ _ _ _ _ _ _ _ _ _ _ (HC.out.below NX.out.1) HM.out HV.out HN).mono ?_; rintro e w1 ⟨rfl, hb1⟩; have NX1 := hid (NX.out.step hb1); obtain ⟨⟨i0, i1⟩, i2, i3, i4, i5⟩ := n2_all NX1.out; clear hb1)
      | (go_at_call 31; refine (covers_row _ _ _ _ _ _ _ _ _ _ (HC.out.below NX1.out.1) HM.out HV.out).mono ?_; rintro e w2 ⟨⟨a1, n1, c1, rfl, nr1⟩, hb2⟩; have NRU := hid nr1; have NX2 := hid (NX1.out.step hb2); have HN1 := hid nr1.1; have hn4 : n1 ≤ 4 := (by have := covL_len ds M v0 v1 v2 v3; have := HN1.out; omega); clear nr1 hb2))
    go_loopg [6] n1 (fun gk vi wr => ∃ k : Nat, vi = .int .i64 k ∧ Hid (gk + k = n1) ∧ Hid (Below w2.heap.size w2 wr))
    case atStart => exact ⟨0, rfl, hid (by omega), hid (Below.refl _ _)⟩
    case round =>
      obtain ⟨k, rfl, HK, HW⟩ := hrel
      by_cases hk : k < n1
      · have hkn : (k : Int) < (n1 : Int) := by omega
        obtain ⟨b', off', ea, hb0, x0, x1, x2, x3, hx, q0, q1, q2, q3⟩ := NRU.out.get HW.out hk
        subst ea
        have hb0w : b' < wr.heap.size := Nat.lt_of_lt_of_le hb0 HW.out.size
        obtain ⟨hx1, hx2, hx3, hx4⟩ := cov_mem HN.out HV.out (List.mem_of_getElem? hx)
        have HNX := hid hx1
        have HX8 := hid hx4
        have rx := rnk_ge hx4
        have rv := HR0.out
        obtain ⟨rx1, rx2⟩ := rx
        obtain ⟨rv1, rv2⟩ := rv
        have hwv : IntKind.i64.wrap (rnk v0 v1 v2 v3 + 1) = rnk v0 v1 v2 v3 + 1 := IntWalk.i64_in _ (by omega)
        have HCR := hid (HC.out.below (NX2.out.step HW.out).1)
        clear hx hx1 hx4
        have KS7 : Hid (∀ x, Below wr.heap.size wr x → Below wr.heap.size wr x ∧ x.cell? ⟨w.heap.size, 0, none⟩ = some (.slice a n c) ∧ x.cell? ⟨w.heap.size, 1, none⟩ = some (.int .i64 M) ∧ x.cell? ⟨w.heap.size + 1, 0, none⟩ = some (.int .u8 v0) ∧ x.cell? ⟨w.heap.size + 1, 1, none⟩ = some (.int .u8 v1) ∧ x.cell? ⟨w.heap.size + 1, 2, none⟩ = some (.int .u8 v2) ∧ x.cell? ⟨w.heap.size + 1, 3, none⟩ = some (.int .u8 v3) ∧ x.cell? ⟨b', off' + k * 4, none⟩ = some (.int .u8 x0) ∧ x.cell? ⟨b', off' + k * 4 + 1, none⟩ = some (.int .u8 x1) ∧ x.cell? ⟨b', off' + k * 4 + 2, none⟩ = some (.int .u8 x2) ∧ x.cell? ⟨b', off' + k * 4 + 3, none⟩ = some (.int .u8 x3)) := by
          refine hid fun x hX => ?_
          obtain ⟨⟨r0, r1⟩, s0, s1, s2, s3⟩ := n2_all (NX2.out.step (bt HW.out hX))
          exact ⟨hX, r0, r1, s0, s1, s2, s3, ((bcell hX).1 _ _ hb0w).trans q0, ((bcell hX).1 _ _ hb0w).trans q1, ((bcell hX).1 _ _ hb0w).trans q2, ((bcell hX).1 _ _ hb0w).trans q3⟩
        go_wp2
        refine wp_region_noPanic ?_
        refine wp_region_held_drew (S := fun x => Below wr.heap.size wr x ∧ x.cell? ⟨w.heap.size, 0, none⟩ = some (.slice a n c) ∧ x.cell? ⟨w.heap.size, 1, none⟩ = some (.int .i64 M) ∧ x.cell? ⟨w.heap.size + 1, 0, none⟩ = some (.int .u8 v0) ∧ x.cell? ⟨w.heap.size + 1, 1, none⟩ = some (.int .u8 v1) ∧ x.cell? ⟨w.heap.size + 1, 2, none⟩ = some (.int .u8 v2) ∧ x.cell? ⟨w.heap.size + 1, 3, none⟩ = some (.int .u8 v3) ∧ x.cell? ⟨b', off' + k * 4, none⟩ = some (.int .u8 x0) ∧ x.cell? ⟨b', off' + k * 4 + 1, none⟩ = some (.int .u8 x1) ∧ x.cell? ⟨b', off' + k * 4 + 2, none⟩ = some (.int .u8 x2) ∧ x.cell? ⟨b', off' + k * 4 + 3, none⟩ = some (.int .u8 x3)) (by kernel_rfl) (keep_drew KS7) (fun hHeld => ?_)
        refine wpAnyH_take (i := 0) (v := ?_) (by simp only [List.getElem?_toArray, List.getElem?_cons_succ, List.getElem?_cons_zero]; exact rfl) (by kernel_rfl) (by kernel_rfl) (by kernel_rfl) (fun _ _ _ h => h) (Or.inl ⟨by rfl, ?_⟩) (by assumption) ?_
        rotate_left
        · intro w hSw
          try dsimp only at hSw
          go_simp
          try with_reducible rfl
        try simp only [Act.put, List.setIfInBounds_toArray, List.set_cons_zero, List.set_cons_succ]
        refine wpAnyH_take (i := 1) (v := ?_) (by simp only [List.getElem?_toArray, List.getElem?_cons_succ, List.getElem?_cons_zero]; exact rfl) (by kernel_rfl) (by kernel_rfl) (by kernel_rfl) (fun _ _ _ h => h) (Or.inl ⟨by rfl, ?_⟩) (by assumption) ?_
        rotate_left
        · intro w hSw
          try dsimp only at hSw
          go_simp
          try with_reducible rfl
        try simp only [Act.put, List.setIfInBounds_toArray, List.set_cons_zero, List.set_cons_succ]
        refine wpAnyH_take (i := 2) (v := ?_) (by simp only [List.getElem?_toArray, List.getElem?_cons_succ, List.getElem?_cons_zero]; exact rfl) (by kernel_rfl) (by kernel_rfl) (by kernel_rfl) (fun _ _ _ h => h) (Or.inl ⟨by rfl, ?_⟩) (by assumption) ?_
        rotate_left
        · intro w hSw
          try dsimp only at hSw
          go_simp
          try with_reducible rfl
        try simp only [Act.put, List.setIfInBounds_toArray, List.set_cons_zero, List.set_cons_succ]
        refine wpAnyH_take (i := 3) (v := ?_) (by simp only [List.getElem?_toArray, List.getElem?_cons_succ, List.getElem?_cons_zero]; exact rfl) (by kernel_rfl) (by kernel_rfl) (by kernel_rfl) (fun _ _ _ h => h) (Or.inl ⟨by rfl, ?_⟩) (by assumption) ?_
        rotate_left
        · intro w hSw
          try dsimp only at hSw
          go_simp
          try with_reducible rfl
        try simp only [Act.put, List.setIfInBounds_toArray, List.set_cons_zero, List.set_cons_succ]
        refine wpAnyH_take (i := 4) (v := ?_) (by simp only [List.getElem?_toArray, List.getElem?_cons_succ, List.getElem?_cons_zero]; exact rfl) (by kernel_rfl) (by kernel_rfl) (by kernel_rfl) (fun _ _ _ h => h) (Or.inl ⟨by rfl, ?_⟩) (by assumption) ?_
        rotate_left
        · intro w hSw
          try dsimp only at hSw
          go_simp
          try with_reducible rfl
        try simp only [Act.put, List.setIfInBounds_toArray, List.set_cons_zero, List.set_cons_succ]
        refine wpAnyH_ready (rs := [5]) (by kernel_rfl) (by simp) ?_
        refine AllReadyH.cons (by simp only [List.getElem?_toArray, List.getElem?_cons_succ, List.getElem?_cons_zero]; exact rfl) (fun K hK => ?_) AllReadyH.nil
        go_simp
        (go_at_call 26; refine (lgood_m _ _ _ _ _ _ _ _ _ _ _ (HCR.out.below hHeld.1) HM.out HNX).mono ?_; rintro e w5 ⟨rfl, hb5⟩)
        refine hK.out _ _ (keep_step hb5 hHeld KS7) (fun hHeld2 => ?_)
        clear hK K hHeld
        have hHeld := hHeld2
        clear hHeld2
        try simp only [Act.put, List.setIfInBounds_toArray, List.set_cons_zero, List.set_cons_succ]
        refine wpAnyH_take (i := 6) (v := ?_) (by simp only [List.getElem?_toArray, List.getElem?_cons_succ, List.getElem?_cons_zero]; exact rfl) (by kernel_rfl) (by kernel_rfl) (by kernel_rfl) (fun _ _ _ h => h) (Or.inl ⟨by rfl, ?_⟩) (by assumption) ?_
        rotate_left
        · intro w hSw
          try dsimp only at hSw
          go_simp
          try with_reducible rfl
        try simp only [Act.put, List.setIfInBounds_toArray, List.set_cons_zero, List.set_cons_succ]
        refine wpAnyH_take (i := 7) (v := ?_) (by simp only [List.getElem?_toArray, List.getElem?_cons_succ, List.getElem?_cons_zero]; exact rfl) (by kernel_rfl) (by kernel_rfl) (by kernel_rfl) (fun _ _ _ h => h) (Or.inl ⟨by rfl, ?_⟩) (by assumption) ?_
        rotate_left
        · intro w hSw
          try dsimp only at hSw
          go_simp
          try with_reducible rfl
        try simp only [Act.put, List.setIfInBounds_toArray, List.set_cons_zero, List.set_cons_succ]
        refine wpAnyH_take (i := 8) (v := ?_) (by simp only [List.getElem?_toArray, List.getElem?_cons_succ, List.getElem?_cons_zero]; exact rfl) (by kernel_rfl) (by kernel_rfl) (by kernel_rfl) (fun _ _ _ h => h) (Or.inl ⟨by rfl, ?_⟩) (by assumption) ?_
        rotate_left
        · intro w hSw
          try dsimp only at hSw
          go_simp
          try with_reducible rfl
        try simp only [Act.put, List.setIfInBounds_toArray, List.set_cons_zero, List.set_cons_succ]
        refine wpAnyH_take (i := 9) (v := ?_) (by simp only [List.getElem?_toArray, List.getElem?_cons_succ, List.getElem?_cons_zero]; exact rfl) (by kernel_rfl) (by kernel_rfl) (by kernel_rfl) (fun _ _ _ h => h) (Or.inl ⟨by rfl, ?_⟩) (by assumption) ?_
        rotate_left
        · intro w hSw
          try dsimp only at hSw
          go_simp
          try with_reducible rfl
        try simp only [Act.put, List.setIfInBounds_toArray, List.set_cons_zero, List.set_cons_succ]
        refine wpAnyH_take (i := 10) (v := ?_) (by simp only [List.getElem?_toArray, List.getElem?_cons_succ, List.getElem?_cons_zero]; exact rfl) (by kernel_rfl) (by kernel_rfl) (by kernel_rfl) (fun _ _ _ h => h) (Or.inl ⟨by rfl, ?_⟩) (by assumption) ?_
        rotate_left
        · intro w hSw
          try dsimp only at hSw
          go_simp
          try with_reducible rfl
        try simp only [Act.put, List.setIfInBounds_toArray, List.set_cons_zero, List.set_cons_succ]
        refine wpAnyH_take (i := 11) (v := ?_) (by simp only [List.getElem?_toArray, List.getElem?_cons_succ, List.getElem?_cons_zero]; exact rfl) (by kernel_rfl) (by kernel_rfl) (by kernel_rfl) (fun _ _ _ h => h) (Or.inl ⟨by rfl, ?_⟩) (by assumption) ?_
        rotate_left
        · intro w hSw
          try dsimp only at hSw
          go_simp
          try with_reducible rfl
        try simp only [Act.put, List.setIfInBounds_toArray, List.set_cons_zero, List.set_cons_succ]
        refine wpAnyH_take (i := 12) (v := ?_) (by simp only [List.getElem?_toArray, List.getElem?_cons_succ, List.getElem?_cons_zero]; exact rfl) (by kernel_rfl) (by kernel_rfl) (by kernel_rfl) (fun _ _ _ h => h) (Or.inl ⟨by rfl, ?_⟩) (by assumption) ?_
        rotate_left
        · intro w hSw
          try dsimp only at hSw
          go_simp
          try with_reducible rfl
        try simp only [Act.put, List.setIfInBounds_toArray, List.set_cons_zero, List.set_cons_succ]
        refine wpAnyH_ready (rs := [13]) (by kernel_rfl) (by simp) ?_
        refine AllReadyH.cons (by simp only [List.getElem?_toArray, List.getElem?_cons_succ, List.getElem?_cons_zero]; exact rfl) (fun K hK => ?_) AllReadyH.nil
        go_simp
        (go_at_call 17; refine (below_any _ _ _ _ _ _ _ _ _).mono ?_; rintro e w5 ⟨rfl, hb5⟩)
        refine hK.out _ _ (keep_step hb5 hHeld KS7) (fun hHeld2 => ?_)
        clear hK K hHeld
        have hHeld := hHeld2
        clear hHeld2
        try simp only [Act.put, List.setIfInBounds_toArray, List.set_cons_zero, List.set_cons_succ]
        refine wpAnyH_take (i := 14) (v := ?_) (by simp only [List.getElem?_toArray, List.getElem?_cons_succ, List.getElem?_cons_zero]; exact rfl) (by kernel_rfl) (by kernel_rfl) (by kernel_rfl) (fun _ _ _ h => h) (Or.inl ⟨by rfl, ?_⟩) (by assumption) ?_
        rotate_left
        · intro w hSw
          try dsimp only at hSw
          go_simp
          try with_reducible rfl
        try simp only [Act.put, List.setIfInBounds_toArray, List.set_cons_zero, List.set_cons_succ]
        refine wpAnyH_take (i := 15) (v := ?_) (by simp only [List.getElem?_toArray, List.getElem?_cons_succ, List.getElem?_cons_zero]; exact rfl) (by kernel_rfl) (by kernel_rfl) (by kernel_rfl) (fun _ _ _ h => h) (Or.inl ⟨by rfl, ?_⟩) (by assumption) ?_
        rotate_left
        · intro w hSw
          try dsimp only at hSw
          go_simp
          try with_reducible rfl
        try simp only [Act.put, List.setIfInBounds_toArray, List.set_cons_zero, List.set_cons_succ]
        refine wpAnyH_take (i := 16) (v := ?_) (by simp only [List.getElem?_toArray, List.getElem?_cons_succ, List.getElem?_cons_zero]; exact rfl) (by kernel_rfl) (by kernel_rfl) (by kernel_rfl) (fun _ _ _ h => h) (Or.inl ⟨by rfl, ?_⟩) (by assumption) ?_
        rotate_left
        · intro w hSw
          try dsimp only at hSw
          go_simp
          try with_reducible rfl
        try simp only [Act.put, List.setIfInBounds_toArray, List.set_cons_zero, List.set_cons_succ]
        refine wpAnyH_take (i := 17) (v := ?_) (by simp only [List.getElem?_toArray, List.getElem?_cons_succ, List.getElem?_cons_zero]; exact rfl) (by kernel_rfl) (by kernel_rfl) (by kernel_rfl) (fun _ _ _ h => h) (Or.inl ⟨by rfl, ?_⟩) (by assumption) ?_
        rotate_left
        · intro w hSw
          try dsimp only at hSw
          go_simp
          try with_reducible rfl
        try simp only [Act.put, List.setIfInBounds_toArray, List.set_cons_zero, List.set_cons_succ]
        refine wpAnyH_take (i := 18) (v := ?_) (by simp only [List.getElem?_toArray, List.getElem?_cons_succ, List.getElem?_cons_zero]; exact rfl) (by kernel_rfl) (by kernel_rfl) (by kernel_rfl) (fun _ _ _ h => h) (Or.inl ⟨by rfl, ?_⟩) (by assumption) ?_
        rotate_left
        · intro w hSw
          try dsimp only at hSw
          go_simp
          try with_reducible rfl
        try simp only [Act.put, List.setIfInBounds_toArray, List.set_cons_zero, List.set_cons_succ]
        refine wpAnyH_take (i := 19) (v := ?_) (by simp only [List.getElem?_toArray, List.getElem?_cons_succ, List.getElem?_cons_zero]; exact rfl) (by kernel_rfl) (by kernel_rfl) (by kernel_rfl) (fun _ _ _ h => h) (Or.inl ⟨by rfl, ?_⟩) (by assumption) ?_
        rotate_left
        · intro w hSw
          try dsimp only at hSw
          go_simp
          try with_reducible rfl
        try simp only [Act.put, List.setIfInBounds_toArray, List.set_cons_zero, List.set_cons_succ]
        refine wpAnyH_take (i := 20) (v := ?_) (by simp only [List.getElem?_toArray, List.getElem?_cons_succ, List.getElem?_cons_zero]; exact rfl) (by kernel_rfl) (by kernel_rfl) (by kernel_rfl) (fun _ _ _ h => h) (Or.inl ⟨by rfl, ?_⟩) (by assumption) ?_
        rotate_left
        · intro w hSw
          try dsimp only at hSw
          go_simp
          try with_reducible rfl
        try simp only [Act.put, List.setIfInBounds_toArray, List.set_cons_zero, List.set_cons_succ]
        refine wpAnyH_take (i := 22) (v := ?_) (by simp only [List.getElem?_toArray, List.getElem?_cons_succ, List.getElem?_cons_zero]; exact rfl) (by kernel_rfl) (by kernel_rfl) (by kernel_rfl) (fun _ _ _ h => h) (Or.inl ⟨by rfl, ?_⟩) (by assumption) ?_
        rotate_left
        · intro w hSw
          try dsimp only at hSw
          go_simp
          try with_reducible rfl
        try simp only [Act.put, List.setIfInBounds_toArray, List.set_cons_zero, List.set_cons_succ]
        refine wpAnyH_ready (rs := [21]) (by kernel_rfl) (by simp) ?_
        refine AllReadyH.cons (by simp only [List.getElem?_toArray, List.getElem?_cons_succ, List.getElem?_cons_zero]; exact rfl) (fun K hK => ?_) AllReadyH.nil
        go_simp
        (go_at_call 23; refine (rank_any _ _ _ _ _ (by first | exact HX8.out | exact HV.out)).mono ?_; rintro e w5 ⟨rfl, hb5⟩)
        refine hK.out _ _ (keep_step hb5 hHeld KS7) (fun hHeld2 => ?_)
        clear hK K hHeld
        have hHeld := hHeld2
        clear hHeld2
        try simp only [Act.put, List.setIfInBounds_toArray, List.set_cons_zero, List.set_cons_succ]
        refine wpAnyH_ready (rs := [23]) (by kernel_rfl) (by simp) ?_
        refine AllReadyH.cons (by simp only [List.getElem?_toArray, List.getElem?_cons_succ, List.getElem?_cons_zero]; exact rfl) (fun K hK => ?_) AllReadyH.nil
        go_simp
        (go_at_call 23; refine (rank_any _ _ _ _ _ (by first | exact HX8.out | exact HV.out)).mono ?_; rintro e w5 ⟨rfl, hb5⟩)
        refine hK.out _ _ (keep_step hb5 hHeld KS7) (fun hHeld2 => ?_)
        clear hK K hHeld
        have hHeld := hHeld2
        clear hHeld2
        try simp only [Act.put, List.setIfInBounds_toArray, List.set_cons_zero, List.set_cons_succ]
        refine wpAnyH_take (i := 24) (v := ?_) (by simp only [List.getElem?_toArray, List.getElem?_cons_succ, List.getElem?_cons_zero]; exact rfl) (by kernel_rfl) (by kernel_rfl) (by kernel_rfl) (fun _ _ _ h => h) (Or.inl ⟨by rfl, ?_⟩) (by assumption) ?_
        rotate_left
        · intro w hSw
          try dsimp only at hSw
          go_simp
          try with_reducible rfl
        try simp only [Act.put, List.setIfInBounds_toArray, List.set_cons_zero, List.set_cons_succ]
        refine wpAnyH_take (i := 25) (v := ?_) (by simp only [List.getElem?_toArray, List.getElem?_cons_succ, List.getElem?_cons_zero]; exact rfl) (by kernel_rfl) (by kernel_rfl) (by kernel_rfl) (fun _ _ _ h => h) (Or.inl ⟨by rfl, ?_⟩) (by assumption) ?_
        rotate_left
        · intro w hSw
          try dsimp only at hSw
          go_simp
          try with_reducible rfl
        try simp only [Act.put, List.setIfInBounds_toArray, List.set_cons_zero, List.set_cons_succ]
        refine wpAnyH_take (i := 26) (v := ?_) (by simp only [List.getElem?_toArray, List.getElem?_cons_succ, List.getElem?_cons_zero]; exact rfl) (by kernel_rfl) (by kernel_rfl) (by kernel_rfl) (fun _ _ _ h => h) (Or.inl ⟨by rfl, ?_⟩) (by assumption) ?_
        rotate_left
        · intro w hSw
          try dsimp only at hSw
          go_simp
          try with_reducible rfl
        try simp only [Act.put, List.setIfInBounds_toArray, List.set_cons_zero, List.set_cons_succ]
        refine wpAnyH_done (by kernel_rfl) ?_ _
        refine NoPanic.normal ?_
        have HEND := hid (bt HW.out hHeld.1)
        clear hHeld KS7
        go_wp2
        go_roundg (n1 - (k + 1))
        case measure => have := HK.out; omega
        case rel => exact ⟨k + 1, by go_num, hid (by have := HK.out; omega), HEND⟩
      · have hkf : decide ((k : Int) < (n1 : Int)) = false := decide_eq_false (by omega)
        have NX3 := hid (NX2.out.step HW.out)
        go_wp2_with (go_at_call 16; refine (base_any _).mono ?_; rintro e w3 ⟨rfl, hb3⟩; have NX4 := hid (NX3.out.step hb3); clear hb3)
        have WY0 : Hid (Way ds M v0 v1 v2 v3 0 0 0 0) := hid ⟨node_base (nodeC_good HN.out), bel_base HV.out, u8_all0⟩
        have BB0 : Hid ((w3.alloc (.cells #[.int .u8 0, .int .u8 0, .int .u8 0, .int .u8 0] 36)).heap[w3.heap.size]? = some (.cells #[.int .u8 0, .int .u8 0, .int .u8 0, .int .u8 0] 36)) := hid (heap_alloc_new _ _)
        have BL0 : Hid (Below w3.heap.size w3 (w3.alloc (.cells #[.int .u8 0, .int .u8 0, .int .u8 0, .int .u8 0] 36))) := hid ((Below.refl _ _).alloc (Nat.le_refl _) _)
        go_loopg [7] (rnk v0 v1 v2 v3).toNat (fun gk vn wr => ∃ (y0 y1 y2 y3 : Int), vn = .int .i64 (rnk y0 y1 y2 y3) ∧ Hid (gk = (rnk v0 v1 v2 v3 - rnk y0 y1 y2 y3).toNat) ∧ Hid (Way ds M v0 v1 v2 v3 y0 y1 y2 y3) ∧ Hid (wr.heap[w3.heap.size]? = some (.cells #[.int .u8 y0, .int .u8 y1, .int .u8 y2, .int .u8 y3] 36)) ∧ Hid (Below w3.heap.size w3 wr))
        case atStart => exact ⟨0, 0, 0, 0, rfl, hid (by simp [rnk]), WY0, BB0, BL0⟩
        case round =>
          obtain ⟨y0, y1, y2, y3, rfl, HGK, WY, BB, BL⟩ := hrel
          rename World => W2
          have NX5 := hid (NX4.out.step BL.out)
          obtain ⟨⟨i0, i1⟩, i2, i3, i4, i5⟩ := n2_all NX5.out
          obtain ⟨j0, j1, j2, j3⟩ := box4 BB.out
          have hz3 := heap_lt BB.out
          by_cases he : (y0 = v0 ∧ y1 = v1 ∧ y2 = v2 ∧ y3 = v3)
          · obtain ⟨e0, e1, e2, e3⟩ := he
            replace e0 := e0.symm; replace e1 := e1.symm; replace e2 := e2.symm; replace e3 := e3.symm
            subst e0 e1 e2 e3
            have hr100 : rnk v0 v1 v2 v3 < 100 := by have := HR16.out; omega
            have hE := cov_empty HN.out
            rw [← HN1.out] at hE
            have HCR := hid (HC.out.below NX5.out.1)
            have KS19 : Hid (∀ x, Below W2.heap.size W2 x → Below W2.heap.size W2 x ∧ x.cell? ⟨w.heap.size, 0, none⟩ = some (.slice a n c) ∧ x.cell? ⟨w.heap.size, 1, none⟩ = some (.int .i64 M) ∧ x.cell? ⟨w.heap.size + 1, 0, none⟩ = some (.int .u8 v0) ∧ x.cell? ⟨w.heap.size + 1, 1, none⟩ = some (.int .u8 v1) ∧ x.cell? ⟨w.heap.size + 1, 2, none⟩ = some (.int .u8 v2) ∧ x.cell? ⟨w.heap.size + 1, 3, none⟩ = some (.int .u8 v3)) := by
              refine hid fun x hX => ?_
              obtain ⟨⟨r0, r1⟩, s0, s1, s2, s3⟩ := n2_all (NX5.out.step hX)
              exact ⟨hX, r0, r1, s0, s1, s2, s3⟩
            go_wp2
            refine wp_region_noPanic ?_
            refine wp_region_held_drew (S := fun x => Below W2.heap.size W2 x ∧ x.cell? ⟨w.heap.size, 0, none⟩ = some (.slice a n c) ∧ x.cell? ⟨w.heap.size, 1, none⟩ = some (.int .i64 M) ∧ x.cell? ⟨w.heap.size + 1, 0, none⟩ = some (.int .u8 v0) ∧ x.cell? ⟨w.heap.size + 1, 1, none⟩ = some (.int .u8 v1) ∧ x.cell? ⟨w.heap.size + 1, 2, none⟩ = some (.int .u8 v2) ∧ x.cell? ⟨w.heap.size + 1, 3, none⟩ = some (.int .u8 v3)) (by kernel_rfl) (keep_drew KS19) (fun hHeld => ?_)
            refine wpAnyH_take (i := 0) (v := ?_) (by simp only [List.getElem?_toArray, List.getElem?_cons_succ, List.getElem?_cons_zero]; exact rfl) (by kernel_rfl) (by kernel_rfl) (by kernel_rfl) (fun _ _ _ h => h) (Or.inl ⟨by rfl, ?_⟩) (by assumption) ?_
            rotate_left
            · intro w hSw
              try dsimp only at hSw
              go_simp
              try with_reducible rfl
            try simp only [Act.put, List.setIfInBounds_toArray, List.set_cons_zero, List.set_cons_succ]
            refine wpAnyH_take (i := 1) (v := ?_) (by simp only [List.getElem?_toArray, List.getElem?_cons_succ, List.getElem?_cons_zero]; exact rfl) (by kernel_rfl) (by kernel_rfl) (by kernel_rfl) (fun _ _ _ h => h) (Or.inl ⟨by rfl, ?_⟩) (by assumption) ?_
            rotate_left
            · intro w hSw
              try dsimp only at hSw
              go_simp
              try with_reducible rfl
            try simp only [Act.put, List.setIfInBounds_toArray, List.set_cons_zero, List.set_cons_succ]
            refine wpAnyH_ready (rs := [2]) (by kernel_rfl) (by simp) ?_
            refine AllReadyH.cons (by simp only [List.getElem?_toArray, List.getElem?_cons_succ, List.getElem?_cons_zero]; exact rfl) (fun K hK => ?_) AllReadyH.nil
            go_simp
            (go_at_call 23; refine (rank_any _ _ _ _ _ HV.out).mono ?_; rintro e w5 ⟨rfl, hb5⟩)
            refine hK.out _ _ (keep_step hb5 hHeld KS19) (fun hHeld2 => ?_)
            clear hK K hHeld
            have hHeld := hHeld2
            clear hHeld2
            try simp only [Act.put, List.setIfInBounds_toArray, List.set_cons_zero, List.set_cons_succ]
            refine wpAnyH_take (i := 3) (v := ?_) (by simp only [List.getElem?_toArray, List.getElem?_cons_succ, List.getElem?_cons_zero]; exact rfl) (by kernel_rfl) (by kernel_rfl) (by kernel_rfl) (fun _ _ _ h => h) (Or.inl ⟨by rfl, ?_⟩) (by assumption) ?_
            rotate_left
            · intro w hSw
              try dsimp only at hSw
              go_simp
              try with_reducible rfl
            try simp only [Act.put, List.setIfInBounds_toArray, List.set_cons_zero, List.set_cons_succ]
            refine wpAnyH_take (i := 4) (v := ?_) (by simp only [List.getElem?_toArray, List.getElem?_cons_succ, List.getElem?_cons_zero]; exact rfl) (by kernel_rfl) (by kernel_rfl) (by kernel_rfl) (fun _ _ _ h => h) (Or.inl ⟨by rfl, ?_⟩) (by assumption) ?_
            rotate_left
            · intro w hSw
              try dsimp only at hSw
              go_simp
              try with_reducible rfl
            try simp only [Act.put, List.setIfInBounds_toArray, List.set_cons_zero, List.set_cons_succ]
            refine wpAnyH_take (i := 5) (v := ?_) (by simp only [List.getElem?_toArray, List.getElem?_cons_succ, List.getElem?_cons_zero]; exact rfl) (by kernel_rfl) (by kernel_rfl) (by kernel_rfl) (fun _ _ _ h => h) (Or.inl ⟨by rfl, ?_⟩) (by assumption) ?_
            rotate_left
            · intro w hSw
              try dsimp only at hSw
              go_simp
              try with_reducible rfl
            try simp only [Act.put, List.setIfInBounds_toArray, List.set_cons_zero, List.set_cons_succ]
            refine wpAnyH_take (i := 6) (v := ?_) (by simp only [List.getElem?_toArray, List.getElem?_cons_succ, List.getElem?_cons_zero]; exact rfl) (by kernel_rfl) (by kernel_rfl) (by kernel_rfl) (fun _ _ _ h => h) (Or.inl ⟨by rfl, ?_⟩) (by assumption) ?_
            rotate_left
            · intro w hSw
              try dsimp only at hSw
              go_simp
              try with_reducible rfl
            try simp only [Act.put, List.setIfInBounds_toArray, List.set_cons_zero, List.set_cons_succ]
            refine wpAnyH_take (i := 7) (v := ?_) (by simp only [List.getElem?_toArray, List.getElem?_cons_succ, List.getElem?_cons_zero]; exact rfl) (by kernel_rfl) (by kernel_rfl) (by kernel_rfl) (fun _ _ _ h => h) (Or.inl ⟨by rfl, ?_⟩) (by assumption) ?_
            rotate_left
            · intro w hSw
              try dsimp only at hSw
              go_simp
              try with_reducible rfl
            try simp only [Act.put, List.setIfInBounds_toArray, List.set_cons_zero, List.set_cons_succ]
            refine wpAnyH_take (i := 8) (v := ?_) (by simp only [List.getElem?_toArray, List.getElem?_cons_succ, List.getElem?_cons_zero]; exact rfl) (by kernel_rfl) (by kernel_rfl) (by kernel_rfl) (fun _ _ _ h => h) (Or.inl ⟨by rfl, ?_⟩) (by assumption) ?_
            rotate_left
            · intro w hSw
              try dsimp only at hSw
              go_simp
              try with_reducible rfl
            try simp only [Act.put, List.setIfInBounds_toArray, List.set_cons_zero, List.set_cons_succ]
            refine wpAnyH_take (i := 9) (v := ?_) (by simp only [List.getElem?_toArray, List.getElem?_cons_succ, List.getElem?_cons_zero]; exact rfl) (by kernel_rfl) (by kernel_rfl) (by kernel_rfl) (fun _ _ _ h => h) (Or.inl ⟨by rfl, ?_⟩) (by assumption) ?_
            rotate_left
            · intro w hSw
              try dsimp only at hSw
              go_simp
              try with_reducible rfl
            try simp only [Act.put, List.setIfInBounds_toArray, List.set_cons_zero, List.set_cons_succ]
            refine wpAnyH_ready (rs := [10]) (by kernel_rfl) (by simp) ?_
            refine AllReadyH.cons (by simp only [List.getElem?_toArray, List.getElem?_cons_succ, List.getElem?_cons_zero]; exact rfl) (fun K hK => ?_) AllReadyH.nil
            go_simp
            (go_at_call 34; refine (whole_any _ _ _ _ _ _ (HCR.out.below hHeld.1) HM.out).mono ?_; rintro e w5 ⟨rfl, hb5⟩)
            refine hK.out _ _ (keep_step hb5 hHeld KS19) (fun hHeld2 => ?_)
            clear hK K hHeld
            have hHeld := hHeld2
            clear hHeld2
            try simp only [Act.put, List.setIfInBounds_toArray, List.set_cons_zero, List.set_cons_succ]
            refine wpAnyH_take (i := 11) (v := ?_) (by simp only [List.getElem?_toArray, List.getElem?_cons_succ, List.getElem?_cons_zero]; exact rfl) (by kernel_rfl) (by kernel_rfl) (by kernel_rfl) (fun _ _ _ h => h) (Or.inl ⟨by rfl, ?_⟩) (by assumption) ?_
            rotate_left
            · intro w hSw
              try dsimp only at hSw
              go_simp
              try with_reducible rfl
            try simp only [Act.put, List.setIfInBounds_toArray, List.set_cons_zero, List.set_cons_succ]
            refine wpAnyH_take (i := 12) (v := ?_) (by simp only [List.getElem?_toArray, List.getElem?_cons_succ, List.getElem?_cons_zero]; exact rfl) (by kernel_rfl) (by kernel_rfl) (by kernel_rfl) (fun _ _ _ h => h) (Or.inl ⟨by rfl, ?_⟩) (by assumption) ?_
            rotate_left
            · intro w hSw
              try dsimp only at hSw
              go_simp
              try with_reducible rfl
            try simp only [Act.put, List.setIfInBounds_toArray, List.set_cons_zero, List.set_cons_succ]
            refine wpAnyH_take (i := 13) (v := ?_) (by simp only [List.getElem?_toArray, List.getElem?_cons_succ, List.getElem?_cons_zero]; exact rfl) (by kernel_rfl) (by kernel_rfl) (by kernel_rfl) (fun _ _ _ h => h) (Or.inl ⟨by rfl, ?_⟩) (by assumption) ?_
            rotate_left
            · intro w hSw
              try dsimp only at hSw
              go_simp
              try with_reducible rfl
            try simp only [Act.put, List.setIfInBounds_toArray, List.set_cons_zero, List.set_cons_succ]
            refine wpAnyH_take (i := 14) (v := ?_) (by simp only [List.getElem?_toArray, List.getElem?_cons_succ, List.getElem?_cons_zero]; exact rfl) (by kernel_rfl) (by kernel_rfl) (by kernel_rfl) (fun _ _ _ h => h) (Or.inl ⟨by rfl, ?_⟩) (by assumption) ?_
            rotate_left
            · intro w hSw
              try dsimp only at hSw
              go_simp
              try with_reducible rfl
            try simp only [Act.put, List.setIfInBounds_toArray, List.set_cons_zero, List.set_cons_succ]
            refine wpAnyH_ready (rs := [15]) (by kernel_rfl) (by simp) ?_
            refine AllReadyH.cons (by simp only [List.getElem?_toArray, List.getElem?_cons_succ, List.getElem?_cons_zero]; exact rfl) (fun K hK => ?_) AllReadyH.nil
            go_simp
            (go_at_call 15; refine (wakes5 _).mono ?_; rintro e w5 ⟨rfl, hb5⟩)
            refine hK.out _ _ (keep_step hb5 hHeld KS19) (fun hHeld2 => ?_)
            clear hK K hHeld
            have hHeld := hHeld2
            clear hHeld2
            try simp only [Act.put, List.setIfInBounds_toArray, List.set_cons_zero, List.set_cons_succ]
            refine wpAnyH_take (i := 16) (v := ?_) (by simp only [List.getElem?_toArray, List.getElem?_cons_succ, List.getElem?_cons_zero]; exact rfl) (by kernel_rfl) (by kernel_rfl) (by kernel_rfl) (fun _ _ _ h => h) (Or.inl ⟨by rfl, ?_⟩) (by assumption) ?_
            rotate_left
            · intro w hSw
              try dsimp only at hSw
              go_simp
              try with_reducible rfl
            try simp only [Act.put, List.setIfInBounds_toArray, List.set_cons_zero, List.set_cons_succ]
            refine wpAnyH_take (i := 17) (v := ?_) (by simp only [List.getElem?_toArray, List.getElem?_cons_succ, List.getElem?_cons_zero]; exact rfl) (by kernel_rfl) (by kernel_rfl) (by kernel_rfl) (fun _ _ _ h => h) (Or.inl ⟨by rfl, ?_⟩) (by assumption) ?_
            rotate_left
            · intro w hSw
              try dsimp only at hSw
              go_simp
              try with_reducible rfl
            try simp only [Act.put, List.setIfInBounds_toArray, List.set_cons_zero, List.set_cons_succ]
            refine wpAnyH_done (by kernel_rfl) ?_ _
            refine NoPanic.normal ?_
            go_wp2
            go_ret
            exact ⟨rfl, bt NX5.out.1 hHeld.1⟩
          · have hfalse := and4_false he
            have hlt := rnk_lt WY.out.2.1 he
            have hr100 : rnk y0 y1 y2 y3 < 100 := by have := HR16.out; omega
            have hry := rnk_ge WY.out.2.2
            obtain ⟨hry1, hry2⟩ := hry
            obtain ⟨jj, zz, hjz, hbz⟩ := cov_next HN.out WY.out.1 WY.out.2.1 he
            have HJ := hid (And.intro hjz hbz)
            clear hjz hbz
            go_wp2_with (go_at_call 31; refine (covers_row _ _ _ _ _ _ _ _ _ _ (HC.out.below NX5.out.1) HM.out WY.out.2.2).mono ?_; rintro e w4 ⟨⟨a2, n2, c2, rfl, nr2⟩, hb4⟩; have NRN := hid nr2; have BL4 := hid (bt BL.out hb4); have BB4 := hid (keep_blk BB.out hb4); clear nr2 hb4)
            have hn24 : n2 ≤ 4 := by have := covL_len ds M y0 y1 y2 y3; have := NRN.out.1; omega
            go_loopg [10] n2 (fun g3 vk wr => ∃ k : Nat, vk = .int .i64 k ∧ Hid (g3 + k = n2 ∧ ∀ j x, j < k → (covL ds M y0 y1 y2 y3)[j]? = some x → bel x.1 x.2.1 x.2.2.1 x.2.2.2 v0 v1 v2 v3 = false) ∧ Hid (Below w4.heap.size w4 wr))
            case atStart => exact ⟨0, rfl, hid ⟨by omega, fun j x hj => by omega⟩, hid (Below.refl _ _)⟩
            case round =>
              obtain ⟨k, rfl, HK3, HW3⟩ := hrel
              have hk2 : k < n2 := by
                have h1 := HJ.out.1
                have hj : jj < n2 := by
                  rw [NRN.out.1]
                  by_cases g : jj < (covL ds M y0 y1 y2 y3).length
                  · exact g
                  · rw [List.getElem?_eq_none (by omega)] at h1; cases h1
                by_cases g : jj < k
                · have := HK3.out.2 jj zz g h1
                  rw [HJ.out.2] at this; cases this
                · omega
              have hkn : (k : Int) < (n2 : Int) := by omega
              obtain ⟨b', off', ea, hb0, z0, z1, z2, z3, hz, q0, q1, q2, q3⟩ := NRN.out.get HW3.out hk2
              subst ea
              have hb0w : b' < wr.heap.size := Nat.lt_of_lt_of_le hb0 HW3.out.size
              have NX6 := hid (NX4.out.step (bt BL4.out HW3.out))
              obtain ⟨hz1, hz2, hz30, hz4⟩ := cov_mem WY.out.1 WY.out.2.2 (List.mem_of_getElem? hz)
              have HZ := hid hz
              have HZ1 := hid hz1
              have HZ3 := hid hz30
              have HZ8 := hid hz4
              clear hz hz1 hz2 hz30 hz4
              have KS13 : Hid (∀ x, Below wr.heap.size wr x → Below wr.heap.size wr x ∧ x.cell? ⟨w.heap.size + 1, 0, none⟩ = some (.int .u8 v0) ∧ x.cell? ⟨w.heap.size + 1, 1, none⟩ = some (.int .u8 v1) ∧ x.cell? ⟨w.heap.size + 1, 2, none⟩ = some (.int .u8 v2) ∧ x.cell? ⟨w.heap.size + 1, 3, none⟩ = some (.int .u8 v3) ∧ x.cell? ⟨b', off' + k * 4, none⟩ = some (.int .u8 z0) ∧ x.cell? ⟨b', off' + k * 4 + 1, none⟩ = some (.int .u8 z1) ∧ x.cell? ⟨b', off' + k * 4 + 2, none⟩ = some (.int .u8 z2) ∧ x.cell? ⟨b', off' + k * 4 + 3, none⟩ = some (.int .u8 z3)) := by
                refine hid fun x hX => ?_
                obtain ⟨⟨r0, r1⟩, s0, s1, s2, s3⟩ := n2_all (NX6.out.step hX)
                exact ⟨hX, s0, s1, s2, s3, ((bcell hX).1 _ _ hb0w).trans q0, ((bcell hX).1 _ _ hb0w).trans q1, ((bcell hX).1 _ _ hb0w).trans q2, ((bcell hX).1 _ _ hb0w).trans q3⟩
              cases hbl : bel z0 z1 z2 z3 v0 v1 v2 v3 with
              | true =>
                have HBL := hid hbl
                go_wp2
                refine wp_region_noPanic ?_
                refine wp_region_held_drew (S := fun x => Below wr.heap.size wr x ∧ x.cell? ⟨w.heap.size + 1, 0, none⟩ = some (.int .u8 v0) ∧ x.cell? ⟨w.heap.size + 1, 1, none⟩ = some (.int .u8 v1) ∧ x.cell? ⟨w.heap.size + 1, 2, none⟩ = some (.int .u8 v2) ∧ x.cell? ⟨w.heap.size + 1, 3, none⟩ = some (.int .u8 v3) ∧ x.cell? ⟨b', off' + k * 4, none⟩ = some (.int .u8 z0) ∧ x.cell? ⟨b', off' + k * 4 + 1, none⟩ = some (.int .u8 z1) ∧ x.cell? ⟨b', off' + k * 4 + 2, none⟩ = some (.int .u8 z2) ∧ x.cell? ⟨b', off' + k * 4 + 3, none⟩ = some (.int .u8 z3)) (by kernel_rfl) (keep_drew KS13) (fun hHeld => ?_)
                refine wpAnyH_take (i := 0) (v := ?_) (by simp only [List.getElem?_toArray, List.getElem?_cons_succ, List.getElem?_cons_zero]; exact rfl) (by kernel_rfl) (by kernel_rfl) (by kernel_rfl) (fun _ _ _ h => h) (Or.inl ⟨by rfl, ?_⟩) (by assumption) ?_
                rotate_left
                · intro w hSw
                  try dsimp only at hSw
                  go_simp
                  try with_reducible rfl
                try simp only [Act.put, List.setIfInBounds_toArray, List.set_cons_zero, List.set_cons_succ]
                refine wpAnyH_take (i := 1) (v := ?_) (by simp only [List.getElem?_toArray, List.getElem?_cons_succ, List.getElem?_cons_zero]; exact rfl) (by kernel_rfl) (by kernel_rfl) (by kernel_rfl) (fun _ _ _ h => h) (Or.inl ⟨by rfl, ?_⟩) (by assumption) ?_
                rotate_left
                · intro w hSw
                  try dsimp only at hSw
                  go_simp
                  try with_reducible rfl
                try simp only [Act.put, List.setIfInBounds_toArray, List.set_cons_zero, List.set_cons_succ]
                refine wpAnyH_take (i := 2) (v := ?_) (by simp only [List.getElem?_toArray, List.getElem?_cons_succ, List.getElem?_cons_zero]; exact rfl) (by kernel_rfl) (by kernel_rfl) (by kernel_rfl) (fun _ _ _ h => h) (Or.inl ⟨by rfl, ?_⟩) (by assumption) ?_
                rotate_left
                · intro w hSw
                  try dsimp only at hSw
                  go_simp
                  try with_reducible rfl
                try simp only [Act.put, List.setIfInBounds_toArray, List.set_cons_zero, List.set_cons_succ]
                refine wpAnyH_take (i := 3) (v := ?_) (by simp only [List.getElem?_toArray, List.getElem?_cons_succ, List.getElem?_cons_zero]; exact rfl) (by kernel_rfl) (by kernel_rfl) (by kernel_rfl) (fun _ _ _ h => h) (Or.inl ⟨by rfl, ?_⟩) (by assumption) ?_
                rotate_left
                · intro w hSw
                  try dsimp only at hSw
                  go_simp
                  try with_reducible rfl
                try simp only [Act.put, List.setIfInBounds_toArray, List.set_cons_zero, List.set_cons_succ]
                refine wpAnyH_take (i := 4) (v := ?_) (by simp only [List.getElem?_toArray, List.getElem?_cons_succ, List.getElem?_cons_zero]; exact rfl) (by kernel_rfl) (by kernel_rfl) (by kernel_rfl) (fun _ _ _ h => h) (Or.inl ⟨by rfl, ?_⟩) (by assumption) ?_
                rotate_left
                · intro w hSw
                  try dsimp only at hSw
                  go_simp
                  try with_reducible rfl
                try simp only [Act.put, List.setIfInBounds_toArray, List.set_cons_zero, List.set_cons_succ]
                refine wpAnyH_take (i := 5) (v := ?_) (by simp only [List.getElem?_toArray, List.getElem?_cons_succ, List.getElem?_cons_zero]; exact rfl) (by kernel_rfl) (by kernel_rfl) (by kernel_rfl) (fun _ _ _ h => h) (Or.inl ⟨by rfl, ?_⟩) (by assumption) ?_
                rotate_left
                · intro w hSw
                  try dsimp only at hSw
                  go_simp
                  try with_reducible rfl
                try simp only [Act.put, List.setIfInBounds_toArray, List.set_cons_zero, List.set_cons_succ]
                refine wpAnyH_take (i := 6) (v := ?_) (by simp only [List.getElem?_toArray, List.getElem?_cons_succ, List.getElem?_cons_zero]; exact rfl) (by kernel_rfl) (by kernel_rfl) (by kernel_rfl) (fun _ _ _ h => h) (Or.inl ⟨by rfl, ?_⟩) (by assumption) ?_
                rotate_left
                · intro w hSw
                  try dsimp only at hSw
                  go_simp
                  try with_reducible rfl
                try simp only [Act.put, List.setIfInBounds_toArray, List.set_cons_zero, List.set_cons_succ]
                refine wpAnyH_take (i := 7) (v := ?_) (by simp only [List.getElem?_toArray, List.getElem?_cons_succ, List.getElem?_cons_zero]; exact rfl) (by kernel_rfl) (by kernel_rfl) (by kernel_rfl) (fun _ _ _ h => h) (Or.inl ⟨by rfl, ?_⟩) (by assumption) ?_
                rotate_left
                · intro w hSw
                  try dsimp only at hSw
                  go_simp
                  try with_reducible rfl
                try simp only [Act.put, List.setIfInBounds_toArray, List.set_cons_zero, List.set_cons_succ]
                refine wpAnyH_take (i := 8) (v := ?_) (by simp only [List.getElem?_toArray, List.getElem?_cons_succ, List.getElem?_cons_zero]; exact rfl) (by kernel_rfl) (by kernel_rfl) (by kernel_rfl) (fun _ _ _ h => h) (Or.inl ⟨by rfl, ?_⟩) (by assumption) ?_
                rotate_left
                · intro w hSw
                  try dsimp only at hSw
                  go_simp
                  try with_reducible rfl
                try simp only [Act.put, List.setIfInBounds_toArray, List.set_cons_zero, List.set_cons_succ]
                refine wpAnyH_take (i := 9) (v := ?_) (by simp only [List.getElem?_toArray, List.getElem?_cons_succ, List.getElem?_cons_zero]; exact rfl) (by kernel_rfl) (by kernel_rfl) (by kernel_rfl) (fun _ _ _ h => h) (Or.inl ⟨by rfl, ?_⟩) (by assumption) ?_
                rotate_left
                · intro w hSw
                  try dsimp only at hSw
                  go_simp
                  try with_reducible rfl
                try simp only [Act.put, List.setIfInBounds_toArray, List.set_cons_zero, List.set_cons_succ]
                refine wpAnyH_ready (rs := [10]) (by kernel_rfl) (by simp) ?_
                refine AllReadyH.cons (by simp only [List.getElem?_toArray, List.getElem?_cons_succ, List.getElem?_cons_zero]; exact rfl) (fun K hK => ?_) AllReadyH.nil
                go_simp
                (go_at_call 17; refine (below_any _ _ _ _ _ _ _ _ _).mono ?_; rintro e w5 ⟨rfl, hb5⟩)
                refine hK.out _ _ (keep_step hb5 hHeld KS13) (fun hHeld2 => ?_)
                clear hK K hHeld
                have hHeld := hHeld2
                clear hHeld2
                try simp only [Act.put, List.setIfInBounds_toArray, List.set_cons_zero, List.set_cons_succ]
                refine wpAnyH_take (i := 11) (v := ?_) (by simp only [List.getElem?_toArray, List.getElem?_cons_succ, List.getElem?_cons_zero]; exact rfl) (by kernel_rfl) (by kernel_rfl) (by kernel_rfl) (fun _ _ _ h => h) (Or.inl ⟨by rfl, ?_⟩) (by assumption) ?_
                rotate_left
                · intro w hSw
                  try dsimp only at hSw
                  go_simp
                  try with_reducible rfl
                try simp only [Act.put, List.setIfInBounds_toArray, List.set_cons_zero, List.set_cons_succ]
                refine wpAnyH_take (i := 12) (v := ?_) (by simp only [List.getElem?_toArray, List.getElem?_cons_succ, List.getElem?_cons_zero]; exact rfl) (by kernel_rfl) (by kernel_rfl) (by kernel_rfl) (fun _ _ _ h => h) (Or.inl ⟨by rfl, ?_⟩) (by assumption) ?_
                rotate_left
                · intro w hSw
                  try dsimp only at hSw
                  go_simp
                  try with_reducible rfl
                try simp only [Act.put, List.setIfInBounds_toArray, List.set_cons_zero, List.set_cons_succ]
                refine wpAnyH_done (by kernel_rfl) ?_ _
                refine NoPanic.normal ?_
                have KB := keep_blk (keep_blk BB4.out HW3.out) hHeld.1
                obtain ⟨l0, l1, l2, l3⟩ := box4 KB
                obtain ⟨m0, m1, m2, m3⟩ := froz4 KB
                have hq := hHeld.2.2.2.2.2
                obtain ⟨t0, t1, t2, t3⟩ := hq
                have hb0x : b' < w5.heap.size := Nat.lt_of_lt_of_le hb0w hHeld.1.size
                have HBE := hid (bt (bt BL4.out HW3.out) hHeld.1)
                have HKB := hid KB
                have hkg : decide ((n2 : Int) ≤ (k : Int)) = false := decide_eq_false (by omega)
                clear hHeld KS13 KB
                go_wp2
                go_roundg (rnk v0 v1 v2 v3 - rnk z0 z1 z2 z3).toNat
                case measure => have h1 := HGK.out; have h2 := HZ3.out; rw [h1, h2]; omega
                case rel =>
                  refine ⟨z0, z1, z2, z3, by rw [HZ3.out], hid rfl, hid ⟨HZ1.out, HBL.out, HZ8.out⟩, hid (store4 HKB.out _ _ _ _), hid (below4 HBE.out (Nat.le_refl _) _ _ _ _)⟩
              | false =>
                have HBL := hid hbl
                go_wp2
                refine wp_region_noPanic ?_
                refine wp_region_held_drew (S := fun x => Below wr.heap.size wr x ∧ x.cell? ⟨w.heap.size + 1, 0, none⟩ = some (.int .u8 v0) ∧ x.cell? ⟨w.heap.size + 1, 1, none⟩ = some (.int .u8 v1) ∧ x.cell? ⟨w.heap.size + 1, 2, none⟩ = some (.int .u8 v2) ∧ x.cell? ⟨w.heap.size + 1, 3, none⟩ = some (.int .u8 v3) ∧ x.cell? ⟨b', off' + k * 4, none⟩ = some (.int .u8 z0) ∧ x.cell? ⟨b', off' + k * 4 + 1, none⟩ = some (.int .u8 z1) ∧ x.cell? ⟨b', off' + k * 4 + 2, none⟩ = some (.int .u8 z2) ∧ x.cell? ⟨b', off' + k * 4 + 3, none⟩ = some (.int .u8 z3)) (by kernel_rfl) (keep_drew KS13) (fun hHeld => ?_)
                refine wpAnyH_take (i := 0) (v := ?_) (by simp only [List.getElem?_toArray, List.getElem?_cons_succ, List.getElem?_cons_zero]; exact rfl) (by kernel_rfl) (by kernel_rfl) (by kernel_rfl) (fun _ _ _ h => h) (Or.inl ⟨by rfl, ?_⟩) (by assumption) ?_
                rotate_left
                · intro w hSw
                  try dsimp only at hSw
                  go_simp
                  try with_reducible rfl
                try simp only [Act.put, List.setIfInBounds_toArray, List.set_cons_zero, List.set_cons_succ]
                refine wpAnyH_take (i := 1) (v := ?_) (by simp only [List.getElem?_toArray, List.getElem?_cons_succ, List.getElem?_cons_zero]; exact rfl) (by kernel_rfl) (by kernel_rfl) (by kernel_rfl) (fun _ _ _ h => h) (Or.inl ⟨by rfl, ?_⟩) (by assumption) ?_
                rotate_left
                · intro w hSw
                  try dsimp only at hSw
                  go_simp
                  try with_reducible rfl
                try simp only [Act.put, List.setIfInBounds_toArray, List.set_cons_zero, List.set_cons_succ]
                refine wpAnyH_take (i := 2) (v := ?_) (by simp only [List.getElem?_toArray, List.getElem?_cons_succ, List.getElem?_cons_zero]; exact rfl) (by kernel_rfl) (by kernel_rfl) (by kernel_rfl) (fun _ _ _ h => h) (Or.inl ⟨by rfl, ?_⟩) (by assumption) ?_
                rotate_left
                · intro w hSw
                  try dsimp only at hSw
                  go_simp
                  try with_reducible rfl
                try simp only [Act.put, List.setIfInBounds_toArray, List.set_cons_zero, List.set_cons_succ]
                refine wpAnyH_take (i := 3) (v := ?_) (by simp only [List.getElem?_toArray, List.getElem?_cons_succ, List.getElem?_cons_zero]; exact rfl) (by kernel_rfl) (by kernel_rfl) (by kernel_rfl) (fun _ _ _ h => h) (Or.inl ⟨by rfl, ?_⟩) (by assumption) ?_
                rotate_left
                · intro w hSw
                  try dsimp only at hSw
                  go_simp
                  try with_reducible rfl
                try simp only [Act.put, List.setIfInBounds_toArray, List.set_cons_zero, List.set_cons_succ]
                refine wpAnyH_take (i := 4) (v := ?_) (by simp only [List.getElem?_toArray, List.getElem?_cons_succ, List.getElem?_cons_zero]; exact rfl) (by kernel_rfl) (by kernel_rfl) (by kernel_rfl) (fun _ _ _ h => h) (Or.inl ⟨by rfl, ?_⟩) (by assumption) ?_
                rotate_left
                · intro w hSw
                  try dsimp only at hSw
                  go_simp
                  try with_reducible rfl
                try simp only [Act.put, List.setIfInBounds_toArray, List.set_cons_zero, List.set_cons_succ]
                refine wpAnyH_take (i := 5) (v := ?_) (by simp only [List.getElem?_toArray, List.getElem?_cons_succ, List.getElem?_cons_zero]; exact rfl) (by kernel_rfl) (by kernel_rfl) (by kernel_rfl) (fun _ _ _ h => h) (Or.inl ⟨by rfl, ?_⟩) (by assumption) ?_
                rotate_left
                · intro w hSw
                  try dsimp only at hSw
                  go_simp
                  try with_reducible rfl
                try simp only [Act.put, List.setIfInBounds_toArray, List.set_cons_zero, List.set_cons_succ]
                refine wpAnyH_take (i := 6) (v := ?_) (by simp only [List.getElem?_toArray, List.getElem?_cons_succ, List.getElem?_cons_zero]; exact rfl) (by kernel_rfl) (by kernel_rfl) (by kernel_rfl) (fun _ _ _ h => h) (Or.inl ⟨by rfl, ?_⟩) (by assumption) ?_
                rotate_left
                · intro w hSw
                  try dsimp only at hSw
                  go_simp
                  try with_reducible rfl
                try simp only [Act.put, List.setIfInBounds_toArray, List.set_cons_zero, List.set_cons_succ]
                refine wpAnyH_take (i := 7) (v := ?_) (by simp only [List.getElem?_toArray, List.getElem?_cons_succ, List.getElem?_cons_zero]; exact rfl) (by kernel_rfl) (by kernel_rfl) (by kernel_rfl) (fun _ _ _ h => h) (Or.inl ⟨by rfl, ?_⟩) (by assumption) ?_
                rotate_left
                · intro w hSw
                  try dsimp only at hSw
                  go_simp
                  try with_reducible rfl
                try simp only [Act.put, List.setIfInBounds_toArray, List.set_cons_zero, List.set_cons_succ]
                refine wpAnyH_take (i := 8) (v := ?_) (by simp only [List.getElem?_toArray, List.getElem?_cons_succ, List.getElem?_cons_zero]; exact rfl) (by kernel_rfl) (by kernel_rfl) (by kernel_rfl) (fun _ _ _ h => h) (Or.inl ⟨by rfl, ?_⟩) (by assumption) ?_
                rotate_left
                · intro w hSw
                  try dsimp only at hSw
                  go_simp
                  try with_reducible rfl
                try simp only [Act.put, List.setIfInBounds_toArray, List.set_cons_zero, List.set_cons_succ]
                refine wpAnyH_take (i := 9) (v := ?_) (by simp only [List.getElem?_toArray, List.getElem?_cons_succ, List.getElem?_cons_zero]; exact rfl) (by kernel_rfl) (by kernel_rfl) (by kernel_rfl) (fun _ _ _ h => h) (Or.inl ⟨by rfl, ?_⟩) (by assumption) ?_
                rotate_left
                · intro w hSw
                  try dsimp only at hSw
                  go_simp
                  try with_reducible rfl
                try simp only [Act.put, List.setIfInBounds_toArray, List.set_cons_zero, List.set_cons_succ]
                refine wpAnyH_ready (rs := [10]) (by kernel_rfl) (by simp) ?_
                refine AllReadyH.cons (by simp only [List.getElem?_toArray, List.getElem?_cons_succ, List.getElem?_cons_zero]; exact rfl) (fun K hK => ?_) AllReadyH.nil
                go_simp
                (go_at_call 17; refine (below_any _ _ _ _ _ _ _ _ _).mono ?_; rintro e w5 ⟨rfl, hb5⟩)
                refine hK.out _ _ (keep_step hb5 hHeld KS13) (fun hHeld2 => ?_)
                clear hK K hHeld
                have hHeld := hHeld2
                clear hHeld2
                try simp only [Act.put, List.setIfInBounds_toArray, List.set_cons_zero, List.set_cons_succ]
                refine wpAnyH_take (i := 11) (v := ?_) (by simp only [List.getElem?_toArray, List.getElem?_cons_succ, List.getElem?_cons_zero]; exact rfl) (by kernel_rfl) (by kernel_rfl) (by kernel_rfl) (fun _ _ _ h => h) (Or.inl ⟨by rfl, ?_⟩) (by assumption) ?_
                rotate_left
                · intro w hSw
                  try dsimp only at hSw
                  go_simp
                  try with_reducible rfl
                try simp only [Act.put, List.setIfInBounds_toArray, List.set_cons_zero, List.set_cons_succ]
                refine wpAnyH_take (i := 12) (v := ?_) (by simp only [List.getElem?_toArray, List.getElem?_cons_succ, List.getElem?_cons_zero]; exact rfl) (by kernel_rfl) (by kernel_rfl) (by kernel_rfl) (fun _ _ _ h => h) (Or.inl ⟨by rfl, ?_⟩) (by assumption) ?_
                rotate_left
                · intro w hSw
                  try dsimp only at hSw
                  go_simp
                  try with_reducible rfl
                try simp only [Act.put, List.setIfInBounds_toArray, List.set_cons_zero, List.set_cons_succ]
                refine wpAnyH_done (by kernel_rfl) ?_ _
                refine NoPanic.normal ?_
                have HEND := hid (bt HW3.out hHeld.1)
                clear hHeld KS13
                go_wp2
                go_roundg (n2 - (k + 1))
                case measure => have := HK3.out.1; omega
                case rel =>
                  refine ⟨k + 1, by go_num, hid ⟨by have := HK3.out.1; omega, fun j x hj hx => ?_⟩, HEND⟩
                  by_cases e : j = k
                  · subst e
                    rw [HZ.out] at hx
                    simp only [Option.some.injEq] at hx
                    subst hx
                    exact HBL.out
                  · exact HK3.out.2 j x (by omega) hx

end Go.Proofs.Ytmlnfpefemchhaa

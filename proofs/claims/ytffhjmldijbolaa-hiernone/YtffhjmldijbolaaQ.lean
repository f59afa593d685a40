/-
  A dimension that is spoilt may not be: the walk of the law HierNone.
  Conditions: as each theorem states them.
-/
import Derived.Test.YtffhjmldijbolaaT
namespace Go.Proofs.Ytffhjmldijbolaa
open Go.ChangeShapes Go.WideShapes Go.ChangeAt Go.RowKit
set_option linter.unusedVariables false
set_option linter.unusedSimpArgs false

theorem own_first {w : World} {base g n cap : Nat} {e : TypeId} {l : List Int} (h : w.ownsRow base e 1 (.slice (some ⟨g, 0, none⟩) n cap) n (vals .i64 l)) (hn : 1 ≤ n) : w.cell? ⟨g, 0, none⟩ = some (.int .i64 (l.getD 0 0)) := by
  obtain ⟨b', off', e', _, hc'⟩ := (own_row h).cell (k := 0) (by omega)
  cases e'
  exact hc' 0 (by omega)
theorem own_set {w : World} {base g n cap : Nat} {e : TypeId} {l : List Int} (h : w.ownsRow base e 1 (.slice (some ⟨g, 0, none⟩) n cap) n (vals .i64 l)) (k : Nat) (y : Int) : (w.setCell ⟨g, k, none⟩ (.int .i64 y)).ownsRow base e 1 (.slice (some ⟨g, 0, none⟩) n cap) n (vals .i64 (l.set k y)) := by
  have := (World.ownsRow.stored h k (.int .i64 y)).1
  have e : (vals .i64 l).set k (.int .i64 y) = vals .i64 (l.set k y) := by unfold vals; rw [List.map_set]
  rw [e] at this
  exact this
theorem zero1 (w : World) (o : Obj) : IRow .i64 ((w.alloc (.cells #[.int .i64 0] 3)).alloc o) (some ⟨w.heap.size, 0, none⟩) 1 1 [0] := by
  refine row_at (l := [0]) (by simp; omega) (fun j hj => ?_) (Nat.le_refl _) (by decide)
  match j, hj with
  | 0, _ => simp [go_sem]
theorem ones4 (w : World) : IRow .i64 (w.alloc (.cells #[.int .i64 1, .int .i64 1, .int .i64 1, .int .i64 1] 3)) (some ⟨w.heap.size, 0, none⟩) 4 4 [1, 1, 1, 1] := by
  refine row_at (l := [1, 1, 1, 1]) (by simp) (fun j hj => ?_) (Nat.le_refl _) (by decide)
  match j, hj with
  | 0, _ => simp [go_sem]
  | 1, _ => simp [go_sem]
  | 2, _ => simp [go_sem]
  | 3, _ => simp [go_sem]

set_option maxHeartbeats 4000000 in
set_option maxRecDepth 100000 in
theorem none_walk (sa : Option Addr) (sl sc : Nat) (ua : Option Addr) (ul uc : Nat) (S : List Int) (U : List (List Int)) (how n : Int) (w : World) (hd : Dim w sa sl sc ua ul uc S U) (h0 : U8 how) (h1 : I64 n) :
    Calls Try.prog 7 #[.agg #[.slice sa sl sc, .slice ua ul uc], .int .u8 how, .int .i64 n] w fun e w' => e = .returned (.bool true) ∧ Below w.heap.size w w' := by
  obtain ⟨e1, e2, e3, e4⟩ := hd.lens
  have E1 : Hid (sl = S.length) := e1
  have E2 : Hid (ul = U.length) := e2
  have HD : Hid (Dim w sa sl sc ua ul uc S U) := hd
  have HN : Hid (I64 n) := h1
  obtain ⟨h0a, h0b⟩ := h0
  have BX : Hid (Bx w (w.alloc (.cells #[.slice sa sl sc, .slice ua ul uc] 25)) (.slice sa sl sc) (.slice ua ul uc)) := bx_new _ _ _ _
  clear e1 e2 hd h1
  cases hg : good S U with
  | false =>
    go_enter Try.func7, Try.ntmps7
    go_wp2_with (first
      | (go_at_call 12; refine (rgood_any _ _ _ _ _ _ S U _ (HD.out.below BX.out.2.1)).mono ?_; rintro e w1 ⟨rfl, hb1⟩)
      | (go_at_call 9; refine (wakes_any _).mono ?_; rintro e w9 ⟨rfl, hb9⟩))
    go_ret
    exact ⟨rfl, bt (BX.out.step hb1).2.1 hb9⟩
  | true =>
    have HG : Hid (good S U = true) := hg
    have hs4 : sl ≤ 4 := by rw [E1.out]; exact (good_p hg).2.1
    have hs1 : 1 ≤ sl := by rw [E1.out]; exact (good_p hg).1
    have hul : ul + 1 = sl := by rw [E1.out, E2.out]; exact (good_p hg).2.2.1
    have HUL : Hid (ul + 1 = sl) := hul
    have J0 : Hid (I64 0) := i64_lit.1
    have J1 : Hid (I64 1) := i64_lit.2.1
    have hcs : sl ≤ sc := HD.out.1.2.1
    have hul4 : ul ≤ 3 := by omega
    clear hg hul
    go_enter Try.func7, Try.ntmps7
    go_upto_region 4 with (first
      | (go_at_call 12; refine (rgood_any _ _ _ _ _ _ S U _ (HD.out.below BX.out.2.1)).mono ?_; rintro e w1 ⟨rfl, hb1⟩; have BX1 : Hid (Bx w w1 (.slice sa sl sc) (.slice ua ul uc)) := BX.out.step hb1; clear hb1; obtain ⟨_, _, c0, c1⟩ := BX1.out; rw [HG.out]))
    obtain ⟨TW, fz, hX, hwX⟩ := two_new w w1 _ _ 25 BX1.out
    obtain ⟨W2, hW2⟩ : ∃ W2, w1.alloc (.cells #[.slice sa sl sc, .slice ua ul uc] 25) = W2 := ⟨_, rfl⟩
    rw [hW2] at TW fz hX ⊢
    obtain ⟨X, hXe⟩ : ∃ X, w1.heap.size = X := ⟨_, rfl⟩
    rw [hXe] at TW fz hX hwX ⊢
    have TW2 : Hid (Two w W2 X (.slice sa sl sc) (.slice ua ul uc) (.slice sa sl sc) (.slice ua ul uc)) := TW
    have hXW : X < W2.heap.size := by omega
    clear hW2 hXe TW c0 c1 BX1 BX hX
    have hm5 : how % 5 = 0 ∨ how % 5 = 1 ∨ how % 5 = 2 ∨ how % 5 = 3 ∨ how % 5 = 4 := by omega
    rcases hm5 with hm5 | hm5 | hm5 | hm5 | hm5
    · have TW3 : Hid (Two w (W2.alloc (.cells #[] 3)) X (.slice sa sl sc) (.slice ua ul uc) (.slice sa sl sc) (.slice ua ul uc)) := TW2.out.step ((Below.refl _ _).alloc (Nat.le_refl _) _)
      obtain ⟨⟨_, _, c0, c1⟩, _, _, _⟩ := TW3.out
      go_upto_region 18 with (first
        | (at_builtin; refine append_row Try.underlying22 info_int (by decide) rfl (.tmp 44) (.tmp 46) rfl W2.heap.size W2.heap.size 0 0 [] rfl (own_made _ W2 W2.heap.size (Nat.le_refl _)) sa sl sc S rfl (HD.out.below TW3.out.1.2.1).1 (by omega) (by simp) ?_; intro g1 cap1 w3 hown1 hgrow1; rw [Nat.zero_add, List.nil_append] at hown1; have B1 : Below W2.heap.size W2 w3 := ((Below.refl _ _).alloc (Nat.le_refl _) _).grown hgrow1 (by simp) (fun k hk => by cases hk; exact Nat.le_refl _); have s1 := B1.size)
        | (at_builtin; refine append_row Try.underlying22 info_int (by decide) rfl (.tmp 47) (.tmp 48) rfl W2.heap.size g1 sl cap1 S rfl (hown1.alloc _) (some ⟨w3.heap.size, 0, none⟩) 4 4 [1, 1, 1, 1] rfl (ones4 w3) (by omega) (by simp; omega) ?_; intro g2 cap2 w4 hown2 hgrow2; have B2 : Below W2.heap.size W2 w4 := (B1.alloc s1 _).grown hgrow2 (by simp; omega) (fun k hk => by cases hk; exact (hown1.lt _ rfl).1); have TW4 := TW2.out.step B2; have x0 := TW4.2.2.1; have x1 := TW4.2.2.2; have x2 := ((bcell B2).2 X 0 hXW).trans (fz 0)))
      have GX : Hid (good (S ++ [1, 1, 1, 1]) U = false) := bad_long HG.out
      have TX := two_set0 (TW2.out.step B2) hwX (.slice (some ⟨g2, 0, none⟩) (sl + 4) cap2)
      have DX := dim_sizes HD.out TX.1.2.1 (ownsRow_setCell_below hown2 (a := ⟨X, 0, none⟩) hXW (.slice (some ⟨g2, 0, none⟩) (sl + 4) cap2)) (fun x hx => by
        rcases List.mem_append.mp hx with h | h
        · exact HD.out.2.2.1 x h
        · simp at h; subst h; exact J1.out)
      obtain ⟨wx, hwx⟩ : ∃ wx, w4.setCell ⟨X, 0, none⟩ (.slice (some ⟨g2, 0, none⟩) (sl + 4) cap2) = wx := ⟨_, rfl⟩
      rw [hwx] at TX DX ⊢
      have DX2 : Hid (Dim wx (some ⟨g2, 0, none⟩) (sl + 4) cap2 ua ul uc (S ++ [1, 1, 1, 1]) U) := DX
      have T0 : Hid (Two w wx X (.slice sa sl sc) (.slice ua ul uc) (.slice (some ⟨g2, 0, none⟩) (sl + 4) cap2) (.slice ua ul uc)) := TX
      clear hwx TX DX x0 x1 x2 TW4 c0 c1 TW3
      obtain ⟨⟨_, _, y0, y1⟩, _, y2, y3⟩ := T0.out
      have tok : True := trivial
      have tok2 : True := trivial
      go_wp2_with (first
        | (go_at_call 15; refine (lift_none _ _ _ _ _ _ _ _ _ _ _ _ DX2.out GX J0.out J0.out J0.out).mono ?_; rintro e v1 ⟨rfl, hb1⟩; have T1 : Hid (Two w v1 X (.slice sa sl sc) (.slice ua ul uc) (.slice (some ⟨g2, 0, none⟩) (sl + 4) cap2) (.slice ua ul uc)) := T0.out.step hb1; have D1 : Hid (Dim v1 (some ⟨g2, 0, none⟩) (sl + 4) cap2 ua ul uc (S ++ [1, 1, 1, 1]) U) := DX2.out.below hb1; clear hb1; obtain ⟨⟨_, _, z0, z1⟩, _, z2, z3⟩ := T1.out)
        | (go_at_call 18; clear tok; refine (good_is _ _ _ _ _ _ _ _ _ _ (HD.out.below T1.out.1.2.1) HG).mono ?_; rintro e v2 ⟨rfl, hb2⟩; have T2 : Hid (Two w v2 X (.slice sa sl sc) (.slice ua ul uc) (.slice (some ⟨g2, 0, none⟩) (sl + 4) cap2) (.slice ua ul uc)) := T1.out.step hb2; have D2 : Hid (Dim v2 (some ⟨g2, 0, none⟩) (sl + 4) cap2 ua ul uc (S ++ [1, 1, 1, 1]) U) := D1.out.below hb2; clear hb2; obtain ⟨⟨_, _, p0, p1⟩, _, p2, p3⟩ := T2.out)
        | (go_at_call 18; refine (good_is _ _ _ _ _ _ _ _ _ _ D2.out GX).mono ?_; rintro e v3 ⟨rfl, hb3⟩; have T3 : Hid (Two w v3 X (.slice sa sl sc) (.slice ua ul uc) (.slice (some ⟨g2, 0, none⟩) (sl + 4) cap2) (.slice ua ul uc)) := T2.out.step hb3; have D3 : Hid (Dim v3 (some ⟨g2, 0, none⟩) (sl + 4) cap2 ua ul uc (S ++ [1, 1, 1, 1]) U) := D2.out.below hb3; clear hb3; obtain ⟨⟨_, _, q0, q1⟩, _, q2, q3⟩ := T3.out)
        | (go_at_call 19; clear tok2; refine (size_none _ _ _ _ _ _ _ _ _ _ D3.out GX J0.out).mono ?_; rintro e v4 ⟨rfl, hb4⟩; have T4 : Hid (Two w v4 X (.slice sa sl sc) (.slice ua ul uc) (.slice (some ⟨g2, 0, none⟩) (sl + 4) cap2) (.slice ua ul uc)) := T3.out.step hb4; have D4 : Hid (Dim v4 (some ⟨g2, 0, none⟩) (sl + 4) cap2 ua ul uc (S ++ [1, 1, 1, 1]) U) := D3.out.below hb4; clear hb4; obtain ⟨⟨_, _, r0, r1⟩, _, r2, r3⟩ := T4.out)
        | (go_at_call 19; refine (size_none _ _ _ _ _ _ _ _ _ _ D4.out GX HN.out).mono ?_; rintro e v5 ⟨rfl, hb5⟩; have T5 : Hid (Two w v5 X (.slice sa sl sc) (.slice ua ul uc) (.slice (some ⟨g2, 0, none⟩) (sl + 4) cap2) (.slice ua ul uc)) := T4.out.step hb5; have D5 : Hid (Dim v5 (some ⟨g2, 0, none⟩) (sl + 4) cap2 ua ul uc (S ++ [1, 1, 1, 1]) U) := D4.out.below hb5; clear hb5; obtain ⟨⟨_, _, k0, k1⟩, _, k2, k3⟩ := T5.out)
        | (go_at_call 16; refine (under_none _ _ _ _ _ _ _ _ _ _ _ _ D5.out GX J1.out J0.out J0.out).mono ?_; rintro e v6 ⟨⟨_, _, rfl⟩, hb6⟩; have T6 : Hid (Two w v6 X (.slice sa sl sc) (.slice ua ul uc) (.slice (some ⟨g2, 0, none⟩) (sl + 4) cap2) (.slice ua ul uc)) := T5.out.step hb6; have D6 : Hid (Dim v6 (some ⟨g2, 0, none⟩) (sl + 4) cap2 ua ul uc (S ++ [1, 1, 1, 1]) U) := D5.out.below hb6; clear hb6; obtain ⟨⟨_, _, m0, m1⟩, _, m2, m3⟩ := T6.out)
        | (go_at_call 17; refine (kids_none _ _ _ _ _ _ _ _ _ _ _ D6.out GX J1.out J0.out).mono ?_; rintro e v7 ⟨⟨_, _, rfl⟩, hb7⟩)
        | (go_at_call 9; refine (wakes_any _).mono ?_; rintro e v9 ⟨rfl, hb9⟩))
      go_ret
      exact ⟨rfl, bt (bt T6.out.1.2.1 hb7) hb9⟩
    · have TW3 : Hid (Two w (W2.alloc (.cells #[.int .i64 0] 3)) X (.slice sa sl sc) (.slice ua ul uc) (.slice sa sl sc) (.slice ua ul uc)) := TW2.out.step ((Below.refl _ _).alloc (Nat.le_refl _) _)
      obtain ⟨⟨_, _, c0, c1⟩, _, _, _⟩ := TW3.out
      obtain ⟨b, off, rfl, hb0, _, _⟩ := HD.out.size_cell (k := 0) (by omega)
      by_cases hc1 : sc = 1
      · obtain rfl : sl = 1 := by omega
        subst hc1
        have hdr : Hid (S.drop 1 = []) := List.length_eq_zero_iff.mp (by rw [List.length_drop, ← E1.out])
        go_upto_region 18 with (first
          | (at_builtin; refine append_row Try.underlying22 info_int (by decide) rfl (.tmp 53) (.tmp 56) rfl W2.heap.size W2.heap.size 1 1 [0] rfl (own_lit W2 W2.heap.size 1 _ _ (Nat.le_refl _) rfl (by decide)) (some ⟨b, off, none⟩) (1 - 1) (1 - 1) (S.drop 1) rfl (by rw [hdr.out]; exact irow_none) (by omega) (by simp) ?_; rw [show 1 + (1 - 1) = 1 by omega]; intro g2 cap2 w4 hown2 hgrow2; have B2 : Below W2.heap.size W2 w4 := ((Below.refl _ _).alloc (Nat.le_refl _) _).grown hgrow2 (by simp) (fun k hk => by cases hk; exact Nat.le_refl _); have TW4 := TW2.out.step B2; have x0 := TW4.2.2.1; have x1 := TW4.2.2.2; have x2 := ((bcell B2).2 X 0 hXW).trans (fz 0)))
        have GX : Hid (good ([0] ++ S.drop 1) U = false) := bad_head (by omega)
        have TX := two_set0 (TW2.out.step B2) hwX (.slice (some ⟨g2, 0, none⟩) 1 cap2)
        have DX := dim_sizes HD.out TX.1.2.1 (ownsRow_setCell_below hown2 (a := ⟨X, 0, none⟩) hXW (.slice (some ⟨g2, 0, none⟩) 1 cap2)) (fun x hx => by
          rcases List.mem_append.mp hx with h | h
          · simp at h; subst h; unfold I64; omega
          · exact HD.out.2.2.1 x (List.mem_of_mem_drop h))
        obtain ⟨wx, hwx⟩ : ∃ wx, w4.setCell ⟨X, 0, none⟩ (.slice (some ⟨g2, 0, none⟩) 1 cap2) = wx := ⟨_, rfl⟩
        rw [hwx] at TX DX ⊢
        have DX2 : Hid (Dim wx (some ⟨g2, 0, none⟩) 1 cap2 ua ul uc ([0] ++ S.drop 1) U) := DX
        have T0 : Hid (Two w wx X (.slice (some ⟨b, off, none⟩) 1 1) (.slice ua ul uc) (.slice (some ⟨g2, 0, none⟩) 1 cap2) (.slice ua ul uc)) := TX
        clear hwx TX DX x0 x1 x2 TW4 c0 c1 TW3
        obtain ⟨⟨_, _, y0, y1⟩, _, y2, y3⟩ := T0.out
        have tok : True := trivial
        have tok2 : True := trivial
        go_wp2_with (first
          | (go_at_call 15; refine (lift_none _ _ _ _ _ _ _ _ _ _ _ _ DX2.out GX J0.out J0.out J0.out).mono ?_; rintro e v1 ⟨rfl, hb1⟩; have T1 : Hid (Two w v1 X (.slice (some ⟨b, off, none⟩) 1 1) (.slice ua ul uc) (.slice (some ⟨g2, 0, none⟩) 1 cap2) (.slice ua ul uc)) := T0.out.step hb1; have D1 : Hid (Dim v1 (some ⟨g2, 0, none⟩) 1 cap2 ua ul uc ([0] ++ S.drop 1) U) := DX2.out.below hb1; clear hb1; obtain ⟨⟨_, _, z0, z1⟩, _, z2, z3⟩ := T1.out)
          | (go_at_call 18; clear tok; refine (good_is _ _ _ _ _ _ _ _ _ _ (HD.out.below T1.out.1.2.1) HG).mono ?_; rintro e v2 ⟨rfl, hb2⟩; have T2 : Hid (Two w v2 X (.slice (some ⟨b, off, none⟩) 1 1) (.slice ua ul uc) (.slice (some ⟨g2, 0, none⟩) 1 cap2) (.slice ua ul uc)) := T1.out.step hb2; have D2 : Hid (Dim v2 (some ⟨g2, 0, none⟩) 1 cap2 ua ul uc ([0] ++ S.drop 1) U) := D1.out.below hb2; clear hb2; obtain ⟨⟨_, _, p0, p1⟩, _, p2, p3⟩ := T2.out)
          | (go_at_call 18; refine (good_is _ _ _ _ _ _ _ _ _ _ D2.out GX).mono ?_; rintro e v3 ⟨rfl, hb3⟩; have T3 : Hid (Two w v3 X (.slice (some ⟨b, off, none⟩) 1 1) (.slice ua ul uc) (.slice (some ⟨g2, 0, none⟩) 1 cap2) (.slice ua ul uc)) := T2.out.step hb3; have D3 : Hid (Dim v3 (some ⟨g2, 0, none⟩) 1 cap2 ua ul uc ([0] ++ S.drop 1) U) := D2.out.below hb3; clear hb3; obtain ⟨⟨_, _, q0, q1⟩, _, q2, q3⟩ := T3.out)
          | (go_at_call 19; clear tok2; refine (size_none _ _ _ _ _ _ _ _ _ _ D3.out GX J0.out).mono ?_; rintro e v4 ⟨rfl, hb4⟩; have T4 : Hid (Two w v4 X (.slice (some ⟨b, off, none⟩) 1 1) (.slice ua ul uc) (.slice (some ⟨g2, 0, none⟩) 1 cap2) (.slice ua ul uc)) := T3.out.step hb4; have D4 : Hid (Dim v4 (some ⟨g2, 0, none⟩) 1 cap2 ua ul uc ([0] ++ S.drop 1) U) := D3.out.below hb4; clear hb4; obtain ⟨⟨_, _, r0, r1⟩, _, r2, r3⟩ := T4.out)
          | (go_at_call 19; refine (size_none _ _ _ _ _ _ _ _ _ _ D4.out GX HN.out).mono ?_; rintro e v5 ⟨rfl, hb5⟩; have T5 : Hid (Two w v5 X (.slice (some ⟨b, off, none⟩) 1 1) (.slice ua ul uc) (.slice (some ⟨g2, 0, none⟩) 1 cap2) (.slice ua ul uc)) := T4.out.step hb5; have D5 : Hid (Dim v5 (some ⟨g2, 0, none⟩) 1 cap2 ua ul uc ([0] ++ S.drop 1) U) := D4.out.below hb5; clear hb5; obtain ⟨⟨_, _, k0, k1⟩, _, k2, k3⟩ := T5.out)
          | (go_at_call 16; refine (under_none _ _ _ _ _ _ _ _ _ _ _ _ D5.out GX J1.out J0.out J0.out).mono ?_; rintro e v6 ⟨⟨_, _, rfl⟩, hb6⟩; have T6 : Hid (Two w v6 X (.slice (some ⟨b, off, none⟩) 1 1) (.slice ua ul uc) (.slice (some ⟨g2, 0, none⟩) 1 cap2) (.slice ua ul uc)) := T5.out.step hb6; have D6 : Hid (Dim v6 (some ⟨g2, 0, none⟩) 1 cap2 ua ul uc ([0] ++ S.drop 1) U) := D5.out.below hb6; clear hb6; obtain ⟨⟨_, _, m0, m1⟩, _, m2, m3⟩ := T6.out)
          | (go_at_call 17; refine (kids_none _ _ _ _ _ _ _ _ _ _ _ D6.out GX J1.out J0.out).mono ?_; rintro e v7 ⟨⟨_, _, rfl⟩, hb7⟩)
          | (go_at_call 9; refine (wakes_any _).mono ?_; rintro e v9 ⟨rfl, hb9⟩))
        go_ret
        exact ⟨rfl, bt (bt T6.out.1.2.1 hb7) hb9⟩
      · have hc2 : ¬ sc ≤ 1 := by omega
        go_upto_region 18 with (first
          | (at_builtin; refine append_row Try.underlying22 info_int (by decide) rfl (.tmp 53) (.tmp 56) rfl W2.heap.size W2.heap.size 1 1 [0] rfl (own_lit W2 W2.heap.size 1 _ _ (Nat.le_refl _) rfl (by decide)) (some ⟨b, off + 1, none⟩) (sl - 1) (sc - 1) (S.drop 1) rfl (irow_tail (HD.out.below TW3.out.1.2.1).1 (by omega)) (by omega) (by simp) ?_; rw [show 1 + (sl - 1) = sl by omega]; intro g2 cap2 w4 hown2 hgrow2; have B2 : Below W2.heap.size W2 w4 := ((Below.refl _ _).alloc (Nat.le_refl _) _).grown hgrow2 (by simp) (fun k hk => by cases hk; exact Nat.le_refl _); have TW4 := TW2.out.step B2; have x0 := TW4.2.2.1; have x1 := TW4.2.2.2; have x2 := ((bcell B2).2 X 0 hXW).trans (fz 0)))
        have GX : Hid (good ([0] ++ S.drop 1) U = false) := bad_head (by omega)
        have TX := two_set0 (TW2.out.step B2) hwX (.slice (some ⟨g2, 0, none⟩) sl cap2)
        have DX := dim_sizes HD.out TX.1.2.1 (ownsRow_setCell_below hown2 (a := ⟨X, 0, none⟩) hXW (.slice (some ⟨g2, 0, none⟩) sl cap2)) (fun x hx => by
          rcases List.mem_append.mp hx with h | h
          · simp at h; subst h; unfold I64; omega
          · exact HD.out.2.2.1 x (List.mem_of_mem_drop h))
        obtain ⟨wx, hwx⟩ : ∃ wx, w4.setCell ⟨X, 0, none⟩ (.slice (some ⟨g2, 0, none⟩) sl cap2) = wx := ⟨_, rfl⟩
        rw [hwx] at TX DX ⊢
        have DX2 : Hid (Dim wx (some ⟨g2, 0, none⟩) sl cap2 ua ul uc ([0] ++ S.drop 1) U) := DX
        have T0 : Hid (Two w wx X (.slice (some ⟨b, off, none⟩) sl sc) (.slice ua ul uc) (.slice (some ⟨g2, 0, none⟩) sl cap2) (.slice ua ul uc)) := TX
        clear hwx TX DX x0 x1 x2 TW4 c0 c1 TW3
        obtain ⟨⟨_, _, y0, y1⟩, _, y2, y3⟩ := T0.out
        have tok : True := trivial
        have tok2 : True := trivial
        go_wp2_with (first
          | (go_at_call 15; refine (lift_none _ _ _ _ _ _ _ _ _ _ _ _ DX2.out GX J0.out J0.out J0.out).mono ?_; rintro e v1 ⟨rfl, hb1⟩; have T1 : Hid (Two w v1 X (.slice (some ⟨b, off, none⟩) sl sc) (.slice ua ul uc) (.slice (some ⟨g2, 0, none⟩) sl cap2) (.slice ua ul uc)) := T0.out.step hb1; have D1 : Hid (Dim v1 (some ⟨g2, 0, none⟩) sl cap2 ua ul uc ([0] ++ S.drop 1) U) := DX2.out.below hb1; clear hb1; obtain ⟨⟨_, _, z0, z1⟩, _, z2, z3⟩ := T1.out)
          | (go_at_call 18; clear tok; refine (good_is _ _ _ _ _ _ _ _ _ _ (HD.out.below T1.out.1.2.1) HG).mono ?_; rintro e v2 ⟨rfl, hb2⟩; have T2 : Hid (Two w v2 X (.slice (some ⟨b, off, none⟩) sl sc) (.slice ua ul uc) (.slice (some ⟨g2, 0, none⟩) sl cap2) (.slice ua ul uc)) := T1.out.step hb2; have D2 : Hid (Dim v2 (some ⟨g2, 0, none⟩) sl cap2 ua ul uc ([0] ++ S.drop 1) U) := D1.out.below hb2; clear hb2; obtain ⟨⟨_, _, p0, p1⟩, _, p2, p3⟩ := T2.out)
          | (go_at_call 18; refine (good_is _ _ _ _ _ _ _ _ _ _ D2.out GX).mono ?_; rintro e v3 ⟨rfl, hb3⟩; have T3 : Hid (Two w v3 X (.slice (some ⟨b, off, none⟩) sl sc) (.slice ua ul uc) (.slice (some ⟨g2, 0, none⟩) sl cap2) (.slice ua ul uc)) := T2.out.step hb3; have D3 : Hid (Dim v3 (some ⟨g2, 0, none⟩) sl cap2 ua ul uc ([0] ++ S.drop 1) U) := D2.out.below hb3; clear hb3; obtain ⟨⟨_, _, q0, q1⟩, _, q2, q3⟩ := T3.out)
          | (go_at_call 19; clear tok2; refine (size_none _ _ _ _ _ _ _ _ _ _ D3.out GX J0.out).mono ?_; rintro e v4 ⟨rfl, hb4⟩; have T4 : Hid (Two w v4 X (.slice (some ⟨b, off, none⟩) sl sc) (.slice ua ul uc) (.slice (some ⟨g2, 0, none⟩) sl cap2) (.slice ua ul uc)) := T3.out.step hb4; have D4 : Hid (Dim v4 (some ⟨g2, 0, none⟩) sl cap2 ua ul uc ([0] ++ S.drop 1) U) := D3.out.below hb4; clear hb4; obtain ⟨⟨_, _, r0, r1⟩, _, r2, r3⟩ := T4.out)
          | (go_at_call 19; refine (size_none _ _ _ _ _ _ _ _ _ _ D4.out GX HN.out).mono ?_; rintro e v5 ⟨rfl, hb5⟩; have T5 : Hid (Two w v5 X (.slice (some ⟨b, off, none⟩) sl sc) (.slice ua ul uc) (.slice (some ⟨g2, 0, none⟩) sl cap2) (.slice ua ul uc)) := T4.out.step hb5; have D5 : Hid (Dim v5 (some ⟨g2, 0, none⟩) sl cap2 ua ul uc ([0] ++ S.drop 1) U) := D4.out.below hb5; clear hb5; obtain ⟨⟨_, _, k0, k1⟩, _, k2, k3⟩ := T5.out)
          | (go_at_call 16; refine (under_none _ _ _ _ _ _ _ _ _ _ _ _ D5.out GX J1.out J0.out J0.out).mono ?_; rintro e v6 ⟨⟨_, _, rfl⟩, hb6⟩; have T6 : Hid (Two w v6 X (.slice (some ⟨b, off, none⟩) sl sc) (.slice ua ul uc) (.slice (some ⟨g2, 0, none⟩) sl cap2) (.slice ua ul uc)) := T5.out.step hb6; have D6 : Hid (Dim v6 (some ⟨g2, 0, none⟩) sl cap2 ua ul uc ([0] ++ S.drop 1) U) := D5.out.below hb6; clear hb6; obtain ⟨⟨_, _, m0, m1⟩, _, m2, m3⟩ := T6.out)
          | (go_at_call 17; refine (kids_none _ _ _ _ _ _ _ _ _ _ _ D6.out GX J1.out J0.out).mono ?_; rintro e v7 ⟨⟨_, _, rfl⟩, hb7⟩)
          | (go_at_call 9; refine (wakes_any _).mono ?_; rintro e v9 ⟨rfl, hb9⟩))
        go_ret
        exact ⟨rfl, bt (bt T6.out.1.2.1 hb7) hb9⟩
    · have TW3 : Hid (Two w (W2.alloc (.cells #[] 22)) X (.slice sa sl sc) (.slice ua ul uc) (.slice sa sl sc) (.slice ua ul uc)) := TW2.out.step ((Below.refl _ _).alloc (Nat.le_refl _) _)
      obtain ⟨⟨_, _, c0, c1⟩, _, _, _⟩ := TW3.out
      obtain ⟨vs, hrows, hsrc⟩ := rows_of HD.out.2.1
      have HR : Hid (Rows w vs U) := hrows
      have HS : Hid (Src w ua ul uc vs) := hsrc
      clear hrows hsrc
      go_upto_region 18 with (first
        | (at_builtin; refine append_vals Try.underlying23 info_row rfl (by decide) rfl (.tmp 61) (.tmp 63) rfl W2.heap.size W2.heap.size 0 0 [] rfl (own_made _ W2 W2.heap.size (Nat.le_refl _)) ua ul uc vs rfl (HS.out.below TW3.out.1.2.1) (by omega) (by simp) ?_; intro g1 cap1 w3 hown1 hgrow1; rw [Nat.zero_add, List.nil_append] at hown1; have B1 : Below W2.heap.size W2 w3 := ((Below.refl _ _).alloc (Nat.le_refl _) _).grown hgrow1 (by simp) (fun k hk => by cases hk; exact Nat.le_refl _); have s1 := B1.size)
        | (at_builtin; refine append_vals Try.underlying23 info_row rfl (by decide) rfl (.tmp 64) (.tmp 66) rfl W2.heap.size g1 ul cap1 vs rfl ((hown1.alloc _).alloc _) (some ⟨w3.heap.size + 1, 0, none⟩) 1 1 [.slice (some ⟨w3.heap.size, 0, none⟩) 1 1] rfl (src_one (by simp [go_sem]) rfl) (by omega) (by simp; omega) ?_; intro g2 cap2 w4 hown2 hgrow2; have B2 : Below W2.heap.size W2 w4 := ((B1.alloc s1 _).alloc (by simp; omega) _).grown hgrow2 (by simp; omega) (fun k hk => by cases hk; exact (hown1.lt _ rfl).1); have TW4 := TW2.out.step B2; have x0 := TW4.2.2.1; have x1 := TW4.2.2.2; have x2 := ((bcell B2).2 X 1 hXW).trans (fz 1)))
      have g1lt := (hown1.lt g1 rfl).2
      have zr : IRow .i64 w4 (some ⟨w3.heap.size, 0, none⟩) 1 1 [0] := (zero1 w3 _).grown2 hgrow2 (fun b off e => by cases e; omega)
      have zr2 := zr.set (G := X) (o := 1) (.slice (some ⟨g2, 0, none⟩) (ul + 1) cap2) (fun b off e => by cases e; omega)
      have GX : Hid (good S (U ++ [[0]]) = false) := bad_more [0] HG.out
      have TX := two_set1 (TW2.out.step B2) hwX (.slice (some ⟨g2, 0, none⟩) (ul + 1) cap2)
      have DX := dim_ups HD.out TX.1.2.1 (ownsRow_setCell_below hown2 (a := ⟨X, 1, none⟩) hXW (.slice (some ⟨g2, 0, none⟩) (ul + 1) cap2)) ((HR.out.below TX.1.2.1).app (rows_one zr2)) (fun l hl x hx => by
        rcases List.mem_append.mp hl with h | h
        · exact HD.out.2.2.2 l h x hx
        · simp at h; subst h; simp at hx; subst hx; exact J0.out)
      obtain ⟨wx, hwx⟩ : ∃ wx, w4.setCell ⟨X, 1, none⟩ (.slice (some ⟨g2, 0, none⟩) (ul + 1) cap2) = wx := ⟨_, rfl⟩
      rw [hwx] at TX DX ⊢
      have DX2 : Hid (Dim wx sa sl sc (some ⟨g2, 0, none⟩) (ul + 1) cap2 S (U ++ [[0]])) := DX
      have T0 : Hid (Two w wx X (.slice sa sl sc) (.slice ua ul uc) (.slice sa sl sc) (.slice (some ⟨g2, 0, none⟩) (ul + 1) cap2)) := TX
      clear hwx TX DX x0 x1 x2 TW4 c0 c1 TW3 zr zr2
      obtain ⟨⟨_, _, y0, y1⟩, _, y2, y3⟩ := T0.out
      have tok : True := trivial
      have tok2 : True := trivial
      go_wp2_with (first
        | (go_at_call 15; refine (lift_none _ _ _ _ _ _ _ _ _ _ _ _ DX2.out GX J0.out J0.out J0.out).mono ?_; rintro e v1 ⟨rfl, hb1⟩; have T1 : Hid (Two w v1 X (.slice sa sl sc) (.slice ua ul uc) (.slice sa sl sc) (.slice (some ⟨g2, 0, none⟩) (ul + 1) cap2)) := T0.out.step hb1; have D1 : Hid (Dim v1 sa sl sc (some ⟨g2, 0, none⟩) (ul + 1) cap2 S (U ++ [[0]])) := DX2.out.below hb1; clear hb1; obtain ⟨⟨_, _, z0, z1⟩, _, z2, z3⟩ := T1.out)
        | (go_at_call 18; clear tok; refine (good_is _ _ _ _ _ _ _ _ _ _ (HD.out.below T1.out.1.2.1) HG).mono ?_; rintro e v2 ⟨rfl, hb2⟩; have T2 : Hid (Two w v2 X (.slice sa sl sc) (.slice ua ul uc) (.slice sa sl sc) (.slice (some ⟨g2, 0, none⟩) (ul + 1) cap2)) := T1.out.step hb2; have D2 : Hid (Dim v2 sa sl sc (some ⟨g2, 0, none⟩) (ul + 1) cap2 S (U ++ [[0]])) := D1.out.below hb2; clear hb2; obtain ⟨⟨_, _, p0, p1⟩, _, p2, p3⟩ := T2.out)
        | (go_at_call 18; refine (good_is _ _ _ _ _ _ _ _ _ _ D2.out GX).mono ?_; rintro e v3 ⟨rfl, hb3⟩; have T3 : Hid (Two w v3 X (.slice sa sl sc) (.slice ua ul uc) (.slice sa sl sc) (.slice (some ⟨g2, 0, none⟩) (ul + 1) cap2)) := T2.out.step hb3; have D3 : Hid (Dim v3 sa sl sc (some ⟨g2, 0, none⟩) (ul + 1) cap2 S (U ++ [[0]])) := D2.out.below hb3; clear hb3; obtain ⟨⟨_, _, q0, q1⟩, _, q2, q3⟩ := T3.out)
        | (go_at_call 19; clear tok2; refine (size_none _ _ _ _ _ _ _ _ _ _ D3.out GX J0.out).mono ?_; rintro e v4 ⟨rfl, hb4⟩; have T4 : Hid (Two w v4 X (.slice sa sl sc) (.slice ua ul uc) (.slice sa sl sc) (.slice (some ⟨g2, 0, none⟩) (ul + 1) cap2)) := T3.out.step hb4; have D4 : Hid (Dim v4 sa sl sc (some ⟨g2, 0, none⟩) (ul + 1) cap2 S (U ++ [[0]])) := D3.out.below hb4; clear hb4; obtain ⟨⟨_, _, r0, r1⟩, _, r2, r3⟩ := T4.out)
        | (go_at_call 19; refine (size_none _ _ _ _ _ _ _ _ _ _ D4.out GX HN.out).mono ?_; rintro e v5 ⟨rfl, hb5⟩; have T5 : Hid (Two w v5 X (.slice sa sl sc) (.slice ua ul uc) (.slice sa sl sc) (.slice (some ⟨g2, 0, none⟩) (ul + 1) cap2)) := T4.out.step hb5; have D5 : Hid (Dim v5 sa sl sc (some ⟨g2, 0, none⟩) (ul + 1) cap2 S (U ++ [[0]])) := D4.out.below hb5; clear hb5; obtain ⟨⟨_, _, k0, k1⟩, _, k2, k3⟩ := T5.out)
        | (go_at_call 16; refine (under_none _ _ _ _ _ _ _ _ _ _ _ _ D5.out GX J1.out J0.out J0.out).mono ?_; rintro e v6 ⟨⟨_, _, rfl⟩, hb6⟩; have T6 : Hid (Two w v6 X (.slice sa sl sc) (.slice ua ul uc) (.slice sa sl sc) (.slice (some ⟨g2, 0, none⟩) (ul + 1) cap2)) := T5.out.step hb6; have D6 : Hid (Dim v6 sa sl sc (some ⟨g2, 0, none⟩) (ul + 1) cap2 S (U ++ [[0]])) := D5.out.below hb6; clear hb6; obtain ⟨⟨_, _, m0, m1⟩, _, m2, m3⟩ := T6.out)
        | (go_at_call 17; refine (kids_none _ _ _ _ _ _ _ _ _ _ _ D6.out GX J1.out J0.out).mono ?_; rintro e v7 ⟨⟨_, _, rfl⟩, hb7⟩)
        | (go_at_call 9; refine (wakes_any _).mono ?_; rintro e v9 ⟨rfl, hb9⟩))
      go_ret
      exact ⟨rfl, bt (bt T6.out.1.2.1 hb7) hb9⟩
    · have TW3 : Hid (Two w (W2.alloc (.cells #[.int .i64 41] 3)) X (.slice sa sl sc) (.slice ua ul uc) (.slice sa sl sc) (.slice ua ul uc)) := TW2.out.step ((Below.refl _ _).alloc (Nat.le_refl _) _)
      obtain ⟨⟨_, _, c0, c1⟩, _, _, _⟩ := TW3.out
      obtain ⟨b, off, rfl, hb0, _, _⟩ := HD.out.size_cell (k := 0) (by omega)
      by_cases hc1 : sc = 1
      · obtain rfl : sl = 1 := by omega
        subst hc1
        have hdr : Hid (S.drop 1 = []) := List.length_eq_zero_iff.mp (by rw [List.length_drop, ← E1.out])
        go_upto_region 18 with (first
          | (at_builtin; refine append_row Try.underlying22 info_int (by decide) rfl (.tmp 71) (.tmp 74) rfl W2.heap.size W2.heap.size 1 1 [41] rfl (own_lit W2 W2.heap.size 1 _ _ (Nat.le_refl _) rfl (by decide)) (some ⟨b, off, none⟩) (1 - 1) (1 - 1) (S.drop 1) rfl (by rw [hdr.out]; exact irow_none) (by omega) (by simp) ?_; rw [show 1 + (1 - 1) = 1 by omega]; intro g2 cap2 w4 hown2 hgrow2; have B2 : Below W2.heap.size W2 w4 := ((Below.refl _ _).alloc (Nat.le_refl _) _).grown hgrow2 (by simp) (fun k hk => by cases hk; exact Nat.le_refl _); have TW4 := TW2.out.step B2; have x0 := TW4.2.2.1; have x1 := TW4.2.2.2; have x2 := ((bcell B2).2 X 0 hXW).trans (fz 0)))
        have GX : Hid (good ([41] ++ S.drop 1) U = false) := bad_head (by omega)
        have TX := two_set0 (TW2.out.step B2) hwX (.slice (some ⟨g2, 0, none⟩) 1 cap2)
        have DX := dim_sizes HD.out TX.1.2.1 (ownsRow_setCell_below hown2 (a := ⟨X, 0, none⟩) hXW (.slice (some ⟨g2, 0, none⟩) 1 cap2)) (fun x hx => by
          rcases List.mem_append.mp hx with h | h
          · simp at h; subst h; unfold I64; omega
          · exact HD.out.2.2.1 x (List.mem_of_mem_drop h))
        obtain ⟨wx, hwx⟩ : ∃ wx, w4.setCell ⟨X, 0, none⟩ (.slice (some ⟨g2, 0, none⟩) 1 cap2) = wx := ⟨_, rfl⟩
        rw [hwx] at TX DX ⊢
        have DX2 : Hid (Dim wx (some ⟨g2, 0, none⟩) 1 cap2 ua ul uc ([41] ++ S.drop 1) U) := DX
        have T0 : Hid (Two w wx X (.slice (some ⟨b, off, none⟩) 1 1) (.slice ua ul uc) (.slice (some ⟨g2, 0, none⟩) 1 cap2) (.slice ua ul uc)) := TX
        clear hwx TX DX x0 x1 x2 TW4 c0 c1 TW3
        obtain ⟨⟨_, _, y0, y1⟩, _, y2, y3⟩ := T0.out
        have tok : True := trivial
        have tok2 : True := trivial
        go_wp2_with (first
          | (go_at_call 15; refine (lift_none _ _ _ _ _ _ _ _ _ _ _ _ DX2.out GX J0.out J0.out J0.out).mono ?_; rintro e v1 ⟨rfl, hb1⟩; have T1 : Hid (Two w v1 X (.slice (some ⟨b, off, none⟩) 1 1) (.slice ua ul uc) (.slice (some ⟨g2, 0, none⟩) 1 cap2) (.slice ua ul uc)) := T0.out.step hb1; have D1 : Hid (Dim v1 (some ⟨g2, 0, none⟩) 1 cap2 ua ul uc ([41] ++ S.drop 1) U) := DX2.out.below hb1; clear hb1; obtain ⟨⟨_, _, z0, z1⟩, _, z2, z3⟩ := T1.out)
          | (go_at_call 18; clear tok; refine (good_is _ _ _ _ _ _ _ _ _ _ (HD.out.below T1.out.1.2.1) HG).mono ?_; rintro e v2 ⟨rfl, hb2⟩; have T2 : Hid (Two w v2 X (.slice (some ⟨b, off, none⟩) 1 1) (.slice ua ul uc) (.slice (some ⟨g2, 0, none⟩) 1 cap2) (.slice ua ul uc)) := T1.out.step hb2; have D2 : Hid (Dim v2 (some ⟨g2, 0, none⟩) 1 cap2 ua ul uc ([41] ++ S.drop 1) U) := D1.out.below hb2; clear hb2; obtain ⟨⟨_, _, p0, p1⟩, _, p2, p3⟩ := T2.out)
          | (go_at_call 18; refine (good_is _ _ _ _ _ _ _ _ _ _ D2.out GX).mono ?_; rintro e v3 ⟨rfl, hb3⟩; have T3 : Hid (Two w v3 X (.slice (some ⟨b, off, none⟩) 1 1) (.slice ua ul uc) (.slice (some ⟨g2, 0, none⟩) 1 cap2) (.slice ua ul uc)) := T2.out.step hb3; have D3 : Hid (Dim v3 (some ⟨g2, 0, none⟩) 1 cap2 ua ul uc ([41] ++ S.drop 1) U) := D2.out.below hb3; clear hb3; obtain ⟨⟨_, _, q0, q1⟩, _, q2, q3⟩ := T3.out)
          | (go_at_call 19; clear tok2; refine (size_none _ _ _ _ _ _ _ _ _ _ D3.out GX J0.out).mono ?_; rintro e v4 ⟨rfl, hb4⟩; have T4 : Hid (Two w v4 X (.slice (some ⟨b, off, none⟩) 1 1) (.slice ua ul uc) (.slice (some ⟨g2, 0, none⟩) 1 cap2) (.slice ua ul uc)) := T3.out.step hb4; have D4 : Hid (Dim v4 (some ⟨g2, 0, none⟩) 1 cap2 ua ul uc ([41] ++ S.drop 1) U) := D3.out.below hb4; clear hb4; obtain ⟨⟨_, _, r0, r1⟩, _, r2, r3⟩ := T4.out)
          | (go_at_call 19; refine (size_none _ _ _ _ _ _ _ _ _ _ D4.out GX HN.out).mono ?_; rintro e v5 ⟨rfl, hb5⟩; have T5 : Hid (Two w v5 X (.slice (some ⟨b, off, none⟩) 1 1) (.slice ua ul uc) (.slice (some ⟨g2, 0, none⟩) 1 cap2) (.slice ua ul uc)) := T4.out.step hb5; have D5 : Hid (Dim v5 (some ⟨g2, 0, none⟩) 1 cap2 ua ul uc ([41] ++ S.drop 1) U) := D4.out.below hb5; clear hb5; obtain ⟨⟨_, _, k0, k1⟩, _, k2, k3⟩ := T5.out)
          | (go_at_call 16; refine (under_none _ _ _ _ _ _ _ _ _ _ _ _ D5.out GX J1.out J0.out J0.out).mono ?_; rintro e v6 ⟨⟨_, _, rfl⟩, hb6⟩; have T6 : Hid (Two w v6 X (.slice (some ⟨b, off, none⟩) 1 1) (.slice ua ul uc) (.slice (some ⟨g2, 0, none⟩) 1 cap2) (.slice ua ul uc)) := T5.out.step hb6; have D6 : Hid (Dim v6 (some ⟨g2, 0, none⟩) 1 cap2 ua ul uc ([41] ++ S.drop 1) U) := D5.out.below hb6; clear hb6; obtain ⟨⟨_, _, m0, m1⟩, _, m2, m3⟩ := T6.out)
          | (go_at_call 17; refine (kids_none _ _ _ _ _ _ _ _ _ _ _ D6.out GX J1.out J0.out).mono ?_; rintro e v7 ⟨⟨_, _, rfl⟩, hb7⟩)
          | (go_at_call 9; refine (wakes_any _).mono ?_; rintro e v9 ⟨rfl, hb9⟩))
        go_ret
        exact ⟨rfl, bt (bt T6.out.1.2.1 hb7) hb9⟩
      · have hc2 : ¬ sc ≤ 1 := by omega
        go_upto_region 18 with (first
          | (at_builtin; refine append_row Try.underlying22 info_int (by decide) rfl (.tmp 71) (.tmp 74) rfl W2.heap.size W2.heap.size 1 1 [41] rfl (own_lit W2 W2.heap.size 1 _ _ (Nat.le_refl _) rfl (by decide)) (some ⟨b, off + 1, none⟩) (sl - 1) (sc - 1) (S.drop 1) rfl (irow_tail (HD.out.below TW3.out.1.2.1).1 (by omega)) (by omega) (by simp) ?_; rw [show 1 + (sl - 1) = sl by omega]; intro g2 cap2 w4 hown2 hgrow2; have B2 : Below W2.heap.size W2 w4 := ((Below.refl _ _).alloc (Nat.le_refl _) _).grown hgrow2 (by simp) (fun k hk => by cases hk; exact Nat.le_refl _); have TW4 := TW2.out.step B2; have x0 := TW4.2.2.1; have x1 := TW4.2.2.2; have x2 := ((bcell B2).2 X 0 hXW).trans (fz 0)))
        have GX : Hid (good ([41] ++ S.drop 1) U = false) := bad_head (by omega)
        have TX := two_set0 (TW2.out.step B2) hwX (.slice (some ⟨g2, 0, none⟩) sl cap2)
        have DX := dim_sizes HD.out TX.1.2.1 (ownsRow_setCell_below hown2 (a := ⟨X, 0, none⟩) hXW (.slice (some ⟨g2, 0, none⟩) sl cap2)) (fun x hx => by
          rcases List.mem_append.mp hx with h | h
          · simp at h; subst h; unfold I64; omega
          · exact HD.out.2.2.1 x (List.mem_of_mem_drop h))
        obtain ⟨wx, hwx⟩ : ∃ wx, w4.setCell ⟨X, 0, none⟩ (.slice (some ⟨g2, 0, none⟩) sl cap2) = wx := ⟨_, rfl⟩
        rw [hwx] at TX DX ⊢
        have DX2 : Hid (Dim wx (some ⟨g2, 0, none⟩) sl cap2 ua ul uc ([41] ++ S.drop 1) U) := DX
        have T0 : Hid (Two w wx X (.slice (some ⟨b, off, none⟩) sl sc) (.slice ua ul uc) (.slice (some ⟨g2, 0, none⟩) sl cap2) (.slice ua ul uc)) := TX
        clear hwx TX DX x0 x1 x2 TW4 c0 c1 TW3
        obtain ⟨⟨_, _, y0, y1⟩, _, y2, y3⟩ := T0.out
        have tok : True := trivial
        have tok2 : True := trivial
        go_wp2_with (first
          | (go_at_call 15; refine (lift_none _ _ _ _ _ _ _ _ _ _ _ _ DX2.out GX J0.out J0.out J0.out).mono ?_; rintro e v1 ⟨rfl, hb1⟩; have T1 : Hid (Two w v1 X (.slice (some ⟨b, off, none⟩) sl sc) (.slice ua ul uc) (.slice (some ⟨g2, 0, none⟩) sl cap2) (.slice ua ul uc)) := T0.out.step hb1; have D1 : Hid (Dim v1 (some ⟨g2, 0, none⟩) sl cap2 ua ul uc ([41] ++ S.drop 1) U) := DX2.out.below hb1; clear hb1; obtain ⟨⟨_, _, z0, z1⟩, _, z2, z3⟩ := T1.out)
          | (go_at_call 18; clear tok; refine (good_is _ _ _ _ _ _ _ _ _ _ (HD.out.below T1.out.1.2.1) HG).mono ?_; rintro e v2 ⟨rfl, hb2⟩; have T2 : Hid (Two w v2 X (.slice (some ⟨b, off, none⟩) sl sc) (.slice ua ul uc) (.slice (some ⟨g2, 0, none⟩) sl cap2) (.slice ua ul uc)) := T1.out.step hb2; have D2 : Hid (Dim v2 (some ⟨g2, 0, none⟩) sl cap2 ua ul uc ([41] ++ S.drop 1) U) := D1.out.below hb2; clear hb2; obtain ⟨⟨_, _, p0, p1⟩, _, p2, p3⟩ := T2.out)
          | (go_at_call 18; refine (good_is _ _ _ _ _ _ _ _ _ _ D2.out GX).mono ?_; rintro e v3 ⟨rfl, hb3⟩; have T3 : Hid (Two w v3 X (.slice (some ⟨b, off, none⟩) sl sc) (.slice ua ul uc) (.slice (some ⟨g2, 0, none⟩) sl cap2) (.slice ua ul uc)) := T2.out.step hb3; have D3 : Hid (Dim v3 (some ⟨g2, 0, none⟩) sl cap2 ua ul uc ([41] ++ S.drop 1) U) := D2.out.below hb3; clear hb3; obtain ⟨⟨_, _, q0, q1⟩, _, q2, q3⟩ := T3.out)
          | (go_at_call 19; clear tok2; refine (size_none _ _ _ _ _ _ _ _ _ _ D3.out GX J0.out).mono ?_; rintro e v4 ⟨rfl, hb4⟩; have T4 : Hid (Two w v4 X (.slice (some ⟨b, off, none⟩) sl sc) (.slice ua ul uc) (.slice (some ⟨g2, 0, none⟩) sl cap2) (.slice ua ul uc)) := T3.out.step hb4; have D4 : Hid (Dim v4 (some ⟨g2, 0, none⟩) sl cap2 ua ul uc ([41] ++ S.drop 1) U) := D3.out.below hb4; clear hb4; obtain ⟨⟨_, _, r0, r1⟩, _, r2, r3⟩ := T4.out)
          | (go_at_call 19; refine (size_none _ _ _ _ _ _ _ _ _ _ D4.out GX HN.out).mono ?_; rintro e v5 ⟨rfl, hb5⟩; have T5 : Hid (Two w v5 X (.slice (some ⟨b, off, none⟩) sl sc) (.slice ua ul uc) (.slice (some ⟨g2, 0, none⟩) sl cap2) (.slice ua ul uc)) := T4.out.step hb5; have D5 : Hid (Dim v5 (some ⟨g2, 0, none⟩) sl cap2 ua ul uc ([41] ++ S.drop 1) U) := D4.out.below hb5; clear hb5; obtain ⟨⟨_, _, k0, k1⟩, _, k2, k3⟩ := T5.out)
          | (go_at_call 16; refine (under_none _ _ _ _ _ _ _ _ _ _ _ _ D5.out GX J1.out J0.out J0.out).mono ?_; rintro e v6 ⟨⟨_, _, rfl⟩, hb6⟩; have T6 : Hid (Two w v6 X (.slice (some ⟨b, off, none⟩) sl sc) (.slice ua ul uc) (.slice (some ⟨g2, 0, none⟩) sl cap2) (.slice ua ul uc)) := T5.out.step hb6; have D6 : Hid (Dim v6 (some ⟨g2, 0, none⟩) sl cap2 ua ul uc ([41] ++ S.drop 1) U) := D5.out.below hb6; clear hb6; obtain ⟨⟨_, _, m0, m1⟩, _, m2, m3⟩ := T6.out)
          | (go_at_call 17; refine (kids_none _ _ _ _ _ _ _ _ _ _ _ D6.out GX J1.out J0.out).mono ?_; rintro e v7 ⟨⟨_, _, rfl⟩, hb7⟩)
          | (go_at_call 9; refine (wakes_any _).mono ?_; rintro e v9 ⟨rfl, hb9⟩))
        go_ret
        exact ⟨rfl, bt (bt T6.out.1.2.1 hb7) hb9⟩
    · by_cases hu0 : ul = 0
      · subst hu0
        obtain ⟨⟨_, _, c0, c1⟩, _, _, _⟩ := TW2.out
        go_wp2_with (go_at_call 9; refine (wakes_any _).mono ?_; rintro e w9 ⟨rfl, hb9⟩)
        go_ret
        exact ⟨rfl, bt TW2.out.1.2.1 hb9⟩
      have hu1 : ((ul : Int) == 0) = false := by simp; omega
      have hu2 : (0 : Int) < (ul : Int) := by omega
      have TW3 : Hid (Two w (W2.alloc (.cells #[] 3)) X (.slice sa sl sc) (.slice ua ul uc) (.slice sa sl sc) (.slice ua ul uc)) := TW2.out.step ((Below.refl _ _).alloc (Nat.le_refl _) _)
      obtain ⟨vs, hrows, hsrc⟩ := rows_of HD.out.2.1
      have HR : Hid (Rows w vs U) := hrows
      have HS : Hid (Src w ua ul uc vs) := hsrc
      obtain ⟨b, off, rfl, hb0, hcell, hi64⟩ := HD.out.size_cell (k := 0) (by omega)
      have hsl2 : 2 ≤ sl := by have := HUL.out; omega
      have hsl3 : (1 : Int) < (sl : Int) := by omega
      have hcS := hcell 1 (by omega)
      have hiS := hi64 1 (by omega)
      obtain ⟨b2, off2, rfl, hb2, ra, rl, rc, hcu, hru, hlu⟩ := HD.out.up_cell (k := 0) (by omega)
      rw [Nat.add_zero] at hcu
      have hrl : rl = (U.getD 0 []).length := hru.1
      have hrS : ((U.getD 0 []).length : Int) = S.getD 0 0 := ((good_p HG.out).2.2.2.2 0 (by rw [← E2.out]; omega)).1
      have hrb := sizes_bd HG.out (k := 0) (by rw [← E1.out]; omega)
      obtain ⟨s1, hs1v⟩ : ∃ s1, S.getD 1 0 = s1 := ⟨_, rfl⟩
      obtain ⟨l0, hl0⟩ : ∃ l0, U.getD 0 [] = l0 := ⟨_, rfl⟩
      rw [hs1v] at hcS hiS
      rw [hl0] at hru hlu hrl hrS
      have HS1 : Hid (S.getD 1 0 = s1) := hs1v
      have hS1i : Hid (I64 s1) := hiS
      have HL0 : Hid (∀ x ∈ l0, I64 x) := hlu
      have HRU : Hid (IRow .i64 w ra rl rc l0) := hru
      have hrl1 : 1 ≤ rl := by omega
      have hrl40 : rl ≤ 40 := by omega
      have hrli : (0 : Int) < (rl : Int) := by omega
      have hset0 : Hid (l0.set 0 s1 = s1 :: l0.drop 1) := by
        show _ = _
        cases l0 with
        | nil => simp at hrl; omega
        | cons y r => rfl
      clear hrows hsrc hcell hi64 hs1v hl0 hru hlu hrl hrS hrb hiS
      have T2 := TW2.out.1.2.1
      have T3 := TW3.out.1.2.1
      obtain ⟨⟨_, _, c2, c3⟩, _, _, _⟩ := TW2.out
      obtain ⟨⟨_, _, c0, c1⟩, _, _, _⟩ := TW3.out
      have c4 := ((bcell T3).1 _ _ hb2).trans hcu
      go_upto_region 9 with (first
        | (at_builtin; refine append_row Try.underlying22 info_int (by decide) rfl (.tmp 23) (.tmp 27) rfl W2.heap.size W2.heap.size 0 0 [] rfl (own_made _ W2 W2.heap.size (Nat.le_refl _)) ra rl rc l0 rfl (HRU.out.below T3) (by omega) (by simp) ?_; intro g1 cap1 w3 hown1 hgrow1; rw [Nat.zero_add, List.nil_append] at hown1; have B1 : Below W2.heap.size W2 w3 := ((Below.refl _ _).alloc (Nat.le_refl _) _).grown hgrow1 (by simp) (fun k hk => by cases hk; exact Nat.le_refl _); have TW4 := TW2.out.step B1; have TB := TW4.1.2.1; obtain ⟨⟨_, _, d0, d1⟩, _, _, _⟩ := TW4; have d2 := ((bcell TB).1 _ _ hb0).trans hcS; have d3 : w3.cell? ⟨g1, 0, none⟩ = some (.int .i64 (l0.getD 0 0)) := own_first hown1 hrl1; have d4 := hown1.frozenAt 0))
      have g1ge := (hown1.lt g1 rfl).1
      have OW4 : Hid ((w3.setCell ⟨g1, 0, none⟩ (.int .i64 s1)).ownsRow W2.heap.size 3 1 (.slice (some ⟨g1, 0, none⟩) rl cap1) rl (vals .i64 (l0.set 0 s1))) := own_set hown1 0 s1
      have B4 : Below W2.heap.size W2 (w3.setCell ⟨g1, 0, none⟩ (.int .i64 s1)) := B1.setCell (p := ⟨g1, 0, none⟩) g1ge _
      obtain ⟨W4, hW4⟩ : ∃ W4, w3.setCell ⟨g1, 0, none⟩ (.int .i64 s1) = W4 := ⟨_, rfl⟩
      rw [hW4] at OW4 B4 ⊢
      have s4 := B4.size
      have g1lt := (OW4.out.lt g1 rfl).2
      have TW5 : Hid (Two w (W4.alloc (.cells #[.slice (some ⟨g1, 0, none⟩) rl cap1] 22)) X (.slice (some ⟨b, off, none⟩) sl sc) (.slice (some ⟨b2, off2, none⟩) ul uc) (.slice (some ⟨b, off, none⟩) sl sc) (.slice (some ⟨b2, off2, none⟩) ul uc)) := TW2.out.step (B4.alloc s4 _)
      obtain ⟨⟨_, _, e0, e1⟩, _, _, _⟩ := TW5.out
      have TB5 := TW5.out.1.2.1
      clear hW4 d0 d1 d2 d3 d4 c0 c1 c2 c3 c4 hgrow1 hown1 B1 TB TW3 TW5
      have huc : ul ≤ uc := HD.out.2.1.2.1
      by_cases hc1 : uc = 1
      · obtain rfl : ul = 1 := by omega
        subst hc1
        go_upto_region 18 with (first
          | (at_builtin; refine append_vals Try.underlying23 info_row rfl (by decide) rfl (.tmp 36) (.tmp 39) rfl W2.heap.size W4.heap.size 1 1 [.slice (some ⟨g1, 0, none⟩) rl cap1] rfl (own_lit W4 W2.heap.size 1 _ _ s4 rfl (by decide)) (some ⟨b2, off2, none⟩) (1 - 1) (1 - 1) (vs.drop 1) rfl (src_none (HS.out.below TB5) (Nat.le_refl _) _) (by omega) (by simp; omega) ?_; rw [show 1 + (1 - 1) = 1 by omega]; intro g2 cap2 w5 hown2 hgrow2; have B5 : Below W2.heap.size W2 w5 := (B4.alloc s4 _).grown hgrow2 (by simp; omega) (fun k hk => by cases hk; exact s4); have TW5 := TW2.out.step B5; have x0 := TW5.2.2.1; have x1 := TW5.2.2.2; have x2 := ((bcell B5).2 X 1 hXW).trans (fz 1)))
        have r5 : IRow .i64 w5 (some ⟨g1, 0, none⟩) rl cap1 (l0.set 0 s1) := (((own_row OW4.out).below ((Below.refl _ _).alloc (Nat.le_refl _) _)).grown2 hgrow2 (fun b off e => by cases e; omega))
        have r6 := r5.set (G := X) (o := 1) (.slice (some ⟨g2, 0, none⟩) 1 cap2) (fun b off e => by cases e; omega)
        have GX : Hid (good S ([l0.set 0 s1] ++ U.drop 1) = false) := by
          show _ = _
          rw [hset0.out, ← HS1.out]
          exact bad_up
        have TX := two_set1 (TW2.out.step B5) hwX (.slice (some ⟨g2, 0, none⟩) 1 cap2)
        have DX := dim_ups HD.out TX.1.2.1 (ownsRow_setCell_below hown2 (a := ⟨X, 1, none⟩) hXW (.slice (some ⟨g2, 0, none⟩) 1 cap2)) ((rows_one r6).app ((HR.out.below TX.1.2.1).drop)) (fun l hl x hx => by
          rcases List.mem_append.mp hl with h | h
          · simp at h
            subst h
            rcases List.mem_or_eq_of_mem_set hx with h | h
            · exact HL0.out x h
            · subst h; exact hS1i.out
          · exact HD.out.2.2.2 l (List.mem_of_mem_drop h) x hx)
        obtain ⟨wx, hwx⟩ : ∃ wx, w5.setCell ⟨X, 1, none⟩ (.slice (some ⟨g2, 0, none⟩) 1 cap2) = wx := ⟨_, rfl⟩
        rw [hwx] at TX DX ⊢
        have DX2 : Hid (Dim wx (some ⟨b, off, none⟩) sl sc (some ⟨g2, 0, none⟩) 1 cap2 S ([l0.set 0 s1] ++ U.drop 1)) := DX
        have T0 : Hid (Two w wx X (.slice (some ⟨b, off, none⟩) sl sc) (.slice (some ⟨b2, off2, none⟩) 1 1) (.slice (some ⟨b, off, none⟩) sl sc) (.slice (some ⟨g2, 0, none⟩) 1 cap2)) := TX
        clear hwx TX DX x0 x1 x2 TW5 e0 e1 r5 r6
        obtain ⟨⟨_, _, y0, y1⟩, _, y2, y3⟩ := T0.out
        have tok : True := trivial
        have tok2 : True := trivial
        go_wp2_with (first
          | (go_at_call 15; refine (lift_none _ _ _ _ _ _ _ _ _ _ _ _ DX2.out GX J0.out J0.out J0.out).mono ?_; rintro e v1 ⟨rfl, hb1⟩; have T1 : Hid (Two w v1 X (.slice (some ⟨b, off, none⟩) sl sc) (.slice (some ⟨b2, off2, none⟩) 1 1) (.slice (some ⟨b, off, none⟩) sl sc) (.slice (some ⟨g2, 0, none⟩) 1 cap2)) := T0.out.step hb1; have D1 : Hid (Dim v1 (some ⟨b, off, none⟩) sl sc (some ⟨g2, 0, none⟩) 1 cap2 S ([l0.set 0 s1] ++ U.drop 1)) := DX2.out.below hb1; clear hb1; obtain ⟨⟨_, _, z0, z1⟩, _, z2, z3⟩ := T1.out)
          | (go_at_call 18; clear tok; refine (good_is _ _ _ _ _ _ _ _ _ _ (HD.out.below T1.out.1.2.1) HG).mono ?_; rintro e v2 ⟨rfl, hb2⟩; have T2 : Hid (Two w v2 X (.slice (some ⟨b, off, none⟩) sl sc) (.slice (some ⟨b2, off2, none⟩) 1 1) (.slice (some ⟨b, off, none⟩) sl sc) (.slice (some ⟨g2, 0, none⟩) 1 cap2)) := T1.out.step hb2; have D2 : Hid (Dim v2 (some ⟨b, off, none⟩) sl sc (some ⟨g2, 0, none⟩) 1 cap2 S ([l0.set 0 s1] ++ U.drop 1)) := D1.out.below hb2; clear hb2; obtain ⟨⟨_, _, p0, p1⟩, _, p2, p3⟩ := T2.out)
          | (go_at_call 18; refine (good_is _ _ _ _ _ _ _ _ _ _ D2.out GX).mono ?_; rintro e v3 ⟨rfl, hb3⟩; have T3 : Hid (Two w v3 X (.slice (some ⟨b, off, none⟩) sl sc) (.slice (some ⟨b2, off2, none⟩) 1 1) (.slice (some ⟨b, off, none⟩) sl sc) (.slice (some ⟨g2, 0, none⟩) 1 cap2)) := T2.out.step hb3; have D3 : Hid (Dim v3 (some ⟨b, off, none⟩) sl sc (some ⟨g2, 0, none⟩) 1 cap2 S ([l0.set 0 s1] ++ U.drop 1)) := D2.out.below hb3; clear hb3; obtain ⟨⟨_, _, q0, q1⟩, _, q2, q3⟩ := T3.out)
          | (go_at_call 19; clear tok2; refine (size_none _ _ _ _ _ _ _ _ _ _ D3.out GX J0.out).mono ?_; rintro e v4 ⟨rfl, hb4⟩; have T4 : Hid (Two w v4 X (.slice (some ⟨b, off, none⟩) sl sc) (.slice (some ⟨b2, off2, none⟩) 1 1) (.slice (some ⟨b, off, none⟩) sl sc) (.slice (some ⟨g2, 0, none⟩) 1 cap2)) := T3.out.step hb4; have D4 : Hid (Dim v4 (some ⟨b, off, none⟩) sl sc (some ⟨g2, 0, none⟩) 1 cap2 S ([l0.set 0 s1] ++ U.drop 1)) := D3.out.below hb4; clear hb4; obtain ⟨⟨_, _, r0, r1⟩, _, r2, r3⟩ := T4.out)
          | (go_at_call 19; refine (size_none _ _ _ _ _ _ _ _ _ _ D4.out GX HN.out).mono ?_; rintro e v5 ⟨rfl, hb5⟩; have T5 : Hid (Two w v5 X (.slice (some ⟨b, off, none⟩) sl sc) (.slice (some ⟨b2, off2, none⟩) 1 1) (.slice (some ⟨b, off, none⟩) sl sc) (.slice (some ⟨g2, 0, none⟩) 1 cap2)) := T4.out.step hb5; have D5 : Hid (Dim v5 (some ⟨b, off, none⟩) sl sc (some ⟨g2, 0, none⟩) 1 cap2 S ([l0.set 0 s1] ++ U.drop 1)) := D4.out.below hb5; clear hb5; obtain ⟨⟨_, _, k0, k1⟩, _, k2, k3⟩ := T5.out)
          | (go_at_call 16; refine (under_none _ _ _ _ _ _ _ _ _ _ _ _ D5.out GX J1.out J0.out J0.out).mono ?_; rintro e v6 ⟨⟨_, _, rfl⟩, hb6⟩; have T6 : Hid (Two w v6 X (.slice (some ⟨b, off, none⟩) sl sc) (.slice (some ⟨b2, off2, none⟩) 1 1) (.slice (some ⟨b, off, none⟩) sl sc) (.slice (some ⟨g2, 0, none⟩) 1 cap2)) := T5.out.step hb6; have D6 : Hid (Dim v6 (some ⟨b, off, none⟩) sl sc (some ⟨g2, 0, none⟩) 1 cap2 S ([l0.set 0 s1] ++ U.drop 1)) := D5.out.below hb6; clear hb6; obtain ⟨⟨_, _, m0, m1⟩, _, m2, m3⟩ := T6.out)
          | (go_at_call 17; refine (kids_none _ _ _ _ _ _ _ _ _ _ _ D6.out GX J1.out J0.out).mono ?_; rintro e v7 ⟨⟨_, _, rfl⟩, hb7⟩)
          | (go_at_call 9; refine (wakes_any _).mono ?_; rintro e v9 ⟨rfl, hb9⟩))
        go_ret
        exact ⟨rfl, bt (bt T6.out.1.2.1 hb7) hb9⟩
      · have hc2 : ¬ uc ≤ 1 := by omega
        go_upto_region 18 with (first
          | (at_builtin; refine append_vals Try.underlying23 info_row rfl (by decide) rfl (.tmp 36) (.tmp 39) rfl W2.heap.size W4.heap.size 1 1 [.slice (some ⟨g1, 0, none⟩) rl cap1] rfl (own_lit W4 W2.heap.size 1 _ _ s4 rfl (by decide)) (some ⟨b2, off2 + 1, none⟩) (ul - 1) (uc - 1) (vs.drop 1) rfl (src_tail (HS.out.below TB5) _) (by omega) (by simp; omega) ?_; rw [show 1 + (ul - 1) = ul by omega]; intro g2 cap2 w5 hown2 hgrow2; have B5 : Below W2.heap.size W2 w5 := (B4.alloc s4 _).grown hgrow2 (by simp; omega) (fun k hk => by cases hk; exact s4); have TW5 := TW2.out.step B5; have x0 := TW5.2.2.1; have x1 := TW5.2.2.2; have x2 := ((bcell B5).2 X 1 hXW).trans (fz 1)))
        have r5 : IRow .i64 w5 (some ⟨g1, 0, none⟩) rl cap1 (l0.set 0 s1) := (((own_row OW4.out).below ((Below.refl _ _).alloc (Nat.le_refl _) _)).grown2 hgrow2 (fun b off e => by cases e; omega))
        have r6 := r5.set (G := X) (o := 1) (.slice (some ⟨g2, 0, none⟩) ul cap2) (fun b off e => by cases e; omega)
        have GX : Hid (good S ([l0.set 0 s1] ++ U.drop 1) = false) := by
          show _ = _
          rw [hset0.out, ← HS1.out]
          exact bad_up
        have TX := two_set1 (TW2.out.step B5) hwX (.slice (some ⟨g2, 0, none⟩) ul cap2)
        have DX := dim_ups HD.out TX.1.2.1 (ownsRow_setCell_below hown2 (a := ⟨X, 1, none⟩) hXW (.slice (some ⟨g2, 0, none⟩) ul cap2)) ((rows_one r6).app ((HR.out.below TX.1.2.1).drop)) (fun l hl x hx => by
          rcases List.mem_append.mp hl with h | h
          · simp at h
            subst h
            rcases List.mem_or_eq_of_mem_set hx with h | h
            · exact HL0.out x h
            · subst h; exact hS1i.out
          · exact HD.out.2.2.2 l (List.mem_of_mem_drop h) x hx)
        obtain ⟨wx, hwx⟩ : ∃ wx, w5.setCell ⟨X, 1, none⟩ (.slice (some ⟨g2, 0, none⟩) ul cap2) = wx := ⟨_, rfl⟩
        rw [hwx] at TX DX ⊢
        have DX2 : Hid (Dim wx (some ⟨b, off, none⟩) sl sc (some ⟨g2, 0, none⟩) ul cap2 S ([l0.set 0 s1] ++ U.drop 1)) := DX
        have T0 : Hid (Two w wx X (.slice (some ⟨b, off, none⟩) sl sc) (.slice (some ⟨b2, off2, none⟩) ul uc) (.slice (some ⟨b, off, none⟩) sl sc) (.slice (some ⟨g2, 0, none⟩) ul cap2)) := TX
        clear hwx TX DX x0 x1 x2 TW5 e0 e1 r5 r6
        obtain ⟨⟨_, _, y0, y1⟩, _, y2, y3⟩ := T0.out
        have tok : True := trivial
        have tok2 : True := trivial
        go_wp2_with (first
          | (go_at_call 15; refine (lift_none _ _ _ _ _ _ _ _ _ _ _ _ DX2.out GX J0.out J0.out J0.out).mono ?_; rintro e v1 ⟨rfl, hb1⟩; have T1 : Hid (Two w v1 X (.slice (some ⟨b, off, none⟩) sl sc) (.slice (some ⟨b2, off2, none⟩) ul uc) (.slice (some ⟨b, off, none⟩) sl sc) (.slice (some ⟨g2, 0, none⟩) ul cap2)) := T0.out.step hb1; have D1 : Hid (Dim v1 (some ⟨b, off, none⟩) sl sc (some ⟨g2, 0, none⟩) ul cap2 S ([l0.set 0 s1] ++ U.drop 1)) := DX2.out.below hb1; clear hb1; obtain ⟨⟨_, _, z0, z1⟩, _, z2, z3⟩ := T1.out)
          | (go_at_call 18; clear tok; refine (good_is _ _ _ _ _ _ _ _ _ _ (HD.out.below T1.out.1.2.1) HG).mono ?_; rintro e v2 ⟨rfl, hb2⟩; have T2 : Hid (Two w v2 X (.slice (some ⟨b, off, none⟩) sl sc) (.slice (some ⟨b2, off2, none⟩) ul uc) (.slice (some ⟨b, off, none⟩) sl sc) (.slice (some ⟨g2, 0, none⟩) ul cap2)) := T1.out.step hb2; have D2 : Hid (Dim v2 (some ⟨b, off, none⟩) sl sc (some ⟨g2, 0, none⟩) ul cap2 S ([l0.set 0 s1] ++ U.drop 1)) := D1.out.below hb2; clear hb2; obtain ⟨⟨_, _, p0, p1⟩, _, p2, p3⟩ := T2.out)
          | (go_at_call 18; refine (good_is _ _ _ _ _ _ _ _ _ _ D2.out GX).mono ?_; rintro e v3 ⟨rfl, hb3⟩; have T3 : Hid (Two w v3 X (.slice (some ⟨b, off, none⟩) sl sc) (.slice (some ⟨b2, off2, none⟩) ul uc) (.slice (some ⟨b, off, none⟩) sl sc) (.slice (some ⟨g2, 0, none⟩) ul cap2)) := T2.out.step hb3; have D3 : Hid (Dim v3 (some ⟨b, off, none⟩) sl sc (some ⟨g2, 0, none⟩) ul cap2 S ([l0.set 0 s1] ++ U.drop 1)) := D2.out.below hb3; clear hb3; obtain ⟨⟨_, _, q0, q1⟩, _, q2, q3⟩ := T3.out)
          | (go_at_call 19; clear tok2; refine (size_none _ _ _ _ _ _ _ _ _ _ D3.out GX J0.out).mono ?_; rintro e v4 ⟨rfl, hb4⟩; have T4 : Hid (Two w v4 X (.slice (some ⟨b, off, none⟩) sl sc) (.slice (some ⟨b2, off2, none⟩) ul uc) (.slice (some ⟨b, off, none⟩) sl sc) (.slice (some ⟨g2, 0, none⟩) ul cap2)) := T3.out.step hb4; have D4 : Hid (Dim v4 (some ⟨b, off, none⟩) sl sc (some ⟨g2, 0, none⟩) ul cap2 S ([l0.set 0 s1] ++ U.drop 1)) := D3.out.below hb4; clear hb4; obtain ⟨⟨_, _, r0, r1⟩, _, r2, r3⟩ := T4.out)
          | (go_at_call 19; refine (size_none _ _ _ _ _ _ _ _ _ _ D4.out GX HN.out).mono ?_; rintro e v5 ⟨rfl, hb5⟩; have T5 : Hid (Two w v5 X (.slice (some ⟨b, off, none⟩) sl sc) (.slice (some ⟨b2, off2, none⟩) ul uc) (.slice (some ⟨b, off, none⟩) sl sc) (.slice (some ⟨g2, 0, none⟩) ul cap2)) := T4.out.step hb5; have D5 : Hid (Dim v5 (some ⟨b, off, none⟩) sl sc (some ⟨g2, 0, none⟩) ul cap2 S ([l0.set 0 s1] ++ U.drop 1)) := D4.out.below hb5; clear hb5; obtain ⟨⟨_, _, k0, k1⟩, _, k2, k3⟩ := T5.out)
          | (go_at_call 16; refine (under_none _ _ _ _ _ _ _ _ _ _ _ _ D5.out GX J1.out J0.out J0.out).mono ?_; rintro e v6 ⟨⟨_, _, rfl⟩, hb6⟩; have T6 : Hid (Two w v6 X (.slice (some ⟨b, off, none⟩) sl sc) (.slice (some ⟨b2, off2, none⟩) ul uc) (.slice (some ⟨b, off, none⟩) sl sc) (.slice (some ⟨g2, 0, none⟩) ul cap2)) := T5.out.step hb6; have D6 : Hid (Dim v6 (some ⟨b, off, none⟩) sl sc (some ⟨g2, 0, none⟩) ul cap2 S ([l0.set 0 s1] ++ U.drop 1)) := D5.out.below hb6; clear hb6; obtain ⟨⟨_, _, m0, m1⟩, _, m2, m3⟩ := T6.out)
          | (go_at_call 17; refine (kids_none _ _ _ _ _ _ _ _ _ _ _ D6.out GX J1.out J0.out).mono ?_; rintro e v7 ⟨⟨_, _, rfl⟩, hb7⟩)
          | (go_at_call 9; refine (wakes_any _).mono ?_; rintro e v9 ⟨rfl, hb9⟩))
        go_ret
        exact ⟨rfl, bt (bt T6.out.1.2.1 hb7) hb9⟩

end Go.Proofs.Ytffhjmldijbolaa

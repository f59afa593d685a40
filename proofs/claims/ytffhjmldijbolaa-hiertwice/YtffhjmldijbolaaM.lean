/-
  Lifted twice is lifted once: the walk of the law HierTwice.
  Conditions: as each theorem states them.
-/
import Derived.Test.YtffhjmldijbolaaJ
import Derived.Deep.Cut
import Derived.Deep.DeepCutAuto
import Derived.Deep.RegionHeld
import Derived.Laws.Cover1
namespace Go.Proofs.Ytffhjmldijbolaa
open Go.ChangeShapes Go.WideShapes Go.ChangeAt Go.RowKit
set_option linter.unusedVariables false
set_option linter.unusedSimpArgs false

theorem lift_ok (sa : Option Addr) (sl sc : Nat) (ua : Option Addr) (ul uc : Nat) (S : List Int) (U : List (List Int)) (f t m x : Int) (w : World) (hd : Dim w sa sl sc ua ul uc S U) (hf : I64 f) (ht : I64 t) (hm : I64 m) (hx : Hid (lift S U f t m = x)) (h0 : 0 ≤ x) :
    Calls Try.prog 15 #[.agg #[.slice sa sl sc, .slice ua ul uc], .int .i64 f, .int .i64 t, .int .i64 m] w fun e w' => e = .returned (.tuple #[.int .i64 x, .bool true]) ∧ Below w.heap.size w w' := by
  have := lift_any sa sl sc ua ul uc S U f t m w hd hf ht hm
  rw [← ret_lift hx.out h0] at this
  exact this
/-- Three cells in a block. -/
def A3 (wr : World) (B : Nat) (a b c : Int) : Prop := B < wr.heap.size ∧ wr.cell? ⟨B, 0, none⟩ = some (.int .u8 a) ∧ wr.cell? ⟨B, 1, none⟩ = some (.int .u8 b) ∧ wr.cell? ⟨B, 2, none⟩ = some (.int .u8 c)
theorem A3.step {wr w' : World} {B : Nat} {a b c : Int} (h : A3 wr B a b c) (hb : Below wr.heap.size wr w') : A3 w' B a b c := by
  obtain ⟨h0, h2, h3, h4⟩ := h
  exact ⟨Nat.lt_of_lt_of_le h0 hb.size, ((bcell hb).1 _ _ h0).trans h2, ((bcell hb).1 _ _ h0).trans h3, ((bcell hb).1 _ _ h0).trans h4⟩
theorem bx_two (w : World) (s u : Value) (t : TypeId) (o : Obj) : Bx w ((w.alloc (.cells #[s, u] t)).alloc o) s u := (bx_new w s u t).step ((Below.refl _ _).alloc (Nat.le_refl _) _)
theorem a3_new (w : World) (o : Obj) (a b c : Int) (y : TypeId) : A3 ((w.alloc o).alloc (.cells #[.int .u8 a, .int .u8 b, .int .u8 c] y)) (w.heap.size + 1) a b c := by
  refine ⟨by simp, ?_, ?_, ?_⟩ <;> simp [go_sem]
theorem hld_in {n : Int} {k : Nat} (h : U8 n) (hk : 1 ≤ k) : ∃ p : Nat, hld n k = p ∧ p < k ∧ p ≤ 255 := by
  obtain ⟨h1, h2, h3⟩ := hld_bd n k h
  rw [Int.max_eq_left (by omega)] at h3
  exact ⟨(hld n k).toNat, by omega, by omega, by omega⟩

set_option maxHeartbeats 4000000 in
set_option maxRecDepth 100000 in
theorem twice_walk (sa : Option Addr) (sl sc : Nat) (ua : Option Addr) (ul uc : Nat) (S : List Int) (U : List (List Int)) (a0 a1 a2 m : Int) (w : World) (hd : Dim w sa sl sc ua ul uc S U) (h0 : U8 a0) (h1 : U8 a1) (h2 : U8 a2) (hm : U8 m) :
    Calls Try.prog 4 #[.agg #[.slice sa sl sc, .slice ua ul uc], .agg #[.int .u8 a0, .int .u8 a1, .int .u8 a2], .int .u8 m] w fun e w' => e = .returned (.bool true) ∧ Below w.heap.size w w' := by
  obtain ⟨e1, e2, e3, e4⟩ := hd.lens
  have E1 : Hid (sl = S.length) := e1
  have HD : Hid (Dim w sa sl sc ua ul uc S U) := hd
  have H0 : Hid (U8 a0) := h0
  have H1 : Hid (U8 a1) := h1
  have H2 : Hid (U8 a2) := h2
  have HM : Hid (U8 m) := hm
  have BX : Hid (Bx w ((w.alloc (.cells #[.slice sa sl sc, .slice ua ul uc] 25)).alloc (.cells #[.int .u8 a0, .int .u8 a1, .int .u8 a2] 32)) (.slice sa sl sc) (.slice ua ul uc)) := bx_two _ _ _ _ _
  have AX : Hid (A3 ((w.alloc (.cells #[.slice sa sl sc, .slice ua ul uc] 25)).alloc (.cells #[.int .u8 a0, .int .u8 a1, .int .u8 a2] 32)) (w.heap.size + 1) a0 a1 a2) := a3_new _ _ _ _ _ _
  clear e1 e2 e4 hd h0 h1 h2 hm
  cases hg : good S U with
  | false =>
    go_enter Try.func4, Try.ntmps4
    go_wp2_with (first
      | (go_at_call 12; refine (rgood_any _ _ _ _ _ _ S U _ (HD.out.below BX.out.2.1)).mono ?_; rintro e w1 ⟨rfl, hb1⟩)
      | (go_at_call 9; refine (wakes_any _).mono ?_; rintro e w9 ⟨rfl, hb9⟩))
    go_ret
    exact ⟨rfl, bt (BX.out.step hb1).2.1 hb9⟩
  | true =>
    have HG : Hid (good S U = true) := hg
    have hs4 : sl ≤ 4 := by rw [E1.out]; exact (good_p hg).2.1
    have hs1 : 1 ≤ sl := by rw [E1.out]; exact (good_p hg).1
    go_enter Try.func4, Try.ntmps4
    go_upto_region 4 with (first
      | (go_at_call 12; refine (rgood_any _ _ _ _ _ _ S U _ (HD.out.below BX.out.2.1)).mono ?_; rintro e w1 ⟨rfl, hb1⟩; have BX1 : Hid (Bx w w1 (.slice sa sl sc) (.slice ua ul uc)) := BX.out.step hb1; have AX1 : Hid (A3 w1 (w.heap.size + 1) a0 a1 a2) := AX.out.step hb1; clear hb1; obtain ⟨_, _, c0, c1⟩ := BX1.out; obtain ⟨_, d0, d1, d2⟩ := AX1.out))
    have hI : Hid (I64 ((sl : Int) + 1)) := by show I64 _; unfold I64; omega
    go_quiet ((go_at_call 13; exact Calls.quiet_of_same (held_any _ _ _ (by first | exact H0.out | exact H1.out | exact H2.out) hI.out)))
    go_upto_region 5 with fail
    obtain ⟨p, hp, hp2, hp3⟩ := hld_in (n := a0) (k := sl + 1) H0.out (by omega)
    obtain ⟨q, hq, hq2, hq3⟩ := hld_in (n := a1) (k := sl + 1) H1.out (by omega)
    obtain ⟨r, hr, hr2, hr3⟩ := hld_in (n := a2) (k := sl + 1) H2.out (by omega)
    rw [show ((sl + 1 : Nat) : Int) = (sl : Int) + 1 by omega] at hp hq hr
    rw [hp, hq, hr]
    clear hp hq hr
    have BX2 : Hid (Bx w (w1.drewN nq) (.slice sa sl sc) (.slice ua ul uc)) := BX1.out.drew nq
    go_cut [8, 9, 10] (fun x y z wx => ∃ a b c : Nat, x = .int .i64 a ∧ y = .int .i64 b ∧ z = .int .i64 c ∧ a ≤ b ∧ b ≤ c ∧ c ≤ sl ∧ Hid (Bx w wx (.slice sa sl sc) (.slice ua ul uc)))
    case first =>
      rcases Nat.lt_or_ge p q with h1 | h1 <;> rcases Nat.lt_or_ge q r with h2 | h2 <;> rcases Nat.lt_or_ge p r with h3 | h3
      all_goals first | omega | skip
      all_goals go_wp2_with fail
      all_goals (go_meet; exact ⟨_, _, _, rfl, rfl, rfl, by omega, by omega, by omega, BX2⟩)
    case rest =>
      obtain ⟨a, b, c, rfl, rfl, rfl, hab, hbc, hcs, BX3⟩ := hcut
      clear BX2 BX1 AX AX1 BX c0 c1 d0 d1 d2 hg
      obtain ⟨_, _, c0, c1⟩ := BX3.out
      have za := size_bd S U a
      have zp := size_pos HG.out (lv := (a : Int)) (by omega) (by rw [← E1.out]; omega)
      have zb := size_pos HG.out (lv := (b : Int)) (by omega) (by rw [← E1.out]; omega)
      have zc := size_pos HG.out (lv := (c : Int)) (by omega) (by rw [← E1.out]; omega)
      have zs := size_pos HG.out (lv := (sl : Int)) (by omega) (by rw [← E1.out]; omega)
      obtain ⟨Z, hZ⟩ : ∃ Z : Nat, size S U a = Z := ⟨(size S U a).toNat, by omega⟩
      have HZ : Hid (size S U a = Z) := hZ
      rw [hZ] at za zp
      obtain ⟨k, hk, hk2, hk3⟩ := hld_in (n := m) (k := Z) HM.out (by omega)
      have hk4 : (k : Int) < size S U a := by rw [HZ.out]; omega
      have l1 := lift_in (S := S) (U := U) (f := a) (t := b) (m := k) (by omega) (by omega) (by omega) (by omega) hk4
      have l3 := lift_in (S := S) (U := U) (f := a) (t := c) (m := k) (by omega) (by omega) (by omega) (by omega) hk4
      have tw := lift_twice (S := S) (U := U) (f := a) (t := b) (s := c) (m := k) (by omega) (by omega) (by omega) (by omega) (by omega) hk4
      have sf := lift_self (S := S) (U := U) (f := a) (m := k) (by omega) (by omega) hk4
      have tp : lift S U a sl k = 0 := by rw [lift_yes (by omega) (by omega) (by omega) (by omega) hk4, if_pos (by rw [E1.out])]
      have ge1 := lift_ge S U a b k
      have ge3 := lift_ge S U a c k
      obtain ⟨x, hx⟩ : ∃ x, lift S U a b k = x := ⟨_, rfl⟩
      obtain ⟨y, hy⟩ : ∃ y, lift S U a c k = y := ⟨_, rfl⟩
      rw [hx] at l1 tw ge1
      rw [hy] at l3 tw ge3
      have X1 : Hid (lift S U a b k = x) := hx
      have X2 : Hid (lift S U b c x = y) := tw
      have X3 : Hid (lift S U a c k = y) := hy
      have X4 : Hid (lift S U a a k = k) := sf
      have X5 : Hid (lift S U a sl k = 0) := tp
      have x0 : 0 ≤ x := l1.1
      have y0 : 0 ≤ y := l3.1
      have J1 : Hid (I64 a) := by show I64 _; unfold I64; omega
      have J2 : Hid (I64 b) := by show I64 _; unfold I64; omega
      have J3 : Hid (I64 c) := by show I64 _; unfold I64; omega
      have J4 : Hid (I64 k) := by show I64 _; unfold I64; omega
      have J5 : Hid (I64 x) := by show I64 _; unfold I64; omega
      have J6 : Hid (I64 sl) := by show I64 _; unfold I64; omega
      have J7 : Hid (I64 Z) := by show I64 _; unfold I64; omega
      clear hx hy tw sf tp l1 l3 ge1 ge3 hk4 zb zc zs
      have t1 : True := trivial
      have t2 : True := trivial
      have t3 : True := trivial
      have t4 : True := trivial
      go_wp2_with (first
        | (go_at_call 14; refine (rsize_any _ _ _ _ _ _ S U _ _ (HD.out.below BX3.out.2.1) J1.out).mono ?_; rintro e w2 ⟨rfl, hb2⟩; have BX4 : Hid (Bx w w2 (.slice sa sl sc) (.slice ua ul uc)) := BX3.out.step hb2; clear hb2; obtain ⟨_, _, d0, d1⟩ := BX4.out)
        | (go_at_call 13; refine (held_any _ _ _ HM.out J7.out).mono ?_; rintro e w' ⟨rfl, rfl⟩)
        | (go_at_call 15; clear t1; refine (lift_ok _ _ _ _ _ _ S U _ _ _ _ _ (HD.out.below BX4.out.2.1) J1.out J2.out J4.out X1 x0).mono ?_; rintro e w3 ⟨rfl, hb3⟩; have BX5 : Hid (Bx w w3 (.slice sa sl sc) (.slice ua ul uc)) := BX4.out.step hb3; clear hb3; obtain ⟨_, _, f0, f1⟩ := BX5.out)
        | (go_at_call 15; clear t2; refine (lift_ok _ _ _ _ _ _ S U _ _ _ _ _ (HD.out.below BX5.out.2.1) J2.out J3.out J5.out X2 y0).mono ?_; rintro e w4 ⟨rfl, hb4⟩; have BX6 : Hid (Bx w w4 (.slice sa sl sc) (.slice ua ul uc)) := BX5.out.step hb4; clear hb4; obtain ⟨_, _, g0, g1⟩ := BX6.out)
        | (go_at_call 15; clear t3; refine (lift_ok _ _ _ _ _ _ S U _ _ _ _ _ (HD.out.below BX6.out.2.1) J1.out J3.out J4.out X3 y0).mono ?_; rintro e w5 ⟨rfl, hb5⟩; have BX7 : Hid (Bx w w5 (.slice sa sl sc) (.slice ua ul uc)) := BX6.out.step hb5; clear hb5; obtain ⟨_, _, h0, h1⟩ := BX7.out)
        | (go_at_call 15; clear t4; refine (lift_ok _ _ _ _ _ _ S U _ _ _ _ _ (HD.out.below BX7.out.2.1) J1.out J1.out J4.out X4 (by omega)).mono ?_; rintro e w6 ⟨rfl, hb6⟩; have BX8 : Hid (Bx w w6 (.slice sa sl sc) (.slice ua ul uc)) := BX7.out.step hb6; clear hb6; obtain ⟨_, _, i0, i1⟩ := BX8.out)
        | (go_at_call 15; refine (lift_ok _ _ _ _ _ _ S U _ _ _ _ _ (HD.out.below BX8.out.2.1) J1.out J6.out J4.out X5 (by omega)).mono ?_; rintro e w7 ⟨rfl, hb7⟩)
        | (go_at_call 9; refine (wakes_any _).mono ?_; rintro e w9 ⟨rfl, hb9⟩))
      go_ret
      exact ⟨rfl, bt (bt BX8.out.2.1 hb7) hb9⟩

end Go.Proofs.Ytffhjmldijbolaa

/-
  Who is under a member's kids is under it: the walk of the law HierKids.
  Conditions: as each theorem states them.
-/
import Derived.Test.YtffhjmldijbolaaM
namespace Go.Proofs.Ytffhjmldijbolaa
open Go.ChangeShapes Go.WideShapes Go.ChangeAt Go.RowKit
set_option linter.unusedVariables false
set_option linter.unusedSimpArgs false

/-- A dimension's cells and one cell of a row, borne. -/
def Cur (w w' : World) (s u : Value) (b o : Nat) (y : Int) : Prop :=
  w.heap.size < w'.heap.size ∧ Below w.heap.size w w' ∧ w'.cell? ⟨w.heap.size, 0, none⟩ = some s ∧ w'.cell? ⟨w.heap.size, 1, none⟩ = some u ∧ b < w'.heap.size ∧ w'.cell? ⟨b, o, none⟩ = some (.int .i64 y)
theorem cur_mk {w w' : World} {s u : Value} {b o : Nat} {y : Int} (h : Bx w w' s u) (hb : b < w'.heap.size) (hc : w'.cell? ⟨b, o, none⟩ = some (.int .i64 y)) : Cur w w'.drew s u b o y :=
  ⟨h.1, h.2.1.drew, h.2.2.1, h.2.2.2, hb, hc⟩
theorem cur_bx {w w' : World} {s u : Value} {b o : Nat} {y : Int} (h : Cur w w' s u b o y) : Bx w w' s u := ⟨h.1, h.2.1, h.2.2.1, h.2.2.2.1⟩
theorem cur_step {w w' w1 : World} {s u : Value} {b o : Nat} {y : Int} (hb : Below w'.heap.size w' w1) (h : Cur w w' s u b o y) : Cur w w1 s u b o y := by
  have k := (cur_bx h).step hb
  exact ⟨k.1, k.2.1, k.2.2.1, k.2.2.2, Nat.lt_of_lt_of_le h.2.2.2.2.1 hb.size, ((bcell hb).1 _ _ h.2.2.2.2.1).trans h.2.2.2.2.2⟩
theorem under_i64 {S : List Int} {U : List (List Int)} {t m f x : Int} (h : x ∈ under S U t m f) : 0 ≤ x ∧ x < 40 := by
  obtain ⟨_, _, a, b, _⟩ := mem_under.mp h
  have := size_bd S U f
  omega
theorem under_len (S : List Int) (U : List (List Int)) (t m f : Int) : (under S U t m f).length ≤ 40 := by
  unfold under
  split
  · simp
  · have h1 := List.length_filter_le (fun i => decide (lift S U f t i = m)) (upto (size S U f).toNat)
    rw [upto_len] at h1
    have := size_bd S U f
    omega

/-- How many are under the first so many kids. -/
def nk (S : List Int) (U : List (List Int)) (k x : Int) (i : Nat) : Nat := among (fun z => lift S U 0 (k - 1) z) (upto (size S U 0).toNat) ((under S U k x (k - 1)).take i)
theorem nk_le (S : List Int) (U : List (List Int)) (k x : Int) (i : Nat) : nk S U k x i ≤ 40 := by
  have h1 : nk S U k x i ≤ (upto (size S U 0).toNat).length := List.countP_le_length
  rw [upto_len] at h1
  have := size_bd S U 0
  omega
theorem nk_0 (S : List Int) (U : List (List Int)) (k x : Int) : nk S U k x 0 = 0 := by unfold nk; rw [List.take_zero, among_nil]
theorem nk_all {S : List Int} {U : List (List Int)} {k x : Int} (hg : good S U = true) (h1 : 1 ≤ k) (h2 : k ≤ S.length) (hx : 0 ≤ x) (hx2 : x < size S U k) : nk S U k x (under S U k x (k - 1)).length = (under S U k x 0).length := by
  unfold nk; rw [List.take_length]; exact kids_all hg h1 h2 hx hx2
theorem nk_step {S : List Int} {U : List (List Int)} {k x : Int} (hg : good S U = true) (h1 : 1 ≤ k) (h2 : k ≤ S.length) {i : Nat} (hi : i < (under S U k x (k - 1)).length) : nk S U k x (i + 1) = nk S U k x i + (under S U (k - 1) ((under S U k x (k - 1)).getD i 0) 0).length :=
  kids_step hg h1 h2 hi

set_option maxHeartbeats 4000000 in
set_option maxRecDepth 100000 in
theorem kids_walk (sa : Option Addr) (sl sc : Nat) (ua : Option Addr) (ul uc : Nat) (S : List Int) (U : List (List Int)) (lv m : Int) (w : World) (hd : Dim w sa sl sc ua ul uc S U) (h0 : U8 lv) (hm : U8 m) :
    Calls Try.prog 6 #[.agg #[.slice sa sl sc, .slice ua ul uc], .int .u8 lv, .int .u8 m] w fun e w' => e = .returned (.bool true) ∧ Below w.heap.size w w' := by
  obtain ⟨e1, e2, e3, e4⟩ := hd.lens
  have E1 : Hid (sl = S.length) := e1
  have HD : Hid (Dim w sa sl sc ua ul uc S U) := hd
  have H0 : Hid (U8 lv) := h0
  have HM : Hid (U8 m) := hm
  have BX : Hid (Bx w (w.alloc (.cells #[.slice sa sl sc, .slice ua ul uc] 25)) (.slice sa sl sc) (.slice ua ul uc)) := bx_new _ _ _ _
  clear e1 e2 e4 hd h0 hm
  cases hg : good S U with
  | false =>
    go_enter Try.func6, Try.ntmps6
    go_wp2_with (first
      | (go_at_call 12; refine (rgood_any _ _ _ _ _ _ S U _ (HD.out.below BX.out.2.1)).mono ?_; rintro e w1 ⟨rfl, hb1⟩)
      | (go_at_call 9; refine (wakes_any _).mono ?_; rintro e w9 ⟨rfl, hb9⟩))
    go_ret
    exact ⟨rfl, bt (BX.out.step hb1).2.1 hb9⟩
  | true =>
    have HG : Hid (good S U = true) := hg
    have hs4 : sl ≤ 4 := by rw [E1.out]; exact (good_p hg).2.1
    have hs1 : 1 ≤ sl := by rw [E1.out]; exact (good_p hg).1
    obtain ⟨k, hk, hk2, hk3⟩ := hld_in (n := lv) (k := sl + 1) H0.out (by omega)
    rw [show ((sl + 1 : Nat) : Int) = (sl : Int) + 1 by omega] at hk
    have hI : Hid (I64 ((sl : Int) + 1)) := by show I64 _; unfold I64; omega
    have za := size_bd S U k
    have zp := size_pos HG.out (lv := (k : Int)) (by omega) (by rw [← E1.out]; omega)
    obtain ⟨Z, hZ⟩ : ∃ Z : Nat, size S U k = Z := ⟨(size S U k).toNat, by omega⟩
    have HZ : Hid (size S U k = Z) := hZ
    rw [hZ] at za zp
    obtain ⟨x, hx, hx2, hx3⟩ := hld_in (n := m) (k := Z) HM.out (by omega)
    have J1 : Hid (I64 k) := by show I64 _; unfold I64; omega
    have J4 : Hid (I64 x) := by show I64 _; unfold I64; omega
    have J7 : Hid (I64 Z) := by show I64 _; unfold I64; omega
    have hxs : Hid ((x : Int) < size S U k) := by show (x : Int) < size S U k; rw [HZ.out]; omega
    clear hg
    have t1 : True := trivial
    go_enter Try.func6, Try.ntmps6
    go_upto_if 36 with (first
      | (go_at_call 12; refine (rgood_any _ _ _ _ _ _ S U _ (HD.out.below BX.out.2.1)).mono ?_; rintro e w1 ⟨rfl, hb1⟩; have BX1 : Hid (Bx w w1 (.slice sa sl sc) (.slice ua ul uc)) := BX.out.step hb1; clear hb1; obtain ⟨_, _, c0, c1⟩ := BX1.out; rw [HG.out])
      | (go_at_call 13; clear t1; refine (held_any _ _ _ H0.out hI.out).mono ?_; rintro e w' ⟨rfl, hw'⟩; have hw2 := hw'.symm; clear hw'; subst hw2)
      | (go_at_call 14; refine (rsize_any _ _ _ _ _ _ S U _ _ (HD.out.below BX1.out.2.1) J1.out).mono ?_; rintro e w2 ⟨rfl, hb2⟩; have BX2 : Hid (Bx w w2 (.slice sa sl sc) (.slice ua ul uc)) := BX1.out.step hb2; clear hb2; obtain ⟨_, _, d0, d1⟩ := BX2.out)
      | (go_at_call 13; refine (held_any _ _ _ HM.out J7.out).mono ?_; rintro e w' ⟨rfl, hw'⟩; have hw2 := hw'.symm; clear hw'; subst hw2)
      | (go_at_call 17; refine (kids_any _ _ _ _ _ _ S U _ _ _ (HD.out.below BX2.out.2.1) J1.out J4.out).mono ?_; rintro e w3 ⟨⟨a9, c9, rfl, hr9⟩, hb3⟩; have BX3 : Hid (Bx w w3 (.slice sa sl sc) (.slice ua ul uc)) := BX2.out.step hb3; clear hb3; have HR9 : Hid (IRow .i64 w3 a9 (kids S U k x).length c9 (kids S U k x)) := hr9; clear hr9))
    clear BX BX1 BX2 c0 c1 d0 d1
    by_cases hk0 : k = 0
    · subst hk0
      have hkl : kids S U (0 : Nat) x = [] := kids_if (by omega)
      rw [hkl]
      clear HR9 hkl
      go_wp2_with (go_at_call 9; refine (wakes_any _).mono ?_; rintro e w9 ⟨rfl, hb9⟩)
      go_ret
      exact ⟨rfl, bt BX3.out.2.1 hb9⟩
    · have hk0b : ((k : Int) == 0) = false := by simp; omega
      have hkl : kids S U k x = under S U k x ((k : Int) - 1) := kids_is (by omega)
      rw [hkl] at HR9 ⊢
      rw [hk0b]
      clear hkl
      have J8 : Hid (I64 ((k : Int) - 1)) := by show I64 _; unfold I64; omega
      have J0 : Hid (I64 0) := i64_lit.1
      have L40 := under_len S U k x ((k : Int) - 1)
      obtain ⟨KL, hKL⟩ : ∃ KL, under S U k x ((k : Int) - 1) = KL := ⟨_, rfl⟩
      rw [hKL] at HR9 L40 ⊢
      have HKL : Hid (under S U k x ((k : Int) - 1) = KL) := hKL
      clear hKL
      obtain ⟨n9, hn9⟩ : ∃ n9, KL.length = n9 := ⟨_, rfl⟩
      rw [hn9] at HR9 L40 ⊢
      have HN9 : Hid (KL.length = n9) := hn9
      clear hn9
      go_wp2
      go_loopw [10, 11] (fun nv iv wr => ∃ i N : Nat, i ≤ n9 ∧ iv = .int .i64 i ∧ nv = .int .i64 N ∧ N ≤ 40 ∧ Hid (N = nk S U k x i) ∧ Hid (Bx w wr (.slice sa sl sc) (.slice ua ul uc)) ∧ Hid (IRow .i64 wr a9 n9 c9 KL)) (fun _ iv _ => n9 - (intOf iv).toNat)
      case atStart => exact ⟨0, 0, Nat.zero_le _, rfl, rfl, by omega, hid (nk_0 _ _ _ _).symm, BX3, HR9⟩
      case round =>
        obtain ⟨i, N, hi, rfl, rfl, hN40, HN, BX4, HR4⟩ := hrel
        by_cases hlt : i < n9
        · have hlt2 : (i : Int) < (n9 : Int) := by omega
          obtain ⟨b9, off9, rfl, hb9, hcell⟩ := HR4.out.cell hlt
          have d9 := hcell i hlt
          have hin : Hid (KL.getD i 0 ∈ under S U k x ((k : Int) - 1)) := by show KL.getD i 0 ∈ _; rw [HKL.out]; exact getD_mem (by rw [HN9.out]; exact hlt)
          have hst : Hid (nk S U k x (i + 1) = nk S U k x i + (under S U ((k : Int) - 1) (KL.getD i 0) 0).length) := by
            have := nk_step (S := S) (U := U) (k := k) (x := x) HG.out (by omega) (by rw [← E1.out]; omega) (i := i) (by rw [HKL.out, HN9.out]; exact hlt)
            rw [HKL.out] at this
            exact this
          have y40 := under_i64 hin.out
          obtain ⟨y, hy⟩ : ∃ y, KL.getD i 0 = y := ⟨_, rfl⟩
          rw [hy] at d9 hin hst y40
          have JY : Hid (I64 y) := by show I64 _; unfold I64; omega
          have hkw : IntKind.i64.wrap ((k : Int) - 1) = (k : Int) - 1 := IntWalk.i64_in _ (by omega)
          have bx4 := BX4.out
          obtain ⟨_, _, c0, c1⟩ := BX4.out
          clear hcell hy
          go_wp2
          go_region_held3 (fun w' => w.heap.size < w'.heap.size ∧ Below w.heap.size w w' ∧ w'.cell? ⟨w.heap.size, 0, none⟩ = some (.slice sa sl sc) ∧ w'.cell? ⟨w.heap.size, 1, none⟩ = some (.slice ua ul uc) ∧ b9 < w'.heap.size ∧ w'.cell? ⟨b9, off9 + i, none⟩ = some (.int .i64 y))
            (first | assumption | exact cur_mk (by assumption) (by assumption) (by assumption) | exact cur_step (by assumption) (by assumption))
            (first
              | (go_at_call 16; refine (under_any _ _ _ _ _ _ S U _ _ _ _ (HD.out.below (cur_bx (by assumption)).2.1) J8.out JY.out J0.out).mono ?_; rintro e w5 ⟨⟨a12, c12, rfl, hr12⟩, hb5⟩))
          have L12 := under_len S U ((k : Int) - 1) y 0
          have b5 := undrew hb5
          have BX5 : Hid (Bx w w5 (.slice sa sl sc) (.slice ua ul uc)) := BX4.out.step b5
          have HR5 : Hid (IRow .i64 w5 (some ⟨b9, off9, none⟩) n9 c9 KL) := HR4.out.below b5
          obtain ⟨UL, hUL⟩ : ∃ UL, under S U ((k : Int) - 1) y 0 = UL := ⟨_, rfl⟩
          rw [hUL] at hr12 L12 hst ⊢
          have HUL : Hid (under S U ((k : Int) - 1) y 0 = UL) := hUL
          clear hUL
          obtain ⟨n12, hn12⟩ : ∃ n12, UL.length = n12 := ⟨_, rfl⟩
          rw [hn12] at hr12 L12 hst ⊢
          have HN12 : Hid (UL.length = n12) := hn12
          have HR12 : Hid (IRow .i64 w5 a12 n12 c12 UL) := hr12
          clear hn12 hr12 c0 c1 bx4 d9 hb9 hkw b5 hb5
          go_wp2
          go_loopw [13] (fun jv wr => ∃ j : Nat, j ≤ n12 ∧ jv = .int .i64 j ∧ Hid (Bx w wr (.slice sa sl sc) (.slice ua ul uc)) ∧ Hid (IRow .i64 wr (some ⟨b9, off9, none⟩) n9 c9 KL) ∧ Hid (IRow .i64 wr a12 n12 c12 UL)) (fun jv _ => n12 - (intOf jv).toNat)
          case atStart => exact ⟨0, Nat.zero_le _, rfl, BX5, HR5, HR12⟩
          case round =>
            obtain ⟨j, hj, rfl, BX6, HR6, HQ6⟩ := hrel
            by_cases hjl : j < n12
            · have hjl2 : (j : Int) < (n12 : Int) := by omega
              obtain ⟨b7, off7, rfl, hb7, hcell7⟩ := HQ6.out.cell hjl
              have d7 := hcell7 j hjl
              have hin7 : Hid (UL.getD j 0 ∈ under S U ((k : Int) - 1) y 0) := by show UL.getD j 0 ∈ _; rw [HUL.out]; exact getD_mem (by rw [HN12.out]; exact hjl)
              have z40 := under_i64 hin7.out
              have kl : Hid (lift S U 0 k (UL.getD j 0) = x) := kid_lift HG.out (by omega) (by rw [← E1.out]; omega) hin.out hin7.out
              obtain ⟨z, hz⟩ : ∃ z, UL.getD j 0 = z := ⟨_, rfl⟩
              rw [hz] at d7 kl z40
              have JZ : Hid (I64 z) := by show I64 _; unfold I64; omega
              have bx6 := BX6.out
              obtain ⟨_, _, f0, f1⟩ := BX6.out
              clear hcell7 hz
              go_wp2
              go_region_held3 (fun w' => w.heap.size < w'.heap.size ∧ Below w.heap.size w w' ∧ w'.cell? ⟨w.heap.size, 0, none⟩ = some (.slice sa sl sc) ∧ w'.cell? ⟨w.heap.size, 1, none⟩ = some (.slice ua ul uc) ∧ b7 < w'.heap.size ∧ w'.cell? ⟨b7, off7 + j, none⟩ = some (.int .i64 z))
                (first | assumption | exact cur_mk (by assumption) (by assumption) (by assumption) | exact cur_step (by assumption) (by assumption))
                (first
                  | (go_at_call 15; refine (lift_ok _ _ _ _ _ _ S U _ _ _ _ _ (HD.out.below (cur_bx (by assumption)).2.1) J0.out J1.out JZ.out kl (by omega)).mono ?_; rintro e w7 ⟨rfl, hb8⟩))
              have b8 := undrew hb8
              have BX7 : Hid (Bx w w7 (.slice sa sl sc) (.slice ua ul uc)) := BX6.out.step b8
              have HR7 : Hid (IRow .i64 w7 (some ⟨b9, off9, none⟩) n9 c9 KL) := HR6.out.below b8
              have HQ7 : Hid (IRow .i64 w7 (some ⟨b7, off7, none⟩) n12 c12 UL) := HQ6.out.below b8
              clear bx6 f0 f1 d7 b8 hb8
              go_wp2
              go_roundw
              case rel => exact ⟨j + 1, by omega, by go_num, BX7, HR7, HQ7⟩
              case measure => simp [intOf]; omega
            · obtain rfl : j = n12 := by omega
              go_wp2
              go_roundw
              case rel =>
                refine ⟨i + 1, N + j, by omega, by go_num, by go_num, ?_, ?_, BX6, HR6⟩
                · have := nk_le S U k x (i + 1)
                  rw [hst.out, ← HN.out] at this
                  exact this
                · show N + j = _
                  rw [hst.out, ← HN.out]
              case measure => simp [intOf]; omega
        · obtain rfl : i = n9 := by omega
          have hfin : Hid (N = (under S U k x 0).length) := by
            show N = _
            rw [HN.out, ← HN9.out, ← HKL.out]
            exact nk_all HG.out (by omega) (by rw [← E1.out]; omega) (by omega) hxs.out
          obtain ⟨_, _, c0, c1⟩ := BX4.out
          rw [hfin.out] at hN40 ⊢
          go_wp2_with (first
            | (go_at_call 16; refine (under_any _ _ _ _ _ _ S U _ _ _ _ (HD.out.below BX4.out.2.1) J1.out J4.out J0.out).mono ?_; rintro e w5 ⟨⟨a12, c12, rfl, hr12⟩, hb5⟩)
            | (go_at_call 9; refine (wakes_any _).mono ?_; rintro e w9 ⟨rfl, hb9⟩))
          go_ret
          exact ⟨rfl, bt (bt BX4.out.2.1 hb5) hb9⟩

end Go.Proofs.Ytffhjmldijbolaa

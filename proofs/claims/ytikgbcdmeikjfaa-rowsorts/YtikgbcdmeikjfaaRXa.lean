/-
  A row that is written is read again; cut off it is none: as lists, and keep.Mod.
  Conditions: as each theorem states them.
-/
import Derived.Test.YtikgbcdmeikjfaaRM
namespace Go.Proofs.Ytikgbcdmeikjfaa
open Go.ChangeShapes Go.WideShapes Go.ChangeAt Go.RowKit
set_option linter.unusedVariables false
set_option linter.unusedSimpArgs false
set_option maxRecDepth 100000

set_option maxHeartbeats 1000000 in
theorem kmod_any (n m : Int) (w : World) (hn : I64 n) (h0 : 0 < m) (h1 : m ≤ 1000) :
    Calls Try.prog 18 #[.int .i64 n, .int .i64 m] w fun e w' => e = .returned (.int .i64 (n % m)) ∧ w' = w := by
  obtain ⟨n1, n2⟩ := hn
  have h2 := Int.emod_nonneg n (show m ≠ 0 by omega)
  have h3 := Int.emod_lt_of_pos n h0
  have hr : -m < n.tmod m ∧ n.tmod m < m ∧ ((n.tmod m < 0 ∧ n.tmod m + m = n % m) ∨ (0 ≤ n.tmod m ∧ n.tmod m = n % m)) := by
    have e1 : (n.tmod m = n % m ∨ n.tmod m = n % m - m) ∧ (n % m = 0 → n.tmod m = 0) := by
      rw [Int.tmod_eq_emod]
      split
      · exact ⟨.inl (by omega), fun h => by omega⟩
      · rename_i hh
        refine ⟨.inr (by omega), fun h => ?_⟩
        exact absurd (.inr (Int.dvd_of_emod_eq_zero h)) hh
    omega
  obtain ⟨r, hrr⟩ : ∃ r, n.tmod m = r := ⟨_, rfl⟩
  rw [hrr] at hr
  obtain ⟨e, he⟩ : ∃ e, n % m = e := ⟨_, rfl⟩
  rw [he] at hr h2 h3
  have HE : Hid (n % m = e) := he
  obtain ⟨r1, r2, r3⟩ := hr
  clear he
  by_cases hneg : r < 0
  · go_enter Try.func18, Try.ntmps18
    go_wp2
    go_ret
    refine ⟨ret_int ?_, rfl⟩
    rw [HE.out]; omega
  · go_enter Try.func18, Try.ntmps18
    go_wp2
    go_ret
    refine ⟨ret_int ?_, rfl⟩
    rw [HE.out]; omega

theorem kmod_m (n : Int) (m k : Nat) (w : World) (hn : Hid (I64 n)) (h0 : 0 < m) (h1 : m ≤ 1000) (hk : Hid (n % (m : Int) = k)) :
    Calls Try.prog 18 #[.int .i64 n, .int .i64 m] w fun e w' => e = .returned (.int .i64 k) ∧ w' = w := by
  have := kmod_any n m w hn.out (by omega) (by omega)
  rw [hk.out] at this
  exact this
theorem zag_zig (v : Int) : code.zag (code.zig v) = v := by
  unfold code.zag code.zig
  by_cases h : v < 0
  · rw [if_pos h, if_pos (by omega)]; omega
  · rw [if_neg h, if_neg (by omega)]; omega
theorem rd_back (r : Rw) (hr : rok r) (m : List Int) : rdB (bts r ++ m) = true ∧ rdN (bts r ++ m) = ((bts r).length : Int) ∧ rdR (bts r ++ m) = r := by
  obtain ⟨a, b, c, d, e, f⟩ := r
  obtain ⟨_, he, hf⟩ := hr
  have u0 := zig_u64 he
  have u1 := zig_u64 hf
  have E : bts (a, b, c, d, e, f) ++ m = a :: b :: c :: d :: (code.digs (code.zig e) ++ (code.digs (code.zig f) ++ m)) := by simp [bts]
  obtain ⟨g1, g2, g3⟩ := code.get_digs (code.zig e) (code.digs (code.zig f) ++ m) u0
  obtain ⟨k1, k2, k3⟩ := code.get_digs (code.zig f) m u1
  have D4 : (bts (a, b, c, d, e, f) ++ m).drop 4 = code.digs (code.zig e) ++ (code.digs (code.zig f) ++ m) := by rw [E]; rfl
  have P : rdP (bts (a, b, c, d, e, f) ++ m) = 4 + (code.digs (code.zig e)).length := by unfold rdP; rw [D4, g3]; simp
  have D5 : (bts (a, b, c, d, e, f) ++ m).drop (4 + (code.digs (code.zig e)).length) = code.digs (code.zig f) ++ m := by
    rw [← List.drop_drop, D4, List.drop_left]
  have B : rdB (bts (a, b, c, d, e, f) ++ m) = true := by
    unfold rdB
    rw [P, D4, D5, g1, k1, decide_eq_true (by rw [E]; simp)]; rfl
  refine ⟨B, ?_, ?_⟩
  · unfold rdN
    rw [B, P, D4, D5, g3, k3]
    simp only [if_true, bts, List.length_append, List.length_cons, List.length_nil]
    omega
  · unfold rdR
    rw [B, P, D4, D5, g2, k2, zag_zig, zag_zig, E]
    rfl
theorem rd_cut (r : Rw) (hr : rok r) (k : Nat) (hk : k < (bts r).length) : rdB ((bts r).take k) = false := by
  obtain ⟨a, b, c, d, e, f⟩ := r
  obtain ⟨_, he, hf⟩ := hr
  have u0 := zig_u64 he
  have u1 := zig_u64 hf
  have E : bts (a, b, c, d, e, f) = [a, b, c, d] ++ (code.digs (code.zig e) ++ code.digs (code.zig f)) := by simp [bts]
  rw [E] at hk ⊢
  simp only [List.length_append, List.length_cons, List.length_nil] at hk
  by_cases h4 : k < 4
  · unfold rdB
    rw [decide_eq_false (by rw [List.length_take]; omega)]; rfl
  · have T : ([a, b, c, d] ++ (code.digs (code.zig e) ++ code.digs (code.zig f))).take k = [a, b, c, d] ++ (code.digs (code.zig e) ++ code.digs (code.zig f)).take (k - 4) := by
      rw [List.take_append, List.take_of_length_le (by simp; omega)]; rfl
    rw [T]
    have D4 : ([a, b, c, d] ++ (code.digs (code.zig e) ++ code.digs (code.zig f)).take (k - 4)).drop 4 = (code.digs (code.zig e) ++ code.digs (code.zig f)).take (k - 4) := rfl
    by_cases h5 : k - 4 < (code.digs (code.zig e)).length
    · unfold rdB
      have := code.get_cut (code.zig e) (k - 4) u0.1 h5
      rw [D4, List.take_append_of_le_length (by omega), this]; simp
    · have T2 : (code.digs (code.zig e) ++ code.digs (code.zig f)).take (k - 4) = code.digs (code.zig e) ++ (code.digs (code.zig f)).take (k - 4 - (code.digs (code.zig e)).length) := by
        rw [List.take_append, List.take_of_length_le (by omega)]
      rw [T2] at D4 ⊢
      obtain ⟨g1, g2, g3⟩ := code.get_digs (code.zig e) ((code.digs (code.zig f)).take (k - 4 - (code.digs (code.zig e)).length)) u0
      have P : rdP ([a, b, c, d] ++ (code.digs (code.zig e) ++ (code.digs (code.zig f)).take (k - 4 - (code.digs (code.zig e)).length))) = 4 + (code.digs (code.zig e)).length := by unfold rdP; rw [D4, g3]; simp
      have D5 : ([a, b, c, d] ++ (code.digs (code.zig e) ++ (code.digs (code.zig f)).take (k - 4 - (code.digs (code.zig e)).length))).drop (4 + (code.digs (code.zig e)).length) = (code.digs (code.zig f)).take (k - 4 - (code.digs (code.zig e)).length) := by
        rw [← List.drop_drop, D4, List.drop_left]
      have := code.get_cut (code.zig f) (k - 4 - (code.digs (code.zig e)).length) u1.1 (by omega)
      unfold rdB
      rw [P, D5, this]; simp
theorem rd_none {l : List Int} (h : rdB l = false) : rdR l = (0, 0, 0, 0, 0, 0) ∧ rdN l = 0 := by
  unfold rdR rdN
  rw [h]
  exact ⟨rfl, rfl⟩
theorem rd_pos (l : List Int) : decide (0 < rdN l) = rdB l := by
  cases h : rdB l with
  | false => rw [(rd_none h).2]; rfl
  | true =>
    have h' := h
    unfold rdB at h'
    simp only [Bool.and_eq_true] at h'
    have b0 := (getB_bd h'.2.1).1
    have b1 := (getB_bd h'.2.2).1
    unfold rdN
    rw [h]
    simp only [if_true]
    exact decide_eq_true (by omega)
theorem rd_le {l : List Int} : rdN l ≤ 24 ∧ 0 ≤ rdN l := by
  cases h : rdB l with
  | false => rw [(rd_none h).2]; omega
  | true =>
    have h' := h
    unfold rdB at h'
    simp only [Bool.and_eq_true] at h'
    have b0 := getB_bd h'.2.1
    have b1 := getB_bd h'.2.2
    unfold rdN
    rw [h]
    simp only [if_true]
    omega
/-- The first so many of a slice of bytes of one's own. -/
theorem first8 {w : World} {g n : Nat} {l : List Int} (h : code.Row8 w (some ⟨g, 0, none⟩) n n l) (k : Nat) (hk : k ≤ n) : code.Row8 w (some ⟨g, 0, none⟩) k n (l.take k) := by
  obtain ⟨h1, h2, h3, h4, h5, h6⟩ := h
  refine ⟨by rw [List.length_take]; omega, hk, h3, fun x hx => h4 x (List.mem_of_mem_take hx), (fun e => by cases e), fun h0 => ?_⟩
  obtain ⟨b, off, e, hb, hl⟩ := h6 (by omega)
  refine ⟨b, off, e, hb, fun j hj => ?_⟩
  rw [List.length_take] at hj
  rw [hl j (by omega), List.getD_eq_getElem?_getD, List.getD_eq_getElem?_getD, List.getElem?_take, if_pos (by omega)]

end Go.Proofs.Ytikgbcdmeikjfaa

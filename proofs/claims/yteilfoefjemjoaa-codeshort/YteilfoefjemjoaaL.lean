/-
  A number has as few digits as can be; what is cut off is none; a digit more that says nothing is none: the walk of the law CodeShort.
  Conditions: as each theorem states them.
-/
import Derived.Test.YteilfoefjemjoaaJ
import Derived.Deep.AppendLies
namespace Go.Proofs.Yteilfoefjemjoaa
open Go.RowKit
set_option linter.unusedVariables false
set_option linter.unusedSimpArgs false

/-- How many digits a number has, none of 0. -/
def cnt (f : Nat) (q : Int) : Nat := if q = 0 then 0 else (digF f q).length
theorem cnt_0 (f : Nat) : cnt f 0 = 0 := by unfold cnt; rw [if_pos rfl]
theorem cnt_step {f : Nat} {q : Int} (h0 : 0 < q) (h : q < top (f + 1)) : ∃ f', cnt f q = 1 + cnt f' (q / 128) ∧ q / 128 < top (f' + 1) := by
  by_cases hq : q < 128
  · have e : q / 128 = 0 := by omega
    refine ⟨f, ?_, by rw [e]; have := top_pos (f + 1); omega⟩
    rw [e, cnt_0]; unfold cnt; rw [if_neg (by omega), digF_stop hq]; rfl
  · cases f with
    | zero => simp [top] at h; omega
    | succ f =>
      refine ⟨f, ?_, by rw [top] at h; omega⟩
      unfold cnt; rw [if_neg (by omega), if_neg (by omega), digF_step (by omega)]; simp; omega
theorem cnt_start {u : Int} (h : U64 u) : (digs u).length = 1 + cnt 8 (u / 128) ∧ u / 128 < top (8 + 1) := by
  obtain ⟨h1, h2⟩ := h
  refine ⟨?_, by rw [top9]; omega⟩
  unfold digs
  by_cases hq : u < 128
  · rw [show u / 128 = 0 by omega, cnt_0, digF_stop hq]; rfl
  · unfold cnt; rw [if_neg (by omega), digF_step (by omega)]; simp; omega

theorem get_no (a : Option Addr) (len cap : Nat) (l : List Int) (w : World) (h : Row8 w a len cap l) (hB : getB l = false) :
    Calls Try.prog 23 #[.slice a len cap] w fun e w' => e = .returned (.tuple #[.int .u64 0, .int .i64 0, .bool false]) ∧ w' = w := by
  refine (get_any a len cap l w h).mono ?_
  rintro e w' ⟨rfl, rfl⟩
  exact ⟨(ret_no hB).symm, rfl⟩
theorem put_nilL (u : Int) (L : Nat) (w : World) (hu : U64 u) (hL : Hid ((digs u).length = L)) : Calls Try.prog 22 #[.slice none 0 0, .int .u64 u] w fun e w' => (∃ g : Nat, e = .returned (.slice (some ⟨g, 0, none⟩) L L) ∧ w.heap.size ≤ g ∧ g < w'.heap.size ∧ Lies w' g 0 (digs u)) ∧ Below w.heap.size w w' := by
  rw [← hL.out]
  exact put_nil u w hu
theorem row_cut {w : World} {g L K : Nat} {l : List Int} (hL : l.length = L) (hg : g < w.heap.size) (hl : Lies w g 0 l) (h8 : ∀ x ∈ l, U8 x) (hn : L ≤ 1000100) (hK : K ≤ L) : Row8 w (some ⟨g, 0, none⟩) K L (l.take K) := by
  refine ⟨by rw [List.length_take]; omega, hK, by unfold maxLen; omega, fun x hx => h8 x (List.mem_of_mem_take hx), (fun h => by cases h), fun _ => ⟨g, 0, rfl, hg, fun k hk => ?_⟩⟩
  rw [List.length_take] at hk
  rw [hl k (by omega), List.getD_eq_getElem?_getD, List.getD_eq_getElem?_getD, List.getElem?_take, if_pos (by omega)]

theorem own_row8 {w : World} {base g n cap : Nat} {l : List Int} (h : w.ownsRow base 5 1 (.slice (some ⟨g, 0, none⟩) n cap) n (vals l)) (h8 : ∀ x ∈ l, U8 x) : Row8 w (some ⟨g, 0, none⟩) n cap l := by
  obtain ⟨e, h1, h2⟩ := owns_lies h
  rcases h.2 with ⟨h', _⟩ | ⟨g', cap', cur, h', _, _, hn, hm, _, _⟩
  · simp at h'
  · simp only [Value.slice.injEq, Option.some.injEq, Addr.mk.injEq, and_true, true_and] at h'
    obtain ⟨rfl, rfl⟩ := h'
    exact ⟨e, hn, hm, h8, (fun h => by cases h), fun _ => ⟨g, 0, rfl, h1, h2⟩⟩
theorem set_last {α : Type} (l : List α) (y : α) (C : Nat) (h : l.length = C + 1) : l.set C y = l.take C ++ [y] := by
  induction l generalizing C with
  | nil => simp at h
  | cons z r ih =>
    cases C with
    | zero => simp at h; subst h; rfl
    | succ C => simp only [List.set_cons_succ, List.take_succ_cons, List.cons_append]; rw [ih C (by simpa using h)]
theorem long_vals {l : List Int} {C : Nat} {x : Int} (h : l.length = C + 1) : ([] ++ vals l).set C (.int .u8 (x + 128)) ++ [.int .u8 0] = vals (l.take C ++ [x + 128, 0]) := by
  rw [List.nil_append, set_last _ _ C (by unfold vals; simpa using h)]
  unfold vals
  simp [List.map_take]
theorem own_le {N n cap g H : Nat} (h : (Value.slice (some ⟨N, 0, none⟩) n cap).ownBlock = some g ∨ g = H) (hH : N ≤ H) : N ≤ g := by
  rcases h with h | h
  · have h' : some N = some g := h
    cases h'; exact Nat.le_refl _
  · omega
theorem own_only {N n cap k : Nat} (h : (Value.slice (some ⟨N, 0, none⟩) n cap).ownBlock = some k) : k = N := by
  have h' : some N = some k := h
  cases h'; rfl
theorem one_new {w : World} {N : Nat} {x : Value} {t : TypeId} (hN : N = w.heap.size) : ∀ j u, [x][j]? = some u → (w.alloc (.cells #[x] t)).cell? ((⟨N, 0, none⟩ : Addr).add j) = some u := by
  subst hN; exact cell_one_new _ _ _
theorem own_made (w : World) (base : Nat) (hb : base ≤ w.heap.size) : (w.alloc (.cells #[] 5)).ownsRow base 5 1 (.slice (some ⟨w.heap.size, 0, none⟩) 0 0) 0 [] :=
  World.ownsRow_made w #[] 0 hb (by decide) rfl
theorem lies_alloc {w : World} {o : Obj} {g off : Nat} {l : List Int} (hg : g < w.heap.size) (hl : Lies w g off l) : Lies (w.alloc o) g off l :=
  grown_lies (World.grownBy_alloc w o none) hg (by simp) hl
theorem last_cell {w : World} {base g n cap C : Nat} {l : List Int} {x : Int} (h : w.ownsRow base 5 1 (.slice (some ⟨g, 0, none⟩) n cap) n ([] ++ vals l)) (hn : n = C + 1) (hx : l.getD C 0 = x) : w.cell? ⟨g, C, none⟩ = some (.int .u8 x) ∧ w.frozen? ⟨g, C, none⟩ = false := by
  rw [List.nil_append] at h
  obtain ⟨e, h1, h2⟩ := owns_lies h
  have := h2 C (by omega)
  rw [Nat.zero_add, hx] at this
  exact ⟨this, h.frozenAt C⟩

set_option maxHeartbeats 4000000 in
theorem short_pos (u cut x : Int) (C K : Nat) (w : World) (hu : U64 u) (hc : I64 cut) (hL : Hid ((digs u).length = C + 1)) (hL2 : C ≤ 9) (hr : cut.tmod ((C : Int) + 1) = (K : Int)) (hK : K < C + 1) (hx : Hid ((digs u).getD C 0 = x)) (hx0 : 0 ≤ x) (hx1 : x ≤ 127) :
    Calls Try.prog 8 #[.int .u64 u, .int .i64 cut] w fun e w' => e = .returned (.bool true) ∧ Below w.heap.size w w' := by
  obtain ⟨i0, hi, hz0, hz1, hz2⟩ := info_parts Try.info5
  obtain ⟨u1, u2⟩ := hu
  have HU : Hid (U64 u) := ⟨u1, u2⟩
  have h8 : Hid (∀ y ∈ (digs u).take C ++ [x + 128, 0], U8 y) := by
    intro y hy
    rcases List.mem_append.mp hy with h | h
    · exact digs_u8 HU.out y (List.mem_of_mem_take h)
    · simp at h; unfold U8; omega
  have hlong : Hid (getB ((digs u).take C ++ [x + 128, 0]) = false) := by
    have := get_long u HU.out.1 (x + 128) (by omega)
    rw [hL.out, Nat.add_sub_cancel] at this
    exact this
  have t1 : True := trivial
  go_enter Try.func8, Try.ntmps8
  go_wp2_with (first
    | (go_at_call 22; refine (put_nilL _ (C + 1) _ HU.out hL).mono ?_; rintro e w1 ⟨⟨g, rfl, hg0, hg, hl⟩, hb1⟩))
  go_loop [6, 7] (fun n v => ∃ (c f : Nat) (q : Int), n = .int .i64 c ∧ v = .int .u64 q ∧ 0 ≤ q ∧ q ≤ 144115188075855871 ∧ q < top (f + 1) ∧ c + cnt f q = C + 1)
    (fun _ v => (intOf v).toNat)
  case atStart => exact ⟨1, 8, u / 128, rfl, rfl, by omega, by omega, (cnt_start HU.out).2, by rw [← hL.out]; exact (cnt_start HU.out).1.symm⟩
  case round =>
    obtain ⟨c, f, q, rfl, rfl, hq0, hq1, hqt, hcL⟩ := hrel
    by_cases hq : 0 < q
    · obtain ⟨f', hf1, hf2⟩ := cnt_step hq hqt
      clear hL h8 hlong hx
      go_wp2
      go_round
      case rel => exact ⟨c + 1, f', q / 128, by go_num, rfl, by omega, by omega, hf2, by omega⟩
      case measure => simp [intOf]; omega
    · obtain rfl : q = 0 := by omega
      rw [cnt_0] at hcL
      obtain rfl : c = C + 1 := by omega
      clear hcL hqt hq0 hq1 hq
      have s1 := hb1.size
      go_wp2_with (first
        | (go_at_call 23; clear t1; refine (get_no _ _ _ ((digs u).take K) _ (row_cut hL.out (by assumption) (by assumption) (digs_u8 HU.out) (by omega) (by omega)) (get_cut u K HU.out.1 (by rw [hL.out]; omega))).mono ?_; rintro e w' ⟨rfl, rfl⟩)
        | (at_builtin; refine wpList_append_lies _ rfl (.tmp 45) (.tmp 46) 36 rfl w.heap.size 5 i0 (.int .u8 0) 1 1 Try.underlying36 hi hz0 hz1 hz2 rfl (by decide) (.slice (some ⟨w'.heap.size, 0, none⟩) 0 0) 0 [] rfl (own_made w' w.heap.size s1) ⟨g, 0, none⟩ (C + 1) (C + 1) (vals (digs u)) rfl (by rw [vals_len, hL.out]) (lies_cells (lies_alloc hg hl)) (vals_one _) (by omega) (by unfold maxLen; omega) (by omega) (Nat.le_trans s1 (by simp)) _ rfl ?_; intro g2 cap2 w2 hown2 hgrow2 hor2 hlt2; rw [Nat.zero_add] at hown2; obtain ⟨hcl, hfz⟩ := last_cell hown2 rfl hx.out; have hg2 : w'.heap.size ≤ g2 := own_le hor2 (by simp); have B2 : Below w.heap.size w w2 := ((hb1.alloc s1 _).grown hgrow2 (by simp; omega) (fun k hk => by rw [own_only hk]; exact s1)); have s2 := B2.size; have hst := (hown2.stored C (.int .u8 (x + 128))).1; have hB3 := B2.setCell (p := ⟨g2, C, none⟩) (show w.heap.size ≤ g2 by omega) (.int .u8 (x + 128)))
        | (at_builtin; refine wpList_append_lies _ rfl (.tmp 56) (.tmp 57) 36 rfl w.heap.size 5 i0 (.int .u8 0) 1 1 Try.underlying36 hi hz0 hz1 hz2 rfl (by decide) (.slice (some ⟨g2, 0, none⟩) (C + 1) cap2) (C + 1) _ rfl (hst.alloc _) _ 1 1 [.int .u8 0] rfl rfl (one_new (by simp)) (by intro v hv; simp at hv; subst hv; rfl) (by omega) (by unfold maxLen; omega) (by omega) (by simp; omega) _ rfl ?_; intro g3 cap3 w3 hown3 hgrow3 hor3 hlt3; rw [long_vals hL.out] at hown3; have B4 : Below w.heap.size w w3 := (hB3.alloc (by simp; omega) _).grown hgrow3 (by simp; omega) (fun k hk => by rw [own_only hk]; omega))
        | (go_at_call 23; refine (get_no _ _ _ ((digs u).take C ++ [x + 128, 0]) _ (own_row8 (by assumption) h8.out) hlong.out).mono ?_; rintro e w' ⟨rfl, rfl⟩)
        | (go_at_call 21; refine (wakes_any _).mono ?_; rintro e w9 ⟨rfl, hb9⟩))
      go_ret
      exact ⟨rfl, bt B4 hb9⟩

set_option maxHeartbeats 4000000 in
theorem short_neg (u cut x : Int) (C K : Nat) (w : World) (hu : U64 u) (hc : I64 cut) (hL : Hid ((digs u).length = C + 1)) (hL2 : C ≤ 9) (hr : cut.tmod ((C : Int) + 1) = -(K : Int)) (hK : K < C + 1) (hK0 : 0 < K) (hx : Hid ((digs u).getD C 0 = x)) (hx0 : 0 ≤ x) (hx1 : x ≤ 127) :
    Calls Try.prog 8 #[.int .u64 u, .int .i64 cut] w fun e w' => e = .returned (.bool true) ∧ Below w.heap.size w w' := by
  obtain ⟨i0, hi, hz0, hz1, hz2⟩ := info_parts Try.info5
  obtain ⟨u1, u2⟩ := hu
  have HU : Hid (U64 u) := ⟨u1, u2⟩
  have h8 : Hid (∀ y ∈ (digs u).take C ++ [x + 128, 0], U8 y) := by
    intro y hy
    rcases List.mem_append.mp hy with h | h
    · exact digs_u8 HU.out y (List.mem_of_mem_take h)
    · simp at h; unfold U8; omega
  have hlong : Hid (getB ((digs u).take C ++ [x + 128, 0]) = false) := by
    have := get_long u HU.out.1 (x + 128) (by omega)
    rw [hL.out, Nat.add_sub_cancel] at this
    exact this
  have t1 : True := trivial
  go_enter Try.func8, Try.ntmps8
  go_wp2_with (first
    | (go_at_call 22; refine (put_nilL _ (C + 1) _ HU.out hL).mono ?_; rintro e w1 ⟨⟨g, rfl, hg0, hg, hl⟩, hb1⟩))
  go_loop [6, 7] (fun n v => ∃ (c f : Nat) (q : Int), n = .int .i64 c ∧ v = .int .u64 q ∧ 0 ≤ q ∧ q ≤ 144115188075855871 ∧ q < top (f + 1) ∧ c + cnt f q = C + 1)
    (fun _ v => (intOf v).toNat)
  case atStart => exact ⟨1, 8, u / 128, rfl, rfl, by omega, by omega, (cnt_start HU.out).2, by rw [← hL.out]; exact (cnt_start HU.out).1.symm⟩
  case round =>
    obtain ⟨c, f, q, rfl, rfl, hq0, hq1, hqt, hcL⟩ := hrel
    by_cases hq : 0 < q
    · obtain ⟨f', hf1, hf2⟩ := cnt_step hq hqt
      clear hL h8 hlong hx
      go_wp2
      go_round
      case rel => exact ⟨c + 1, f', q / 128, by go_num, rfl, by omega, by omega, hf2, by omega⟩
      case measure => simp [intOf]; omega
    · obtain rfl : q = 0 := by omega
      rw [cnt_0] at hcL
      obtain rfl : c = C + 1 := by omega
      clear hcL hqt hq0 hq1 hq
      have s1 := hb1.size
      go_wp2_with (first
        | (go_at_call 23; clear t1; refine (get_no _ _ _ ((digs u).take K) _ (row_cut hL.out (by assumption) (by assumption) (digs_u8 HU.out) (by omega) (by omega)) (get_cut u K HU.out.1 (by rw [hL.out]; omega))).mono ?_; rintro e w' ⟨rfl, rfl⟩)
        | (at_builtin; refine wpList_append_lies _ rfl (.tmp 45) (.tmp 46) 36 rfl w.heap.size 5 i0 (.int .u8 0) 1 1 Try.underlying36 hi hz0 hz1 hz2 rfl (by decide) (.slice (some ⟨w'.heap.size, 0, none⟩) 0 0) 0 [] rfl (own_made w' w.heap.size s1) ⟨g, 0, none⟩ (C + 1) (C + 1) (vals (digs u)) rfl (by rw [vals_len, hL.out]) (lies_cells (lies_alloc hg hl)) (vals_one _) (by omega) (by unfold maxLen; omega) (by omega) (Nat.le_trans s1 (by simp)) _ rfl ?_; intro g2 cap2 w2 hown2 hgrow2 hor2 hlt2; rw [Nat.zero_add] at hown2; obtain ⟨hcl, hfz⟩ := last_cell hown2 rfl hx.out; have hg2 : w'.heap.size ≤ g2 := own_le hor2 (by simp); have B2 : Below w.heap.size w w2 := ((hb1.alloc s1 _).grown hgrow2 (by simp; omega) (fun k hk => by rw [own_only hk]; exact s1)); have s2 := B2.size; have hst := (hown2.stored C (.int .u8 (x + 128))).1; have hB3 := B2.setCell (p := ⟨g2, C, none⟩) (show w.heap.size ≤ g2 by omega) (.int .u8 (x + 128)))
        | (at_builtin; refine wpList_append_lies _ rfl (.tmp 56) (.tmp 57) 36 rfl w.heap.size 5 i0 (.int .u8 0) 1 1 Try.underlying36 hi hz0 hz1 hz2 rfl (by decide) (.slice (some ⟨g2, 0, none⟩) (C + 1) cap2) (C + 1) _ rfl (hst.alloc _) _ 1 1 [.int .u8 0] rfl rfl (one_new (by simp)) (by intro v hv; simp at hv; subst hv; rfl) (by omega) (by unfold maxLen; omega) (by omega) (by simp; omega) _ rfl ?_; intro g3 cap3 w3 hown3 hgrow3 hor3 hlt3; rw [long_vals hL.out] at hown3; have B4 : Below w.heap.size w w3 := (hB3.alloc (by simp; omega) _).grown hgrow3 (by simp; omega) (fun k hk => by rw [own_only hk]; omega))
        | (go_at_call 23; refine (get_no _ _ _ ((digs u).take C ++ [x + 128, 0]) _ (own_row8 (by assumption) h8.out) hlong.out).mono ?_; rintro e w' ⟨rfl, rfl⟩)
        | (go_at_call 21; refine (wakes_any _).mono ?_; rintro e w9 ⟨rfl, hb9⟩))
      go_ret
      exact ⟨rfl, bt B4 hb9⟩

theorem short_walk (u cut : Int) (w : World) (hu : U64 u) (hc : I64 cut) :
    Calls Try.prog 8 #[.int .u64 u, .int .i64 cut] w fun e w' => e = .returned (.bool true) ∧ Below w.heap.size w w' := by
  have h := digs_len u
  obtain ⟨C, hC⟩ : ∃ C, (digs u).length = C + 1 := ⟨(digs u).length - 1, by omega⟩
  have hx : 0 ≤ (digs u).getD C 0 ∧ (digs u).getD C 0 ≤ 127 := by
    obtain ⟨u1, u2⟩ := hu
    by_cases h1 : 1 ≤ u
    · have := last_dig 9 u [] h1 (by rw [top10]; omega)
      rw [List.append_nil, show (digF 9 u).length - 1 = C by (have := hC; unfold digs at this; omega)] at this
      exact ⟨by have := this.1; unfold digs; omega, this.2⟩
    · obtain rfl : u = 0 := by omega
      have : C = 0 := by have e : (digs 0).length = 1 := by decide
                         omega
      subst this
      decide
  have hlt : (cut.tmod ((C : Int) + 1)).natAbs < C + 1 := by
    rw [Int.natAbs_tmod]
    have : ((C : Int) + 1).natAbs = C + 1 := by omega
    rw [this]
    exact Nat.mod_lt _ (by omega)
  by_cases hs : 0 ≤ cut.tmod ((C : Int) + 1)
  · exact short_pos u cut _ C (cut.tmod ((C : Int) + 1)).natAbs w hu hc hC (by omega) (by omega) hlt rfl hx.1 hx.2
  · exact short_neg u cut _ C (cut.tmod ((C : Int) + 1)).natAbs w hu hc hC (by omega) (by omega) hlt (by omega) rfl hx.1 hx.2

end Go.Proofs.Yteilfoefjemjoaa

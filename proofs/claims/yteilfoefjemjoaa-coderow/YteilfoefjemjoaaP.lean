/-
  Numbers that are written one behind the other are read one by one, whatever is behind: the walk of the law CodeRow.
  Conditions: as each theorem states them.
-/
import Derived.Test.YteilfoefjemjoaaM
namespace Go.Proofs.Yteilfoefjemjoaa
open Go.RowKit
set_option linter.unusedVariables false
set_option linter.unusedSimpArgs false

/-- Numbers written one behind the other. -/
def cat (zs : List Int) : List Int := zs.flatMap digs
theorem cat_take (zs : List Int) (k : Nat) (h : k < zs.length) : cat (zs.take (k + 1)) = cat (zs.take k) ++ digs (zs.getD k 0) := by
  unfold cat
  rw [List.take_succ_eq_append_getElem h, List.flatMap_append]
  simp [List.getD_eq_getElem?_getD, List.getElem?_eq_getElem h]
theorem cat_split (zs : List Int) (k : Nat) (h : k < zs.length) : cat zs = cat (zs.take k) ++ (digs (zs.getD k 0) ++ cat (zs.drop (k + 1))) := by
  conv => lhs; rw [← List.take_append_drop k zs, List.drop_eq_getElem_cons h]
  unfold cat
  rw [List.flatMap_append, List.flatMap_cons]
  simp [List.getD_eq_getElem?_getD, List.getElem?_eq_getElem h]
theorem cat_drop (zs ys : List Int) (k : Nat) (h : k < zs.length) : (cat zs ++ ys).drop (cat (zs.take k)).length = digs (zs.getD k 0) ++ (cat (zs.drop (k + 1)) ++ ys) := by
  rw [cat_split zs k h, List.append_assoc, List.drop_left, List.append_assoc]
theorem cat_len (zs : List Int) : (cat zs).length ≤ 10 * zs.length := by
  induction zs with
  | nil => simp [cat]
  | cons z r ih =>
    have := (digs_len z).2
    unfold cat at *
    rw [List.flatMap_cons, List.length_append, List.length_cons]
    omega
theorem cat_u8 (zs : List Int) (h : ∀ x ∈ zs, U64 x) : ∀ y ∈ cat zs, U8 y := by
  intro y hy
  unfold cat at hy
  obtain ⟨x, hx, hy⟩ := List.mem_flatMap.mp hy
  exact digs_u8 (h x hx) y hy
theorem u64_getD {l : List Int} (hu : ∀ x ∈ l, U64 x) (k : Nat) (h : k < l.length) : U64 (l.getD k 0) := by
  have : l.getD k 0 = l[k] := by simp [List.getD_eq_getElem?_getD, List.getElem?_eq_getElem h]
  rw [this]
  exact hu _ (List.getElem_mem h)
theorem row_drop {w : World} {base g N cap A : Nat} {l : List Int} (h : w.ownsRow base 5 1 (.slice (some ⟨g, 0, none⟩) N cap) N (vals l)) (h8 : ∀ x ∈ l, U8 x) (hA : A < N) : Row8 w (some ⟨g, A, none⟩) (N - A) (cap - A) (l.drop A) := by
  obtain ⟨r1, r2, r3, r4, r5, r6⟩ := own_row8 h h8
  obtain ⟨e, h1, h2⟩ := owns_lies h
  refine ⟨by rw [List.length_drop]; omega, by omega, by omega, fun x hx => h8 x (List.mem_of_mem_drop hx), (fun h => by cases h), fun _ => ⟨g, A, rfl, h1, fun k hk => ?_⟩⟩
  rw [List.length_drop] at hk
  have := h2 (A + k) (by omega)
  rw [Nat.zero_add] at this
  rw [this]
  simp [List.getD_eq_getElem?_getD]
theorem get_at {w : World} {base g N cap A D : Nat} {zs ys : List Int} {k : Nat} {z : Int} (h : w.ownsRow base 5 1 (.slice (some ⟨g, 0, none⟩) N cap) N (vals (cat zs ++ ys))) (h8 : ∀ x ∈ cat zs ++ ys, U8 x) (hA : A < N)
    (hk : k < zs.length) (hAk : A = (cat (zs.take k)).length) (hz : zs.getD k 0 = z) (hzu : U64 z) (hD : (digs z).length = D) :
    Calls Try.prog 23 #[.slice (some ⟨g, A, none⟩) (N - A) (cap - A)] w fun e w' => e = .returned (.tuple #[.int .u64 z, .int .i64 D, .bool true]) ∧ w' = w := by
  have h1 := get_any _ _ _ _ _ (row_drop h h8 hA)
  obtain ⟨e1, e2, e3⟩ := get_digs z (cat (zs.drop (k + 1)) ++ ys) hzu
  rw [hAk, cat_drop zs ys k hk, hz, e1, e2, e3, hD, ← hAk] at h1
  exact h1

set_option maxHeartbeats 4000000 in
theorem row_walk (a a2 : Option Addr) (len cap len2 cap2 : Nat) (zs ys : List Int) (w : World) (h1 : Row64 w a len cap zs) (h2 : Row8 w a2 len2 cap2 ys) (hl : len ≤ 500) (hl2 : len2 ≤ 500) :
    Calls Try.prog 7 #[.slice a len cap, .slice a2 len2 cap2] w fun e w' => e = .returned (.bool true) ∧ Below w.heap.size w w' := by
  obtain ⟨r1, r2, r3, r4, r5⟩ := h1
  have R5 : Hid (0 < len → ∃ b off, a = some ⟨b, off, none⟩ ∧ b < w.heap.size ∧ ∀ k, k < len → w.cell? ⟨b, off + k, none⟩ = some (.int .u64 (zs.getD k 0))) := r5
  have R4 : Hid (∀ x ∈ zs, U64 x) := r4
  have H2 : Hid (Row8 w a2 len2 cap2 ys) := h2
  have R1 : Hid (len = zs.length) := r1
  unfold maxLen at r3
  clear r1 r4 r5 h2
  go_enter Try.func7, Try.ntmps7
  go_wp2
  go_loopw [5, 6] (fun bv i wr => ∃ (k : Nat) (sa : Option Addr) (n c : Nat), k ≤ len ∧ i = .int .i64 k ∧ bv = .slice sa n c ∧ Row8 wr sa n c (cat (zs.take k)) ∧ Below w.heap.size w wr)
    (fun _ i _ => len - (intOf i).toNat)
  case atStart => exact ⟨0, none, 0, 0, Nat.zero_le _, rfl, rfl, row_nil w, Below.refl _ _⟩
  case round =>
    obtain ⟨k, sa, n, c, hk, rfl, rfl, hrow, hbel⟩ := hrel
    have HR : Hid (Row8 wr sa n c (cat (zs.take k))) := hrow
    have hn : n ≤ 5000 := by
      rw [hrow.1]
      have := cat_len (zs.take k)
      rw [List.length_take] at this
      omega
    clear hrow
    by_cases hlt : k < len
    · obtain ⟨b, off, rfl, hb, hcell⟩ := R5.out (by omega)
      have hcx : wr.cell? ⟨b, off + k, none⟩ = some (.int .u64 (zs.getD k 0)) := (hbel.cell (by exact hb)).trans (hcell k hlt)
      have hzu : Hid (U64 (zs.getD k 0)) := u64_getD R4.out k (by rw [← R1.out]; exact hlt)
      have HC : Hid (cat (zs.take (k + 1)) = cat (zs.take k) ++ digs (zs.getD k 0)) := cat_take zs k (by rw [← R1.out]; exact hlt)
      obtain ⟨z, hz⟩ : ∃ z, zs.getD k 0 = z := ⟨_, rfl⟩
      rw [hz] at hcx hzu HC
      clear hcell hz
      go_wp2_with (first
        | (go_at_call 22; refine (put_any _ _ _ (cat (zs.take k)) _ _ HR.out (by omega) hzu.out).mono ?_; rintro e w1 ⟨⟨g, rfl, hg0, hg, hl⟩, hb1⟩))
      go_roundw
      case rel =>
        have hlen : (cat (zs.take (k + 1))).length ≤ 5010 := by
          have := cat_len (zs.take (k + 1))
          rw [List.length_take] at this
          omega
        rw [← HC.out] at hl
        refine ⟨k + 1, some ⟨g, 0, none⟩, _, _, by omega, by go_num, rfl, ?_, bt hbel hb1⟩
        rw [show (cat (zs.take k)).length + (digs z).length = (cat (zs.take (k + 1))).length by rw [HC.out, List.length_append]]
        exact row_at hg hl (cat_u8 _ (fun x hx => R4.out x (List.mem_of_mem_take hx))) (by omega)
      case measure => simp [intOf]; omega
    · obtain rfl : k = len := by omega
      have HR2 : Hid (Row8 wr sa n c (cat zs)) := by
        have := HR.out
        rw [R1.out, List.take_length] at this
        exact this
      clear HR
      have s1 := hbel.size
      go_wp2_with (first
        | (at_builtin; refine append_row rfl (.tmp 36) (.tmp 37) rfl w.heap.size wr.heap.size 0 0 [] rfl (own_made wr w.heap.size s1) sa n c (cat zs) rfl (HR2.out.below ((Below.refl _ _).alloc (Nat.le_refl _) _)) (by omega) (by simp; omega) ?_; intro g1 cap1 w1 hown1 hgrow1; rw [Nat.zero_add, List.nil_append] at hown1; have B1 : Below w.heap.size w w1 := (hbel.alloc s1 _).grown hgrow1 (by simp; omega) (fun k hk => by cases hk; exact s1))
        | (at_builtin; refine append_row rfl (.tmp 38) (.tmp 39) rfl w.heap.size g1 n cap1 (cat zs) rfl hown1 a2 len2 cap2 ys rfl (H2.out.below B1) (by omega) B1.size ?_; intro g2 cap3 w2 hown2 hgrow2; have B2 : Below w.heap.size w w2 := B1.grown hgrow2 B1.size (fun k hk => by cases hk; exact (own_row hown1).1)))
      have hnl : Hid (n = (cat zs).length) := HR2.out.1
      have h8 : Hid (∀ x ∈ cat zs ++ ys, U8 x) := by
        intro x hx
        rcases List.mem_append.mp hx with h | h
        · exact cat_u8 zs R4.out x h
        · exact H2.out.2.2.2.1 x h
      have hNc : n + len2 ≤ cap3 := (own_row8 hown2 h8.out).2.1
      have hcm : cap3 ≤ 9223372036854775807 := by have := (own_row8 hown2 h8.out).2.2.1; unfold maxLen at this; omega
      go_loop [8, 9] (fun av i => ∃ (j A : Nat), j ≤ k ∧ i = .int .i64 j ∧ av = .int .i64 A ∧ A = (cat (zs.take j)).length)
        (fun _ i => k - (intOf i).toNat)
      case atStart => exact ⟨0, 0, Nat.zero_le _, rfl, rfl, rfl⟩
      case round =>
        obtain ⟨j, A, hj, rfl, rfl, hA0⟩ := hrel
        have hA : Hid (A = (cat (zs.take j)).length) := hA0
        clear hA0
        by_cases hjl : j < k
        · obtain ⟨b, off, rfl, hb, hcell⟩ := R5.out (by omega)
          have hjz : j < zs.length := by rw [← R1.out]; exact hjl
          have hcx : w2.cell? ⟨b, off + j, none⟩ = some (.int .u64 (zs.getD j 0)) := (B2.cell (by exact hb)).trans (hcell j hjl)
          have hzu : Hid (U64 (zs.getD j 0)) := u64_getD R4.out j hjz
          have HC : Hid (cat (zs.take (j + 1)) = cat (zs.take j) ++ digs (zs.getD j 0)) := cat_take zs j hjz
          have HS := congrArg List.length (cat_split zs j hjz)
          rw [List.length_append, List.length_append, ← hA.out, ← hnl.out] at HS
          obtain ⟨z, hz⟩ : ∃ z, zs.getD j 0 = z := ⟨_, rfl⟩
          have HZ : Hid (zs.getD j 0 = z) := hz
          rw [hz] at hcx hzu HC HS
          have hD1 := (digs_len z).1
          obtain ⟨D, hD0⟩ : ∃ D, (digs z).length = D := ⟨_, rfl⟩
          rw [hD0] at HS hD1
          have hD : Hid ((digs z).length = D) := hD0
          have hADn : A + D ≤ n := by omega
          have HJ : Hid (j < zs.length) := hjz
          clear hcell hz HS hD0 hjz
          go_wp2_with (first
            | (go_at_call 23; refine (get_at hown2 h8.out (by omega) HJ.out hA.out HZ.out hzu.out hD.out).mono ?_; rintro e w' ⟨rfl, rfl⟩))
          go_round
          case rel =>
            refine ⟨j + 1, A + D, by omega, by go_num, by go_num, ?_⟩
            rw [HC.out, List.length_append, ← hA.out, hD.out]
          case measure => simp [intOf]; omega
        · obtain rfl : j = k := by omega
          have hAn : A = n := by
            rw [hA.out, hnl.out, R1.out, List.take_length]
          subst hAn
          go_wp2_with (first
            | (go_at_call 21; refine (wakes_any _).mono ?_; rintro e w9 ⟨rfl, hb9⟩))
          go_ret
          exact ⟨rfl, bt B2 hb9⟩

set_option maxHeartbeats 1000000 in
theorem row_big (a a2 : Option Addr) (len cap len2 cap2 : Nat) (w : World) (hl : 500 < len ∨ 500 < len2) (h1 : len ≤ 9223372036854775807) (h2 : len2 ≤ 9223372036854775807) :
    Calls Try.prog 7 #[.slice a len cap, .slice a2 len2 cap2] w fun e w' => e = .returned (.bool true) ∧ Below w.heap.size w w' := by
  by_cases hb : 500 < len
  · clear hl
    go_enter Try.func7, Try.ntmps7
    go_wp2_with (go_at_call 21; refine (wakes_any _).mono ?_; rintro e w9 ⟨rfl, hb9⟩)
    go_ret
    exact ⟨rfl, hb9⟩
  · have hb2 : 500 < len2 := by omega
    clear hl
    go_enter Try.func7, Try.ntmps7
    go_wp2_with (go_at_call 21; refine (wakes_any _).mono ?_; rintro e w9 ⟨rfl, hb9⟩)
    go_ret
    exact ⟨rfl, hb9⟩

theorem row_all (a a2 : Option Addr) (len cap len2 cap2 : Nat) (zs ys : List Int) (w : World) (h1 : Row64 w a len cap zs) (h2 : Row8 w a2 len2 cap2 ys) :
    Calls Try.prog 7 #[.slice a len cap, .slice a2 len2 cap2] w fun e w' => e = .returned (.bool true) ∧ Below w.heap.size w w' := by
  have e1 := h1.2.1; have e2 := h1.2.2.1; have e3 := h2.2.1; have e4 := h2.2.2.1
  unfold maxLen at e2 e4
  by_cases h : 500 < len ∨ 500 < len2
  · exact row_big a a2 len cap len2 cap2 w h (by omega) (by omega)
  · exact row_walk a a2 len cap len2 cap2 zs ys w h1 h2 (by omega) (by omega)

end Go.Proofs.Yteilfoefjemjoaa

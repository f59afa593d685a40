/-
  The walk of the law CalcParts where the remainder is below 0.
  Conditions: as each theorem states them.
-/
import Derived.Test.YtagcjfcmgfifnaaM
namespace Go.Proofs.Ytagcjfcmgfifnaa
open Go.RowKit
set_option linter.unusedVariables false
set_option linter.unusedSimpArgs false

set_option maxHeartbeats 8000000 in
theorem parts_neg (b off len cap K : Nat) (a : Int) (zs : List Int) (w : World) (h0 : 0 < len) (hb : b < w.heap.size) (hlc : len ≤ cap) (hcm : cap ≤ 9223372036854775807) (hlz : zs.length = cap) (hm : len ≤ 2000)
    (hc : ∀ k, k < cap → w.cell? ⟨b, off + k, none⟩ = some (.int .i64 (zs.getD k 0))) (hz : ∀ x ∈ zs, I64 x) (hr : a.tmod ((len : Int) + 1) = -(K : Int)) (hK0 : 0 < K) (hK : K ≤ len) :
    Calls Try.prog 7 #[.slice (some ⟨b, off, none⟩) len cap, .int .i64 a] w fun e w' => e = .returned (.bool true) ∧ Below w.heap.size w w' := by
  obtain ⟨i0, hi, hz0, hz1, hz2⟩ := info_parts Try.info2
  have HC : Hid (∀ k, k < cap → w.cell? ⟨b, off + k, none⟩ = some (.int .i64 (zs.getD k 0))) := hc
  clear hc
  go_enter Try.func7, Try.ntmps7
  go_wp2_with (first
    | (at_make; refine wpList_make_own _ rfl _ _ 36 rfl w.heap.size 2 i0 (.int .i64 0) 1 Try.underlying36 hi hz0 hz1 .i64 .i64 _ len rfl rfl rfl (by rw [hz2]; omega) (by unfold maxLen; omega) (Nat.le_refl _) ?_; intro w0 hown0 hgrow0))
  clear hr
  go_loopw [6, 7] (fun v i wr => ∃ m : Nat, m ≤ len ∧ i = .int .i64 ((m : Int) - 1) ∧ v = .slice (some ⟨w.heap.size, 0, none⟩) (len - m) len ∧ wr.ownsRow w.heap.size 2 1 v (len - m) (rest zs len m) ∧ Below w.heap.size w wr)
    (fun _ i _ => (intOf i + 1).toNat)
  case atStart => exact ⟨len, Nat.le_refl _, rfl, by rw [Nat.sub_self], by rw [Nat.sub_self, rest_full]; exact hown0, (Below.refl _ _).grown hgrow0 (Nat.le_refl _) (fun k h => by cases h)⟩
  case round =>
    obtain ⟨m, hmle, rfl, rfl, hown, hnx⟩ := hrel
    have hsize := hnx.size
    match m, hmle, hown with
    | m' + 1, hmle, hown =>
      have e1 : (((m' + 1 : Nat) : Int) - 1) = (m' : Int) := by omega
      rw [e1]
      clear e1
      have hcx : wr.cell? ⟨b, off + m', none⟩ = some (.int .i64 (zs.getD m' 0)) := (hnx.cell (by exact hb)).trans (HC.out m' (by omega))
      have hmz : m' < len := by omega
      go_wp2_with (first
        | (at_builtin; refine wpList_append_own_spare _ rfl (.tmp 41) (.tmp 46) 36 rfl w.heap.size 2 i0 1 Try.underlying36 hi hz1 w.heap.size (len - (m' + 1)) len _ rfl (hown.alloc _) ⟨wr.heap.size, 0, none⟩ 1 1 [.int .i64 (zs.getD m' 0)] rfl rfl (cell_one_new _ _ _) (by intro u hu; simp at hu; subst hu; rfl) (by omega) ?_; intro w1 hown1 hgrow1))
      go_roundw
      case rel =>
        have e2 : len - (m' + 1) + 1 = len - m' := by omega
        rw [e2] at hown1
        refine ⟨m', by omega, rfl, by rw [← e2], ?_, (hnx.alloc (by omega) _).grown hgrow1 (by simp; omega) (fun j hj => by cases hj; exact Nat.le_refl _)⟩
        rw [rest_step zs len m' (by omega) (by omega)]
        simpa [e2] using hown1
      case measure => simp [intOf]
    | 0, hmle, hown =>
      simp only [Nat.sub_zero] at hown
      obtain ⟨T, hT⟩ : ∃ T, sumI (zs.take len) = T := ⟨_, rfl⟩
      obtain ⟨A, hA⟩ : ∃ T, sumI (zs.take K) = T := ⟨_, rfl⟩
      obtain ⟨E, hE⟩ : ∃ T, sumI ((zs.drop K).take (len - K)) = T := ⟨_, rfl⟩
      have hAE : A + E = T := by rw [← hA, ← hE, ← hT]; exact sum_parts zs len K hK
      have hs1 : ∀ W, Below wr.heap.size wr W → SumsTo W (.slice (some ⟨b, off, none⟩) len cap) T := fun W hW => by rw [← hT]; exact sums_part hb hlz hlc hm HC.out hz hnx hW
      have hs2 : ∀ W, Below wr.heap.size wr W → SumsTo W (.slice (some ⟨w.heap.size, 0, none⟩) len len) T := fun W hW => by rw [← hT]; exact sums_back (by omega) hm hz hown hW
      have hs3 : ∀ W, Below wr.heap.size wr W → SumsTo W (.slice (some ⟨b, off, none⟩) K cap) A := fun W hW => by rw [← hA]; exact sums_part hb hlz (by omega) (by omega) HC.out hz hnx hW
      have hs4 : ∀ W, Below wr.heap.size wr W → SumsTo W (.slice (some ⟨b, off + K, none⟩) (len - K) (cap - K)) E := fun W hW => by rw [← hE]; exact sums_suf hb hlz hlc hm hK HC.out hz hnx hW
      clear hT hA
      have HB : Hid (Below w.heap.size w wr) := hnx
      by_cases hKl : K < len
      · clear hE
        clear hown hnx
        have acc := Below.refl wr.heap.size wr
        by_cases fA : -9223372036854775808 ≤ A ∧ A ≤ 9223372036854775807
        · obtain ⟨fa1, fa2⟩ := fit_yes fA
          have ia : I64 A := fA
          clear fA
          by_cases fB : -9223372036854775808 ≤ E ∧ E ≤ 9223372036854775807
          · obtain ⟨fb1, fb2⟩ := fit_yes fB
            have ib : I64 E := fB
            clear fB
            go_wp2_with (first
          | (go_at_call 21; refine (total_v _ _ _ (by first | exact hs1 _ acc | exact hs2 _ acc | exact hs3 _ acc | exact hs4 _ acc)).mono ?_; rintro e w1 ⟨rfl, hb1⟩; replace acc := bt acc hb1; clear hb1)
          | (go_at_call 9; refine (add_any _ _ _ (by assumption) (by assumption)).mono ?_; rintro e w1 ⟨rfl, rfl⟩)
          | (go_at_call 20; refine (wakes_any _).mono ?_; rintro e w1 ⟨rfl, hb1⟩; replace acc := bt acc hb1; clear hb1))
            all_goals (go_ret; exact ⟨rfl, HB.out.trans (acc.mono HB.out.size)⟩)
          · obtain ⟨fb1, fb2⟩ := fit_no fB
            clear fB
            go_wp2_with (first
          | (go_at_call 21; refine (total_v _ _ _ (by first | exact hs1 _ acc | exact hs2 _ acc | exact hs3 _ acc | exact hs4 _ acc)).mono ?_; rintro e w1 ⟨rfl, hb1⟩; replace acc := bt acc hb1; clear hb1)
          | (go_at_call 9; refine (add_any _ _ _ (by assumption) (by assumption)).mono ?_; rintro e w1 ⟨rfl, rfl⟩)
          | (go_at_call 20; refine (wakes_any _).mono ?_; rintro e w1 ⟨rfl, hb1⟩; replace acc := bt acc hb1; clear hb1))
            all_goals (go_ret; exact ⟨rfl, HB.out.trans (acc.mono HB.out.size)⟩)
        · obtain ⟨fa1, fa2⟩ := fit_no fA
          clear fA
          go_wp2_with (first
          | (go_at_call 21; refine (total_v _ _ _ (by first | exact hs1 _ acc | exact hs2 _ acc | exact hs3 _ acc | exact hs4 _ acc)).mono ?_; rintro e w1 ⟨rfl, hb1⟩; replace acc := bt acc hb1; clear hb1)
          | (go_at_call 9; refine (add_any _ _ _ (by assumption) (by assumption)).mono ?_; rintro e w1 ⟨rfl, rfl⟩)
          | (go_at_call 20; refine (wakes_any _).mono ?_; rintro e w1 ⟨rfl, hb1⟩; replace acc := bt acc hb1; clear hb1))
          all_goals (go_ret; exact ⟨rfl, HB.out.trans (acc.mono HB.out.size)⟩)
      · have : K = len := by omega
        subst this
        have hE0 : E = 0 := by rw [← hE, Nat.sub_self, List.take_zero]; rfl
        obtain rfl : A = T := by omega
        clear hE hs4
        have hs4 : ∀ W, Below wr.heap.size wr W → ∀ x c, SumsTo W (.slice x 0 c) E := fun W _ x c => by rw [hE0]; exact sums0 W x c
        clear hE0
        clear hown hnx
        have acc := Below.refl wr.heap.size wr
        by_cases fA : -9223372036854775808 ≤ A ∧ A ≤ 9223372036854775807
        · obtain ⟨fa1, fa2⟩ := fit_yes fA
          have ia : I64 A := fA
          clear fA
          by_cases fB : -9223372036854775808 ≤ E ∧ E ≤ 9223372036854775807
          · obtain ⟨fb1, fb2⟩ := fit_yes fB
            have ib : I64 E := fB
            clear fB
            go_wp2_with (first
          | (go_at_call 21; refine (total_v _ _ _ (by first | exact hs1 _ acc | exact hs2 _ acc | exact hs3 _ acc | exact hs4 _ acc _ _)).mono ?_; rintro e w1 ⟨rfl, hb1⟩; replace acc := bt acc hb1; clear hb1)
          | (go_at_call 9; refine (add_any _ _ _ (by assumption) (by assumption)).mono ?_; rintro e w1 ⟨rfl, rfl⟩)
          | (go_at_call 20; refine (wakes_any _).mono ?_; rintro e w1 ⟨rfl, hb1⟩; replace acc := bt acc hb1; clear hb1))
            all_goals (go_ret; exact ⟨rfl, HB.out.trans (acc.mono HB.out.size)⟩)
          · obtain ⟨fb1, fb2⟩ := fit_no fB
            clear fB
            go_wp2_with (first
          | (go_at_call 21; refine (total_v _ _ _ (by first | exact hs1 _ acc | exact hs2 _ acc | exact hs3 _ acc | exact hs4 _ acc _ _)).mono ?_; rintro e w1 ⟨rfl, hb1⟩; replace acc := bt acc hb1; clear hb1)
          | (go_at_call 9; refine (add_any _ _ _ (by assumption) (by assumption)).mono ?_; rintro e w1 ⟨rfl, rfl⟩)
          | (go_at_call 20; refine (wakes_any _).mono ?_; rintro e w1 ⟨rfl, hb1⟩; replace acc := bt acc hb1; clear hb1))
            all_goals (go_ret; exact ⟨rfl, HB.out.trans (acc.mono HB.out.size)⟩)
        · obtain ⟨fa1, fa2⟩ := fit_no fA
          clear fA
          go_wp2_with (first
          | (go_at_call 21; refine (total_v _ _ _ (by first | exact hs1 _ acc | exact hs2 _ acc | exact hs3 _ acc | exact hs4 _ acc _ _)).mono ?_; rintro e w1 ⟨rfl, hb1⟩; replace acc := bt acc hb1; clear hb1)
          | (go_at_call 9; refine (add_any _ _ _ (by assumption) (by assumption)).mono ?_; rintro e w1 ⟨rfl, rfl⟩)
          | (go_at_call 20; refine (wakes_any _).mono ?_; rintro e w1 ⟨rfl, hb1⟩; replace acc := bt acc hb1; clear hb1))
          all_goals (go_ret; exact ⟨rfl, HB.out.trans (acc.mono HB.out.size)⟩)

end Go.Proofs.Ytagcjfcmgfifnaa

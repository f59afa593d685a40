/-
  What the document's own Size returns.
  Conditions: as each theorem states them.
-/
import Derived.Test.YtikgbcdmeikjfaaG
namespace Go.Proofs.Ytikgbcdmeikjfaa
open Go.ChangeShapes Go.WideShapes Go.ChangeAt Go.RowKit
set_option linter.unusedVariables false
set_option linter.unusedSimpArgs false
set_option maxRecDepth 100000

set_option maxHeartbeats 1000000 in
theorem rsize_any (sa : Option Addr) (sl sc : Nat) (ua : Option Addr) (ul uc : Nat) (S : List Int) (U : List (List Int)) (f : Int) (w : World) (hd : Dim w sa sl sc ua ul uc S U) (hf : I64 f) :
    Calls Try.prog 53 #[.agg #[.slice sa sl sc, .slice ua ul uc], .int .i64 f] w fun e w' => e = .returned (.int .i64 (size S U f)) ∧ Below w.heap.size w w' := by
  obtain ⟨e1, e2, e3, e4⟩ := hd.lens
  have E1 : Hid (sl = S.length) := e1
  have HD : Hid (Dim w sa sl sc ua ul uc S U) := hd
  clear e1 e2 hd
  obtain ⟨f1, f2⟩ := hf
  cases hg : good S U with
  | false =>
    have HG : Hid (good S U = false) := hg
    go_enter Try.func53, Try.ntmps53
    go_wp2_with (go_at_call 63; refine (rgood_any _ _ _ _ _ _ S U _ (HD.out.box _)).mono ?_; rintro e w1 ⟨rfl, hb⟩)
    go_ret
    exact ⟨ret_int (size_bad HG.out f).symm, box_bt hb⟩
  | true =>
    have HG : Hid (good S U = true) := hg
    by_cases h0 : f < 0
    · go_enter Try.func53, Try.ntmps53
      go_wp2_with (go_at_call 63; refine (rgood_any _ _ _ _ _ _ S U _ (HD.out.box _)).mono ?_; rintro e w1 ⟨rfl, hb⟩)
      go_ret
      exact ⟨ret_int (size_out (.inl h0)).symm, box_bt hb⟩
    · have h0f : decide (f < 0) = false := decide_eq_false h0
      by_cases h1 : (sl : Int) < f
      · go_enter Try.func53, Try.ntmps53
        go_wp2_with (go_at_call 63; refine (rgood_any _ _ _ _ _ _ S U _ (HD.out.box _)).mono ?_; rintro e w1 ⟨rfl, hb⟩; obtain ⟨c0, c1⟩ := box_cells hb)
        go_ret
        exact ⟨ret_int (size_out (.inr (by rw [← E1.out]; exact h1))).symm, box_bt hb⟩
      · have h1f : decide ((sl : Int) < f) = false := decide_eq_false h1
        obtain ⟨k, rfl⟩ : ∃ k : Nat, f = k := ⟨f.toNat, by omega⟩
        by_cases hk : k = sl
        · subst hk
          go_enter Try.func53, Try.ntmps53
          go_wp2_with (go_at_call 63; refine (rgood_any _ _ _ _ _ _ S U _ (HD.out.box _)).mono ?_; rintro e w1 ⟨rfl, hb⟩; obtain ⟨c0, c1⟩ := box_cells hb)
          go_ret
          refine ⟨ret_int ?_, box_bt hb⟩
          rw [E1.out, size_top HG.out]
        · have h2 : ((k : Int) == (sl : Int)) = false := by simp; omega
          have h3 : (k : Int) < (sl : Int) := by omega
          obtain ⟨b, off, rfl, hb0, hcell, hi64⟩ := HD.out.size_cell (k := k) (by omega)
          have hc := hcell k (by omega)
          clear hcell hi64
          obtain ⟨x, hx⟩ : ∃ x, S.getD k 0 = x := ⟨_, rfl⟩
          rw [hx] at hc
          have HX : Hid (S.getD k 0 = x) := hx
          clear hx
          go_enter Try.func53, Try.ntmps53
          go_wp2_with (go_at_call 63; refine (rgood_any _ _ _ _ _ _ S U _ (HD.out.box _)).mono ?_; rintro e w1 ⟨rfl, hb⟩; obtain ⟨c0, c1⟩ := box_cells hb; have c2 := ((bcell (box_bt hb)).1 _ _ hb0).trans hc)
          go_ret
          refine ⟨ret_int ?_, box_bt hb⟩
          rw [size_at HG.out (by rw [← E1.out]; omega), HX.out]

end Go.Proofs.Ytikgbcdmeikjfaa

/-
  What schema's list returns.
  Conditions: as each theorem states them.
-/
import Derived.Test.YtmlnfpefemchhaaSM
namespace Go.Proofs.Ytmlnfpefemchhaa
open Go.ChangeShapes Go.WideShapes Go.ChangeAt Go.RowKit
set_option linter.unusedVariables false
set_option linter.unusedSimpArgs false

theorem info_int : (Try.prog.info? 3).map (fun i => (i.zero, i.size, i.bytes)) = some (some (.int .i64 0), 1, 8) := by kernel_rfl
/-- A row that is filled, so far. -/
def filled (L : List Int) (n : Nat) : List Int := L ++ List.replicate (n - L.length) 0
theorem filled_0 (n : Nat) : (madeCells (Value.int .i64 0).cells (n * 1)).toList = vals .i64 (filled [] n) := by
  unfold filled vals
  rw [show (Value.int .i64 0).cells = #[Value.int .i64 0] from rfl, toList_madeCells_one]
  simp
theorem filled_step (L : List Int) (n : Nat) (x : Int) (h : L.length < n) : (vals .i64 (filled L n)).set L.length (.int .i64 x) = vals .i64 (filled (L ++ [x]) n) := by
  unfold filled vals
  obtain ⟨m, hm⟩ : ∃ m, n - L.length = m + 1 := ⟨n - L.length - 1, by omega⟩
  rw [hm, List.replicate_succ, List.map_append, List.map_cons, List.set_append_right _ _ (by simp)]
  simp only [List.length_map, Nat.sub_self, List.set_cons_zero]
  rw [List.length_append, List.length_singleton, show n - (L.length + 1) = m by omega]
  simp
theorem filled_get (L : List Int) (n : Nat) (h : L.length < n) : (vals .i64 (filled L n))[L.length]? = some (.int .i64 0) := by
  unfold filled vals
  obtain ⟨m, hm⟩ : ∃ m, n - L.length = m + 1 := ⟨n - L.length - 1, by omega⟩
  rw [hm, List.replicate_succ, List.map_append, List.map_cons, List.getElem?_append_right (by simp)]
  simp
theorem filled_all (L : List Int) (n : Nat) (h : L.length = n) : filled L n = L := by unfold filled; rw [h]; simp
theorem own_only2 {g n c j : Nat} (h : (Value.slice (some ⟨g, 0, none⟩) n c).ownBlock = some j) : j = g := own_only h

set_option maxHeartbeats 2000000 in
theorem slist_any (w0 : World) (B : Nat) (s : St) (n : Nat) (w : World) (h : Rdr 65 w0 w B s) (hn : n ≤ 40) :
    Calls Try.prog 64 #[.pointer (some ⟨B, 0, none⟩), .int .i64 n] w fun e w' => (∃ a, e = .returned (.slice a n n) ∧ IRow .i64 (only w' [3]) a n n (plist n s).1) ∧ Rdr 65 w0 w' B (plist n s).2 ∧ w.grownBy w' (some B) := by
  obtain ⟨i0, hi, hz0, hz1, hz2⟩ := info_parts info_int
  have H : Hid (Rdr 65 w0 w B s) := h
  have hB0 := h.1
  have hB := h.2.1
  clear h
  go_enter Try.func64, Try.ntmps64
  go_wp2_with (at_make; refine wpList_make_full _ rfl _ _ 56 rfl w.heap.size 3 i0 (.int .i64 0) 1 Try.underlying56 hi hz0 hz1 .i64 .i64 n n n rfl rfl rfl rfl (by rw [hz2]; omega) (by unfold maxLen; omega) (Nat.le_refl _) ?_; intro w2 hown2 hgrow2)
  have HO : Hid (w2.ownsRow w.heap.size 3 1 (.slice (some ⟨w.heap.size, 0, none⟩) n n) n (vals .i64 (filled (plist 0 s).1 n))) := by
    rw [filled_0] at hown2; exact hown2
  have HR : Hid (Rdr 65 w0 w2 B (plist 0 s).2) := H.out.grow hgrow2 (fun j hj => by cases hj)
  have HG : Hid (w.grownBy w2 (some B)) := ⟨hgrow2.os, hgrow2.tape, hgrow2.output, hgrow2.size, fun k hk _ => hgrow2.block k hk (by simp)⟩
  clear hown2 hgrow2 H
  go_loopw [10] (fun i wr => ∃ k : Nat, k ≤ n ∧ i = .int .i64 k ∧ Hid (wr.ownsRow w.heap.size 3 1 (.slice (some ⟨w.heap.size, 0, none⟩) n n) n (vals .i64 (filled (plist k s).1 n))) ∧ Hid (Rdr 65 w0 wr B (plist k s).2) ∧ Hid (w.grownBy wr (some B))) (fun i _ => n - (intOf i).toNat)
  case atStart => exact ⟨0, Nat.zero_le _, rfl, HO, HR, HG⟩
  case round =>
    obtain ⟨k, hk, rfl, HO2, HR2, HG2⟩ := hrel
    by_cases hlt : k < n
    · have hkn : (k : Int) < (n : Int) := by omega
      obtain ⟨x, hx⟩ : ∃ x, (pnum (plist k s).2).1 = x := ⟨_, rfl⟩
      have HX : Hid ((pnum (plist k s).2).1 = x) := hx
      have HSN : Hid (Calls Try.prog 48 #[.pointer (some ⟨B, 0, none⟩)] wr fun e w' => e = .returned (.int .i64 x) ∧ Rdr 65 w0 w' B (pnum (plist k s).2).2 ∧ wr.grownBy w' (some B)) := by
        have := snum_any w0 B (plist k s).2 wr HR2.out
        rw [hx] at this
        exact this
      clear hx
      go_wp2_with (go_at_call 48; refine HSN.out.mono ?_; rintro e w3 ⟨rfl, hr3, hg3⟩; have HR3 : Hid (Rdr 65 w0 w3 B (pnum (plist k s).2).2) := hr3; have HG3 : Hid (wr.grownBy w3 (some B)) := hg3; have HO3 : Hid (w3.ownsRow w.heap.size 3 1 (.slice (some ⟨w.heap.size, 0, none⟩) n n) n (vals .i64 (filled (plist k s).1 n))) := HO2.out.kept hg3 (.inr (fun e => by have := own_only2 e; omega)); clear hr3 hg3; have q1 : w3.cell? ⟨w.heap.size, k, none⟩ = some (.int .i64 0) := (by rw [HO3.out.cellAt k (by omega)]; have := filled_get (plist k s).1 n (by rw [plist_len]; exact hlt); rw [plist_len] at this; exact this); have q2 : w3.frozen? ⟨w.heap.size, k, none⟩ = false := HO3.out.frozenAt k)
      go_roundw
      case rel =>
        obtain ⟨st1, st2⟩ := HO3.out.stored k (.int .i64 x)
        refine ⟨k + 1, by omega, by go_num, ?_, HR3.out.grow st2 (fun j hj => by cases hj; have := HR3.out.2.2.1.size; have := HR3.out.1; exact ⟨by omega, by omega⟩), (HG2.out.trans HG3.out).andThen st2 (fun j hj => by cases hj; exact .inl (Nat.le_refl _))⟩
        have e := filled_step (plist k s).1 n x (by rw [plist_len]; exact hlt)
        rw [plist_len] at e
        rw [e] at st1
        show World.ownsRow _ _ _ _ _ _ _
        have e2 : (plist (k + 1) s).1 = (plist k s).1 ++ [x] := by rw [← HX.out]; rfl
        rw [e2]; exact st1
      case measure => simp [intOf]; omega
    · obtain rfl : k = n := by omega
      go_wp2
      go_ret
      refine ⟨⟨_, rfl, ?_⟩, HR2.out, HG2.out⟩
      have := HO2.out
      rw [filled_all _ _ (plist_len _ _)] at this
      exact own_only_row this (by simp)

end Go.Proofs.Ytmlnfpefemchhaa

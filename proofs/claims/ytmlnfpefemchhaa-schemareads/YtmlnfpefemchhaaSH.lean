/-
  A catalog's numbers, put one behind the other: what schema.put and putDim return.
  Conditions: as each theorem states them.
-/
import Derived.Test.YtmlnfpefemchhaaLib6
import Derived.Test.YtmlnfpefemchhaaSF
import Derived.Test.YtmlnfpefemchhaaCB
namespace Go.Proofs.Ytmlnfpefemchhaa
open Go.ChangeShapes Go.WideShapes Go.ChangeAt Go.RowKit
set_option linter.unusedVariables false
set_option linter.unusedSimpArgs false

theorem put_small (x : Int) (w : World) (h0 : 0 ≤ x) (h1 : x ≤ 40) :
    Calls Try.prog 68 #[.slice none 0 0, .int .u64 x] w fun e w' => (∃ g : Nat, e = .returned (.slice (some ⟨g, 0, none⟩) 1 1) ∧ w.heap.size ≤ g ∧ g < w'.heap.size ∧ w'.cell? ⟨g, 0, none⟩ = some (.int .u8 x)) ∧ Below w.heap.size w w' := by
  refine (code.put_any none 0 0 [] x w (code.row_nil _) (by decide) (by unfold U64; omega)).mono ?_
  rintro e w' ⟨⟨g, rfl, h2, h3, h4⟩, hb⟩
  have hd : ([] : List Int) ++ code.digs x = [x] := by rw [List.nil_append]; exact digs_small (by omega)
  rw [hd] at h4 ⊢
  exact ⟨⟨g, rfl, h2, h3, by simpa using h4 0 (by simp)⟩, hb⟩
theorem cell_at0 {w : World} {g : Nat} {v : Value} (h : w.cell? ⟨g, 0, none⟩ = some v) : ∀ j u, ([v] : List Value)[j]? = some u → w.cell? ((⟨g, 0, none⟩ : Addr).add j) = some u := by
  intro j u hu
  match j, hu with
  | 0, hu => simp at hu; subst hu; rw [add_at]; exact h

set_option maxHeartbeats 1000000 in
/-- One small number more, behind a row of one's own. -/
theorem sput_any (base n : Nat) (v : Value) (l : List Int) (x : Int) (w : World) (hown : w.ownsRow base 5 1 v n (vals .u8 l)) (hbase : base ≤ w.heap.size) (hn : n ≤ 100000) (h0 : 0 ≤ x) (h1 : x ≤ 40) :
    Calls Try.prog 57 #[v, .int .i64 x] w fun e w' => (∃ v', e = .returned v' ∧ w'.ownsRow base 5 1 v' (n + 1) (vals .u8 (l ++ [x]))) ∧ w.grownBy w' v.ownBlock ∧ Below base w w' := by
  obtain ⟨i0, hi, hz0, hz1, hz2⟩ := info_parts code.info_u8
  have HO : Hid (w.ownsRow base 5 1 v n (vals .u8 l)) := hown
  clear hown
  have wx : IntKind.u64.wrap x = x := IntWalk.u64_in _ (by omega)
  go_enter Try.func57, Try.ntmps57
  go_wp2_with (first
    | (go_at_call 68; refine (put_small _ _ h0 h1).mono ?_; rintro e w1 ⟨⟨g, rfl, hg1, hg2, hg3⟩, hb1⟩)
    | (at_builtin; refine wpList_append_own _ rfl (.tmp 5) (.tmp 8) 22 rfl base 5 i0 (.int .u8 0) 1 1 Try.underlying22 hi hz0 hz1 hz2 rfl (by decide) v n (vals .u8 l) rfl (HO.out.kept (below_grow hb1 none) (by cases hv : v.ownBlock <;> simp)) ⟨g, 0, none⟩ 1 1 [.int .u8 x] rfl rfl (cell_at0 hg3) (by intro u hu; simp at hu; subst hu; rfl) (by unfold maxLen; omega) (by omega) (Nat.le_trans hbase hb1.size) ?_; intro v' w2 hown2 hgrow2 hiff))
  go_ret
  have hg : w.grownBy w2 v.ownBlock := (below_grow hb1 _).trans hgrow2
  refine ⟨⟨v', rfl, ?_⟩, hg, grow_below hg hbase (fun j hj => (HO.out.lt j hj).1)⟩
  have e : vals .u8 l ++ [.int .u8 x] = vals .u8 (l ++ [x]) := by simp [vals]
  rw [← e]; exact hown2

/-- A box of another kind than bytes is no row of bytes. -/
theorem box_apart {w : World} {base D n : Nat} {e t : TypeId} {cs : Array Value} {v : Value} {xs : List Value} (h : w.ownsRow base e 1 v n xs) (hD : w.heap[D]? = some (.cells cs t)) (hne : ¬ e = t) : ∀ j, v.ownBlock = some j → ¬ j = D := by
  intro j hj hjD
  subst hjD
  rcases h.2 with ⟨rfl, _⟩ | ⟨g, cap, cur, rfl, _, hg, _⟩
  · cases hj
  · have : some g = some j := hj
    cases this
    rw [hD] at hg
    simp at hg
    exact hne hg.2.symm
theorem box_stays {w w' : World} {base D n : Nat} {e t : TypeId} {cs : Array Value} {v : Value} {xs : List Value} (h : w.ownsRow base e 1 v n xs) (hD : w.heap[D]? = some (.cells cs t)) (hne : ¬ e = t) (hg : w.grownBy w' v.ownBlock) : w'.heap[D]? = some (.cells cs t) := by
  have hlt : D < w.heap.size := by
    by_cases hh : D < w.heap.size
    · exact hh
    · rw [Array.getElem?_eq_none (by omega)] at hD; cases hD
  rw [hg.block D hlt (fun e' => box_apart h hD hne D e'.symm rfl)]
  exact hD
theorem flat_snoc (U : List (List Int)) (k : Nat) (hk : k < U.length) : (U.take (k + 1)).flatten = (U.take k).flatten ++ U.getD k [] := by
  have e : U.take (k + 1) = U.take k ++ [U.getD k []] := by
    rw [List.take_add_one, List.getD_eq_getElem?_getD, List.getElem?_eq_getElem hk]; simp
  rw [e]; simp
theorem take_snoc1 (l : List Int) (k : Nat) (hk : k < l.length) : l.take (k + 1) = l.take k ++ [l.getD k 0] := by
  rw [List.take_add_one, List.getD_eq_getElem?_getD, List.getElem?_eq_getElem hk]; simp
/-- A row of one's own, with the box behind it. -/
def Own8 (w : World) (base D : Nat) (cs : Array Value) (t : TypeId) (v : Value) (l : List Int) : Prop := w.ownsRow base 5 1 v l.length (vals .u8 l) ∧ base ≤ w.heap.size ∧ w.heap[D]? = some (.cells cs t)

end Go.Proofs.Ytmlnfpefemchhaa

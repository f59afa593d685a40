/-
  What slices.Clone, slices.SortFunc and row.Sort return.
  Conditions: as each theorem states them.
-/
import Derived.Test.YtikgbcdmeikjfaaRY
namespace Go.Proofs.Ytikgbcdmeikjfaa
open Go.ChangeShapes Go.WideShapes Go.ChangeAt Go.RowKit
set_option linter.unusedVariables false
set_option linter.unusedSimpArgs false
set_option maxRecDepth 100000

set_option maxHeartbeats 1000000 in
theorem rclone_none (w : World) : Calls Try.prog 33 #[.slice none 0 0] w fun e w' => e = .returned (.slice none 0 0) ∧ w' = w := by
  have hnil : ∀ w, (binOp .eql 25 (.slice none 0 0) (.slice none 0 0)).run Try.prog w = .ok (.bool true) w := fun _ => by kernel_rfl
  go_enter Try.func33, Try.ntmps33
  go_wp2
  go_ret
  exact ⟨rfl, rfl⟩
set_option maxHeartbeats 1000000 in
theorem rclone_some (ad : Addr) (n c : Nat) (l : List Rw) (w : World) (h1 : RRow w (some ad) n c l) (hn : n ≤ 1000) :
    Calls Try.prog 33 #[.slice (some ad) n c] w fun e w' => (∃ g cap : Nat, e = .returned (.slice (some ⟨g, 0, none⟩) n cap) ∧ w'.ownsRow w.heap.size 33 6 (.slice (some ⟨g, 0, none⟩) n cap) n (rcells l)) ∧ Below w.heap.size w w' := by
  have H1 := hid h1
  clear h1
  have hnil : ∀ w, (binOp .eql 25 (.slice (some ad) n c) (.slice none 0 0)).run Try.prog w = .ok (.bool false) w := fun _ => by kernel_rfl
  go_enter Try.func33, Try.ntmps33
  go_wp2_with (first
    | (at_builtin; refine append_rrow rfl (.tmp 5) (.tmp 6) rfl w.heap.size w.heap.size 0 0 [] rfl (rown_made w w.heap.size (Nat.le_refl _)) (some ad) n c l rfl (H1.out.below ((Below.refl _ _).alloc (Nat.le_refl _) _)) (by omega) (by simp) ?_; intro g1 cap1 w1 hown1 hgrow1; rw [Nat.zero_add, List.nil_append] at hown1; have B1 : Below w.heap.size w w1 := ((Below.refl w.heap.size w).alloc (Nat.le_refl _) _).grown hgrow1 (by simp) (fun k hk => by cases hk; exact Nat.le_refl _)))
  go_ret
  exact ⟨⟨g1, cap1, rfl, hown1⟩, B1⟩

/-- The rows as an array of such. -/
theorem at_rk (l : List Rw) (hk : ∀ r ∈ l, rok r) : ∃ L : List Rk, L.map Subtype.val = l := by
  induction l with
  | nil => exact ⟨[], rfl⟩
  | cons r l ih =>
    obtain ⟨L, hL⟩ := ih (fun q hq => hk q (by simp [hq]))
    exact ⟨⟨r, hk r (by simp)⟩ :: L, by simp [hL]⟩
theorem srt_map (L : List Rk) : (L.mergeSort (fun x y => !ltOf (fun x y : Rk => rcmp x.1 y.1) y x)).map Subtype.val = srt (L.map Subtype.val) := by
  unfold srt
  exact List.map_mergeSort (fun a _ b _ => rfl)
theorem srt_len (l : List Rw) : (srt l).length = l.length := List.length_mergeSort l
theorem srt_ok {l : List Rw} (hk : ∀ r ∈ l, rok r) : ∀ r ∈ srt l, rok r := fun r hr => hk r (by unfold srt at hr; simpa using hr)
theorem putK_heap {α : Type} [Inhabited α] (enc : α → List Value) (k : Nat) (w : World) (blk off m : Nat) (d : Array α) (os : Array Obj) : w.grownBy (sortWorldK enc k w blk off m d os) (some blk) := by
  refine ⟨rfl, rfl, rfl, ?_, fun j hj hne => ?_⟩
  · exact size_sortWorldK_c enc k w blk off m d os
  · unfold sortWorldK
    rw [Go.Sort.heap_grow_old _ _ (by rw [Go.Sort.size_putRowK]; exact hj)]
    have hne' : ¬ blk = j := fun e => hne (by rw [e])
    simp only [Go.Sort.putRowK, Go.Sort.putRow, Go.Sort.mapBlock, Go.Sort.ahead]
    rw [Array.getElem?_modify, if_neg hne']

set_option maxHeartbeats 1000000 in
theorem sortf_any (base g n cap : Nat) (l : List Rw) (w : World) (ho : w.ownsRow base 33 6 (.slice (some ⟨g, 0, none⟩) n cap) n (rcells l)) (hk : ∀ r ∈ l, rok r) (hn : n ≤ 1000) :
    Calls Try.prog 34 #[.slice (some ⟨g, 0, none⟩) n cap, .func (.func 31) #[] #[]] w fun e w' => e = .returned (.tuple #[]) ∧ RRow w' (some ⟨g, 0, none⟩) n cap (srt l) ∧ w.grownBy w' (some g) := by
  have inh : Inhabited Rk := ⟨rk0⟩
  obtain ⟨L, rfl⟩ := at_rk l hk
  have hlen : n = L.length := by have := ho.1; rw [rcells_len, List.length_map] at this; omega
  have hlt := (ho.lt g rfl).2
  have hrr := own_rrow ho
  obtain ⟨_, hnc, hcm, _, _⟩ := hrr
  have eg : ∀ args w, (callFunc 31 args).run Try.prog w = .ok (.enter 31 args) w := enters_of Try.func31 (by kernel_rfl) rfl
  have hcmp : CmpLays Try.prog 31 #[] (fun x : Rk => rcs x.1) 6 (fun x y => rcmp x.1 y.1) g 0 L.toArray.size w := by
    intro m os dk _ x y
    obtain ⟨⟨x0, x1, x2, x3, m0, m1⟩, hx⟩ := x
    obtain ⟨⟨y0, y1, y2, y3, n0, n1⟩, hy⟩ := y
    exact compare_gr x0 x1 x2 x3 m0 m1 y0 y1 y2 y3 n0 n1 _ _ hx hy rfl
  have hH : Go.Sort.HoldsK (fun x : Rk => rcs x.1) 6 w g 0 L.toArray := by
    intro t ht
    rw [Go.Sort.size_flatK] at ht
    rw [Go.Sort.get_flatK _ _ _ _ ht]
    have hq : t / 6 < L.length := by simp at ht; omega
    have hr : (L.map Subtype.val)[t / 6]? = some (L[t / 6]'hq).1 := by simp [List.getElem?_eq_getElem hq]
    have e1 : L.toArray[t / 6]! = L[t / 6]'hq := by
      rw [getElem!_pos L.toArray (t / 6) (by simpa using hq)]; simp
    rw [e1]
    obtain ⟨v, hv⟩ : ∃ v, (rcs (L[t / 6]'hq).1)[t % 6]? = some v := ⟨_, List.getElem?_eq_getElem (by rw [rcs_len]; omega)⟩
    have hc := ho.cells (g := g) rfl (t / 6 * 6 + t % 6) _ (rcells_get hr hv)
    rw [add_at, show t / 6 * 6 + t % 6 = t by omega] at hc
    refine ⟨?_, ?_⟩
    · rw [hc]
      have : (rcs (L[t / 6]'hq).1)[t % 6]! = v := by
        rw [List.getElem!_eq_getElem?_getD, hv]; rfl
      rw [this]; rfl
    · rcases ho.2 with ⟨h', _⟩ | ⟨g', cap', cur, h', _, hg, _⟩
      · cases h'
      · cases h'
        exact frozen_of_row w g _ _ _ hg
  have hT : ∀ x y : Rk, ltOf (fun x y : Rk => rcmp x.1 y.1) x y = false → ltOf (fun x y : Rk => rcmp x.1 y.1) y x = false → x = y := fun x y h1 h2 => Subtype.ext (rlt_tri x.2 y.2 h1 h2)
  have hcon := AnyQ.slices_SortFunc_total sortRw 6 Try.isAgg33 Try.sizeOf33 (fun x : Rk => rcs x.1) (fun x => rcs_len x.1) (fun x v hv => rcs_one x.1 v hv) (fun x y => rcmp x.1 y.1) swo_rw 31 #[] g 0 cap L.toArray w eg hcmp hH hlt (by simp; omega) hT
  rw [show L.toArray.size = n by simp [hlen]] at hcon
  refine hcon.mono ?_
  rintro e w' ⟨rfl, m, os, rfl⟩
  refine ⟨rfl, ?_, putK_heap _ _ _ _ _ _ _ _⟩
  have hs := srt_map L
  obtain ⟨D, hD⟩ : ∃ D, L.mergeSort (fun x y => !ltOf (fun x y : Rk => rcmp x.1 y.1) y x) = D := ⟨_, rfl⟩
  have hDl : D.length = L.length := by rw [← hD]; exact List.length_mergeSort L
  have hh := holdsK_sortWorldK_c (fun x : Rk => rcs x.1) 6 w g 0 L.toArray D.toArray m os hH hlt (by simp [hDl])
  rw [hD] at hs
  have hD' : (L.toArray.toList.mergeSort fun x y => !ltOf (fun x y : Rk => rcmp x.1 y.1) y x).toArray = D.toArray := by rw [← hD]
  rw [hD', ← hs]
  refine ⟨by rw [List.length_map]; omega, hnc, hcm, (fun e => by cases e), fun _ => ⟨g, 0, rfl, Nat.lt_of_lt_of_le hlt (size_sortWorldK_c _ 6 w g 0 m D.toArray os), fun j r hj i v hi => ?_⟩⟩
  have hj' : j < D.length := by
    have := (List.getElem?_eq_some_iff.1 hj).1
    simpa using this
  have hi6 : i < 6 := by have := (List.getElem?_eq_some_iff.1 hi).1; rw [rcs_len] at this; exact this
  have hc := (hh.cell (i := j) (c := i) (by simpa using hj') hi6).1
  rw [List.getElem?_map, List.getElem?_eq_getElem hj'] at hj
  simp at hj
  subst hj
  have e1 : D.toArray[j]! = D[j] := by rw [getElem!_pos D.toArray j (by simpa using hj')]; simp
  rw [e1] at hc
  rw [hc]
  have : (rcs (D[j]).1)[i]! = v := by rw [List.getElem!_eq_getElem?_getD, hi]; rfl
  rw [this]

set_option maxHeartbeats 1000000 in
theorem rsort_any (a : Option Addr) (n c : Nat) (l : List Rw) (w : World) (h1 : RRow w a n c l) (hk : ∀ r ∈ l, rok r) (hn : n ≤ 1000) :
    Calls Try.prog 16 #[.slice a n c] w fun e w' => (∃ a' c', e = .returned (.slice a' n c') ∧ RRow w' a' n c' (srt l)) ∧ Below w.heap.size w w' := by
  have H1 := hid h1
  have HK := hid hk
  cases a with
  | none =>
    obtain ⟨r1, r2, r3, r4, r5⟩ := h1
    obtain rfl : c = 0 := r4 rfl
    obtain rfl : n = 0 := by omega
    have hy : l = [] := List.length_eq_zero_iff.mp r1.symm
    subst hy
    clear hk r1 r2 r3 r4 r5
    have hs : Hid (∀ W fv, Calls Try.prog 34 #[.slice none 0 0, fv] W fun e w' => e = .returned (.tuple #[]) ∧ w' = W) := hid fun W fv => AnyF.slices_SortFunc_none sortRw none 0 fv W
    go_enter Try.func16, Try.ntmps16
    go_wp2_with (first
      | (go_at_call 33; refine (rclone_none _).mono ?_; rintro e w1 ⟨rfl, hw⟩; have hw2 := hw.symm; clear hw; subst hw2)
      | (go_at_call 34; refine (hs.out _ _).mono ?_; rintro e w2 ⟨rfl, hw⟩; have hw2 := hw.symm; clear hw; subst hw2))
    go_ret
    exact ⟨⟨none, 0, rfl, by rw [show srt [] = [] by simp [srt]]; exact rrow_nil _⟩, Below.refl _ _⟩
  | some ad =>
    clear h1 hk
    go_enter Try.func16, Try.ntmps16
    go_wp2_with (first
      | (go_at_call 33; refine (rclone_some ad n c l _ H1.out hn).mono ?_; rintro e w1 ⟨⟨g1, cap1, rfl, ho1⟩, hb1⟩; have O1 := hid ho1; have B1 := hid hb1; clear ho1 hb1)
      | (go_at_call 34; refine (sortf_any w.heap.size g1 n cap1 l _ O1.out HK.out hn).mono ?_; rintro e w2 ⟨rfl, hr2, hg2⟩; have R2 := hid hr2; have G2 := hid hg2; clear hr2 hg2))
    go_ret
    exact ⟨⟨_, cap1, rfl, R2.out⟩, B1.out.grown G2.out B1.out.size (fun k hk => by cases hk; exact (O1.out.lt g1 rfl).1)⟩

end Go.Proofs.Ytikgbcdmeikjfaa

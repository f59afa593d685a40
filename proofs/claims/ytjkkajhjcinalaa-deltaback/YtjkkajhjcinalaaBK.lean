/-
  What slices.Clone and slices.Sort of whole numbers, and bag.Of, return.
  Conditions: as each theorem states them.
-/
import Derived.Test.YtjkkajhjcinalaaG4
namespace Go.Proofs.Ytjkkajhjcinalaa
open Go.ChangeShapes Go.WideShapes Go.ChangeAt Go.RowKit
set_option linter.unusedVariables false
set_option linter.unusedSimpArgs false
set_option maxRecDepth 100000

def srtI (l : List Int) : List Int := l.mergeSort fun x y => decide (x ≤ y)
theorem srtI_perm (l : List Int) : (srtI l).Perm l := List.mergeSort_perm l _
theorem srtI_len (l : List Int) : (srtI l).length = l.length := (srtI_perm l).length_eq
theorem srtI_rise (l : List Int) : (srtI l).Pairwise (fun x y => x ≤ y) := by
  have := List.pairwise_mergeSort (le := fun x y : Int => decide (x ≤ y)) (fun a b c h1 h2 => by simp at h1 h2 ⊢; omega) (fun a b => by
    by_cases h : a ≤ b
    · simp [h]
    · have : b ≤ a := by omega
      simp [this]) l
  refine List.pairwise_iff_getElem.mpr (fun i j hi hj hij => ?_)
  have h : decide ((srtI l)[i]'hi ≤ (srtI l)[j]'hj) = true := List.pairwise_iff_getElem.mp this i j hi hj hij
  exact of_decide_eq_true h
theorem put_grown (w : World) (blk off m : Nat) (d : Array Int) (os : Array Obj) : w.grownBy (Go.Sort.grow (Go.Sort.putRow (Value.int .i64) (Go.Sort.ahead w m) blk off d) os) (some blk) := by
  refine ⟨rfl, rfl, rfl, by simp [Go.Sort.grow, Go.Sort.putRow, Go.Sort.mapBlock, Go.Sort.ahead], fun j hj hne => ?_⟩
  have hne' : ¬ blk = j := fun e => hne (by rw [e])
  rw [Go.Sort.heap_grow_old _ _ (by simp [Go.Sort.putRow, Go.Sort.mapBlock, Go.Sort.ahead]; exact hj)]
  simp only [Go.Sort.putRow, Go.Sort.mapBlock, Go.Sort.ahead]
  rw [Array.getElem?_modify, if_neg hne']
set_option maxHeartbeats 1000000 in
theorem sort_any (base g n cap : Nat) (l : List Int) (w : World) (ho : w.ownsRow base 2 1 (.slice (some ⟨g, 0, none⟩) n cap) n (vals .i64 l)) (hn : n ≤ 1000000) :
    Calls Try.prog 94 #[.slice (some ⟨g, 0, none⟩) n cap] w fun e w' => e = .returned (.tuple #[]) ∧ IRow .i64 w' (some ⟨g, 0, none⟩) n cap (srtI l) ∧ w.grownBy w' (some g) := by
  obtain ⟨e1, hlt, hl⟩ := owns_lies ho
  obtain ⟨_, hnc, hcm, _, _⟩ := own_row ho
  have hH : Go.Sort.Holds (Value.int .i64) w g 0 l.toArray := by
    intro j hj
    have hj' : j < l.length := by simpa using hj
    refine ⟨?_, ?_⟩
    · rw [hl j hj']
      simp [List.getD_eq_getElem?_getD, List.getElem?_eq_getElem hj']
    · rw [Nat.zero_add]; exact World.ownsRow.frozenAt ho j
  have hcon := AnyM.slices_Sort_int sortI g 0 cap l w hH hlt (by omega)
  rw [← e1] at hcon
  refine hcon.mono ?_
  rintro e w' ⟨rfl, m, os, rfl⟩
  have hD : (l.mergeSort fun x y => decide (x ≤ y)) = srtI l := rfl
  rw [hD]
  have hlen := srtI_len l
  refine ⟨rfl, ⟨by omega, hnc, hcm, (fun e => by cases e), fun _ => ⟨g, 0, rfl, ?_, fun j hj => ?_⟩⟩, put_grown _ _ _ _ _ _⟩
  · have := (put_grown w g 0 m (srtI l).toArray os).size
    omega
  · have hh := Go.Sort.holds_putRow (Value.int .i64) (Go.Sort.ahead w m) g 0 l.toArray (srtI l).toArray hH (by simp [hlen])
    have hc := (hh j (by simpa using hj)).1
    have hb := World.block_lt_of_cell? _ _ hc
    rw [Go.Sort.cell?_grow _ os _ hb, hc]
    simp [List.getD_eq_getElem?_getD, List.getElem?_eq_getElem hj]
theorem info_i64 : (Try.prog.info? 2).map (fun i => (i.zero, i.size, i.bytes)) = some (some (.int .i64 0), 1, 8) := by kernel_rfl
set_option maxHeartbeats 1000000 in
theorem clone_none (w : World) : Calls Try.prog 93 #[.slice none 0 0] w fun e w' => e = .returned (.slice none 0 0) ∧ w' = w := by
  have hnil : ∀ w, (binOp .eql 51 (.slice none 0 0) (.slice none 0 0)).run Try.prog w = .ok (.bool true) w := fun _ => by kernel_rfl
  go_enter Try.func93, Try.ntmps93
  go_wp2
  go_ret
  exact ⟨rfl, rfl⟩
set_option maxHeartbeats 1000000 in
theorem clone_some (ad : Addr) (n c : Nat) (l : List Int) (w : World) (h1 : IRow .i64 w (some ad) n c l) (hn : n ≤ 1000000) :
    Calls Try.prog 93 #[.slice (some ad) n c] w fun e w' => (∃ g cap : Nat, e = .returned (.slice (some ⟨g, 0, none⟩) n cap) ∧ w'.ownsRow w.heap.size 2 1 (.slice (some ⟨g, 0, none⟩) n cap) n (vals .i64 l)) ∧ Below w.heap.size w w' := by
  have H1 := hid h1
  clear h1
  have hnil : ∀ w, (binOp .eql 51 (.slice (some ad) n c) (.slice none 0 0)).run Try.prog w = .ok (.bool false) w := fun _ => by kernel_rfl
  go_enter Try.func93, Try.ntmps93
  go_wp2_with (at_builtin; refine append_row Try.underlying51 info_i64 (by decide) rfl (.tmp 5) (.tmp 6) rfl w.heap.size w.heap.size 0 0 [] rfl (own_made 2 w w.heap.size (Nat.le_refl _)) (some ad) n c l rfl (H1.out.below ((Below.refl _ _).alloc (Nat.le_refl _) _)) (by omega) (by simp) ?_; intro g1 cap1 w1 hown1 hgrow1; rw [Nat.zero_add, List.nil_append] at hown1; have B1 : Below w.heap.size w w1 := ((Below.refl w.heap.size w).alloc (Nat.le_refl _) _).grown hgrow1 (by simp) (fun k hk => by cases hk; exact Nat.le_refl _))
  go_ret
  exact ⟨⟨g1, cap1, rfl, hown1⟩, B1⟩
/-- A value behind a bag of values that are none above it. -/
theorem lay_last {l : List Rn} {x y : Int} (hs : Srt (l ++ [(x, y)])) (hy : ¬ y + 1 = 0) : lay x 1 (l ++ [(x, y)]) = l ++ [(x, y + 1)] := by
  have h : ∀ r ∈ l, r.1 < x := fun r hr => (List.pairwise_append.1 hs).2.2 r hr (x, y) (by simp)
  rw [lay_here h rfl, if_neg hy]
theorem below_x {l : List Rn} {x : Int} (hs : Srt l) (hx : ∀ r ∈ l, r.1 ≤ x) (hne : ∀ p q, l[l.length - 1]? = some (p, q) → ¬ p = x) : ∀ r ∈ l, r.1 < x := by
  intro r hr
  obtain ⟨i, hi⟩ := List.mem_iff_getElem?.1 hr
  have hil := (List.getElem?_eq_some_iff.1 hi).1
  have hlast : l[l.length - 1]? = some (l[l.length - 1]'(by omega)) := List.getElem?_eq_getElem (by omega)
  have h1 : ¬ (l[l.length - 1]'(by omega)).1 = x := hne _ (l[l.length - 1]'(by omega)).2 hlast
  have h2 := hx _ (List.getElem_mem (show l.length - 1 < l.length by omega))
  by_cases he : i = l.length - 1
  · subst he; rw [hlast] at hi; cases hi; omega
  · have := srt_get hs hi hlast (by omega); omega
theorem split_last {l : List Rn} {x y : Int} (h : l[l.length - 1]? = some (x, y)) : ∃ l0, l = l0 ++ [(x, y)] := by
  have hl := (List.getElem?_eq_some_iff.1 h).1
  refine ⟨l.take (l.length - 1), ?_⟩
  have := take_one h
  rw [show l.length - 1 + 1 = l.length by omega, List.take_length] at this
  exact this

set_option maxHeartbeats 4000000 in
theorem of_any (a : Option Addr) (n c : Nat) (l : List Int) (w : World) (hl : IRow .i64 w a n c l) (hn : n ≤ 1000) :
    Calls Try.prog 56 #[.slice a n c] w fun e w' => (∃ A cap, e = .returned (.slice A (bagOf l).length cap) ∧ NRun w' A (bagOf l).length cap (bagOf l)) ∧ Below w.heap.size w w' := by
  have HL := hid hl
  obtain ⟨l1, l2⟩ := hl.len
  have EL := hid l1
  have hs0 : Hid (∀ W, Calls Try.prog 94 #[.slice none 0 0] W fun e w' => e = .returned (.tuple #[]) ∧ w' = W) := hid fun W => AnyM.slices_Sort_int_none sortI none 0 W
  cases a with
  | none =>
    obtain ⟨r1, r2, r3, r4, r5⟩ := hl
    obtain rfl : c = 0 := r4 rfl
    obtain rfl : n = 0 := by omega
    have hy : l = [] := List.length_eq_zero_iff.mp r1.symm
    subst hy
    clear r1 r2 r3 r4 r5 l1 l2 HL EL
    go_enter Try.func56, Try.ntmps56
    go_upto_region 3 with (first
      | (go_at_call 93; refine (clone_none _).mono ?_; rintro e w1 ⟨rfl, hw⟩; have hw2 := hw.symm; clear hw; subst hw2)
      | (go_at_call 94; refine (hs0.out _).mono ?_; rintro e w2 ⟨rfl, hw⟩; have hw2 := hw.symm; clear hw; subst hw2))
    go_wp2
    refine wp_loop_rounds 1 ?_
    rw [rounds_succ]
    go_wp2
    go_ret
    exact ⟨⟨none, 0, rfl, nrun_nil _⟩, Below.refl _ _⟩
  | some ad =>
    clear hl l1
    go_enter Try.func56, Try.ntmps56
    go_upto_region 3 with (first
      | (go_at_call 93; refine (clone_some ad n c l _ HL.out (by omega)).mono ?_; rintro e w1 ⟨⟨g1, cap1, rfl, ho1⟩, hb1⟩; have O1 := hid ho1; have B1 := hid hb1; clear ho1 hb1)
      | (go_at_call 94; refine (sort_any w.heap.size g1 n cap1 l _ O1.out (by omega)).mono ?_; rintro e w2 ⟨rfl, hr2, hg2⟩; have R2 := hid hr2; have B2 := hid (B1.out.grown hg2 B1.out.size (fun k hk => by cases hk; exact (O1.out.lt g1 rfl).1)); clear hr2 hg2))
    clear O1 B1 hs0 HL
    go_wp2
    go_loopw [3, 12] (fun o i wr => ∃ (k : Nat) (u : Value) (out : List Rn), k ≤ n ∧ i = .int .i64 k ∧ u = o ∧ Hid (out = bagOf ((srtI l).take k)) ∧ Hid (OwnW w2 wr u out)) (fun _ i _ => n - (intOf i).toNat)
    case atStart => exact ⟨0, _, [], by omega, rfl, rfl, hid rfl, hid ⟨Below.refl _ _, own_nil _ _⟩⟩
    case round =>
      obtain ⟨k, u, out, hkn, rfl, rfl, HO, OW⟩ := hrel
      have hk0 : (0 : Int) ≤ (k : Int) := by omega
      by_cases hlt : k < n
      · have hki : (k : Int) < (n : Int) := by omega
        obtain ⟨b, off, x, eb, hb, hr, p0⟩ := R2.out.pick OW.out.1 hlt
        cases eb
        simp only [Nat.zero_add] at p0
        have HR := hid hr
        have HST : Hid (lay x 1 out = bagOf ((srtI l).take (k + 1))) := hid (by rw [HO.out, bagOf_step HR.out])
        have HSrt : Hid (Srt out) := hid (by rw [HO.out]; exact bagOf_srt _)
        have HPos : Hid (Pos out) := hid (by rw [HO.out]; exact bagOf_pos _)
        have HLen : Hid (out.length ≤ k) := hid (by rw [HO.out]; have := bagOf_len ((srtI l).take k); rw [List.length_take] at this; omega)
        have HLe : Hid (∀ r ∈ out, r.1 ≤ x) := hid (fun r hr' => by
          rw [HO.out] at hr'
          have hm := bagOf_mem hr'
          obtain ⟨i, hi⟩ := List.mem_iff_getElem?.1 hm
          rw [List.getElem?_take] at hi
          by_cases hik : i < k
          · rw [if_pos hik] at hi
            obtain ⟨h1, e1⟩ := List.getElem?_eq_some_iff.1 hi
            obtain ⟨h2, e2⟩ := List.getElem?_eq_some_iff.1 HR.out
            have := List.pairwise_iff_getElem.mp (srtI_rise l) i k h1 h2 hik
            rw [e1, e2] at this
            exact this
          · rw [if_neg hik] at hi; cases hi)
        have HBd : Hid (∀ r ∈ out, r.2 ≤ k) := hid (fun r hr' => by
          have h2 := cn_srt_eq HSrt.out hr'
          have h3 := cn_le (v := r.1) HPos.out
          have h4 : tot out = (((srtI l).take k).length : Int) := by rw [HO.out, bagOf_tot]
          rw [List.length_take] at h4
          omega)
        clear hr
        by_cases hq : ∃ y, out[out.length - 1]? = some (x, y)
        · obtain ⟨y, hy⟩ := hq
          obtain ⟨l0, el⟩ := split_last hy
          have hyb := HBd.out (x, y) (by rw [el]; simp)
          have hyp := HPos.out (x, y) (by rw [el]; simp)
          simp only at hyb hyp
          have OW2 : Hid (OwnW w2 wr u (l0 ++ [(x, y)])) := hid (by rw [← el]; exact OW.out)
          have hlen0 : l0.length ≤ k := by have := HLen.out; rw [el, List.length_append] at this; omega
          have HST2 : Hid (l0 ++ [(x, y + 1)] = bagOf ((srtI l).take (k + 1))) := hid (by rw [← HST.out, el, lay_last (by rw [← el]; exact HSrt.out) (by omega)])
          clear hy el
          go_wp2_with (go_at_call 95; refine (laid_more w2.heap.size u l0 x y 1 _ OW2.out.2 OW2.out.1.size (by omega) (by omega) (by omega)).mono ?_; rintro e w3 ⟨⟨rfl, ho3⟩, hg3⟩; have O3 := hid (OwnW.grown OW2.out hg3 ho3); clear ho3 hg3)
          go_roundw
          case rel => exact ⟨k + 1, u, _, by omega, by go_num, rfl, HST2, O3⟩
          case measure => simp [intOf]; omega
        · have HNE : Hid (∀ p q, out[out.length - 1]? = some (p, q) → ¬ p = x) := hid (fun p q h e => hq ⟨q, by rw [← e]; exact h⟩)
          have HST2 : Hid (out ++ [(x, 1)] = bagOf ((srtI l).take (k + 1))) := hid (by rw [← HST.out, lay_low (below_x HSrt.out HLe.out HNE.out)])
          clear hq
          go_wp2_with (go_at_call 95; refine (laid_new w2.heap.size u out x 1 _ OW.out.2 OW.out.1.size (by have := HLen.out; omega) HNE.out).mono ?_; rintro e w3 ⟨⟨u3, rfl, ho3⟩, hg3⟩; have O3 := hid (OwnW.grown OW.out hg3 ho3); clear ho3 hg3)
          go_roundw
          case rel => exact ⟨k + 1, u3, _, by omega, by go_num, rfl, HST2, O3⟩
          case measure => simp [intOf]; omega
      · have hkf : decide ((k : Int) < (n : Int)) = false := decide_eq_false (by omega)
        have HE : Hid (out = bagOf l) := hid (by rw [HO.out, List.take_of_length_le (by rw [srtI_len]; have := EL.out; omega), bagOf_perm (srtI_perm l)])
        obtain ⟨A, cap, e, hr⟩ := own_any OW.out.2
        subst e
        have HR := hid hr
        clear hr
        go_wp2
        go_ret
        rw [← HE.out]
        exact ⟨⟨A, cap, rfl, HR.out⟩, bt B2.out OW.out.1⟩

end Go.Proofs.Ytjkkajhjcinalaa

/-
  -
  -
  -
  -
  -
  Conditions: as each theorem states them.
-/
import Derived.Test.YtjkkajhjcinalaaQAC
import Derived.Test.YtjkkajhjcinalaaQAD
namespace Go.Proofs.Ytjkkajhjcinalaa
open Go.ChangeShapes Go.WideShapes Go.ChangeAt Go.RowKit
set_option linter.unusedVariables false
set_option linter.unusedSimpArgs false
set_option maxRecDepth 100000

def srtI (l : List Int) : List Int := l.mergeSort fun x y => decide (x ≤ y)
theorem srtI_perm (l : List Int) : (srtI l).Perm l := List.mergeSort_perm l _
theorem srtI_len (l : List Int) : (srtI l).length = l.length := (srtI_perm l).length_eq
theorem srtI_rise (l : List Int) : (srtI l).Pairwise (fun x y => x ≤ y) := by
  have := List.pairwise_mergeSort (le := fun x y : Int => decide (x ≤ y)) (fun a b c h1 h2 => by simp at h1 h2 ⊢; omega) (fun a b => by
    by_cases h : a ≤ b
    · simp [h]
    · have : b ≤ a := by omega
      simp [this]) l
  refine List.pairwise_iff_getElem.mpr (fun i j hi hj hij => ?_)
  have h : decide ((srtI l)[i]'hi ≤ (srtI l)[j]'hj) = true := List.pairwise_iff_getElem.mp this i j hi hj hij
  exact of_decide_eq_true h
theorem put_grown (w : World) (blk off m : Nat) (d : Array Int) (os : Array Obj) : w.grownBy (Go.Sort.grow (Go.Sort.putRow (Value.int .i64) (Go.Sort.ahead w m) blk off d) os) (some blk) := by
  refine ⟨rfl, rfl, rfl, by simp [Go.Sort.grow, Go.Sort.putRow, Go.Sort.mapBlock, Go.Sort.ahead], fun j hj hne => ?_⟩
  have hne' : ¬ blk = j := fun e => hne (by rw [e])
  rw [Go.Sort.heap_grow_old _ _ (by simp [Go.Sort.putRow, Go.Sort.mapBlock, Go.Sort.ahead]; exact hj)]
  simp only [Go.Sort.putRow, Go.Sort.mapBlock, Go.Sort.ahead]
  rw [Array.getElem?_modify, if_neg hne']
set_option maxHeartbeats 1000000 in
theorem sort_any (base g n cap : Nat) (l : List Int) (w : World) (ho : w.ownsRow base 2 1 (.slice (some ⟨g, 0, none⟩) n cap) n (vals .i64 l)) (hn : n ≤ 1000000) :
    Calls Try.prog 94 #[.slice (some ⟨g, 0, none⟩) n cap] w fun e w' => e = .returned (.tuple #[]) ∧ IRow .i64 w' (some ⟨g, 0, none⟩) n cap (srtI l) ∧ w.grownBy w' (some g) := by
  obtain ⟨e1, hlt, hl⟩ := owns_lies ho
  obtain ⟨_, hnc, hcm, _, _⟩ := own_row ho
  have hH : Go.Sort.Holds (Value.int .i64) w g 0 l.toArray := by
    intro j hj
    have hj' : j < l.length := by simpa using hj
    refine ⟨?_, ?_⟩
    · rw [hl j hj']
      simp [List.getD_eq_getElem?_getD, List.getElem?_eq_getElem hj']
    · rw [Nat.zero_add]; exact World.ownsRow.frozenAt ho j
  have hcon := AnyM.slices_Sort_int sortI g 0 cap l w hH hlt (by omega)
  rw [← e1] at hcon
  refine hcon.mono ?_
  rintro e w' ⟨rfl, m, os, rfl⟩
  have hD : (l.mergeSort fun x y => decide (x ≤ y)) = srtI l := rfl
  rw [hD]
  have hlen := srtI_len l
  refine ⟨rfl, ⟨by omega, hnc, hcm, (fun e => by cases e), fun _ => ⟨g, 0, rfl, ?_, fun j hj => ?_⟩⟩, put_grown _ _ _ _ _ _⟩
  · have := (put_grown w g 0 m (srtI l).toArray os).size
    omega
  · have hh := Go.Sort.holds_putRow (Value.int .i64) (Go.Sort.ahead w m) g 0 l.toArray (srtI l).toArray hH (by simp [hlen])
    have hc := (hh j (by simpa using hj)).1
    have hb := World.block_lt_of_cell? _ _ hc
    rw [Go.Sort.cell?_grow _ os _ hb, hc]
    simp [List.getD_eq_getElem?_getD, List.getElem?_eq_getElem hj]
theorem info_i64 : (Try.prog.info? 2).map (fun i => (i.zero, i.size, i.bytes)) = some (some (.int .i64 0), 1, 8) := by kernel_rfl
set_option maxHeartbeats 1000000 in
theorem clone_none (w : World) : Calls Try.prog 93 #[.slice none 0 0] w fun e w' => e = .returned (.slice none 0 0) ∧ w' = w := by
  have hnil : ∀ w, (binOp .eql 51 (.slice none 0 0) (.slice none 0 0)).run Try.prog w = .ok (.bool true) w := fun _ => by kernel_rfl
  go_enter Try.func93, Try.ntmps93
  go_wp2
  go_ret
  exact ⟨rfl, rfl⟩
set_option maxHeartbeats 1000000 in
theorem clone_some (ad : Addr) (n c : Nat) (l : List Int) (w : World) (h1 : IRow .i64 w (some ad) n c l) (hn : n ≤ 1000000) :
    Calls Try.prog 93 #[.slice (some ad) n c] w fun e w' => (∃ g cap : Nat, e = .returned (.slice (some ⟨g, 0, none⟩) n cap) ∧ w'.ownsRow w.heap.size 2 1 (.slice (some ⟨g, 0, none⟩) n cap) n (vals .i64 l)) ∧ Below w.heap.size w w' := by
  have H1 := hid h1
  clear h1
  have hnil : ∀ w, (binOp .eql 51 (.slice (some ad) n c) (.slice none 0 0)).run Try.prog w = .ok (.bool false) w := fun _ => by kernel_rfl
  go_enter Try.func93, Try.ntmps93
  go_wp2_with (at_builtin; refine append_row Try.underlying51 info_i64 (by decide) rfl (.tmp 5) (.tmp 6) rfl w.heap.size w.heap.size 0 0 [] rfl (own_made 2 w w.heap.size (Nat.le_refl _)) (some ad) n c l rfl (H1.out.below ((Below.refl _ _).alloc (Nat.le_refl _) _)) (by omega) (by simp) ?_; intro g1 cap1 w1 hown1 hgrow1; rw [Nat.zero_add, List.nil_append] at hown1; have B1 : Below w.heap.size w w1 := ((Below.refl w.heap.size w).alloc (Nat.le_refl _) _).grown hgrow1 (by simp) (fun k hk => by cases hk; exact Nat.le_refl _))
  go_ret
  exact ⟨⟨g1, cap1, rfl, hown1⟩, B1⟩
/-- A value behind a bag of values that are none above it. -/
theorem lay_last {l : List Rn} {x y : Int} (hs : Srt (l ++ [(x, y)])) (hy : ¬ y + 1 = 0) : lay x 1 (l ++ [(x, y)]) = l ++ [(x, y + 1)] := by
  have h : ∀ r ∈ l, r.1 < x := fun r hr => (List.pairwise_append.1 hs).2.2 r hr (x, y) (by simp)
  rw [lay_here h rfl, if_neg hy]
theorem below_x {l : List Rn} {x : Int} (hs : Srt l) (hx : ∀ r ∈ l, r.1 ≤ x) (hne : ∀ p q, l[l.length - 1]? = some (p, q) → ¬ p = x) : ∀ r ∈ l, r.1 < x := by
  intro r hr
  obtain ⟨i, hi⟩ := List.mem_iff_getElem?.1 hr
  have hil := (List.getElem?_eq_some_iff.1 hi).1
  have hlast : l[l.length - 1]? = some (l[l.length - 1]'(by omega)) := List.getElem?_eq_getElem (by omega)
  have h1 : ¬ (l[l.length - 1]'(by omega)).1 = x := hne _ (l[l.length - 1]'(by omega)).2 hlast
  have h2 := hx _ (List.getElem_mem (show l.length - 1 < l.length by omega))
  by_cases he : i = l.length - 1
  · subst he; rw [hlast] at hi; cases hi; omega
  · have := srt_get hs hi hlast (by omega); omega
theorem split_last {l : List Rn} {x y : Int} (h : l[l.length - 1]? = some (x, y)) : ∃ l0, l = l0 ++ [(x, y)] := by
  have hl := (List.getElem?_eq_some_iff.1 h).1
  refine ⟨l.take (l.length - 1), ?_⟩
  have := take_one h
  rw [show l.length - 1 + 1 = l.length by omega, List.take_length] at this
  exact this

set_option maxHeartbeats 4000000 in
theorem of_any (a : Option Addr) (n c : Nat) (l : List Int) (w : World) (hl : IRow .i64 w a n c l) (hn : n ≤ 1000) :
    Calls Try.prog 56 #[.slice a n c] w fun e w' => (∃ A cap, e = .returned (.slice A (bagOf l).length cap) ∧ NRun w' A (bagOf l).length cap (bagOf l)) ∧ Below w.heap.size w w' := by
  have HL := hid hl
  obtain ⟨l1, l2⟩ := hl.len
  have EL := hid l1
  have hs0 : Hid (∀ W, Calls Try.prog 94 #[.slice none 0 0] W fun e w' => e = .returned (.tuple #[]) ∧ w' = W) := hid fun W => AnyM.slices_Sort_int_none sortI none 0 W
  cases a with
  | none =>
    obtain ⟨r1, r2, r3, r4, r5⟩ := hl
    obtain rfl : c = 0 := r4 rfl
    obtain rfl : n = 0 := by omega
    have hy : l = [] := List.length_eq_zero_iff.mp r1.symm
    subst hy
    clear r1 r2 r3 r4 r5 l1 l2 HL EL
    go_enter Try.func56, Try.ntmps56
    go_upto_region 3 with (first
      | (go_at_call 93; refine (clone_none _).mono ?_; rintro e w1 ⟨rfl, hw⟩; have hw2 := hw.symm; clear hw; subst hw2)
      | (go_at_call 94; refine (hs0.out _).mono ?_; rintro e w2 ⟨rfl, hw⟩; have hw2 := hw.symm; clear hw; subst hw2))
    go_wp2
    refine wp_loop_rounds 1 ?_
    rw [rounds_succ]
    go_wp2
    go_ret
    exact ⟨⟨none, 0, rfl, nrun_nil _⟩, Below.refl _ _⟩
  | some ad =>
    clear hl l1
    go_enter Try.func56, Try.ntmps56
    go_upto_region 3 with (first
      | (go_at_call 93; refine (clone_some ad n c l _ HL.out (by omega)).mono ?_; rintro e w1 ⟨⟨g1, cap1, rfl, ho1⟩, hb1⟩; have O1 := hid ho1; have B1 := hid hb1; clear ho1 hb1)
      | (go_at_call 94; refine (sort_any w.heap.size g1 n cap1 l _ O1.out (by omega)).mono ?_; rintro e w2 ⟨rfl, hr2, hg2⟩; have R2 := hid hr2; have B2 := hid (B1.out.grown hg2 B1.out.size (fun k hk => by cases hk; exact (O1.out.lt g1 rfl).1)); clear hr2 hg2))
    clear O1 B1 hs0 HL
    go_wp2
    go_loopw [3, 12] (fun o i wr => ∃ (k : Nat) (u : Value) (out : List Rn), k ≤ n ∧ i = .int .i64 k ∧ u = o ∧ Hid (out = bagOf ((srtI l).take k)) ∧ Hid (OwnW w2 wr u out)) (fun _ i _ => n - (intOf i).toNat)
    case atStart => exact ⟨0, _, [], by omega, rfl, rfl, hid rfl, hid ⟨Below.refl _ _, own_nil _ _⟩⟩
    case round =>
      obtain ⟨k, u, out, hkn, rfl, rfl, HO, OW⟩ := hrel
      have hk0 : (0 : Int) ≤ (k : Int) := by omega
      by_cases hlt : k < n
      · have hki : (k : Int) < (n : Int) := by omega
        obtain ⟨b, off, x, eb, hb, hr, p0⟩ := R2.out.pick OW.out.1 hlt
        cases eb
        simp only [Nat.zero_add] at p0
        have HR := hid hr
        have HST : Hid (lay x 1 out = bagOf ((srtI l).take (k + 1))) := hid (by rw [HO.out, bagOf_step HR.out])
        have HSrt : Hid (Srt out) := hid (by rw [HO.out]; exact bagOf_srt _)
        have HPos : Hid (Pos out) := hid (by rw [HO.out]; exact bagOf_pos _)
        have HLen : Hid (out.length ≤ k) := hid (by rw [HO.out]; have := bagOf_len ((srtI l).take k); rw [List.length_take] at this; omega)
        have HLe : Hid (∀ r ∈ out, r.1 ≤ x) := hid (fun r hr' => by
          rw [HO.out] at hr'
          have hm := bagOf_mem hr'
          obtain ⟨i, hi⟩ := List.mem_iff_getElem?.1 hm
          rw [List.getElem?_take] at hi
          by_cases hik : i < k
          · rw [if_pos hik] at hi
            obtain ⟨h1, e1⟩ := List.getElem?_eq_some_iff.1 hi
            obtain ⟨h2, e2⟩ := List.getElem?_eq_some_iff.1 HR.out
            have := List.pairwise_iff_getElem.mp (srtI_rise l) i k h1 h2 hik
            rw [e1, e2] at this
            exact this
          · rw [if_neg hik] at hi; cases hi)
        have HBd : Hid (∀ r ∈ out, r.2 ≤ k) := hid (fun r hr' => by
          have h2 := cn_srt_eq HSrt.out hr'
          have h3 := cn_le (v := r.1) HPos.out
          have h4 : tot out = (((srtI l).take k).length : Int) := by rw [HO.out, bagOf_tot]
          rw [List.length_take] at h4
          omega)
        clear hr
        by_cases hq : ∃ y, out[out.length - 1]? = some (x, y)
        · obtain ⟨y, hy⟩ := hq
          obtain ⟨l0, el⟩ := split_last hy
          have hyb := HBd.out (x, y) (by rw [el]; simp)
          have hyp := HPos.out (x, y) (by rw [el]; simp)
          simp only at hyb hyp
          have OW2 : Hid (OwnW w2 wr u (l0 ++ [(x, y)])) := hid (by rw [← el]; exact OW.out)
          have hlen0 : l0.length ≤ k := by have := HLen.out; rw [el, List.length_append] at this; omega
          have HST2 : Hid (l0 ++ [(x, y + 1)] = bagOf ((srtI l).take (k + 1))) := hid (by rw [← HST.out, el, lay_last (by rw [← el]; exact HSrt.out) (by omega)])
          clear hy el
          go_wp2_with (go_at_call 95; refine (laid_more w2.heap.size u l0 x y 1 _ OW2.out.2 OW2.out.1.size (by omega) (by omega) (by omega)).mono ?_; rintro e w3 ⟨⟨rfl, ho3⟩, hg3⟩; have O3 := hid (OwnW.grown OW2.out hg3 ho3); clear ho3 hg3)
          go_roundw
          case rel => exact ⟨k + 1, u, _, by omega, by go_num, rfl, HST2, O3⟩
          case measure => simp [intOf]; omega
        · have HNE : Hid (∀ p q, out[out.length - 1]? = some (p, q) → ¬ p = x) := hid (fun p q h e => hq ⟨q, by rw [← e]; exact h⟩)
          have HST2 : Hid (out ++ [(x, 1)] = bagOf ((srtI l).take (k + 1))) := hid (by rw [← HST.out, lay_low (below_x HSrt.out HLe.out HNE.out)])
          clear hq
          go_wp2_with (go_at_call 95; refine (laid_new w2.heap.size u out x 1 _ OW.out.2 OW.out.1.size (by have := HLen.out; omega) HNE.out).mono ?_; rintro e w3 ⟨⟨u3, rfl, ho3⟩, hg3⟩; have O3 := hid (OwnW.grown OW.out hg3 ho3); clear ho3 hg3)
          go_roundw
          case rel => exact ⟨k + 1, u3, _, by omega, by go_num, rfl, HST2, O3⟩
          case measure => simp [intOf]; omega
      · have hkf : decide ((k : Int) < (n : Int)) = false := decide_eq_false (by omega)
        have HE : Hid (out = bagOf l) := hid (by rw [HO.out, List.take_of_length_le (by rw [srtI_len]; have := EL.out; omega), bagOf_perm (srtI_perm l)])
        obtain ⟨A, cap, e, hr⟩ := own_any OW.out.2
        subst e
        have HR := hid hr
        clear hr
        go_wp2
        go_ret
        rw [← HE.out]
        exact ⟨⟨A, cap, rfl, HR.out⟩, bt B2.out OW.out.1⟩

end Go.Proofs.Ytjkkajhjcinalaa

namespace Go.Proofs.Ytjkkajhjcinalaa
open Go.ChangeShapes Go.WideShapes Go.ChangeAt Go.RowKit
set_option linter.unusedVariables false
set_option linter.unusedSimpArgs false
set_option maxRecDepth 100000

theorem lay_more {l : List Rn} {x y q : Int} (hs : Srt (l ++ [(x, y)])) (hy : ¬ y + q = 0) : lay x q (l ++ [(x, y)]) = l ++ [(x, y + q)] := by
  have h : ∀ r ∈ l, r.1 < x := fun r hr => (List.pairwise_append.1 hs).2.2 r hr (x, y) (by simp)
  rw [lay_here h rfl, if_neg hy]
/-- bag.laid, as the document lays. -/
theorem laid_lay (base : Nat) (v : Value) (l M : List Rn) (x q : Int) (w : World) (ho : OwnN w base v l) (hb : base ≤ w.heap.size) (hn : l.length ≤ 1000000) (hs : Srt l) (hp : Pos l) (hx : ∀ r ∈ l, r.1 ≤ x) (ht : tot l ≤ 4611686018427387903) (hq : 1 ≤ q ∧ q ≤ 4611686018427387903) (hM : Hid (lay x q l = M)) :
    Calls Try.prog 95 #[v, .agg #[.int .i64 x, .int .i64 q]] w fun e w' => (∃ v', e = .returned v' ∧ OwnN w' base v' M) ∧ w.grownBy w' v.ownBlock := by
  by_cases hh : ∃ y, l[l.length - 1]? = some (x, y)
  · obtain ⟨y, hy⟩ := hh
    obtain ⟨l0, el⟩ := split_last hy
    have hyp := hp (x, y) (by rw [el]; simp)
    have hyb : y ≤ tot l := by
      have h1 := cn_srt_eq hs (r := (x, y)) (by rw [el]; simp)
      have h2 := cn_le (v := x) hp
      simp only at h1; omega
    simp only at hyp
    rw [el] at ho hs
    have hl0 : l0.length ≤ 1000000 := by rw [el, List.length_append] at hn; omega
    refine (laid_more base v l0 x y q w ho hb hl0 (by omega) (by omega)).mono ?_
    rintro e w' ⟨⟨rfl, ho'⟩, hg⟩
    refine ⟨⟨v, rfl, ?_⟩, hg⟩
    rw [← hM.out, el, lay_more hs (by omega)]
    exact ho'
  · have hne : ∀ p z, l[l.length - 1]? = some (p, z) → ¬ p = x := fun p z h e => hh ⟨z, by rw [← e]; exact h⟩
    refine (laid_new base v l x q w ho hb hn hne).mono ?_
    rintro e w' ⟨⟨v', rfl, ho'⟩, hg⟩
    refine ⟨⟨v', rfl, ?_⟩, hg⟩
    rw [← hM.out, lay_low (below_x hs hx hne)]
    exact ho'

/-- The way of Join. -/
def JI (A B la lb out : List Rn) : Prop :=
  (Srt la ∧ Pos la) ∧ (Srt lb ∧ Pos lb) ∧ (Srt out ∧ Pos out) ∧ (∀ r ∈ out, (∀ s ∈ la, r.1 ≤ s.1) ∧ ∀ s ∈ lb, r.1 ≤ s.1) ∧ (∀ v, cn v out + cn v la + cn v lb = cn v A + cn v B) ∧ tot out + tot la + tot lb = tot A + tot B ∧ out.length + la.length + lb.length ≤ A.length + B.length
theorem ji_0 {A B : List Rn} (ha : Bag A) (hb : Bag B) : JI A B A B [] :=
  ⟨⟨ha.1, ha.2.1⟩, ⟨hb.1, hb.2.1⟩, ⟨srt_nil, pos_nil⟩, (fun r hr => by simp at hr), (fun v => by simp [cn]), by simp [tot], by simp⟩
theorem ji_swap {A B la lb out : List Rn} (h : JI A B la lb out) : JI A B lb la out := by
  obtain ⟨h1, h2, h3, h4, h5, h6, h7⟩ := h
  exact ⟨h2, h1, h3, fun r hr => ⟨(h4 r hr).2, (h4 r hr).1⟩, fun v => by have := h5 v; omega, by omega, by omega⟩
theorem ji_step {A B la lb out : List Rn} {x0 x1 : Int} (h : JI A B ((x0, x1) :: la) lb out) (hx : ∀ y, lb[0]? = some y → x0 ≤ y.1) : JI A B la lb (lay x0 x1 out) := by
  obtain ⟨⟨a1, a2⟩, ⟨b1, b2⟩, ⟨o1, o2⟩, h4, h5, h6, h7⟩ := h
  have hl := a1
  rw [Srt, List.pairwise_cons] at hl
  have hx1 : 1 ≤ x1 := a2 (x0, x1) (by simp)
  have hlb : ∀ s ∈ lb, x0 ≤ s.1 := by
    intro s hs
    obtain ⟨i, hi⟩ := List.mem_iff_getElem?.1 hs
    have h0 : lb[0]? = some (lb[0]'(by have := (List.getElem?_eq_some_iff.1 hi).1; omega)) := List.getElem?_eq_getElem _
    have hy := hx _ h0
    by_cases hz : i = 0
    · subst hz; rw [h0] at hi; have e := Option.some.inj hi; rw [← e]; exact hy
    · have := srt_get b1 h0 hi (by omega); omega
  refine ⟨⟨hl.2, fun r hr => a2 r (by simp [hr])⟩, ⟨b1, b2⟩, ⟨lay_srt o1, lay_pos o2 hx1⟩, fun r hr => ?_, fun v => ?_, ?_, ?_⟩
  · rcases lay_mem hr with e | hr
    · refine ⟨fun s hs => ?_, fun s hs => by rw [e]; exact hlb s hs⟩
      have := hl.1 s hs
      unfold ltR at this
      simp only at this
      omega
    · exact ⟨fun s hs => (h4 r hr).1 s (by simp [hs]), (h4 r hr).2⟩
  · have := h5 v
    rw [lay_cn]
    simp only [cn] at this
    by_cases hv : x0 = v
    · subst hv; simp only [if_pos] at this ⊢; omega
    · rw [if_neg hv] at this; rw [if_neg (fun e => hv e.symm)]; omega
  · rw [lay_tot]; simp only [tot] at h6; omega
  · have := lay_len (v := x0) (n := x1) (l := out)
    simp only [List.length_cons] at h7
    omega
/-- What laid wants of the next run. -/
theorem ji_next {A B la lb out : List Rn} {x0 x1 : Int} (h : JI A B ((x0, x1) :: la) lb out) (ht : tot A + tot B ≤ 1099511627776) (hl : A.length + B.length ≤ 2000) : Srt out ∧ Pos out ∧ (∀ r ∈ out, r.1 ≤ x0) ∧ tot out ≤ 1099511627776 ∧ 1 ≤ x1 ∧ x1 ≤ 1099511627776 ∧ out.length ≤ 2000 := by
  obtain ⟨⟨a1, a2⟩, ⟨b1, b2⟩, ⟨o1, o2⟩, h4, h5, h6, h7⟩ := h
  have hx1 : 1 ≤ x1 := a2 (x0, x1) (by simp)
  have t1 := tot_nn o2
  have t2 := tot_nn b2
  have t3 := tot_nn (l := la) (fun r hr => a2 r (by simp [hr]))
  simp only [tot] at h6
  exact ⟨o1, o2, fun r hr => (h4 r hr).1 (x0, x1) (by simp), by omega, hx1, by omega, by omega⟩
theorem ji_end {A B out : List Rn} (h : JI A B [] [] out) (ha : Srt A) (pa : Pos A) (pb : Pos B) : out = jnl A B := by
  obtain ⟨_, _, ⟨o1, o2⟩, _, h5, _, _⟩ := h
  exact jnl_is ha pa pb o1 (pos_nz o2) (fun v => by have := h5 v; simp [cn] at this; omega)
theorem head_cons {l : List Rn} {x : Rn} (h : l[0]? = some x) : l = x :: l.drop 1 := by
  cases l with
  | nil => simp at h
  | cons y l => simp at h; subst h; rfl

/-- The way of Minus. -/
def MI (a b out : List Rn) (k j : Nat) : Prop :=
  Srt out ∧ Pos out ∧ (∀ r ∈ out, ∃ s ∈ a.take k, s.1 = r.1) ∧ (∀ v, cn v out = cn v (a.take k) - cn v (b.take j)) ∧ (∀ r ∈ b.take j, r.2 ≤ cn r.1 a) ∧ ∀ r ∈ a.take k, ∀ y, b[j]? = some y → ¬ r.1 = y.1
theorem mi_0 (a b : List Rn) : MI a b [] 0 0 :=
  ⟨srt_nil, pos_nil, (fun r hr => by simp at hr), (fun v => by simp [cn]), (fun r hr => by simp at hr), fun r hr => by simp at hr⟩
theorem take_lt {a : List Rn} (ha : Srt a) {k : Nat} {x : Rn} (hr : a[k]? = some x) : ∀ r ∈ a.take k, r.1 < x.1 := by
  intro r hr'
  obtain ⟨i, hi⟩ := List.mem_iff_getElem?.1 hr'
  rw [List.getElem?_take] at hi
  by_cases hik : i < k
  · rw [if_pos hik] at hi; exact srt_get ha hi hr hik
  · rw [if_neg hik] at hi; cases hi
theorem mi_snoc {a out : List Rn} (ha : Srt a) {k : Nat} {x0 x1 z : Int} (hr : a[k]? = some (x0, x1)) (ho : Srt out) (hp : Pos out) (hm : ∀ r ∈ out, ∃ s ∈ a.take k, s.1 = r.1) (hz : 1 ≤ z) : Srt (out ++ [(x0, z)]) ∧ Pos (out ++ [(x0, z)]) ∧ ∀ r ∈ out ++ [(x0, z)], ∃ s ∈ a.take (k + 1), s.1 = r.1 := by
  refine ⟨srt_snoc ho (fun r hr' => ?_), fun r hr' => ?_, fun r hr' => ?_⟩
  · obtain ⟨s, hs, e⟩ := hm r hr'
    have := take_lt ha hr s hs
    simp only at this ⊢; omega
  · rcases List.mem_append.1 hr' with hr' | hr'
    · exact hp r hr'
    · simp at hr'; subst hr'; exact hz
  · rw [take_one hr]
    rcases List.mem_append.1 hr' with hr' | hr'
    · obtain ⟨s, hs, e⟩ := hm r hr'
      exact ⟨s, List.mem_append_left _ hs, e⟩
    · simp at hr'; subst hr'; exact ⟨(x0, x1), by simp, rfl⟩
theorem mi_keep {a b out : List Rn} {k j : Nat} {x0 x1 : Int} (h : MI a b out k j) (ha : Srt a) (pa : Pos a) (hr : a[k]? = some (x0, x1)) (hne : ∀ y, b[j]? = some y → ¬ x0 = y.1) : MI a b (out ++ [(x0, x1)]) (k + 1) j := by
  obtain ⟨h1, h2, h3, h4, h5, h6⟩ := h
  obtain ⟨g1, g2, g3⟩ := mi_snoc (z := x1) ha hr h1 h2 h3 (pa (x0, x1) (List.mem_of_getElem? hr))
  refine ⟨g1, g2, g3, fun v => ?_, h5, fun r hr' y hy => ?_⟩
  · rw [take_one hr, cn_app, cn_app, h4]; simp only [cn]; omega
  · rw [take_one hr] at hr'
    rcases List.mem_append.1 hr' with hr' | hr'
    · exact h6 r hr' y hy
    · simp at hr'; subst hr'; exact hne y hy
theorem mi_next {a b : List Rn} {k j : Nat} {x0 x1 y1 : Int} (ha : Srt a) (hb : Srt b) (hr : a[k]? = some (x0, x1)) (hq : b[j]? = some (x0, y1)) (h5 : ∀ r ∈ b.take j, r.2 ≤ cn r.1 a) (hy : y1 ≤ x1) : (∀ r ∈ b.take (j + 1), r.2 ≤ cn r.1 a) ∧ ∀ r ∈ a.take (k + 1), ∀ y, b[j + 1]? = some y → ¬ r.1 = y.1 := by
  refine ⟨fun r hr' => ?_, fun r hr' y hy' => ?_⟩
  · rw [take_one hq] at hr'
    rcases List.mem_append.1 hr' with hr' | hr'
    · exact h5 r hr'
    · simp at hr'; subst hr'
      have := cn_at ha hr
      simp only at this ⊢; omega
  · have h1 : x0 < y.1 := srt_get hb hq hy' (by omega)
    rw [take_one hr] at hr'
    rcases List.mem_append.1 hr' with hr' | hr'
    · have := take_lt ha hr r hr'; simp only at this; omega
    · simp at hr'; subst hr'; simp only; omega
theorem mi_sub {a b out : List Rn} {k j : Nat} {x0 x1 y1 : Int} (h : MI a b out k j) (ha : Srt a) (hb : Srt b) (hr : a[k]? = some (x0, x1)) (hq : b[j]? = some (x0, y1)) (hy : y1 < x1) : MI a b (out ++ [(x0, x1 - y1)]) (k + 1) (j + 1) := by
  obtain ⟨h1, h2, h3, h4, h5, h6⟩ := h
  obtain ⟨g1, g2, g3⟩ := mi_snoc (z := x1 - y1) ha hr h1 h2 h3 (by omega)
  obtain ⟨e1, e2⟩ := mi_next ha hb hr hq h5 (by omega)
  refine ⟨g1, g2, g3, fun v => ?_, e1, e2⟩
  rw [take_one hr, take_one hq, cn_app, cn_app, cn_app, h4]
  simp only [cn]; split <;> omega
theorem mi_gone {a b out : List Rn} {k j : Nat} {x0 x1 y1 : Int} (h : MI a b out k j) (ha : Srt a) (hb : Srt b) (hr : a[k]? = some (x0, x1)) (hq : b[j]? = some (x0, y1)) (hy : y1 = x1) : MI a b out (k + 1) (j + 1) := by
  obtain ⟨h1, h2, h3, h4, h5, h6⟩ := h
  obtain ⟨e1, e2⟩ := mi_next ha hb hr hq h5 (by omega)
  refine ⟨h1, h2, fun r hr' => ?_, fun v => ?_, e1, e2⟩
  · obtain ⟨s, hs, e⟩ := h3 r hr'
    exact ⟨s, by rw [take_one hr]; exact List.mem_append_left _ hs, e⟩
  · rw [take_one hr, take_one hq, cn_app, cn_app, h4]
    simp only [cn]; split <;> omega
theorem mi_bad {a b : List Rn} {k j : Nat} {x0 x1 y1 : Int} (ha : Srt a) (hr : a[k]? = some (x0, x1)) (hq : b[j]? = some (x0, y1)) (hy : x1 < y1) : ¬ Fits a b := by
  intro hf
  have h1 := hf _ (List.mem_of_getElem? hq)
  have h2 := cn_at ha hr
  simp only at h1 h2; omega
theorem mi_end {a b out : List Rn} {k j : Nat} {y : Rn} (h : MI a b out k j) (pb : Pos b) (hk : a.length ≤ k) (hq : b[j]? = some y) : ¬ Fits a b := by
  intro hf
  obtain ⟨_, _, _, _, _, h6⟩ := h
  rw [List.take_of_length_le hk] at h6
  have h1 := hf y (List.mem_of_getElem? hq)
  have h2 := pb y (List.mem_of_getElem? hq)
  have h3 : cn y.1 a = 0 := cn_none (fun r hr => h6 r hr y hq)
  omega
theorem mi_done {a b out : List Rn} {k j : Nat} (h : MI a b out k j) (ha : Srt a) (pa : Pos a) (pb : Pos b) (hk : a.length ≤ k) (hj : b.length ≤ j) : Fits a b ∧ out = mnl a b := by
  obtain ⟨h1, h2, h3, h4, h5, h6⟩ := h
  rw [List.take_of_length_le hk] at h4
  rw [List.take_of_length_le hj] at h4 h5
  exact ⟨h5, mnl_is ha (pos_nz pa) pb h1 (pos_nz h2) h4⟩
/-- A row of one's own, while another block is written into. -/
theorem own_other {w w' : World} {base N : Nat} {v : Value} {l : List Rn} (h : OwnN w base v l) (hg : w.grownBy w' (some N)) (hN : ∀ g, v.ownBlock = some g → ¬ g = N) : OwnN w' base v l := by
  unfold OwnN at *
  refine ⟨h.1, ?_⟩
  rcases h.2 with h' | ⟨g, cap, cur, h', hb, hh, h1, h2, h3, h4⟩
  · exact .inl h'
  · refine .inr ⟨g, cap, cur, h', hb, ?_, h1, h2, h3, h4⟩
    rw [hg.block g (heap_lt hh) (fun e => hN g (by rw [h']; rfl) (by cases e; rfl))]
    exact hh

end Go.Proofs.Ytjkkajhjcinalaa

namespace Go.Proofs.Ytjkkajhjcinalaa
open Go.ChangeShapes Go.WideShapes Go.ChangeAt Go.RowKit
set_option linter.unusedVariables false
set_option linter.unusedSimpArgs false
set_option maxRecDepth 100000

theorem box_five {w : World} {D : Nat} {t : TypeId} {a b c d e : Value} (hD : w.heap[D]? = some (.cells #[a, b, c, d, e] t)) : w.cell? ⟨D, 0, none⟩ = some a ∧ w.cell? ⟨D, 1, none⟩ = some b ∧ w.cell? ⟨D, 2, none⟩ = some c ∧ w.cell? ⟨D, 3, none⟩ = some d ∧ w.cell? ⟨D, 4, none⟩ = some e := by
  refine ⟨?_, ?_, ?_, ?_, ?_⟩ <;> simp [World.cell?, hD]
/-- The two bags of a cell, in a world. -/
def CW (w : World) (a0 : Option Addr) (p0 k0 : Nat) (a1 : Option Addr) (p1 k1 : Nat) (c : Cl) : Prop := NRun w a0 p0 k0 c.b0 ∧ NRun w a1 p1 k1 c.b1
theorem CW.below {w w' : World} {a0 : Option Addr} {p0 k0 : Nat} {a1 : Option Addr} {p1 k1 : Nat} {c : Cl} (h : CW w a0 p0 k0 a1 p1 k1 c) (hb : Below w.heap.size w w') : CW w' a0 p0 k0 a1 p1 k1 c := ⟨h.1.below hb, h.2.below hb⟩
/-- Its numbers are numbers. -/
def okc (c : Cl) : Prop := I64 c.n ∧ I64 c.s0 ∧ I64 c.s1 ∧ (∀ r ∈ c.b0, nok r) ∧ (∀ r ∈ c.b1, nok r)

theorem meas_m (m : Int) (v : Bool) (w : World) (hv : Hid ((decide (m = 1) || decide (m = 2)) = v)) :
    Calls Try.prog 54 #[.int .i64 m] w fun e w' => e = .returned (.bool v) ∧ Below w.heap.size w w' := by
  have h := hv.out
  subst h
  clear hv
  by_cases h1 : 1 ≤ m
  · have h1d : decide (m < 1) = false := decide_eq_false (by omega)
    by_cases h2 : m ≤ 2
    · have h2d : decide (2 < m) = false := decide_eq_false (by omega)
      have hd : (decide (m = 1) || decide (m = 2)) = true := by simp only [Bool.or_eq_true, decide_eq_true_iff]; omega
      rw [hd]
      clear hd
      go_enter Try.func54, Try.ntmps54
      go_wp2
      go_ret
      exact ⟨rfl, Below.refl _ _⟩
    · have h2d : decide (2 < m) = true := decide_eq_true (by omega)
      have hd : (decide (m = 1) || decide (m = 2)) = false := by simp only [Bool.or_eq_false_iff, decide_eq_false_iff_not]; omega
      rw [hd]
      clear hd
      go_enter Try.func54, Try.ntmps54
      go_wp2
      go_ret
      exact ⟨rfl, Below.refl _ _⟩
  · have h1d : decide (m < 1) = true := decide_eq_true (by omega)
    have hd : (decide (m = 1) || decide (m = 2)) = false := by simp only [Bool.or_eq_false_iff, decide_eq_false_iff_not]; omega
    rw [hd]
    clear hd
    go_enter Try.func54, Try.ntmps54
    go_wp2
    go_ret
    exact ⟨rfl, Below.refl _ _⟩

theorem bsum_n (a : Option Addr) (n c : Nat) (l : List Rn) (S : Int) (f : Bool) (w : World) (hl : NRun w a n c l) (hk : ∀ r ∈ l, nok r) (hS : Hid (sv l = S)) (hf : Hid (sb l = f)) :
    Calls Try.prog 97 #[.slice a n c] w fun e w' => e = .returned (.tuple #[.int .i64 S, .bool f]) ∧ Below w.heap.size w w' := by
  have := bsum_any a n c l w hl hk
  rw [hS.out, hf.out] at this
  exact this
theorem tl_rk {n s : Int} {l : List Rn} (h : ¬ tl l = n) : rk n s l = false := rk_no (fun g => h ((tl_yes g.1).trans g.2.1))
theorem tl_bag {n : Int} {l : List Rn} (hn : 1 ≤ n) (h : tl l = n) : Bag l ∧ tot l = n := by
  by_cases hb : Bag l
  · exact ⟨hb, by rw [← h, tl_yes hb]⟩
  · rw [tl_no hb] at h; omega
set_option maxHeartbeats 2000000 in
theorem reck_m (n s : Int) (a : Option Addr) (p k : Nat) (l : List Rn) (v : Bool) (w : World) (hl : NRun w a p k l) (hk : ∀ r ∈ l, nok r) (hn : 1 ≤ n) (hs : I64 s) (hv : Hid (rk n s l = v)) :
    Calls Try.prog 58 #[.int .i64 n, .int .i64 s, .slice a p k] w fun e w' => e = .returned (.bool v) ∧ Below w.heap.size w w' := by
  have h := hv.out
  subst h
  clear hv
  have HL := hid hl
  have HK := hid hk
  clear hl hk
  obtain ⟨T, hT⟩ : ∃ x, tl l = x := ⟨_, rfl⟩
  have FT := hid hT
  by_cases hTn : T = n
  · subst hTn
    obtain ⟨hb, ht⟩ := tl_bag hn hT
    obtain ⟨S, hS⟩ : ∃ x, sv l = x := ⟨_, rfl⟩
    obtain ⟨f, hf⟩ : ∃ x, sb l = x := ⟨_, rfl⟩
    have GS := hid hS
    have FF := hid hf
    rw [(sv_yes (gd_yes hb)).1] at hS
    rw [(sv_yes (gd_yes hb)).2] at hf
    have tt : (T != T) = false := by simp
    cases f with
    | false =>
      have e : rk T s l = false := rk_no (fun g => by have := fitB_i64 hs; rw [← g.2.2, hf] at this; cases this)
      rw [e]
      clear e hT hS hf
      go_enter Try.func58, Try.ntmps58
      go_wp2_with (first
        | (go_at_call 96; refine (count_m a p k l T _ HL.out HK.out FT).mono ?_; rintro e w1 ⟨rfl, hb1⟩; have B1 := hid hb1; clear hb1)
        | (go_at_call 97; refine (bsum_n a p k l S false _ (HL.out.below B1.out) HK.out GS FF).mono ?_; rintro e w2 ⟨rfl, hb2⟩; have B2 := hid (bt B1.out hb2); clear hb2))
      go_ret
      exact ⟨rfl, B2.out⟩
    | true =>
      rw [fitV_yes hf] at hS
      have e : rk T s l = (S == s) := by
        by_cases h : S = s
        · rw [rk_yes ⟨hb, ht, hS.trans h⟩]; simp [h]
        · rw [rk_no (fun g => h (hS.symm.trans g.2.2))]; simp [h]
      rw [e]
      clear e hT hS hf
      go_enter Try.func58, Try.ntmps58
      go_wp2_with (first
        | (go_at_call 96; refine (count_m a p k l T _ HL.out HK.out FT).mono ?_; rintro e w1 ⟨rfl, hb1⟩; have B1 := hid hb1; clear hb1)
        | (go_at_call 97; refine (bsum_n a p k l S true _ (HL.out.below B1.out) HK.out GS FF).mono ?_; rintro e w2 ⟨rfl, hb2⟩; have B2 := hid (bt B1.out hb2); clear hb2))
      go_ret
      exact ⟨rfl, B2.out⟩
  · have tt : (T != n) = true := by simp [hTn]
    rw [tl_rk (by rw [hT]; exact hTn)]
    clear hT
    go_enter Try.func58, Try.ntmps58
    go_wp2_with (go_at_call 96; refine (count_m a p k l T _ HL.out HK.out FT).mono ?_; rintro e w1 ⟨rfl, hb1⟩; have B1 := hid hb1; clear hb1)
    go_ret
    exact ⟨rfl, B1.out⟩

end Go.Proofs.Ytjkkajhjcinalaa

namespace Go.Proofs.Ytjkkajhjcinalaa
open Go.ChangeShapes Go.WideShapes Go.ChangeAt Go.RowKit
set_option linter.unusedVariables false
set_option linter.unusedSimpArgs false
set_option maxRecDepth 100000

theorem Kp.five {w W y : World} {N : Nat} {a b c d e : Value} {t : TypeId} (h : Kp w W N (.cells #[a, b, c, d, e] t)) (hb : Below W.heap.size W y) :
    Below W.heap.size W y ∧ y.cell? ⟨N, 0, none⟩ = some a ∧ y.cell? ⟨N, 1, none⟩ = some b ∧ y.cell? ⟨N, 2, none⟩ = some c ∧ y.cell? ⟨N, 3, none⟩ = some d ∧ y.cell? ⟨N, 4, none⟩ = some e := ⟨hb, box_five (h.step hb).2.2⟩
theorem cg_n0 {m : Int} {c : Cl} (h : ¬ (1 ≤ c.n ∧ c.n ≤ 1099511627776)) : cg m c = false := cg_no (fun g => h g.1)
theorem cg_r0 {m : Int} {c : Cl} (h : rk c.n c.s0 c.b0 = false) : cg m c = false := cg_no (fun g => by rw [rk_yes g.2.1] at h; cases h)
theorem cg_one {c : Cl} (h : 1 ≤ c.n ∧ c.n ≤ 1099511627776) (h0 : rk c.n c.s0 c.b0 = true) : cg 1 c = (decide (c.s1 = 0) && c.b1.isEmpty) := by
  unfold cg
  rw [decide_eq_true h, h0]
  simp
theorem cg_two {c : Cl} (h : 1 ≤ c.n ∧ c.n ≤ 1099511627776) (h0 : rk c.n c.s0 c.b0 = true) : cg 2 c = rk c.n c.s1 c.b1 := by
  unfold cg
  rw [decide_eq_true h, h0]
  simp
theorem len_emp {p : Nat} {l : List Rn} (h : p = l.length) : l.isEmpty = decide (p = 0) := by
  cases l with
  | nil => subst h; rfl
  | cons x l => subst h; simp

set_option maxHeartbeats 16000000 in
theorem cgood_m (m : Int) (c : Cl) (a0 : Option Addr) (p0 k0 : Nat) (a1 : Option Addr) (p1 k1 : Nat) (v : Bool) (w : World) (hw : CW w a0 p0 k0 a1 p1 k1 c) (hk : okc c) (hv : Hid (cg m c = v)) :
    Calls Try.prog 19 #[.int .i64 m, .agg #[.int .i64 c.n, .int .i64 c.s0, .int .i64 c.s1, .slice a0 p0 k0, .slice a1 p1 k1]] w fun e w' => e = .returned (.bool v) ∧ Below w.heap.size w w' := by
  have h := hv.out
  subst h
  clear hv
  obtain ⟨l1, l2⟩ := hw.1.lens
  obtain ⟨u1, u2⟩ := hw.2.lens
  obtain ⟨o1, o2, o3, o4, o5⟩ := hk
  have HW := hid hw
  have O2 := hid o2
  have O3 := hid o3
  have K4 := hid o4
  have K5 := hid o5
  have EU := hid u1
  clear hw l1 u1 o1 o2 o3 o4 o5
  have i0 : ∀ w, (Instr.index 24 (.agg #[.slice a0 p0 k0, .slice a1 p1 k1]) (.int .i64 0)).run Try.prog w = .ok (.slice a0 p0 k0) w := fun _ => by kernel_rfl
  have i1 : ∀ w, (Instr.index 24 (.agg #[.slice a0 p0 k0, .slice a1 p1 k1]) (.int .i64 1)).run Try.prog w = .ok (.slice a1 p1 k1) w := fun _ => by kernel_rfl
  by_cases hm : m = 1 ∨ m = 2
  · have HM : Hid ((decide (m = 1) || decide (m = 2)) = true) := hid (by simp only [Bool.or_eq_true, decide_eq_true_iff]; exact hm)
    by_cases hn : 1 ≤ c.n ∧ c.n ≤ 1099511627776
    · have hn1 : decide (c.n < 1) = false := decide_eq_false (by omega)
      have hn2 : decide (1099511627776 < c.n) = false := decide_eq_false (by omega)
      have HN := hid hn
      obtain ⟨r0, e0⟩ : ∃ x, rk c.n c.s0 c.b0 = x := ⟨_, rfl⟩
      have E0 := hid e0
      have m0 : (0 : Int) < m := by omega
      have m0d : decide ((0 : Int) < m) = true := decide_eq_true m0
      have m0f : decide (m ≤ (0 : Int)) = false := decide_eq_false (by omega)
      have hlen : (p1 : Int) ≤ 9223372036854775807 := by omega
      have K0 := hid (kp_new w (.cells #[.int .i64 c.n, .int .i64 c.s0, .int .i64 c.s1, .slice a0 p0 k0, .slice a1 p1 k1] 26))
      clear hn
      cases r0 with
      | false =>
        rw [cg_r0 e0]
        clear e0 hm
        go_enter Try.func19, Try.ntmps19
        go_upto_region 4 with (go_at_call 54; refine (meas_m _ true _ HM).mono ?_; rintro e w1 ⟨rfl, hb1⟩; have B1 := hid hb1; clear hb1; obtain ⟨_, d0, d1, d2, d3, d4⟩ := K0.out.five B1.out)
        have K1 := hid (K0.out.step B1.out)
        have KS : Hid (∀ y, Below w1.heap.size w1 y → Below w1.heap.size w1 y ∧ y.cell? ⟨w.heap.size, 0, none⟩ = some (.int .i64 c.n) ∧ y.cell? ⟨w.heap.size, 1, none⟩ = some (.int .i64 c.s0) ∧ y.cell? ⟨w.heap.size, 2, none⟩ = some (.int .i64 c.s1) ∧ y.cell? ⟨w.heap.size, 3, none⟩ = some (.slice a0 p0 k0) ∧ y.cell? ⟨w.heap.size, 4, none⟩ = some (.slice a1 p1 k1)) := hid (fun y hb => K1.out.five hb)
        clear d0 d1 d2 d3 d4
        refine wp_loop_rounds 3 ?_
        rw [rounds_succ]
        go_wp2
        go_region_held3 (fun y => Below w1.heap.size w1 y ∧ y.cell? ⟨w.heap.size, 0, none⟩ = some (.int .i64 c.n) ∧ y.cell? ⟨w.heap.size, 1, none⟩ = some (.int .i64 c.s0) ∧ y.cell? ⟨w.heap.size, 2, none⟩ = some (.int .i64 c.s1) ∧ y.cell? ⟨w.heap.size, 3, none⟩ = some (.slice a0 p0 k0) ∧ y.cell? ⟨w.heap.size, 4, none⟩ = some (.slice a1 p1 k1))
          (first | assumption | exact keep_drew KS | exact keep_step (by assumption) (by assumption) KS)
          (first
            | (go_at_call 58; refine (reck_m _ _ _ _ _ _ false _ (HW.out.1.below (bt (bt K0.out.1 B1.out) (And.left (by assumption)))) K4.out HN.out.1 O2.out E0).mono ?_; rintro e w2 ⟨rfl, hb2⟩))
        go_wp2
        go_ret
        exact ⟨rfl, bt K1.out.1 (undrew hb2)⟩
      | true =>
        rcases hm with rfl | rfl
        · rw [cg_one HN.out e0, len_emp EU.out]
          clear e0
          by_cases hs : c.s1 = 0
          · have hsd : (c.s1 != 0) = false := by simp [hs]
            by_cases hp : p1 = 0
            · have hpd : decide ((0 : Int) < (p1 : Int)) = false := decide_eq_false (by omega)
              have hpe : decide (0 < p1) = false := decide_eq_false (by omega)
              rw [decide_eq_true hs, decide_eq_true hp]
              clear hs hp
              go_enter Try.func19, Try.ntmps19
              go_upto_region 4 with (go_at_call 54; refine (meas_m _ true _ HM).mono ?_; rintro e w1 ⟨rfl, hb1⟩; have B1 := hid hb1; clear hb1; obtain ⟨_, d0, d1, d2, d3, d4⟩ := K0.out.five B1.out)
              have K1 := hid (K0.out.step B1.out)
              have KS : Hid (∀ y, Below w1.heap.size w1 y → Below w1.heap.size w1 y ∧ y.cell? ⟨w.heap.size, 0, none⟩ = some (.int .i64 c.n) ∧ y.cell? ⟨w.heap.size, 1, none⟩ = some (.int .i64 c.s0) ∧ y.cell? ⟨w.heap.size, 2, none⟩ = some (.int .i64 c.s1) ∧ y.cell? ⟨w.heap.size, 3, none⟩ = some (.slice a0 p0 k0) ∧ y.cell? ⟨w.heap.size, 4, none⟩ = some (.slice a1 p1 k1)) := hid (fun y hb => K1.out.five hb)
              clear d0 d1 d2 d3 d4
              refine wp_loop_rounds 3 ?_
              rw [rounds_succ]
              go_wp2
              go_region_held3 (fun y => Below w1.heap.size w1 y ∧ y.cell? ⟨w.heap.size, 0, none⟩ = some (.int .i64 c.n) ∧ y.cell? ⟨w.heap.size, 1, none⟩ = some (.int .i64 c.s0) ∧ y.cell? ⟨w.heap.size, 2, none⟩ = some (.int .i64 c.s1) ∧ y.cell? ⟨w.heap.size, 3, none⟩ = some (.slice a0 p0 k0) ∧ y.cell? ⟨w.heap.size, 4, none⟩ = some (.slice a1 p1 k1))
                (first | assumption | exact keep_drew KS | exact keep_step (by assumption) (by assumption) KS)
                (first
                  | (go_at_call 58; refine (reck_m _ _ _ _ _ _ true _ (HW.out.1.below (bt (bt K0.out.1 B1.out) (And.left (by assumption)))) K4.out HN.out.1 O2.out E0).mono ?_; rintro e w2 ⟨rfl, hb2⟩))
              have K2 := hid (K1.out.step (undrew hb2))
              obtain ⟨d0, d1, d2, d3, d4⟩ := box_five K2.out.2.2
              go_wp2
              rw [rounds_succ]
              go_wp2
              have KS2 : Hid (∀ y, Below w2.heap.size w2 y → Below w2.heap.size w2 y ∧ y.cell? ⟨w.heap.size, 0, none⟩ = some (.int .i64 c.n) ∧ y.cell? ⟨w.heap.size, 1, none⟩ = some (.int .i64 c.s0) ∧ y.cell? ⟨w.heap.size, 2, none⟩ = some (.int .i64 c.s1) ∧ y.cell? ⟨w.heap.size, 3, none⟩ = some (.slice a0 p0 k0) ∧ y.cell? ⟨w.heap.size, 4, none⟩ = some (.slice a1 p1 k1)) := hid (fun y hb => K2.out.five hb)
              refine wp_region_noPanic ?_
              refine wp_region_held_drew (S := fun y => Below w2.heap.size w2 y ∧ y.cell? ⟨w.heap.size, 0, none⟩ = some (.int .i64 c.n) ∧ y.cell? ⟨w.heap.size, 1, none⟩ = some (.int .i64 c.s0) ∧ y.cell? ⟨w.heap.size, 2, none⟩ = some (.int .i64 c.s1) ∧ y.cell? ⟨w.heap.size, 3, none⟩ = some (.slice a0 p0 k0) ∧ y.cell? ⟨w.heap.size, 4, none⟩ = some (.slice a1 p1 k1)) (by kernel_rfl) (keep_drew KS2) (fun hHeld => ?_)
              refine tk 0 (v := ?_) ?_ ?_
              rotate_left
              · intro w hSw; (try dsimp only at hSw); go_simp; (try with_reducible rfl)
              try simp only [Act.put, List.setIfInBounds_toArray, List.set_cons_zero, List.set_cons_succ]
              refine tk 1 (v := ?_) ?_ ?_
              rotate_left
              · intro w hSw; (try dsimp only at hSw); go_simp; (try with_reducible rfl)
              try simp only [Act.put, List.setIfInBounds_toArray, List.set_cons_zero, List.set_cons_succ]
              refine tk 2 (v := ?_) ?_ ?_
              rotate_left
              · intro w hSw; (try dsimp only at hSw); go_simp; (try with_reducible rfl)
              try simp only [Act.put, List.setIfInBounds_toArray, List.set_cons_zero, List.set_cons_succ]
              refine tk 3 (v := ?_) ?_ ?_
              rotate_left
              · intro w hSw; (try dsimp only at hSw); go_simp; (try with_reducible rfl)
              try simp only [Act.put, List.setIfInBounds_toArray, List.set_cons_zero, List.set_cons_succ]
              refine tks 4 ?_
              try simp only [Act.put, List.setIfInBounds_toArray, List.set_cons_zero, List.set_cons_succ]
              refine tks 5 ?_
              try simp only [Act.put, List.setIfInBounds_toArray, List.set_cons_zero, List.set_cons_succ]
              refine tks 6 ?_
              try simp only [Act.put, List.setIfInBounds_toArray, List.set_cons_zero, List.set_cons_succ]
              refine tks 7 ?_
              try simp only [Act.put, List.setIfInBounds_toArray, List.set_cons_zero, List.set_cons_succ]
              refine tks 8 ?_
              try simp only [Act.put, List.setIfInBounds_toArray, List.set_cons_zero, List.set_cons_succ]
              refine tks 9 ?_
              try simp only [Act.put, List.setIfInBounds_toArray, List.set_cons_zero, List.set_cons_succ]
              refine tks 10 ?_
              try simp only [Act.put, List.setIfInBounds_toArray, List.set_cons_zero, List.set_cons_succ]
              refine tks 11 ?_
              try simp only [Act.put, List.setIfInBounds_toArray, List.set_cons_zero, List.set_cons_succ]
              refine tks 12 ?_
              try simp only [Act.put, List.setIfInBounds_toArray, List.set_cons_zero, List.set_cons_succ]
              refine tk 13 (v := ?_) ?_ ?_
              rotate_left
              · intro w hSw; (try dsimp only at hSw); go_simp; (try with_reducible rfl)
              try simp only [Act.put, List.setIfInBounds_toArray, List.set_cons_zero, List.set_cons_succ]
              refine wpAnyH_done (by kernel_rfl) ?_ _
              refine NoPanic.normal ?_
              have K3 := hid (K2.out.step (Below.refl _ _).drew)
              obtain ⟨d0', d1', d2', d3', d4'⟩ := box_five K3.out.2.2
              go_wp2
              try rw [rounds_succ]
              try go_wp2
              go_ret
              exact ⟨rfl, K3.out.1⟩
            · have hpd : decide ((0 : Int) < (p1 : Int)) = true := decide_eq_true (by omega)
              have hpe : decide (0 < p1) = true := decide_eq_true (by omega)
              rw [decide_eq_true hs, decide_eq_false hp]
              clear hs hp
              go_enter Try.func19, Try.ntmps19
              go_upto_region 4 with (go_at_call 54; refine (meas_m _ true _ HM).mono ?_; rintro e w1 ⟨rfl, hb1⟩; have B1 := hid hb1; clear hb1; obtain ⟨_, d0, d1, d2, d3, d4⟩ := K0.out.five B1.out)
              have K1 := hid (K0.out.step B1.out)
              have KS : Hid (∀ y, Below w1.heap.size w1 y → Below w1.heap.size w1 y ∧ y.cell? ⟨w.heap.size, 0, none⟩ = some (.int .i64 c.n) ∧ y.cell? ⟨w.heap.size, 1, none⟩ = some (.int .i64 c.s0) ∧ y.cell? ⟨w.heap.size, 2, none⟩ = some (.int .i64 c.s1) ∧ y.cell? ⟨w.heap.size, 3, none⟩ = some (.slice a0 p0 k0) ∧ y.cell? ⟨w.heap.size, 4, none⟩ = some (.slice a1 p1 k1)) := hid (fun y hb => K1.out.five hb)
              clear d0 d1 d2 d3 d4
              refine wp_loop_rounds 3 ?_
              rw [rounds_succ]
              go_wp2
              go_region_held3 (fun y => Below w1.heap.size w1 y ∧ y.cell? ⟨w.heap.size, 0, none⟩ = some (.int .i64 c.n) ∧ y.cell? ⟨w.heap.size, 1, none⟩ = some (.int .i64 c.s0) ∧ y.cell? ⟨w.heap.size, 2, none⟩ = some (.int .i64 c.s1) ∧ y.cell? ⟨w.heap.size, 3, none⟩ = some (.slice a0 p0 k0) ∧ y.cell? ⟨w.heap.size, 4, none⟩ = some (.slice a1 p1 k1))
                (first | assumption | exact keep_drew KS | exact keep_step (by assumption) (by assumption) KS)
                (first
                  | (go_at_call 58; refine (reck_m _ _ _ _ _ _ true _ (HW.out.1.below (bt (bt K0.out.1 B1.out) (And.left (by assumption)))) K4.out HN.out.1 O2.out E0).mono ?_; rintro e w2 ⟨rfl, hb2⟩))
              have K2 := hid (K1.out.step (undrew hb2))
              obtain ⟨d0, d1, d2, d3, d4⟩ := box_five K2.out.2.2
              go_wp2
              rw [rounds_succ]
              go_wp2
              have KS2 : Hid (∀ y, Below w2.heap.size w2 y → Below w2.heap.size w2 y ∧ y.cell? ⟨w.heap.size, 0, none⟩ = some (.int .i64 c.n) ∧ y.cell? ⟨w.heap.size, 1, none⟩ = some (.int .i64 c.s0) ∧ y.cell? ⟨w.heap.size, 2, none⟩ = some (.int .i64 c.s1) ∧ y.cell? ⟨w.heap.size, 3, none⟩ = some (.slice a0 p0 k0) ∧ y.cell? ⟨w.heap.size, 4, none⟩ = some (.slice a1 p1 k1)) := hid (fun y hb => K2.out.five hb)
              refine wp_region_noPanic ?_
              refine wp_region_held_drew (S := fun y => Below w2.heap.size w2 y ∧ y.cell? ⟨w.heap.size, 0, none⟩ = some (.int .i64 c.n) ∧ y.cell? ⟨w.heap.size, 1, none⟩ = some (.int .i64 c.s0) ∧ y.cell? ⟨w.heap.size, 2, none⟩ = some (.int .i64 c.s1) ∧ y.cell? ⟨w.heap.size, 3, none⟩ = some (.slice a0 p0 k0) ∧ y.cell? ⟨w.heap.size, 4, none⟩ = some (.slice a1 p1 k1)) (by kernel_rfl) (keep_drew KS2) (fun hHeld => ?_)
              refine tk 0 (v := ?_) ?_ ?_
              rotate_left
              · intro w hSw; (try dsimp only at hSw); go_simp; (try with_reducible rfl)
              try simp only [Act.put, List.setIfInBounds_toArray, List.set_cons_zero, List.set_cons_succ]
              refine tk 1 (v := ?_) ?_ ?_
              rotate_left
              · intro w hSw; (try dsimp only at hSw); go_simp; (try with_reducible rfl)
              try simp only [Act.put, List.setIfInBounds_toArray, List.set_cons_zero, List.set_cons_succ]
              refine tk 2 (v := ?_) ?_ ?_
              rotate_left
              · intro w hSw; (try dsimp only at hSw); go_simp; (try with_reducible rfl)
              try simp only [Act.put, List.setIfInBounds_toArray, List.set_cons_zero, List.set_cons_succ]
              refine tk 3 (v := ?_) ?_ ?_
              rotate_left
              · intro w hSw; (try dsimp only at hSw); go_simp; (try with_reducible rfl)
              try simp only [Act.put, List.setIfInBounds_toArray, List.set_cons_zero, List.set_cons_succ]
              refine tks 4 ?_
              try simp only [Act.put, List.setIfInBounds_toArray, List.set_cons_zero, List.set_cons_succ]
              refine tks 5 ?_
              try simp only [Act.put, List.setIfInBounds_toArray, List.set_cons_zero, List.set_cons_succ]
              refine tks 6 ?_
              try simp only [Act.put, List.setIfInBounds_toArray, List.set_cons_zero, List.set_cons_succ]
              refine tks 7 ?_
              try simp only [Act.put, List.setIfInBounds_toArray, List.set_cons_zero, List.set_cons_succ]
              refine tks 8 ?_
              try simp only [Act.put, List.setIfInBounds_toArray, List.set_cons_zero, List.set_cons_succ]
              refine tks 9 ?_
              try simp only [Act.put, List.setIfInBounds_toArray, List.set_cons_zero, List.set_cons_succ]
              refine tks 10 ?_
              try simp only [Act.put, List.setIfInBounds_toArray, List.set_cons_zero, List.set_cons_succ]
              refine tks 11 ?_
              try simp only [Act.put, List.setIfInBounds_toArray, List.set_cons_zero, List.set_cons_succ]
              refine tks 12 ?_
              try simp only [Act.put, List.setIfInBounds_toArray, List.set_cons_zero, List.set_cons_succ]
              refine tk 13 (v := ?_) ?_ ?_
              rotate_left
              · intro w hSw; (try dsimp only at hSw); go_simp; (try with_reducible rfl)
              try simp only [Act.put, List.setIfInBounds_toArray, List.set_cons_zero, List.set_cons_succ]
              refine wpAnyH_done (by kernel_rfl) ?_ _
              refine NoPanic.normal ?_
              have K3 := hid (K2.out.step (Below.refl _ _).drew)
              obtain ⟨d0', d1', d2', d3', d4'⟩ := box_five K3.out.2.2
              go_wp2
              try rw [rounds_succ]
              try go_wp2
              go_ret
              exact ⟨rfl, K3.out.1⟩
          · have hsd : (c.s1 != 0) = true := by simp [hs]
            rw [decide_eq_false hs]
            clear hs
            go_enter Try.func19, Try.ntmps19
            go_upto_region 4 with (go_at_call 54; refine (meas_m _ true _ HM).mono ?_; rintro e w1 ⟨rfl, hb1⟩; have B1 := hid hb1; clear hb1; obtain ⟨_, d0, d1, d2, d3, d4⟩ := K0.out.five B1.out)
            have K1 := hid (K0.out.step B1.out)
            have KS : Hid (∀ y, Below w1.heap.size w1 y → Below w1.heap.size w1 y ∧ y.cell? ⟨w.heap.size, 0, none⟩ = some (.int .i64 c.n) ∧ y.cell? ⟨w.heap.size, 1, none⟩ = some (.int .i64 c.s0) ∧ y.cell? ⟨w.heap.size, 2, none⟩ = some (.int .i64 c.s1) ∧ y.cell? ⟨w.heap.size, 3, none⟩ = some (.slice a0 p0 k0) ∧ y.cell? ⟨w.heap.size, 4, none⟩ = some (.slice a1 p1 k1)) := hid (fun y hb => K1.out.five hb)
            clear d0 d1 d2 d3 d4
            refine wp_loop_rounds 3 ?_
            rw [rounds_succ]
            go_wp2
            go_region_held3 (fun y => Below w1.heap.size w1 y ∧ y.cell? ⟨w.heap.size, 0, none⟩ = some (.int .i64 c.n) ∧ y.cell? ⟨w.heap.size, 1, none⟩ = some (.int .i64 c.s0) ∧ y.cell? ⟨w.heap.size, 2, none⟩ = some (.int .i64 c.s1) ∧ y.cell? ⟨w.heap.size, 3, none⟩ = some (.slice a0 p0 k0) ∧ y.cell? ⟨w.heap.size, 4, none⟩ = some (.slice a1 p1 k1))
              (first | assumption | exact keep_drew KS | exact keep_step (by assumption) (by assumption) KS)
              (first
                | (go_at_call 58; refine (reck_m _ _ _ _ _ _ true _ (HW.out.1.below (bt (bt K0.out.1 B1.out) (And.left (by assumption)))) K4.out HN.out.1 O2.out E0).mono ?_; rintro e w2 ⟨rfl, hb2⟩))
            have K2 := hid (K1.out.step (undrew hb2))
            obtain ⟨d0, d1, d2, d3, d4⟩ := box_five K2.out.2.2
            go_wp2
            rw [rounds_succ]
            go_wp2
            have KS2 : Hid (∀ y, Below w2.heap.size w2 y → Below w2.heap.size w2 y ∧ y.cell? ⟨w.heap.size, 0, none⟩ = some (.int .i64 c.n) ∧ y.cell? ⟨w.heap.size, 1, none⟩ = some (.int .i64 c.s0) ∧ y.cell? ⟨w.heap.size, 2, none⟩ = some (.int .i64 c.s1) ∧ y.cell? ⟨w.heap.size, 3, none⟩ = some (.slice a0 p0 k0) ∧ y.cell? ⟨w.heap.size, 4, none⟩ = some (.slice a1 p1 k1)) := hid (fun y hb => K2.out.five hb)
            refine wp_region_noPanic ?_
            refine wp_region_held_drew (S := fun y => Below w2.heap.size w2 y ∧ y.cell? ⟨w.heap.size, 0, none⟩ = some (.int .i64 c.n) ∧ y.cell? ⟨w.heap.size, 1, none⟩ = some (.int .i64 c.s0) ∧ y.cell? ⟨w.heap.size, 2, none⟩ = some (.int .i64 c.s1) ∧ y.cell? ⟨w.heap.size, 3, none⟩ = some (.slice a0 p0 k0) ∧ y.cell? ⟨w.heap.size, 4, none⟩ = some (.slice a1 p1 k1)) (by kernel_rfl) (keep_drew KS2) (fun hHeld => ?_)
            refine tk 0 (v := ?_) ?_ ?_
            rotate_left
            · intro w hSw; (try dsimp only at hSw); go_simp; (try with_reducible rfl)
            try simp only [Act.put, List.setIfInBounds_toArray, List.set_cons_zero, List.set_cons_succ]
            refine tk 1 (v := ?_) ?_ ?_
            rotate_left
            · intro w hSw; (try dsimp only at hSw); go_simp; (try with_reducible rfl)
            try simp only [Act.put, List.setIfInBounds_toArray, List.set_cons_zero, List.set_cons_succ]
            refine tk 2 (v := ?_) ?_ ?_
            rotate_left
            · intro w hSw; (try dsimp only at hSw); go_simp; (try with_reducible rfl)
            try simp only [Act.put, List.setIfInBounds_toArray, List.set_cons_zero, List.set_cons_succ]
            refine tk 3 (v := ?_) ?_ ?_
            rotate_left
            · intro w hSw; (try dsimp only at hSw); go_simp; (try with_reducible rfl)
            try simp only [Act.put, List.setIfInBounds_toArray, List.set_cons_zero, List.set_cons_succ]
            refine tks 4 ?_
            try simp only [Act.put, List.setIfInBounds_toArray, List.set_cons_zero, List.set_cons_succ]
            refine tks 5 ?_
            try simp only [Act.put, List.setIfInBounds_toArray, List.set_cons_zero, List.set_cons_succ]
            refine tks 6 ?_
            try simp only [Act.put, List.setIfInBounds_toArray, List.set_cons_zero, List.set_cons_succ]
            refine tks 7 ?_
            try simp only [Act.put, List.setIfInBounds_toArray, List.set_cons_zero, List.set_cons_succ]
            refine tks 8 ?_
            try simp only [Act.put, List.setIfInBounds_toArray, List.set_cons_zero, List.set_cons_succ]
            refine tks 9 ?_
            try simp only [Act.put, List.setIfInBounds_toArray, List.set_cons_zero, List.set_cons_succ]
            refine tks 10 ?_
            try simp only [Act.put, List.setIfInBounds_toArray, List.set_cons_zero, List.set_cons_succ]
            refine tks 11 ?_
            try simp only [Act.put, List.setIfInBounds_toArray, List.set_cons_zero, List.set_cons_succ]
            refine tks 12 ?_
            try simp only [Act.put, List.setIfInBounds_toArray, List.set_cons_zero, List.set_cons_succ]
            refine tk 13 (v := ?_) ?_ ?_
            rotate_left
            · intro w hSw; (try dsimp only at hSw); go_simp; (try with_reducible rfl)
            try simp only [Act.put, List.setIfInBounds_toArray, List.set_cons_zero, List.set_cons_succ]
            refine wpAnyH_done (by kernel_rfl) ?_ _
            refine NoPanic.normal ?_
            have K3 := hid (K2.out.step (Below.refl _ _).drew)
            obtain ⟨d0', d1', d2', d3', d4'⟩ := box_five K3.out.2.2
            go_wp2
            try rw [rounds_succ]
            try go_wp2
            go_ret
            exact ⟨rfl, K3.out.1⟩
        · rw [cg_two HN.out e0]
          clear e0
          obtain ⟨r1, e1⟩ : ∃ x, rk c.n c.s1 c.b1 = x := ⟨_, rfl⟩
          have E1 := hid e1
          rw [e1]
          clear e1
          cases r1 with
          | false =>
            go_enter Try.func19, Try.ntmps19
            go_upto_region 4 with (go_at_call 54; refine (meas_m _ true _ HM).mono ?_; rintro e w1 ⟨rfl, hb1⟩; have B1 := hid hb1; clear hb1; obtain ⟨_, d0, d1, d2, d3, d4⟩ := K0.out.five B1.out)
            have K1 := hid (K0.out.step B1.out)
            have KS : Hid (∀ y, Below w1.heap.size w1 y → Below w1.heap.size w1 y ∧ y.cell? ⟨w.heap.size, 0, none⟩ = some (.int .i64 c.n) ∧ y.cell? ⟨w.heap.size, 1, none⟩ = some (.int .i64 c.s0) ∧ y.cell? ⟨w.heap.size, 2, none⟩ = some (.int .i64 c.s1) ∧ y.cell? ⟨w.heap.size, 3, none⟩ = some (.slice a0 p0 k0) ∧ y.cell? ⟨w.heap.size, 4, none⟩ = some (.slice a1 p1 k1)) := hid (fun y hb => K1.out.five hb)
            clear d0 d1 d2 d3 d4
            refine wp_loop_rounds 3 ?_
            rw [rounds_succ]
            go_wp2
            go_region_held3 (fun y => Below w1.heap.size w1 y ∧ y.cell? ⟨w.heap.size, 0, none⟩ = some (.int .i64 c.n) ∧ y.cell? ⟨w.heap.size, 1, none⟩ = some (.int .i64 c.s0) ∧ y.cell? ⟨w.heap.size, 2, none⟩ = some (.int .i64 c.s1) ∧ y.cell? ⟨w.heap.size, 3, none⟩ = some (.slice a0 p0 k0) ∧ y.cell? ⟨w.heap.size, 4, none⟩ = some (.slice a1 p1 k1))
              (first | assumption | exact keep_drew KS | exact keep_step (by assumption) (by assumption) KS)
              (first
                | (go_at_call 58; refine (reck_m _ _ _ _ _ _ true _ (HW.out.1.below (bt (bt K0.out.1 B1.out) (And.left (by assumption)))) K4.out HN.out.1 O2.out E0).mono ?_; rintro e w2 ⟨rfl, hb2⟩))
            have K2 := hid (K1.out.step (undrew hb2))
            obtain ⟨d0, d1, d2, d3, d4⟩ := box_five K2.out.2.2
            go_wp2
            rw [rounds_succ]
            have KS2 : Hid (∀ y, Below w2.heap.size w2 y → Below w2.heap.size w2 y ∧ y.cell? ⟨w.heap.size, 0, none⟩ = some (.int .i64 c.n) ∧ y.cell? ⟨w.heap.size, 1, none⟩ = some (.int .i64 c.s0) ∧ y.cell? ⟨w.heap.size, 2, none⟩ = some (.int .i64 c.s1) ∧ y.cell? ⟨w.heap.size, 3, none⟩ = some (.slice a0 p0 k0) ∧ y.cell? ⟨w.heap.size, 4, none⟩ = some (.slice a1 p1 k1)) := hid (fun y hb => K2.out.five hb)
            clear d0 d1 d2 d3 d4
            go_wp2
            go_region_held3 (fun y => Below w2.heap.size w2 y ∧ y.cell? ⟨w.heap.size, 0, none⟩ = some (.int .i64 c.n) ∧ y.cell? ⟨w.heap.size, 1, none⟩ = some (.int .i64 c.s0) ∧ y.cell? ⟨w.heap.size, 2, none⟩ = some (.int .i64 c.s1) ∧ y.cell? ⟨w.heap.size, 3, none⟩ = some (.slice a0 p0 k0) ∧ y.cell? ⟨w.heap.size, 4, none⟩ = some (.slice a1 p1 k1))
              (first | assumption | exact keep_drew KS2 | exact keep_step (by assumption) (by assumption) KS2)
              (first
                | (go_at_call 58; refine (reck_m _ _ _ _ _ _ _ _ (HW.out.2.below (bt K2.out.1 (And.left (by assumption)))) K5.out HN.out.1 O3.out E1).mono ?_; rintro e w3 ⟨rfl, hb3⟩))
            have K3 := hid (K2.out.step (undrew hb3))
            obtain ⟨d0, d1, d2, d3, d4⟩ := box_five K3.out.2.2
            go_wp2
            try rw [rounds_succ]
            try go_wp2
            go_ret
            exact ⟨rfl, K3.out.1⟩
          | true =>
            go_enter Try.func19, Try.ntmps19
            go_upto_region 4 with (go_at_call 54; refine (meas_m _ true _ HM).mono ?_; rintro e w1 ⟨rfl, hb1⟩; have B1 := hid hb1; clear hb1; obtain ⟨_, d0, d1, d2, d3, d4⟩ := K0.out.five B1.out)
            have K1 := hid (K0.out.step B1.out)
            have KS : Hid (∀ y, Below w1.heap.size w1 y → Below w1.heap.size w1 y ∧ y.cell? ⟨w.heap.size, 0, none⟩ = some (.int .i64 c.n) ∧ y.cell? ⟨w.heap.size, 1, none⟩ = some (.int .i64 c.s0) ∧ y.cell? ⟨w.heap.size, 2, none⟩ = some (.int .i64 c.s1) ∧ y.cell? ⟨w.heap.size, 3, none⟩ = some (.slice a0 p0 k0) ∧ y.cell? ⟨w.heap.size, 4, none⟩ = some (.slice a1 p1 k1)) := hid (fun y hb => K1.out.five hb)
            clear d0 d1 d2 d3 d4
            refine wp_loop_rounds 3 ?_
            rw [rounds_succ]
            go_wp2
            go_region_held3 (fun y => Below w1.heap.size w1 y ∧ y.cell? ⟨w.heap.size, 0, none⟩ = some (.int .i64 c.n) ∧ y.cell? ⟨w.heap.size, 1, none⟩ = some (.int .i64 c.s0) ∧ y.cell? ⟨w.heap.size, 2, none⟩ = some (.int .i64 c.s1) ∧ y.cell? ⟨w.heap.size, 3, none⟩ = some (.slice a0 p0 k0) ∧ y.cell? ⟨w.heap.size, 4, none⟩ = some (.slice a1 p1 k1))
              (first | assumption | exact keep_drew KS | exact keep_step (by assumption) (by assumption) KS)
              (first
                | (go_at_call 58; refine (reck_m _ _ _ _ _ _ true _ (HW.out.1.below (bt (bt K0.out.1 B1.out) (And.left (by assumption)))) K4.out HN.out.1 O2.out E0).mono ?_; rintro e w2 ⟨rfl, hb2⟩))
            have K2 := hid (K1.out.step (undrew hb2))
            obtain ⟨d0, d1, d2, d3, d4⟩ := box_five K2.out.2.2
            go_wp2
            rw [rounds_succ]
            have KS2 : Hid (∀ y, Below w2.heap.size w2 y → Below w2.heap.size w2 y ∧ y.cell? ⟨w.heap.size, 0, none⟩ = some (.int .i64 c.n) ∧ y.cell? ⟨w.heap.size, 1, none⟩ = some (.int .i64 c.s0) ∧ y.cell? ⟨w.heap.size, 2, none⟩ = some (.int .i64 c.s1) ∧ y.cell? ⟨w.heap.size, 3, none⟩ = some (.slice a0 p0 k0) ∧ y.cell? ⟨w.heap.size, 4, none⟩ = some (.slice a1 p1 k1)) := hid (fun y hb => K2.out.five hb)
            clear d0 d1 d2 d3 d4
            go_wp2
            go_region_held3 (fun y => Below w2.heap.size w2 y ∧ y.cell? ⟨w.heap.size, 0, none⟩ = some (.int .i64 c.n) ∧ y.cell? ⟨w.heap.size, 1, none⟩ = some (.int .i64 c.s0) ∧ y.cell? ⟨w.heap.size, 2, none⟩ = some (.int .i64 c.s1) ∧ y.cell? ⟨w.heap.size, 3, none⟩ = some (.slice a0 p0 k0) ∧ y.cell? ⟨w.heap.size, 4, none⟩ = some (.slice a1 p1 k1))
              (first | assumption | exact keep_drew KS2 | exact keep_step (by assumption) (by assumption) KS2)
              (first
                | (go_at_call 58; refine (reck_m _ _ _ _ _ _ _ _ (HW.out.2.below (bt K2.out.1 (And.left (by assumption)))) K5.out HN.out.1 O3.out E1).mono ?_; rintro e w3 ⟨rfl, hb3⟩))
            have K3 := hid (K2.out.step (undrew hb3))
            obtain ⟨d0, d1, d2, d3, d4⟩ := box_five K3.out.2.2
            go_wp2
            try rw [rounds_succ]
            try go_wp2
            go_ret
            exact ⟨rfl, K3.out.1⟩
    · have HM2 := HM
      rw [cg_n0 hn]
      by_cases h1 : c.n < 1
      · have hn1 : decide (c.n < 1) = true := decide_eq_true h1
        have K0 := hid (kp_new w (.cells #[.int .i64 c.n, .int .i64 c.s0, .int .i64 c.s1, .slice a0 p0 k0, .slice a1 p1 k1] 26))
        go_enter Try.func19, Try.ntmps19
        go_wp2_with (go_at_call 54; refine (meas_m _ true _ HM).mono ?_; rintro e w1 ⟨rfl, hb1⟩; have B1 := hid hb1; clear hb1; obtain ⟨_, d0, d1, d2, d3, d4⟩ := K0.out.five B1.out)
        go_ret
        exact ⟨rfl, bt K0.out.1 B1.out⟩
      · have hn1 : decide (c.n < 1) = false := decide_eq_false h1
        have hn2 : decide (1099511627776 < c.n) = true := decide_eq_true (by omega)
        have K0 := hid (kp_new w (.cells #[.int .i64 c.n, .int .i64 c.s0, .int .i64 c.s1, .slice a0 p0 k0, .slice a1 p1 k1] 26))
        go_enter Try.func19, Try.ntmps19
        go_wp2_with (go_at_call 54; refine (meas_m _ true _ HM).mono ?_; rintro e w1 ⟨rfl, hb1⟩; have B1 := hid hb1; clear hb1; obtain ⟨_, d0, d1, d2, d3, d4⟩ := K0.out.five B1.out)
        go_ret
        exact ⟨rfl, bt K0.out.1 B1.out⟩
  · rw [cg_not c hm]
    have HM : Hid ((decide (m = 1) || decide (m = 2)) = false) := hid (by simp only [Bool.or_eq_false_iff, decide_eq_false_iff_not]; omega)
    have K0 := hid (kp_new w (.cells #[.int .i64 c.n, .int .i64 c.s0, .int .i64 c.s1, .slice a0 p0 k0, .slice a1 p1 k1] 26))
    go_enter Try.func19, Try.ntmps19
    go_wp2_with (go_at_call 54; refine (meas_m _ false _ HM).mono ?_; rintro e w1 ⟨rfl, hb1⟩; have B1 := hid hb1; clear hb1; obtain ⟨_, d0, d1, d2, d3, d4⟩ := K0.out.five B1.out)
    go_ret
    exact ⟨rfl, bt K0.out.1 B1.out⟩

end Go.Proofs.Ytjkkajhjcinalaa

namespace Go.Proofs.Ytjkkajhjcinalaa
open Go.ChangeShapes Go.WideShapes Go.ChangeAt Go.RowKit
set_option linter.unusedVariables false
set_option linter.unusedSimpArgs false
set_option maxRecDepth 100000

/-- It lies, if anywhere, in a block that was not there. -/
def Far (w : World) (a : Option Addr) : Prop := ∀ b off, a = some ⟨b, off, none⟩ → w.heap.size ≤ b
theorem far_nil (w : World) : Far w none := fun b off e => by cases e
theorem own_far {w wr : World} {base k cap : Nat} {v : Value} {l : List Rn} {a : Option Addr} (h : OwnN wr base v l) (e : v = .slice a k cap) (hb : w.heap.size ≤ base) : Far w a := by
  intro b off ea
  subst ea
  subst e
  rcases h.2 with ⟨h', _⟩ | ⟨g, cap', cur, h', _⟩
  · cases h'
  · cases h'
    exact Nat.le_trans hb (h.lt _ rfl).1
set_option maxHeartbeats 16000000 in
theorem of_own (a : Option Addr) (n c : Nat) (l : List Int) (w : World) (hl : IRow .i64 w a n c l) (hn : n ≤ 1000) :
    Calls Try.prog 56 #[.slice a n c] w fun e w' => (∃ A cap, e = .returned (.slice A (bagOf l).length cap) ∧ NRun w' A (bagOf l).length cap (bagOf l) ∧ Far w A) ∧ Below w.heap.size w w' := by
  have HL := hid hl
  obtain ⟨l1, l2⟩ := hl.len
  have EL := hid l1
  have hs0 : Hid (∀ W, Calls Try.prog 94 #[.slice none 0 0] W fun e w' => e = .returned (.tuple #[]) ∧ w' = W) := hid fun W => AnyM.slices_Sort_int_none sortI none 0 W
  cases a with
  | none =>
    obtain ⟨r1, r2, r3, r4, r5⟩ := hl
    obtain rfl : c = 0 := r4 rfl
    obtain rfl : n = 0 := by omega
    have hy : l = [] := List.length_eq_zero_iff.mp r1.symm
    subst hy
    clear r1 r2 r3 r4 r5 l1 l2 HL EL
    go_enter Try.func56, Try.ntmps56
    go_upto_region 3 with (first
      | (go_at_call 93; refine (clone_none _).mono ?_; rintro e w1 ⟨rfl, hw⟩; have hw2 := hw.symm; clear hw; subst hw2)
      | (go_at_call 94; refine (hs0.out _).mono ?_; rintro e w2 ⟨rfl, hw⟩; have hw2 := hw.symm; clear hw; subst hw2))
    go_wp2
    refine wp_loop_rounds 1 ?_
    rw [rounds_succ]
    go_wp2
    go_ret
    exact ⟨⟨none, 0, rfl, nrun_nil _, far_nil _⟩, Below.refl _ _⟩
  | some ad =>
    clear hl l1
    go_enter Try.func56, Try.ntmps56
    go_upto_region 3 with (first
      | (go_at_call 93; refine (clone_some ad n c l _ HL.out (by omega)).mono ?_; rintro e w1 ⟨⟨g1, cap1, rfl, ho1⟩, hb1⟩; have O1 := hid ho1; have B1 := hid hb1; clear ho1 hb1)
      | (go_at_call 94; refine (sort_any w.heap.size g1 n cap1 l _ O1.out (by omega)).mono ?_; rintro e w2 ⟨rfl, hr2, hg2⟩; have R2 := hid hr2; have B2 := hid (B1.out.grown hg2 B1.out.size (fun k hk => by cases hk; exact (O1.out.lt g1 rfl).1)); clear hr2 hg2))
    clear O1 B1 hs0 HL
    go_wp2
    go_loopw [3, 12] (fun o i wr => ∃ (k : Nat) (u : Value) (out : List Rn), k ≤ n ∧ i = .int .i64 k ∧ u = o ∧ Hid (out = bagOf ((srtI l).take k)) ∧ Hid (OwnW w2 wr u out)) (fun _ i _ => n - (intOf i).toNat)
    case atStart => exact ⟨0, _, [], by omega, rfl, rfl, hid rfl, hid ⟨Below.refl _ _, own_nil _ _⟩⟩
    case round =>
      obtain ⟨k, u, out, hkn, rfl, rfl, HO, OW⟩ := hrel
      have hk0 : (0 : Int) ≤ (k : Int) := by omega
      by_cases hlt : k < n
      · have hki : (k : Int) < (n : Int) := by omega
        obtain ⟨b, off, x, eb, hb, hr, p0⟩ := R2.out.pick OW.out.1 hlt
        cases eb
        simp only [Nat.zero_add] at p0
        have HR := hid hr
        have HST : Hid (lay x 1 out = bagOf ((srtI l).take (k + 1))) := hid (by rw [HO.out, bagOf_step HR.out])
        have HSrt : Hid (Srt out) := hid (by rw [HO.out]; exact bagOf_srt _)
        have HPos : Hid (Pos out) := hid (by rw [HO.out]; exact bagOf_pos _)
        have HLen : Hid (out.length ≤ k) := hid (by rw [HO.out]; have := bagOf_len ((srtI l).take k); rw [List.length_take] at this; omega)
        have HLe : Hid (∀ r ∈ out, r.1 ≤ x) := hid (fun r hr' => by
          rw [HO.out] at hr'
          have hm := bagOf_mem hr'
          obtain ⟨i, hi⟩ := List.mem_iff_getElem?.1 hm
          rw [List.getElem?_take] at hi
          by_cases hik : i < k
          · rw [if_pos hik] at hi
            obtain ⟨h1, e1⟩ := List.getElem?_eq_some_iff.1 hi
            obtain ⟨h2, e2⟩ := List.getElem?_eq_some_iff.1 HR.out
            have := List.pairwise_iff_getElem.mp (srtI_rise l) i k h1 h2 hik
            rw [e1, e2] at this
            exact this
          · rw [if_neg hik] at hi; cases hi)
        have HBd : Hid (∀ r ∈ out, r.2 ≤ k) := hid (fun r hr' => by
          have h2 := cn_srt_eq HSrt.out hr'
          have h3 := cn_le (v := r.1) HPos.out
          have h4 : tot out = (((srtI l).take k).length : Int) := by rw [HO.out, bagOf_tot]
          rw [List.length_take] at h4
          omega)
        clear hr
        by_cases hq : ∃ y, out[out.length - 1]? = some (x, y)
        · obtain ⟨y, hy⟩ := hq
          obtain ⟨l0, el⟩ := split_last hy
          have hyb := HBd.out (x, y) (by rw [el]; simp)
          have hyp := HPos.out (x, y) (by rw [el]; simp)
          simp only at hyb hyp
          have OW2 : Hid (OwnW w2 wr u (l0 ++ [(x, y)])) := hid (by rw [← el]; exact OW.out)
          have hlen0 : l0.length ≤ k := by have := HLen.out; rw [el, List.length_append] at this; omega
          have HST2 : Hid (l0 ++ [(x, y + 1)] = bagOf ((srtI l).take (k + 1))) := hid (by rw [← HST.out, el, lay_last (by rw [← el]; exact HSrt.out) (by omega)])
          clear hy el
          go_wp2_with (go_at_call 95; refine (laid_more w2.heap.size u l0 x y 1 _ OW2.out.2 OW2.out.1.size (by omega) (by omega) (by omega)).mono ?_; rintro e w3 ⟨⟨rfl, ho3⟩, hg3⟩; have O3 := hid (OwnW.grown OW2.out hg3 ho3); clear ho3 hg3)
          go_roundw
          case rel => exact ⟨k + 1, u, _, by omega, by go_num, rfl, HST2, O3⟩
          case measure => simp [intOf]; omega
        · have HNE : Hid (∀ p q, out[out.length - 1]? = some (p, q) → ¬ p = x) := hid (fun p q h e => hq ⟨q, by rw [← e]; exact h⟩)
          have HST2 : Hid (out ++ [(x, 1)] = bagOf ((srtI l).take (k + 1))) := hid (by rw [← HST.out, lay_low (below_x HSrt.out HLe.out HNE.out)])
          clear hq
          go_wp2_with (go_at_call 95; refine (laid_new w2.heap.size u out x 1 _ OW.out.2 OW.out.1.size (by have := HLen.out; omega) HNE.out).mono ?_; rintro e w3 ⟨⟨u3, rfl, ho3⟩, hg3⟩; have O3 := hid (OwnW.grown OW.out hg3 ho3); clear ho3 hg3)
          go_roundw
          case rel => exact ⟨k + 1, u3, _, by omega, by go_num, rfl, HST2, O3⟩
          case measure => simp [intOf]; omega
      · have hkf : decide ((k : Int) < (n : Int)) = false := decide_eq_false (by omega)
        have HE : Hid (out = bagOf l) := hid (by rw [HO.out, List.take_of_length_le (by rw [srtI_len]; have := EL.out; omega), bagOf_perm (srtI_perm l)])
        obtain ⟨A, cap, e, hr⟩ := own_any OW.out.2
        have HF := hid (own_far OW.out.2 e B2.out.size)
        subst e
        have HR := hid hr
        clear hr
        go_wp2
        go_ret
        rw [← HE.out]
        exact ⟨⟨A, cap, rfl, HR.out, HF.out⟩, bt B2.out OW.out.1⟩

set_option maxHeartbeats 16000000 in
theorem join_own (a1 a2 : Option Addr) (n c m d : Nat) (l u : List Rn) (w : World) (hl : NRun w a1 n c l) (hu : NRun w a2 m d u) (hk : ∀ r ∈ l, nok r) (hk' : ∀ r ∈ u, nok r) (hn : n ≤ 1000) (hm : m ≤ 1000) :
    Calls Try.prog 66 #[.slice a1 n c, .slice a2 m d] w fun e w' => (∃ A cap, e = .returned (.tuple #[.slice A (Jl l u).length cap, .bool (Jn l u)]) ∧ NRun w' A (Jl l u).length cap (Jl l u) ∧ Far w A) ∧ Below w.heap.size w w' := by
  have HL := hid hl
  have HU := hid hu
  have HK := hid hk
  have HK' := hid hk'
  obtain ⟨l1, l2⟩ := hl.lens
  obtain ⟨u1, u2⟩ := hu.lens
  have EL := hid l1
  have EU := hid u1
  have KN : Hid (Jn l u = false → ∀ W, NRun W none 0 0 (Jl l u) ∧ (Jl l u).length = 0) := hid (fun h W => by rw [jl_no h]; exact ⟨nrun_nil W, rfl⟩)
  clear hl hu hk hk' l1 u1
  have t1 : True := trivial
  have TA : Hid (gd l = true → tl l = tot l) := hid (fun h => tl_yes (gd_iff.1 h))
  have TB : Hid (gd u = true → tl u = tot u) := hid (fun h => tl_yes (gd_iff.1 h))
  obtain ⟨ta, hta⟩ : ∃ x, tl l = x := ⟨_, rfl⟩
  obtain ⟨tb, htb⟩ : ∃ x, tl u = x := ⟨_, rfl⟩
  have HTA := hid hta
  have HTB := hid htb
  clear hta htb
  cases hg : gd l with
  | false =>
    have HG := hid hg
    have HJ := hid (jn_no1 (b := u) hg)
    obtain ⟨g2, hg2⟩ : ∃ x, gd u = x := ⟨_, rfl⟩
    have HG2 := hid hg2
    clear hg hg2
    go_enter Try.func66, Try.ntmps66
    go_wp2_with (first
      | (go_at_call 101; clear t1; refine (tally_m a1 n c l ta false _ HL.out HK.out HTA HG).mono ?_; rintro e w1 ⟨rfl, hb1⟩; have B1 := hid hb1; clear hb1)
      | (go_at_call 101; refine (tally_m a2 m d u tb g2 _ (HU.out.below B1.out) HK'.out HTB HG2).mono ?_; rintro e w2 ⟨rfl, hb2⟩; have B2 := hid (bt B1.out hb2); clear hb2))
    go_ret2
    rw [HJ.out, (KN.out HJ.out w).2]
    exact ⟨⟨none, 0, rfl, (KN.out HJ.out _).1, far_nil _⟩, B2.out⟩
  | true =>
    have HG := hid hg
    have HB := hid (gd_iff.1 hg)
    clear hg
    cases hg' : gd u with
    | false =>
      have HG2 := hid hg'
      have HJ := hid (jn_no2 (a := l) hg')
      clear hg'
      go_enter Try.func66, Try.ntmps66
      go_wp2_with (first
        | (go_at_call 101; clear t1; refine (tally_m a1 n c l ta true _ HL.out HK.out HTA HG).mono ?_; rintro e w1 ⟨rfl, hb1⟩; have B1 := hid hb1; clear hb1)
        | (go_at_call 101; refine (tally_m a2 m d u tb false _ (HU.out.below B1.out) HK'.out HTB HG2).mono ?_; rintro e w2 ⟨rfl, hb2⟩; have B2 := hid (bt B1.out hb2); clear hb2))
      go_ret2
      rw [HJ.out, (KN.out HJ.out w).2]
      exact ⟨⟨none, 0, rfl, (KN.out HJ.out _).1, far_nil _⟩, B2.out⟩
    | true =>
      have HG2 := hid hg'
      have HB' := hid (gd_iff.1 hg')
      clear hg'
      have QA : Hid (tot l = ta) := hid (by rw [← TA.out HG.out, HTA.out])
      have QB : Hid (tot u = tb) := hid (by rw [← TB.out HG2.out, HTB.out])
      have ra1 : 0 ≤ ta := by rw [← QA.out]; exact tot_nn HB.out.2.1
      have ra2 : ta ≤ 1099511627776 := by rw [← QA.out]; exact HB.out.2.2
      have rb1 : 0 ≤ tb := by rw [← QB.out]; exact tot_nn HB'.out.2.1
      have rb2 : tb ≤ 1099511627776 := by rw [← QB.out]; exact HB'.out.2.2
      by_cases hs : 1099511627776 < ta + tb
      · have HJ := hid (jn_no3 (a := l) (b := u) (by rw [QA.out, QB.out]; exact hs))
        have hsd : decide (1099511627776 < ta + tb) = true := decide_eq_true hs
        go_enter Try.func66, Try.ntmps66
        go_wp2_with (first
          | (go_at_call 101; clear t1; refine (tally_m a1 n c l ta true _ HL.out HK.out HTA HG).mono ?_; rintro e w1 ⟨rfl, hb1⟩; have B1 := hid hb1; clear hb1)
          | (go_at_call 101; refine (tally_m a2 m d u tb true _ (HU.out.below B1.out) HK'.out HTB HG2).mono ?_; rintro e w2 ⟨rfl, hb2⟩; have B2 := hid (bt B1.out hb2); clear hb2))
        go_ret2
        rw [HJ.out, (KN.out HJ.out w).2]
        exact ⟨⟨none, 0, rfl, (KN.out HJ.out _).1, far_nil _⟩, B2.out⟩
      · have hsd : decide (1099511627776 < ta + tb) = false := decide_eq_false hs
        have HJ := hid (jn_yes HB.out HB'.out (by rw [QA.out, QB.out]; omega))
        have HT : Hid (tot l + tot u ≤ 1099511627776) := hid (by rw [QA.out, QB.out]; omega)
        have HLn : Hid (l.length + u.length ≤ 2000) := hid (by have := EL.out; have := EU.out; omega)
        have wnm : IntKind.i64.wrap ((n : Int) + (m : Int)) = ((n + m : Nat) : Int) := by rw [show (n : Int) + (m : Int) = ((n + m : Nat) : Int) by omega]; exact IntWalk.i64_in _ (by omega)
        obtain ⟨i0, hi, hz0, hz1, hz2⟩ := info_parts info_nr
        go_enter Try.func66, Try.ntmps66
        go_upto_region 6 with (first
          | (go_at_call 101; clear t1; refine (tally_m a1 n c l ta true _ HL.out HK.out HTA HG).mono ?_; rintro e w1 ⟨rfl, hb1⟩; have B1 := hid hb1; clear hb1)
          | (go_at_call 101; refine (tally_m a2 m d u tb true _ (HU.out.below B1.out) HK'.out HTB HG2).mono ?_; rintro e w2 ⟨rfl, hb2⟩; have B2 := hid (bt B1.out hb2); clear hb2)
          | (at_make; refine wpList_make_own _ rfl _ _ 23 rfl w.heap.size 65 i0 _ 2 Try.underlying23 hi hz0 hz1 _ _ _ (n + m) rfl rfl (by omega) (by rw [hz2]; omega) (by unfold maxLen; omega) B2.out.size ?_; intro w3 ho3 hg3; have O3 : Hid (OwnW w w3 (.slice (some ⟨w2.heap.size, 0, none⟩) 0 (n + m)) []) := hid ⟨B2.out.grown hg3 B2.out.size (fun k hk => by cases hk), ho3⟩; clear ho3 hg3))
        clear hsd hs ra1 ra2 rb1 rb2 wnm hi hz0 hz1 hz2 B1 B2
        have J0 := hid (ji_0 HB.out HB'.out)
        go_wp2
        go_loopg [0, 1, 10] (n + m) (fun g sa sb so wr => ∃ (A : Option Addr) (p q : Nat) (B : Option Addr) (r s : Nat) (la lb : List Rn) (v : Value) (out : List Rn), sa = .slice A p q ∧ sb = .slice B r s ∧ v = so ∧ p ≤ 1000 ∧ r ≤ 1000 ∧ p + r ≤ g ∧ Hid (NRun w A p q la) ∧ Hid (NRun w B r s lb) ∧ Hid (JI l u la lb out) ∧ Hid (OwnW w wr v out))
        case atStart => exact ⟨a1, n, c, a2, m, d, l, u, _, [], rfl, rfl, rfl, hn, hm, Nat.le_refl _, HL, HU, J0, O3⟩
        case round =>
          obtain ⟨A, p, q, B, r, s, la, lb, v, out, rfl, rfl, rfl, hp, hr, hg, HA, HBr, JJ, OW⟩ := hrel
          have wpr : IntKind.i64.wrap ((p : Int) + (r : Int)) = ((p + r : Nat) : Int) := by rw [show (p : Int) + (r : Int) = ((p + r : Nat) : Int) by omega]; exact IntWalk.i64_in _ (by omega)
          by_cases h0 : p + r = 0
          · have h0d : decide ((0 : Int) < ((p + r : Nat) : Int)) = false := decide_eq_false (by omega)
            have ela := hid HA.out.lens.1
            have elb := hid HBr.out.lens.1
            have HE : Hid (out = Jl l u) := hid (by
              have e1 : la = [] := List.length_eq_zero_iff.mp (by have := ela.out; omega)
              have e2 : lb = [] := List.length_eq_zero_iff.mp (by have := elb.out; omega)
              have h := JJ.out
              rw [e1, e2] at h
              rw [jl_yes HJ.out]
              exact ji_end h HB.out.1 HB.out.2.1 HB'.out.2.1)
            obtain ⟨A9, cap, e, hr9⟩ := own_any OW.out.2
            have HF := hid (own_far OW.out.2 e (Nat.le_refl _))
            subst e
            have HR9 := hid hr9
            clear hr9
            go_wp2
            go_ret2
            rw [HJ.out, ← HE.out]
            exact ⟨⟨A9, cap, rfl, HR9.out, HF.out⟩, OW.out.1⟩
          · have h0d : decide ((0 : Int) < ((p + r : Nat) : Int)) = true := decide_eq_true (by omega)
            have h0i : (0 : Int) < ((p + r : Nat) : Int) := by omega
            by_cases hp0 : p = 0
            · subst hp0
              obtain ⟨b, off, x0, x1, e1, hb, hrr, p0, p1⟩ := HBr.out.pick OW.out.1 (k := 0) (by omega)
              subst e1
              simp only [Nat.zero_mul, Nat.add_zero] at p0 p1
              have HRR := hid hrr
              clear hrr
              obtain ⟨A1, hsl, hr1⟩ := restN HBr.out 1 (by omega)
              have hsl' : ∀ w', (Instr.slice 23 (.slice (some ⟨b, off, none⟩) r s) (some (.int .i64 1)) none none).run Try.prog w' = .ok (.slice A1 (r - 1) (s - 1)) w' := hsl
              have R1 := hid hr1
              clear hsl hr1
              have JX : Hid (JI l u ((x0, x1) :: lb.drop 1) la out) := hid (by rw [← head_cons HRR.out]; exact ji_swap JJ.out)
              have J1 : Hid (JI l u (lb.drop 1) la (lay x0 x1 out)) := hid (ji_step JX.out (fun y hy => by have h1 := HA.out.lens.1; have h2 := (List.getElem?_eq_some_iff.1 hy).1; omega))
              have nx := ji_next JX.out HT.out HLn.out
              have N1 := hid nx.1
              have N2 := hid nx.2.1
              have N3 := hid nx.2.2.1
              have n4 := nx.2.2.2.1
              have n5 := nx.2.2.2.2.1
              have n6 := nx.2.2.2.2.2.1
              have n7 := nx.2.2.2.2.2.2
              clear nx
              obtain ⟨M, hM⟩ : ∃ M, lay x0 x1 out = M := ⟨_, rfl⟩
              have HM := hid hM
              clear hM
              have J2 : Hid (JI l u (lb.drop 1) la M) := hid (by rw [← HM.out]; exact J1.out)
              have hrd : decide ((0 : Int) < (r : Int)) = true := decide_eq_true (by omega)
              have hri : (0 : Int) < (r : Int) := by omega
              have hrn : decide (0 < r) = true := decide_eq_true (by omega)
              have hrm : 0 < r := by omega
              clear J1
              go_wp2
              go_quiet (fail)
              have OD : Hid (OwnW w (wr.drewN nq) v out) := hid ⟨bdrewN OW.out.1, OW.out.2⟩
              have P0 : (wr.drewN nq).cell? ⟨b, off, none⟩ = some (.int .i64 x0) := p0
              have P1 : (wr.drewN nq).cell? ⟨b, off + 1, none⟩ = some (.int .i64 x1) := p1
              clear p0 p1
              generalize wr.drewN nq = W at OD P0 P1 ⊢
              go_wp2_with (go_at_call 95; refine (laid_lay w.heap.size v out M x0 x1 _ OD.out.2 OD.out.1.size (by omega) N1.out N2.out N3.out (by omega) (by omega) HM).mono ?_; rintro e w5 ⟨⟨v5, rfl, ho5⟩, hg5⟩; have O5 := hid (OwnW.grown OD.out hg5 ho5); clear ho5 hg5)
              go_roundg (r - 1 + 0)
              case measure => omega
              case rel => exact ⟨A1, r - 1, s - 1, _, 0, q, lb.drop 1, la, v5, M, rfl, rfl, rfl, by omega, by omega, Nat.le_refl _, R1, HA, J2, O5⟩
            · have hpd : ((p : Int) == 0) = false := by simp; omega
              have hpi : (0 : Int) < (p : Int) := by omega
              by_cases hr0 : r = 0
              · subst hr0
                obtain ⟨b, off, x0, x1, e1, hb, hrr, p0, p1⟩ := HA.out.pick OW.out.1 (k := 0) (by omega)
                subst e1
                simp only [Nat.zero_mul, Nat.add_zero] at p0 p1
                have HRR := hid hrr
                clear hrr
                obtain ⟨A1, hsl, hr1⟩ := restN HA.out 1 (by omega)
                have hsl' : ∀ w', (Instr.slice 23 (.slice (some ⟨b, off, none⟩) p q) (some (.int .i64 1)) none none).run Try.prog w' = .ok (.slice A1 (p - 1) (q - 1)) w' := hsl
                have R1 := hid hr1
                clear hsl hr1
                have JX : Hid (JI l u ((x0, x1) :: la.drop 1) lb out) := hid (by rw [← head_cons HRR.out]; exact JJ.out)
                have J1 : Hid (JI l u (la.drop 1) lb (lay x0 x1 out)) := hid (ji_step JX.out (fun y hy => by have h1 := HBr.out.lens.1; have h2 := (List.getElem?_eq_some_iff.1 hy).1; omega))
                have nx := ji_next JX.out HT.out HLn.out
                have N1 := hid nx.1
                have N2 := hid nx.2.1
                have N3 := hid nx.2.2.1
                have n4 := nx.2.2.2.1
                have n5 := nx.2.2.2.2.1
                have n6 := nx.2.2.2.2.2.1
                have n7 := nx.2.2.2.2.2.2
                clear nx
                obtain ⟨M, hM⟩ : ∃ M, lay x0 x1 out = M := ⟨_, rfl⟩
                have HM := hid hM
                clear hM
                have J2 : Hid (JI l u (la.drop 1) lb M) := hid (by rw [← HM.out]; exact J1.out)
                clear J1
                go_wp2
                go_quiet (fail)
                have OD : Hid (OwnW w (wr.drewN nq) v out) := hid ⟨bdrewN OW.out.1, OW.out.2⟩
                have P0 : (wr.drewN nq).cell? ⟨b, off, none⟩ = some (.int .i64 x0) := p0
                have P1 : (wr.drewN nq).cell? ⟨b, off + 1, none⟩ = some (.int .i64 x1) := p1
                clear p0 p1
                generalize wr.drewN nq = W at OD P0 P1 ⊢
                go_wp2_with (go_at_call 95; refine (laid_lay w.heap.size v out M x0 x1 _ OD.out.2 OD.out.1.size (by omega) N1.out N2.out N3.out (by omega) (by omega) HM).mono ?_; rintro e w5 ⟨⟨v5, rfl, ho5⟩, hg5⟩; have O5 := hid (OwnW.grown OD.out hg5 ho5); clear ho5 hg5)
                go_roundg (p - 1 + 0)
                case measure => omega
                case rel => exact ⟨A1, p - 1, q - 1, _, 0, s, la.drop 1, lb, v5, M, rfl, rfl, rfl, by omega, by omega, Nat.le_refl _, R1, HBr, J2, O5⟩
              · have hrd : decide ((0 : Int) < (r : Int)) = true := decide_eq_true (by omega)
                have hri : (0 : Int) < (r : Int) := by omega
                have hrn : decide (0 < r) = true := decide_eq_true (by omega)
                have hrm : 0 < r := by omega
                obtain ⟨hh, eh⟩ : ∃ x, la[0]? = some x := ⟨_, List.getElem?_eq_getElem (by have := HA.out.lens.1; omega)⟩
                obtain ⟨kk, ek⟩ : ∃ x, lb[0]? = some x := ⟨_, List.getElem?_eq_getElem (by have := HBr.out.lens.1; omega)⟩
                have EH := hid eh
                have EK := hid ek
                clear eh ek
                by_cases hlt : kk.1 < hh.1
                · have HQ0 := hid hlt
                  clear hlt
                  obtain ⟨b, off, x0, x1, e1, hb, hrr, p0, p1⟩ := HBr.out.pick OW.out.1 (k := 0) (by omega)
                  subst e1
                  simp only [Nat.zero_mul, Nat.add_zero] at p0 p1
                  have HRR := hid hrr
                  clear hrr
                  obtain ⟨b', off', y0, y1, e2, hb', hqq, q0, q1⟩ := HA.out.pick OW.out.1 (k := 0) (by omega)
                  subst e2
                  simp only [Nat.zero_mul, Nat.add_zero] at q0 q1
                  have HQQ := hid hqq
                  clear hqq q1
                  obtain ⟨A1, hsl, hr1⟩ := restN HBr.out 1 (by omega)
                  have hsl' : ∀ w', (Instr.slice 23 (.slice (some ⟨b, off, none⟩) r s) (some (.int .i64 1)) none none).run Try.prog w' = .ok (.slice A1 (r - 1) (s - 1)) w' := hsl
                  have R1 := hid hr1
                  clear hsl hr1
                  have JX : Hid (JI l u ((x0, x1) :: lb.drop 1) la out) := hid (by rw [← head_cons HRR.out]; exact ji_swap JJ.out)
                  have J1 : Hid (JI l u (lb.drop 1) la (lay x0 x1 out)) := hid (ji_step JX.out (fun y hy => by rw [HQQ.out] at hy; cases hy; have h := HQ0.out; have h1 := EH.out; have h2 := EK.out; rw [HQQ.out] at h1; rw [HRR.out] at h2; cases h1; cases h2; simp only at h ⊢; omega))
                  have nx := ji_next JX.out HT.out HLn.out
                  have N1 := hid nx.1
                  have N2 := hid nx.2.1
                  have N3 := hid nx.2.2.1
                  have n4 := nx.2.2.2.1
                  have n5 := nx.2.2.2.2.1
                  have n6 := nx.2.2.2.2.2.1
                  have n7 := nx.2.2.2.2.2.2
                  clear nx
                  obtain ⟨M, hM⟩ : ∃ M, lay x0 x1 out = M := ⟨_, rfl⟩
                  have HM := hid hM
                  clear hM
                  have J2 : Hid (JI l u (lb.drop 1) la M) := hid (by rw [← HM.out]; exact J1.out)
                  have hltd : decide (x0 < y0) = true := decide_eq_true (by have h := HQ0.out; have h1 := EH.out; have h2 := EK.out; rw [HQQ.out] at h1; rw [HRR.out] at h2; cases h1; cases h2; exact h)
                  clear J1
                  go_wp2
                  go_quiet (fail)
                  have OD : Hid (OwnW w (wr.drewN nq) v out) := hid ⟨bdrewN OW.out.1, OW.out.2⟩
                  have P0 : (wr.drewN nq).cell? ⟨b, off, none⟩ = some (.int .i64 x0) := p0
                  have P1 : (wr.drewN nq).cell? ⟨b, off + 1, none⟩ = some (.int .i64 x1) := p1
                  clear p0 p1
                  generalize wr.drewN nq = W at OD P0 P1 ⊢
                  go_wp2_with (go_at_call 95; refine (laid_lay w.heap.size v out M x0 x1 _ OD.out.2 OD.out.1.size (by omega) N1.out N2.out N3.out (by omega) (by omega) HM).mono ?_; rintro e w5 ⟨⟨v5, rfl, ho5⟩, hg5⟩; have O5 := hid (OwnW.grown OD.out hg5 ho5); clear ho5 hg5)
                  go_roundg (r - 1 + p)
                  case measure => omega
                  case rel => exact ⟨A1, r - 1, s - 1, _, p, q, lb.drop 1, la, v5, M, rfl, rfl, rfl, by omega, by omega, Nat.le_refl _, R1, HA, J2, O5⟩
                · have HQ0 := hid hlt
                  clear hlt
                  obtain ⟨b, off, x0, x1, e1, hb, hrr, p0, p1⟩ := HA.out.pick OW.out.1 (k := 0) (by omega)
                  subst e1
                  simp only [Nat.zero_mul, Nat.add_zero] at p0 p1
                  have HRR := hid hrr
                  clear hrr
                  obtain ⟨b', off', y0, y1, e2, hb', hqq, q0, q1⟩ := HBr.out.pick OW.out.1 (k := 0) (by omega)
                  subst e2
                  simp only [Nat.zero_mul, Nat.add_zero] at q0 q1
                  have HQQ := hid hqq
                  clear hqq q1
                  obtain ⟨A1, hsl, hr1⟩ := restN HA.out 1 (by omega)
                  have hsl' : ∀ w', (Instr.slice 23 (.slice (some ⟨b, off, none⟩) p q) (some (.int .i64 1)) none none).run Try.prog w' = .ok (.slice A1 (p - 1) (q - 1)) w' := hsl
                  have R1 := hid hr1
                  clear hsl hr1
                  have JX : Hid (JI l u ((x0, x1) :: la.drop 1) lb out) := hid (by rw [← head_cons HRR.out]; exact JJ.out)
                  have J1 : Hid (JI l u (la.drop 1) lb (lay x0 x1 out)) := hid (ji_step JX.out (fun y hy => by rw [HQQ.out] at hy; cases hy; have h := HQ0.out; have h1 := EH.out; have h2 := EK.out; rw [HRR.out] at h1; rw [HQQ.out] at h2; cases h1; cases h2; simp only at h ⊢; omega))
                  have nx := ji_next JX.out HT.out HLn.out
                  have N1 := hid nx.1
                  have N2 := hid nx.2.1
                  have N3 := hid nx.2.2.1
                  have n4 := nx.2.2.2.1
                  have n5 := nx.2.2.2.2.1
                  have n6 := nx.2.2.2.2.2.1
                  have n7 := nx.2.2.2.2.2.2
                  clear nx
                  obtain ⟨M, hM⟩ : ∃ M, lay x0 x1 out = M := ⟨_, rfl⟩
                  have HM := hid hM
                  clear hM
                  have J2 : Hid (JI l u (la.drop 1) lb M) := hid (by rw [← HM.out]; exact J1.out)
                  have hltd : decide (y0 < x0) = false := decide_eq_false (by have h := HQ0.out; have h1 := EH.out; have h2 := EK.out; rw [HRR.out] at h1; rw [HQQ.out] at h2; cases h1; cases h2; exact h)
                  clear J1
                  go_wp2
                  go_quiet (fail)
                  have OD : Hid (OwnW w (wr.drewN nq) v out) := hid ⟨bdrewN OW.out.1, OW.out.2⟩
                  have P0 : (wr.drewN nq).cell? ⟨b, off, none⟩ = some (.int .i64 x0) := p0
                  have P1 : (wr.drewN nq).cell? ⟨b, off + 1, none⟩ = some (.int .i64 x1) := p1
                  clear p0 p1
                  generalize wr.drewN nq = W at OD P0 P1 ⊢
                  go_wp2_with (go_at_call 95; refine (laid_lay w.heap.size v out M x0 x1 _ OD.out.2 OD.out.1.size (by omega) N1.out N2.out N3.out (by omega) (by omega) HM).mono ?_; rintro e w5 ⟨⟨v5, rfl, ho5⟩, hg5⟩; have O5 := hid (OwnW.grown OD.out hg5 ho5); clear ho5 hg5)
                  go_roundg (p - 1 + r)
                  case measure => omega
                  case rel => exact ⟨A1, p - 1, q - 1, _, r, s, la.drop 1, lb, v5, M, rfl, rfl, rfl, by omega, by omega, Nat.le_refl _, R1, HBr, J2, O5⟩

theorem of_n (a : Option Addr) (n c k : Nat) (l : List Int) (M : List Rn) (w : World) (hl : IRow .i64 w a n c l) (hn : n ≤ 1000) (hM : Hid (bagOf l = M)) (hk : Hid (M.length = k)) :
    Calls Try.prog 56 #[.slice a n c] w fun e w' => (∃ A cap, e = .returned (.slice A k cap) ∧ NRun w' A k cap M ∧ Far w A) ∧ Below w.heap.size w w' := by
  have := of_own a n c l w hl hn
  rw [hM.out, hk.out] at this
  exact this
theorem join_n (a1 a2 : Option Addr) (n c m d k : Nat) (l u M : List Rn) (v : Bool) (w : World) (hl : NRun w a1 n c l) (hu : NRun w a2 m d u) (hk : ∀ r ∈ l, nok r) (hk' : ∀ r ∈ u, nok r) (hn : n ≤ 1000) (hm : m ≤ 1000) (hM : Hid (Jl l u = M)) (hv : Hid (Jn l u = v)) (hl2 : Hid (M.length = k)) :
    Calls Try.prog 66 #[.slice a1 n c, .slice a2 m d] w fun e w' => (∃ A cap, e = .returned (.tuple #[.slice A k cap, .bool v]) ∧ NRun w' A k cap M ∧ Far w A) ∧ Below w.heap.size w w' := by
  have := join_own a1 a2 n c m d l u w hl hu hk hk' hn hm
  rw [hM.out, hv.out, hl2.out] at this
  exact this

end Go.Proofs.Ytjkkajhjcinalaa

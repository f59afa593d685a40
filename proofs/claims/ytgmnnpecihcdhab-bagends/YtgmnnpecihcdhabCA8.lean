/-
  As values go, one by one, the ends of what is left: the walk of the law BagEnds.
  Conditions: as each theorem states them.
-/
import Derived.Test.YtgmnnpecihcdhabBZ
import Derived.Laws.Cover1
namespace Go.Proofs.Ytgmnnpecihcdhab
open Go.ChangeShapes Go.WideShapes Go.ChangeAt Go.RowKit
set_option linter.unusedVariables false
set_option linter.unusedSimpArgs false
set_option maxRecDepth 100000

theorem bagOf_has {l : List Int} {x : Int} (h : x ∈ l) : ∃ r ∈ bagOf l, r.1 = x := by
  refine cn_pos_mem ?_
  rw [bagOf_cn]
  induction l with
  | nil => cases h
  | cons y l ih =>
    have := (oc_bd x l).1
    simp only [oc]
    rcases List.mem_cons.1 h with rfl | h
    · rw [if_pos rfl]; omega
    · have := ih h
      split <;> omega
/-- The ends of a bag of values. -/
theorem ends_of {l : List Int} {x : Int} (hx : x ∈ l) (hn : l.length ≤ 1000000) : hasE (bagOf l) = true ∧ (lst (bagOf l) ∈ l ∧ ∀ y ∈ l, lst (bagOf l) ≤ y) ∧ gst (bagOf l) ∈ l ∧ ∀ y ∈ l, y ≤ gst (bagOf l) := by
  have hg := gd_yes (bagOf_bag hn)
  obtain ⟨r, hr, _⟩ := bagOf_has hx
  obtain ⟨i, hi⟩ := List.mem_iff_getElem?.1 hr
  have hil := (List.getElem?_eq_some_iff.1 hi).1
  obtain ⟨k, hk⟩ : ∃ k, (bagOf l).length = k + 1 := ⟨(bagOf l).length - 1, by omega⟩
  obtain ⟨⟨a0, a1⟩, ha⟩ : ∃ q, (bagOf l)[0]? = some q := ⟨_, List.getElem?_eq_getElem (by omega)⟩
  obtain ⟨⟨z0, z1⟩, hz⟩ : ∃ q, (bagOf l)[k]? = some q := ⟨_, List.getElem?_eq_getElem (by omega)⟩
  obtain ⟨e1, e2⟩ := lst_at hg ha
  have e3 := gst_at hg hk hz
  rw [e1, e2, e3]
  refine ⟨rfl, ⟨bagOf_mem (List.mem_of_getElem? ha), fun y hy => ?_⟩, bagOf_mem (List.mem_of_getElem? hz), fun y hy => ?_⟩
  · obtain ⟨q, hq, e⟩ := bagOf_has hy
    obtain ⟨j, hj⟩ := List.mem_iff_getElem?.1 hq
    by_cases h0 : j = 0
    · subst h0; rw [ha] at hj; cases hj; simp only at e; omega
    · have := srt_get (bagOf_srt l) ha hj (by omega); simp only at this; omega
  · obtain ⟨q, hq, e⟩ := bagOf_has hy
    obtain ⟨j, hj⟩ := List.mem_iff_getElem?.1 hq
    have hjl := (List.getElem?_eq_some_iff.1 hj).1
    by_cases h0 : j = k
    · subst h0; rw [hz] at hj; cases hj; simp only at e; omega
    · have := srt_get (bagOf_srt l) hj hz (by omega); simp only at this; omega
theorem minus_one {x : Int} {l : List Int} (hn : l.length ≤ 100) : Mn (bagOf (x :: l)) (bagOf [x]) = true ∧ Ml (bagOf (x :: l)) (bagOf [x]) = bagOf l := by
  have hp : bagOf (x :: l) = bagOf (l ++ [x]) := bagOf_perm (List.perm_append_singleton x l).symm
  rw [hp]
  have m1 := mn_yes (bagOf_bag (l := l ++ [x]) (by simp; omega)) (bagOf_bag (l := [x]) (by simp)) (fits_of l [x])
  exact ⟨m1, by rw [ml_yes m1, minus_of]⟩
theorem drop_cons {l : List Int} {i : Nat} {x : Int} (h : l[i]? = some x) : l.drop i = x :: l.drop (i + 1) := by
  obtain ⟨h1, rfl⟩ := List.getElem?_eq_some_iff.1 h
  exact List.drop_eq_getElem_cons h1
/-- The way of the inner loop. -/
def EI (l : List Int) (i k : Nat) (lo hi : Int) : Prop := lo ∈ l.drop i ∧ hi ∈ l.drop i ∧ ∀ j y, i ≤ j → j < k → l[j]? = some y → lo ≤ y ∧ y ≤ hi
theorem mem_drop {l : List Int} {i j : Nat} {y : Int} (h : l[j]? = some y) (hij : i ≤ j) : y ∈ l.drop i := by
  refine List.mem_iff_getElem?.2 ⟨j - i, ?_⟩
  rw [List.getElem?_drop, show i + (j - i) = j by omega]; exact h
theorem ei_step {l : List Int} {i k : Nat} {lo hi x : Int} (h : EI l i k lo hi) (hx : l[k]? = some x) (hik : i ≤ k) : EI l i (k + 1) (min lo x) (max hi x) := by
  obtain ⟨a, b, c⟩ := h
  have e1 : min lo x = lo ∨ min lo x = x := by omega
  have e2 : max hi x = hi ∨ max hi x = x := by omega
  refine ⟨?_, ?_, fun j y hij hj hy => ?_⟩
  · rcases e1 with e | e <;> rw [e]
    · exact a
    · exact mem_drop hx hik
  · rcases e2 with e | e <;> rw [e]
    · exact b
    · exact mem_drop hx hik
  · by_cases hjk : j = k
    · subst hjk; rw [hx] at hy; cases hy; omega
    · have := c j y hij (by omega) hy
      omega
theorem ei_end {l : List Int} {i k : Nat} {lo hi : Int} (h : EI l i k lo hi) (hk : l.length ≤ k) (hn : l.length ≤ 1000000) : lst (bagOf (l.drop i)) = lo ∧ gst (bagOf (l.drop i)) = hi ∧ hasE (bagOf (l.drop i)) = true := by
  obtain ⟨a, b, c⟩ := h
  have hall : ∀ y ∈ l.drop i, lo ≤ y ∧ y ≤ hi := by
    intro y hy
    obtain ⟨j, hj⟩ := List.mem_iff_getElem?.1 hy
    rw [List.getElem?_drop] at hj
    exact c (i + j) y (by omega) (by have := (List.getElem?_eq_some_iff.1 hj).1; omega) hj
  obtain ⟨e1, ⟨e2, e3⟩, e4, e5⟩ := ends_of a (by rw [List.length_drop]; omega)
  refine ⟨?_, ?_, e1⟩
  · have := e3 lo a; have := (hall _ e2).1; omega
  · have := e5 hi b; have := (hall _ e4).2; omega
theorem eie_drop {l : List Int} {n : Nat} (h : l.length ≤ n) : bagOf (l.drop n) = [] := by rw [List.drop_eq_nil_of_le h]; rfl

set_option maxHeartbeats 16000000 in
theorem ends_walk (a : Option Addr) (n c : Nat) (l : List Int) (w : World) (hl : IRow .i64 w a n c l) (hk : ∀ x ∈ l, I64 x) :
    Calls Try.prog 6 #[.slice a n c] w fun e w' => e = .returned (.bool true) ∧ Below w.heap.size w w' := by
  have HL := hid hl
  have HK := hid hk
  obtain ⟨l1, l2⟩ := hl.len
  have EL := hid l1
  clear hl hk l1
  by_cases h1 : 60 < n
  · have hd1 : decide ((60 : Int) < (n : Int)) = true := decide_eq_true (by omega)
    have hi1 : (60 : Int) < (n : Int) := by omega
    go_enter Try.func6, Try.ntmps6
    go_wp2_with (go_at_call 8; refine (wakes_any _).mono ?_; rintro e wa ⟨rfl, hba⟩)
    go_ret
    exact ⟨rfl, hba⟩
  · have hd1 : decide ((60 : Int) < (n : Int)) = false := decide_eq_false (by omega)
    have n1 : n ≤ 1000 := by omega
    obtain ⟨p0, hp0⟩ : ∃ p, (bagOf l).length = p := ⟨_, rfl⟩
    have HP0 := hid hp0
    clear hp0
    go_enter Try.func6, Try.ntmps6
    go_upto_region 4 with (first
      | (go_at_call 24; refine (of_m a n c p0 l _ _ HL.out n1 (hid rfl) HP0).mono ?_; rintro e w1 ⟨⟨A1, c1, rfl, hn1⟩, hb1⟩; have X1 : Hid (NRun w1 A1 p0 c1 (bagOf (l.drop 0))) := hid hn1; have B1 := hid hb1; clear hn1 hb1))
    clear hd1
    go_wp2
    go_loopw [3, 4] (fun sb i wr => ∃ (k : Nat) (A : Option Addr) (p d : Nat), k ≤ n ∧ i = .int .i64 k ∧ sb = .slice A p d ∧ Hid (NRun wr A p d (bagOf (l.drop k))) ∧ Hid (Below w.heap.size w wr)) (fun _ i _ => n - (intOf i).toNat)
    case atStart => exact ⟨0, A1, p0, c1, by omega, rfl, rfl, X1, B1⟩
    case round =>
      obtain ⟨k, A, p, d, hkn, rfl, rfl, HB, BW⟩ := hrel
      have hk0 : (0 : Int) ≤ (k : Int) := by omega
      have EB : Hid (p = (bagOf (l.drop k)).length) := hid HB.out.lens.1
      have hpn : p ≤ 1000 := by have h1 := EB.out; have h2 := bagOf_len (l.drop k); rw [List.length_drop] at h2; have := EL.out; omega
      by_cases hlt : k < n
      · have hki : (k : Int) < (n : Int) := by omega
        obtain ⟨b, off, x, rfl, hb, hr, q0⟩ := HL.out.pick BW.out hlt
        have HR := hid hr
        have HX := hid (HK.out x (List.mem_of_getElem? hr))
        have hbw : b < wr.heap.size := Nat.lt_of_lt_of_le hb BW.out.size
        have E0 : Hid (EI l k k x x) := hid ⟨mem_drop hr (Nat.le_refl _), mem_drop hr (Nat.le_refl _), fun j y h1 h2 => by omega⟩
        clear hr
        go_wp2
        go_quiet (fail)
        have BQ : Hid (Below wr.heap.size wr (wr.drewN nq)) := hid (bdrewN (Below.refl _ _))
        generalize wr.drewN nq = W at BQ ⊢
        clear q0
        go_wp2
        go_loopw [5, 6, 7] (fun lo hi i wj => ∃ (t : Nat) (lv hv : Int), k ≤ t ∧ t ≤ n ∧ i = .int .i64 t ∧ lo = .int .i64 lv ∧ hi = .int .i64 hv ∧ Hid (EI l k t lv hv) ∧ Hid (Below wr.heap.size wr wj)) (fun _ _ i _ => n - (intOf i).toNat)
        case atStart => exact ⟨k, x, x, by omega, by omega, rfl, rfl, rfl, E0, BQ⟩
        case round =>
          obtain ⟨t, lv, hv, hkt, htn, rfl, rfl, rfl, HE, BJ⟩ := hrel
          have ht0 : (0 : Int) ≤ (t : Int) := by omega
          by_cases htl : t < n
          · have hti : (t : Int) < (n : Int) := by omega
            obtain ⟨b2, off2, y, e2, hb2, hr2, s0⟩ := HL.out.pick (bt BW.out BJ.out) htl
            cases e2
            have HR2 := hid hr2
            clear hr2
            go_wp2
            go_quiet (fail)
            go_wp2
            exact ⟨⟨t + 1, min lv y, max hv y, by omega, by omega, by go_num, rfl, rfl, hid (ei_step HE.out HR2.out hkt), hid (bdrewN BJ.out)⟩, by simp [intOf]; omega⟩
          · have htf : decide ((t : Int) < (n : Int)) = false := decide_eq_false (by omega)
            obtain ⟨e1, e2, e3⟩ := ei_end HE.out (by have := EL.out; omega) (by have := EL.out; omega)
            have H1 := hid e1
            have H2 := hid e2
            have H3 := hid e3
            have HBW := hid (bt BW.out BJ.out)
            have HB2 := hid (HB.out.below BJ.out)
            have q0' := (HL.out.pick HBW.out hlt)
            obtain ⟨b3, off3, x3, e4, hb3, hr3, q0⟩ := q0'
            cases e4
            rw [HR.out] at hr3
            cases hr3
            have KO := hid (bagOf_ok (l := l.drop k) (fun z hz => HK.out z (List.mem_of_mem_drop hz)) (by rw [List.length_drop]; have := EL.out; omega))
            have m1 := minus_one (x := x) (l := l.drop (k + 1)) (by rw [List.length_drop]; have := EL.out; omega)
            rw [← drop_cons HR.out] at m1
            have M1 := hid m1.1
            have M2 := hid m1.2
            obtain ⟨q, hq⟩ : ∃ q, (bagOf (l.drop (k + 1))).length = q := ⟨_, rfl⟩
            have HQ := hid hq
            have OX := hid (bagOf_ok (l := [x]) (fun z hz => by simp at hz; subst hz; exact HX.out) (by simp))
            have w1x : (bagOf [x]).length = 1 := rfl
            have WX := hid w1x
            have hlvd : (lv == lv) = true := by simp
            have hhvd : (hv == hv) = true := by simp
            have hbj : b < wr.heap.size := Nat.lt_of_lt_of_le hb HBW.out.size
            clear e1 e2 e3 m1 hq w1x
            have t1 : True := trivial
            go_upto_region 16 with (first
              | (go_at_call 28; refine (least_m A p d (bagOf (l.drop k)) lv true _ HB2.out KO.out H1 H3).mono ?_; rintro e w3 ⟨rfl, hb3'⟩; have HB3 := hid (HB2.out.below hb3'); have BW3 := hid (bt HBW.out hb3'); have q3 := ((bcell hb3').1 b _ hbj).trans q0; have hbj3 := Nat.lt_of_lt_of_le hbj hb3'.size; clear hb3')
              | (go_at_call 29; refine (greatest_m A p d (bagOf (l.drop k)) hv true _ HB3.out KO.out H2 H3).mono ?_; rintro e w4 ⟨rfl, hb4'⟩; have HB4 := hid (HB3.out.below hb4'); have BW4 := hid (bt BW3.out hb4'); have q4 := ((bcell hb4').1 b _ hbj3).trans q3; clear hb4'))
            clear q0 q3
            go_wp2_with (first
              | (go_at_call 24; refine (of_m _ 1 1 1 [x] (bagOf [x]) _ (irow_lit _ _ [x] 2 (by first | rfl | simp) (by simp)) (by decide) (hid rfl) WX).mono ?_; rintro e w5 ⟨⟨A5, c5, rfl, hn5⟩, hb5⟩; have X5 := hid hn5; have b5 := bt (b1alloc _ _) hb5; have HB5 := hid (HB4.out.below b5); have BW5 := hid (bt BW4.out b5); clear hn5 hb5 b5)
              | (go_at_call 19; refine (minus_m A A5 p d 1 c5 q (bagOf (l.drop k)) (bagOf [x]) (bagOf (l.drop (k + 1))) true _ HB5.out X5.out KO.out OX.out hpn (by decide) M2 M1 HQ).mono ?_; rintro e w6 ⟨⟨A6, c6, rfl, hn6⟩, hb6⟩; have N6 := hid hn6; have BW6 := hid (bt BW5.out hb6); clear hn6 hb6))
            exact ⟨⟨k + 1, A6, q, c6, by omega, by go_num, rfl, N6, BW6⟩, by simp [intOf]; omega⟩
      · have hkf : decide ((k : Int) < (n : Int)) = false := decide_eq_false (by omega)
        have ek : bagOf (l.drop k) = [] := eie_drop (by have := EL.out; omega)
        have HB0 : Hid (NRun wr A p d []) := hid (by rw [← ek]; exact HB.out)
        have hp0 : p = 0 := by have := EB.out; rw [ek] at this; exact this
        subst hp0
        clear ek EB HB
        go_wp2_with (first
          | (go_at_call 28; refine (least_m A 0 d [] 0 false _ HB0.out (fun r hr => by cases hr) (hid ends_nil.1) (hid ends_nil.2.2)).mono ?_; rintro e w3 ⟨rfl, hb3⟩; have BW3 := hid (bt BW.out hb3); clear hb3)
          | (go_at_call 8; refine (wakes_any _).mono ?_; rintro e wa ⟨rfl, hba⟩; have Ba := hid (bt BW3.out hba); clear hba))
        go_ret
        exact ⟨rfl, Ba.out⟩

end Go.Proofs.Ytgmnnpecihcdhab

/-
  The bag of values is one, whatever their order: the walk of the law BagOf.
  Conditions: as each theorem states them.
-/
import Derived.Test.YtgmnnpecihcdhabBZ
import Derived.Test.YtgmnnpecihcdhabBX
import Derived.Test.YtgmnnpecihcdhabKJ
namespace Go.Proofs.Ytgmnnpecihcdhab
open Go.ChangeShapes Go.WideShapes Go.ChangeAt Go.RowKit
set_option linter.unusedVariables false
set_option linter.unusedSimpArgs false
set_option maxRecDepth 100000

/-- The first so many of a slice of whole numbers; the rest. -/
theorem firstI {w : World} {a : Option Addr} {n c : Nat} {l : List Int} (h : IRow .i64 w a n c l) (k : Nat) (hk : k ≤ n) :
    (∀ w', (Instr.slice 23 (.slice a n c) none (some (.int .i64 k)) none).run Try.prog w' = .ok (.slice a k c) w') ∧ IRow .i64 w a k c (l.take k) := by
  obtain ⟨h1, h2, h3, h4, h5⟩ := h
  refine ⟨fun w' => ?_, ?_⟩
  · rw [run_slice_h w' 23 a n c Try.underlying23 .i64 k (by omega) (by omega)]
    have hs : (sizeOf (Try.prog.elem 23)).run Try.prog w' = .ok 1 w' := Try.sizeOf2 w'
    rw [hs]
    cases a with
    | none => simp [Result.andThen, sliced]
    | some ad => simp [Result.andThen, sliced, Addr.add]
  · refine ⟨by rw [List.length_take]; omega, by omega, h3, h4, fun h0 => ?_⟩
    obtain ⟨b, off, e, hb, hl⟩ := h5 (by omega)
    refine ⟨b, off, e, hb, fun j hj => ?_⟩
    rw [List.length_take] at hj
    rw [hl j (by omega), List.getD_eq_getElem?_getD, List.getD_eq_getElem?_getD, List.getElem?_take, if_pos (by omega)]
theorem restI {w : World} {a : Option Addr} {n c : Nat} {l : List Int} (h : IRow .i64 w a n c l) (k : Nat) (hk : k ≤ n) :
    ∃ A, (∀ w', (Instr.slice 23 (.slice a n c) (some (.int .i64 k)) none none).run Try.prog w' = .ok (.slice A (n - k) (c - k)) w') ∧ IRow .i64 w A (n - k) (c - k) (l.drop k) := by
  obtain ⟨h1, h2, h3, h4, h5⟩ := h
  refine ⟨if c = k then a else a.map (·.add k), fun w' => ?_, ?_⟩
  · rw [run_slice_l w' 23 a n c Try.underlying23 .i64 k (by omega) (by omega)]
    have hs : (sizeOf (Try.prog.elem 23)).run Try.prog w' = .ok 1 w' := Try.sizeOf2 w'
    rw [hs]
    simp [Result.andThen, sliced]
  · refine ⟨by rw [List.length_drop]; omega, by omega, by omega, ?_, fun h0 => ?_⟩
    · intro e
      by_cases hck : c = k
      · omega
      · rw [if_neg hck] at e
        cases a with
        | none => have := h4 rfl; omega
        | some ad => cases e
    · obtain ⟨b, off, rfl, hb, hl⟩ := h5 (by omega)
      have hck : ¬ c = k := by omega
      rw [if_neg hck]
      refine ⟨b, off + k, ?_, hb, fun j hj => ?_⟩
      · simp only [Option.map_some, add_at]
      · rw [List.length_drop] at hj
        rw [Nat.add_assoc, hl (k + j) (by omega), List.getD_eq_getElem?_getD, List.getD_eq_getElem?_getD, List.getElem?_drop]
theorem own_at_i (w : World) (base N : Nat) (hN : N = w.heap.size) (hb : base ≤ w.heap.size) : (w.alloc (.cells #[] 2)).ownsRow base 2 1 (.slice (some ⟨N, 0, none⟩) 0 0) 0 (vals .i64 []) := by subst hN; exact own_made 2 w base hb
/-- At a step of a region that draws: any slice of whole numbers behind a row of one's own. -/
theorem step_append_in (w : World) {ops : Array Oper} {o : Oper} {a : Act} {K : Act → World → Prop} {Q : Exit → Act → World → Prop} {E : Prop} (hgd : o.guard = none) (s x : Operand)
    (ho : o.op = .call { callee := .builtin .append, args := #[s, x], argTypes := #[23, 23] }) (base g n cap : Nat) (xs : List Int)
    (hs : a.eval s = .slice (some ⟨g, 0, none⟩) n cap) (hown : w.ownsRow base 2 1 (.slice (some ⟨g, 0, none⟩) n cap) n (vals .i64 xs))
    (sa : Option Addr) (m c : Nat) (ys : List Int) (hx : a.eval x = .slice sa m c) (hr : IRow .i64 w sa m c ys) (hn : n + m ≤ 1000000) (hbase : base ≤ w.heap.size) (N : Nat) (zs : List Int) (hN : n + m = N) (hz : xs ++ ys = zs)
    (h : ∀ g' cap' w', w'.ownsRow base 2 1 (.slice (some ⟨g', 0, none⟩) N cap') N (vals .i64 zs) → w.grownBy w' (some g) → K (a.put o.dst (.slice (some ⟨g', 0, none⟩) N cap')) w') :
    if Region.wanted o (yielded ops a.tmps) = true then Oper.wp Try.prog o a w K Q else E := by
  subst hN hz
  have hw : Region.wanted o (yielded ops a.tmps) = true := by simp [Region.wanted, hgd]
  rw [if_pos hw]
  obtain ⟨i0, hi, hz0, hz1, hz2⟩ := info_parts info_i64
  cases sa with
  | none =>
    obtain ⟨r1, r2, r3, r4, r5⟩ := hr
    obtain rfl : c = 0 := r4 rfl
    obtain rfl : m = 0 := by omega
    have hy : ys = [] := List.length_eq_zero_iff.mp r1.symm
    subst hy
    have hr := run_append_owned_none (P := Try.prog) (w := w) base 23 o.type 2 i0 1 Try.underlying23 hi _ n (vals .i64 xs) hown
    unfold Oper.wp execOp
    simp only [ho, resolve, invoke, builtin, Sem.run_bind, Sem.run_pure, Result.andThen_ok, List.map_toArray, List.map_cons, List.map_nil, hs, hx, hr]
    have := h g cap w (by simpa using hown) ⟨rfl, rfl, rfl, Nat.le_refl _, fun _ _ _ => rfl⟩
    simp only [Nat.add_zero, List.append_nil] at this
    exact this
  | some ad =>
    obtain ⟨v', w', hr', h2, h3, hiff⟩ := run_append_own (P := Try.prog) w base 23 o.type 2 i0 _ 1 8 Try.underlying23 hi hz0 hz1 hz2 rfl (by decide) _ n (vals .i64 xs) hown ad m c (vals .i64 ys) (by rw [vals_len, hr.1]) (row_src hr) (vals_one _ _) (by unfold maxLen; omega) (by omega) hbase
    unfold Oper.wp execOp
    simp only [ho, resolve, invoke, builtin, Sem.run_bind, Sem.run_pure, Result.andThen_ok, List.map_toArray, List.map_cons, List.map_nil, hs, hx, hr']
    obtain ⟨g', cap', rfl⟩ := own_form h2 (fun e => by have := (hiff.mp e).1; cases this)
    rw [vals_app] at h2
    exact h g' cap' w' h2 h3
theorem turn_i (l : List Int) (k : Nat) : (l.drop k ++ l.take k).Perm l := by
  have := (List.perm_append_comm (l₁ := l.drop k) (l₂ := l.take k))
  rw [List.take_append_drop] at this
  exact this
theorem sum_fold (l : List Int) : l.foldr (· + ·) 0 = calc.sumI l := by
  induction l with
  | nil => rfl
  | cons x l ih => simp only [List.foldr_cons, ih, calc.sumI]
theorem bagOf_wsum (l : List Int) : wsum (bagOf l) = calc.sumI l := by
  unfold bagOf; rw [ofl_wsum, sum_fold]; simp [wsum]
theorem total_m (a : Option Addr) (n c : Nat) (l : List Int) (w : World) (hl : IRow .i64 w a n c l) (hk : ∀ x ∈ l, I64 x) (hn : n ≤ 1000) :
    Calls Try.prog 27 #[.slice a n c] w fun e w' => e = .returned (.tuple #[.int .i64 (calc.fitV (calc.sumI l)), .bool (calc.fitB (calc.sumI l))]) ∧ Below w.heap.size w w' := by
  obtain ⟨h1, h2, h3, h4, h5⟩ := hl
  by_cases h0 : n = 0
  · subst h0
    have hx : l = [] := List.length_eq_zero_iff.mp h1.symm
    subst hx
    exact calc.total_0 a c w
  · obtain ⟨b, off, rfl, hb, hl⟩ := h5 (by omega)
    have := calc.total_any b off n c l w (by omega) (by omega) hb (fun k hk => hl k (by omega)) hk
    rw [List.take_of_length_le (by omega)] at this
    exact this
theorem oc_yes {l : List Int} {j : Nat} {x y : Int} (h : l[j]? = some y) (e : y = x) : oc x (l.take (j + 1)) = oc x (l.take j) + 1 := by
  rw [take_one h, oc_app]; simp [oc, e]
theorem oc_no {l : List Int} {j : Nat} {x y : Int} (h : l[j]? = some y) (e : ¬ y = x) : oc x (l.take (j + 1)) = oc x (l.take j) := by
  rw [take_one h, oc_app]; simp [oc, e]

set_option maxHeartbeats 32000000 in
theorem of_walk (a : Option Addr) (n c : Nat) (l : List Int) (pos : Int) (w : World) (hl : IRow .i64 w a n c l) (hk : ∀ x ∈ l, I64 x) (hpos : I64 pos) :
    Calls Try.prog 4 #[.slice a n c, .int .i64 pos] w fun e w' => e = .returned (.bool true) ∧ Below w.heap.size w w' := by
  have HL := hid hl
  have HK := hid hk
  have HT := hid hpos
  obtain ⟨l1, l2⟩ := hl.len
  have EL := hid l1
  clear hl hk l1 hpos
  by_cases h1 : 100 < n
  · have hd1 : decide ((100 : Int) < (n : Int)) = true := decide_eq_true (by omega)
    have hi1 : (100 : Int) < (n : Int) := by omega
    go_enter Try.func4, Try.ntmps4
    go_wp2_with (go_at_call 8; refine (wakes_any _).mono ?_; rintro e wa ⟨rfl, hba⟩)
    go_ret
    exact ⟨rfl, hba⟩
  · have hd1 : decide ((100 : Int) < (n : Int)) = false := decide_eq_false (by omega)
    have n1 : n ≤ 1000 := by omega
    obtain ⟨k, ek⟩ : ∃ k : Nat, pos % ((n + 1 : Nat) : Int) = k := ⟨(pos % ((n + 1 : Nat) : Int)).toNat, by have := Int.emod_nonneg pos (show ((n + 1 : Nat) : Int) ≠ 0 by omega); omega⟩
    have hkn : k ≤ n := by have := Int.emod_lt_of_pos pos (show (0 : Int) < ((n + 1 : Nat) : Int) by omega); omega
    have EKM := hid ek
    have hkn' : (k : Int) ≤ (n : Int) := by omega
    have hk0 : (0 : Int) ≤ (k : Int) := by omega
    have wn1 : IntKind.i64.wrap ((n : Int) + 1) = ((n + 1 : Nat) : Int) := by rw [show (n : Int) + 1 = ((n + 1 : Nat) : Int) by omega]; exact IntWalk.i64_in _ (by omega)
    obtain ⟨X, hX⟩ : ∃ X, bagOf l = X := ⟨_, rfl⟩
    obtain ⟨p, hp⟩ : ∃ p, X.length = p := ⟨_, rfl⟩
    have HX := hid hX
    have HP := hid hp
    have HX2 : Hid (bagOf (l.drop k ++ l.take k) = X) := hid (by rw [bagOf_perm (turn_i l k)]; exact hX)
    have hp1 : p ≤ 1000 := by rw [← hp, ← hX]; have := bagOf_len l; have := EL.out; omega
    have OX : Hid (∀ r ∈ X, nok r) := hid (by rw [← hX]; exact bagOf_ok HK.out (by have := EL.out; omega))
    have hbg : Bag X := by rw [← hX]; exact bagOf_bag (by have := EL.out; omega)
    have GX := hid (gd_yes hbg)
    have TX : Hid (tl X = (n : Int)) := hid (by rw [tl_yes hbg, ← hX, bagOf_tot]; have := EL.out; omega)
    have HS : Hid (∀ x, hs x X = oc x l) := hid (fun x => by rw [hs_yes (gd_yes hbg), ← hX, bagOf_cn])
    obtain ⟨S, hS⟩ : ∃ S, calc.fitV (calc.sumI l) = S := ⟨_, rfl⟩
    obtain ⟨f, hf⟩ : ∃ f, calc.fitB (calc.sumI l) = f := ⟨_, rfl⟩
    have SX : Hid (sv X = S ∧ sb X = f) := hid (by have h := sv_yes (gd_yes hbg); rw [← hX, bagOf_wsum, hX, hS, hf] at h; exact h)
    have TT : Hid (∀ W, IRow .i64 W a n c l → Calls Try.prog 27 #[.slice a n c] W fun e w' => e = .returned (.tuple #[.int .i64 S, .bool f]) ∧ Below W.heap.size W w') := hid (fun W h => by have := total_m a n c l W h HK.out n1; rw [hS, hf] at this; exact this)
    clear ek hX hp hbg hS hf
    go_enter Try.func4, Try.ntmps4
    go_upto_region 5 with (first
      | (go_at_call 25; refine (kmod_m pos (n + 1) k _ HT (by omega) (by omega) EKM).mono ?_; rintro e w2 ⟨rfl, hw⟩; have hw2 := hw.symm; clear hw; subst hw2)
      | (go_at_call 24; refine (of_m a n c p l X _ HL.out n1 HX HP).mono ?_; rintro e w1 ⟨⟨A1, c1, rfl, hn1⟩, hb1⟩; have X1 := hid hn1; have B1 := hid hb1; clear hn1 hb1))
    obtain ⟨hsH, hrH⟩ := firstI (HL.out.below B1.out) k hkn
    obtain ⟨A, hsL, hrL⟩ := restI (HL.out.below B1.out) k hkn
    have RH := hid hrH
    have RL := hid hrL
    clear hrH hrL
    have KS : Hid (∀ x, Below w1.heap.size w1 x → Below w1.heap.size w1 x ∧ True) := hid (fun x h => ⟨h, trivial⟩)
    have HKE : Hid (∀ x, Below w1.heap.size w1 x → w1.heap.size ≤ x.heap.size) := hid fun x h => h.size
    go_region_held3 (fun x => Below w1.heap.size w1 x ∧ True)
      (first | assumption | exact keep_drew KS | exact keep_step (by assumption) (by assumption) KS | exact KS.out _ (Hid.out (by assumption)) | exact kr_alloc (by assumption) KS)
      (first
        | (refine step_append_in _ (by rfl) (.tmp 26) (.tmp 29) (by rfl) w1.heap.size _ 0 0 [] (by rfl) (by first | exact own_at_i _ _ _ (by first | rfl | simp) (by first | exact Nat.le_refl _ | simp)) A (n - k) (c - k) (l.drop k) (by rfl) (RL.out.below (And.left (by assumption))) (by omega) (HKE.out _ (And.left (by assumption))) (n - k) (l.drop k) (by omega) rfl ?_; intro g3 cap3 w3 ho3 hg3; have O3 : Hid (w3.ownsRow w1.heap.size 2 1 (.slice (some ⟨g3, 0, none⟩) (n - k) cap3) (n - k) (vals .i64 (l.drop k))) := hid ho3; have B3 : Hid (Below w1.heap.size w1 w3) := hid (kr_grown (And.left (by assumption)) hg3 (by first | exact Nat.le_refl _ | simp)); clear ho3 hg3)
        | (refine step_append_in _ (by rfl) (.tmp 30) (.tmp 33) (by rfl) w1.heap.size g3 (n - k) cap3 (l.drop k) (by rfl) O3.out a k c (l.take k) (by rfl) (RH.out.below (And.left (by assumption))) (by omega) (HKE.out _ (And.left (by assumption))) n (l.drop k ++ l.take k) (by omega) rfl ?_; intro g4 cap4 w4 ho4 hg4; have O4 : Hid (w4.ownsRow w1.heap.size 2 1 (.slice (some ⟨g4, 0, none⟩) n cap4) n (vals .i64 (l.drop k ++ l.take k))) := hid ho4; have B4 : Hid (Below w1.heap.size w1 w4) := hid (kr_grown (And.left (by assumption)) hg4 (O3.out.lt g3 rfl).1); clear ho4 hg4)
        | (go_at_call 24; refine (of_m _ n cap4 p (l.drop k ++ l.take k) X _ (own_row O4.out) n1 HX2 HP).mono ?_; rintro e w5 ⟨⟨A5, c5, rfl, hn5⟩, hb5⟩))
    have Y5 := hid hn5
    have b5 := bt B4.out hb5
    have X5 := hid (X1.out.below b5)
    have B5 := hid (bt B1.out b5)
    clear hn5 hb5 b5 KS HKE RH RL hsH hsL O3 O4 B3 B4 X1 B1 HX HX2 HP
    go_upto_region 8 with (first
      | (go_at_call 10; refine (good_m A1 p c1 X true _ X5.out OX.out GX).mono ?_; rintro e w6 ⟨rfl, hb6⟩; have X6 := hid (X5.out.below hb6); have Y6 := hid (Y5.out.below hb6); have B6 := hid (bt B5.out hb6); clear hb6)
      | (go_at_call 23; refine (same_m A1 A5 p c1 p c5 X X true _ X6.out Y6.out (hid (sm_yes rfl))).mono ?_; rintro e w7 ⟨rfl, hb7⟩; have X7 := hid (X6.out.below hb7); have B7 := hid (bt B6.out hb7); clear hb7)
      | (go_at_call 12; refine (count_m A1 p c1 X n _ X7.out OX.out TX).mono ?_; rintro e w8 ⟨rfl, hb8⟩; have X8 := hid (X7.out.below hb8); have B8 := hid (bt B7.out hb8); clear hb8))
    clear X5 X6 X7 Y5 Y6 B5 B6 B7 hkn hkn' hk0 wn1 EKM TX GX
    go_wp2
    go_loopw [8] (fun i wr => ∃ (q : Nat), q ≤ n ∧ i = .int .i64 q ∧ Hid (Below w8.heap.size w8 wr)) (fun i _ => n - (intOf i).toNat)
    case atStart => exact ⟨0, by omega, rfl, hid (Below.refl _ _)⟩
    case round =>
      obtain ⟨q, hqn, rfl, BW⟩ := hrel
      have hq0 : (0 : Int) ≤ (q : Int) := by omega
      by_cases hlt : q < n
      · have hqi : (q : Int) < (n : Int) := by omega
        obtain ⟨b, off, x, rfl, hb, hr, s0⟩ := HL.out.pick (bt B8.out BW.out) hlt
        have HR := hid hr
        have hbw : b < wr.heap.size := Nat.lt_of_lt_of_le hb (bt B8.out BW.out).size
        clear hr
        go_wp2
        go_loopw [9, 10] (fun mv jv wj => ∃ (j : Nat) (m : Int), j ≤ n ∧ jv = .int .i64 j ∧ mv = .int .i64 m ∧ Hid (m = oc x (l.take j)) ∧ Hid (Below wr.heap.size wr wj)) (fun _ jv _ => n - (intOf jv).toNat)
        case atStart => exact ⟨0, 0, by omega, rfl, rfl, hid rfl, hid (Below.refl _ _)⟩
        case round =>
          obtain ⟨j, m, hj, rfl, rfl, HM, BJ⟩ := hrel
          have hj0 : (0 : Int) ≤ (j : Int) := by omega
          have hm := oc_bd x (l.take j)
          rw [← HM.out, List.length_take] at hm
          obtain ⟨m1, m2⟩ := hm
          have m3 : m ≤ 1000 := by omega
          have s1 := ((bcell BJ.out).1 b _ hbw).trans s0
          clear m2
          by_cases hjn : j < n
          · have hji : (j : Int) < (n : Int) := by omega
            obtain ⟨b2, off2, y, e2, hb2, hr2, u0⟩ := HL.out.pick (bt (bt B8.out BW.out) BJ.out) hjn
            cases e2
            have HR2 := hid hr2
            clear hr2
            by_cases hxy : y = x
            · have hxd : (y == x) = true := by simpa using hxy
              have HXY := hid hxy
              clear hxy
              go_wp2
              go_quiet (fail)
              go_wp2
              exact ⟨⟨j + 1, m + 1, by omega, by go_num, rfl, hid (by rw [oc_yes HR2.out HXY.out, ← HM.out]), hid (bdrewN BJ.out)⟩, by simp [intOf]; omega⟩
            · have hxd : (y == x) = false := by simpa using hxy
              have HXY := hid hxy
              clear hxy
              go_wp2
              go_quiet (fail)
              go_wp2
              exact ⟨⟨j + 1, m, by omega, by go_num, rfl, hid (by rw [oc_no HR2.out HXY.out, ← HM.out]), hid (bdrewN BJ.out)⟩, by simp [intOf]; omega⟩
          · have hjf : decide ((j : Int) < (n : Int)) = false := decide_eq_false (by omega)
            have HC : Hid (hs x X = m) := hid (by rw [HS.out, HM.out, List.take_of_length_le (by have := EL.out; omega)])
            have hmm : (m == m) = true := by simp
            have HBJ := hid (bt BW.out BJ.out)
            go_wp2_with (first
              | (go_at_call 16; refine (has_m A1 p c1 X x m _ (X8.out.below HBJ.out) OX.out hp1 HC).mono ?_; rintro e w9 ⟨rfl, hb9⟩; have B9 := hid (bt HBJ.out hb9); clear hb9))
            exact ⟨⟨q + 1, by omega, by go_num, B9⟩, by simp [intOf]; omega⟩
      · have hqf : decide ((q : Int) < (n : Int)) = false := decide_eq_false (by omega)
        have HB9 := hid (bt B8.out BW.out)
        have X9 := hid (X8.out.below BW.out)
        have hss : (S == S) = true := by simp
        go_wp2_with (first
          | (go_at_call 26; refine (bsum_m A1 p c1 X S f _ X9.out OX.out (hid SX.out.1) (hid SX.out.2)).mono ?_; rintro e w10 ⟨rfl, hb10⟩; have B10 := hid (bt HB9.out hb10); clear hb10)
          | (go_at_call 27; refine (TT.out _ (HL.out.below B10.out)).mono ?_; rintro e w11 ⟨rfl, hb11⟩; have B11 := hid (bt B10.out hb11); clear hb11)
          | (go_at_call 8; refine (wakes_any _).mono ?_; rintro e wa ⟨rfl, hba⟩; have Ba := hid (bt B11.out hba); clear hba))
        go_ret
        exact ⟨rfl, Ba.out⟩

end Go.Proofs.Ytgmnnpecihcdhab

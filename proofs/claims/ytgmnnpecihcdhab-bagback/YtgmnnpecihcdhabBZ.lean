/-
  What was joined is taken away again: the walk of the law BagBack.
  Conditions: as each theorem states them.
-/
import Derived.Test.YtgmnnpecihcdhabBY
namespace Go.Proofs.Ytgmnnpecihcdhab
open Go.ChangeShapes Go.WideShapes Go.ChangeAt Go.RowKit
set_option linter.unusedVariables false
set_option linter.unusedSimpArgs false
set_option maxRecDepth 100000

theorem wpList_want {P : Program} {ops : Array Oper} {Q : Exit → Act → World → Prop} {a : Act} {w : World} {rest : List Oper} {o : Oper} (hw : Region.wanted o (yielded ops a.tmps) = true)
    (h : ∀ K, (∀ a w, wpList P ops Q rest a w → K a w) → Oper.wp P o a w K Q) : wpList P ops Q (o :: rest) a w := by
  unfold wpList
  rw [if_pos hw]
  exact .inl (h _ (fun _ _ h => h))
/-- An append behind a guard that holds: any slice of whole numbers behind a row of one's own. -/
theorem append_want {w : World} {ops : Array Oper} {rest : List Oper} {o : Oper} {a : Act} {Q : Exit → Act → World → Prop} (hw : Region.wanted o (yielded ops a.tmps) = true) (s x : Operand)
    (ho : o.op = .call { callee := .builtin .append, args := #[s, x], argTypes := #[23, 23] }) (base g n cap : Nat) (xs : List Int)
    (hs : a.eval s = .slice (some ⟨g, 0, none⟩) n cap) (hown : w.ownsRow base 2 1 (.slice (some ⟨g, 0, none⟩) n cap) n (vals .i64 xs))
    (sa : Option Addr) (m c : Nat) (ys : List Int) (hx : a.eval x = .slice sa m c) (hr : IRow .i64 w sa m c ys) (hn : n + m ≤ 1000000) (hbase : base ≤ w.heap.size)
    (h : ∀ g' cap' w', w'.ownsRow base 2 1 (.slice (some ⟨g', 0, none⟩) (n + m) cap') (n + m) (vals .i64 (xs ++ ys)) → w.grownBy w' (some g) → wpList Try.prog ops Q rest (a.put o.dst (.slice (some ⟨g', 0, none⟩) (n + m) cap')) w') : wpList Try.prog ops Q (o :: rest) a w := by
  obtain ⟨i0, hi, hz0, hz1, hz2⟩ := info_parts info_i64
  refine wpList_want hw (fun K hK => ?_)
  cases sa with
  | none =>
    obtain ⟨r1, r2, r3, r4, r5⟩ := hr
    obtain rfl : c = 0 := r4 rfl
    obtain rfl : m = 0 := by omega
    have hy : ys = [] := List.length_eq_zero_iff.mp r1.symm
    subst hy
    have hr := run_append_owned_none (P := Try.prog) (w := w) base 23 o.type 2 i0 1 Try.underlying23 hi _ n (vals .i64 xs) hown
    unfold Oper.wp execOp
    simp only [ho, resolve, invoke, builtin, Sem.run_bind, Sem.run_pure, Result.andThen_ok, List.map_toArray, List.map_cons, List.map_nil, hs, hx, hr]
    have := h g cap w (by simpa using hown) ⟨rfl, rfl, rfl, Nat.le_refl _, fun _ _ _ => rfl⟩
    simp only [Nat.add_zero, List.append_nil] at this
    exact hK _ _ this
  | some ad =>
    obtain ⟨v', w', hr', h2, h3, hiff⟩ := run_append_own (P := Try.prog) w base 23 o.type 2 i0 _ 1 8 Try.underlying23 hi hz0 hz1 hz2 rfl (by decide) _ n (vals .i64 xs) hown ad m c (vals .i64 ys) (by rw [vals_len, hr.1]) (row_src hr) (vals_one _ _) (by unfold maxLen; omega) (by omega) hbase
    unfold Oper.wp execOp
    simp only [ho, resolve, invoke, builtin, Sem.run_bind, Sem.run_pure, Result.andThen_ok, List.map_toArray, List.map_cons, List.map_nil, hs, hx, hr']
    obtain ⟨g', cap', rfl⟩ := own_form h2 (fun e => by have := (hiff.mp e).1; cases this)
    rw [vals_app] at h2
    exact hK _ _ (h g' cap' w' h2 h3)
theorem join_of (l u : List Int) : jnl (bagOf l) (bagOf u) = bagOf (l ++ u) :=
  bagOf_is (jnl_srt (bagOf_srt l) _) (pos_nz (jnl_pos (bagOf_pos l) (bagOf_pos u))) (fun v => by rw [jnl_cn, bagOf_cn, bagOf_cn, oc_app])
theorem join_ofr (l u : List Int) : jnl (bagOf u) (bagOf l) = bagOf (l ++ u) := by rw [jnl_comm (bagOf_srt u) (bagOf_pos u) (bagOf_srt l) (bagOf_pos l), join_of]
theorem minus_of (l u : List Int) : mnl (bagOf (l ++ u)) (bagOf u) = bagOf l :=
  (mnl_is (bagOf_srt _) (pos_nz (bagOf_pos _)) (bagOf_pos u) (bagOf_srt l) (pos_nz (bagOf_pos l)) (fun v => by rw [bagOf_cn, bagOf_cn, bagOf_cn, oc_app]; omega)).symm
theorem fits_of (l u : List Int) : Fits (bagOf (l ++ u)) (bagOf u) := by
  intro r hr
  have h := cn_srt_eq (bagOf_srt u) hr
  rw [bagOf_cn] at h ⊢
  rw [oc_app]
  have := (oc_bd r.1 l).1
  omega
theorem back_facts (l u : List Int) (hl : l.length ≤ 100) (hu : u.length ≤ 100) :
    (Jn (bagOf l) (bagOf u) = true ∧ Jl (bagOf l) (bagOf u) = bagOf (l ++ u)) ∧ (Jn (bagOf u) (bagOf l) = true ∧ Jl (bagOf u) (bagOf l) = bagOf (l ++ u)) ∧ (Mn (bagOf (l ++ u)) (bagOf u) = true ∧ Ml (bagOf (l ++ u)) (bagOf u) = bagOf l) ∧ (Mn (bagOf l) (bagOf l) = true ∧ Ml (bagOf l) (bagOf l) = []) := by
  have bl := bagOf_bag (l := l) (by omega)
  have bu := bagOf_bag (l := u) (by omega)
  have blu := bagOf_bag (l := l ++ u) (by rw [List.length_append]; omega)
  have j1 := jn_yes bl bu (by rw [bagOf_tot, bagOf_tot]; omega)
  have j2 := jn_yes bu bl (by rw [bagOf_tot, bagOf_tot]; omega)
  have m1 := mn_yes blu bu (fits_of l u)
  have m2 : Mn (bagOf l) (bagOf l) = true := mn_yes bl bl (by have := fits_of [] l; simpa using this)
  refine ⟨⟨j1, by rw [jl_yes j1, join_of]⟩, ⟨j2, by rw [jl_yes j2, join_ofr]⟩, ⟨m1, by rw [ml_yes m1, minus_of]⟩, ⟨m2, ?_⟩⟩
  rw [ml_yes m2]
  have := minus_of [] l
  simpa [bagOf, ofl] using this

set_option maxHeartbeats 16000000 in
theorem back_walk (a b : Option Addr) (n c m d : Nat) (l u : List Int) (w : World) (hl : IRow .i64 w a n c l) (hu : IRow .i64 w b m d u) (hk : ∀ x ∈ l, I64 x) (hk' : ∀ x ∈ u, I64 x) :
    Calls Try.prog 5 #[.slice a n c, .slice b m d] w fun e w' => e = .returned (.bool true) ∧ Below w.heap.size w w' := by
  have HL := hid hl
  have HU := hid hu
  obtain ⟨l1, l2⟩ := hl.len
  obtain ⟨u1, u2⟩ := hu.len
  by_cases h1 : 100 < n
  · have hd1 : decide ((100 : Int) < (n : Int)) = true := decide_eq_true (by omega)
    have hi1 : (100 : Int) < (n : Int) := by omega
    clear hl hu hk hk' l1 u1
    go_enter Try.func5, Try.ntmps5
    go_wp2_with (go_at_call 8; refine (wakes_any _).mono ?_; rintro e wa ⟨rfl, hba⟩)
    go_ret
    exact ⟨rfl, hba⟩
  · have hd1 : decide ((100 : Int) < (n : Int)) = false := decide_eq_false (by omega)
    by_cases h2 : 100 < m
    · have hd2 : decide ((100 : Int) < (m : Int)) = true := decide_eq_true (by omega)
      have hi2 : (100 : Int) < (m : Int) := by omega
      clear hl hu hk hk' l1 u1
      go_enter Try.func5, Try.ntmps5
      go_wp2_with (go_at_call 8; refine (wakes_any _).mono ?_; rintro e wa ⟨rfl, hba⟩)
      go_ret
      exact ⟨rfl, hba⟩
    · have hd2 : decide ((100 : Int) < (m : Int)) = false := decide_eq_false (by omega)
      have hf := back_facts l u (by omega) (by omega)
      have kx := bagOf_ok hk (by omega)
      have ky := bagOf_ok hk' (by omega)
      have kj : ∀ r ∈ bagOf (l ++ u), nok r := bagOf_ok (fun x hx => by
        rcases List.mem_append.1 hx with hx | hx
        · exact hk x hx
        · exact hk' x hx) (by rw [List.length_append]; omega)
      have lx := bagOf_len l
      have ly := bagOf_len u
      have lj := bagOf_len (l ++ u)
      rw [List.length_append] at lj
      obtain ⟨X, hX⟩ : ∃ X, bagOf l = X := ⟨_, rfl⟩
      obtain ⟨Y, hY⟩ : ∃ Y, bagOf u = Y := ⟨_, rfl⟩
      obtain ⟨J, hJ⟩ : ∃ J, bagOf (l ++ u) = J := ⟨_, rfl⟩
      rw [hX, hY, hJ] at hf
      rw [hX] at kx lx
      rw [hY] at ky ly
      rw [hJ] at kj lj
      obtain ⟨p, hp⟩ : ∃ p, X.length = p := ⟨_, rfl⟩
      obtain ⟨q, hq⟩ : ∃ q, Y.length = q := ⟨_, rfl⟩
      obtain ⟨r, hr⟩ : ∃ r, J.length = r := ⟨_, rfl⟩
      rw [hp] at lx
      rw [hq] at ly
      rw [hr] at lj
      have p1 : p ≤ 1000 := by omega
      have q1 : q ≤ 1000 := by omega
      have r1 : r ≤ 1000 := by omega
      have n1 : n ≤ 1000 := by omega
      have m1 : m ≤ 1000 := by omega
      have FX := hid hX
      have FY := hid hY
      have FJ := hid hJ
      have FP := hid hp
      have FQ := hid hq
      have FR := hid hr
      have F1 := hid hf.1
      have F2 := hid hf.2.1
      have F3 := hid hf.2.2.1
      have F4 := hid hf.2.2.2
      have KX := hid kx
      have KY := hid ky
      have KJ := hid kj
      clear hl hu hk hk' l1 u1 hf kx ky kj lx ly lj hX hY hJ hp hq hr
      have t1 : True := trivial
      have t2 : True := trivial
      have t3 : True := trivial
      have t4 : True := trivial
      have t5 : True := trivial
      have t6 : True := trivial
      go_enter Try.func5, Try.ntmps5
      go_upto_region 4 with (first
        | (go_at_call 24; clear t1; refine (of_m a n c p l X _ HL.out n1 FX FP).mono ?_; rintro e w1 ⟨⟨A1, c1, rfl, hn1⟩, hb1⟩; have X1 := hid hn1; have B1 := hid hb1; clear hn1 hb1)
        | (go_at_call 24; refine (of_m b m d q u Y _ (HU.out.below B1.out) m1 FY FQ).mono ?_; rintro e w2 ⟨⟨A2, c2, rfl, hn2⟩, hb2⟩; have X2 := hid (X1.out.below hb2); have Y2 := hid hn2; have B2 := hid (bt B1.out hb2); clear hn2 hb2))
      go_upto_region 8 with (first
        | (go_at_call 18; clear t2; refine (join_m A1 A2 p c1 q c2 r X Y J true _ X2.out Y2.out KX.out KY.out p1 q1 (hid F1.out.2) (hid F1.out.1) FR).mono ?_; rintro e w3 ⟨⟨A3, c3, rfl, hn3⟩, hb3⟩; have X3 := hid (X2.out.below hb3); have Y3 := hid (Y2.out.below hb3); have J3 := hid hn3; have B3 := hid (bt B2.out hb3); clear hn3 hb3)
        | (go_at_call 18; refine (join_m A2 A1 q c2 p c1 r Y X J true _ Y3.out X3.out KY.out KX.out q1 p1 (hid F2.out.2) (hid F2.out.1) FR).mono ?_; rintro e w4 ⟨⟨A4, c4, rfl, hn4⟩, hb4⟩; have X4 := hid (X3.out.below hb4); have Y4 := hid (Y3.out.below hb4); have J4 := hid (J3.out.below hb4); have K4 := hid hn4; have B4 := hid (bt B3.out hb4); clear hn4 hb4)
        | (go_at_call 19; clear t3; refine (minus_m A3 A2 r c3 q c2 p J Y X true _ J4.out Y4.out KJ.out KY.out r1 q1 (hid F3.out.2) (hid F3.out.1) FP).mono ?_; rintro e w5 ⟨⟨A5, c5, rfl, hn5⟩, hb5⟩; have X5 := hid (X4.out.below hb5); have J5 := hid (J4.out.below hb5); have K5 := hid (K4.out.below hb5); have M5 := hid hn5; have B5 := hid (bt B4.out hb5); clear hn5 hb5)
        | (go_at_call 19; refine (minus_m A1 A1 p c1 p c1 0 X X [] true _ X5.out X5.out KX.out KX.out p1 p1 (hid F4.out.2) (hid F4.out.1) (hid rfl)).mono ?_; rintro e w6 ⟨⟨A6, c6, rfl, hn6⟩, hb6⟩; have X6 := hid (X5.out.below hb6); have J6 := hid (J5.out.below hb6); have K6 := hid (K5.out.below hb6); have M6 := hid (M5.out.below hb6); have B6 := hid (bt B5.out hb6); clear hn6 hb6))
      clear B1 B2 B3 B4 B5 X1 X2 X3 X4 X5 Y2 Y3 Y4 J3 J4 J5 K4 K5 M5 F1 F2 F3 F4 KX KY KJ FX FY FP FQ
      go_wp2_with (first
        | (go_at_call 23; clear t4; refine (same_m A3 A4 r c3 r c4 J J true _ J6.out K6.out (hid (sm_yes rfl))).mono ?_; rintro e w7 ⟨rfl, hb7⟩; have X7 := hid (X6.out.below hb7); have J7 := hid (J6.out.below hb7); have M7 := hid (M6.out.below hb7); have B7 := hid (bt B6.out hb7); clear hb7)
        | (go_at_call 23; clear t5; refine (same_m A5 A1 p c5 p c1 X X true _ M7.out X7.out (hid (sm_yes rfl))).mono ?_; rintro e w8 ⟨rfl, hb8⟩; have J8 := hid (J7.out.below hb8); have B8 := hid (bt B7.out hb8); clear hb8)
        | (at_builtin; clear t6; refine append_want (by rfl) (.tmp 79) (.tmp 80) rfl w8.heap.size w8.heap.size 0 0 [] rfl (own_made 2 w8 w8.heap.size (Nat.le_refl _)) a n c l rfl (HL.out.below (bt B8.out (b1alloc _ _))) (by omega) (by simp) ?_; intro g9 c9 w9 ho9 hg9; rw [Nat.zero_add, List.nil_append] at ho9; have O9 := hid ho9; have D9 : Hid (Below w8.heap.size w8 w9) := hid ((b1alloc _ _).grown hg9 (by simp) (fun k hk => by cases hk; exact Nat.le_refl _)); clear ho9 hg9)
        | (at_builtin; refine append_want (by rfl) (.tmp 81) (.tmp 82) rfl w8.heap.size g9 n c9 l rfl O9.out b m d u rfl (HU.out.below (bt B8.out D9.out)) (by omega) D9.out.size ?_; intro g10 c10 w10 ho10 hg10; have R10 := hid (own_row ho10); have D10 : Hid (Below w8.heap.size w8 w10) := hid (D9.out.grown hg10 D9.out.size (fun k hk => by cases hk; exact (O9.out.lt g9 rfl).1)); clear ho10 hg10)
        | (go_at_call 24; refine (of_m _ (n + m) c10 r (l ++ u) J _ R10.out (by omega) FJ FR).mono ?_; rintro e w11 ⟨⟨A11, c11, rfl, hn11⟩, hb11⟩; have Q11 := hid hn11; have D11 := hid (bt D10.out hb11); clear hn11 hb11)
        | (go_at_call 23; refine (same_m A3 A11 r c3 r c11 J J true _ (J8.out.below D11.out) Q11.out (hid (sm_yes rfl))).mono ?_; rintro e w12 ⟨rfl, hb12⟩; have B12 := hid (bt B8.out (bt D11.out hb12)); clear hb12)
        | (go_at_call 8; refine (wakes_any _).mono ?_; rintro e wa ⟨rfl, hba⟩; have Ba := hid (bt B12.out hba); clear hba))
      go_ret
      exact ⟨rfl, Ba.out⟩

end Go.Proofs.Ytgmnnpecihcdhab

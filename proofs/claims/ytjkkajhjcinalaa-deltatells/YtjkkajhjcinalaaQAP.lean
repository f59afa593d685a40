/-
  -
  -
  -
  -
  -
  -
  Conditions: as each theorem states them.
-/
import Derived.Laws.Cover1
import Derived.Test.YtjkkajhjcinalaaQAF
import Derived.Test.YtjkkajhjcinalaaQAJ
import Derived.Test.YtjkkajhjcinalaaQAN
namespace Go.Proofs.Ytjkkajhjcinalaa
open Go.ChangeShapes Go.WideShapes Go.ChangeAt Go.RowKit
set_option linter.unusedVariables false
set_option linter.unusedSimpArgs false
set_option maxRecDepth 100000

theorem results_cell_raw2 {fn : Func} {p u x : Tmp} {ty : TypeId} (h : fn.results = #[.cell p ty, .tmp u, .tmp x]) (tmps : Array Value) (P : Program) (w : World) :
    (results fn tmps).run P w = ((asAddr (tmps.getD p undef)).run P w).andThen fun a w1 => ((loadVar ty a).run P w1).andThen fun v w2 => .ok (.tuple #[v, tmps.getD u undef, tmps.getD x undef]) w2 := by
  simp only [results, h]
  simp [Sem.run_bind, Result.andThen]
theorem results_cell_slot2 {P : Program} {fn : Func} {p u x : Tmp} {ty : TypeId} (h : fn.results = #[.cell p ty, .tmp u, .tmp x]) (tmps : Array Value) (w : World) (g : Nat) (t : TypeId) (cs : Array Value) (fr : Nat × Nat) (d : TypeDesc) (v v' : Value)
    (hp : tmps.getD p undef = .pointer (some ⟨g, 0, none⟩)) (hv : tmps.getD u undef = v) (hv' : tmps.getD x undef = v') (hg : w.heap[g]? = some (.cells cs t fr))
    (hu : P.underlying ty = some d) (hd : (match d with | .struct _ | .array _ _ => true | _ => false) = true) (hi : (P.info? ty).map (·.size) = some cs.size) :
    (results fn tmps).run P w = .ok (.tuple #[.agg cs, v, v']) w := by
  rw [results_cell_raw2 h, hp, hv, hv']
  simp [asAddr, run_loadVar_row w g t ty cs fr d hg hu hd hi, Result.andThen]
theorem mnl_bg {a b : List Rn} (ha : Bag a) (hb : Bag b) (h : Fits a b) : Bag (mnl a b) :=
  ⟨mnl_srt ha.1 b, mnl_pos ha.1 ha.2.1 hb.1 hb.2.1 h, by rw [mnl_tot]; have := tot_nn hb.2.1; have := ha.2.2; omega⟩
theorem mnl_ok {a b : List Rn} (ha : Bag a) (hb : Bag b) (ka : ∀ r ∈ a, nok r) (kb : ∀ r ∈ b, nok r) : ∀ r ∈ mnl a b, nok r := by
  intro r hr
  have h := mnl_bd ha.1 ha.2.1 hb.2.1 ha.2.2 hb.2.2 r hr
  refine ⟨?_, by unfold I64; omega⟩
  rcases mnl_mem hr with ⟨q, hq, e⟩ | ⟨q, hq, e⟩
  · rw [← e]; exact (ka q hq).1
  · rw [← e]; exact (kb q hq).1
theorem cg_bags {m : Int} {c : Cl} (h : CG m c) : Bag c.b0 ∧ Bag c.b1 := by
  refine ⟨h.2.1.1, ?_⟩
  rcases h.2.2 with ⟨_, _, e⟩ | ⟨_, k⟩
  · rw [e]; exact bag_nil
  · exact k.1
/-- What stands has bags, and a number. -/
theorem st_bags {m : Int} {c : Cl} {is : Bool} (h : stB m c is = true) : (Bag c.b0 ∧ Bag c.b1) ∧ 0 ≤ c.n ∧ c.n ≤ 1099511627776 ∧ tot c.b0 = c.n := by
  cases is with
  | true =>
    have g := cg_iff.1 (show cg m c = true from h)
    exact ⟨cg_bags g, by have := g.1; omega, g.1.2, g.2.1.2.1⟩
  | false =>
    have h' : ((decide (m = 1) || decide (m = 2)) && csm c cl0) = true := h
    simp only [Bool.and_eq_true] at h'
    have e := csm_iff.1 h'.2
    subst e
    exact ⟨⟨bag_nil, bag_nil⟩, by show (0 : Int) ≤ 0; decide, by show (0 : Int) ≤ 1099511627776; decide, rfl⟩
theorem mn_bags {a b : List Rn} (ha : Bag a) (hb : Bag b) : Mn a b = fits a b := by unfold Mn; rw [gd_yes ha, gd_yes hb]; rfl
theorem fits_iff {a b : List Rn} : fits a b = true ↔ Fits a b := by unfold fits Fits; rw [decide_eq_true_iff]
theorem da_a {m : Int} {c : Cl} {is : Bool} {d : Dl} (h : dg m d = false ∨ stB m c is = false) : daB m c is d = false := by
  unfold daB
  rcases h with h | h <;> rw [h] <;> simp
theorem da_eq {m : Int} {c : Cl} {is : Bool} {d : Dl} {T : Bool} (g : DG m d) (s : stB m c is = true) (hT : (Mn c.b0 d.o0 && Mn c.b1 d.o1) = T) :
    daB m c is d = ((calc.fitB (c.s0 + d.s0) && calc.fitB (c.s1 + d.s1)) && (T && (Jn (if T then Ml c.b0 d.o0 else []) d.i0 && Jn (if T then Ml c.b1 d.o1 else []) d.i1))) := by
  obtain ⟨⟨b1, b2⟩, b3, b4⟩ := dg_bags g
  obtain ⟨⟨c1, c2⟩, _, _, _⟩ := st_bags s
  have e1 := mn_bags c1 b2
  have e2 := mn_bags c2 b4
  unfold daB
  rw [dg_yes g, s]
  cases T with
  | false =>
    rw [e1, e2] at hT
    rw [hT]
    simp
  | true =>
    rw [Bool.and_eq_true] at hT
    obtain ⟨t1, t2⟩ := hT
    have f1 := fits_iff.1 (e1.symm.trans t1)
    have f2 := fits_iff.1 (e2.symm.trans t2)
    have m1 := mnl_bg c1 b2 f1
    have m2 := mnl_bg c2 b4 f2
    simp only [if_true]
    rw [ml_yes t1, ml_yes t2, jn_bags m1 b1, jn_bags m2 b3, mnl_tot, mnl_tot, ← e1, ← e2, t1, t2]
    generalize decide (tot c.b0 - tot d.o0 + tot d.i0 ≤ 1099511627776) = p
    generalize decide (tot c.b1 - tot d.o1 + tot d.i1 ≤ 1099511627776) = q
    generalize calc.fitB (c.s0 + d.s0) = t
    generalize calc.fitB (c.s1 + d.s1) = u
    revert p q t u
    decide
theorem da_parts {m : Int} {c : Cl} {is : Bool} {d : Dl} (h : daB m c is d = true) : ((Ml c.b0 d.o0 = mnl c.b0 d.o0 ∧ Ml c.b1 d.o1 = mnl c.b1 d.o1) ∧ Jl (mnl c.b0 d.o0) d.i0 = jnl (mnl c.b0 d.o0) d.i0 ∧ Jl (mnl c.b1 d.o1) d.i1 = jnl (mnl c.b1 d.o1) d.i1) := by
  unfold daB at h
  simp only [Bool.and_eq_true, decide_eq_true_iff] at h
  obtain ⟨⟨g, s⟩, ⟨f1, f2⟩, ⟨t1, t2⟩, _⟩ := h
  obtain ⟨⟨b1, b2⟩, b3, b4⟩ := dg_bags (dg_iff.1 g)
  obtain ⟨⟨c1, c2⟩, _, _, _⟩ := st_bags s
  have m1 := mnl_bg c1 b2 (fits_iff.1 f1)
  have m2 := mnl_bg c2 b4 (fits_iff.1 f2)
  refine ⟨⟨ml_yes (mn_yes c1 b2 (fits_iff.1 f1)), ml_yes (mn_yes c2 b4 (fits_iff.1 f2))⟩, jl_yes (jn_yes m1 b1 (by rw [mnl_tot]; exact t1)), jl_yes (jn_yes m2 b3 (by rw [mnl_tot]; exact t2))⟩
/-- What is left, whether all is there or not. -/
theorem da_left {m : Int} {c : Cl} {is : Bool} {d : Dl} {T : Bool} (g : DG m d) (s : stB m c is = true) (kc : okc c) (kd : okd d) (hc : c.b0.length ≤ 500 ∧ c.b1.length ≤ 500) (hd : sh5 d) :
    ((∀ r ∈ (if T then Ml c.b0 d.o0 else []), nok r) ∧ ∀ r ∈ (if T then Ml c.b1 d.o1 else []), nok r) ∧ (if T then Ml c.b0 d.o0 else []).length ≤ 1000 ∧ (if T then Ml c.b1 d.o1 else []).length ≤ 1000 := by
  obtain ⟨⟨b1, b2⟩, b3, b4⟩ := dg_bags g
  obtain ⟨⟨c1, c2⟩, _, _, _⟩ := st_bags s
  have key : ∀ a b : List Rn, Bag a → Bag b → (∀ r ∈ a, nok r) → (∀ r ∈ b, nok r) → a.length ≤ 500 → b.length ≤ 500 → (∀ r ∈ (if T then Ml a b else []), nok r) ∧ (if T then Ml a b else []).length ≤ 1000 := by
    intro a b ha hb ka kb la lb
    cases T with
    | false => exact ⟨nok_nild, by show (0 : Nat) ≤ 1000; decide⟩
    | true =>
      simp only [if_true]
      cases hM : Mn a b with
      | false => rw [ml_no hM]; exact ⟨nok_nild, by show (0 : Nat) ≤ 1000; decide⟩
      | true => rw [ml_yes hM]; exact ⟨mnl_ok ha hb ka kb, by have := mnl_len a b; omega⟩
  have k0 := key _ _ c1 b2 kc.2.2.2.1 kd.2.2.1 hc.1 hd.2.1
  have k1 := key _ _ c2 b4 kc.2.2.2.2 kd.2.2.2 hc.2 hd.2.2
  exact ⟨⟨k0.1, k1.1⟩, k0.2, k1.2⟩
/-- Far memory of a cell. -/
def CF (w : World) (x0 : Option Addr) (x1 x2 : Nat) (x3 : Option Addr) (x4 x5 : Nat) : Prop := Far w x0 ∧ Far w x3

set_option maxHeartbeats 32000000 in
theorem dapply_m (m : Int) (c : Cl) (a0 : Option Addr) (a1 a2 : Nat) (a3 : Option Addr) (a4 a5 : Nat) (is : Bool) (d : Dl) (b0 : Option Addr) (b1 b2 : Nat) (b3 : Option Addr) (b4 b5 : Nat) (b6 : Option Addr) (b7 b8 : Nat) (b9 : Option Addr) (b10 b11 : Nat) (C : Cl) (i v : Bool) (w : World) (hw : CW w a0 a1 a2 a3 a4 a5 c) (hz : DW w b0 b1 b2 b3 b4 b5 b6 b7 b8 b9 b10 b11 d) (hk : okc c) (hk' : okd d) (hp : c.b0.length ≤ 500 ∧ c.b1.length ≤ 500) (hp' : sh5 d) (hC : Hid (daC m c is d = C)) (hI : Hid (daI m c is d = i)) (hv : Hid (daB m c is d = v)) :
    Calls Try.prog 49 #[.int .i64 m, (.agg #[.int .i64 c.n, .int .i64 c.s0, .int .i64 c.s1, .slice a0 a1 a2, .slice a3 a4 a5]), .bool is, (.agg #[.int .i64 d.n, .int .i64 d.s0, .int .i64 d.s1, .slice b0 b1 b2, .slice b3 b4 b5, .slice b6 b7 b8, .slice b9 b10 b11])] w fun e w' => (∃ r0 r1 r2 r3 r4 r5, e = .returned (.tuple #[(.agg #[.int .i64 C.n, .int .i64 C.s0, .int .i64 C.s1, .slice r0 r1 r2, .slice r3 r4 r5]), .bool i, .bool v]) ∧ CW w' r0 r1 r2 r3 r4 r5 C ∧ CF w r0 r1 r2 r3 r4 r5) ∧ Below w.heap.size w w' := by
  have HW := hid hw
  have HV := hid hz
  have HK := hid hk
  have HK2 := hid hk'
  have HP := hid hp
  have HP2 := hid hp'
  clear hw hz hk hk' hp hp'
  have KK := hid (three_new w (.cells #[.int .i64 c.n, .int .i64 c.s0, .int .i64 c.s1, .slice a0 a1 a2, .slice a3 a4 a5] 26) (.cells #[.int .i64 d.n, .int .i64 d.s0, .int .i64 d.s1, .slice b0 b1 b2, .slice b3 b4 b5, .slice b6 b7 b8, .slice b9 b10 b11] 68) (.cells #[.int .i64 0, .int .i64 0, .int .i64 0, .slice none 0 0, .slice none 0 0] 26))
  cases ga : dg m d with
  | false =>
    have GA := hid ga
    have HZ := hid (And.intro (show daB m c is d = false from da_a (.inl ga)) (hv.out.symm.trans (da_a (.inl ga))))
    clear ga
    go_enter Try.func49, Try.ntmps49
    go_upto_region 1 with fail
    generalize ((w.alloc (.cells #[.int .i64 c.n, .int .i64 c.s0, .int .i64 c.s1, .slice a0 a1 a2, .slice a3 a4 a5] 26)).alloc (.cells #[.int .i64 d.n, .int .i64 d.s0, .int .i64 d.s1, .slice b0 b1 b2, .slice b3 b4 b5, .slice b6 b7 b8, .slice b9 b10 b11] 68)).alloc (.cells #[.int .i64 0, .int .i64 0, .int .i64 0, .slice none 0 0, .slice none 0 0] 26) = W at KK ⊢
    obtain ⟨N0, hN0⟩ : ∃ y, w.heap.size = y := ⟨_, rfl⟩
    obtain ⟨N1, hN1⟩ : ∃ y, N0 + 1 = y := ⟨_, rfl⟩
    obtain ⟨N2, hN2⟩ : ∃ y, N1 + 1 = y := ⟨_, rfl⟩
    rw [hN0, hN1, hN2] at KK
    (try rw [hN0]); (try rw [hN1]); (try rw [hN2])
    have HO : Hid (w.heap.size = N0 ∧ N0 < N1 ∧ N1 < N2) := hid (by omega)
    clear hN0 hN1 hN2
    have KA := hid KK.out.1
    have KB := hid KK.out.2.1
    have KR := hid KK.out.2.2
    clear KK
    obtain ⟨p0, p1, p2, p3, p4⟩ := box_five KA.out.2.2
    obtain ⟨q0, q1, q2, q3, q4, q5, q6⟩ := box_seven KB.out.2.2
    go_upto_region 2 with (go_at_call 38; refine (dgood_m _ d b0 b1 b2 b3 b4 b5 b6 b7 b8 b9 b10 b11 false _ (HV.out.below KA.out.1) HK2.out (sh5_shd HP2.out) GA).mono ?_; rintro e w1 ⟨rfl, hb⟩; replace KA := hid (KA.out.step hb); replace KB := hid (KB.out.step hb); replace KR := hid (KR.out.step hb); clear hb p0 p1 p2 p3 p4 q0 q1 q2 q3 q4 q5 q6; obtain ⟨p0, p1, p2, p3, p4⟩ := box_five KA.out.2.2; obtain ⟨q0, q1, q2, q3, q4, q5, q6⟩ := box_seven KB.out.2.2)
    go_wp2_with (refine wpList_store_whole rfl 26 (.tmp 8) (.tmp 29) rfl N2 (clC 0 0 0 none 0 0 none 0 0) rfl rfl 26 _ KR.out.2.2 rfl (by show _ = some 5; exact size_cl) (clC_one _ _ _ _ _ _ _ _ _) ?_; intro w9 hp9 hg9; have KR9 := hid (kp_at KR.out hg9 hp9); clear hp9 hg9)
    (try simp only [Exit.inBlock, Exit.then])
    show bodyPost Try.prog Try.f49 _ _ _ _
    refine bodyPost_ret (results_cell_slot2 (p := 8) (u := 9) (x := 10) rfl _ _ N2 _ (clC 0 0 0 none 0 0 none 0 0) (0, 0) _ (.bool false) (.bool false) rfl rfl rfl KR9.out.2.2 Try.underlying26 rfl (by kernel_rfl)) rfl ?_
    have q1 : cl0 = C := by rw [← hC.out]; unfold daC daI; rw [HZ.out.1]; rfl
    have q2 : false = i := by rw [← hI.out]; unfold daI; rw [HZ.out.1]; rfl
    have q3 := HZ.out.2.symm
    subst q1
    subst q2
    subst q3
    exact ⟨⟨none, 0, 0, none, 0, 0, rfl, cw_nil _, far_nil _, far_nil _⟩, KR9.out.1⟩
  | true =>
    have GA := hid ga
    cases gb : stB m c is with
    | false =>
      have GB := hid gb
      have HZ := hid (And.intro (show daB m c is d = false from da_a (.inr gb)) (hv.out.symm.trans (da_a (.inr gb))))
      clear ga gb
      go_enter Try.func49, Try.ntmps49
      go_upto_region 1 with fail
      generalize ((w.alloc (.cells #[.int .i64 c.n, .int .i64 c.s0, .int .i64 c.s1, .slice a0 a1 a2, .slice a3 a4 a5] 26)).alloc (.cells #[.int .i64 d.n, .int .i64 d.s0, .int .i64 d.s1, .slice b0 b1 b2, .slice b3 b4 b5, .slice b6 b7 b8, .slice b9 b10 b11] 68)).alloc (.cells #[.int .i64 0, .int .i64 0, .int .i64 0, .slice none 0 0, .slice none 0 0] 26) = W at KK ⊢
      obtain ⟨N0, hN0⟩ : ∃ y, w.heap.size = y := ⟨_, rfl⟩
      obtain ⟨N1, hN1⟩ : ∃ y, N0 + 1 = y := ⟨_, rfl⟩
      obtain ⟨N2, hN2⟩ : ∃ y, N1 + 1 = y := ⟨_, rfl⟩
      rw [hN0, hN1, hN2] at KK
      (try rw [hN0]); (try rw [hN1]); (try rw [hN2])
      have HO : Hid (w.heap.size = N0 ∧ N0 < N1 ∧ N1 < N2) := hid (by omega)
      clear hN0 hN1 hN2
      have KA := hid KK.out.1
      have KB := hid KK.out.2.1
      have KR := hid KK.out.2.2
      clear KK
      obtain ⟨p0, p1, p2, p3, p4⟩ := box_five KA.out.2.2
      obtain ⟨q0, q1, q2, q3, q4, q5, q6⟩ := box_seven KB.out.2.2
      go_upto_region 2 with (first
        | (go_at_call 38; refine (dgood_m _ d b0 b1 b2 b3 b4 b5 b6 b7 b8 b9 b10 b11 true _ (HV.out.below KA.out.1) HK2.out (sh5_shd HP2.out) GA).mono ?_; rintro e w1 ⟨rfl, hb⟩; replace KA := hid (KA.out.step hb); replace KB := hid (KB.out.step hb); replace KR := hid (KR.out.step hb); clear hb p0 p1 p2 p3 p4 q0 q1 q2 q3 q4 q5 q6; obtain ⟨p0, p1, p2, p3, p4⟩ := box_five KA.out.2.2; obtain ⟨q0, q1, q2, q3, q4, q5, q6⟩ := box_seven KB.out.2.2)
        | (go_at_call 90; refine (stands_m _ c a0 a1 a2 a3 a4 a5 is false _ (HW.out.below KA.out.1) HK.out GB).mono ?_; rintro e w2 ⟨rfl, hb⟩; replace KA := hid (KA.out.step hb); replace KB := hid (KB.out.step hb); replace KR := hid (KR.out.step hb); clear hb p0 p1 p2 p3 p4 q0 q1 q2 q3 q4 q5 q6; obtain ⟨p0, p1, p2, p3, p4⟩ := box_five KA.out.2.2; obtain ⟨q0, q1, q2, q3, q4, q5, q6⟩ := box_seven KB.out.2.2))
      go_wp2_with (refine wpList_store_whole rfl 26 (.tmp 8) (.tmp 29) rfl N2 (clC 0 0 0 none 0 0 none 0 0) rfl rfl 26 _ KR.out.2.2 rfl (by show _ = some 5; exact size_cl) (clC_one _ _ _ _ _ _ _ _ _) ?_; intro w9 hp9 hg9; have KR9 := hid (kp_at KR.out hg9 hp9); clear hp9 hg9)
      (try simp only [Exit.inBlock, Exit.then])
      show bodyPost Try.prog Try.f49 _ _ _ _
      refine bodyPost_ret (results_cell_slot2 (p := 8) (u := 9) (x := 10) rfl _ _ N2 _ (clC 0 0 0 none 0 0 none 0 0) (0, 0) _ (.bool false) (.bool false) rfl rfl rfl KR9.out.2.2 Try.underlying26 rfl (by kernel_rfl)) rfl ?_
      have q1 : cl0 = C := by rw [← hC.out]; unfold daC daI; rw [HZ.out.1]; rfl
      have q2 : false = i := by rw [← hI.out]; unfold daI; rw [HZ.out.1]; rfl
      have q3 := HZ.out.2.symm
      subst q1
      subst q2
      subst q3
      exact ⟨⟨none, 0, 0, none, 0, 0, rfl, cw_nil _, far_nil _, far_nil _⟩, KR9.out.1⟩
    | true =>
      have GB := hid gb
      have CA := hid (dg_iff.1 ga)
      obtain ⟨na1, na2⟩ := dg_n CA.out
      obtain ⟨_, nb1, nb2, _⟩ := st_bags gb
      have hwn : IntKind.i64.wrap (c.n + d.n) = c.n + d.n := IntWalk.i64_in _ (by omega)
      obtain ⟨Fv, hFv⟩ : ∃ y, (calc.fitB (c.s0 + d.s0) && calc.fitB (c.s1 + d.s1)) = y := ⟨_, rfl⟩
      have FFv := hid hFv
      clear hFv
      obtain ⟨Tv, hTv⟩ : ∃ y, (Mn c.b0 d.o0 && Mn c.b1 d.o1) = y := ⟨_, rfl⟩
      have FTv := hid hTv
      clear hTv
      have HE := hid (da_eq CA.out gb FTv.out)
      have LF := hid (da_left (T := Tv) CA.out gb HK.out HK2.out HP.out HP2.out)
      clear ga gb
      obtain ⟨S0, hS0⟩ : ∃ y, (if Fv then c.s0 + d.s0 else 0) = y := ⟨_, rfl⟩
      have FS0 := hid hS0
      clear hS0
      obtain ⟨S1, hS1⟩ : ∃ y, (if Fv then c.s1 + d.s1 else 0) = y := ⟨_, rfl⟩
      have FS1 := hid hS1
      clear hS1
      obtain ⟨L0, hL0⟩ : ∃ y, (if Tv then Ml c.b0 d.o0 else []) = y := ⟨_, rfl⟩
      have FL0 := hid hL0
      clear hL0
      obtain ⟨L1, hL1⟩ : ∃ y, (if Tv then Ml c.b1 d.o1 else []) = y := ⟨_, rfl⟩
      have FL1 := hid hL1
      clear hL1
      rw [FFv.out, FL0.out, FL1.out] at HE
      rw [FL0.out, FL1.out] at LF
      obtain ⟨Pv, hPv⟩ : ∃ y, (Jn L0 d.i0 && Jn L1 d.i1) = y := ⟨_, rfl⟩
      have FPv := hid hPv
      clear hPv
      rw [FPv.out] at HE
      obtain ⟨kl0, hkl0⟩ : ∃ y, L0.length = y := ⟨_, rfl⟩
      have Fkl0 := hid hkl0
      clear hkl0
      obtain ⟨kl1, hkl1⟩ : ∃ y, L1.length = y := ⟨_, rfl⟩
      have Fkl1 := hid hkl1
      clear hkl1
      rw [Fkl0.out, Fkl1.out] at LF
      obtain ⟨V0, hV0⟩ : ∃ y, (if Pv then Jl L0 d.i0 else []) = y := ⟨_, rfl⟩
      have FV0 := hid hV0
      clear hV0
      obtain ⟨V1, hV1⟩ : ∃ y, (if Pv then Jl L1 d.i1 else []) = y := ⟨_, rfl⟩
      have FV1 := hid hV1
      clear hV1
      obtain ⟨kv0, hkv0⟩ : ∃ y, V0.length = y := ⟨_, rfl⟩
      have Fkv0 := hid hkv0
      clear hkv0
      obtain ⟨kv1, hkv1⟩ : ∃ y, V1.length = y := ⟨_, rfl⟩
      have Fkv1 := hid hkv1
      clear hkv1
      go_enter Try.func49, Try.ntmps49
      go_upto_region 1 with fail
      generalize ((w.alloc (.cells #[.int .i64 c.n, .int .i64 c.s0, .int .i64 c.s1, .slice a0 a1 a2, .slice a3 a4 a5] 26)).alloc (.cells #[.int .i64 d.n, .int .i64 d.s0, .int .i64 d.s1, .slice b0 b1 b2, .slice b3 b4 b5, .slice b6 b7 b8, .slice b9 b10 b11] 68)).alloc (.cells #[.int .i64 0, .int .i64 0, .int .i64 0, .slice none 0 0, .slice none 0 0] 26) = W at KK ⊢
      obtain ⟨N0, hN0⟩ : ∃ y, w.heap.size = y := ⟨_, rfl⟩
      obtain ⟨N1, hN1⟩ : ∃ y, N0 + 1 = y := ⟨_, rfl⟩
      obtain ⟨N2, hN2⟩ : ∃ y, N1 + 1 = y := ⟨_, rfl⟩
      rw [hN0, hN1, hN2] at KK
      (try rw [hN0]); (try rw [hN1]); (try rw [hN2])
      have HO : Hid (w.heap.size = N0 ∧ N0 < N1 ∧ N1 < N2) := hid (by omega)
      clear hN0 hN1 hN2
      have KA := hid KK.out.1
      have KB := hid KK.out.2.1
      have KR := hid KK.out.2.2
      clear KK
      obtain ⟨p0, p1, p2, p3, p4⟩ := box_five KA.out.2.2
      obtain ⟨q0, q1, q2, q3, q4, q5, q6⟩ := box_seven KB.out.2.2
      go_upto_region 3 with (first
        | (go_at_call 38; refine (dgood_m _ d b0 b1 b2 b3 b4 b5 b6 b7 b8 b9 b10 b11 true _ (HV.out.below KA.out.1) HK2.out (sh5_shd HP2.out) GA).mono ?_; rintro e w1 ⟨rfl, hb⟩; replace KA := hid (KA.out.step hb); replace KB := hid (KB.out.step hb); replace KR := hid (KR.out.step hb); clear hb p0 p1 p2 p3 p4 q0 q1 q2 q3 q4 q5 q6; obtain ⟨p0, p1, p2, p3, p4⟩ := box_five KA.out.2.2; obtain ⟨q0, q1, q2, q3, q4, q5, q6⟩ := box_seven KB.out.2.2)
        | (go_at_call 90; refine (stands_m _ c a0 a1 a2 a3 a4 a5 is true _ (HW.out.below KA.out.1) HK.out GB).mono ?_; rintro e w2 ⟨rfl, hb⟩; replace KA := hid (KA.out.step hb); replace KB := hid (KB.out.step hb); replace KR := hid (KR.out.step hb); clear hb p0 p1 p2 p3 p4 q0 q1 q2 q3 q4 q5 q6; obtain ⟨p0, p1, p2, p3, p4⟩ := box_five KA.out.2.2; obtain ⟨q0, q1, q2, q3, q4, q5, q6⟩ := box_seven KB.out.2.2))
      go_upto_region 4 with (first
        | (go_at_call 77; refine (eachAdd_m c.s0 c.s1 d.s0 d.s1 S0 S1 Fv _ ⟨HK.out.2.1, HK.out.2.2.1⟩ ⟨HK2.out.1.2.1, HK2.out.1.2.2⟩ FFv FS0 FS1).mono ?_; rintro e w3 ⟨rfl, hb⟩; replace KA := hid (KA.out.step hb); replace KB := hid (KB.out.step hb); replace KR := hid (KR.out.step hb); clear hb p0 p1 p2 p3 p4 q0 q1 q2 q3 q4 q5 q6; obtain ⟨p0, p1, p2, p3, p4⟩ := box_five KA.out.2.2; obtain ⟨q0, q1, q2, q3, q4, q5, q6⟩ := box_seven KB.out.2.2)
        | (have KZ : Hid (Kp w (w3.alloc (.cells #[.int .i64 0, .int .i64 0] 22)) w3.heap.size (.cells #[.int .i64 0, .int .i64 0] 22)) := hid (kp_new2 KR.out.1 _ _ rfl); refine wpList_store_whole rfl 22 (.tmp 11) (.tmp 36) rfl w3.heap.size (aiC S0 S1) rfl rfl 22 _ KZ.out.2.2 rfl (by show _ = some 2; exact size_ai) (aiC_one _ _) ?_; intro w9 hp9 hg9; have K11 := hid (kp_at KZ.out hg9 hp9); have HK11 := hid (heap_lt KR.out.2.2); replace KA := hid (kp_new_gr KA.out hg9); replace KB := hid (kp_new_gr KB.out hg9); replace KR := hid (kp_new_gr KR.out hg9); clear hp9 hg9 KZ p0 p1 p2 p3 p4 q0 q1 q2 q3 q4 q5 q6; obtain ⟨p0, p1, p2, p3, p4⟩ := box_five KA.out.2.2; obtain ⟨q0, q1, q2, q3, q4, q5, q6⟩ := box_seven KB.out.2.2))
      generalize w3.heap.size = N11 at K11 HK11 ⊢
      go_upto_region 5 with (first
        | (go_at_call 83; refine (eachMinus_m _ _ _ _ _ _ _ _ _ _ _ _ c.b0 c.b1 d.o0 d.o1 L0 L1 kl0 kl1 Tv _ ⟨HW.out.1.below KA.out.1, HW.out.2.below KA.out.1⟩ ⟨HV.out.2.1.below KA.out.1, HV.out.2.2.below KA.out.1⟩ ⟨HK.out.2.2.2.1, HK.out.2.2.2.2⟩ HK2.out.2.2 (by have h1 := HW.out.1.lens.1; have h2 := HW.out.2.lens.1; have h3 := HV.out.2.1.lens.1; have h4 := HV.out.2.2.lens.1; have h5 := HP.out; have h7 := HP2.out.2; omega) FTv FL0 FL1 Fkl0 Fkl1).mono ?_; rintro e w4 ⟨⟨e0, ec0, e1, ec1, rfl, ⟨hr0, hr1⟩, _, _⟩, hb⟩; have Re0 := hid hr0; have Re1 := hid hr1; replace KA := hid (KA.out.step hb); replace KB := hid (KB.out.step hb); replace KR := hid (KR.out.step hb); replace K11 := hid (K11.out.step hb); clear hb hr0 hr1 p0 p1 p2 p3 p4 q0 q1 q2 q3 q4 q5 q6; obtain ⟨p0, p1, p2, p3, p4⟩ := box_five KA.out.2.2; obtain ⟨q0, q1, q2, q3, q4, q5, q6⟩ := box_seven KB.out.2.2)
        | (have KZ : Hid (Kp w (w4.alloc (.cells #[.slice none 0 0, .slice none 0 0] 24)) w4.heap.size (.cells #[.slice none 0 0, .slice none 0 0] 24)) := hid (kp_new2 KR.out.1 _ _ rfl); refine wpList_store_whole rfl 24 (.tmp 13) (.tmp 44) rfl w4.heap.size (asC e0 kl0 ec0 e1 kl1 ec1) rfl rfl 24 _ KZ.out.2.2 rfl (by show _ = some 2; exact size_as) (asC_one _ _ _ _ _ _) ?_; intro w9 hp9 hg9; have K13 := hid (kp_at KZ.out hg9 hp9); have HK13 := hid (heap_lt KR.out.2.2); replace KA := hid (kp_new_gr KA.out hg9); replace KB := hid (kp_new_gr KB.out hg9); replace KR := hid (kp_new_gr KR.out hg9); replace K11 := hid (kp_new_gr K11.out hg9); replace Re0 := hid (run_new_gr Re0.out hg9); replace Re1 := hid (run_new_gr Re1.out hg9); clear hp9 hg9 KZ p0 p1 p2 p3 p4 q0 q1 q2 q3 q4 q5 q6; obtain ⟨p0, p1, p2, p3, p4⟩ := box_five KA.out.2.2; obtain ⟨q0, q1, q2, q3, q4, q5, q6⟩ := box_seven KB.out.2.2))
      generalize w4.heap.size = N13 at K13 HK13 ⊢
      obtain ⟨g0, g1⟩ := box_two K13.out.2.2
      go_upto_region 6 with (first
        | (go_at_call 83; refine (eachJoin_m _ _ _ _ _ _ _ _ _ _ _ _ L0 L1 d.i0 d.i1 V0 V1 kv0 kv1 Pv _ ⟨Re0.out, Re1.out⟩ ⟨HV.out.1.1.below KA.out.1, HV.out.1.2.below KA.out.1⟩ LF.out.1 HK2.out.2.1 (by have h1 := LF.out.2; have h3 := HV.out.1.1.lens.1; have h4 := HV.out.1.2.lens.1; have h7 := HP2.out.1; omega) FPv FV0 FV1 Fkv0 Fkv1).mono ?_; rintro e w5 ⟨⟨f0, fc0, f1, fc1, rfl, ⟨hr0, hr1⟩, hf0, hf1⟩, hb⟩; have Rf0 := hid hr0; have Rf1 := hid hr1; have Ff0 := hid (far_up hf0 (heap_lt KR.out.2.2)); have Ff1 := hid (far_up hf1 (heap_lt KR.out.2.2)); have WF : Hid (CF w f0 kv0 fc0 f1 kv1 fc1) := hid ⟨far_low hf0 KR.out.1.size, far_low hf1 KR.out.1.size⟩; replace KA := hid (KA.out.step hb); replace KB := hid (KB.out.step hb); replace KR := hid (KR.out.step hb); replace K11 := hid (K11.out.step hb); clear hb hr0 hr1 hf0 hf1 g0 g1 p0 p1 p2 p3 p4 q0 q1 q2 q3 q4 q5 q6; obtain ⟨p0, p1, p2, p3, p4⟩ := box_five KA.out.2.2; obtain ⟨q0, q1, q2, q3, q4, q5, q6⟩ := box_seven KB.out.2.2)
        | (have KZ : Hid (Kp w (w5.alloc (.cells #[.slice none 0 0, .slice none 0 0] 24)) w5.heap.size (.cells #[.slice none 0 0, .slice none 0 0] 24)) := hid (kp_new2 KR.out.1 _ _ rfl); refine wpList_store_whole rfl 24 (.tmp 15) (.tmp 51) rfl w5.heap.size (asC f0 kv0 fc0 f1 kv1 fc1) rfl rfl 24 _ KZ.out.2.2 rfl (by show _ = some 2; exact size_as) (asC_one _ _ _ _ _ _) ?_; intro w9 hp9 hg9; have K15 := hid (kp_at KZ.out hg9 hp9); have HK15 := hid (heap_lt KR.out.2.2); replace KA := hid (kp_new_gr KA.out hg9); replace KB := hid (kp_new_gr KB.out hg9); replace KR := hid (kp_new_gr KR.out hg9); replace K11 := hid (kp_new_gr K11.out hg9); replace Rf0 := hid (run_new_gr Rf0.out hg9); replace Rf1 := hid (run_new_gr Rf1.out hg9); clear hp9 hg9 KZ p0 p1 p2 p3 p4 q0 q1 q2 q3 q4 q5 q6; obtain ⟨p0, p1, p2, p3, p4⟩ := box_five KA.out.2.2; obtain ⟨q0, q1, q2, q3, q4, q5, q6⟩ := box_seven KB.out.2.2))
      generalize w5.heap.size = N15 at K15 HK15 ⊢
      clear K13 HK13 Re0 Re1 p0 p1 p2 p3 p4 q0 q1 q2 q3 q4 q5 q6
      cases Fv with
      | false =>
        have HZ := hid (And.intro (show daB m c is d = false from HE.out) (hv.out.symm.trans (HE.out)))
        go_wp2_with (refine wpList_store_whole rfl 26 (.tmp 8) (.tmp 63) rfl N2 (clC 0 0 0 none 0 0 none 0 0) rfl rfl 26 _ KR.out.2.2 rfl (by show _ = some 5; exact size_cl) (clC_one _ _ _ _ _ _ _ _ _) ?_; intro w9 hp9 hg9; have KR9 := hid (kp_at KR.out hg9 hp9); clear hp9 hg9)
        (try simp only [Exit.inBlock, Exit.then])
        show bodyPost Try.prog Try.f49 _ _ _ _
        refine bodyPost_ret (results_cell_slot2 (p := 8) (u := 9) (x := 10) rfl _ _ N2 _ (clC 0 0 0 none 0 0 none 0 0) (0, 0) _ (.bool false) (.bool false) rfl rfl rfl KR9.out.2.2 Try.underlying26 rfl (by kernel_rfl)) rfl ?_
        have q1 : cl0 = C := by rw [← hC.out]; unfold daC daI; rw [HZ.out.1]; rfl
        have q2 : false = i := by rw [← hI.out]; unfold daI; rw [HZ.out.1]; rfl
        have q3 := HZ.out.2.symm
        subst q1
        subst q2
        subst q3
        exact ⟨⟨none, 0, 0, none, 0, 0, rfl, cw_nil _, far_nil _, far_nil _⟩, KR9.out.1⟩
      | true =>
      cases Tv with
      | false =>
        have HZ := hid (And.intro (show daB m c is d = false from HE.out) (hv.out.symm.trans (HE.out)))
        go_wp2_with (refine wpList_store_whole rfl 26 (.tmp 8) (.tmp 63) rfl N2 (clC 0 0 0 none 0 0 none 0 0) rfl rfl 26 _ KR.out.2.2 rfl (by show _ = some 5; exact size_cl) (clC_one _ _ _ _ _ _ _ _ _) ?_; intro w9 hp9 hg9; have KR9 := hid (kp_at KR.out hg9 hp9); clear hp9 hg9)
        (try simp only [Exit.inBlock, Exit.then])
        show bodyPost Try.prog Try.f49 _ _ _ _
        refine bodyPost_ret (results_cell_slot2 (p := 8) (u := 9) (x := 10) rfl _ _ N2 _ (clC 0 0 0 none 0 0 none 0 0) (0, 0) _ (.bool false) (.bool false) rfl rfl rfl KR9.out.2.2 Try.underlying26 rfl (by kernel_rfl)) rfl ?_
        have q1 : cl0 = C := by rw [← hC.out]; unfold daC daI; rw [HZ.out.1]; rfl
        have q2 : false = i := by rw [← hI.out]; unfold daI; rw [HZ.out.1]; rfl
        have q3 := HZ.out.2.symm
        subst q1
        subst q2
        subst q3
        exact ⟨⟨none, 0, 0, none, 0, 0, rfl, cw_nil _, far_nil _, far_nil _⟩, KR9.out.1⟩
      | true =>
      cases Pv with
      | false =>
        have HZ := hid (And.intro (show daB m c is d = false from HE.out) (hv.out.symm.trans (HE.out)))
        go_wp2_with (refine wpList_store_whole rfl 26 (.tmp 8) (.tmp 63) rfl N2 (clC 0 0 0 none 0 0 none 0 0) rfl rfl 26 _ KR.out.2.2 rfl (by show _ = some 5; exact size_cl) (clC_one _ _ _ _ _ _ _ _ _) ?_; intro w9 hp9 hg9; have KR9 := hid (kp_at KR.out hg9 hp9); clear hp9 hg9)
        (try simp only [Exit.inBlock, Exit.then])
        show bodyPost Try.prog Try.f49 _ _ _ _
        refine bodyPost_ret (results_cell_slot2 (p := 8) (u := 9) (x := 10) rfl _ _ N2 _ (clC 0 0 0 none 0 0 none 0 0) (0, 0) _ (.bool false) (.bool false) rfl rfl rfl KR9.out.2.2 Try.underlying26 rfl (by kernel_rfl)) rfl ?_
        have q1 : cl0 = C := by rw [← hC.out]; unfold daC daI; rw [HZ.out.1]; rfl
        have q2 : false = i := by rw [← hI.out]; unfold daI; rw [HZ.out.1]; rfl
        have q3 := HZ.out.2.symm
        subst q1
        subst q2
        subst q3
        exact ⟨⟨none, 0, 0, none, 0, 0, rfl, cw_nil _, far_nil _, far_nil _⟩, KR9.out.1⟩
      | true =>
        have HB : Hid (daB m c is d = true) := hid HE.out
        have PT := hid (da_parts HB.out)
        have VV := hid (hv.out.symm.trans HB.out)
        have ES0 : Hid (c.s0 + d.s0 = S0) := FS0
        have ES1 : Hid (c.s1 + d.s1 = S1) := FS1
        have EV0 : Hid (jnl (mnl c.b0 d.o0) d.i0 = V0) := hid (by have h1 : Ml c.b0 d.o0 = L0 := FL0.out; have h2 : Jl L0 d.i0 = V0 := FV0.out; rw [PT.out.1.1] at h1; rw [← h1, PT.out.2.1] at h2; exact h2)
        have EV1 : Hid (jnl (mnl c.b1 d.o1) d.i1 = V1) := hid (by have h1 : Ml c.b1 d.o1 = L1 := FL1.out; have h2 : Jl L1 d.i1 = V1 := FV1.out; rw [PT.out.1.2] at h1; rw [← h1, PT.out.2.2] at h2; exact h2)
        clear FS0 FS1 FL0 FL1 FV0 FV1 HE
        have p0 := kp_cell (j := 0) (v := .int .i64 c.n) KA.out rfl
        have q0 := kp_cell (j := 0) (v := .int .i64 d.n) KB.out rfl
        obtain ⟨g0, g1⟩ := box_two K11.out.2.2
        obtain ⟨h0, h1⟩ := box_two K15.out.2.2
        rename World => wj
        go_upto_region 9 with (have KZ : Hid (Kp w (wj.alloc (.cells #[.int .i64 0, .int .i64 0, .int .i64 0, .slice none 0 0, .slice none 0 0] 26)) wj.heap.size (.cells #[.int .i64 0, .int .i64 0, .int .i64 0, .slice none 0 0, .slice none 0 0] 26)) := hid (kp_new2 KR.out.1 _ _ rfl); refine wpList_store_whole rfl 26 (.tmp 17) (.tmp 71) rfl wj.heap.size (clC (c.n + d.n) S0 S1 f0 kv0 fc0 f1 kv1 fc1) rfl rfl 26 _ KZ.out.2.2 rfl (by show _ = some 5; exact size_cl) (clC_one _ _ _ _ _ _ _ _ _) ?_; intro w9 hp9 hg9; have KD := hid (kp_at KZ.out hg9 hp9); have HKD := hid (heap_lt KR.out.2.2); replace KR := hid (kp_new_gr KR.out hg9); replace Rf0 := hid (run_new_gr Rf0.out hg9); replace Rf1 := hid (run_new_gr Rf1.out hg9); clear hp9 hg9 KZ p0 q0 g0 g1 h0 h1)
        generalize wj.heap.size = N17 at KD HKD ⊢
        obtain ⟨y0, y1, y2, y3, y4⟩ := box_five KD.out.2.2
        by_cases hz : c.n + d.n = 0
        · have hzd : ((c.n + d.n) == 0) = true := by simp [hz]
          have HN0 := hid hz
          clear hz
          go_wp2_with (refine wpList_store_whole rfl 26 (.tmp 8) (.tmp 75) rfl N2 (clC 0 0 0 none 0 0 none 0 0) rfl rfl 26 _ KR.out.2.2 rfl (by show _ = some 5; exact size_cl) (clC_one _ _ _ _ _ _ _ _ _) ?_; intro w9 hp9 hg9; have KR9 := hid (kp_at KR.out hg9 hp9); clear hp9 hg9)
          (try simp only [Exit.inBlock, Exit.then])
          show bodyPost Try.prog Try.f49 _ _ _ _
          refine bodyPost_ret (results_cell_slot2 (p := 8) (u := 9) (x := 10) rfl _ _ N2 _ (clC 0 0 0 none 0 0 none 0 0) (0, 0) _ (.bool false) (.bool true) rfl rfl rfl KR9.out.2.2 Try.underlying26 rfl (by kernel_rfl)) rfl ?_
          have q1 : cl0 = C := by rw [← hC.out]; unfold daC daI; rw [decide_eq_true HN0.out]; simp
          have q2 : false = i := by rw [← hI.out]; unfold daI; rw [decide_eq_true HN0.out]; simp
          have q3 := VV.out.symm
          subst q1
          subst q2
          subst q3
          exact ⟨⟨none, 0, 0, none, 0, 0, rfl, cw_nil _, far_nil _, far_nil _⟩, KR9.out.1⟩
        · have hzd : ((c.n + d.n) == 0) = false := by simp [hz]
          have HN0 := hid hz
          clear hz
          have HN : Hid (w.heap.size ≤ N2 ∧ N2 < N17) := hid (by have := HO.out; have := HKD.out; omega)
          go_wp2_with (refine wpList_store_whole rfl 26 (.tmp 8) (.tmp 76) rfl N2 (clC (c.n + d.n) S0 S1 f0 kv0 fc0 f1 kv1 fc1) rfl rfl 26 _ KR.out.2.2 rfl (by show _ = some 5; exact size_cl) (clC_one _ _ _ _ _ _ _ _ _) ?_; intro w9 hp9 hg9; have KR9 := hid (kp_at KR.out hg9 hp9); replace Rf0 := hid (Rf0.out.grown hg9 (fun b off e => by have := Ff0.out b off e; omega)); replace Rf1 := hid (Rf1.out.grown hg9 (fun b off e => by have := Ff1.out b off e; omega)); clear hp9 hg9)
          (try simp only [Exit.inBlock, Exit.then])
          show bodyPost Try.prog Try.f49 _ _ _ _
          refine bodyPost_ret (results_cell_slot2 (p := 8) (u := 9) (x := 10) rfl _ _ N2 _ (clC (c.n + d.n) S0 S1 f0 kv0 fc0 f1 kv1 fc1) (0, 0) _ (.bool true) (.bool true) rfl rfl rfl KR9.out.2.2 Try.underlying26 rfl (by kernel_rfl)) rfl ?_
          have hi : daI m c is d = true := by unfold daI; rw [HB.out, decide_eq_false HN0.out]; rfl
          have q1 : daR c d = C := by rw [← hC.out]; unfold daC; rw [hi]; rfl
          have q2 : true = i := by rw [← hI.out]; exact hi.symm
          have q3 := VV.out.symm
          subst q1
          subst q2
          subst q3
          have es0 := ES0.out
          subst es0
          have es1 := ES1.out
          subst es1
          have ev0 := EV0.out
          subst ev0
          have ev1 := EV1.out
          subst ev1
          have ek0 := Fkv0.out
          subst ek0
          have ek1 := Fkv1.out
          subst ek1
          exact ⟨⟨f0, _, fc0, f1, _, fc1, rfl, ⟨Rf0.out, Rf1.out⟩, WF.out⟩, KR9.out.1⟩

end Go.Proofs.Ytjkkajhjcinalaa

namespace Go.Proofs.Ytjkkajhjcinalaa
open Go.ChangeShapes Go.WideShapes Go.ChangeAt Go.RowKit
set_option linter.unusedVariables false
set_option linter.unusedSimpArgs false
set_option maxRecDepth 100000

theorem bwC_no {m : Int} {a b : Cl} {was is : Bool} (h : bwB m a was b is = false) : bwC m a was b is = dl0 := by unfold bwC; rw [h]; rfl
theorem bwC_yes {m : Int} {a b : Cl} {was is : Bool} (h : bwB m a was b is = true) : bwC m a was b is = bwR a b := by unfold bwC; rw [h]; rfl
theorem bw_a {m : Int} {a b : Cl} {was is : Bool} (h : stB m a was = false ∨ stB m b is = false) : bwB m a was b is = false := by
  unfold bwB
  rcases h with h | h <;> rw [h] <;> simp
theorem bw_eq {m : Int} {a b : Cl} {was is : Bool} (h : stB m a was = true) (h' : stB m b is = true) : bwB m a was b is = (calc.fitB (b.s0 - a.s0) && calc.fitB (b.s1 - a.s1)) := by
  unfold bwB
  rw [h, h']
  rfl
set_option maxHeartbeats 32000000 in
theorem dbetween_m (m : Int) (x : Cl) (a0 : Option Addr) (a1 a2 : Nat) (a3 : Option Addr) (a4 a5 : Nat) (was : Bool) (y : Cl) (b0 : Option Addr) (b1 b2 : Nat) (b3 : Option Addr) (b4 b5 : Nat) (is : Bool) (D : Dl) (v : Bool) (w : World) (hw : CW w a0 a1 a2 a3 a4 a5 x) (hz : CW w b0 b1 b2 b3 b4 b5 y) (hk : okc x) (hk' : okc y) (hp : x.b0.length ≤ 1000 ∧ x.b1.length ≤ 1000) (hp' : y.b0.length ≤ 1000 ∧ y.b1.length ≤ 1000) (hC : Hid (bwC m x was y is = D)) (hv : Hid (bwB m x was y is = v)) :
    Calls Try.prog 50 #[.int .i64 m, (.agg #[.int .i64 x.n, .int .i64 x.s0, .int .i64 x.s1, .slice a0 a1 a2, .slice a3 a4 a5]), .bool was, (.agg #[.int .i64 y.n, .int .i64 y.s0, .int .i64 y.s1, .slice b0 b1 b2, .slice b3 b4 b5]), .bool is] w fun e w' => (∃ r0 r1 r2 r3 r4 r5 r6 r7 r8 r9 r10 r11, e = .returned (.tuple #[(.agg #[.int .i64 D.n, .int .i64 D.s0, .int .i64 D.s1, .slice r0 r1 r2, .slice r3 r4 r5, .slice r6 r7 r8, .slice r9 r10 r11]), .bool v]) ∧ DW w' r0 r1 r2 r3 r4 r5 r6 r7 r8 r9 r10 r11 D ∧ DF w r0 r1 r2 r3 r4 r5 r6 r7 r8 r9 r10 r11) ∧ Below w.heap.size w w' := by
  have HW := hid hw
  have HV := hid hz
  have HK := hid hk
  have HK2 := hid hk'
  have HP := hid hp
  have HP2 := hid hp'
  clear hw hz hk hk' hp hp'
  have KK := hid (three_new w (.cells #[.int .i64 x.n, .int .i64 x.s0, .int .i64 x.s1, .slice a0 a1 a2, .slice a3 a4 a5] 26) (.cells #[.int .i64 y.n, .int .i64 y.s0, .int .i64 y.s1, .slice b0 b1 b2, .slice b3 b4 b5] 26) (.cells #[.int .i64 0, .int .i64 0, .int .i64 0, .slice none 0 0, .slice none 0 0, .slice none 0 0, .slice none 0 0] 68))
  have tkA : True := trivial
  cases ga : stB m x was with
  | false =>
    have GA := hid ga
    have HZ := hid (And.intro (hC.out.symm.trans (bwC_no (bw_a (.inl ga)))) (hv.out.symm.trans (bw_a (.inl ga))))
    clear ga
    go_enter Try.func50, Try.ntmps50
    go_upto_region 1 with fail
    generalize ((w.alloc (.cells #[.int .i64 x.n, .int .i64 x.s0, .int .i64 x.s1, .slice a0 a1 a2, .slice a3 a4 a5] 26)).alloc (.cells #[.int .i64 y.n, .int .i64 y.s0, .int .i64 y.s1, .slice b0 b1 b2, .slice b3 b4 b5] 26)).alloc (.cells #[.int .i64 0, .int .i64 0, .int .i64 0, .slice none 0 0, .slice none 0 0, .slice none 0 0, .slice none 0 0] 68) = W at KK ⊢
    obtain ⟨N0, hN0⟩ : ∃ y, w.heap.size = y := ⟨_, rfl⟩
    obtain ⟨N1, hN1⟩ : ∃ y, N0 + 1 = y := ⟨_, rfl⟩
    obtain ⟨N2, hN2⟩ : ∃ y, N1 + 1 = y := ⟨_, rfl⟩
    rw [hN0, hN1, hN2] at KK
    (try rw [hN0]); (try rw [hN1]); (try rw [hN2])
    have HO : Hid (w.heap.size = N0 ∧ N0 < N1 ∧ N1 < N2) := hid (by omega)
    clear hN0 hN1 hN2
    have KA := hid KK.out.1
    have KB := hid KK.out.2.1
    have KR := hid KK.out.2.2
    clear KK
    obtain ⟨p0, p1, p2, p3, p4⟩ := box_five KA.out.2.2
    obtain ⟨q0, q1, q2, q3, q4⟩ := box_five KB.out.2.2
    go_upto_region 2 with (go_at_call 90; refine (stands_m _ x a0 a1 a2 a3 a4 a5 was false _ (HW.out.below KA.out.1) HK.out GA).mono ?_; rintro e w1 ⟨rfl, hb⟩; replace KA := hid (KA.out.step hb); replace KB := hid (KB.out.step hb); replace KR := hid (KR.out.step hb); clear hb p0 p1 p2 p3 p4 q0 q1 q2 q3 q4; obtain ⟨p0, p1, p2, p3, p4⟩ := box_five KA.out.2.2; obtain ⟨q0, q1, q2, q3, q4⟩ := box_five KB.out.2.2)
    go_wp2_with (refine wpList_store_whole rfl 68 (.tmp 10) (.tmp 27) rfl N2 (dlC 0 0 0 none 0 0 none 0 0 none 0 0 none 0 0) rfl rfl 68 _ KR.out.2.2 rfl (by show _ = some 7; exact size_dl) (dlC_one _ _ _ _ _ _ _ _ _ _ _ _ _ _ _) ?_; intro w9 hp9 hg9; have KR9 := hid (kp_at KR.out hg9 hp9); clear hp9 hg9)
    (try simp only [Exit.inBlock, Exit.then])
    show bodyPost Try.prog Try.f50 _ _ _ _
    refine bodyPost_ret (results_cell_slot (p := 10) (u := 11) rfl _ _ N2 _ (dlC 0 0 0 none 0 0 none 0 0 none 0 0 none 0 0) (0, 0) _ (.bool false) rfl rfl KR9.out.2.2 Try.underlying68 rfl (by kernel_rfl)) rfl ?_
    obtain ⟨q1, q2⟩ := HZ.out
    subst q1
    subst q2
    exact ⟨⟨none, 0, 0, none, 0, 0, none, 0, 0, none, 0, 0, rfl, dw_0 _, df_0 _⟩, KR9.out.1⟩
  | true =>
    have GA := hid ga
    cases gb : stB m y is with
    | false =>
      have GB := hid gb
      have HZ := hid (And.intro (hC.out.symm.trans (bwC_no (bw_a (.inr gb)))) (hv.out.symm.trans (bw_a (.inr gb))))
      clear ga gb
      go_enter Try.func50, Try.ntmps50
      go_upto_region 1 with fail
      generalize ((w.alloc (.cells #[.int .i64 x.n, .int .i64 x.s0, .int .i64 x.s1, .slice a0 a1 a2, .slice a3 a4 a5] 26)).alloc (.cells #[.int .i64 y.n, .int .i64 y.s0, .int .i64 y.s1, .slice b0 b1 b2, .slice b3 b4 b5] 26)).alloc (.cells #[.int .i64 0, .int .i64 0, .int .i64 0, .slice none 0 0, .slice none 0 0, .slice none 0 0, .slice none 0 0] 68) = W at KK ⊢
      obtain ⟨N0, hN0⟩ : ∃ y, w.heap.size = y := ⟨_, rfl⟩
      obtain ⟨N1, hN1⟩ : ∃ y, N0 + 1 = y := ⟨_, rfl⟩
      obtain ⟨N2, hN2⟩ : ∃ y, N1 + 1 = y := ⟨_, rfl⟩
      rw [hN0, hN1, hN2] at KK
      (try rw [hN0]); (try rw [hN1]); (try rw [hN2])
      have HO : Hid (w.heap.size = N0 ∧ N0 < N1 ∧ N1 < N2) := hid (by omega)
      clear hN0 hN1 hN2
      have KA := hid KK.out.1
      have KB := hid KK.out.2.1
      have KR := hid KK.out.2.2
      clear KK
      obtain ⟨p0, p1, p2, p3, p4⟩ := box_five KA.out.2.2
      obtain ⟨q0, q1, q2, q3, q4⟩ := box_five KB.out.2.2
      go_upto_region 2 with (first
        | (go_at_call 90; clear tkA; refine (stands_m _ x a0 a1 a2 a3 a4 a5 was true _ (HW.out.below KA.out.1) HK.out GA).mono ?_; rintro e w1 ⟨rfl, hb⟩; replace KA := hid (KA.out.step hb); replace KB := hid (KB.out.step hb); replace KR := hid (KR.out.step hb); clear hb p0 p1 p2 p3 p4 q0 q1 q2 q3 q4; obtain ⟨p0, p1, p2, p3, p4⟩ := box_five KA.out.2.2; obtain ⟨q0, q1, q2, q3, q4⟩ := box_five KB.out.2.2)
        | (go_at_call 90; refine (stands_m _ y b0 b1 b2 b3 b4 b5 is false _ (HV.out.below KA.out.1) HK2.out GB).mono ?_; rintro e w2 ⟨rfl, hb⟩; replace KA := hid (KA.out.step hb); replace KB := hid (KB.out.step hb); replace KR := hid (KR.out.step hb); clear hb p0 p1 p2 p3 p4 q0 q1 q2 q3 q4; obtain ⟨p0, p1, p2, p3, p4⟩ := box_five KA.out.2.2; obtain ⟨q0, q1, q2, q3, q4⟩ := box_five KB.out.2.2))
      go_wp2_with (refine wpList_store_whole rfl 68 (.tmp 10) (.tmp 27) rfl N2 (dlC 0 0 0 none 0 0 none 0 0 none 0 0 none 0 0) rfl rfl 68 _ KR.out.2.2 rfl (by show _ = some 7; exact size_dl) (dlC_one _ _ _ _ _ _ _ _ _ _ _ _ _ _ _) ?_; intro w9 hp9 hg9; have KR9 := hid (kp_at KR.out hg9 hp9); clear hp9 hg9)
      (try simp only [Exit.inBlock, Exit.then])
      show bodyPost Try.prog Try.f50 _ _ _ _
      refine bodyPost_ret (results_cell_slot (p := 10) (u := 11) rfl _ _ N2 _ (dlC 0 0 0 none 0 0 none 0 0 none 0 0 none 0 0) (0, 0) _ (.bool false) rfl rfl KR9.out.2.2 Try.underlying68 rfl (by kernel_rfl)) rfl ?_
      obtain ⟨q1, q2⟩ := HZ.out
      subst q1
      subst q2
      exact ⟨⟨none, 0, 0, none, 0, 0, none, 0, 0, none, 0, 0, rfl, dw_0 _, df_0 _⟩, KR9.out.1⟩
    | true =>
      have GB := hid gb
      have HE := hid (bw_eq ga gb)
      have BX := hid (st_bags ga)
      have BY := hid (st_bags gb)
      obtain ⟨na1, na2, _⟩ := BX.out.2
      obtain ⟨nb1, nb2, _⟩ := BY.out.2
      have hwn : IntKind.i64.wrap (y.n - x.n) = y.n - x.n := IntWalk.i64_in _ (by omega)
      clear ga gb
      obtain ⟨Fv, hFv⟩ : ∃ z, (calc.fitB (y.s0 - x.s0) && calc.fitB (y.s1 - x.s1)) = z := ⟨_, rfl⟩
      have FFv := hid hFv
      clear hFv
      rw [FFv.out] at HE
      obtain ⟨S0, hS0⟩ : ∃ z, (if Fv then y.s0 - x.s0 else 0) = z := ⟨_, rfl⟩
      have FS0 := hid hS0
      clear hS0
      obtain ⟨S1, hS1⟩ : ∃ z, (if Fv then y.s1 - x.s1 else 0) = z := ⟨_, rfl⟩
      have FS1 := hid hS1
      clear hS1
      obtain ⟨P0, hP0⟩ : ∃ z, lef y.b0 x.b0 = z := ⟨_, rfl⟩
      have FP0 := hid hP0
      clear hP0
      obtain ⟨P1, hP1⟩ : ∃ z, lef y.b1 x.b1 = z := ⟨_, rfl⟩
      have FP1 := hid hP1
      clear hP1
      obtain ⟨Q0, hQ0⟩ : ∃ z, lef x.b0 y.b0 = z := ⟨_, rfl⟩
      have FQ0 := hid hQ0
      clear hQ0
      obtain ⟨Q1, hQ1⟩ : ∃ z, lef x.b1 y.b1 = z := ⟨_, rfl⟩
      have FQ1 := hid hQ1
      clear hQ1
      obtain ⟨kp0, hkp0⟩ : ∃ z, P0.length = z := ⟨_, rfl⟩
      have Fkp0 := hid hkp0
      clear hkp0
      obtain ⟨kp1, hkp1⟩ : ∃ z, P1.length = z := ⟨_, rfl⟩
      have Fkp1 := hid hkp1
      clear hkp1
      obtain ⟨kq0, hkq0⟩ : ∃ z, Q0.length = z := ⟨_, rfl⟩
      have Fkq0 := hid hkq0
      clear hkq0
      obtain ⟨kq1, hkq1⟩ : ∃ z, Q1.length = z := ⟨_, rfl⟩
      have Fkq1 := hid hkq1
      clear hkq1
      go_enter Try.func50, Try.ntmps50
      go_upto_region 1 with fail
      generalize ((w.alloc (.cells #[.int .i64 x.n, .int .i64 x.s0, .int .i64 x.s1, .slice a0 a1 a2, .slice a3 a4 a5] 26)).alloc (.cells #[.int .i64 y.n, .int .i64 y.s0, .int .i64 y.s1, .slice b0 b1 b2, .slice b3 b4 b5] 26)).alloc (.cells #[.int .i64 0, .int .i64 0, .int .i64 0, .slice none 0 0, .slice none 0 0, .slice none 0 0, .slice none 0 0] 68) = W at KK ⊢
      obtain ⟨N0, hN0⟩ : ∃ y, w.heap.size = y := ⟨_, rfl⟩
      obtain ⟨N1, hN1⟩ : ∃ y, N0 + 1 = y := ⟨_, rfl⟩
      obtain ⟨N2, hN2⟩ : ∃ y, N1 + 1 = y := ⟨_, rfl⟩
      rw [hN0, hN1, hN2] at KK
      (try rw [hN0]); (try rw [hN1]); (try rw [hN2])
      have HO : Hid (w.heap.size = N0 ∧ N0 < N1 ∧ N1 < N2) := hid (by omega)
      clear hN0 hN1 hN2
      have KA := hid KK.out.1
      have KB := hid KK.out.2.1
      have KR := hid KK.out.2.2
      clear KK
      obtain ⟨p0, p1, p2, p3, p4⟩ := box_five KA.out.2.2
      obtain ⟨q0, q1, q2, q3, q4⟩ := box_five KB.out.2.2
      go_upto_region 3 with (first
        | (go_at_call 90; clear tkA; refine (stands_m _ x a0 a1 a2 a3 a4 a5 was true _ (HW.out.below KA.out.1) HK.out GA).mono ?_; rintro e w1 ⟨rfl, hb⟩; replace KA := hid (KA.out.step hb); replace KB := hid (KB.out.step hb); replace KR := hid (KR.out.step hb); clear hb p0 p1 p2 p3 p4 q0 q1 q2 q3 q4; obtain ⟨p0, p1, p2, p3, p4⟩ := box_five KA.out.2.2; obtain ⟨q0, q1, q2, q3, q4⟩ := box_five KB.out.2.2)
        | (go_at_call 90; refine (stands_m _ y b0 b1 b2 b3 b4 b5 is true _ (HV.out.below KA.out.1) HK2.out GB).mono ?_; rintro e w2 ⟨rfl, hb⟩; replace KA := hid (KA.out.step hb); replace KB := hid (KB.out.step hb); replace KR := hid (KR.out.step hb); clear hb p0 p1 p2 p3 p4 q0 q1 q2 q3 q4; obtain ⟨p0, p1, p2, p3, p4⟩ := box_five KA.out.2.2; obtain ⟨q0, q1, q2, q3, q4⟩ := box_five KB.out.2.2))
      go_upto_region 4 with (first
        | (go_at_call 77; refine (eachSub_m y.s0 y.s1 x.s0 x.s1 S0 S1 Fv _ ⟨HK2.out.2.1, HK2.out.2.2.1⟩ ⟨HK.out.2.1, HK.out.2.2.1⟩ FFv FS0 FS1).mono ?_; rintro e w3 ⟨rfl, hb⟩; replace KA := hid (KA.out.step hb); replace KB := hid (KB.out.step hb); replace KR := hid (KR.out.step hb); clear hb p0 p1 p2 p3 p4 q0 q1 q2 q3 q4; obtain ⟨p0, p1, p2, p3, p4⟩ := box_five KA.out.2.2; obtain ⟨q0, q1, q2, q3, q4⟩ := box_five KB.out.2.2)
        | (have KZ : Hid (Kp w (w3.alloc (.cells #[.int .i64 0, .int .i64 0] 22)) w3.heap.size (.cells #[.int .i64 0, .int .i64 0] 22)) := hid (kp_new2 KR.out.1 _ _ rfl); refine wpList_store_whole rfl 22 (.tmp 12) (.tmp 34) rfl w3.heap.size (aiC S0 S1) rfl rfl 22 _ KZ.out.2.2 rfl (by show _ = some 2; exact size_ai) (aiC_one _ _) ?_; intro w9 hp9 hg9; have K12 := hid (kp_at KZ.out hg9 hp9); have HK12 := hid (heap_lt KR.out.2.2); replace KA := hid (kp_new_gr KA.out hg9); replace KB := hid (kp_new_gr KB.out hg9); replace KR := hid (kp_new_gr KR.out hg9); clear hp9 hg9 KZ p0 p1 p2 p3 p4 q0 q1 q2 q3 q4; obtain ⟨p0, p1, p2, p3, p4⟩ := box_five KA.out.2.2; obtain ⟨q0, q1, q2, q3, q4⟩ := box_five KB.out.2.2))
      generalize w3.heap.size = N12 at K12 HK12 ⊢
      cases Fv with
      | false =>
        have HZ := hid (And.intro (hC.out.symm.trans (bwC_no (HE.out))) (hv.out.symm.trans (HE.out)))
        go_wp2_with (refine wpList_store_whole rfl 68 (.tmp 10) (.tmp 38) rfl N2 (dlC 0 0 0 none 0 0 none 0 0 none 0 0 none 0 0) rfl rfl 68 _ KR.out.2.2 rfl (by show _ = some 7; exact size_dl) (dlC_one _ _ _ _ _ _ _ _ _ _ _ _ _ _ _) ?_; intro w9 hp9 hg9; have KR9 := hid (kp_at KR.out hg9 hp9); clear hp9 hg9)
        (try simp only [Exit.inBlock, Exit.then])
        show bodyPost Try.prog Try.f50 _ _ _ _
        refine bodyPost_ret (results_cell_slot (p := 10) (u := 11) rfl _ _ N2 _ (dlC 0 0 0 none 0 0 none 0 0 none 0 0 none 0 0) (0, 0) _ (.bool false) rfl rfl KR9.out.2.2 Try.underlying68 rfl (by kernel_rfl)) rfl ?_
        obtain ⟨q1, q2⟩ := HZ.out
        subst q1
        subst q2
        exact ⟨⟨none, 0, 0, none, 0, 0, none, 0, 0, none, 0, 0, rfl, dw_0 _, df_0 _⟩, KR9.out.1⟩
      | true =>
        have VD := hid (hC.out.symm.trans (bwC_yes HE.out))
        have VV := hid (hv.out.symm.trans HE.out)
        have ES0 : Hid (y.s0 - x.s0 = S0) := FS0
        have ES1 : Hid (y.s1 - x.s1 = S1) := FS1
        clear FS0 FS1
        obtain ⟨g0, g1⟩ := box_two K12.out.2.2
        rename World => wj
        go_upto_region 7 with (have KZ : Hid (Kp w (wj.alloc (.cells #[.int .i64 0, .int .i64 0, .int .i64 0, .slice none 0 0, .slice none 0 0, .slice none 0 0, .slice none 0 0] 68)) wj.heap.size (.cells #[.int .i64 0, .int .i64 0, .int .i64 0, .slice none 0 0, .slice none 0 0, .slice none 0 0, .slice none 0 0] 68)) := hid (kp_new2 KR.out.1 _ _ rfl); refine wpList_store_whole rfl 68 (.tmp 14) (.tmp 45) rfl wj.heap.size (dlC (y.n - x.n) S0 S1 none 0 0 none 0 0 none 0 0 none 0 0) rfl rfl 68 _ KZ.out.2.2 rfl (by show _ = some 7; exact size_dl) (dlC_one _ _ _ _ _ _ _ _ _ _ _ _ _ _ _) ?_; intro w9 hp9 hg9; have KD := hid (kp_at KZ.out hg9 hp9); have HKD := hid (heap_lt KR.out.2.2); replace KA := hid (kp_new_gr KA.out hg9); replace KB := hid (kp_new_gr KB.out hg9); replace KR := hid (kp_new_gr KR.out hg9); clear hp9 hg9 KZ p0 p1 p2 p3 p4 q0 q1 q2 q3 q4; obtain ⟨p0, p1, p2, p3, p4⟩ := box_five KA.out.2.2; obtain ⟨q0, q1, q2, q3, q4⟩ := box_five KB.out.2.2)
        generalize wj.heap.size = N14 at KD HKD ⊢
        clear K12 HK12 g0 g1
        have y3 := kp_froz KD.out 3
        have y4 := kp_froz KD.out 4
        have y5 := kp_froz KD.out 5
        have y6 := kp_froz KD.out 6
        have z3 := kp_cell (j := 3) (v := .slice none 0 0) KD.out rfl
        have z4 := kp_cell (j := 4) (v := .slice none 0 0) KD.out rfl
        have z5 := kp_cell (j := 5) (v := .slice none 0 0) KD.out rfl
        have z6 := kp_cell (j := 6) (v := .slice none 0 0) KD.out rfl
        go_upto_region 8 with (go_at_call 84; refine (apart_m _ _ _ _ _ _ _ _ _ _ _ _ y.b0 y.b1 x.b0 x.b1 P0 P1 Q0 Q1 kp0 kp1 kq0 kq1 _ (HV.out.below KA.out.1) (HW.out.below KA.out.1) ⟨HK2.out.2.2.2.1, HK2.out.2.2.2.2⟩ ⟨HK.out.2.2.2.1, HK.out.2.2.2.2⟩ (by have h1 := HW.out.1.lens.1; have h2 := HW.out.2.lens.1; have h3 := HV.out.1.lens.1; have h4 := HV.out.2.lens.1; have h5 := HP.out; have h6 := HP2.out; omega) BY.out.1 BX.out.1 FP0 FP1 FQ0 FQ1 Fkp0 Fkp1 Fkq0 Fkq1).mono ?_; rintro e w6 ⟨⟨A0, c0, A1, c1, B0, d0, B1, d1, rfl, ⟨⟨hr0, hr1⟩, hr2, hr3⟩, ⟨hf0, hf1⟩, hf2, hf3⟩, hb⟩; have RA0 := hid hr0; have RA1 := hid hr1; have RB0 := hid hr2; have RB1 := hid hr3; have FA0 := hid (far_up hf0 (heap_lt KD.out.2.2)); have FA1 := hid (far_up hf1 (heap_lt KD.out.2.2)); have FB0 := hid (far_up hf2 (heap_lt KD.out.2.2)); have FB1 := hid (far_up hf3 (heap_lt KD.out.2.2)); have FW : Hid ((Far w A0 ∧ Far w A1) ∧ Far w B0 ∧ Far w B1) := hid ⟨⟨far_low hf0 KD.out.1.size, far_low hf1 KD.out.1.size⟩, far_low hf2 KD.out.1.size, far_low hf3 KD.out.1.size⟩; replace KR := hid (KR.out.step hb); replace KD := hid (KD.out.step hb); clear hr0 hr1 hr2 hr3 hf0 hf1 hf2 hf3 hb y3 y4 y5 y6 z3 z4 z5 z6; have y3 := kp_froz KD.out 3; have y4 := kp_froz KD.out 4; have y5 := kp_froz KD.out 5; have y6 := kp_froz KD.out 6; have z3 := kp_cell (j := 3) (v := .slice none 0 0) KD.out rfl; have z4 := kp_cell (j := 4) (v := .slice none 0 0) KD.out rfl; have z5 := kp_cell (j := 5) (v := .slice none 0 0) KD.out rfl; have z6 := kp_cell (j := 6) (v := .slice none 0 0) KD.out rfl)
        have KE : Hid (Kp w ((((w6.setCell ⟨N14, 3, none⟩ (.slice A0 kp0 c0)).setCell ⟨N14, 4, none⟩ (.slice A1 kp1 c1)).setCell ⟨N14, 5, none⟩ (.slice B0 kq0 d0)).setCell ⟨N14, 6, none⟩ (.slice B1 kq1 d1)) N14 (.cells (dlC (y.n - x.n) S0 S1 A0 kp0 c0 A1 kp1 c1 B0 kq0 d0 B1 kq1 d1) 68)) := hid (kp_set (j := 6) (v := .slice B1 kq1 d1) (kp_set (j := 5) (v := .slice B0 kq0 d0) (kp_set (j := 4) (v := .slice A1 kp1 c1) (kp_set (j := 3) (v := .slice A0 kp0 c0) KD.out))))
        have sg := (((set_grown w6 N14 3 (.slice A0 kp0 c0)).trans (set_grown _ N14 4 (.slice A1 kp1 c1))).trans (set_grown _ N14 5 (.slice B0 kq0 d0))).trans (set_grown _ N14 6 (.slice B1 kq1 d1))
        have HN : Hid (w.heap.size ≤ N2 ∧ N2 < N14) := hid (by have := HO.out; have := HKD.out; omega)
        replace KR := hid (kp_gr KR.out sg (by have := HN.out; omega) (by have := HN.out; omega))
        replace RA0 := hid (RA0.out.grown sg (fun b off e => by have := FA0.out b off e; omega))
        replace RA1 := hid (RA1.out.grown sg (fun b off e => by have := FA1.out b off e; omega))
        replace RB0 := hid (RB0.out.grown sg (fun b off e => by have := FB0.out b off e; omega))
        replace RB1 := hid (RB1.out.grown sg (fun b off e => by have := FB1.out b off e; omega))
        clear sg KD y3 y4 y5 y6 z3 z4 z5 z6
        generalize (((w6.setCell ⟨N14, 3, none⟩ (.slice A0 kp0 c0)).setCell ⟨N14, 4, none⟩ (.slice A1 kp1 c1)).setCell ⟨N14, 5, none⟩ (.slice B0 kq0 d0)).setCell ⟨N14, 6, none⟩ (.slice B1 kq1 d1) = W7 at KE KR RA0 RA1 RB0 RB1 ⊢
        obtain ⟨y0, y1, y2, y3, y4, y5, y6⟩ := box_seven KE.out.2.2
        go_wp2_with (refine wpList_store_whole rfl 68 (.tmp 10) (.tmp 56) rfl N2 (dlC (y.n - x.n) S0 S1 A0 kp0 c0 A1 kp1 c1 B0 kq0 d0 B1 kq1 d1) rfl rfl 68 _ KR.out.2.2 rfl (by show _ = some 7; exact size_dl) (dlC_one _ _ _ _ _ _ _ _ _ _ _ _ _ _ _) ?_; intro w9 hp9 hg9; have KR9 := hid (kp_at KR.out hg9 hp9); replace RA0 := hid (RA0.out.grown hg9 (fun b off e => by have := FA0.out b off e; have := HN.out; omega)); replace RA1 := hid (RA1.out.grown hg9 (fun b off e => by have := FA1.out b off e; have := HN.out; omega)); replace RB0 := hid (RB0.out.grown hg9 (fun b off e => by have := FB0.out b off e; have := HN.out; omega)); replace RB1 := hid (RB1.out.grown hg9 (fun b off e => by have := FB1.out b off e; have := HN.out; omega)); clear hp9 hg9)
        (try simp only [Exit.inBlock, Exit.then])
        show bodyPost Try.prog Try.f50 _ _ _ _
        refine bodyPost_ret (results_cell_slot (p := 10) (u := 11) rfl _ _ N2 _ (dlC (y.n - x.n) S0 S1 A0 kp0 c0 A1 kp1 c1 B0 kq0 d0 B1 kq1 d1) (0, 0) _ (.bool true) rfl rfl KR9.out.2.2 Try.underlying68 rfl (by kernel_rfl)) rfl ?_
        have vd := VD.out
        subst vd
        have vv := VV.out
        subst vv
        have es0 := ES0.out
        subst es0
        have es1 := ES1.out
        subst es1
        have ep0 := FP0.out
        subst ep0
        have ep1 := FP1.out
        subst ep1
        have eq0 := FQ0.out
        subst eq0
        have eq1 := FQ1.out
        subst eq1
        have ek0 := Fkp0.out
        subst ek0
        have ek1 := Fkp1.out
        subst ek1
        have ek2 := Fkq0.out
        subst ek2
        have ek3 := Fkq1.out
        subst ek3
        exact ⟨⟨A0, _, c0, A1, _, c1, B0, _, d0, B1, _, d1, rfl, ⟨⟨RA0.out, RA1.out⟩, RB0.out, RB1.out⟩, FW.out⟩, KR9.out.1⟩

end Go.Proofs.Ytjkkajhjcinalaa

namespace Go.Proofs.Ytjkkajhjcinalaa
open Go.ChangeShapes Go.WideShapes Go.ChangeAt Go.RowKit
set_option linter.unusedVariables false
set_option linter.unusedSimpArgs false
set_option maxRecDepth 100000

set_option maxHeartbeats 8000000 in
theorem dlight_m (d : Dl) (a0 : Option Addr) (a1 a2 : Nat) (a3 : Option Addr) (a4 a5 : Nat) (a6 : Option Addr) (a7 a8 : Nat) (a9 : Option Addr) (a10 a11 : Nat) (v : Bool) (w : World) (hw : DW w a0 a1 a2 a3 a4 a5 a6 a7 a8 a9 a10 a11 d) (hv : Hid (decide ((a1 ≤ 60 ∧ a4 ≤ 60) ∧ a7 ≤ 60 ∧ a10 ≤ 60) = v)) :
    Calls Try.prog 30 #[(.agg #[.int .i64 d.n, .int .i64 d.s0, .int .i64 d.s1, .slice a0 a1 a2, .slice a3 a4 a5, .slice a6 a7 a8, .slice a9 a10 a11])] w fun e w' => e = .returned (.bool v) ∧ Below w.heap.size w w' := by
  have K0 := hid (kp_new w (.cells #[.int .i64 d.n, .int .i64 d.s0, .int .i64 d.s1, .slice a0 a1 a2, .slice a3 a4 a5, .slice a6 a7 a8, .slice a9 a10 a11] 68))
  have h1 := hw.1.1.lens.2
  have h2 := hw.1.2.lens.2
  have h3 := hw.2.1.lens.2
  have h4 := hw.2.2.lens.2
  clear hw
  go_enter Try.func30, Try.ntmps30
  go_upto_region 1 with fail
  generalize w.alloc (.cells #[.int .i64 d.n, .int .i64 d.s0, .int .i64 d.s1, .slice a0 a1 a2, .slice a3 a4 a5, .slice a6 a7 a8, .slice a9 a10 a11] 68) = W at K0 ⊢
  have c3 := kp_cell (j := 3) (v := .slice a0 a1 a2) K0.out rfl
  have c5 := kp_cell (j := 5) (v := .slice a6 a7 a8) K0.out rfl
  go_upto_region 3 with fail
  refine wp_loop_rounds 3 ?_
  rw [rounds_succ]
  go_wp2
  go_quiet (fail)
  generalize hM : (if (if 0 < a1 then (a1 : Int) else 0) < (a7 : Int) then (a7 : Int) else if 0 < a1 then (a1 : Int) else 0) = M
  have HM := hid hM
  clear hM
  replace K0 : Hid (Kp w (W.drewN nq) w.heap.size (.cells #[.int .i64 d.n, .int .i64 d.s0, .int .i64 d.s1, .slice a0 a1 a2, .slice a3 a4 a5, .slice a6 a7 a8, .slice a9 a10 a11] 68)) := hid (K0.out.step (bdrewN (Below.refl _ _)))
  generalize W.drewN nq = W1 at K0 ⊢
  clear c3 c5
  have c4 := kp_cell (j := 4) (v := .slice a3 a4 a5) K0.out rfl
  have c6 := kp_cell (j := 6) (v := .slice a9 a10 a11) K0.out rfl
  go_wp2
  rw [rounds_succ]
  go_wp2
  go_quiet (fail)
  generalize hY : (if (if M < (a4 : Int) then (a4 : Int) else M) < (a10 : Int) then (a10 : Int) else if M < (a4 : Int) then (a4 : Int) else M) = Y
  have HY := hid hY
  clear hY
  replace K0 : Hid (Kp w (W1.drewN nq) w.heap.size (.cells #[.int .i64 d.n, .int .i64 d.s0, .int .i64 d.s1, .slice a0 a1 a2, .slice a3 a4 a5, .slice a6 a7 a8, .slice a9 a10 a11] 68)) := hid (K0.out.step (bdrewN (Below.refl _ _)))
  generalize W1.drewN nq = W2 at K0 ⊢
  clear c4 c6
  have hd : decide (Y ≤ 60) = v := by
    rw [← hv.out, ← HY.out, ← HM.out]
    refine decide_eq_decide.2 ?_
    split <;> split <;> split <;> omega
  clear HM HY
  go_wp2
  rw [rounds_succ]
  go_wp2
  go_ret
  exact ⟨by first | rfl | exact ret_bool hd, K0.out.1⟩

end Go.Proofs.Ytjkkajhjcinalaa

namespace Go.Proofs.Ytjkkajhjcinalaa
open Go.ChangeShapes Go.WideShapes Go.ChangeAt Go.RowKit
set_option linter.unusedVariables false
set_option linter.unusedSimpArgs false
set_option maxRecDepth 100000

theorem dw_new_gr {wr w' : World} {a0 : Option Addr} {a1 a2 : Nat} {a3 : Option Addr} {a4 a5 : Nat} {a6 : Option Addr} {a7 a8 : Nat} {a9 : Option Addr} {a10 a11 : Nat} {d : Dl} {Z : Obj} (h : DW wr a0 a1 a2 a3 a4 a5 a6 a7 a8 a9 a10 a11 d) (hg : (wr.alloc Z).grownBy w' (some wr.heap.size)) : DW w' a0 a1 a2 a3 a4 a5 a6 a7 a8 a9 a10 a11 d := ⟨⟨run_new_gr h.1.1 hg, run_new_gr h.1.2 hg⟩, run_new_gr h.2.1 hg, run_new_gr h.2.2 hg⟩
theorem cw_new_gr {wr w' : World} {a0 : Option Addr} {a1 a2 : Nat} {a3 : Option Addr} {a4 a5 : Nat} {c : Cl} {Z : Obj} (h : CW wr a0 a1 a2 a3 a4 a5 c) (hg : (wr.alloc Z).grownBy w' (some wr.heap.size)) : CW w' a0 a1 a2 a3 a4 a5 c := ⟨run_new_gr h.1 hg, run_new_gr h.2 hg⟩
theorem dw_len {w : World} {a0 : Option Addr} {a1 a2 : Nat} {a3 : Option Addr} {a4 a5 : Nat} {a6 : Option Addr} {a7 a8 : Nat} {a9 : Option Addr} {a10 a11 : Nat} {d : Dl} (h : DW w a0 a1 a2 a3 a4 a5 a6 a7 a8 a9 a10 a11 d) : (a1 = d.i0.length ∧ a4 = d.i1.length) ∧ a7 = d.o0.length ∧ a10 = d.o1.length := ⟨⟨h.1.1.lens.1, h.1.2.lens.1⟩, h.2.1.lens.1, h.2.2.lens.1⟩
def WD : Dl := ⟨1, 5, 0, [(5, 1)], [], [], []⟩
def WN : Dl := ⟨-1, -5, 0, [], [], [(5, 1)], []⟩
def WC : Cl := ⟨1, 5, 0, [(5, 1)], []⟩
theorem wd_of : ofdB 1 5 0 false = true ∧ ofdC 1 5 0 false = WD := ofd_come (.inl rfl)
theorem wd_neg : dnB 1 WD = true ∧ dnC 1 WD = WN := by
  have h : dnB 1 WD = true := by decide
  exact ⟨h, by rw [dnC_yes h]; rfl⟩
theorem wd_cell : ofB 1 [(0, 0, 0, 0, 5, 0)] = true ∧ ofC 1 [(0, 0, 0, 0, 5, 0)] = WC := by
  have h : ofB 1 [(0, 0, 0, 0, 5, 0)] = true := by decide
  exact ⟨h, by rw [ofC_yes h]; rfl⟩
theorem wd_app : daB 1 WC true WN = true ∧ daI 1 WC true WN = false ∧ daC 1 WC true WN = cl0 := by
  have h : daB 1 WC true WN = true := by decide
  have h' : daI 1 WC true WN = false := by decide
  exact ⟨h, h', by unfold daC; rw [h']; rfl⟩
theorem wd_join : djB 1 WD WN = true ∧ djC 1 WD WN = dl0 := by
  have h : djB 1 WD WN = true := by decide
  exact ⟨h, by rw [djC_yes h]; rfl⟩
theorem wd_btw : bwB 1 cl0 false WC true = true ∧ bwC 1 cl0 false WC true = WD := by
  have h : bwB 1 cl0 false WC true = true := by decide
  exact ⟨h, by rw [bwC_yes h]; rfl⟩
theorem wd_id0 : did 1 dl0 = true := by decide
theorem wd_id1 : did 1 WD = false := by decide
theorem wd_g1 : dg 1 WD = true := by decide
theorem wd_g2 : dg 2 WD = false := by decide
theorem wd_ok : okd WD := of1_ok (m := 1) (m0 := 5) (m1 := 0) (by unfold I64; decide) calc.i64_0
theorem wn_ok : okd WN := ⟨⟨by show I64 (-1); unfold I64; decide, by show I64 (-5); unfold I64; decide, calc.i64_0⟩, ⟨nok_nild, nok_nild⟩, one_nok (by unfold I64; decide), nok_nild⟩
theorem wc_ok : okc WC := ⟨by show I64 1; unfold I64; decide, by show I64 5; unfold I64; decide, calc.i64_0, one_nok (by unfold I64; decide), nok_nild⟩
theorem dl0_ok : okd dl0 := ⟨⟨calc.i64_0, calc.i64_0, calc.i64_0⟩, ⟨nok_nild, nok_nild⟩, nok_nild, nok_nild⟩
theorem wd_sh : sh5 WD := by unfold sh5 WD; decide
theorem wn_sh : sh5 WN := by unfold sh5 WN; decide
theorem dl0_sh : sh5 dl0 := by unfold sh5 dl0; decide

theorem box_six9 {w : World} {D : Nat} {t : TypeId} {a b c d e f : Value} (hD : w.heap[D]? = some (.cells #[a, b, c, d, e, f] t)) : w.cell? ⟨D, 0, none⟩ = some a ∧ w.cell? ⟨D, 1, none⟩ = some b ∧ w.cell? ⟨D, 2, none⟩ = some c ∧ w.cell? ⟨D, 3, none⟩ = some d ∧ w.cell? ⟨D, 4, none⟩ = some e ∧ w.cell? ⟨D, 5, none⟩ = some f := by
  refine ⟨?_, ?_, ?_, ?_, ?_, ?_⟩ <;> simp [World.cell?, hD]
theorem rrow_1 (w : World) (r : Rw) (N : Nat) (hN : w.heap.size = N) (t : TypeId) : RRow (w.alloc (.cells (rcs r).toArray t)) (some ⟨N, 0, none⟩) 1 1 [r] := by
  obtain ⟨a, b, c, d, e, f⟩ := r
  refine ⟨rfl, Nat.le_refl _, by decide, (fun h => by cases h), fun _ => ⟨N, 0, rfl, by simp; omega, fun j r hj i v hi => ?_⟩⟩
  have h := hnew (w := w) (o := .cells (rcs (a, b, c, d, e, f)).toArray t) hN
  match j, hj with
  | 0, hj =>
    simp at hj
    subst hj
    simp only [Nat.zero_add, Nat.zero_mul]
    rw [cell_of_row _ _ _ _ t (0, 0) h]
    simpa using hi
theorem wr1_ok : ∀ r ∈ [((0 : Int), (0 : Int), (0 : Int), (0 : Int), (5 : Int), (0 : Int))], rok r := by
  intro r hr
  simp at hr
  subst hr
  refine ⟨?_, ?_, ?_⟩
  · unfold U8; decide
  · unfold I64; decide
  · unfold I64; decide
set_option maxHeartbeats 32000000 in
theorem dwakes_any (w : World) : Calls Try.prog 31 #[] w fun e w' => e = .returned (.bool true) ∧ Below w.heap.size w w' := by
  have tkA : True := trivial
  have tkB : True := trivial
  go_enter Try.func31, Try.ntmps31
  go_upto_region 2 with fail
  have KR0 := hid (kp_new w (.cells #[.int .u8 0, .int .u8 0, .int .u8 0, .int .u8 0, .int .i64 0, .int .i64 0] 53))
  have y4 := kp_froz KR0.out 4
  have z4 := kp_cell (j := 4) (v := .int .i64 0) KR0.out rfl
  generalize w.alloc (.cells #[.int .u8 0, .int .u8 0, .int .u8 0, .int .u8 0, .int .i64 0, .int .i64 0] 53) = W0 at KR0 y4 z4 ⊢
  go_upto_region 3 with fail
  have KR1 : Hid (Kp w (W0.setCell ⟨w.heap.size, 4, none⟩ (.int .i64 5)) w.heap.size (.cells #[.int .u8 0, .int .u8 0, .int .u8 0, .int .u8 0, .int .i64 5, .int .i64 0] 53)) := hid (kp_set (j := 4) (v := .int .i64 5) KR0.out)
  clear KR0 y4 z4
  generalize W0.setCell ⟨w.heap.size, 4, none⟩ (.int .i64 5) = W1 at KR1 ⊢
  obtain ⟨N1, hN1⟩ : ∃ y, w.heap.size = y := ⟨_, rfl⟩
  have HN1 := hid hN1
  rw [hN1] at KR1 ⊢
  clear hN1
  obtain ⟨r0, r1, r2, r3, r4, r5⟩ := box_six9 KR1.out.2.2
  go_upto_region 4 with (first
    | (go_at_call 32; refine (dof_m 1 5 0 0 0 0 0 false WD true _ (by unfold I64; decide) calc.i64_0 (hid wd_of.2) (hid wd_of.1)).mono ?_; rintro e v1 ⟨⟨d0, d1, d2, d3, d4, d5, d6, d7, d8, d9, d10, d11, rfl, hd, _⟩, hb⟩; replace KR1 := hid (KR1.out.step hb); have DD := hid hd; clear hd hb r0 r1 r2 r3 r4 r5)
    | (have KZ : Hid (Kp w (v1.alloc (.cells #[.int .i64 0, .int .i64 0, .int .i64 0, .slice none 0 0, .slice none 0 0, .slice none 0 0, .slice none 0 0] 68)) v1.heap.size (.cells #[.int .i64 0, .int .i64 0, .int .i64 0, .slice none 0 0, .slice none 0 0, .slice none 0 0, .slice none 0 0] 68)) := hid (kp_new2 KR1.out.1 _ _ rfl); refine wpList_store_whole rfl 68 (.tmp 2) (.tmp 21) rfl v1.heap.size (dlC 1 5 0 d0 d1 d2 d3 d4 d5 d6 d7 d8 d9 d10 d11) rfl rfl 68 _ KZ.out.2.2 rfl (by show _ = some 7; exact size_dl) (dlC_one _ _ _ _ _ _ _ _ _ _ _ _ _ _ _) ?_; intro w9 hp9 hg9; have K2 := hid (kp_at KZ.out hg9 hp9); replace KR1 := hid (kp_new_gr KR1.out hg9); replace DD := hid (dw_new_gr DD.out hg9); clear hp9 hg9 KZ))
  generalize v1.heap.size = N2 at K2 ⊢
  obtain ⟨p0, p1, p2, p3, p4, p5, p6⟩ := box_seven K2.out.2.2
  go_upto_region 5 with (first
    | (go_at_call 36; refine (dneg_m 1 WD d0 d1 d2 d3 d4 d5 d6 d7 d8 d9 d10 d11 WN true _ DD.out wd_ok (sh5_shd wd_sh) (hid wd_neg.2) (hid wd_neg.1)).mono ?_; rintro e v2 ⟨⟨n0, n1, n2, n3, n4, n5, n6, n7, n8, n9, n10, n11, rfl, hd, _⟩, hb⟩; replace KR1 := hid (KR1.out.step hb); replace DD := hid (DD.out.below hb); replace K2 := hid (K2.out.step hb); have DN := hid hd; clear hd hb p0 p1 p2 p3 p4 p5 p6)
    | (have KZ : Hid (Kp w (v2.alloc (.cells #[.int .i64 0, .int .i64 0, .int .i64 0, .slice none 0 0, .slice none 0 0, .slice none 0 0, .slice none 0 0] 68)) v2.heap.size (.cells #[.int .i64 0, .int .i64 0, .int .i64 0, .slice none 0 0, .slice none 0 0, .slice none 0 0, .slice none 0 0] 68)) := hid (kp_new2 KR1.out.1 _ _ rfl); refine wpList_store_whole rfl 68 (.tmp 4) (.tmp 26) rfl v2.heap.size (dlC (-1) (-5) 0 n0 n1 n2 n3 n4 n5 n6 n7 n8 n9 n10 n11) rfl rfl 68 _ KZ.out.2.2 rfl (by show _ = some 7; exact size_dl) (dlC_one _ _ _ _ _ _ _ _ _ _ _ _ _ _ _) ?_; intro w9 hp9 hg9; have K4 := hid (kp_at KZ.out hg9 hp9); replace KR1 := hid (kp_new_gr KR1.out hg9); replace DD := hid (dw_new_gr DD.out hg9); replace K2 := hid (kp_new_gr K2.out hg9); replace DN := hid (dw_new_gr DN.out hg9); clear hp9 hg9 KZ))
  generalize v2.heap.size = N4 at K4 ⊢
  obtain ⟨r0, r1, r2, r3, r4, r5⟩ := box_six9 KR1.out.2.2
  rename World => u3
  have RR := hid (rrow_1 u3 (0, 0, 0, 0, 5, 0) u3.heap.size rfl 53)
  replace KR1 := hid (kp_alloc KR1.out (.cells (rcs (0, 0, 0, 0, 5, 0)).toArray 53))
  replace DD := hid (DD.out.below (b1alloc u3 (.cells (rcs (0, 0, 0, 0, 5, 0)).toArray 53)))
  replace K2 := hid (kp_alloc K2.out (.cells (rcs (0, 0, 0, 0, 5, 0)).toArray 53))
  replace DN := hid (DN.out.below (b1alloc u3 (.cells (rcs (0, 0, 0, 0, 5, 0)).toArray 53)))
  replace K4 := hid (kp_alloc K4.out (.cells (rcs (0, 0, 0, 0, 5, 0)).toArray 53))
  go_upto_region 6 with (first
    | (go_at_call 17; refine (cof_m 1 _ _ _ [(0, 0, 0, 0, 5, 0)] WC true _ RR.out wr1_ok (by decide) (hid wd_cell.2) (hid wd_cell.1)).mono ?_; rintro e v3 ⟨⟨c0, c1, c2, c3, c4, c5, rfl, hd⟩, hb⟩; replace KR1 := hid (KR1.out.step hb); replace DD := hid (DD.out.below hb); replace K2 := hid (K2.out.step hb); replace DN := hid (DN.out.below hb); replace K4 := hid (K4.out.step hb); have CC := hid hd; clear hd hb r0 r1 r2 r3 r4 r5)
    | (have KZ : Hid (Kp w (v3.alloc (.cells #[.int .i64 0, .int .i64 0, .int .i64 0, .slice none 0 0, .slice none 0 0] 26)) v3.heap.size (.cells #[.int .i64 0, .int .i64 0, .int .i64 0, .slice none 0 0, .slice none 0 0] 26)) := hid (kp_new2 KR1.out.1 _ _ rfl); refine wpList_store_whole rfl 26 (.tmp 6) (.tmp 32) rfl v3.heap.size (clC 1 5 0 c0 c1 c2 c3 c4 c5) rfl rfl 26 _ KZ.out.2.2 rfl (by show _ = some 5; exact size_cl) (clC_one _ _ _ _ _ _ _ _ _) ?_; intro w9 hp9 hg9; have K6 := hid (kp_at KZ.out hg9 hp9); replace KR1 := hid (kp_new_gr KR1.out hg9); replace DD := hid (dw_new_gr DD.out hg9); replace K2 := hid (kp_new_gr K2.out hg9); replace DN := hid (dw_new_gr DN.out hg9); replace K4 := hid (kp_new_gr K4.out hg9); replace CC := hid (cw_new_gr CC.out hg9); clear hp9 hg9 KZ))
  generalize v3.heap.size = N6 at K6 ⊢
  obtain ⟨q0, q1, q2, q3, q4⟩ := box_five K6.out.2.2
  obtain ⟨p0, p1, p2, p3, p4, p5, p6⟩ := box_seven K4.out.2.2
  go_upto_region 7 with (first
    | (go_at_call 49; refine (dapply_m 1 WC c0 c1 c2 c3 c4 c5 true WN n0 n1 n2 n3 n4 n5 n6 n7 n8 n9 n10 n11 cl0 false true _ CC.out DN.out wc_ok wn_ok (by decide) wn_sh (hid wd_app.2.2) (hid wd_app.2.1) (hid wd_app.1)).mono ?_; rintro e v4 ⟨⟨x0, x1, x2, x3, x4, x5, rfl, hd, _⟩, hb⟩; replace KR1 := hid (KR1.out.step hb); replace DD := hid (DD.out.below hb); replace K2 := hid (K2.out.step hb); replace DN := hid (DN.out.below hb); replace K4 := hid (K4.out.step hb); replace CC := hid (CC.out.below hb); replace K6 := hid (K6.out.step hb); have CX := hid hd; clear hd hb p0 p1 p2 p3 p4 p5 p6 q0 q1 q2 q3 q4)
    | (have KZ : Hid (Kp w (v4.alloc (.cells #[.int .i64 0, .int .i64 0, .int .i64 0, .slice none 0 0, .slice none 0 0] 26)) v4.heap.size (.cells #[.int .i64 0, .int .i64 0, .int .i64 0, .slice none 0 0, .slice none 0 0] 26)) := hid (kp_new2 KR1.out.1 _ _ rfl); refine wpList_store_whole rfl 26 (.tmp 8) (.tmp 38) rfl v4.heap.size (clC 0 0 0 x0 x1 x2 x3 x4 x5) rfl rfl 26 _ KZ.out.2.2 rfl (by show _ = some 5; exact size_cl) (clC_one _ _ _ _ _ _ _ _ _) ?_; intro w9 hp9 hg9; have K8 := hid (kp_at KZ.out hg9 hp9); replace KR1 := hid (kp_new_gr KR1.out hg9); replace DD := hid (dw_new_gr DD.out hg9); replace K2 := hid (kp_new_gr K2.out hg9); replace DN := hid (dw_new_gr DN.out hg9); replace K4 := hid (kp_new_gr K4.out hg9); replace CC := hid (cw_new_gr CC.out hg9); replace K6 := hid (kp_new_gr K6.out hg9); replace CX := hid (cw_new_gr CX.out hg9); clear hp9 hg9 KZ))
  generalize v4.heap.size = N8 at K8 ⊢
  obtain ⟨p0, p1, p2, p3, p4, p5, p6⟩ := box_seven K2.out.2.2
  obtain ⟨q0, q1, q2, q3, q4, q5, q6⟩ := box_seven K4.out.2.2
  go_upto_region 8 with (first
    | (go_at_call 42; refine (djoin_m 1 WD WN d0 d1 d2 d3 d4 d5 d6 d7 d8 d9 d10 d11 n0 n1 n2 n3 n4 n5 n6 n7 n8 n9 n10 n11 dl0 true _ DD.out DN.out wd_ok wn_ok wd_sh wn_sh (hid wd_join.2) (hid wd_join.1)).mono ?_; rintro e v5 ⟨⟨j0, j1, j2, j3, j4, j5, j6, j7, j8, j9, j10, j11, rfl, hd, _⟩, hb⟩; replace KR1 := hid (KR1.out.step hb); replace DD := hid (DD.out.below hb); replace K2 := hid (K2.out.step hb); replace DN := hid (DN.out.below hb); replace K4 := hid (K4.out.step hb); replace CC := hid (CC.out.below hb); replace K6 := hid (K6.out.step hb); replace CX := hid (CX.out.below hb); replace K8 := hid (K8.out.step hb); have DJ := hid hd; clear hd hb p0 p1 p2 p3 p4 p5 p6 q0 q1 q2 q3 q4 q5 q6)
    | (have KZ : Hid (Kp w (v5.alloc (.cells #[.int .i64 0, .int .i64 0, .int .i64 0, .slice none 0 0, .slice none 0 0, .slice none 0 0, .slice none 0 0] 68)) v5.heap.size (.cells #[.int .i64 0, .int .i64 0, .int .i64 0, .slice none 0 0, .slice none 0 0, .slice none 0 0, .slice none 0 0] 68)) := hid (kp_new2 KR1.out.1 _ _ rfl); refine wpList_store_whole rfl 68 (.tmp 11) (.tmp 45) rfl v5.heap.size (dlC 0 0 0 j0 j1 j2 j3 j4 j5 j6 j7 j8 j9 j10 j11) rfl rfl 68 _ KZ.out.2.2 rfl (by show _ = some 7; exact size_dl) (dlC_one _ _ _ _ _ _ _ _ _ _ _ _ _ _ _) ?_; intro w9 hp9 hg9; have K11 := hid (kp_at KZ.out hg9 hp9); replace KR1 := hid (kp_new_gr KR1.out hg9); replace DD := hid (dw_new_gr DD.out hg9); replace K2 := hid (kp_new_gr K2.out hg9); replace DN := hid (dw_new_gr DN.out hg9); replace K4 := hid (kp_new_gr K4.out hg9); replace CC := hid (cw_new_gr CC.out hg9); replace K6 := hid (kp_new_gr K6.out hg9); replace CX := hid (cw_new_gr CX.out hg9); replace K8 := hid (kp_new_gr K8.out hg9); replace DJ := hid (dw_new_gr DJ.out hg9); clear hp9 hg9 KZ))
  generalize v5.heap.size = N11 at K11 ⊢
  obtain ⟨q0, q1, q2, q3, q4⟩ := box_five K6.out.2.2
  have ld := (dw_len DD.out).1.1
  have ln := (dw_len DN.out).2.1
  have ld2 : d1 = 1 := ld
  have ln2 : n7 = 1 := ln
  clear ld ln
  subst ld2
  subst ln2
  clear tkA tkB
  have tkA : True := trivial
  have tkB : True := trivial
  go_wp2_with (first
    | (go_at_call 50; refine (dbetween_m 1 cl0 none 0 0 none 0 0 false WC c0 c1 c2 c3 c4 c5 true WD true _ (cw_nil _) CC.out okc_0d wc_ok (by decide) (by decide) (hid wd_btw.2) (hid wd_btw.1)).mono ?_; rintro e v6 ⟨⟨b0, b1, b2, b3, b4, b5, b6, b7, b8, b9, b10, b11, rfl, hd, _⟩, hb⟩; replace KR1 := hid (KR1.out.step hb); replace DD := hid (DD.out.below hb); replace K2 := hid (K2.out.step hb); replace DN := hid (DN.out.below hb); replace K4 := hid (K4.out.step hb); replace CC := hid (CC.out.below hb); replace K6 := hid (K6.out.step hb); replace CX := hid (CX.out.below hb); replace K8 := hid (K8.out.step hb); replace DJ := hid (DJ.out.below hb); replace K11 := hid (K11.out.step hb); have DB := hid hd; clear hd hb q0 q1 q2 q3 q4)
    | (have KZ : Hid (Kp w (v6.alloc (.cells #[.int .i64 0, .int .i64 0, .int .i64 0, .slice none 0 0, .slice none 0 0, .slice none 0 0, .slice none 0 0] 68)) v6.heap.size (.cells #[.int .i64 0, .int .i64 0, .int .i64 0, .slice none 0 0, .slice none 0 0, .slice none 0 0, .slice none 0 0] 68)) := hid (kp_new2 KR1.out.1 _ _ rfl); refine wpList_store_whole rfl 68 (.tmp 13) (.tmp 51) rfl v6.heap.size (dlC 1 5 0 b0 b1 b2 b3 b4 b5 b6 b7 b8 b9 b10 b11) rfl rfl 68 _ KZ.out.2.2 rfl (by show _ = some 7; exact size_dl) (dlC_one _ _ _ _ _ _ _ _ _ _ _ _ _ _ _) ?_; intro w9 hp9 hg9; have K13 := hid (kp_at KZ.out hg9 hp9); replace KR1 := hid (kp_new_gr KR1.out hg9); replace DD := hid (dw_new_gr DD.out hg9); replace K2 := hid (kp_new_gr K2.out hg9); replace DN := hid (dw_new_gr DN.out hg9); replace K4 := hid (kp_new_gr K4.out hg9); replace CC := hid (cw_new_gr CC.out hg9); replace K6 := hid (kp_new_gr K6.out hg9); replace CX := hid (cw_new_gr CX.out hg9); replace K8 := hid (kp_new_gr K8.out hg9); replace DJ := hid (dw_new_gr DJ.out hg9); replace K11 := hid (kp_new_gr K11.out hg9); replace DB := hid (dw_new_gr DB.out hg9); clear hp9 hg9 KZ; have KX := hid (And.intro K2.out (And.intro K4.out (And.intro K11.out (And.intro K8.out K13.out)))); obtain ⟨p0, p1, p2, p3, p4, p5, p6⟩ := box_seven K2.out.2.2; obtain ⟨q0, q1, q2, q3, q4, q5, q6⟩ := box_seven K4.out.2.2; obtain ⟨s0, s1, s2, s3, s4, s5, s6⟩ := box_seven K11.out.2.2; obtain ⟨t0, t1, t2, t3, t4, t5, t6⟩ := box_seven K13.out.2.2; obtain ⟨u0, u1, u2, u3, u4⟩ := box_five K8.out.2.2; clear KX)
    | (go_at_call 40; clear tkA; refine (didle_m 1 dl0 _ _ _ _ _ _ _ _ _ _ _ _ true _ DJ.out dl0_ok (sh5_shd dl0_sh) (hid wd_id0)).mono ?_; rintro e i1 ⟨rfl, hb⟩; replace KR1 := hid (KR1.out.step hb); replace DD := hid (DD.out.below hb); replace K2 := hid (K2.out.step hb); replace DN := hid (DN.out.below hb); replace K4 := hid (K4.out.step hb); replace CC := hid (CC.out.below hb); replace K6 := hid (K6.out.step hb); replace CX := hid (CX.out.below hb); replace K8 := hid (K8.out.step hb); replace DJ := hid (DJ.out.below hb); replace K11 := hid (K11.out.step hb); replace DB := hid (DB.out.below hb); replace K13 := hid (K13.out.step hb); clear p0 p1 p2 p3 p4 p5 p6 q0 q1 q2 q3 q4 q5 q6 s0 s1 s2 s3 s4 s5 s6 t0 t1 t2 t3 t4 t5 t6 u0 u1 u2 u3 u4; clear hb; have KX := hid (And.intro K2.out (And.intro K4.out (And.intro K11.out (And.intro K8.out K13.out)))); obtain ⟨p0, p1, p2, p3, p4, p5, p6⟩ := box_seven K2.out.2.2; obtain ⟨q0, q1, q2, q3, q4, q5, q6⟩ := box_seven K4.out.2.2; obtain ⟨s0, s1, s2, s3, s4, s5, s6⟩ := box_seven K11.out.2.2; obtain ⟨t0, t1, t2, t3, t4, t5, t6⟩ := box_seven K13.out.2.2; obtain ⟨u0, u1, u2, u3, u4⟩ := box_five K8.out.2.2; clear KX)
    | (go_at_call 40; refine (didle_m 1 WD _ _ _ _ _ _ _ _ _ _ _ _ false _ DD.out wd_ok (sh5_shd wd_sh) (hid wd_id1)).mono ?_; rintro e i2 ⟨rfl, hb⟩; replace KR1 := hid (KR1.out.step hb); replace DD := hid (DD.out.below hb); replace K2 := hid (K2.out.step hb); replace DN := hid (DN.out.below hb); replace K4 := hid (K4.out.step hb); replace CC := hid (CC.out.below hb); replace K6 := hid (K6.out.step hb); replace CX := hid (CX.out.below hb); replace K8 := hid (K8.out.step hb); replace DJ := hid (DJ.out.below hb); replace K11 := hid (K11.out.step hb); replace DB := hid (DB.out.below hb); replace K13 := hid (K13.out.step hb); clear p0 p1 p2 p3 p4 p5 p6 q0 q1 q2 q3 q4 q5 q6 s0 s1 s2 s3 s4 s5 s6 t0 t1 t2 t3 t4 t5 t6 u0 u1 u2 u3 u4; clear hb; have KX := hid (And.intro K2.out (And.intro K4.out (And.intro K11.out (And.intro K8.out K13.out)))); obtain ⟨p0, p1, p2, p3, p4, p5, p6⟩ := box_seven K2.out.2.2; obtain ⟨q0, q1, q2, q3, q4, q5, q6⟩ := box_seven K4.out.2.2; obtain ⟨s0, s1, s2, s3, s4, s5, s6⟩ := box_seven K11.out.2.2; obtain ⟨t0, t1, t2, t3, t4, t5, t6⟩ := box_seven K13.out.2.2; obtain ⟨u0, u1, u2, u3, u4⟩ := box_five K8.out.2.2; clear KX)
    | (go_at_call 44; refine (dsame_m WD WD _ _ _ _ _ _ _ _ _ _ _ _ _ _ _ _ _ _ _ _ _ _ _ _ true _ DB.out DD.out (hid (dsm_self _))).mono ?_; rintro e i3 ⟨rfl, hb⟩; replace KR1 := hid (KR1.out.step hb); replace DD := hid (DD.out.below hb); replace K2 := hid (K2.out.step hb); replace DN := hid (DN.out.below hb); replace K4 := hid (K4.out.step hb); replace CC := hid (CC.out.below hb); replace K6 := hid (K6.out.step hb); replace CX := hid (CX.out.below hb); replace K8 := hid (K8.out.step hb); replace DJ := hid (DJ.out.below hb); replace K11 := hid (K11.out.step hb); replace DB := hid (DB.out.below hb); replace K13 := hid (K13.out.step hb); clear p0 p1 p2 p3 p4 p5 p6 q0 q1 q2 q3 q4 q5 q6 s0 s1 s2 s3 s4 s5 s6 t0 t1 t2 t3 t4 t5 t6 u0 u1 u2 u3 u4; clear hb; have KX := hid (And.intro K2.out (And.intro K4.out (And.intro K11.out (And.intro K8.out K13.out)))); obtain ⟨p0, p1, p2, p3, p4, p5, p6⟩ := box_seven K2.out.2.2; obtain ⟨q0, q1, q2, q3, q4, q5, q6⟩ := box_seven K4.out.2.2; obtain ⟨s0, s1, s2, s3, s4, s5, s6⟩ := box_seven K11.out.2.2; obtain ⟨t0, t1, t2, t3, t4, t5, t6⟩ := box_seven K13.out.2.2; obtain ⟨u0, u1, u2, u3, u4⟩ := box_five K8.out.2.2; clear KX)
    | (go_at_call 38; clear tkB; refine (dgood_m 1 WD _ _ _ _ _ _ _ _ _ _ _ _ true _ DD.out wd_ok (sh5_shd wd_sh) (hid wd_g1)).mono ?_; rintro e i4 ⟨rfl, hb⟩; replace KR1 := hid (KR1.out.step hb); replace DD := hid (DD.out.below hb); replace K2 := hid (K2.out.step hb); replace DN := hid (DN.out.below hb); replace K4 := hid (K4.out.step hb); replace CC := hid (CC.out.below hb); replace K6 := hid (K6.out.step hb); replace CX := hid (CX.out.below hb); replace K8 := hid (K8.out.step hb); replace DJ := hid (DJ.out.below hb); replace K11 := hid (K11.out.step hb); replace DB := hid (DB.out.below hb); replace K13 := hid (K13.out.step hb); clear p0 p1 p2 p3 p4 p5 p6 q0 q1 q2 q3 q4 q5 q6 s0 s1 s2 s3 s4 s5 s6 t0 t1 t2 t3 t4 t5 t6 u0 u1 u2 u3 u4; clear hb; have KX := hid (And.intro K2.out (And.intro K4.out (And.intro K11.out (And.intro K8.out K13.out)))); obtain ⟨p0, p1, p2, p3, p4, p5, p6⟩ := box_seven K2.out.2.2; obtain ⟨q0, q1, q2, q3, q4, q5, q6⟩ := box_seven K4.out.2.2; obtain ⟨s0, s1, s2, s3, s4, s5, s6⟩ := box_seven K11.out.2.2; obtain ⟨t0, t1, t2, t3, t4, t5, t6⟩ := box_seven K13.out.2.2; obtain ⟨u0, u1, u2, u3, u4⟩ := box_five K8.out.2.2; clear KX)
    | (go_at_call 38; refine (dgood_m 2 WD _ _ _ _ _ _ _ _ _ _ _ _ false _ DD.out wd_ok (sh5_shd wd_sh) (hid wd_g2)).mono ?_; rintro e i5 ⟨rfl, hb⟩; replace KR1 := hid (KR1.out.step hb); replace DD := hid (DD.out.below hb); replace K2 := hid (K2.out.step hb); replace DN := hid (DN.out.below hb); replace K4 := hid (K4.out.step hb); replace CC := hid (CC.out.below hb); replace K6 := hid (K6.out.step hb); replace CX := hid (CX.out.below hb); replace K8 := hid (K8.out.step hb); replace DJ := hid (DJ.out.below hb); replace K11 := hid (K11.out.step hb); replace DB := hid (DB.out.below hb); replace K13 := hid (K13.out.step hb); clear p0 p1 p2 p3 p4 p5 p6 q0 q1 q2 q3 q4 q5 q6 s0 s1 s2 s3 s4 s5 s6 t0 t1 t2 t3 t4 t5 t6 u0 u1 u2 u3 u4; clear hb; have KX := hid (And.intro K2.out (And.intro K4.out (And.intro K11.out (And.intro K8.out K13.out)))); obtain ⟨p0, p1, p2, p3, p4, p5, p6⟩ := box_seven K2.out.2.2; obtain ⟨q0, q1, q2, q3, q4, q5, q6⟩ := box_seven K4.out.2.2; obtain ⟨s0, s1, s2, s3, s4, s5, s6⟩ := box_seven K11.out.2.2; obtain ⟨t0, t1, t2, t3, t4, t5, t6⟩ := box_seven K13.out.2.2; obtain ⟨u0, u1, u2, u3, u4⟩ := box_five K8.out.2.2; clear KX))
  go_ret
  exact ⟨rfl, by have := KR1.out.1; exact this⟩

end Go.Proofs.Ytjkkajhjcinalaa

namespace Go.Proofs.Ytjkkajhjcinalaa
open Go.RowKit
set_option linter.unusedVariables false
set_option linter.unusedSimpArgs false
set_option maxRecDepth 100000

/-- What is joined is sound, and no longer than both. -/
theorem djC_ok {m : Int} {a b : Dl} (ka : okd a) (kb : okd b) : okd (djC m a b) := by
  cases h : djB m a b with
  | false => rw [djC_no h]; exact dl0_ok
  | true =>
    have p := (dj_parts h).2
    have n := dj_nok h ka kb
    have g := djR_good h
    have gn := dg_n g
    obtain ⟨_, _, _, _, f0, f1⟩ := djB_iff.1 h
    rw [djC_yes h]
    obtain ⟨⟨p1, p2⟩, p3, p4⟩ := p
    obtain ⟨⟨n1, n2⟩, n3, n4⟩ := n
    exact ⟨⟨by unfold I64; omega, fitB_iff.1 f0, fitB_iff.1 f1⟩, ⟨lef_nok n1 p1.1 p1.2.1 p3.2.1, lef_nok n2 p2.1 p2.2.1 p4.2.1⟩, lef_nok n3 p3.1 p3.2.1 p1.2.1, lef_nok n4 p4.1 p4.2.1 p2.2.1⟩
/-- Its bags are no longer than so. -/
def shn (k : Nat) (d : Dl) : Prop := (d.i0.length ≤ k ∧ d.i1.length ≤ k) ∧ d.o0.length ≤ k ∧ d.o1.length ≤ k
theorem shn_5 {k : Nat} {d : Dl} (h : shn k d) (hk : k ≤ 500) : sh5 d := by
  obtain ⟨⟨h1, h2⟩, h3, h4⟩ := h
  exact ⟨⟨by omega, by omega⟩, by omega, by omega⟩
theorem djC_sh {m : Int} {a b : Dl} {k n : Nat} (ha : shn k a) (hb : shn n b) : shn (k + n) (djC m a b) := by
  cases h : djB m a b with
  | false => rw [djC_no h]; exact ⟨⟨Nat.zero_le _, Nat.zero_le _⟩, Nat.zero_le _, Nat.zero_le _⟩
  | true =>
    obtain ⟨⟨p1, p2⟩, p3, p4⟩ := (dj_parts h).2
    rw [djC_yes h]
    have l1 := lef_len p1.1 p1.2.1 p3.2.1
    have l2 := lef_len p2.1 p2.2.1 p4.2.1
    have l3 := lef_len p3.1 p3.2.1 p1.2.1
    have l4 := lef_len p4.1 p4.2.1 p2.2.1
    have m1 := jnl_len a.i0 b.i0
    have m2 := jnl_len a.i1 b.i1
    have m3 := jnl_len a.o0 b.o0
    have m4 := jnl_len a.o1 b.o1
    obtain ⟨⟨a1, a2⟩, a3, a4⟩ := ha
    obtain ⟨⟨b1, b2⟩, b3, b4⟩ := hb
    exact ⟨⟨by show (lef _ _).length ≤ _; omega, by show (lef _ _).length ≤ _; omega⟩, by show (lef _ _).length ≤ _; omega, by show (lef _ _).length ≤ _; omega⟩
theorem dnC_ok {m : Int} {a : Dl} (ka : okd a) : okd (dnC m a) := by
  cases h : dnB m a with
  | false => rw [dnC_no h]; exact dl0_ok
  | true =>
    rw [dnC_yes h]
    have g : DG m a := by
      unfold dnB at h
      rw [Bool.and_eq_true] at h
      exact dg_iff.1 h.1
    have e := dn_eq g
    rw [h, Int.zero_sub, Int.zero_sub] at e
    have e' := e.symm
    rw [Bool.and_eq_true] at e'
    have gn := dg_n g
    obtain ⟨_, ⟨k1, k2⟩, k3, k4⟩ := ka
    exact ⟨⟨by show I64 (-a.n); unfold I64; omega, fitB_iff.1 e'.1, fitB_iff.1 e'.2⟩, ⟨k3, k4⟩, k1, k2⟩
theorem dnC_sh {m : Int} {a : Dl} {k : Nat} (ha : shn k a) : shn k (dnC m a) := by
  cases h : dnB m a with
  | false => rw [dnC_no h]; exact ⟨⟨Nat.zero_le _, Nat.zero_le _⟩, Nat.zero_le _, Nat.zero_le _⟩
  | true => rw [dnC_yes h]; exact ⟨ha.2, ha.1⟩

end Go.Proofs.Ytjkkajhjcinalaa

namespace Go.Proofs.Ytjkkajhjcinalaa
open Go.ChangeShapes Go.WideShapes Go.ChangeAt Go.RowKit
set_option linter.unusedVariables false
set_option linter.unusedSimpArgs false
set_option maxRecDepth 100000

theorem open_runs_cl {H : Type} {enc : TypeId × Value → H} {W : World} {base fuel : Nat} {c0 : Value} {x : DataW H × List MemPlace}
    (hf : DataW.trod enc Try.prog W base (fun _ => true) true fuel 23 [c0] = some x) : ∃ a n c l, c0 = .slice a n c ∧ NRun W a n c l ∧ ∀ r ∈ l, nok r := by
  rcases Go.Deep.open_slice Try.underlying23 hf with ⟨hcs, _⟩ | ⟨ad, len, cap, m, n', D, Pl, hcs, hb, hl, hm, hmm, _, hx⟩
  · simp at hcs
    subst hcs
    exact ⟨none, 0, 0, [], rfl, nrun_nil W, fun r hr => by cases hr⟩
  · simp at hcs
    subst hcs
    simp only [if_true] at hmm
    have each : ∀ i, i < len → ∃ q : Rn, nok q ∧ ∀ k v, (ncs q)[k]? = some v → W.cell? (ad.add (i * 2 + k)) = some v := by
      intro i hi
      obtain ⟨cs', h1, h2⟩ := hx i (by omega)
      rw [cells_nr] at h1
      obtain ⟨_, hlen, hcell⟩ := World.cells?_some h1
      match cs', hlen with
      | [c0, c1], _ =>
        obtain ⟨x0, x1, e, hr⟩ := open_run_cells h2
        refine ⟨_, hr, fun k v hk => ?_⟩
        rw [← e] at hk
        have hk6 : k < 2 := by
          have := (List.getElem?_eq_some_iff.1 hk).1
          simpa using this
        have := hcell k (by simpa using hk6)
        rw [Go.Deep.add_add] at this
        rw [this]
        exact hk
    obtain ⟨q, hq⟩ := Go.Deep.choose_lt each
    refine ⟨some ad, len, cap, (List.range len).map q, rfl, ⟨by simp, hl, hm, (fun h => by cases h), fun h0 => ?_⟩, ?_⟩
    · obtain ⟨b, off, spot⟩ := ad
      have hc0 := (hq 0 (by omega)).2 0
      obtain ⟨⟨x0, x1⟩, hq0⟩ : ∃ y, q 0 = y := ⟨_, rfl⟩
      have hc := hc0 (.int .i64 x0) (by rw [hq0]; rfl)
      have hspot : spot = none := by simpa [Addr.add] using World.cell?_spot hc
      subst hspot
      have hb' := World.block_lt_of_cell? _ _ hc
      refine ⟨b, off, rfl, by simpa [Addr.add] using hb', fun j r hj i v hi => ?_⟩
      have hjl : j < len := by
        have := (List.getElem?_eq_some_iff.1 hj).1
        simpa using this
      rw [List.getElem?_map, List.getElem?_range hjl] at hj
      simp at hj
      subst hj
      have := (hq j hjl).2 i v hi
      rw [add_at, ← Nat.add_assoc] at this
      exact this
    · intro r hr
      simp only [List.mem_map, List.mem_range] at hr
      obtain ⟨i, hi, rfl⟩ := hr
      exact (hq i hi).1
theorem open_delta_cl {H : Type} {enc : TypeId × Value → H} {W : World} {base fuel : Nat} {c0 c1 c2 c3 c4 c5 c6 : Value} {x : DataW H × List MemPlace}
    (hf : DataW.trod enc Try.prog W base (fun _ => true) true fuel 68 [c0, c1, c2, c3, c4, c5, c6] = some x) :
    ∃ (d : Dl) (a0 : Option Addr) (a1 a2 : Nat) (a3 : Option Addr) (a4 a5 : Nat) (a6 : Option Addr) (a7 a8 : Nat) (a9 : Option Addr) (a10 a11 : Nat), [c0, c1, c2, c3, c4, c5, c6] = [.int .i64 d.n, .int .i64 d.s0, .int .i64 d.s1, .slice a0 a1 a2, .slice a3 a4 a5, .slice a6 a7 a8, .slice a9 a10 a11] ∧ DW W a0 a1 a2 a3 a4 a5 a6 a7 a8 a9 a10 a11 d ∧ okd d := by
  have hI : Try.prog.cellsOf 2 = 1 := by kernel_rfl
  have hM : Try.prog.cellsOf 22 = 2 := by kernel_rfl
  have hB : Try.prog.cellsOf 24 = 2 := by kernel_rfl
  have hR : Try.prog.cellsOf 23 = 1 := by kernel_rfl
  obtain ⟨xs, m, _, _, _, hl, hg⟩ := DataW.trod_struct Try.underlying68 hf
  have g0 := hg 0
  have g1 := hg 1
  have g2 := hg 2
  have g3 := hg 3
  simp [hI, hM, hB] at g0 g1 g2 g3
  match xs, hl with
  | [y0, y1, y2, y3], _ =>
    obtain ⟨n, e0, _, w0⟩ := DataW.trod_int Try.underlying2 g0
    simp at e0
    subst e0
    obtain ⟨s0, s1, rfl, rfl, i0, i1⟩ := open_meas_cells (c0 := c1) (c1 := c2) g1
    obtain ⟨ys, m2, _, _, _, hl2, hg2⟩ := DataW.trod_array Try.underlying24 g2
    have h0 := hg2 0 (by decide)
    have h1 := hg2 1 (by decide)
    rw [hR] at h0 h1
    obtain ⟨zs, m3, _, _, _, hl3, hg3⟩ := DataW.trod_array Try.underlying24 g3
    have h2 := hg3 0 (by decide)
    have h3 := hg3 1 (by decide)
    rw [hR] at h2 h3
    match ys, hl2, zs, hl3 with
    | [z0, z1], _, [z2, z3], _ =>
      simp at h0 h1 h2 h3
      obtain ⟨a0, a1, a2, l0, rfl, r0, o0⟩ := open_runs_cl h0
      obtain ⟨a3, a4, a5, l1, rfl, r1, o1⟩ := open_runs_cl h1
      obtain ⟨a6, a7, a8, l2, rfl, r2, o2⟩ := open_runs_cl h2
      obtain ⟨a9, a10, a11, l3, rfl, r3, o3⟩ := open_runs_cl h3
      exact ⟨⟨n, s0, s1, l0, l1, l2, l3⟩, a0, a1, a2, a3, a4, a5, a6, a7, a8, a9, a10, a11, rfl, ⟨⟨r0, r1⟩, r2, r3⟩, ⟨bounds_i64 w0, i0, i1⟩, ⟨o0, o1⟩, o2, o3⟩
theorem list7 {l : List Value} (h : l.length = 7) : ∃ c0 c1 c2 c3 c4 c5 c6, l = [c0, c1, c2, c3, c4, c5, c6] := by
  match l, h with
  | [c0, c1, c2, c3, c4, c5, c6], _ => exact ⟨_, _, _, _, _, _, _, rfl⟩
end Go.Proofs.Ytjkkajhjcinalaa

/-
  A cell behind a delta: what Apply of delta returns.
  Conditions: as each theorem states them.
-/
import Derived.Test.YtjkkajhjcinalaaJ10
namespace Go.Proofs.Ytjkkajhjcinalaa
open Go.ChangeShapes Go.WideShapes Go.ChangeAt Go.RowKit
set_option linter.unusedVariables false
set_option linter.unusedSimpArgs false
set_option maxRecDepth 100000

theorem results_cell_raw2 {fn : Func} {p u x : Tmp} {ty : TypeId} (h : fn.results = #[.cell p ty, .tmp u, .tmp x]) (tmps : Array Value) (P : Program) (w : World) :
    (results fn tmps).run P w = ((asAddr (tmps.getD p undef)).run P w).andThen fun a w1 => ((loadVar ty a).run P w1).andThen fun v w2 => .ok (.tuple #[v, tmps.getD u undef, tmps.getD x undef]) w2 := by
  simp only [results, h]
  simp [Sem.run_bind, Result.andThen]
theorem results_cell_slot2 {P : Program} {fn : Func} {p u x : Tmp} {ty : TypeId} (h : fn.results = #[.cell p ty, .tmp u, .tmp x]) (tmps : Array Value) (w : World) (g : Nat) (t : TypeId) (cs : Array Value) (fr : Nat × Nat) (d : TypeDesc) (v v' : Value)
    (hp : tmps.getD p undef = .pointer (some ⟨g, 0, none⟩)) (hv : tmps.getD u undef = v) (hv' : tmps.getD x undef = v') (hg : w.heap[g]? = some (.cells cs t fr))
    (hu : P.underlying ty = some d) (hd : (match d with | .struct _ | .array _ _ => true | _ => false) = true) (hi : (P.info? ty).map (·.size) = some cs.size) :
    (results fn tmps).run P w = .ok (.tuple #[.agg cs, v, v']) w := by
  rw [results_cell_raw2 h, hp, hv, hv']
  simp [asAddr, run_loadVar_row w g t ty cs fr d hg hu hd hi, Result.andThen]
theorem mnl_bg {a b : List Rn} (ha : Bag a) (hb : Bag b) (h : Fits a b) : Bag (mnl a b) :=
  ⟨mnl_srt ha.1 b, mnl_pos ha.1 ha.2.1 hb.1 hb.2.1 h, by rw [mnl_tot]; have := tot_nn hb.2.1; have := ha.2.2; omega⟩
theorem mnl_ok {a b : List Rn} (ha : Bag a) (hb : Bag b) (ka : ∀ r ∈ a, nok r) (kb : ∀ r ∈ b, nok r) : ∀ r ∈ mnl a b, nok r := by
  intro r hr
  have h := mnl_bd ha.1 ha.2.1 hb.2.1 ha.2.2 hb.2.2 r hr
  refine ⟨?_, by unfold I64; omega⟩
  rcases mnl_mem hr with ⟨q, hq, e⟩ | ⟨q, hq, e⟩
  · rw [← e]; exact (ka q hq).1
  · rw [← e]; exact (kb q hq).1
theorem cg_bags {m : Int} {c : Cl} (h : CG m c) : Bag c.b0 ∧ Bag c.b1 := by
  refine ⟨h.2.1.1, ?_⟩
  rcases h.2.2 with ⟨_, _, e⟩ | ⟨_, k⟩
  · rw [e]; exact bag_nil
  · exact k.1
/-- What stands has bags, and a number. -/
theorem st_bags {m : Int} {c : Cl} {is : Bool} (h : stB m c is = true) : (Bag c.b0 ∧ Bag c.b1) ∧ 0 ≤ c.n ∧ c.n ≤ 1099511627776 ∧ tot c.b0 = c.n := by
  cases is with
  | true =>
    have g := cg_iff.1 (show cg m c = true from h)
    exact ⟨cg_bags g, by have := g.1; omega, g.1.2, g.2.1.2.1⟩
  | false =>
    have h' : ((decide (m = 1) || decide (m = 2)) && csm c cl0) = true := h
    simp only [Bool.and_eq_true] at h'
    have e := csm_iff.1 h'.2
    subst e
    exact ⟨⟨bag_nil, bag_nil⟩, by show (0 : Int) ≤ 0; decide, by show (0 : Int) ≤ 1099511627776; decide, rfl⟩
theorem mn_bags {a b : List Rn} (ha : Bag a) (hb : Bag b) : Mn a b = fits a b := by unfold Mn; rw [gd_yes ha, gd_yes hb]; rfl
theorem fits_iff {a b : List Rn} : fits a b = true ↔ Fits a b := by unfold fits Fits; rw [decide_eq_true_iff]
theorem da_a {m : Int} {c : Cl} {is : Bool} {d : Dl} (h : dg m d = false ∨ stB m c is = false) : daB m c is d = false := by
  unfold daB
  rcases h with h | h <;> rw [h] <;> simp
theorem da_eq {m : Int} {c : Cl} {is : Bool} {d : Dl} {T : Bool} (g : DG m d) (s : stB m c is = true) (hT : (Mn c.b0 d.o0 && Mn c.b1 d.o1) = T) :
    daB m c is d = ((calc.fitB (c.s0 + d.s0) && calc.fitB (c.s1 + d.s1)) && (T && (Jn (if T then Ml c.b0 d.o0 else []) d.i0 && Jn (if T then Ml c.b1 d.o1 else []) d.i1))) := by
  obtain ⟨⟨b1, b2⟩, b3, b4⟩ := dg_bags g
  obtain ⟨⟨c1, c2⟩, _, _, _⟩ := st_bags s
  have e1 := mn_bags c1 b2
  have e2 := mn_bags c2 b4
  unfold daB
  rw [dg_yes g, s]
  cases T with
  | false =>
    rw [e1, e2] at hT
    rw [hT]
    simp
  | true =>
    rw [Bool.and_eq_true] at hT
    obtain ⟨t1, t2⟩ := hT
    have f1 := fits_iff.1 (e1.symm.trans t1)
    have f2 := fits_iff.1 (e2.symm.trans t2)
    have m1 := mnl_bg c1 b2 f1
    have m2 := mnl_bg c2 b4 f2
    simp only [if_true]
    rw [ml_yes t1, ml_yes t2, jn_bags m1 b1, jn_bags m2 b3, mnl_tot, mnl_tot, ← e1, ← e2, t1, t2]
    generalize decide (tot c.b0 - tot d.o0 + tot d.i0 ≤ 1099511627776) = p
    generalize decide (tot c.b1 - tot d.o1 + tot d.i1 ≤ 1099511627776) = q
    generalize calc.fitB (c.s0 + d.s0) = t
    generalize calc.fitB (c.s1 + d.s1) = u
    revert p q t u
    decide
theorem da_parts {m : Int} {c : Cl} {is : Bool} {d : Dl} (h : daB m c is d = true) : ((Ml c.b0 d.o0 = mnl c.b0 d.o0 ∧ Ml c.b1 d.o1 = mnl c.b1 d.o1) ∧ Jl (mnl c.b0 d.o0) d.i0 = jnl (mnl c.b0 d.o0) d.i0 ∧ Jl (mnl c.b1 d.o1) d.i1 = jnl (mnl c.b1 d.o1) d.i1) := by
  unfold daB at h
  simp only [Bool.and_eq_true, decide_eq_true_iff] at h
  obtain ⟨⟨g, s⟩, ⟨f1, f2⟩, ⟨t1, t2⟩, _⟩ := h
  obtain ⟨⟨b1, b2⟩, b3, b4⟩ := dg_bags (dg_iff.1 g)
  obtain ⟨⟨c1, c2⟩, _, _, _⟩ := st_bags s
  have m1 := mnl_bg c1 b2 (fits_iff.1 f1)
  have m2 := mnl_bg c2 b4 (fits_iff.1 f2)
  refine ⟨⟨ml_yes (mn_yes c1 b2 (fits_iff.1 f1)), ml_yes (mn_yes c2 b4 (fits_iff.1 f2))⟩, jl_yes (jn_yes m1 b1 (by rw [mnl_tot]; exact t1)), jl_yes (jn_yes m2 b3 (by rw [mnl_tot]; exact t2))⟩
/-- What is left, whether all is there or not. -/
theorem da_left {m : Int} {c : Cl} {is : Bool} {d : Dl} {T : Bool} (g : DG m d) (s : stB m c is = true) (kc : okc c) (kd : okd d) (hc : c.b0.length ≤ 500 ∧ c.b1.length ≤ 500) (hd : sh5 d) :
    ((∀ r ∈ (if T then Ml c.b0 d.o0 else []), nok r) ∧ ∀ r ∈ (if T then Ml c.b1 d.o1 else []), nok r) ∧ (if T then Ml c.b0 d.o0 else []).length ≤ 1000 ∧ (if T then Ml c.b1 d.o1 else []).length ≤ 1000 := by
  obtain ⟨⟨b1, b2⟩, b3, b4⟩ := dg_bags g
  obtain ⟨⟨c1, c2⟩, _, _, _⟩ := st_bags s
  have key : ∀ a b : List Rn, Bag a → Bag b → (∀ r ∈ a, nok r) → (∀ r ∈ b, nok r) → a.length ≤ 500 → b.length ≤ 500 → (∀ r ∈ (if T then Ml a b else []), nok r) ∧ (if T then Ml a b else []).length ≤ 1000 := by
    intro a b ha hb ka kb la lb
    cases T with
    | false => exact ⟨nok_nild, by show (0 : Nat) ≤ 1000; decide⟩
    | true =>
      simp only [if_true]
      cases hM : Mn a b with
      | false => rw [ml_no hM]; exact ⟨nok_nild, by show (0 : Nat) ≤ 1000; decide⟩
      | true => rw [ml_yes hM]; exact ⟨mnl_ok ha hb ka kb, by have := mnl_len a b; omega⟩
  have k0 := key _ _ c1 b2 kc.2.2.2.1 kd.2.2.1 hc.1 hd.2.1
  have k1 := key _ _ c2 b4 kc.2.2.2.2 kd.2.2.2 hc.2 hd.2.2
  exact ⟨⟨k0.1, k1.1⟩, k0.2, k1.2⟩
/-- Far memory of a cell. -/
def CF (w : World) (x0 : Option Addr) (x1 x2 : Nat) (x3 : Option Addr) (x4 x5 : Nat) : Prop := Far w x0 ∧ Far w x3

set_option maxHeartbeats 32000000 in
theorem dapply_m (m : Int) (c : Cl) (a0 : Option Addr) (a1 a2 : Nat) (a3 : Option Addr) (a4 a5 : Nat) (is : Bool) (d : Dl) (b0 : Option Addr) (b1 b2 : Nat) (b3 : Option Addr) (b4 b5 : Nat) (b6 : Option Addr) (b7 b8 : Nat) (b9 : Option Addr) (b10 b11 : Nat) (C : Cl) (i v : Bool) (w : World) (hw : CW w a0 a1 a2 a3 a4 a5 c) (hz : DW w b0 b1 b2 b3 b4 b5 b6 b7 b8 b9 b10 b11 d) (hk : okc c) (hk' : okd d) (hp : c.b0.length ≤ 500 ∧ c.b1.length ≤ 500) (hp' : sh5 d) (hC : Hid (daC m c is d = C)) (hI : Hid (daI m c is d = i)) (hv : Hid (daB m c is d = v)) :
    Calls Try.prog 49 #[.int .i64 m, (.agg #[.int .i64 c.n, .int .i64 c.s0, .int .i64 c.s1, .slice a0 a1 a2, .slice a3 a4 a5]), .bool is, (.agg #[.int .i64 d.n, .int .i64 d.s0, .int .i64 d.s1, .slice b0 b1 b2, .slice b3 b4 b5, .slice b6 b7 b8, .slice b9 b10 b11])] w fun e w' => (∃ r0 r1 r2 r3 r4 r5, e = .returned (.tuple #[(.agg #[.int .i64 C.n, .int .i64 C.s0, .int .i64 C.s1, .slice r0 r1 r2, .slice r3 r4 r5]), .bool i, .bool v]) ∧ CW w' r0 r1 r2 r3 r4 r5 C ∧ CF w r0 r1 r2 r3 r4 r5) ∧ Below w.heap.size w w' := by
  have HW := hid hw
  have HV := hid hz
  have HK := hid hk
  have HK2 := hid hk'
  have HP := hid hp
  have HP2 := hid hp'
  clear hw hz hk hk' hp hp'
  have KK := hid (three_new w (.cells #[.int .i64 c.n, .int .i64 c.s0, .int .i64 c.s1, .slice a0 a1 a2, .slice a3 a4 a5] 26) (.cells #[.int .i64 d.n, .int .i64 d.s0, .int .i64 d.s1, .slice b0 b1 b2, .slice b3 b4 b5, .slice b6 b7 b8, .slice b9 b10 b11] 68) (.cells #[.int .i64 0, .int .i64 0, .int .i64 0, .slice none 0 0, .slice none 0 0] 26))
  cases ga : dg m d with
  | false =>
    have GA := hid ga
    have HZ := hid (And.intro (show daB m c is d = false from da_a (.inl ga)) (hv.out.symm.trans (da_a (.inl ga))))
    clear ga
    go_enter Try.func49, Try.ntmps49
    go_upto_region 1 with fail
    generalize ((w.alloc (.cells #[.int .i64 c.n, .int .i64 c.s0, .int .i64 c.s1, .slice a0 a1 a2, .slice a3 a4 a5] 26)).alloc (.cells #[.int .i64 d.n, .int .i64 d.s0, .int .i64 d.s1, .slice b0 b1 b2, .slice b3 b4 b5, .slice b6 b7 b8, .slice b9 b10 b11] 68)).alloc (.cells #[.int .i64 0, .int .i64 0, .int .i64 0, .slice none 0 0, .slice none 0 0] 26) = W at KK ⊢
    obtain ⟨N0, hN0⟩ : ∃ y, w.heap.size = y := ⟨_, rfl⟩
    obtain ⟨N1, hN1⟩ : ∃ y, N0 + 1 = y := ⟨_, rfl⟩
    obtain ⟨N2, hN2⟩ : ∃ y, N1 + 1 = y := ⟨_, rfl⟩
    rw [hN0, hN1, hN2] at KK
    (try rw [hN0]); (try rw [hN1]); (try rw [hN2])
    have HO : Hid (w.heap.size = N0 ∧ N0 < N1 ∧ N1 < N2) := hid (by omega)
    clear hN0 hN1 hN2
    have KA := hid KK.out.1
    have KB := hid KK.out.2.1
    have KR := hid KK.out.2.2
    clear KK
    obtain ⟨p0, p1, p2, p3, p4⟩ := box_five KA.out.2.2
    obtain ⟨q0, q1, q2, q3, q4, q5, q6⟩ := box_seven KB.out.2.2
    go_upto_region 2 with (go_at_call 38; refine (dgood_m _ d b0 b1 b2 b3 b4 b5 b6 b7 b8 b9 b10 b11 false _ (HV.out.below KA.out.1) HK2.out (sh5_shd HP2.out) GA).mono ?_; rintro e w1 ⟨rfl, hb⟩; replace KA := hid (KA.out.step hb); replace KB := hid (KB.out.step hb); replace KR := hid (KR.out.step hb); clear hb p0 p1 p2 p3 p4 q0 q1 q2 q3 q4 q5 q6; obtain ⟨p0, p1, p2, p3, p4⟩ := box_five KA.out.2.2; obtain ⟨q0, q1, q2, q3, q4, q5, q6⟩ := box_seven KB.out.2.2)
    go_wp2_with (refine wpList_store_whole rfl 26 (.tmp 8) (.tmp 29) rfl N2 (clC 0 0 0 none 0 0 none 0 0) rfl rfl 26 _ KR.out.2.2 rfl (by show _ = some 5; exact size_cl) (clC_one _ _ _ _ _ _ _ _ _) ?_; intro w9 hp9 hg9; have KR9 := hid (kp_at KR.out hg9 hp9); clear hp9 hg9)
    (try simp only [Exit.inBlock, Exit.then])
    show bodyPost Try.prog Try.f49 _ _ _ _
    refine bodyPost_ret (results_cell_slot2 (p := 8) (u := 9) (x := 10) rfl _ _ N2 _ (clC 0 0 0 none 0 0 none 0 0) (0, 0) _ (.bool false) (.bool false) rfl rfl rfl KR9.out.2.2 Try.underlying26 rfl (by kernel_rfl)) rfl ?_
    have q1 : cl0 = C := by rw [← hC.out]; unfold daC daI; rw [HZ.out.1]; rfl
    have q2 : false = i := by rw [← hI.out]; unfold daI; rw [HZ.out.1]; rfl
    have q3 := HZ.out.2.symm
    subst q1
    subst q2
    subst q3
    exact ⟨⟨none, 0, 0, none, 0, 0, rfl, cw_nil _, far_nil _, far_nil _⟩, KR9.out.1⟩
  | true =>
    have GA := hid ga
    cases gb : stB m c is with
    | false =>
      have GB := hid gb
      have HZ := hid (And.intro (show daB m c is d = false from da_a (.inr gb)) (hv.out.symm.trans (da_a (.inr gb))))
      clear ga gb
      go_enter Try.func49, Try.ntmps49
      go_upto_region 1 with fail
      generalize ((w.alloc (.cells #[.int .i64 c.n, .int .i64 c.s0, .int .i64 c.s1, .slice a0 a1 a2, .slice a3 a4 a5] 26)).alloc (.cells #[.int .i64 d.n, .int .i64 d.s0, .int .i64 d.s1, .slice b0 b1 b2, .slice b3 b4 b5, .slice b6 b7 b8, .slice b9 b10 b11] 68)).alloc (.cells #[.int .i64 0, .int .i64 0, .int .i64 0, .slice none 0 0, .slice none 0 0] 26) = W at KK ⊢
      obtain ⟨N0, hN0⟩ : ∃ y, w.heap.size = y := ⟨_, rfl⟩
      obtain ⟨N1, hN1⟩ : ∃ y, N0 + 1 = y := ⟨_, rfl⟩
      obtain ⟨N2, hN2⟩ : ∃ y, N1 + 1 = y := ⟨_, rfl⟩
      rw [hN0, hN1, hN2] at KK
      (try rw [hN0]); (try rw [hN1]); (try rw [hN2])
      have HO : Hid (w.heap.size = N0 ∧ N0 < N1 ∧ N1 < N2) := hid (by omega)
      clear hN0 hN1 hN2
      have KA := hid KK.out.1
      have KB := hid KK.out.2.1
      have KR := hid KK.out.2.2
      clear KK
      obtain ⟨p0, p1, p2, p3, p4⟩ := box_five KA.out.2.2
      obtain ⟨q0, q1, q2, q3, q4, q5, q6⟩ := box_seven KB.out.2.2
      go_upto_region 2 with (first
        | (go_at_call 38; refine (dgood_m _ d b0 b1 b2 b3 b4 b5 b6 b7 b8 b9 b10 b11 true _ (HV.out.below KA.out.1) HK2.out (sh5_shd HP2.out) GA).mono ?_; rintro e w1 ⟨rfl, hb⟩; replace KA := hid (KA.out.step hb); replace KB := hid (KB.out.step hb); replace KR := hid (KR.out.step hb); clear hb p0 p1 p2 p3 p4 q0 q1 q2 q3 q4 q5 q6; obtain ⟨p0, p1, p2, p3, p4⟩ := box_five KA.out.2.2; obtain ⟨q0, q1, q2, q3, q4, q5, q6⟩ := box_seven KB.out.2.2)
        | (go_at_call 90; refine (stands_m _ c a0 a1 a2 a3 a4 a5 is false _ (HW.out.below KA.out.1) HK.out GB).mono ?_; rintro e w2 ⟨rfl, hb⟩; replace KA := hid (KA.out.step hb); replace KB := hid (KB.out.step hb); replace KR := hid (KR.out.step hb); clear hb p0 p1 p2 p3 p4 q0 q1 q2 q3 q4 q5 q6; obtain ⟨p0, p1, p2, p3, p4⟩ := box_five KA.out.2.2; obtain ⟨q0, q1, q2, q3, q4, q5, q6⟩ := box_seven KB.out.2.2))
      go_wp2_with (refine wpList_store_whole rfl 26 (.tmp 8) (.tmp 29) rfl N2 (clC 0 0 0 none 0 0 none 0 0) rfl rfl 26 _ KR.out.2.2 rfl (by show _ = some 5; exact size_cl) (clC_one _ _ _ _ _ _ _ _ _) ?_; intro w9 hp9 hg9; have KR9 := hid (kp_at KR.out hg9 hp9); clear hp9 hg9)
      (try simp only [Exit.inBlock, Exit.then])
      show bodyPost Try.prog Try.f49 _ _ _ _
      refine bodyPost_ret (results_cell_slot2 (p := 8) (u := 9) (x := 10) rfl _ _ N2 _ (clC 0 0 0 none 0 0 none 0 0) (0, 0) _ (.bool false) (.bool false) rfl rfl rfl KR9.out.2.2 Try.underlying26 rfl (by kernel_rfl)) rfl ?_
      have q1 : cl0 = C := by rw [← hC.out]; unfold daC daI; rw [HZ.out.1]; rfl
      have q2 : false = i := by rw [← hI.out]; unfold daI; rw [HZ.out.1]; rfl
      have q3 := HZ.out.2.symm
      subst q1
      subst q2
      subst q3
      exact ⟨⟨none, 0, 0, none, 0, 0, rfl, cw_nil _, far_nil _, far_nil _⟩, KR9.out.1⟩
    | true =>
      have GB := hid gb
      have CA := hid (dg_iff.1 ga)
      obtain ⟨na1, na2⟩ := dg_n CA.out
      obtain ⟨_, nb1, nb2, _⟩ := st_bags gb
      have hwn : IntKind.i64.wrap (c.n + d.n) = c.n + d.n := IntWalk.i64_in _ (by omega)
      obtain ⟨Fv, hFv⟩ : ∃ y, (calc.fitB (c.s0 + d.s0) && calc.fitB (c.s1 + d.s1)) = y := ⟨_, rfl⟩
      have FFv := hid hFv
      clear hFv
      obtain ⟨Tv, hTv⟩ : ∃ y, (Mn c.b0 d.o0 && Mn c.b1 d.o1) = y := ⟨_, rfl⟩
      have FTv := hid hTv
      clear hTv
      have HE := hid (da_eq CA.out gb FTv.out)
      have LF := hid (da_left (T := Tv) CA.out gb HK.out HK2.out HP.out HP2.out)
      clear ga gb
      obtain ⟨S0, hS0⟩ : ∃ y, (if Fv then c.s0 + d.s0 else 0) = y := ⟨_, rfl⟩
      have FS0 := hid hS0
      clear hS0
      obtain ⟨S1, hS1⟩ : ∃ y, (if Fv then c.s1 + d.s1 else 0) = y := ⟨_, rfl⟩
      have FS1 := hid hS1
      clear hS1
      obtain ⟨L0, hL0⟩ : ∃ y, (if Tv then Ml c.b0 d.o0 else []) = y := ⟨_, rfl⟩
      have FL0 := hid hL0
      clear hL0
      obtain ⟨L1, hL1⟩ : ∃ y, (if Tv then Ml c.b1 d.o1 else []) = y := ⟨_, rfl⟩
      have FL1 := hid hL1
      clear hL1
      rw [FFv.out, FL0.out, FL1.out] at HE
      rw [FL0.out, FL1.out] at LF
      obtain ⟨Pv, hPv⟩ : ∃ y, (Jn L0 d.i0 && Jn L1 d.i1) = y := ⟨_, rfl⟩
      have FPv := hid hPv
      clear hPv
      rw [FPv.out] at HE
      obtain ⟨kl0, hkl0⟩ : ∃ y, L0.length = y := ⟨_, rfl⟩
      have Fkl0 := hid hkl0
      clear hkl0
      obtain ⟨kl1, hkl1⟩ : ∃ y, L1.length = y := ⟨_, rfl⟩
      have Fkl1 := hid hkl1
      clear hkl1
      rw [Fkl0.out, Fkl1.out] at LF
      obtain ⟨V0, hV0⟩ : ∃ y, (if Pv then Jl L0 d.i0 else []) = y := ⟨_, rfl⟩
      have FV0 := hid hV0
      clear hV0
      obtain ⟨V1, hV1⟩ : ∃ y, (if Pv then Jl L1 d.i1 else []) = y := ⟨_, rfl⟩
      have FV1 := hid hV1
      clear hV1
      obtain ⟨kv0, hkv0⟩ : ∃ y, V0.length = y := ⟨_, rfl⟩
      have Fkv0 := hid hkv0
      clear hkv0
      obtain ⟨kv1, hkv1⟩ : ∃ y, V1.length = y := ⟨_, rfl⟩
      have Fkv1 := hid hkv1
      clear hkv1
      go_enter Try.func49, Try.ntmps49
      go_upto_region 1 with fail
      generalize ((w.alloc (.cells #[.int .i64 c.n, .int .i64 c.s0, .int .i64 c.s1, .slice a0 a1 a2, .slice a3 a4 a5] 26)).alloc (.cells #[.int .i64 d.n, .int .i64 d.s0, .int .i64 d.s1, .slice b0 b1 b2, .slice b3 b4 b5, .slice b6 b7 b8, .slice b9 b10 b11] 68)).alloc (.cells #[.int .i64 0, .int .i64 0, .int .i64 0, .slice none 0 0, .slice none 0 0] 26) = W at KK ⊢
      obtain ⟨N0, hN0⟩ : ∃ y, w.heap.size = y := ⟨_, rfl⟩
      obtain ⟨N1, hN1⟩ : ∃ y, N0 + 1 = y := ⟨_, rfl⟩
      obtain ⟨N2, hN2⟩ : ∃ y, N1 + 1 = y := ⟨_, rfl⟩
      rw [hN0, hN1, hN2] at KK
      (try rw [hN0]); (try rw [hN1]); (try rw [hN2])
      have HO : Hid (w.heap.size = N0 ∧ N0 < N1 ∧ N1 < N2) := hid (by omega)
      clear hN0 hN1 hN2
      have KA := hid KK.out.1
      have KB := hid KK.out.2.1
      have KR := hid KK.out.2.2
      clear KK
      obtain ⟨p0, p1, p2, p3, p4⟩ := box_five KA.out.2.2
      obtain ⟨q0, q1, q2, q3, q4, q5, q6⟩ := box_seven KB.out.2.2
      go_upto_region 3 with (first
        | (go_at_call 38; refine (dgood_m _ d b0 b1 b2 b3 b4 b5 b6 b7 b8 b9 b10 b11 true _ (HV.out.below KA.out.1) HK2.out (sh5_shd HP2.out) GA).mono ?_; rintro e w1 ⟨rfl, hb⟩; replace KA := hid (KA.out.step hb); replace KB := hid (KB.out.step hb); replace KR := hid (KR.out.step hb); clear hb p0 p1 p2 p3 p4 q0 q1 q2 q3 q4 q5 q6; obtain ⟨p0, p1, p2, p3, p4⟩ := box_five KA.out.2.2; obtain ⟨q0, q1, q2, q3, q4, q5, q6⟩ := box_seven KB.out.2.2)
        | (go_at_call 90; refine (stands_m _ c a0 a1 a2 a3 a4 a5 is true _ (HW.out.below KA.out.1) HK.out GB).mono ?_; rintro e w2 ⟨rfl, hb⟩; replace KA := hid (KA.out.step hb); replace KB := hid (KB.out.step hb); replace KR := hid (KR.out.step hb); clear hb p0 p1 p2 p3 p4 q0 q1 q2 q3 q4 q5 q6; obtain ⟨p0, p1, p2, p3, p4⟩ := box_five KA.out.2.2; obtain ⟨q0, q1, q2, q3, q4, q5, q6⟩ := box_seven KB.out.2.2))
      go_upto_region 4 with (first
        | (go_at_call 77; refine (eachAdd_m c.s0 c.s1 d.s0 d.s1 S0 S1 Fv _ ⟨HK.out.2.1, HK.out.2.2.1⟩ ⟨HK2.out.1.2.1, HK2.out.1.2.2⟩ FFv FS0 FS1).mono ?_; rintro e w3 ⟨rfl, hb⟩; replace KA := hid (KA.out.step hb); replace KB := hid (KB.out.step hb); replace KR := hid (KR.out.step hb); clear hb p0 p1 p2 p3 p4 q0 q1 q2 q3 q4 q5 q6; obtain ⟨p0, p1, p2, p3, p4⟩ := box_five KA.out.2.2; obtain ⟨q0, q1, q2, q3, q4, q5, q6⟩ := box_seven KB.out.2.2)
        | (have KZ : Hid (Kp w (w3.alloc (.cells #[.int .i64 0, .int .i64 0] 22)) w3.heap.size (.cells #[.int .i64 0, .int .i64 0] 22)) := hid (kp_new2 KR.out.1 _ _ rfl); refine wpList_store_whole rfl 22 (.tmp 11) (.tmp 36) rfl w3.heap.size (aiC S0 S1) rfl rfl 22 _ KZ.out.2.2 rfl (by show _ = some 2; exact size_ai) (aiC_one _ _) ?_; intro w9 hp9 hg9; have K11 := hid (kp_at KZ.out hg9 hp9); have HK11 := hid (heap_lt KR.out.2.2); replace KA := hid (kp_new_gr KA.out hg9); replace KB := hid (kp_new_gr KB.out hg9); replace KR := hid (kp_new_gr KR.out hg9); clear hp9 hg9 KZ p0 p1 p2 p3 p4 q0 q1 q2 q3 q4 q5 q6; obtain ⟨p0, p1, p2, p3, p4⟩ := box_five KA.out.2.2; obtain ⟨q0, q1, q2, q3, q4, q5, q6⟩ := box_seven KB.out.2.2))
      generalize w3.heap.size = N11 at K11 HK11 ⊢
      go_upto_region 5 with (first
        | (go_at_call 83; refine (eachMinus_m _ _ _ _ _ _ _ _ _ _ _ _ c.b0 c.b1 d.o0 d.o1 L0 L1 kl0 kl1 Tv _ ⟨HW.out.1.below KA.out.1, HW.out.2.below KA.out.1⟩ ⟨HV.out.2.1.below KA.out.1, HV.out.2.2.below KA.out.1⟩ ⟨HK.out.2.2.2.1, HK.out.2.2.2.2⟩ HK2.out.2.2 (by have h1 := HW.out.1.lens.1; have h2 := HW.out.2.lens.1; have h3 := HV.out.2.1.lens.1; have h4 := HV.out.2.2.lens.1; have h5 := HP.out; have h7 := HP2.out.2; omega) FTv FL0 FL1 Fkl0 Fkl1).mono ?_; rintro e w4 ⟨⟨e0, ec0, e1, ec1, rfl, ⟨hr0, hr1⟩, _, _⟩, hb⟩; have Re0 := hid hr0; have Re1 := hid hr1; replace KA := hid (KA.out.step hb); replace KB := hid (KB.out.step hb); replace KR := hid (KR.out.step hb); replace K11 := hid (K11.out.step hb); clear hb hr0 hr1 p0 p1 p2 p3 p4 q0 q1 q2 q3 q4 q5 q6; obtain ⟨p0, p1, p2, p3, p4⟩ := box_five KA.out.2.2; obtain ⟨q0, q1, q2, q3, q4, q5, q6⟩ := box_seven KB.out.2.2)
        | (have KZ : Hid (Kp w (w4.alloc (.cells #[.slice none 0 0, .slice none 0 0] 24)) w4.heap.size (.cells #[.slice none 0 0, .slice none 0 0] 24)) := hid (kp_new2 KR.out.1 _ _ rfl); refine wpList_store_whole rfl 24 (.tmp 13) (.tmp 44) rfl w4.heap.size (asC e0 kl0 ec0 e1 kl1 ec1) rfl rfl 24 _ KZ.out.2.2 rfl (by show _ = some 2; exact size_as) (asC_one _ _ _ _ _ _) ?_; intro w9 hp9 hg9; have K13 := hid (kp_at KZ.out hg9 hp9); have HK13 := hid (heap_lt KR.out.2.2); replace KA := hid (kp_new_gr KA.out hg9); replace KB := hid (kp_new_gr KB.out hg9); replace KR := hid (kp_new_gr KR.out hg9); replace K11 := hid (kp_new_gr K11.out hg9); replace Re0 := hid (run_new_gr Re0.out hg9); replace Re1 := hid (run_new_gr Re1.out hg9); clear hp9 hg9 KZ p0 p1 p2 p3 p4 q0 q1 q2 q3 q4 q5 q6; obtain ⟨p0, p1, p2, p3, p4⟩ := box_five KA.out.2.2; obtain ⟨q0, q1, q2, q3, q4, q5, q6⟩ := box_seven KB.out.2.2))
      generalize w4.heap.size = N13 at K13 HK13 ⊢
      obtain ⟨g0, g1⟩ := box_two K13.out.2.2
      go_upto_region 6 with (first
        | (go_at_call 83; refine (eachJoin_m _ _ _ _ _ _ _ _ _ _ _ _ L0 L1 d.i0 d.i1 V0 V1 kv0 kv1 Pv _ ⟨Re0.out, Re1.out⟩ ⟨HV.out.1.1.below KA.out.1, HV.out.1.2.below KA.out.1⟩ LF.out.1 HK2.out.2.1 (by have h1 := LF.out.2; have h3 := HV.out.1.1.lens.1; have h4 := HV.out.1.2.lens.1; have h7 := HP2.out.1; omega) FPv FV0 FV1 Fkv0 Fkv1).mono ?_; rintro e w5 ⟨⟨f0, fc0, f1, fc1, rfl, ⟨hr0, hr1⟩, hf0, hf1⟩, hb⟩; have Rf0 := hid hr0; have Rf1 := hid hr1; have Ff0 := hid (far_up hf0 (heap_lt KR.out.2.2)); have Ff1 := hid (far_up hf1 (heap_lt KR.out.2.2)); have WF : Hid (CF w f0 kv0 fc0 f1 kv1 fc1) := hid ⟨far_low hf0 KR.out.1.size, far_low hf1 KR.out.1.size⟩; replace KA := hid (KA.out.step hb); replace KB := hid (KB.out.step hb); replace KR := hid (KR.out.step hb); replace K11 := hid (K11.out.step hb); clear hb hr0 hr1 hf0 hf1 g0 g1 p0 p1 p2 p3 p4 q0 q1 q2 q3 q4 q5 q6; obtain ⟨p0, p1, p2, p3, p4⟩ := box_five KA.out.2.2; obtain ⟨q0, q1, q2, q3, q4, q5, q6⟩ := box_seven KB.out.2.2)
        | (have KZ : Hid (Kp w (w5.alloc (.cells #[.slice none 0 0, .slice none 0 0] 24)) w5.heap.size (.cells #[.slice none 0 0, .slice none 0 0] 24)) := hid (kp_new2 KR.out.1 _ _ rfl); refine wpList_store_whole rfl 24 (.tmp 15) (.tmp 51) rfl w5.heap.size (asC f0 kv0 fc0 f1 kv1 fc1) rfl rfl 24 _ KZ.out.2.2 rfl (by show _ = some 2; exact size_as) (asC_one _ _ _ _ _ _) ?_; intro w9 hp9 hg9; have K15 := hid (kp_at KZ.out hg9 hp9); have HK15 := hid (heap_lt KR.out.2.2); replace KA := hid (kp_new_gr KA.out hg9); replace KB := hid (kp_new_gr KB.out hg9); replace KR := hid (kp_new_gr KR.out hg9); replace K11 := hid (kp_new_gr K11.out hg9); replace Rf0 := hid (run_new_gr Rf0.out hg9); replace Rf1 := hid (run_new_gr Rf1.out hg9); clear hp9 hg9 KZ p0 p1 p2 p3 p4 q0 q1 q2 q3 q4 q5 q6; obtain ⟨p0, p1, p2, p3, p4⟩ := box_five KA.out.2.2; obtain ⟨q0, q1, q2, q3, q4, q5, q6⟩ := box_seven KB.out.2.2))
      generalize w5.heap.size = N15 at K15 HK15 ⊢
      clear K13 HK13 Re0 Re1 p0 p1 p2 p3 p4 q0 q1 q2 q3 q4 q5 q6
      cases Fv with
      | false =>
        have HZ := hid (And.intro (show daB m c is d = false from HE.out) (hv.out.symm.trans (HE.out)))
        go_wp2_with (refine wpList_store_whole rfl 26 (.tmp 8) (.tmp 63) rfl N2 (clC 0 0 0 none 0 0 none 0 0) rfl rfl 26 _ KR.out.2.2 rfl (by show _ = some 5; exact size_cl) (clC_one _ _ _ _ _ _ _ _ _) ?_; intro w9 hp9 hg9; have KR9 := hid (kp_at KR.out hg9 hp9); clear hp9 hg9)
        (try simp only [Exit.inBlock, Exit.then])
        show bodyPost Try.prog Try.f49 _ _ _ _
        refine bodyPost_ret (results_cell_slot2 (p := 8) (u := 9) (x := 10) rfl _ _ N2 _ (clC 0 0 0 none 0 0 none 0 0) (0, 0) _ (.bool false) (.bool false) rfl rfl rfl KR9.out.2.2 Try.underlying26 rfl (by kernel_rfl)) rfl ?_
        have q1 : cl0 = C := by rw [← hC.out]; unfold daC daI; rw [HZ.out.1]; rfl
        have q2 : false = i := by rw [← hI.out]; unfold daI; rw [HZ.out.1]; rfl
        have q3 := HZ.out.2.symm
        subst q1
        subst q2
        subst q3
        exact ⟨⟨none, 0, 0, none, 0, 0, rfl, cw_nil _, far_nil _, far_nil _⟩, KR9.out.1⟩
      | true =>
      cases Tv with
      | false =>
        have HZ := hid (And.intro (show daB m c is d = false from HE.out) (hv.out.symm.trans (HE.out)))
        go_wp2_with (refine wpList_store_whole rfl 26 (.tmp 8) (.tmp 63) rfl N2 (clC 0 0 0 none 0 0 none 0 0) rfl rfl 26 _ KR.out.2.2 rfl (by show _ = some 5; exact size_cl) (clC_one _ _ _ _ _ _ _ _ _) ?_; intro w9 hp9 hg9; have KR9 := hid (kp_at KR.out hg9 hp9); clear hp9 hg9)
        (try simp only [Exit.inBlock, Exit.then])
        show bodyPost Try.prog Try.f49 _ _ _ _
        refine bodyPost_ret (results_cell_slot2 (p := 8) (u := 9) (x := 10) rfl _ _ N2 _ (clC 0 0 0 none 0 0 none 0 0) (0, 0) _ (.bool false) (.bool false) rfl rfl rfl KR9.out.2.2 Try.underlying26 rfl (by kernel_rfl)) rfl ?_
        have q1 : cl0 = C := by rw [← hC.out]; unfold daC daI; rw [HZ.out.1]; rfl
        have q2 : false = i := by rw [← hI.out]; unfold daI; rw [HZ.out.1]; rfl
        have q3 := HZ.out.2.symm
        subst q1
        subst q2
        subst q3
        exact ⟨⟨none, 0, 0, none, 0, 0, rfl, cw_nil _, far_nil _, far_nil _⟩, KR9.out.1⟩
      | true =>
      cases Pv with
      | false =>
        have HZ := hid (And.intro (show daB m c is d = false from HE.out) (hv.out.symm.trans (HE.out)))
        go_wp2_with (refine wpList_store_whole rfl 26 (.tmp 8) (.tmp 63) rfl N2 (clC 0 0 0 none 0 0 none 0 0) rfl rfl 26 _ KR.out.2.2 rfl (by show _ = some 5; exact size_cl) (clC_one _ _ _ _ _ _ _ _ _) ?_; intro w9 hp9 hg9; have KR9 := hid (kp_at KR.out hg9 hp9); clear hp9 hg9)
        (try simp only [Exit.inBlock, Exit.then])
        show bodyPost Try.prog Try.f49 _ _ _ _
        refine bodyPost_ret (results_cell_slot2 (p := 8) (u := 9) (x := 10) rfl _ _ N2 _ (clC 0 0 0 none 0 0 none 0 0) (0, 0) _ (.bool false) (.bool false) rfl rfl rfl KR9.out.2.2 Try.underlying26 rfl (by kernel_rfl)) rfl ?_
        have q1 : cl0 = C := by rw [← hC.out]; unfold daC daI; rw [HZ.out.1]; rfl
        have q2 : false = i := by rw [← hI.out]; unfold daI; rw [HZ.out.1]; rfl
        have q3 := HZ.out.2.symm
        subst q1
        subst q2
        subst q3
        exact ⟨⟨none, 0, 0, none, 0, 0, rfl, cw_nil _, far_nil _, far_nil _⟩, KR9.out.1⟩
      | true =>
        have HB : Hid (daB m c is d = true) := hid HE.out
        have PT := hid (da_parts HB.out)
        have VV := hid (hv.out.symm.trans HB.out)
        have ES0 : Hid (c.s0 + d.s0 = S0) := FS0
        have ES1 : Hid (c.s1 + d.s1 = S1) := FS1
        have EV0 : Hid (jnl (mnl c.b0 d.o0) d.i0 = V0) := hid (by have h1 : Ml c.b0 d.o0 = L0 := FL0.out; have h2 : Jl L0 d.i0 = V0 := FV0.out; rw [PT.out.1.1] at h1; rw [← h1, PT.out.2.1] at h2; exact h2)
        have EV1 : Hid (jnl (mnl c.b1 d.o1) d.i1 = V1) := hid (by have h1 : Ml c.b1 d.o1 = L1 := FL1.out; have h2 : Jl L1 d.i1 = V1 := FV1.out; rw [PT.out.1.2] at h1; rw [← h1, PT.out.2.2] at h2; exact h2)
        clear FS0 FS1 FL0 FL1 FV0 FV1 HE
        have p0 := kp_cell (j := 0) (v := .int .i64 c.n) KA.out rfl
        have q0 := kp_cell (j := 0) (v := .int .i64 d.n) KB.out rfl
        obtain ⟨g0, g1⟩ := box_two K11.out.2.2
        obtain ⟨h0, h1⟩ := box_two K15.out.2.2
        rename World => wj
        go_upto_region 9 with (have KZ : Hid (Kp w (wj.alloc (.cells #[.int .i64 0, .int .i64 0, .int .i64 0, .slice none 0 0, .slice none 0 0] 26)) wj.heap.size (.cells #[.int .i64 0, .int .i64 0, .int .i64 0, .slice none 0 0, .slice none 0 0] 26)) := hid (kp_new2 KR.out.1 _ _ rfl); refine wpList_store_whole rfl 26 (.tmp 17) (.tmp 71) rfl wj.heap.size (clC (c.n + d.n) S0 S1 f0 kv0 fc0 f1 kv1 fc1) rfl rfl 26 _ KZ.out.2.2 rfl (by show _ = some 5; exact size_cl) (clC_one _ _ _ _ _ _ _ _ _) ?_; intro w9 hp9 hg9; have KD := hid (kp_at KZ.out hg9 hp9); have HKD := hid (heap_lt KR.out.2.2); replace KR := hid (kp_new_gr KR.out hg9); replace Rf0 := hid (run_new_gr Rf0.out hg9); replace Rf1 := hid (run_new_gr Rf1.out hg9); clear hp9 hg9 KZ p0 q0 g0 g1 h0 h1)
        generalize wj.heap.size = N17 at KD HKD ⊢
        obtain ⟨y0, y1, y2, y3, y4⟩ := box_five KD.out.2.2
        by_cases hz : c.n + d.n = 0
        · have hzd : ((c.n + d.n) == 0) = true := by simp [hz]
          have HN0 := hid hz
          clear hz
          go_wp2_with (refine wpList_store_whole rfl 26 (.tmp 8) (.tmp 75) rfl N2 (clC 0 0 0 none 0 0 none 0 0) rfl rfl 26 _ KR.out.2.2 rfl (by show _ = some 5; exact size_cl) (clC_one _ _ _ _ _ _ _ _ _) ?_; intro w9 hp9 hg9; have KR9 := hid (kp_at KR.out hg9 hp9); clear hp9 hg9)
          (try simp only [Exit.inBlock, Exit.then])
          show bodyPost Try.prog Try.f49 _ _ _ _
          refine bodyPost_ret (results_cell_slot2 (p := 8) (u := 9) (x := 10) rfl _ _ N2 _ (clC 0 0 0 none 0 0 none 0 0) (0, 0) _ (.bool false) (.bool true) rfl rfl rfl KR9.out.2.2 Try.underlying26 rfl (by kernel_rfl)) rfl ?_
          have q1 : cl0 = C := by rw [← hC.out]; unfold daC daI; rw [decide_eq_true HN0.out]; simp
          have q2 : false = i := by rw [← hI.out]; unfold daI; rw [decide_eq_true HN0.out]; simp
          have q3 := VV.out.symm
          subst q1
          subst q2
          subst q3
          exact ⟨⟨none, 0, 0, none, 0, 0, rfl, cw_nil _, far_nil _, far_nil _⟩, KR9.out.1⟩
        · have hzd : ((c.n + d.n) == 0) = false := by simp [hz]
          have HN0 := hid hz
          clear hz
          have HN : Hid (w.heap.size ≤ N2 ∧ N2 < N17) := hid (by have := HO.out; have := HKD.out; omega)
          go_wp2_with (refine wpList_store_whole rfl 26 (.tmp 8) (.tmp 76) rfl N2 (clC (c.n + d.n) S0 S1 f0 kv0 fc0 f1 kv1 fc1) rfl rfl 26 _ KR.out.2.2 rfl (by show _ = some 5; exact size_cl) (clC_one _ _ _ _ _ _ _ _ _) ?_; intro w9 hp9 hg9; have KR9 := hid (kp_at KR.out hg9 hp9); replace Rf0 := hid (Rf0.out.grown hg9 (fun b off e => by have := Ff0.out b off e; omega)); replace Rf1 := hid (Rf1.out.grown hg9 (fun b off e => by have := Ff1.out b off e; omega)); clear hp9 hg9)
          (try simp only [Exit.inBlock, Exit.then])
          show bodyPost Try.prog Try.f49 _ _ _ _
          refine bodyPost_ret (results_cell_slot2 (p := 8) (u := 9) (x := 10) rfl _ _ N2 _ (clC (c.n + d.n) S0 S1 f0 kv0 fc0 f1 kv1 fc1) (0, 0) _ (.bool true) (.bool true) rfl rfl rfl KR9.out.2.2 Try.underlying26 rfl (by kernel_rfl)) rfl ?_
          have hi : daI m c is d = true := by unfold daI; rw [HB.out, decide_eq_false HN0.out]; rfl
          have q1 : daR c d = C := by rw [← hC.out]; unfold daC; rw [hi]; rfl
          have q2 : true = i := by rw [← hI.out]; exact hi.symm
          have q3 := VV.out.symm
          subst q1
          subst q2
          subst q3
          have es0 := ES0.out
          subst es0
          have es1 := ES1.out
          subst es1
          have ev0 := EV0.out
          subst ev0
          have ev1 := EV1.out
          subst ev1
          have ek0 := Fkv0.out
          subst ek0
          have ek1 := Fkv1.out
          subst ek1
          exact ⟨⟨f0, _, fc0, f1, _, fc1, rfl, ⟨Rf0.out, Rf1.out⟩, WF.out⟩, KR9.out.1⟩

end Go.Proofs.Ytjkkajhjcinalaa

/-
  -
  Conditions: as each theorem states them.
-/
import Derived.Test.YtjkkajhjcinalaaQAN
namespace Go.Proofs.Ytjkkajhjcinalaa
open Go.ChangeShapes Go.WideShapes Go.ChangeAt Go.RowKit
set_option linter.unusedVariables false
set_option linter.unusedSimpArgs false
set_option maxRecDepth 100000

theorem no_int2 {w : World} {J : Nat} {t : TypeId} {s u : Value} (hs : ∀ y, ¬ s = .int .i64 y) (hu : ∀ y, ¬ u = .int .i64 y) (h : w.heap[J]? = some (.cells #[s, u] t)) : ∀ j x y, w.cell? ⟨J, j, none⟩ = some (.int .i64 x) → w.cell? ⟨J, j + 1, none⟩ = some (.int .i64 y) → y = 0 := by
  intro j x y hx _
  rw [cell_of_row _ _ _ _ t (0, 0) h] at hx
  match j, hx with
  | 0, hx => simp at hx; exact absurd hx (hs x)
  | 1, hx => simp at hx; exact absurd hx (hu x)
  | j + 2, hx => simp at hx
theorem jl_pos {a b : List Rn} (ha : Bag a) (hb : Bag b) : Pos (Jl a b) := by
  unfold Jl
  split
  · exact jnl_pos ha.2.1 hb.2.1
  · exact pos_nil
theorem jl_nok {a b : List Rn} (ha : Bag a) (hb : Bag b) (ka : ∀ r ∈ a, nok r) (kb : ∀ r ∈ b, nok r) : ∀ r ∈ Jl a b, nok r := by
  intro r hr
  unfold Jl at hr
  split at hr
  · rename_i h
    rw [jn_bags ha hb] at h
    exact jnl_okd ha hb (of_decide_eq_true h) ka kb r hr
  · cases hr
theorem jl_len (a b : List Rn) : (Jl a b).length ≤ a.length + b.length := by
  unfold Jl
  split
  · exact jnl_len a b
  · simp
theorem rjoin_d (a1 a2 : Option Addr) (n c m d k : Nat) (l u M : List Rn) (v : Bool) (w : World) (hl : NRun w a1 n c l) (hu : NRun w a2 m d u) (hk : ∀ r ∈ l, nok r) (hk' : ∀ r ∈ u, nok r) (hn : n ≤ 1000) (hm : m ≤ 1000) (hM : Hid (Jl l u = M)) (hv : Hid (Jn l u = v)) (hl2 : Hid (M.length = k)) :
    Calls Try.prog 67 #[.slice a1 n c, .slice a2 m d] w fun e w' => (∃ A cap, e = .returned (.agg #[.slice A k cap, .bool v]) ∧ NRun w' A k cap M) ∧ Below w.heap.size w w' := by
  have := rjoin_any a1 a2 n c m d l u w hl hu hk hk' hn hm
  rw [hM.out, hv.out, hl2.out] at this
  exact this
def K5 (w wx : World) (N0 N1 N2 N3 N4 : Nat) (o0 o1 o2 o3 o4 : Obj) : Prop := Kp w wx N0 o0 ∧ Kp w wx N1 o1 ∧ Kp w wx N2 o2 ∧ Kp w wx N3 o3 ∧ Kp w wx N4 o4
theorem K5.step {w wx w' : World} {N0 N1 N2 N3 N4 : Nat} {o0 o1 o2 o3 o4 : Obj} (h : K5 w wx N0 N1 N2 N3 N4 o0 o1 o2 o3 o4) (hb : Below wx.heap.size wx w') : K5 w w' N0 N1 N2 N3 N4 o0 o1 o2 o3 o4 := ⟨h.1.step hb, h.2.1.step hb, h.2.2.1.step hb, h.2.2.2.1.step hb, h.2.2.2.2.step hb⟩
theorem K5.gr {w wx w' : World} {N0 N1 N2 N3 N4 M : Nat} {o0 o1 o2 o3 o4 : Obj} (h : K5 w wx N0 N1 N2 N3 N4 o0 o1 o2 o3 o4) (hg : wx.grownBy w' (some M)) (ho : (w.heap.size = N0 ∧ N0 < N1 ∧ N1 < N2) ∧ N2 < N3 ∧ N3 < N4) (hM : N4 < M) : K5 w w' N0 N1 N2 N3 N4 o0 o1 o2 o3 o4 :=
  ⟨kp_gr h.1 hg (by omega) (by omega), kp_gr h.2.1 hg (by omega) (by omega), kp_gr h.2.2.1 hg (by omega) (by omega), kp_gr h.2.2.2.1 hg (by omega) (by omega), kp_gr h.2.2.2.2 hg (by omega) (by omega)⟩
theorem jt {a b : List Rn} (ha : Bag a) (hb : Bag b) (h : Jn a b = true) : tot a + tot b ≤ 1099511627776 := by
  rw [jn_bags ha hb] at h
  exact of_decide_eq_true h
theorem jf {a b : List Rn} (ha : Bag a) (hb : Bag b) (h : Jn a b = false) : ¬ tot a + tot b ≤ 1099511627776 := by
  rw [jn_bags ha hb] at h
  exact of_decide_eq_false h

set_option maxHeartbeats 128000000 in
theorem rdjoin_m (m : Int) (c d : Dl) (a0 : Option Addr) (a1 a2 : Nat) (a3 : Option Addr) (a4 a5 : Nat) (a6 : Option Addr) (a7 a8 : Nat) (a9 : Option Addr) (a10 a11 : Nat) (b0 : Option Addr) (b1 b2 : Nat) (b3 : Option Addr) (b4 b5 : Nat) (b6 : Option Addr) (b7 b8 : Nat) (b9 : Option Addr) (b10 b11 : Nat) (D : Dl) (v : Bool) (w : World) (hw : DW w a0 a1 a2 a3 a4 a5 a6 a7 a8 a9 a10 a11 c) (hz : DW w b0 b1 b2 b3 b4 b5 b6 b7 b8 b9 b10 b11 d) (hk : okd c) (hk' : okd d) (hp : sh5 c) (hp' : sh5 d) (hC : Hid (djC m c d = D)) (hv : Hid (djB m c d = v)) :
    Calls Try.prog 43 #[.int .i64 m, (.agg #[.int .i64 c.n, .int .i64 c.s0, .int .i64 c.s1, .slice a0 a1 a2, .slice a3 a4 a5, .slice a6 a7 a8, .slice a9 a10 a11]), (.agg #[.int .i64 d.n, .int .i64 d.s0, .int .i64 d.s1, .slice b0 b1 b2, .slice b3 b4 b5, .slice b6 b7 b8, .slice b9 b10 b11])] w fun e w' => (∃ r0 r1 r2 r3 r4 r5 r6 r7 r8 r9 r10 r11, e = .returned (.agg #[.int .i64 D.n, .int .i64 D.s0, .int .i64 D.s1, .slice r0 r1 r2, .slice r3 r4 r5, .slice r6 r7 r8, .slice r9 r10 r11, .bool v]) ∧ DW w' r0 r1 r2 r3 r4 r5 r6 r7 r8 r9 r10 r11 D ∧ FD w r0 r1 r3 r4 r6 r7 r9 r10) ∧ Below w.heap.size w w' := by
  have HW := hid hw
  have HV := hid hz
  have HK := hid hk
  have HK2 := hid hk'
  have HP := hid hp
  have HP2 := hid hp'
  have tkA : True := trivial
  have KA := hid (kp_alloc (kp_alloc (kp_new w (.cells #[.int .i64 c.n, .int .i64 c.s0, .int .i64 c.s1, .slice a0 a1 a2, .slice a3 a4 a5, .slice a6 a7 a8, .slice a9 a10 a11] 68)) (.cells #[.int .i64 d.n, .int .i64 d.s0, .int .i64 d.s1, .slice b0 b1 b2, .slice b3 b4 b5, .slice b6 b7 b8, .slice b9 b10 b11] 68)) (.cells #[.int .i64 0, .int .i64 0, .int .i64 0, .slice none 0 0, .slice none 0 0, .slice none 0 0, .slice none 0 0, .bool false] 78))
  have KB := hid (kp_alloc (kp_new2 (b1alloc w (.cells #[.int .i64 c.n, .int .i64 c.s0, .int .i64 c.s1, .slice a0 a1 a2, .slice a3 a4 a5, .slice a6 a7 a8, .slice a9 a10 a11] 68)) (.cells #[.int .i64 d.n, .int .i64 d.s0, .int .i64 d.s1, .slice b0 b1 b2, .slice b3 b4 b5, .slice b6 b7 b8, .slice b9 b10 b11] 68) (w.heap.size + 1) (by simp)) (.cells #[.int .i64 0, .int .i64 0, .int .i64 0, .slice none 0 0, .slice none 0 0, .slice none 0 0, .slice none 0 0, .bool false] 78))
  have KR := hid (kp_new2 (bt (b1alloc w (.cells #[.int .i64 c.n, .int .i64 c.s0, .int .i64 c.s1, .slice a0 a1 a2, .slice a3 a4 a5, .slice a6 a7 a8, .slice a9 a10 a11] 68)) (b1alloc _ (.cells #[.int .i64 d.n, .int .i64 d.s0, .int .i64 d.s1, .slice b0 b1 b2, .slice b3 b4 b5, .slice b6 b7 b8, .slice b9 b10 b11] 68))) (.cells #[.int .i64 0, .int .i64 0, .int .i64 0, .slice none 0 0, .slice none 0 0, .slice none 0 0, .slice none 0 0, .bool false] 78) (w.heap.size + 1 + 1) (by simp))
  obtain ⟨N0, hN0⟩ : ∃ y, w.heap.size = y := ⟨_, rfl⟩
  obtain ⟨N1, hN1⟩ : ∃ y, N0 + 1 = y := ⟨_, rfl⟩
  obtain ⟨N2, hN2⟩ : ∃ y, N1 + 1 = y := ⟨_, rfl⟩
  rw [hN0] at KA
  rw [hN0, hN1] at KB
  rw [hN0, hN1, hN2] at KR
  have HNa : w.heap.size = N0 ∧ N0 < N1 ∧ N1 < N2 := by omega
  obtain ⟨g, hg⟩ : ∃ y, dg m c = y := ⟨_, rfl⟩
  obtain ⟨g', hg'⟩ : ∃ y, dg m d = y := ⟨_, rfl⟩
  have GA := hid hg
  have GB := hid hg'
  clear hw hz hk hk' hp hp' hg hg'
  cases g with
  | false =>
    have e0 : Hid (djB m c d = false) := hid (djB_no (fun h => by have := dg_yes h.1; rw [GA.out] at this; cases this))
    have HZ := hid (And.intro (hC.out.symm.trans (djC_no e0.out)) (hv.out.symm.trans e0.out))
    go_enter Try.func43, Try.ntmps43
    go_upto_region 1 with fail
    generalize ((w.alloc (.cells #[.int .i64 c.n, .int .i64 c.s0, .int .i64 c.s1, .slice a0 a1 a2, .slice a3 a4 a5, .slice a6 a7 a8, .slice a9 a10 a11] 68)).alloc (.cells #[.int .i64 d.n, .int .i64 d.s0, .int .i64 d.s1, .slice b0 b1 b2, .slice b3 b4 b5, .slice b6 b7 b8, .slice b9 b10 b11] 68)).alloc (.cells #[.int .i64 0, .int .i64 0, .int .i64 0, .slice none 0 0, .slice none 0 0, .slice none 0 0, .slice none 0 0, .bool false] 78) = W at KA KB KR ⊢
    (try rw [hN2]); (try rw [hN1]); (try rw [hN0])
    have HN := hid HNa
    clear hN0 hN1 hN2 HNa
    obtain ⟨p0, p1, p2, p3, p4, p5, p6⟩ := box_seven KA.out.2.2
    obtain ⟨q0, q1, q2, q3, q4, q5, q6⟩ := box_seven KB.out.2.2
    go_wp2_with (first
      | (go_at_call 39; refine (rdgood_m m c a0 a1 a2 a3 a4 a5 a6 a7 a8 a9 a10 a11 false _ (HW.out.below KA.out.1) HK.out GA).mono ?_; rintro e w1 ⟨rfl, hb⟩; replace KA := hid (KA.out.step hb); replace KB := hid (KB.out.step hb); replace KR := hid (KR.out.step hb); clear hb p0 p1 p2 p3 p4 p5 p6 q0 q1 q2 q3 q4 q5 q6; obtain ⟨p0, p1, p2, p3, p4, p5, p6⟩ := box_seven KA.out.2.2; obtain ⟨q0, q1, q2, q3, q4, q5, q6⟩ := box_seven KB.out.2.2)
      | (refine wpList_store_whole rfl 78 (.tmp 6) (.tmp 22) rfl N2 (rdC 0 0 0 none 0 0 none 0 0 none 0 0 none 0 0 false) rfl rfl 78 _ KR.out.2.2 rfl (by show _ = some 8; exact size_rd) (rdC_one _ _ _ _ _ _ _ _ _ _ _ _ _ _ _ _) ?_; intro w9 hp9 hg9; have KR9 := hid (kp_at KR.out hg9 hp9); clear hp9 hg9))
    (try simp only [Exit.inBlock, Exit.then])
    show bodyPost Try.prog Try.f43 _ _ _ _
    refine bodyPost_ret (results_cell_row (p := 6) rfl _ _ N2 _ (rdC 0 0 0 none 0 0 none 0 0 none 0 0 none 0 0 false) (0, 0) _ rfl KR9.out.2.2 Try.underlying78 rfl (by kernel_rfl)) rfl ?_
    obtain ⟨z1, z2⟩ := HZ.out
    subst z1
    subst z2
    exact ⟨⟨none, 0, 0, none, 0, 0, none, 0, 0, none, 0, 0, rfl, dw_0 _, fd_0 _⟩, KR9.out.1⟩
  | true =>
  cases g' with
  | false =>
    have e0 : Hid (djB m c d = false) := hid (djB_no (fun h => by have := dg_yes h.2.1; rw [GB.out] at this; cases this))
    have HZ := hid (And.intro (hC.out.symm.trans (djC_no e0.out)) (hv.out.symm.trans e0.out))
    go_enter Try.func43, Try.ntmps43
    go_upto_region 1 with fail
    generalize ((w.alloc (.cells #[.int .i64 c.n, .int .i64 c.s0, .int .i64 c.s1, .slice a0 a1 a2, .slice a3 a4 a5, .slice a6 a7 a8, .slice a9 a10 a11] 68)).alloc (.cells #[.int .i64 d.n, .int .i64 d.s0, .int .i64 d.s1, .slice b0 b1 b2, .slice b3 b4 b5, .slice b6 b7 b8, .slice b9 b10 b11] 68)).alloc (.cells #[.int .i64 0, .int .i64 0, .int .i64 0, .slice none 0 0, .slice none 0 0, .slice none 0 0, .slice none 0 0, .bool false] 78) = W at KA KB KR ⊢
    (try rw [hN2]); (try rw [hN1]); (try rw [hN0])
    have HN := hid HNa
    clear hN0 hN1 hN2 HNa
    obtain ⟨p0, p1, p2, p3, p4, p5, p6⟩ := box_seven KA.out.2.2
    obtain ⟨q0, q1, q2, q3, q4, q5, q6⟩ := box_seven KB.out.2.2
    go_wp2_with (first
      | (go_at_call 39; clear tkA; refine (rdgood_m m c a0 a1 a2 a3 a4 a5 a6 a7 a8 a9 a10 a11 true _ (HW.out.below KA.out.1) HK.out GA).mono ?_; rintro e w1 ⟨rfl, hb⟩; replace KA := hid (KA.out.step hb); replace KB := hid (KB.out.step hb); replace KR := hid (KR.out.step hb); clear hb p0 p1 p2 p3 p4 p5 p6 q0 q1 q2 q3 q4 q5 q6; obtain ⟨p0, p1, p2, p3, p4, p5, p6⟩ := box_seven KA.out.2.2; obtain ⟨q0, q1, q2, q3, q4, q5, q6⟩ := box_seven KB.out.2.2)
      | (go_at_call 39; refine (rdgood_m m d b0 b1 b2 b3 b4 b5 b6 b7 b8 b9 b10 b11 false _ (HV.out.below KA.out.1) HK2.out GB).mono ?_; rintro e w2 ⟨rfl, hb⟩; replace KA := hid (KA.out.step hb); replace KB := hid (KB.out.step hb); replace KR := hid (KR.out.step hb); clear hb p0 p1 p2 p3 p4 p5 p6 q0 q1 q2 q3 q4 q5 q6; obtain ⟨p0, p1, p2, p3, p4, p5, p6⟩ := box_seven KA.out.2.2; obtain ⟨q0, q1, q2, q3, q4, q5, q6⟩ := box_seven KB.out.2.2)
      | (refine wpList_store_whole rfl 78 (.tmp 6) (.tmp 22) rfl N2 (rdC 0 0 0 none 0 0 none 0 0 none 0 0 none 0 0 false) rfl rfl 78 _ KR.out.2.2 rfl (by show _ = some 8; exact size_rd) (rdC_one _ _ _ _ _ _ _ _ _ _ _ _ _ _ _ _) ?_; intro w9 hp9 hg9; have KR9 := hid (kp_at KR.out hg9 hp9); clear hp9 hg9))
    (try simp only [Exit.inBlock, Exit.then])
    show bodyPost Try.prog Try.f43 _ _ _ _
    refine bodyPost_ret (results_cell_row (p := 6) rfl _ _ N2 _ (rdC 0 0 0 none 0 0 none 0 0 none 0 0 none 0 0 false) (0, 0) _ rfl KR9.out.2.2 Try.underlying78 rfl (by kernel_rfl)) rfl ?_
    obtain ⟨z1, z2⟩ := HZ.out
    subst z1
    subst z2
    exact ⟨⟨none, 0, 0, none, 0, 0, none, 0, 0, none, 0, 0, rfl, dw_0 _, fd_0 _⟩, KR9.out.1⟩
  | true =>
    have CA := hid (dg_iff.1 GA.out)
    have CB := hid (dg_iff.1 GB.out)
    have BC := hid (dg_bags CA.out)
    have BD := hid (dg_bags CB.out)
    have na := dg_n CA.out
    have nb := dg_n CB.out
    obtain ⟨na1, na2⟩ := na
    obtain ⟨nb1, nb2⟩ := nb
    have hwn : IntKind.i64.wrap (c.n + d.n) = c.n + d.n := IntWalk.i64_in _ (by omega)
    have hm := dg_m GA.out
    have m0d : decide ((0 : Int) < m) = true := decide_eq_true (by omega)
    have m0i : (0 : Int) < m := by omega
    have LA : Hid (((a1 ≤ 500 ∧ a4 ≤ 500) ∧ a7 ≤ 500 ∧ a10 ≤ 500) ∧ (b1 ≤ 500 ∧ b4 ≤ 500) ∧ b7 ≤ 500 ∧ b10 ≤ 500) := hid (by have h1 := HW.out.1.1.lens.1; have h2 := HW.out.1.2.lens.1; have h3 := HW.out.2.1.lens.1; have h4 := HW.out.2.2.lens.1; have k1 := HV.out.1.1.lens.1; have k2 := HV.out.1.2.lens.1; have k3 := HV.out.2.1.lens.1; have k4 := HV.out.2.2.lens.1; have q1 := HP.out.1; have q2 := HP.out.2; have q3 := HP2.out.1; have q4 := HP2.out.2; omega)
    go_enter Try.func43, Try.ntmps43
    go_upto_region 1 with fail
    generalize ((w.alloc (.cells #[.int .i64 c.n, .int .i64 c.s0, .int .i64 c.s1, .slice a0 a1 a2, .slice a3 a4 a5, .slice a6 a7 a8, .slice a9 a10 a11] 68)).alloc (.cells #[.int .i64 d.n, .int .i64 d.s0, .int .i64 d.s1, .slice b0 b1 b2, .slice b3 b4 b5, .slice b6 b7 b8, .slice b9 b10 b11] 68)).alloc (.cells #[.int .i64 0, .int .i64 0, .int .i64 0, .slice none 0 0, .slice none 0 0, .slice none 0 0, .slice none 0 0, .bool false] 78) = W at KA KB KR ⊢
    (try rw [hN2]); (try rw [hN1]); (try rw [hN0])
    have HN := hid HNa
    clear hN0 hN1 hN2 HNa
    obtain ⟨p0, p1, p2, p3, p4, p5, p6⟩ := box_seven KA.out.2.2
    obtain ⟨q0, q1, q2, q3, q4, q5, q6⟩ := box_seven KB.out.2.2
    go_upto_region 3 with (first
      | (go_at_call 39; clear tkA; refine (rdgood_m m c a0 a1 a2 a3 a4 a5 a6 a7 a8 a9 a10 a11 true _ (HW.out.below KA.out.1) HK.out GA).mono ?_; rintro e w1 ⟨rfl, hb⟩; replace KA := hid (KA.out.step hb); replace KB := hid (KB.out.step hb); replace KR := hid (KR.out.step hb); clear hb p0 p1 p2 p3 p4 p5 p6 q0 q1 q2 q3 q4 q5 q6; obtain ⟨p0, p1, p2, p3, p4, p5, p6⟩ := box_seven KA.out.2.2; obtain ⟨q0, q1, q2, q3, q4, q5, q6⟩ := box_seven KB.out.2.2)
      | (go_at_call 39; refine (rdgood_m m d b0 b1 b2 b3 b4 b5 b6 b7 b8 b9 b10 b11 true _ (HV.out.below KA.out.1) HK2.out GB).mono ?_; rintro e w2 ⟨rfl, hb⟩; replace KA := hid (KA.out.step hb); replace KB := hid (KB.out.step hb); replace KR := hid (KR.out.step hb); clear hb p0 p1 p2 p3 p4 p5 p6 q0 q1 q2 q3 q4 q5 q6; obtain ⟨p0, p1, p2, p3, p4, p5, p6⟩ := box_seven KA.out.2.2; obtain ⟨q0, q1, q2, q3, q4, q5, q6⟩ := box_seven KB.out.2.2))
    clear p0 p1 p2 p3 p4 p5 p6 q0 q1 q2 q3 q4 q5 q6
    rename World => W1
    have LR := hid (heap_lt KR.out.2.2)
    have KI := hid (kp_alloc (kp_new2 KA.out.1 (.cells #[.slice none 0 0, .slice none 0 0] 24) W1.heap.size rfl) (.cells #[.slice none 0 0, .slice none 0 0] 24))
    have KO := hid (kp_new2 (bt KA.out.1 (b1alloc W1 (.cells #[.slice none 0 0, .slice none 0 0] 24))) (.cells #[.slice none 0 0, .slice none 0 0] 24) (W1.heap.size + 1) (by simp))
    replace KA := hid (kp_alloc (kp_alloc KA.out (.cells #[.slice none 0 0, .slice none 0 0] 24)) (.cells #[.slice none 0 0, .slice none 0 0] 24))
    replace KB := hid (kp_alloc (kp_alloc KB.out (.cells #[.slice none 0 0, .slice none 0 0] 24)) (.cells #[.slice none 0 0, .slice none 0 0] 24))
    replace KR := hid (kp_alloc (kp_alloc KR.out (.cells #[.slice none 0 0, .slice none 0 0] 24)) (.cells #[.slice none 0 0, .slice none 0 0] 24))
    go_upto_region 4 with fail
    generalize (W1.alloc (.cells #[.slice none 0 0, .slice none 0 0] 24)).alloc (.cells #[.slice none 0 0, .slice none 0 0] 24) = W2 at KI KO KA KB KR ⊢
    obtain ⟨N3, hN3⟩ : ∃ y, W1.heap.size = y := ⟨_, rfl⟩
    obtain ⟨N4, hN4⟩ : ∃ y, N3 + 1 = y := ⟨_, rfl⟩
    rw [hN3] at KI KO LR
    rw [hN4] at KO
    (try rw [hN3]); (try rw [hN4])
    have HM4 : Hid ((w.heap.size = N0 ∧ N0 < N1 ∧ N1 < N2) ∧ N2 < N3 ∧ N3 < N4) := hid ⟨HN.out, LR.out, by omega⟩
    clear hN3 hN4 HN LR
    go_upto_region 5 with fail
    refine wp_loop_rounds 3 ?_
    rw [rounds_succ]
    obtain ⟨X0, h1⟩ : ∃ y, Jl c.i0 d.i0 = y := ⟨_, rfl⟩
    obtain ⟨vx0, h2⟩ : ∃ y, Jn c.i0 d.i0 = y := ⟨_, rfl⟩
    obtain ⟨kx0, h3⟩ : ∃ y, X0.length = y := ⟨_, rfl⟩
    have EX0 := hid h1
    have Evx0 := hid h2
    have Ekx0 := hid h3
    clear h1 h2 h3
    obtain ⟨Y0, h1⟩ : ∃ y, Jl c.o0 d.o0 = y := ⟨_, rfl⟩
    obtain ⟨vy0, h2⟩ : ∃ y, Jn c.o0 d.o0 = y := ⟨_, rfl⟩
    obtain ⟨ky0, h3⟩ : ∃ y, Y0.length = y := ⟨_, rfl⟩
    have EY0 := hid h1
    have Evy0 := hid h2
    have Eky0 := hid h3
    clear h1 h2 h3
    have PX0 : Hid (Pos X0) := hid (by rw [← EX0.out]; exact jl_pos BC.out.1.1 BD.out.1.1)
    have PY0 : Hid (Pos Y0) := hid (by rw [← EY0.out]; exact jl_pos BC.out.1.2 BD.out.1.2)
    go_upto_region 7 with fail
    go_cut [10, 11] (fun p q wx => ∃ (NX NY : Nat) (AX0 : Option Addr) (cx0 : Nat) (AY0 : Option Addr) (cy0 : Nat), p = .pointer (some ⟨NX, 0, none⟩) ∧ q = .pointer (some ⟨NY, 0, none⟩) ∧ Hid (Kp w wx N0 (.cells #[.int .i64 c.n, .int .i64 c.s0, .int .i64 c.s1, .slice a0 a1 a2, .slice a3 a4 a5, .slice a6 a7 a8, .slice a9 a10 a11] 68)) ∧ Hid (Kp w wx N1 (.cells #[.int .i64 d.n, .int .i64 d.s0, .int .i64 d.s1, .slice b0 b1 b2, .slice b3 b4 b5, .slice b6 b7 b8, .slice b9 b10 b11] 68)) ∧ Hid (Kp w wx N2 (.cells #[.int .i64 0, .int .i64 0, .int .i64 0, .slice none 0 0, .slice none 0 0, .slice none 0 0, .slice none 0 0, .bool false] 78)) ∧ Hid (Kp w wx N3 (.cells #[.slice none 0 0, .slice none 0 0] 24)) ∧ Hid (Kp w wx N4 (.cells #[.slice none 0 0, .slice none 0 0] 24)) ∧ Hid (Kp w wx NX (.cells #[.slice AX0 kx0 cx0, .bool vx0] 130)) ∧ Hid (Kp w wx NY (.cells #[.slice AY0 ky0 cy0, .bool vy0] 130)) ∧ Hid (NRun wx AX0 kx0 cx0 X0) ∧ Hid (NRun wx AY0 ky0 cy0 Y0) ∧ Hid (N4 < NX) ∧ Hid (N4 < NY))
    case first =>
        have KK : Hid (K5 w W2 N0 N1 N2 N3 N4 (.cells #[.int .i64 c.n, .int .i64 c.s0, .int .i64 c.s1, .slice a0 a1 a2, .slice a3 a4 a5, .slice a6 a7 a8, .slice a9 a10 a11] 68) (.cells #[.int .i64 d.n, .int .i64 d.s0, .int .i64 d.s1, .slice b0 b1 b2, .slice b3 b4 b5, .slice b6 b7 b8, .slice b9 b10 b11] 68) (.cells #[.int .i64 0, .int .i64 0, .int .i64 0, .slice none 0 0, .slice none 0 0, .slice none 0 0, .slice none 0 0, .bool false] 78) (.cells #[.slice none 0 0, .slice none 0 0] 24) (.cells #[.slice none 0 0, .slice none 0 0] 24)) := hid ⟨KA.out, KB.out, KR.out, KI.out, KO.out⟩
        have KS : Hid (∀ y, K5 w y N0 N1 N2 N3 N4 (.cells #[.int .i64 c.n, .int .i64 c.s0, .int .i64 c.s1, .slice a0 a1 a2, .slice a3 a4 a5, .slice a6 a7 a8, .slice a9 a10 a11] 68) (.cells #[.int .i64 d.n, .int .i64 d.s0, .int .i64 d.s1, .slice b0 b1 b2, .slice b3 b4 b5, .slice b6 b7 b8, .slice b9 b10 b11] 68) (.cells #[.int .i64 0, .int .i64 0, .int .i64 0, .slice none 0 0, .slice none 0 0, .slice none 0 0, .slice none 0 0, .bool false] 78) (.cells #[.slice none 0 0, .slice none 0 0] 24) (.cells #[.slice none 0 0, .slice none 0 0] 24) → (fun y => y.cell? ⟨N0, 3, none⟩ = some (.slice a0 a1 a2) ∧ y.cell? ⟨N1, 3, none⟩ = some (.slice b0 b1 b2) ∧ y.cell? ⟨N0, 5, none⟩ = some (.slice a6 a7 a8) ∧ y.cell? ⟨N1, 5, none⟩ = some (.slice b6 b7 b8)) y) := hid (fun y h => ⟨kp_cell (j := 3) (v := .slice a0 a1 a2) h.1 rfl, kp_cell (j := 3) (v := .slice b0 b1 b2) h.2.1 rfl, kp_cell (j := 5) (v := .slice a6 a7 a8) h.1 rfl, kp_cell (j := 5) (v := .slice b6 b7 b8) h.2.1 rfl⟩)
        clear KA KB KR KI KO
        have CY0 : Hid (∀ y, Below w.heap.size w y → Calls Try.prog 67 #[.slice a6 a7 a8, .slice b6 b7 b8] y fun e w' => (∃ A cap, e = .returned (.agg #[.slice A ky0 cap, .bool vy0]) ∧ NRun w' A ky0 cap Y0) ∧ Below y.heap.size y w') := hid (fun y h => rjoin_d _ _ _ _ _ _ ky0 c.o0 d.o0 Y0 vy0 _ (HW.out.2.1.below h) (HV.out.2.1.below h) HK.out.2.2.1 HK2.out.2.2.1 (by have := LA.out; omega) (by have := LA.out; omega) EY0 Evy0 Eky0)
        have CX0 : Hid (∀ y, Below w.heap.size w y → Calls Try.prog 67 #[.slice a0 a1 a2, .slice b0 b1 b2] y fun e w' => (∃ A cap, e = .returned (.agg #[.slice A kx0 cap, .bool vx0]) ∧ NRun w' A kx0 cap X0) ∧ Below y.heap.size y w') := hid (fun y h => rjoin_d _ _ _ _ _ _ kx0 c.i0 d.i0 X0 vx0 _ (HW.out.1.1.below h) (HV.out.1.1.below h) HK.out.2.1.1 HK2.out.2.1.1 (by have := LA.out; omega) (by have := LA.out; omega) EX0 Evx0 Ekx0)
        refine wp_region_noPanic ?_
        refine wp_region_held_drew (S := fun y => y.cell? ⟨N0, 3, none⟩ = some (.slice a0 a1 a2) ∧ y.cell? ⟨N1, 3, none⟩ = some (.slice b0 b1 b2) ∧ y.cell? ⟨N0, 5, none⟩ = some (.slice a6 a7 a8) ∧ y.cell? ⟨N1, 5, none⟩ = some (.slice b6 b7 b8)) (by kernel_rfl) (KS.out _ (KK.out.step (bdrew (Below.refl _ _)))) (fun hHeld => ?_)
        replace KK := hid (KK.out.step (bdrew (Below.refl _ _)))
        generalize W2.drew = wd at KK hHeld ⊢
        refine tk 0 (v := ?_) ?_ ?_
        rotate_left
        · intro w hSw; (try dsimp only at hSw); go_simp; (try with_reducible rfl)
        try simp only [Act.put, List.setIfInBounds_toArray, List.set_cons_zero, List.set_cons_succ]
        refine tk 1 (v := ?_) ?_ ?_
        rotate_left
        · intro w hSw; (try dsimp only at hSw); go_simp; (try with_reducible rfl)
        try simp only [Act.put, List.setIfInBounds_toArray, List.set_cons_zero, List.set_cons_succ]
        refine tk 2 (v := ?_) ?_ ?_
        rotate_left
        · intro w hSw; (try dsimp only at hSw); go_simp; (try with_reducible rfl)
        try simp only [Act.put, List.setIfInBounds_toArray, List.set_cons_zero, List.set_cons_succ]
        refine tk 3 (v := ?_) ?_ ?_
        rotate_left
        · intro w hSw; (try dsimp only at hSw); go_simp; (try with_reducible rfl)
        try simp only [Act.put, List.setIfInBounds_toArray, List.set_cons_zero, List.set_cons_succ]
        refine tk 4 (v := ?_) ?_ ?_
        rotate_left
        · intro w hSw; (try dsimp only at hSw); go_simp; (try with_reducible rfl)
        try simp only [Act.put, List.setIfInBounds_toArray, List.set_cons_zero, List.set_cons_succ]
        refine tk 5 (v := ?_) ?_ ?_
        rotate_left
        · intro w hSw; (try dsimp only at hSw); go_simp; (try with_reducible rfl)
        try simp only [Act.put, List.setIfInBounds_toArray, List.set_cons_zero, List.set_cons_succ]
        refine tk 6 (v := ?_) ?_ ?_
        rotate_left
        · intro w hSw; (try dsimp only at hSw); go_simp; (try with_reducible rfl)
        try simp only [Act.put, List.setIfInBounds_toArray, List.set_cons_zero, List.set_cons_succ]
        refine tk 7 (v := ?_) ?_ ?_
        rotate_left
        · intro w hSw; (try dsimp only at hSw); go_simp; (try with_reducible rfl)
        try simp only [Act.put, List.setIfInBounds_toArray, List.set_cons_zero, List.set_cons_succ]
        refine tk 9 (v := ?_) ?_ ?_
        rotate_left
        · intro w hSw; (try dsimp only at hSw); go_simp; (try with_reducible rfl)
        try simp only [Act.put, List.setIfInBounds_toArray, List.set_cons_zero, List.set_cons_succ]
        refine tk 10 (v := ?_) ?_ ?_
        rotate_left
        · intro w hSw; (try dsimp only at hSw); go_simp; (try with_reducible rfl)
        try simp only [Act.put, List.setIfInBounds_toArray, List.set_cons_zero, List.set_cons_succ]
        refine tk 11 (v := ?_) ?_ ?_
        rotate_left
        · intro w hSw; (try dsimp only at hSw); go_simp; (try with_reducible rfl)
        try simp only [Act.put, List.setIfInBounds_toArray, List.set_cons_zero, List.set_cons_succ]
        refine tk 12 (v := ?_) ?_ ?_
        rotate_left
        · intro w hSw; (try dsimp only at hSw); go_simp; (try with_reducible rfl)
        try simp only [Act.put, List.setIfInBounds_toArray, List.set_cons_zero, List.set_cons_succ]
        refine tk 13 (v := ?_) ?_ ?_
        rotate_left
        · intro w hSw; (try dsimp only at hSw); go_simp; (try with_reducible rfl)
        try simp only [Act.put, List.setIfInBounds_toArray, List.set_cons_zero, List.set_cons_succ]
        refine tk 14 (v := ?_) ?_ ?_
        rotate_left
        · intro w hSw; (try dsimp only at hSw); go_simp; (try with_reducible rfl)
        try simp only [Act.put, List.setIfInBounds_toArray, List.set_cons_zero, List.set_cons_succ]
        refine tk 15 (v := ?_) ?_ ?_
        rotate_left
        · intro w hSw; (try dsimp only at hSw); go_simp; (try with_reducible rfl)
        try simp only [Act.put, List.setIfInBounds_toArray, List.set_cons_zero, List.set_cons_succ]
        refine tk 16 (v := ?_) ?_ ?_
        rotate_left
        · intro w hSw; (try dsimp only at hSw); go_simp; (try with_reducible rfl)
        try simp only [Act.put, List.setIfInBounds_toArray, List.set_cons_zero, List.set_cons_succ]
        refine wpAnyH_ready (rs := [8, 18, 19]) (by kernel_rfl) (by simp) ?_
        refine (rdc (fun K hK => ?_) (rdc (fun K hK => ?_) (rdc (fun K hK => ?_) AllReadyH.nil)))
        · go_simp
          go_at_call 67; refine (CX0.out _ KK.out.1.1).mono ?_; rintro e w_1 ⟨⟨AX0, cx0, rfl, hr⟩, hb⟩
          replace KK := hid (KK.out.step hb)
          have RX0 := hid hr
          refine hK.out _ _ (KS.out _ KK.out) (fun hHeld2 => ?_)
          clear hK K hHeld; have hHeld := hHeld2; clear hHeld2
          clear hr hb
          try simp only [Act.put, List.setIfInBounds_toArray, List.set_cons_zero, List.set_cons_succ]
          refine wpAnyH_ready (rs := [17, 18, 19]) (by kernel_rfl) (by simp) ?_
          refine (rdc (fun K hK => ?_) (rdc (fun K hK => ?_) (rdc (fun K hK => ?_) AllReadyH.nil)))
          · go_simp
            go_at_call 67; refine (CY0.out _ KK.out.1.1).mono ?_; rintro e w_2 ⟨⟨AY0, cy0, rfl, hr⟩, hb⟩
            replace KK := hid (KK.out.step hb)
            replace RX0 := hid (RX0.out.below hb)
            have RY0 := hid hr
            refine hK.out _ _ (KS.out _ KK.out) (fun hHeld2 => ?_)
            clear hK K hHeld; have hHeld := hHeld2; clear hHeld2
            clear hr hb
            try simp only [Act.put, List.setIfInBounds_toArray, List.set_cons_zero, List.set_cons_succ]
            refine wpAnyH_ready (rs := [18, 19]) (by kernel_rfl) (by simp) ?_
            refine (rdc (fun K hK => ?_) (rdc (fun K hK => ?_) AllReadyH.nil))
            · go_simp
              have KX : Hid (Kp w (w_2.alloc (.cells #[.slice none 0 0, .bool false] 130)) w_2.heap.size (.cells #[.slice none 0 0, .bool false] 130)) := hid (kp_new2 KK.out.1.1 _ _ rfl)
              have l1 := heap_lt KK.out.2.2.2.2.2.2
              replace KK := hid (KK.out.step (b1alloc _ (.cells #[.slice none 0 0, .bool false] 130)))
              replace RX0 := hid (RX0.out.below (b1alloc w_2 (.cells #[.slice none 0 0, .bool false] 130)))
              replace RY0 := hid (RY0.out.below (b1alloc w_2 (.cells #[.slice none 0 0, .bool false] 130)))
              refine hK.out _ _ (KS.out _ KK.out) (fun hHeld2 => ?_)
              clear hK K hHeld; have hHeld := hHeld2; clear hHeld2
              have DKX := hid l1
              clear l1
              generalize w_2.alloc (.cells #[.slice none 0 0, .bool false] 130) = w_3 at KK KX RX0 RY0 hHeld ⊢
              generalize w_2.heap.size = NX at KX DKX ⊢
              try simp only [Act.put, List.setIfInBounds_toArray, List.set_cons_zero, List.set_cons_succ]
              refine rd1 19 (fun K hK => ?_)
              go_simp
              have KY : Hid (Kp w (w_3.alloc (.cells #[.slice none 0 0, .bool false] 130)) w_3.heap.size (.cells #[.slice none 0 0, .bool false] 130)) := hid (kp_new2 KK.out.1.1 _ _ rfl)
              have l1 := heap_lt KK.out.2.2.2.2.2.2
              have l3 := heap_lt KX.out.2.2
              replace KK := hid (KK.out.step (b1alloc _ (.cells #[.slice none 0 0, .bool false] 130)))
              replace KX := hid (kp_alloc KX.out (.cells #[.slice none 0 0, .bool false] 130))
              replace RX0 := hid (RX0.out.below (b1alloc w_3 (.cells #[.slice none 0 0, .bool false] 130)))
              replace RY0 := hid (RY0.out.below (b1alloc w_3 (.cells #[.slice none 0 0, .bool false] 130)))
              refine hK.out _ _ (KS.out _ KK.out) (fun hHeld2 => ?_)
              clear hK K hHeld; have hHeld := hHeld2; clear hHeld2
              have DKY := hid l1
              have DXY := hid l3
              clear l1 l3
              generalize w_3.alloc (.cells #[.slice none 0 0, .bool false] 130) = w_4 at KK KX KY RX0 RY0 hHeld ⊢
              generalize w_3.heap.size = NY at KY DKY DXY ⊢
              try simp only [Act.put, List.setIfInBounds_toArray, List.set_cons_zero, List.set_cons_succ]
              refine rd1 20 (fun K hK => ?_)
              obtain ⟨z0, z1⟩ := box_two KX.out.2.2
              have y0 := kp_froz KX.out 0
              have y1 := kp_froz KX.out 1
              go_simp
              have g6 := (set_grown w_4 NX 0 (.slice AX0 kx0 cx0)).trans (set_grown _ NX 1 (.bool vx0))
              have nz := no_int2 (fun _ h => by cases h) (fun _ h => by cases h) KX.out.2.2
              replace KK := hid (KK.out.gr g6 HM4.out DKX.out)
              replace KY := hid (kp_gr KY.out g6 (by have := DXY.out; omega) (by have := HM4.out; have := DKX.out; omega))
              replace RX0 := hid (RX0.out.offd g6 nz PX0.out)
              replace RY0 := hid (RY0.out.offd g6 nz PY0.out)
              replace KX := hid (kp_set2 (.slice AX0 kx0 cx0) (.bool vx0) KX.out)
              refine hK.out _ _ (KS.out _ KK.out) (fun hHeld2 => ?_)
              clear hK K hHeld; have hHeld := hHeld2; clear hHeld2
              clear g6 nz z0 z1 y0 y1
              generalize ((w_4.setCell ⟨NX, 0, none⟩ (.slice AX0 kx0 cx0)).setCell ⟨NX, 1, none⟩ (.bool vx0)) = w_5 at KK KX KY RX0 RY0 hHeld ⊢
              try simp only [Act.put, List.setIfInBounds_toArray, List.set_cons_zero, List.set_cons_succ]
              refine rd1 21 (fun K hK => ?_)
              obtain ⟨z0, z1⟩ := box_two KY.out.2.2
              have y0 := kp_froz KY.out 0
              have y1 := kp_froz KY.out 1
              go_simp
              have g6 := (set_grown w_5 NY 0 (.slice AY0 ky0 cy0)).trans (set_grown _ NY 1 (.bool vy0))
              have nz := no_int2 (fun _ h => by cases h) (fun _ h => by cases h) KY.out.2.2
              replace KK := hid (KK.out.gr g6 HM4.out DKY.out)
              replace KX := hid (kp_gr KX.out g6 (by have := DXY.out; omega) (by have := HM4.out; have := DKY.out; omega))
              replace RX0 := hid (RX0.out.offd g6 nz PX0.out)
              replace RY0 := hid (RY0.out.offd g6 nz PY0.out)
              replace KY := hid (kp_set2 (.slice AY0 ky0 cy0) (.bool vy0) KY.out)
              refine hK.out _ _ (KS.out _ KK.out) (fun hHeld2 => ?_)
              clear hK K hHeld; have hHeld := hHeld2; clear hHeld2
              clear g6 nz z0 z1 y0 y1
              generalize ((w_5.setCell ⟨NY, 0, none⟩ (.slice AY0 ky0 cy0)).setCell ⟨NY, 1, none⟩ (.bool vy0)) = w_6 at KK KX KY RX0 RY0 hHeld ⊢
              try simp only [Act.put, List.setIfInBounds_toArray, List.set_cons_zero, List.set_cons_succ]
              refine wpAnyH_done (by kernel_rfl) ?_ _
              refine NoPanic.normal ?_
              try go_wp2_with fail
              go_meet
              exact ⟨NX, NY, AX0, cx0, AY0, cy0, rfl, rfl, hid KK.out.1, hid KK.out.2.1, hid KK.out.2.2.1, hid KK.out.2.2.2.1, hid KK.out.2.2.2.2, KX, KY, RX0, RY0, DKX, DKY⟩
            · go_simp
              have KY : Hid (Kp w (w_2.alloc (.cells #[.slice none 0 0, .bool false] 130)) w_2.heap.size (.cells #[.slice none 0 0, .bool false] 130)) := hid (kp_new2 KK.out.1.1 _ _ rfl)
              have l1 := heap_lt KK.out.2.2.2.2.2.2
              replace KK := hid (KK.out.step (b1alloc _ (.cells #[.slice none 0 0, .bool false] 130)))
              replace RX0 := hid (RX0.out.below (b1alloc w_2 (.cells #[.slice none 0 0, .bool false] 130)))
              replace RY0 := hid (RY0.out.below (b1alloc w_2 (.cells #[.slice none 0 0, .bool false] 130)))
              refine hK.out _ _ (KS.out _ KK.out) (fun hHeld2 => ?_)
              clear hK K hHeld; have hHeld := hHeld2; clear hHeld2
              have DKY := hid l1
              clear l1
              generalize w_2.alloc (.cells #[.slice none 0 0, .bool false] 130) = w_3 at KK KY RX0 RY0 hHeld ⊢
              generalize w_2.heap.size = NY at KY DKY ⊢
              try simp only [Act.put, List.setIfInBounds_toArray, List.set_cons_zero, List.set_cons_succ]
              refine rd1 18 (fun K hK => ?_)
              go_simp
              have KX : Hid (Kp w (w_3.alloc (.cells #[.slice none 0 0, .bool false] 130)) w_3.heap.size (.cells #[.slice none 0 0, .bool false] 130)) := hid (kp_new2 KK.out.1.1 _ _ rfl)
              have l1 := heap_lt KK.out.2.2.2.2.2.2
              have l3 := heap_lt KY.out.2.2
              replace KK := hid (KK.out.step (b1alloc _ (.cells #[.slice none 0 0, .bool false] 130)))
              replace KY := hid (kp_alloc KY.out (.cells #[.slice none 0 0, .bool false] 130))
              replace RX0 := hid (RX0.out.below (b1alloc w_3 (.cells #[.slice none 0 0, .bool false] 130)))
              replace RY0 := hid (RY0.out.below (b1alloc w_3 (.cells #[.slice none 0 0, .bool false] 130)))
              refine hK.out _ _ (KS.out _ KK.out) (fun hHeld2 => ?_)
              clear hK K hHeld; have hHeld := hHeld2; clear hHeld2
              have DKX := hid l1
              have DXY := hid l3
              clear l1 l3
              generalize w_3.alloc (.cells #[.slice none 0 0, .bool false] 130) = w_4 at KK KY KX RX0 RY0 hHeld ⊢
              generalize w_3.heap.size = NX at KX DKX DXY ⊢
              try simp only [Act.put, List.setIfInBounds_toArray, List.set_cons_zero, List.set_cons_succ]
              refine rd1 20 (fun K hK => ?_)
              obtain ⟨z0, z1⟩ := box_two KX.out.2.2
              have y0 := kp_froz KX.out 0
              have y1 := kp_froz KX.out 1
              go_simp
              have g6 := (set_grown w_4 NX 0 (.slice AX0 kx0 cx0)).trans (set_grown _ NX 1 (.bool vx0))
              have nz := no_int2 (fun _ h => by cases h) (fun _ h => by cases h) KX.out.2.2
              replace KK := hid (KK.out.gr g6 HM4.out DKX.out)
              replace KY := hid (kp_gr KY.out g6 (by have := DXY.out; omega) (by have := HM4.out; have := DKX.out; omega))
              replace RX0 := hid (RX0.out.offd g6 nz PX0.out)
              replace RY0 := hid (RY0.out.offd g6 nz PY0.out)
              replace KX := hid (kp_set2 (.slice AX0 kx0 cx0) (.bool vx0) KX.out)
              refine hK.out _ _ (KS.out _ KK.out) (fun hHeld2 => ?_)
              clear hK K hHeld; have hHeld := hHeld2; clear hHeld2
              clear g6 nz z0 z1 y0 y1
              generalize ((w_4.setCell ⟨NX, 0, none⟩ (.slice AX0 kx0 cx0)).setCell ⟨NX, 1, none⟩ (.bool vx0)) = w_5 at KK KX KY RX0 RY0 hHeld ⊢
              try simp only [Act.put, List.setIfInBounds_toArray, List.set_cons_zero, List.set_cons_succ]
              refine rd1 21 (fun K hK => ?_)
              obtain ⟨z0, z1⟩ := box_two KY.out.2.2
              have y0 := kp_froz KY.out 0
              have y1 := kp_froz KY.out 1
              go_simp
              have g6 := (set_grown w_5 NY 0 (.slice AY0 ky0 cy0)).trans (set_grown _ NY 1 (.bool vy0))
              have nz := no_int2 (fun _ h => by cases h) (fun _ h => by cases h) KY.out.2.2
              replace KK := hid (KK.out.gr g6 HM4.out DKY.out)
              replace KX := hid (kp_gr KX.out g6 (by have := DXY.out; omega) (by have := HM4.out; have := DKY.out; omega))
              replace RX0 := hid (RX0.out.offd g6 nz PX0.out)
              replace RY0 := hid (RY0.out.offd g6 nz PY0.out)
              replace KY := hid (kp_set2 (.slice AY0 ky0 cy0) (.bool vy0) KY.out)
              refine hK.out _ _ (KS.out _ KK.out) (fun hHeld2 => ?_)
              clear hK K hHeld; have hHeld := hHeld2; clear hHeld2
              clear g6 nz z0 z1 y0 y1
              generalize ((w_5.setCell ⟨NY, 0, none⟩ (.slice AY0 ky0 cy0)).setCell ⟨NY, 1, none⟩ (.bool vy0)) = w_6 at KK KX KY RX0 RY0 hHeld ⊢
              try simp only [Act.put, List.setIfInBounds_toArray, List.set_cons_zero, List.set_cons_succ]
              refine wpAnyH_done (by kernel_rfl) ?_ _
              refine NoPanic.normal ?_
              try go_wp2_with fail
              go_meet
              exact ⟨NX, NY, AX0, cx0, AY0, cy0, rfl, rfl, hid KK.out.1, hid KK.out.2.1, hid KK.out.2.2.1, hid KK.out.2.2.2.1, hid KK.out.2.2.2.2, KX, KY, RX0, RY0, DKX, DKY⟩
          · go_simp
            have KX : Hid (Kp w (w_1.alloc (.cells #[.slice none 0 0, .bool false] 130)) w_1.heap.size (.cells #[.slice none 0 0, .bool false] 130)) := hid (kp_new2 KK.out.1.1 _ _ rfl)
            have l1 := heap_lt KK.out.2.2.2.2.2.2
            replace KK := hid (KK.out.step (b1alloc _ (.cells #[.slice none 0 0, .bool false] 130)))
            replace RX0 := hid (RX0.out.below (b1alloc w_1 (.cells #[.slice none 0 0, .bool false] 130)))
            refine hK.out _ _ (KS.out _ KK.out) (fun hHeld2 => ?_)
            clear hK K hHeld; have hHeld := hHeld2; clear hHeld2
            have DKX := hid l1
            clear l1
            generalize w_1.alloc (.cells #[.slice none 0 0, .bool false] 130) = w_2 at KK KX RX0 hHeld ⊢
            generalize w_1.heap.size = NX at KX DKX ⊢
            try simp only [Act.put, List.setIfInBounds_toArray, List.set_cons_zero, List.set_cons_succ]
            refine wpAnyH_ready (rs := [17, 19]) (by kernel_rfl) (by simp) ?_
            refine (rdc (fun K hK => ?_) (rdc (fun K hK => ?_) AllReadyH.nil))
            · go_simp
              go_at_call 67; refine (CY0.out _ KK.out.1.1).mono ?_; rintro e w_3 ⟨⟨AY0, cy0, rfl, hr⟩, hb⟩
              replace KK := hid (KK.out.step hb)
              replace KX := hid (KX.out.step hb)
              replace RX0 := hid (RX0.out.below hb)
              have RY0 := hid hr
              refine hK.out _ _ (KS.out _ KK.out) (fun hHeld2 => ?_)
              clear hK K hHeld; have hHeld := hHeld2; clear hHeld2
              clear hr hb
              try simp only [Act.put, List.setIfInBounds_toArray, List.set_cons_zero, List.set_cons_succ]
              refine rd1 19 (fun K hK => ?_)
              go_simp
              have KY : Hid (Kp w (w_3.alloc (.cells #[.slice none 0 0, .bool false] 130)) w_3.heap.size (.cells #[.slice none 0 0, .bool false] 130)) := hid (kp_new2 KK.out.1.1 _ _ rfl)
              have l1 := heap_lt KK.out.2.2.2.2.2.2
              have l3 := heap_lt KX.out.2.2
              replace KK := hid (KK.out.step (b1alloc _ (.cells #[.slice none 0 0, .bool false] 130)))
              replace KX := hid (kp_alloc KX.out (.cells #[.slice none 0 0, .bool false] 130))
              replace RX0 := hid (RX0.out.below (b1alloc w_3 (.cells #[.slice none 0 0, .bool false] 130)))
              replace RY0 := hid (RY0.out.below (b1alloc w_3 (.cells #[.slice none 0 0, .bool false] 130)))
              refine hK.out _ _ (KS.out _ KK.out) (fun hHeld2 => ?_)
              clear hK K hHeld; have hHeld := hHeld2; clear hHeld2
              have DKY := hid l1
              have DXY := hid l3
              clear l1 l3
              generalize w_3.alloc (.cells #[.slice none 0 0, .bool false] 130) = w_4 at KK KX KY RX0 RY0 hHeld ⊢
              generalize w_3.heap.size = NY at KY DKY DXY ⊢
              try simp only [Act.put, List.setIfInBounds_toArray, List.set_cons_zero, List.set_cons_succ]
              refine rd1 20 (fun K hK => ?_)
              obtain ⟨z0, z1⟩ := box_two KX.out.2.2
              have y0 := kp_froz KX.out 0
              have y1 := kp_froz KX.out 1
              go_simp
              have g6 := (set_grown w_4 NX 0 (.slice AX0 kx0 cx0)).trans (set_grown _ NX 1 (.bool vx0))
              have nz := no_int2 (fun _ h => by cases h) (fun _ h => by cases h) KX.out.2.2
              replace KK := hid (KK.out.gr g6 HM4.out DKX.out)
              replace KY := hid (kp_gr KY.out g6 (by have := DXY.out; omega) (by have := HM4.out; have := DKX.out; omega))
              replace RX0 := hid (RX0.out.offd g6 nz PX0.out)
              replace RY0 := hid (RY0.out.offd g6 nz PY0.out)
              replace KX := hid (kp_set2 (.slice AX0 kx0 cx0) (.bool vx0) KX.out)
              refine hK.out _ _ (KS.out _ KK.out) (fun hHeld2 => ?_)
              clear hK K hHeld; have hHeld := hHeld2; clear hHeld2
              clear g6 nz z0 z1 y0 y1
              generalize ((w_4.setCell ⟨NX, 0, none⟩ (.slice AX0 kx0 cx0)).setCell ⟨NX, 1, none⟩ (.bool vx0)) = w_5 at KK KX KY RX0 RY0 hHeld ⊢
              try simp only [Act.put, List.setIfInBounds_toArray, List.set_cons_zero, List.set_cons_succ]
              refine rd1 21 (fun K hK => ?_)
              obtain ⟨z0, z1⟩ := box_two KY.out.2.2
              have y0 := kp_froz KY.out 0
              have y1 := kp_froz KY.out 1
              go_simp
              have g6 := (set_grown w_5 NY 0 (.slice AY0 ky0 cy0)).trans (set_grown _ NY 1 (.bool vy0))
              have nz := no_int2 (fun _ h => by cases h) (fun _ h => by cases h) KY.out.2.2
              replace KK := hid (KK.out.gr g6 HM4.out DKY.out)
              replace KX := hid (kp_gr KX.out g6 (by have := DXY.out; omega) (by have := HM4.out; have := DKY.out; omega))
              replace RX0 := hid (RX0.out.offd g6 nz PX0.out)
              replace RY0 := hid (RY0.out.offd g6 nz PY0.out)
              replace KY := hid (kp_set2 (.slice AY0 ky0 cy0) (.bool vy0) KY.out)
              refine hK.out _ _ (KS.out _ KK.out) (fun hHeld2 => ?_)
              clear hK K hHeld; have hHeld := hHeld2; clear hHeld2
              clear g6 nz z0 z1 y0 y1
              generalize ((w_5.setCell ⟨NY, 0, none⟩ (.slice AY0 ky0 cy0)).setCell ⟨NY, 1, none⟩ (.bool vy0)) = w_6 at KK KX KY RX0 RY0 hHeld ⊢
              try simp only [Act.put, List.setIfInBounds_toArray, List.set_cons_zero, List.set_cons_succ]
              refine wpAnyH_done (by kernel_rfl) ?_ _
              refine NoPanic.normal ?_
              try go_wp2_with fail
              go_meet
              exact ⟨NX, NY, AX0, cx0, AY0, cy0, rfl, rfl, hid KK.out.1, hid KK.out.2.1, hid KK.out.2.2.1, hid KK.out.2.2.2.1, hid KK.out.2.2.2.2, KX, KY, RX0, RY0, DKX, DKY⟩
            · go_simp
              have KY : Hid (Kp w (w_2.alloc (.cells #[.slice none 0 0, .bool false] 130)) w_2.heap.size (.cells #[.slice none 0 0, .bool false] 130)) := hid (kp_new2 KK.out.1.1 _ _ rfl)
              have l1 := heap_lt KK.out.2.2.2.2.2.2
              have l3 := heap_lt KX.out.2.2
              replace KK := hid (KK.out.step (b1alloc _ (.cells #[.slice none 0 0, .bool false] 130)))
              replace KX := hid (kp_alloc KX.out (.cells #[.slice none 0 0, .bool false] 130))
              replace RX0 := hid (RX0.out.below (b1alloc w_2 (.cells #[.slice none 0 0, .bool false] 130)))
              refine hK.out _ _ (KS.out _ KK.out) (fun hHeld2 => ?_)
              clear hK K hHeld; have hHeld := hHeld2; clear hHeld2
              have DKY := hid l1
              have DXY := hid l3
              clear l1 l3
              generalize w_2.alloc (.cells #[.slice none 0 0, .bool false] 130) = w_3 at KK KX KY RX0 hHeld ⊢
              generalize w_2.heap.size = NY at KY DKY DXY ⊢
              try simp only [Act.put, List.setIfInBounds_toArray, List.set_cons_zero, List.set_cons_succ]
              refine rd1 17 (fun K hK => ?_)
              go_simp
              go_at_call 67; refine (CY0.out _ KK.out.1.1).mono ?_; rintro e w_4 ⟨⟨AY0, cy0, rfl, hr⟩, hb⟩
              replace KK := hid (KK.out.step hb)
              replace KX := hid (KX.out.step hb)
              replace KY := hid (KY.out.step hb)
              replace RX0 := hid (RX0.out.below hb)
              have RY0 := hid hr
              refine hK.out _ _ (KS.out _ KK.out) (fun hHeld2 => ?_)
              clear hK K hHeld; have hHeld := hHeld2; clear hHeld2
              clear hr hb
              try simp only [Act.put, List.setIfInBounds_toArray, List.set_cons_zero, List.set_cons_succ]
              refine rd1 20 (fun K hK => ?_)
              obtain ⟨z0, z1⟩ := box_two KX.out.2.2
              have y0 := kp_froz KX.out 0
              have y1 := kp_froz KX.out 1
              go_simp
              have g6 := (set_grown w_4 NX 0 (.slice AX0 kx0 cx0)).trans (set_grown _ NX 1 (.bool vx0))
              have nz := no_int2 (fun _ h => by cases h) (fun _ h => by cases h) KX.out.2.2
              replace KK := hid (KK.out.gr g6 HM4.out DKX.out)
              replace KY := hid (kp_gr KY.out g6 (by have := DXY.out; omega) (by have := HM4.out; have := DKX.out; omega))
              replace RX0 := hid (RX0.out.offd g6 nz PX0.out)
              replace RY0 := hid (RY0.out.offd g6 nz PY0.out)
              replace KX := hid (kp_set2 (.slice AX0 kx0 cx0) (.bool vx0) KX.out)
              refine hK.out _ _ (KS.out _ KK.out) (fun hHeld2 => ?_)
              clear hK K hHeld; have hHeld := hHeld2; clear hHeld2
              clear g6 nz z0 z1 y0 y1
              generalize ((w_4.setCell ⟨NX, 0, none⟩ (.slice AX0 kx0 cx0)).setCell ⟨NX, 1, none⟩ (.bool vx0)) = w_5 at KK KX KY RX0 RY0 hHeld ⊢
              try simp only [Act.put, List.setIfInBounds_toArray, List.set_cons_zero, List.set_cons_succ]
              refine rd1 21 (fun K hK => ?_)
              obtain ⟨z0, z1⟩ := box_two KY.out.2.2
              have y0 := kp_froz KY.out 0
              have y1 := kp_froz KY.out 1
              go_simp
              have g6 := (set_grown w_5 NY 0 (.slice AY0 ky0 cy0)).trans (set_grown _ NY 1 (.bool vy0))
              have nz := no_int2 (fun _ h => by cases h) (fun _ h => by cases h) KY.out.2.2
              replace KK := hid (KK.out.gr g6 HM4.out DKY.out)
              replace KX := hid (kp_gr KX.out g6 (by have := DXY.out; omega) (by have := HM4.out; have := DKY.out; omega))
              replace RX0 := hid (RX0.out.offd g6 nz PX0.out)
              replace RY0 := hid (RY0.out.offd g6 nz PY0.out)
              replace KY := hid (kp_set2 (.slice AY0 ky0 cy0) (.bool vy0) KY.out)
              refine hK.out _ _ (KS.out _ KK.out) (fun hHeld2 => ?_)
              clear hK K hHeld; have hHeld := hHeld2; clear hHeld2
              clear g6 nz z0 z1 y0 y1
              generalize ((w_5.setCell ⟨NY, 0, none⟩ (.slice AY0 ky0 cy0)).setCell ⟨NY, 1, none⟩ (.bool vy0)) = w_6 at KK KX KY RX0 RY0 hHeld ⊢
              try simp only [Act.put, List.setIfInBounds_toArray, List.set_cons_zero, List.set_cons_succ]
              refine wpAnyH_done (by kernel_rfl) ?_ _
              refine NoPanic.normal ?_
              try go_wp2_with fail
              go_meet
              exact ⟨NX, NY, AX0, cx0, AY0, cy0, rfl, rfl, hid KK.out.1, hid KK.out.2.1, hid KK.out.2.2.1, hid KK.out.2.2.2.1, hid KK.out.2.2.2.2, KX, KY, RX0, RY0, DKX, DKY⟩
          · go_simp
            have KY : Hid (Kp w (w_1.alloc (.cells #[.slice none 0 0, .bool false] 130)) w_1.heap.size (.cells #[.slice none 0 0, .bool false] 130)) := hid (kp_new2 KK.out.1.1 _ _ rfl)
            have l1 := heap_lt KK.out.2.2.2.2.2.2
            replace KK := hid (KK.out.step (b1alloc _ (.cells #[.slice none 0 0, .bool false] 130)))
            replace RX0 := hid (RX0.out.below (b1alloc w_1 (.cells #[.slice none 0 0, .bool false] 130)))
            refine hK.out _ _ (KS.out _ KK.out) (fun hHeld2 => ?_)
            clear hK K hHeld; have hHeld := hHeld2; clear hHeld2
            have DKY := hid l1
            clear l1
            generalize w_1.alloc (.cells #[.slice none 0 0, .bool false] 130) = w_2 at KK KY RX0 hHeld ⊢
            generalize w_1.heap.size = NY at KY DKY ⊢
            try simp only [Act.put, List.setIfInBounds_toArray, List.set_cons_zero, List.set_cons_succ]
            refine wpAnyH_ready (rs := [17, 18]) (by kernel_rfl) (by simp) ?_
            refine (rdc (fun K hK => ?_) (rdc (fun K hK => ?_) AllReadyH.nil))
            · go_simp
              go_at_call 67; refine (CY0.out _ KK.out.1.1).mono ?_; rintro e w_3 ⟨⟨AY0, cy0, rfl, hr⟩, hb⟩
              replace KK := hid (KK.out.step hb)
              replace KY := hid (KY.out.step hb)
              replace RX0 := hid (RX0.out.below hb)
              have RY0 := hid hr
              refine hK.out _ _ (KS.out _ KK.out) (fun hHeld2 => ?_)
              clear hK K hHeld; have hHeld := hHeld2; clear hHeld2
              clear hr hb
              try simp only [Act.put, List.setIfInBounds_toArray, List.set_cons_zero, List.set_cons_succ]
              refine rd1 18 (fun K hK => ?_)
              go_simp
              have KX : Hid (Kp w (w_3.alloc (.cells #[.slice none 0 0, .bool false] 130)) w_3.heap.size (.cells #[.slice none 0 0, .bool false] 130)) := hid (kp_new2 KK.out.1.1 _ _ rfl)
              have l1 := heap_lt KK.out.2.2.2.2.2.2
              have l3 := heap_lt KY.out.2.2
              replace KK := hid (KK.out.step (b1alloc _ (.cells #[.slice none 0 0, .bool false] 130)))
              replace KY := hid (kp_alloc KY.out (.cells #[.slice none 0 0, .bool false] 130))
              replace RX0 := hid (RX0.out.below (b1alloc w_3 (.cells #[.slice none 0 0, .bool false] 130)))
              replace RY0 := hid (RY0.out.below (b1alloc w_3 (.cells #[.slice none 0 0, .bool false] 130)))
              refine hK.out _ _ (KS.out _ KK.out) (fun hHeld2 => ?_)
              clear hK K hHeld; have hHeld := hHeld2; clear hHeld2
              have DKX := hid l1
              have DXY := hid l3
              clear l1 l3
              generalize w_3.alloc (.cells #[.slice none 0 0, .bool false] 130) = w_4 at KK KY KX RX0 RY0 hHeld ⊢
              generalize w_3.heap.size = NX at KX DKX DXY ⊢
              try simp only [Act.put, List.setIfInBounds_toArray, List.set_cons_zero, List.set_cons_succ]
              refine rd1 20 (fun K hK => ?_)
              obtain ⟨z0, z1⟩ := box_two KX.out.2.2
              have y0 := kp_froz KX.out 0
              have y1 := kp_froz KX.out 1
              go_simp
              have g6 := (set_grown w_4 NX 0 (.slice AX0 kx0 cx0)).trans (set_grown _ NX 1 (.bool vx0))
              have nz := no_int2 (fun _ h => by cases h) (fun _ h => by cases h) KX.out.2.2
              replace KK := hid (KK.out.gr g6 HM4.out DKX.out)
              replace KY := hid (kp_gr KY.out g6 (by have := DXY.out; omega) (by have := HM4.out; have := DKX.out; omega))
              replace RX0 := hid (RX0.out.offd g6 nz PX0.out)
              replace RY0 := hid (RY0.out.offd g6 nz PY0.out)
              replace KX := hid (kp_set2 (.slice AX0 kx0 cx0) (.bool vx0) KX.out)
              refine hK.out _ _ (KS.out _ KK.out) (fun hHeld2 => ?_)
              clear hK K hHeld; have hHeld := hHeld2; clear hHeld2
              clear g6 nz z0 z1 y0 y1
              generalize ((w_4.setCell ⟨NX, 0, none⟩ (.slice AX0 kx0 cx0)).setCell ⟨NX, 1, none⟩ (.bool vx0)) = w_5 at KK KX KY RX0 RY0 hHeld ⊢
              try simp only [Act.put, List.setIfInBounds_toArray, List.set_cons_zero, List.set_cons_succ]
              refine rd1 21 (fun K hK => ?_)
              obtain ⟨z0, z1⟩ := box_two KY.out.2.2
              have y0 := kp_froz KY.out 0
              have y1 := kp_froz KY.out 1
              go_simp
              have g6 := (set_grown w_5 NY 0 (.slice AY0 ky0 cy0)).trans (set_grown _ NY 1 (.bool vy0))
              have nz := no_int2 (fun _ h => by cases h) (fun _ h => by cases h) KY.out.2.2
              replace KK := hid (KK.out.gr g6 HM4.out DKY.out)
              replace KX := hid (kp_gr KX.out g6 (by have := DXY.out; omega) (by have := HM4.out; have := DKY.out; omega))
              replace RX0 := hid (RX0.out.offd g6 nz PX0.out)
              replace RY0 := hid (RY0.out.offd g6 nz PY0.out)
              replace KY := hid (kp_set2 (.slice AY0 ky0 cy0) (.bool vy0) KY.out)
              refine hK.out _ _ (KS.out _ KK.out) (fun hHeld2 => ?_)
              clear hK K hHeld; have hHeld := hHeld2; clear hHeld2
              clear g6 nz z0 z1 y0 y1
              generalize ((w_5.setCell ⟨NY, 0, none⟩ (.slice AY0 ky0 cy0)).setCell ⟨NY, 1, none⟩ (.bool vy0)) = w_6 at KK KX KY RX0 RY0 hHeld ⊢
              try simp only [Act.put, List.setIfInBounds_toArray, List.set_cons_zero, List.set_cons_succ]
              refine wpAnyH_done (by kernel_rfl) ?_ _
              refine NoPanic.normal ?_
              try go_wp2_with fail
              go_meet
              exact ⟨NX, NY, AX0, cx0, AY0, cy0, rfl, rfl, hid KK.out.1, hid KK.out.2.1, hid KK.out.2.2.1, hid KK.out.2.2.2.1, hid KK.out.2.2.2.2, KX, KY, RX0, RY0, DKX, DKY⟩
            · go_simp
              have KX : Hid (Kp w (w_2.alloc (.cells #[.slice none 0 0, .bool false] 130)) w_2.heap.size (.cells #[.slice none 0 0, .bool false] 130)) := hid (kp_new2 KK.out.1.1 _ _ rfl)
              have l1 := heap_lt KK.out.2.2.2.2.2.2
              have l3 := heap_lt KY.out.2.2
              replace KK := hid (KK.out.step (b1alloc _ (.cells #[.slice none 0 0, .bool false] 130)))
              replace KY := hid (kp_alloc KY.out (.cells #[.slice none 0 0, .bool false] 130))
              replace RX0 := hid (RX0.out.below (b1alloc w_2 (.cells #[.slice none 0 0, .bool false] 130)))
              refine hK.out _ _ (KS.out _ KK.out) (fun hHeld2 => ?_)
              clear hK K hHeld; have hHeld := hHeld2; clear hHeld2
              have DKX := hid l1
              have DXY := hid l3
              clear l1 l3
              generalize w_2.alloc (.cells #[.slice none 0 0, .bool false] 130) = w_3 at KK KY KX RX0 hHeld ⊢
              generalize w_2.heap.size = NX at KX DKX DXY ⊢
              try simp only [Act.put, List.setIfInBounds_toArray, List.set_cons_zero, List.set_cons_succ]
              refine rd1 17 (fun K hK => ?_)
              go_simp
              go_at_call 67; refine (CY0.out _ KK.out.1.1).mono ?_; rintro e w_4 ⟨⟨AY0, cy0, rfl, hr⟩, hb⟩
              replace KK := hid (KK.out.step hb)
              replace KX := hid (KX.out.step hb)
              replace KY := hid (KY.out.step hb)
              replace RX0 := hid (RX0.out.below hb)
              have RY0 := hid hr
              refine hK.out _ _ (KS.out _ KK.out) (fun hHeld2 => ?_)
              clear hK K hHeld; have hHeld := hHeld2; clear hHeld2
              clear hr hb
              try simp only [Act.put, List.setIfInBounds_toArray, List.set_cons_zero, List.set_cons_succ]
              refine rd1 20 (fun K hK => ?_)
              obtain ⟨z0, z1⟩ := box_two KX.out.2.2
              have y0 := kp_froz KX.out 0
              have y1 := kp_froz KX.out 1
              go_simp
              have g6 := (set_grown w_4 NX 0 (.slice AX0 kx0 cx0)).trans (set_grown _ NX 1 (.bool vx0))
              have nz := no_int2 (fun _ h => by cases h) (fun _ h => by cases h) KX.out.2.2
              replace KK := hid (KK.out.gr g6 HM4.out DKX.out)
              replace KY := hid (kp_gr KY.out g6 (by have := DXY.out; omega) (by have := HM4.out; have := DKX.out; omega))
              replace RX0 := hid (RX0.out.offd g6 nz PX0.out)
              replace RY0 := hid (RY0.out.offd g6 nz PY0.out)
              replace KX := hid (kp_set2 (.slice AX0 kx0 cx0) (.bool vx0) KX.out)
              refine hK.out _ _ (KS.out _ KK.out) (fun hHeld2 => ?_)
              clear hK K hHeld; have hHeld := hHeld2; clear hHeld2
              clear g6 nz z0 z1 y0 y1
              generalize ((w_4.setCell ⟨NX, 0, none⟩ (.slice AX0 kx0 cx0)).setCell ⟨NX, 1, none⟩ (.bool vx0)) = w_5 at KK KX KY RX0 RY0 hHeld ⊢
              try simp only [Act.put, List.setIfInBounds_toArray, List.set_cons_zero, List.set_cons_succ]
              refine rd1 21 (fun K hK => ?_)
              obtain ⟨z0, z1⟩ := box_two KY.out.2.2
              have y0 := kp_froz KY.out 0
              have y1 := kp_froz KY.out 1
              go_simp
              have g6 := (set_grown w_5 NY 0 (.slice AY0 ky0 cy0)).trans (set_grown _ NY 1 (.bool vy0))
              have nz := no_int2 (fun _ h => by cases h) (fun _ h => by cases h) KY.out.2.2
              replace KK := hid (KK.out.gr g6 HM4.out DKY.out)
              replace KX := hid (kp_gr KX.out g6 (by have := DXY.out; omega) (by have := HM4.out; have := DKY.out; omega))
              replace RX0 := hid (RX0.out.offd g6 nz PX0.out)
              replace RY0 := hid (RY0.out.offd g6 nz PY0.out)
              replace KY := hid (kp_set2 (.slice AY0 ky0 cy0) (.bool vy0) KY.out)
              refine hK.out _ _ (KS.out _ KK.out) (fun hHeld2 => ?_)
              clear hK K hHeld; have hHeld := hHeld2; clear hHeld2
              clear g6 nz z0 z1 y0 y1
              generalize ((w_5.setCell ⟨NY, 0, none⟩ (.slice AY0 ky0 cy0)).setCell ⟨NY, 1, none⟩ (.bool vy0)) = w_6 at KK KX KY RX0 RY0 hHeld ⊢
              try simp only [Act.put, List.setIfInBounds_toArray, List.set_cons_zero, List.set_cons_succ]
              refine wpAnyH_done (by kernel_rfl) ?_ _
              refine NoPanic.normal ?_
              try go_wp2_with fail
              go_meet
              exact ⟨NX, NY, AX0, cx0, AY0, cy0, rfl, rfl, hid KK.out.1, hid KK.out.2.1, hid KK.out.2.2.1, hid KK.out.2.2.2.1, hid KK.out.2.2.2.2, KX, KY, RX0, RY0, DKX, DKY⟩
        · go_simp
          have KX : Hid (Kp w (wd.alloc (.cells #[.slice none 0 0, .bool false] 130)) wd.heap.size (.cells #[.slice none 0 0, .bool false] 130)) := hid (kp_new2 KK.out.1.1 _ _ rfl)
          have l1 := heap_lt KK.out.2.2.2.2.2.2
          replace KK := hid (KK.out.step (b1alloc _ (.cells #[.slice none 0 0, .bool false] 130)))
          refine hK.out _ _ (KS.out _ KK.out) (fun hHeld2 => ?_)
          clear hK K hHeld; have hHeld := hHeld2; clear hHeld2
          have DKX := hid l1
          clear l1
          generalize wd.alloc (.cells #[.slice none 0 0, .bool false] 130) = w_1 at KK KX hHeld ⊢
          generalize wd.heap.size = NX at KX DKX ⊢
          try simp only [Act.put, List.setIfInBounds_toArray, List.set_cons_zero, List.set_cons_succ]
          refine wpAnyH_ready (rs := [8, 19]) (by kernel_rfl) (by simp) ?_
          refine (rdc (fun K hK => ?_) (rdc (fun K hK => ?_) AllReadyH.nil))
          · go_simp
            go_at_call 67; refine (CX0.out _ KK.out.1.1).mono ?_; rintro e w_2 ⟨⟨AX0, cx0, rfl, hr⟩, hb⟩
            replace KK := hid (KK.out.step hb)
            replace KX := hid (KX.out.step hb)
            have RX0 := hid hr
            refine hK.out _ _ (KS.out _ KK.out) (fun hHeld2 => ?_)
            clear hK K hHeld; have hHeld := hHeld2; clear hHeld2
            clear hr hb
            try simp only [Act.put, List.setIfInBounds_toArray, List.set_cons_zero, List.set_cons_succ]
            refine wpAnyH_ready (rs := [17, 19]) (by kernel_rfl) (by simp) ?_
            refine (rdc (fun K hK => ?_) (rdc (fun K hK => ?_) AllReadyH.nil))
            · go_simp
              go_at_call 67; refine (CY0.out _ KK.out.1.1).mono ?_; rintro e w_3 ⟨⟨AY0, cy0, rfl, hr⟩, hb⟩
              replace KK := hid (KK.out.step hb)
              replace KX := hid (KX.out.step hb)
              replace RX0 := hid (RX0.out.below hb)
              have RY0 := hid hr
              refine hK.out _ _ (KS.out _ KK.out) (fun hHeld2 => ?_)
              clear hK K hHeld; have hHeld := hHeld2; clear hHeld2
              clear hr hb
              try simp only [Act.put, List.setIfInBounds_toArray, List.set_cons_zero, List.set_cons_succ]
              refine rd1 19 (fun K hK => ?_)
              go_simp
              have KY : Hid (Kp w (w_3.alloc (.cells #[.slice none 0 0, .bool false] 130)) w_3.heap.size (.cells #[.slice none 0 0, .bool false] 130)) := hid (kp_new2 KK.out.1.1 _ _ rfl)
              have l1 := heap_lt KK.out.2.2.2.2.2.2
              have l3 := heap_lt KX.out.2.2
              replace KK := hid (KK.out.step (b1alloc _ (.cells #[.slice none 0 0, .bool false] 130)))
              replace KX := hid (kp_alloc KX.out (.cells #[.slice none 0 0, .bool false] 130))
              replace RX0 := hid (RX0.out.below (b1alloc w_3 (.cells #[.slice none 0 0, .bool false] 130)))
              replace RY0 := hid (RY0.out.below (b1alloc w_3 (.cells #[.slice none 0 0, .bool false] 130)))
              refine hK.out _ _ (KS.out _ KK.out) (fun hHeld2 => ?_)
              clear hK K hHeld; have hHeld := hHeld2; clear hHeld2
              have DKY := hid l1
              have DXY := hid l3
              clear l1 l3
              generalize w_3.alloc (.cells #[.slice none 0 0, .bool false] 130) = w_4 at KK KX KY RX0 RY0 hHeld ⊢
              generalize w_3.heap.size = NY at KY DKY DXY ⊢
              try simp only [Act.put, List.setIfInBounds_toArray, List.set_cons_zero, List.set_cons_succ]
              refine rd1 20 (fun K hK => ?_)
              obtain ⟨z0, z1⟩ := box_two KX.out.2.2
              have y0 := kp_froz KX.out 0
              have y1 := kp_froz KX.out 1
              go_simp
              have g6 := (set_grown w_4 NX 0 (.slice AX0 kx0 cx0)).trans (set_grown _ NX 1 (.bool vx0))
              have nz := no_int2 (fun _ h => by cases h) (fun _ h => by cases h) KX.out.2.2
              replace KK := hid (KK.out.gr g6 HM4.out DKX.out)
              replace KY := hid (kp_gr KY.out g6 (by have := DXY.out; omega) (by have := HM4.out; have := DKX.out; omega))
              replace RX0 := hid (RX0.out.offd g6 nz PX0.out)
              replace RY0 := hid (RY0.out.offd g6 nz PY0.out)
              replace KX := hid (kp_set2 (.slice AX0 kx0 cx0) (.bool vx0) KX.out)
              refine hK.out _ _ (KS.out _ KK.out) (fun hHeld2 => ?_)
              clear hK K hHeld; have hHeld := hHeld2; clear hHeld2
              clear g6 nz z0 z1 y0 y1
              generalize ((w_4.setCell ⟨NX, 0, none⟩ (.slice AX0 kx0 cx0)).setCell ⟨NX, 1, none⟩ (.bool vx0)) = w_5 at KK KX KY RX0 RY0 hHeld ⊢
              try simp only [Act.put, List.setIfInBounds_toArray, List.set_cons_zero, List.set_cons_succ]
              refine rd1 21 (fun K hK => ?_)
              obtain ⟨z0, z1⟩ := box_two KY.out.2.2
              have y0 := kp_froz KY.out 0
              have y1 := kp_froz KY.out 1
              go_simp
              have g6 := (set_grown w_5 NY 0 (.slice AY0 ky0 cy0)).trans (set_grown _ NY 1 (.bool vy0))
              have nz := no_int2 (fun _ h => by cases h) (fun _ h => by cases h) KY.out.2.2
              replace KK := hid (KK.out.gr g6 HM4.out DKY.out)
              replace KX := hid (kp_gr KX.out g6 (by have := DXY.out; omega) (by have := HM4.out; have := DKY.out; omega))
              replace RX0 := hid (RX0.out.offd g6 nz PX0.out)
              replace RY0 := hid (RY0.out.offd g6 nz PY0.out)
              replace KY := hid (kp_set2 (.slice AY0 ky0 cy0) (.bool vy0) KY.out)
              refine hK.out _ _ (KS.out _ KK.out) (fun hHeld2 => ?_)
              clear hK K hHeld; have hHeld := hHeld2; clear hHeld2
              clear g6 nz z0 z1 y0 y1
              generalize ((w_5.setCell ⟨NY, 0, none⟩ (.slice AY0 ky0 cy0)).setCell ⟨NY, 1, none⟩ (.bool vy0)) = w_6 at KK KX KY RX0 RY0 hHeld ⊢
              try simp only [Act.put, List.setIfInBounds_toArray, List.set_cons_zero, List.set_cons_succ]
              refine wpAnyH_done (by kernel_rfl) ?_ _
              refine NoPanic.normal ?_
              try go_wp2_with fail
              go_meet
              exact ⟨NX, NY, AX0, cx0, AY0, cy0, rfl, rfl, hid KK.out.1, hid KK.out.2.1, hid KK.out.2.2.1, hid KK.out.2.2.2.1, hid KK.out.2.2.2.2, KX, KY, RX0, RY0, DKX, DKY⟩
            · go_simp
              have KY : Hid (Kp w (w_2.alloc (.cells #[.slice none 0 0, .bool false] 130)) w_2.heap.size (.cells #[.slice none 0 0, .bool false] 130)) := hid (kp_new2 KK.out.1.1 _ _ rfl)
              have l1 := heap_lt KK.out.2.2.2.2.2.2
              have l3 := heap_lt KX.out.2.2
              replace KK := hid (KK.out.step (b1alloc _ (.cells #[.slice none 0 0, .bool false] 130)))
              replace KX := hid (kp_alloc KX.out (.cells #[.slice none 0 0, .bool false] 130))
              replace RX0 := hid (RX0.out.below (b1alloc w_2 (.cells #[.slice none 0 0, .bool false] 130)))
              refine hK.out _ _ (KS.out _ KK.out) (fun hHeld2 => ?_)
              clear hK K hHeld; have hHeld := hHeld2; clear hHeld2
              have DKY := hid l1
              have DXY := hid l3
              clear l1 l3
              generalize w_2.alloc (.cells #[.slice none 0 0, .bool false] 130) = w_3 at KK KX KY RX0 hHeld ⊢
              generalize w_2.heap.size = NY at KY DKY DXY ⊢
              try simp only [Act.put, List.setIfInBounds_toArray, List.set_cons_zero, List.set_cons_succ]
              refine rd1 17 (fun K hK => ?_)
              go_simp
              go_at_call 67; refine (CY0.out _ KK.out.1.1).mono ?_; rintro e w_4 ⟨⟨AY0, cy0, rfl, hr⟩, hb⟩
              replace KK := hid (KK.out.step hb)
              replace KX := hid (KX.out.step hb)
              replace KY := hid (KY.out.step hb)
              replace RX0 := hid (RX0.out.below hb)
              have RY0 := hid hr
              refine hK.out _ _ (KS.out _ KK.out) (fun hHeld2 => ?_)
              clear hK K hHeld; have hHeld := hHeld2; clear hHeld2
              clear hr hb
              try simp only [Act.put, List.setIfInBounds_toArray, List.set_cons_zero, List.set_cons_succ]
              refine rd1 20 (fun K hK => ?_)
              obtain ⟨z0, z1⟩ := box_two KX.out.2.2
              have y0 := kp_froz KX.out 0
              have y1 := kp_froz KX.out 1
              go_simp
              have g6 := (set_grown w_4 NX 0 (.slice AX0 kx0 cx0)).trans (set_grown _ NX 1 (.bool vx0))
              have nz := no_int2 (fun _ h => by cases h) (fun _ h => by cases h) KX.out.2.2
              replace KK := hid (KK.out.gr g6 HM4.out DKX.out)
              replace KY := hid (kp_gr KY.out g6 (by have := DXY.out; omega) (by have := HM4.out; have := DKX.out; omega))
              replace RX0 := hid (RX0.out.offd g6 nz PX0.out)
              replace RY0 := hid (RY0.out.offd g6 nz PY0.out)
              replace KX := hid (kp_set2 (.slice AX0 kx0 cx0) (.bool vx0) KX.out)
              refine hK.out _ _ (KS.out _ KK.out) (fun hHeld2 => ?_)
              clear hK K hHeld; have hHeld := hHeld2; clear hHeld2
              clear g6 nz z0 z1 y0 y1
              generalize ((w_4.setCell ⟨NX, 0, none⟩ (.slice AX0 kx0 cx0)).setCell ⟨NX, 1, none⟩ (.bool vx0)) = w_5 at KK KX KY RX0 RY0 hHeld ⊢
              try simp only [Act.put, List.setIfInBounds_toArray, List.set_cons_zero, List.set_cons_succ]
              refine rd1 21 (fun K hK => ?_)
              obtain ⟨z0, z1⟩ := box_two KY.out.2.2
              have y0 := kp_froz KY.out 0
              have y1 := kp_froz KY.out 1
              go_simp
              have g6 := (set_grown w_5 NY 0 (.slice AY0 ky0 cy0)).trans (set_grown _ NY 1 (.bool vy0))
              have nz := no_int2 (fun _ h => by cases h) (fun _ h => by cases h) KY.out.2.2
              replace KK := hid (KK.out.gr g6 HM4.out DKY.out)
              replace KX := hid (kp_gr KX.out g6 (by have := DXY.out; omega) (by have := HM4.out; have := DKY.out; omega))
              replace RX0 := hid (RX0.out.offd g6 nz PX0.out)
              replace RY0 := hid (RY0.out.offd g6 nz PY0.out)
              replace KY := hid (kp_set2 (.slice AY0 ky0 cy0) (.bool vy0) KY.out)
              refine hK.out _ _ (KS.out _ KK.out) (fun hHeld2 => ?_)
              clear hK K hHeld; have hHeld := hHeld2; clear hHeld2
              clear g6 nz z0 z1 y0 y1
              generalize ((w_5.setCell ⟨NY, 0, none⟩ (.slice AY0 ky0 cy0)).setCell ⟨NY, 1, none⟩ (.bool vy0)) = w_6 at KK KX KY RX0 RY0 hHeld ⊢
              try simp only [Act.put, List.setIfInBounds_toArray, List.set_cons_zero, List.set_cons_succ]
              refine wpAnyH_done (by kernel_rfl) ?_ _
              refine NoPanic.normal ?_
              try go_wp2_with fail
              go_meet
              exact ⟨NX, NY, AX0, cx0, AY0, cy0, rfl, rfl, hid KK.out.1, hid KK.out.2.1, hid KK.out.2.2.1, hid KK.out.2.2.2.1, hid KK.out.2.2.2.2, KX, KY, RX0, RY0, DKX, DKY⟩
          · go_simp
            have KY : Hid (Kp w (w_1.alloc (.cells #[.slice none 0 0, .bool false] 130)) w_1.heap.size (.cells #[.slice none 0 0, .bool false] 130)) := hid (kp_new2 KK.out.1.1 _ _ rfl)
            have l1 := heap_lt KK.out.2.2.2.2.2.2
            have l3 := heap_lt KX.out.2.2
            replace KK := hid (KK.out.step (b1alloc _ (.cells #[.slice none 0 0, .bool false] 130)))
            replace KX := hid (kp_alloc KX.out (.cells #[.slice none 0 0, .bool false] 130))
            refine hK.out _ _ (KS.out _ KK.out) (fun hHeld2 => ?_)
            clear hK K hHeld; have hHeld := hHeld2; clear hHeld2
            have DKY := hid l1
            have DXY := hid l3
            clear l1 l3
            generalize w_1.alloc (.cells #[.slice none 0 0, .bool false] 130) = w_2 at KK KX KY hHeld ⊢
            generalize w_1.heap.size = NY at KY DKY DXY ⊢
            try simp only [Act.put, List.setIfInBounds_toArray, List.set_cons_zero, List.set_cons_succ]
            refine rd1 8 (fun K hK => ?_)
            go_simp
            go_at_call 67; refine (CX0.out _ KK.out.1.1).mono ?_; rintro e w_3 ⟨⟨AX0, cx0, rfl, hr⟩, hb⟩
            replace KK := hid (KK.out.step hb)
            replace KX := hid (KX.out.step hb)
            replace KY := hid (KY.out.step hb)
            have RX0 := hid hr
            refine hK.out _ _ (KS.out _ KK.out) (fun hHeld2 => ?_)
            clear hK K hHeld; have hHeld := hHeld2; clear hHeld2
            clear hr hb
            try simp only [Act.put, List.setIfInBounds_toArray, List.set_cons_zero, List.set_cons_succ]
            refine rd1 17 (fun K hK => ?_)
            go_simp
            go_at_call 67; refine (CY0.out _ KK.out.1.1).mono ?_; rintro e w_4 ⟨⟨AY0, cy0, rfl, hr⟩, hb⟩
            replace KK := hid (KK.out.step hb)
            replace KX := hid (KX.out.step hb)
            replace KY := hid (KY.out.step hb)
            replace RX0 := hid (RX0.out.below hb)
            have RY0 := hid hr
            refine hK.out _ _ (KS.out _ KK.out) (fun hHeld2 => ?_)
            clear hK K hHeld; have hHeld := hHeld2; clear hHeld2
            clear hr hb
            try simp only [Act.put, List.setIfInBounds_toArray, List.set_cons_zero, List.set_cons_succ]
            refine rd1 20 (fun K hK => ?_)
            obtain ⟨z0, z1⟩ := box_two KX.out.2.2
            have y0 := kp_froz KX.out 0
            have y1 := kp_froz KX.out 1
            go_simp
            have g6 := (set_grown w_4 NX 0 (.slice AX0 kx0 cx0)).trans (set_grown _ NX 1 (.bool vx0))
            have nz := no_int2 (fun _ h => by cases h) (fun _ h => by cases h) KX.out.2.2
            replace KK := hid (KK.out.gr g6 HM4.out DKX.out)
            replace KY := hid (kp_gr KY.out g6 (by have := DXY.out; omega) (by have := HM4.out; have := DKX.out; omega))
            replace RX0 := hid (RX0.out.offd g6 nz PX0.out)
            replace RY0 := hid (RY0.out.offd g6 nz PY0.out)
            replace KX := hid (kp_set2 (.slice AX0 kx0 cx0) (.bool vx0) KX.out)
            refine hK.out _ _ (KS.out _ KK.out) (fun hHeld2 => ?_)
            clear hK K hHeld; have hHeld := hHeld2; clear hHeld2
            clear g6 nz z0 z1 y0 y1
            generalize ((w_4.setCell ⟨NX, 0, none⟩ (.slice AX0 kx0 cx0)).setCell ⟨NX, 1, none⟩ (.bool vx0)) = w_5 at KK KX KY RX0 RY0 hHeld ⊢
            try simp only [Act.put, List.setIfInBounds_toArray, List.set_cons_zero, List.set_cons_succ]
            refine rd1 21 (fun K hK => ?_)
            obtain ⟨z0, z1⟩ := box_two KY.out.2.2
            have y0 := kp_froz KY.out 0
            have y1 := kp_froz KY.out 1
            go_simp
            have g6 := (set_grown w_5 NY 0 (.slice AY0 ky0 cy0)).trans (set_grown _ NY 1 (.bool vy0))
            have nz := no_int2 (fun _ h => by cases h) (fun _ h => by cases h) KY.out.2.2
            replace KK := hid (KK.out.gr g6 HM4.out DKY.out)
            replace KX := hid (kp_gr KX.out g6 (by have := DXY.out; omega) (by have := HM4.out; have := DKY.out; omega))
            replace RX0 := hid (RX0.out.offd g6 nz PX0.out)
            replace RY0 := hid (RY0.out.offd g6 nz PY0.out)
            replace KY := hid (kp_set2 (.slice AY0 ky0 cy0) (.bool vy0) KY.out)
            refine hK.out _ _ (KS.out _ KK.out) (fun hHeld2 => ?_)
            clear hK K hHeld; have hHeld := hHeld2; clear hHeld2
            clear g6 nz z0 z1 y0 y1
            generalize ((w_5.setCell ⟨NY, 0, none⟩ (.slice AY0 ky0 cy0)).setCell ⟨NY, 1, none⟩ (.bool vy0)) = w_6 at KK KX KY RX0 RY0 hHeld ⊢
            try simp only [Act.put, List.setIfInBounds_toArray, List.set_cons_zero, List.set_cons_succ]
            refine wpAnyH_done (by kernel_rfl) ?_ _
            refine NoPanic.normal ?_
            try go_wp2_with fail
            go_meet
            exact ⟨NX, NY, AX0, cx0, AY0, cy0, rfl, rfl, hid KK.out.1, hid KK.out.2.1, hid KK.out.2.2.1, hid KK.out.2.2.2.1, hid KK.out.2.2.2.2, KX, KY, RX0, RY0, DKX, DKY⟩
        · go_simp
          have KY : Hid (Kp w (wd.alloc (.cells #[.slice none 0 0, .bool false] 130)) wd.heap.size (.cells #[.slice none 0 0, .bool false] 130)) := hid (kp_new2 KK.out.1.1 _ _ rfl)
          have l1 := heap_lt KK.out.2.2.2.2.2.2
          replace KK := hid (KK.out.step (b1alloc _ (.cells #[.slice none 0 0, .bool false] 130)))
          refine hK.out _ _ (KS.out _ KK.out) (fun hHeld2 => ?_)
          clear hK K hHeld; have hHeld := hHeld2; clear hHeld2
          have DKY := hid l1
          clear l1
          generalize wd.alloc (.cells #[.slice none 0 0, .bool false] 130) = w_1 at KK KY hHeld ⊢
          generalize wd.heap.size = NY at KY DKY ⊢
          try simp only [Act.put, List.setIfInBounds_toArray, List.set_cons_zero, List.set_cons_succ]
          refine wpAnyH_ready (rs := [8, 18]) (by kernel_rfl) (by simp) ?_
          refine (rdc (fun K hK => ?_) (rdc (fun K hK => ?_) AllReadyH.nil))
          · go_simp
            go_at_call 67; refine (CX0.out _ KK.out.1.1).mono ?_; rintro e w_2 ⟨⟨AX0, cx0, rfl, hr⟩, hb⟩
            replace KK := hid (KK.out.step hb)
            replace KY := hid (KY.out.step hb)
            have RX0 := hid hr
            refine hK.out _ _ (KS.out _ KK.out) (fun hHeld2 => ?_)
            clear hK K hHeld; have hHeld := hHeld2; clear hHeld2
            clear hr hb
            try simp only [Act.put, List.setIfInBounds_toArray, List.set_cons_zero, List.set_cons_succ]
            refine wpAnyH_ready (rs := [17, 18]) (by kernel_rfl) (by simp) ?_
            refine (rdc (fun K hK => ?_) (rdc (fun K hK => ?_) AllReadyH.nil))
            · go_simp
              go_at_call 67; refine (CY0.out _ KK.out.1.1).mono ?_; rintro e w_3 ⟨⟨AY0, cy0, rfl, hr⟩, hb⟩
              replace KK := hid (KK.out.step hb)
              replace KY := hid (KY.out.step hb)
              replace RX0 := hid (RX0.out.below hb)
              have RY0 := hid hr
              refine hK.out _ _ (KS.out _ KK.out) (fun hHeld2 => ?_)
              clear hK K hHeld; have hHeld := hHeld2; clear hHeld2
              clear hr hb
              try simp only [Act.put, List.setIfInBounds_toArray, List.set_cons_zero, List.set_cons_succ]
              refine rd1 18 (fun K hK => ?_)
              go_simp
              have KX : Hid (Kp w (w_3.alloc (.cells #[.slice none 0 0, .bool false] 130)) w_3.heap.size (.cells #[.slice none 0 0, .bool false] 130)) := hid (kp_new2 KK.out.1.1 _ _ rfl)
              have l1 := heap_lt KK.out.2.2.2.2.2.2
              have l3 := heap_lt KY.out.2.2
              replace KK := hid (KK.out.step (b1alloc _ (.cells #[.slice none 0 0, .bool false] 130)))
              replace KY := hid (kp_alloc KY.out (.cells #[.slice none 0 0, .bool false] 130))
              replace RX0 := hid (RX0.out.below (b1alloc w_3 (.cells #[.slice none 0 0, .bool false] 130)))
              replace RY0 := hid (RY0.out.below (b1alloc w_3 (.cells #[.slice none 0 0, .bool false] 130)))
              refine hK.out _ _ (KS.out _ KK.out) (fun hHeld2 => ?_)
              clear hK K hHeld; have hHeld := hHeld2; clear hHeld2
              have DKX := hid l1
              have DXY := hid l3
              clear l1 l3
              generalize w_3.alloc (.cells #[.slice none 0 0, .bool false] 130) = w_4 at KK KY KX RX0 RY0 hHeld ⊢
              generalize w_3.heap.size = NX at KX DKX DXY ⊢
              try simp only [Act.put, List.setIfInBounds_toArray, List.set_cons_zero, List.set_cons_succ]
              refine rd1 20 (fun K hK => ?_)
              obtain ⟨z0, z1⟩ := box_two KX.out.2.2
              have y0 := kp_froz KX.out 0
              have y1 := kp_froz KX.out 1
              go_simp
              have g6 := (set_grown w_4 NX 0 (.slice AX0 kx0 cx0)).trans (set_grown _ NX 1 (.bool vx0))
              have nz := no_int2 (fun _ h => by cases h) (fun _ h => by cases h) KX.out.2.2
              replace KK := hid (KK.out.gr g6 HM4.out DKX.out)
              replace KY := hid (kp_gr KY.out g6 (by have := DXY.out; omega) (by have := HM4.out; have := DKX.out; omega))
              replace RX0 := hid (RX0.out.offd g6 nz PX0.out)
              replace RY0 := hid (RY0.out.offd g6 nz PY0.out)
              replace KX := hid (kp_set2 (.slice AX0 kx0 cx0) (.bool vx0) KX.out)
              refine hK.out _ _ (KS.out _ KK.out) (fun hHeld2 => ?_)
              clear hK K hHeld; have hHeld := hHeld2; clear hHeld2
              clear g6 nz z0 z1 y0 y1
              generalize ((w_4.setCell ⟨NX, 0, none⟩ (.slice AX0 kx0 cx0)).setCell ⟨NX, 1, none⟩ (.bool vx0)) = w_5 at KK KX KY RX0 RY0 hHeld ⊢
              try simp only [Act.put, List.setIfInBounds_toArray, List.set_cons_zero, List.set_cons_succ]
              refine rd1 21 (fun K hK => ?_)
              obtain ⟨z0, z1⟩ := box_two KY.out.2.2
              have y0 := kp_froz KY.out 0
              have y1 := kp_froz KY.out 1
              go_simp
              have g6 := (set_grown w_5 NY 0 (.slice AY0 ky0 cy0)).trans (set_grown _ NY 1 (.bool vy0))
              have nz := no_int2 (fun _ h => by cases h) (fun _ h => by cases h) KY.out.2.2
              replace KK := hid (KK.out.gr g6 HM4.out DKY.out)
              replace KX := hid (kp_gr KX.out g6 (by have := DXY.out; omega) (by have := HM4.out; have := DKY.out; omega))
              replace RX0 := hid (RX0.out.offd g6 nz PX0.out)
              replace RY0 := hid (RY0.out.offd g6 nz PY0.out)
              replace KY := hid (kp_set2 (.slice AY0 ky0 cy0) (.bool vy0) KY.out)
              refine hK.out _ _ (KS.out _ KK.out) (fun hHeld2 => ?_)
              clear hK K hHeld; have hHeld := hHeld2; clear hHeld2
              clear g6 nz z0 z1 y0 y1
              generalize ((w_5.setCell ⟨NY, 0, none⟩ (.slice AY0 ky0 cy0)).setCell ⟨NY, 1, none⟩ (.bool vy0)) = w_6 at KK KX KY RX0 RY0 hHeld ⊢
              try simp only [Act.put, List.setIfInBounds_toArray, List.set_cons_zero, List.set_cons_succ]
              refine wpAnyH_done (by kernel_rfl) ?_ _
              refine NoPanic.normal ?_
              try go_wp2_with fail
              go_meet
              exact ⟨NX, NY, AX0, cx0, AY0, cy0, rfl, rfl, hid KK.out.1, hid KK.out.2.1, hid KK.out.2.2.1, hid KK.out.2.2.2.1, hid KK.out.2.2.2.2, KX, KY, RX0, RY0, DKX, DKY⟩
            · go_simp
              have KX : Hid (Kp w (w_2.alloc (.cells #[.slice none 0 0, .bool false] 130)) w_2.heap.size (.cells #[.slice none 0 0, .bool false] 130)) := hid (kp_new2 KK.out.1.1 _ _ rfl)
              have l1 := heap_lt KK.out.2.2.2.2.2.2
              have l3 := heap_lt KY.out.2.2
              replace KK := hid (KK.out.step (b1alloc _ (.cells #[.slice none 0 0, .bool false] 130)))
              replace KY := hid (kp_alloc KY.out (.cells #[.slice none 0 0, .bool false] 130))
              replace RX0 := hid (RX0.out.below (b1alloc w_2 (.cells #[.slice none 0 0, .bool false] 130)))
              refine hK.out _ _ (KS.out _ KK.out) (fun hHeld2 => ?_)
              clear hK K hHeld; have hHeld := hHeld2; clear hHeld2
              have DKX := hid l1
              have DXY := hid l3
              clear l1 l3
              generalize w_2.alloc (.cells #[.slice none 0 0, .bool false] 130) = w_3 at KK KY KX RX0 hHeld ⊢
              generalize w_2.heap.size = NX at KX DKX DXY ⊢
              try simp only [Act.put, List.setIfInBounds_toArray, List.set_cons_zero, List.set_cons_succ]
              refine rd1 17 (fun K hK => ?_)
              go_simp
              go_at_call 67; refine (CY0.out _ KK.out.1.1).mono ?_; rintro e w_4 ⟨⟨AY0, cy0, rfl, hr⟩, hb⟩
              replace KK := hid (KK.out.step hb)
              replace KX := hid (KX.out.step hb)
              replace KY := hid (KY.out.step hb)
              replace RX0 := hid (RX0.out.below hb)
              have RY0 := hid hr
              refine hK.out _ _ (KS.out _ KK.out) (fun hHeld2 => ?_)
              clear hK K hHeld; have hHeld := hHeld2; clear hHeld2
              clear hr hb
              try simp only [Act.put, List.setIfInBounds_toArray, List.set_cons_zero, List.set_cons_succ]
              refine rd1 20 (fun K hK => ?_)
              obtain ⟨z0, z1⟩ := box_two KX.out.2.2
              have y0 := kp_froz KX.out 0
              have y1 := kp_froz KX.out 1
              go_simp
              have g6 := (set_grown w_4 NX 0 (.slice AX0 kx0 cx0)).trans (set_grown _ NX 1 (.bool vx0))
              have nz := no_int2 (fun _ h => by cases h) (fun _ h => by cases h) KX.out.2.2
              replace KK := hid (KK.out.gr g6 HM4.out DKX.out)
              replace KY := hid (kp_gr KY.out g6 (by have := DXY.out; omega) (by have := HM4.out; have := DKX.out; omega))
              replace RX0 := hid (RX0.out.offd g6 nz PX0.out)
              replace RY0 := hid (RY0.out.offd g6 nz PY0.out)
              replace KX := hid (kp_set2 (.slice AX0 kx0 cx0) (.bool vx0) KX.out)
              refine hK.out _ _ (KS.out _ KK.out) (fun hHeld2 => ?_)
              clear hK K hHeld; have hHeld := hHeld2; clear hHeld2
              clear g6 nz z0 z1 y0 y1
              generalize ((w_4.setCell ⟨NX, 0, none⟩ (.slice AX0 kx0 cx0)).setCell ⟨NX, 1, none⟩ (.bool vx0)) = w_5 at KK KX KY RX0 RY0 hHeld ⊢
              try simp only [Act.put, List.setIfInBounds_toArray, List.set_cons_zero, List.set_cons_succ]
              refine rd1 21 (fun K hK => ?_)
              obtain ⟨z0, z1⟩ := box_two KY.out.2.2
              have y0 := kp_froz KY.out 0
              have y1 := kp_froz KY.out 1
              go_simp
              have g6 := (set_grown w_5 NY 0 (.slice AY0 ky0 cy0)).trans (set_grown _ NY 1 (.bool vy0))
              have nz := no_int2 (fun _ h => by cases h) (fun _ h => by cases h) KY.out.2.2
              replace KK := hid (KK.out.gr g6 HM4.out DKY.out)
              replace KX := hid (kp_gr KX.out g6 (by have := DXY.out; omega) (by have := HM4.out; have := DKY.out; omega))
              replace RX0 := hid (RX0.out.offd g6 nz PX0.out)
              replace RY0 := hid (RY0.out.offd g6 nz PY0.out)
              replace KY := hid (kp_set2 (.slice AY0 ky0 cy0) (.bool vy0) KY.out)
              refine hK.out _ _ (KS.out _ KK.out) (fun hHeld2 => ?_)
              clear hK K hHeld; have hHeld := hHeld2; clear hHeld2
              clear g6 nz z0 z1 y0 y1
              generalize ((w_5.setCell ⟨NY, 0, none⟩ (.slice AY0 ky0 cy0)).setCell ⟨NY, 1, none⟩ (.bool vy0)) = w_6 at KK KX KY RX0 RY0 hHeld ⊢
              try simp only [Act.put, List.setIfInBounds_toArray, List.set_cons_zero, List.set_cons_succ]
              refine wpAnyH_done (by kernel_rfl) ?_ _
              refine NoPanic.normal ?_
              try go_wp2_with fail
              go_meet
              exact ⟨NX, NY, AX0, cx0, AY0, cy0, rfl, rfl, hid KK.out.1, hid KK.out.2.1, hid KK.out.2.2.1, hid KK.out.2.2.2.1, hid KK.out.2.2.2.2, KX, KY, RX0, RY0, DKX, DKY⟩
          · go_simp
            have KX : Hid (Kp w (w_1.alloc (.cells #[.slice none 0 0, .bool false] 130)) w_1.heap.size (.cells #[.slice none 0 0, .bool false] 130)) := hid (kp_new2 KK.out.1.1 _ _ rfl)
            have l1 := heap_lt KK.out.2.2.2.2.2.2
            have l3 := heap_lt KY.out.2.2
            replace KK := hid (KK.out.step (b1alloc _ (.cells #[.slice none 0 0, .bool false] 130)))
            replace KY := hid (kp_alloc KY.out (.cells #[.slice none 0 0, .bool false] 130))
            refine hK.out _ _ (KS.out _ KK.out) (fun hHeld2 => ?_)
            clear hK K hHeld; have hHeld := hHeld2; clear hHeld2
            have DKX := hid l1
            have DXY := hid l3
            clear l1 l3
            generalize w_1.alloc (.cells #[.slice none 0 0, .bool false] 130) = w_2 at KK KY KX hHeld ⊢
            generalize w_1.heap.size = NX at KX DKX DXY ⊢
            try simp only [Act.put, List.setIfInBounds_toArray, List.set_cons_zero, List.set_cons_succ]
            refine rd1 8 (fun K hK => ?_)
            go_simp
            go_at_call 67; refine (CX0.out _ KK.out.1.1).mono ?_; rintro e w_3 ⟨⟨AX0, cx0, rfl, hr⟩, hb⟩
            replace KK := hid (KK.out.step hb)
            replace KX := hid (KX.out.step hb)
            replace KY := hid (KY.out.step hb)
            have RX0 := hid hr
            refine hK.out _ _ (KS.out _ KK.out) (fun hHeld2 => ?_)
            clear hK K hHeld; have hHeld := hHeld2; clear hHeld2
            clear hr hb
            try simp only [Act.put, List.setIfInBounds_toArray, List.set_cons_zero, List.set_cons_succ]
            refine rd1 17 (fun K hK => ?_)
            go_simp
            go_at_call 67; refine (CY0.out _ KK.out.1.1).mono ?_; rintro e w_4 ⟨⟨AY0, cy0, rfl, hr⟩, hb⟩
            replace KK := hid (KK.out.step hb)
            replace KX := hid (KX.out.step hb)
            replace KY := hid (KY.out.step hb)
            replace RX0 := hid (RX0.out.below hb)
            have RY0 := hid hr
            refine hK.out _ _ (KS.out _ KK.out) (fun hHeld2 => ?_)
            clear hK K hHeld; have hHeld := hHeld2; clear hHeld2
            clear hr hb
            try simp only [Act.put, List.setIfInBounds_toArray, List.set_cons_zero, List.set_cons_succ]
            refine rd1 20 (fun K hK => ?_)
            obtain ⟨z0, z1⟩ := box_two KX.out.2.2
            have y0 := kp_froz KX.out 0
            have y1 := kp_froz KX.out 1
            go_simp
            have g6 := (set_grown w_4 NX 0 (.slice AX0 kx0 cx0)).trans (set_grown _ NX 1 (.bool vx0))
            have nz := no_int2 (fun _ h => by cases h) (fun _ h => by cases h) KX.out.2.2
            replace KK := hid (KK.out.gr g6 HM4.out DKX.out)
            replace KY := hid (kp_gr KY.out g6 (by have := DXY.out; omega) (by have := HM4.out; have := DKX.out; omega))
            replace RX0 := hid (RX0.out.offd g6 nz PX0.out)
            replace RY0 := hid (RY0.out.offd g6 nz PY0.out)
            replace KX := hid (kp_set2 (.slice AX0 kx0 cx0) (.bool vx0) KX.out)
            refine hK.out _ _ (KS.out _ KK.out) (fun hHeld2 => ?_)
            clear hK K hHeld; have hHeld := hHeld2; clear hHeld2
            clear g6 nz z0 z1 y0 y1
            generalize ((w_4.setCell ⟨NX, 0, none⟩ (.slice AX0 kx0 cx0)).setCell ⟨NX, 1, none⟩ (.bool vx0)) = w_5 at KK KX KY RX0 RY0 hHeld ⊢
            try simp only [Act.put, List.setIfInBounds_toArray, List.set_cons_zero, List.set_cons_succ]
            refine rd1 21 (fun K hK => ?_)
            obtain ⟨z0, z1⟩ := box_two KY.out.2.2
            have y0 := kp_froz KY.out 0
            have y1 := kp_froz KY.out 1
            go_simp
            have g6 := (set_grown w_5 NY 0 (.slice AY0 ky0 cy0)).trans (set_grown _ NY 1 (.bool vy0))
            have nz := no_int2 (fun _ h => by cases h) (fun _ h => by cases h) KY.out.2.2
            replace KK := hid (KK.out.gr g6 HM4.out DKY.out)
            replace KX := hid (kp_gr KX.out g6 (by have := DXY.out; omega) (by have := HM4.out; have := DKY.out; omega))
            replace RX0 := hid (RX0.out.offd g6 nz PX0.out)
            replace RY0 := hid (RY0.out.offd g6 nz PY0.out)
            replace KY := hid (kp_set2 (.slice AY0 ky0 cy0) (.bool vy0) KY.out)
            refine hK.out _ _ (KS.out _ KK.out) (fun hHeld2 => ?_)
            clear hK K hHeld; have hHeld := hHeld2; clear hHeld2
            clear g6 nz z0 z1 y0 y1
            generalize ((w_5.setCell ⟨NY, 0, none⟩ (.slice AY0 ky0 cy0)).setCell ⟨NY, 1, none⟩ (.bool vy0)) = w_6 at KK KX KY RX0 RY0 hHeld ⊢
            try simp only [Act.put, List.setIfInBounds_toArray, List.set_cons_zero, List.set_cons_succ]
            refine wpAnyH_done (by kernel_rfl) ?_ _
            refine NoPanic.normal ?_
            try go_wp2_with fail
            go_meet
            exact ⟨NX, NY, AX0, cx0, AY0, cy0, rfl, rfl, hid KK.out.1, hid KK.out.2.1, hid KK.out.2.2.1, hid KK.out.2.2.2.1, hid KK.out.2.2.2.2, KX, KY, RX0, RY0, DKX, DKY⟩
    case rest =>
      obtain ⟨NX, NY, AX0, cx0, AY0, cy0, rfl, rfl, KA, KB, KR, KI, KO, KX, KY, RX0, RY0, DKX, DKY⟩ := hcut
      rename World => V0
      obtain ⟨y0, y1⟩ := box_two KX.out.2.2
      obtain ⟨y2, y3⟩ := box_two KY.out.2.2
      cases vx0 with
      | false =>
        have e0 : Hid (djB m c d = false) := hid (dj_few (.inl (jf BC.out.1.1 BD.out.1.1 Evx0.out)))
        have HZ := hid (And.intro (hC.out.symm.trans (djC_no e0.out)) (hv.out.symm.trans e0.out))
        go_wp2_with (refine wpList_store_whole rfl 78 (.tmp 6) (.tmp 54) rfl N2 (rdC 0 0 0 none 0 0 none 0 0 none 0 0 none 0 0 false) rfl rfl 78 _ KR.out.2.2 rfl (by show _ = some 8; exact size_rd) (rdC_one _ _ _ _ _ _ _ _ _ _ _ _ _ _ _ _) ?_; intro w9 hp9 hg9; have KR9 := hid (kp_at KR.out hg9 hp9); clear hp9 hg9)
        (try simp only [Exit.inBlock, Exit.then])
        show bodyPost Try.prog Try.f43 _ _ _ _
        refine bodyPost_ret (results_cell_row (p := 6) rfl _ _ N2 _ (rdC 0 0 0 none 0 0 none 0 0 none 0 0 none 0 0 false) (0, 0) _ rfl KR9.out.2.2 Try.underlying78 rfl (by kernel_rfl)) rfl ?_
        obtain ⟨z1, z2⟩ := HZ.out
        subst z1
        subst z2
        exact ⟨⟨none, 0, 0, none, 0, 0, none, 0, 0, none, 0, 0, rfl, dw_0 _, fd_0 _⟩, KR9.out.1⟩
      | true =>
      cases vy0 with
      | false =>
        have e0 : Hid (djB m c d = false) := hid (dj_few (.inr (.inl (jf BC.out.1.2 BD.out.1.2 Evy0.out))))
        have HZ := hid (And.intro (hC.out.symm.trans (djC_no e0.out)) (hv.out.symm.trans e0.out))
        go_wp2_with (refine wpList_store_whole rfl 78 (.tmp 6) (.tmp 54) rfl N2 (rdC 0 0 0 none 0 0 none 0 0 none 0 0 none 0 0 false) rfl rfl 78 _ KR.out.2.2 rfl (by show _ = some 8; exact size_rd) (rdC_one _ _ _ _ _ _ _ _ _ _ _ _ _ _ _ _) ?_; intro w9 hp9 hg9; have KR9 := hid (kp_at KR.out hg9 hp9); clear hp9 hg9)
        (try simp only [Exit.inBlock, Exit.then])
        show bodyPost Try.prog Try.f43 _ _ _ _
        refine bodyPost_ret (results_cell_row (p := 6) rfl _ _ N2 _ (rdC 0 0 0 none 0 0 none 0 0 none 0 0 none 0 0 false) (0, 0) _ rfl KR9.out.2.2 Try.underlying78 rfl (by kernel_rfl)) rfl ?_
        obtain ⟨z1, z2⟩ := HZ.out
        subst z1
        subst z2
        exact ⟨⟨none, 0, 0, none, 0, 0, none, 0, 0, none, 0, 0, rfl, dw_0 _, fd_0 _⟩, KR9.out.1⟩
      | true =>
      have cz := kp_cell (j := 0) (v := .slice none 0 0) KI.out rfl
      have fz := kp_froz KI.out 0
      go_upto_region 11 with fail
      clear cz fz
      have g9 := set_grown V0 N3 0 (.slice AX0 kx0 cx0)
      have nz := no_int2 (by intro y h; cases h) (by intro y h; cases h) KI.out.2.2
      replace KA := hid (kp_gr KA.out g9 (by have := HM4.out; have := DKX.out; have := DKY.out; omega) (by have := HM4.out; omega))
      replace KB := hid (kp_gr KB.out g9 (by have := HM4.out; have := DKX.out; have := DKY.out; omega) (by have := HM4.out; omega))
      replace KR := hid (kp_gr KR.out g9 (by have := HM4.out; have := DKX.out; have := DKY.out; omega) (by have := HM4.out; omega))
      replace KO := hid (kp_gr KO.out g9 (by have := HM4.out; have := DKX.out; have := DKY.out; omega) (by have := HM4.out; omega))
      replace KX := hid (kp_gr KX.out g9 (by have := HM4.out; have := DKX.out; have := DKY.out; omega) (by have := HM4.out; omega))
      replace KY := hid (kp_gr KY.out g9 (by have := HM4.out; have := DKX.out; have := DKY.out; omega) (by have := HM4.out; omega))
      replace RX0 := hid (RX0.out.offd g9 nz PX0.out)
      replace RY0 := hid (RY0.out.offd g9 nz PY0.out)
      replace KI : Hid (Kp w (V0.setCell ⟨N3, 0, none⟩ (.slice AX0 kx0 cx0)) N3 (.cells #[.slice AX0 kx0 cx0, .slice none 0 0] 24)) := hid (kp_set (j := 0) (v := .slice AX0 kx0 cx0) KI.out)
      clear g9 nz y0 y1 y2 y3
      generalize V0.setCell ⟨N3, 0, none⟩ (.slice AX0 kx0 cx0) = Va0 at KA KB KR KI KO KX KY RX0 RY0 ⊢
      obtain ⟨y0, y1⟩ := box_two KX.out.2.2
      obtain ⟨y2, y3⟩ := box_two KY.out.2.2
      have cz := kp_cell (j := 0) (v := .slice none 0 0) KO.out rfl
      have fz := kp_froz KO.out 0
      go_upto_region 6 with fail
      clear cz fz
      have g9 := set_grown Va0 N4 0 (.slice AY0 ky0 cy0)
      have nz := no_int2 (by intro y h; cases h) (by intro y h; cases h) KO.out.2.2
      replace KA := hid (kp_gr KA.out g9 (by have := HM4.out; have := DKX.out; have := DKY.out; omega) (by have := HM4.out; omega))
      replace KB := hid (kp_gr KB.out g9 (by have := HM4.out; have := DKX.out; have := DKY.out; omega) (by have := HM4.out; omega))
      replace KR := hid (kp_gr KR.out g9 (by have := HM4.out; have := DKX.out; have := DKY.out; omega) (by have := HM4.out; omega))
      replace KI := hid (kp_gr KI.out g9 (by have := HM4.out; have := DKX.out; have := DKY.out; omega) (by have := HM4.out; omega))
      replace KX := hid (kp_gr KX.out g9 (by have := HM4.out; have := DKX.out; have := DKY.out; omega) (by have := HM4.out; omega))
      replace KY := hid (kp_gr KY.out g9 (by have := HM4.out; have := DKX.out; have := DKY.out; omega) (by have := HM4.out; omega))
      replace RX0 := hid (RX0.out.offd g9 nz PX0.out)
      replace RY0 := hid (RY0.out.offd g9 nz PY0.out)
      replace KO : Hid (Kp w (Va0.setCell ⟨N4, 0, none⟩ (.slice AY0 ky0 cy0)) N4 (.cells #[.slice AY0 ky0 cy0, .slice none 0 0] 24)) := hid (kp_set (j := 0) (v := .slice AY0 ky0 cy0) KO.out)
      clear g9 nz y0 y1 y2 y3
      generalize Va0.setCell ⟨N4, 0, none⟩ (.slice AY0 ky0 cy0) = Vb0 at KA KB KR KI KO KX KY RX0 RY0 ⊢
      obtain ⟨y0, y1⟩ := box_two KX.out.2.2
      obtain ⟨y2, y3⟩ := box_two KY.out.2.2
      clear y0 y1 y2 y3 KX KY DKX DKY
      go_wp2
      rw [rounds_succ]
      rcases hm with rfl | rfl
      · skip
        have TX0 := hid (jt BC.out.1.1 BD.out.1.1 Evx0.out)
        have TY0 := hid (jt BC.out.1.2 BD.out.1.2 Evy0.out)
        have JX0 : Hid (jnl c.i0 d.i0 = X0) := hid ((jl_yes Evx0.out).symm.trans EX0.out)
        have JY0 : Hid (jnl c.o0 d.o0 = Y0) := hid ((jl_yes Evy0.out).symm.trans EY0.out)
        have GX0 : Hid (Bag X0) := hid (by rw [← JX0.out]; exact jnl_bg BC.out.1.1 BD.out.1.1 TX0.out)
        have GY0 : Hid (Bag Y0) := hid (by rw [← JY0.out]; exact jnl_bg BC.out.1.2 BD.out.1.2 TY0.out)
        have SX0 : Hid (X0.length ≤ 1000) := hid (by have h := jl_len c.i0 d.i0; rw [EX0.out] at h; have := HP.out; have := HP2.out; unfold sh5 at *; omega)
        have SY0 : Hid (Y0.length ≤ 1000) := hid (by have h := jl_len c.o0 d.o0; rw [EY0.out] at h; have := HP.out; have := HP2.out; unfold sh5 at *; omega)
        have XE := xd_join1 CA.out CB.out TX0.out TY0.out
        rw [JX0.out, JY0.out] at XE
        have XB : Hid (xdB 1 (c.n + d.n) X0 [] Y0 [] = v) := hid (XE.1.trans hv.out)
        have XC : Hid (xdC 1 (c.n + d.n) X0 [] Y0 [] = D) := hid (XE.2.trans hC.out)
        clear XE
        have OKX : Hid (okd ⟨c.n + d.n, 0, 0, X0, [], Y0, []⟩) := hid ⟨⟨by show I64 (c.n + d.n); unfold I64; omega, calc.i64_0, calc.i64_0⟩, ⟨(by rw [← EX0.out]; exact jl_nok BC.out.1.1 BD.out.1.1 HK.out.2.1.1 HK2.out.2.1.1), nok_nild⟩, (by rw [← EY0.out]; exact jl_nok BC.out.1.2 BD.out.1.2 HK.out.2.2.1 HK2.out.2.2.1), nok_nild⟩
        obtain ⟨p0, p1, p2, p3, p4, p5, p6⟩ := box_seven KA.out.2.2
        obtain ⟨q0, q1, q2, q3, q4, q5, q6⟩ := box_seven KB.out.2.2
        obtain ⟨y0, y1⟩ := box_two KI.out.2.2
        obtain ⟨y2, y3⟩ := box_two KO.out.2.2
        have LT := hid (heap_lt KR.out.2.2)
        have SZ := hid KA.out.1.size
        go_wp2_with (first
          | (go_at_call 76; refine (rmade_m 1 ⟨c.n + d.n, 0, 0, X0, [], Y0, []⟩ AX0 kx0 cx0 none 0 0 AY0 ky0 cy0 none 0 0 D v _ ⟨⟨RX0.out, nrun_nil _⟩, RY0.out, nrun_nil _⟩ OKX.out ⟨⟨GX0.out, GY0.out⟩, bag_nil, bag_nil⟩ ⟨⟨SX0.out, by simp⟩, SY0.out, by simp⟩ (.inl rfl) XC XB).mono ?_; rintro e w2 ⟨⟨r0, r1, r2, r3, r4, r5, r6, r7, r8, r9, r10, r11, rfl, hd, hf⟩, hb⟩; have DD := hid hd; have FF := hid hf; replace KR := hid (KR.out.step hb); clear hd hf hb y0 y1 y2 y3 p0 p1 p2 p3 p4 p5 p6 q0 q1 q2 q3 q4 q5 q6)
          | (refine wpList_store_whole rfl 78 (.tmp 6) (.tmp 71) rfl N2 (rdC D.n D.s0 D.s1 r0 r1 r2 r3 r4 r5 r6 r7 r8 r9 r10 r11 v) rfl rfl 78 _ KR.out.2.2 rfl (by show _ = some 8; exact size_rd) (rdC_one _ _ _ _ _ _ _ _ _ _ _ _ _ _ _ _) ?_; intro w9 hp9 hg9; have KR9 := hid (kp_at KR.out hg9 hp9); have D9 := hid (dw_apart DD.out FF.out hg9 LT.out); clear hp9 hg9))
        (try simp only [Exit.inBlock, Exit.then])
        show bodyPost Try.prog Try.f43 _ _ _ _
        refine bodyPost_ret (results_cell_row (p := 6) rfl _ _ N2 _ (rdC D.n D.s0 D.s1 r0 r1 r2 r3 r4 r5 r6 r7 r8 r9 r10 r11 v) (0, 0) _ rfl KR9.out.2.2 Try.underlying78 rfl (by kernel_rfl)) rfl ?_
        exact ⟨⟨r0, r1, r2, r3, r4, r5, r6, r7, r8, r9, r10, r11, rfl, D9.out, FF.out.mono SZ.out⟩, KR9.out.1⟩
      · skip
        obtain ⟨X1, h1⟩ : ∃ y, Jl c.i1 d.i1 = y := ⟨_, rfl⟩
        obtain ⟨vx1, h2⟩ : ∃ y, Jn c.i1 d.i1 = y := ⟨_, rfl⟩
        obtain ⟨kx1, h3⟩ : ∃ y, X1.length = y := ⟨_, rfl⟩
        have EX1 := hid h1
        have Evx1 := hid h2
        have Ekx1 := hid h3
        clear h1 h2 h3
        obtain ⟨Y1, h1⟩ : ∃ y, Jl c.o1 d.o1 = y := ⟨_, rfl⟩
        obtain ⟨vy1, h2⟩ : ∃ y, Jn c.o1 d.o1 = y := ⟨_, rfl⟩
        obtain ⟨ky1, h3⟩ : ∃ y, Y1.length = y := ⟨_, rfl⟩
        have EY1 := hid h1
        have Evy1 := hid h2
        have Eky1 := hid h3
        clear h1 h2 h3
        have PX1 : Hid (Pos X1) := hid (by rw [← EX1.out]; exact jl_pos BC.out.2.1 BD.out.2.1)
        have PY1 : Hid (Pos Y1) := hid (by rw [← EY1.out]; exact jl_pos BC.out.2.2 BD.out.2.2)
        go_upto_region 7 with fail
        go_cut [10, 11] (fun p q wx => ∃ (NX NY : Nat) (AX1 : Option Addr) (cx1 : Nat) (AY1 : Option Addr) (cy1 : Nat), p = .pointer (some ⟨NX, 0, none⟩) ∧ q = .pointer (some ⟨NY, 0, none⟩) ∧ Hid (Kp w wx N0 (.cells #[.int .i64 c.n, .int .i64 c.s0, .int .i64 c.s1, .slice a0 a1 a2, .slice a3 a4 a5, .slice a6 a7 a8, .slice a9 a10 a11] 68)) ∧ Hid (Kp w wx N1 (.cells #[.int .i64 d.n, .int .i64 d.s0, .int .i64 d.s1, .slice b0 b1 b2, .slice b3 b4 b5, .slice b6 b7 b8, .slice b9 b10 b11] 68)) ∧ Hid (Kp w wx N2 (.cells #[.int .i64 0, .int .i64 0, .int .i64 0, .slice none 0 0, .slice none 0 0, .slice none 0 0, .slice none 0 0, .bool false] 78)) ∧ Hid (Kp w wx N3 (.cells #[.slice AX0 kx0 cx0, .slice none 0 0] 24)) ∧ Hid (Kp w wx N4 (.cells #[.slice AY0 ky0 cy0, .slice none 0 0] 24)) ∧ Hid (Kp w wx NX (.cells #[.slice AX1 kx1 cx1, .bool vx1] 130)) ∧ Hid (Kp w wx NY (.cells #[.slice AY1 ky1 cy1, .bool vy1] 130)) ∧ Hid (NRun wx AX0 kx0 cx0 X0) ∧ Hid (NRun wx AY0 ky0 cy0 Y0) ∧ Hid (NRun wx AX1 kx1 cx1 X1) ∧ Hid (NRun wx AY1 ky1 cy1 Y1) ∧ Hid (N4 < NX) ∧ Hid (N4 < NY))
        case first =>
            have KK : Hid (K5 w Vb0 N0 N1 N2 N3 N4 (.cells #[.int .i64 c.n, .int .i64 c.s0, .int .i64 c.s1, .slice a0 a1 a2, .slice a3 a4 a5, .slice a6 a7 a8, .slice a9 a10 a11] 68) (.cells #[.int .i64 d.n, .int .i64 d.s0, .int .i64 d.s1, .slice b0 b1 b2, .slice b3 b4 b5, .slice b6 b7 b8, .slice b9 b10 b11] 68) (.cells #[.int .i64 0, .int .i64 0, .int .i64 0, .slice none 0 0, .slice none 0 0, .slice none 0 0, .slice none 0 0, .bool false] 78) (.cells #[.slice AX0 kx0 cx0, .slice none 0 0] 24) (.cells #[.slice AY0 ky0 cy0, .slice none 0 0] 24)) := hid ⟨KA.out, KB.out, KR.out, KI.out, KO.out⟩
            have KS : Hid (∀ y, K5 w y N0 N1 N2 N3 N4 (.cells #[.int .i64 c.n, .int .i64 c.s0, .int .i64 c.s1, .slice a0 a1 a2, .slice a3 a4 a5, .slice a6 a7 a8, .slice a9 a10 a11] 68) (.cells #[.int .i64 d.n, .int .i64 d.s0, .int .i64 d.s1, .slice b0 b1 b2, .slice b3 b4 b5, .slice b6 b7 b8, .slice b9 b10 b11] 68) (.cells #[.int .i64 0, .int .i64 0, .int .i64 0, .slice none 0 0, .slice none 0 0, .slice none 0 0, .slice none 0 0, .bool false] 78) (.cells #[.slice AX0 kx0 cx0, .slice none 0 0] 24) (.cells #[.slice AY0 ky0 cy0, .slice none 0 0] 24) → (fun y => y.cell? ⟨N0, 4, none⟩ = some (.slice a3 a4 a5) ∧ y.cell? ⟨N1, 4, none⟩ = some (.slice b3 b4 b5) ∧ y.cell? ⟨N0, 6, none⟩ = some (.slice a9 a10 a11) ∧ y.cell? ⟨N1, 6, none⟩ = some (.slice b9 b10 b11)) y) := hid (fun y h => ⟨kp_cell (j := 4) (v := .slice a3 a4 a5) h.1 rfl, kp_cell (j := 4) (v := .slice b3 b4 b5) h.2.1 rfl, kp_cell (j := 6) (v := .slice a9 a10 a11) h.1 rfl, kp_cell (j := 6) (v := .slice b9 b10 b11) h.2.1 rfl⟩)
            clear KA KB KR KI KO
            have CY1 : Hid (∀ y, Below w.heap.size w y → Calls Try.prog 67 #[.slice a9 a10 a11, .slice b9 b10 b11] y fun e w' => (∃ A cap, e = .returned (.agg #[.slice A ky1 cap, .bool vy1]) ∧ NRun w' A ky1 cap Y1) ∧ Below y.heap.size y w') := hid (fun y h => rjoin_d _ _ _ _ _ _ ky1 c.o1 d.o1 Y1 vy1 _ (HW.out.2.2.below h) (HV.out.2.2.below h) HK.out.2.2.2 HK2.out.2.2.2 (by have := LA.out; omega) (by have := LA.out; omega) EY1 Evy1 Eky1)
            have CX1 : Hid (∀ y, Below w.heap.size w y → Calls Try.prog 67 #[.slice a3 a4 a5, .slice b3 b4 b5] y fun e w' => (∃ A cap, e = .returned (.agg #[.slice A kx1 cap, .bool vx1]) ∧ NRun w' A kx1 cap X1) ∧ Below y.heap.size y w') := hid (fun y h => rjoin_d _ _ _ _ _ _ kx1 c.i1 d.i1 X1 vx1 _ (HW.out.1.2.below h) (HV.out.1.2.below h) HK.out.2.1.2 HK2.out.2.1.2 (by have := LA.out; omega) (by have := LA.out; omega) EX1 Evx1 Ekx1)
            refine wp_region_noPanic ?_
            refine wp_region_held_drew (S := fun y => y.cell? ⟨N0, 4, none⟩ = some (.slice a3 a4 a5) ∧ y.cell? ⟨N1, 4, none⟩ = some (.slice b3 b4 b5) ∧ y.cell? ⟨N0, 6, none⟩ = some (.slice a9 a10 a11) ∧ y.cell? ⟨N1, 6, none⟩ = some (.slice b9 b10 b11)) (by kernel_rfl) (KS.out _ (KK.out.step (bdrew (Below.refl _ _)))) (fun hHeld => ?_)
            replace KK := hid (KK.out.step (bdrew (Below.refl _ _)))
            replace RX0 := hid (RX0.out.below (bdrew (Below.refl _ _)))
            replace RY0 := hid (RY0.out.below (bdrew (Below.refl _ _)))
            generalize Vb0.drew = wd at KK RX0 RY0 hHeld ⊢
            refine tk 0 (v := ?_) ?_ ?_
            rotate_left
            · intro w hSw; (try dsimp only at hSw); go_simp; (try with_reducible rfl)
            try simp only [Act.put, List.setIfInBounds_toArray, List.set_cons_zero, List.set_cons_succ]
            refine tk 1 (v := ?_) ?_ ?_
            rotate_left
            · intro w hSw; (try dsimp only at hSw); go_simp; (try with_reducible rfl)
            try simp only [Act.put, List.setIfInBounds_toArray, List.set_cons_zero, List.set_cons_succ]
            refine tk 2 (v := ?_) ?_ ?_
            rotate_left
            · intro w hSw; (try dsimp only at hSw); go_simp; (try with_reducible rfl)
            try simp only [Act.put, List.setIfInBounds_toArray, List.set_cons_zero, List.set_cons_succ]
            refine tk 3 (v := ?_) ?_ ?_
            rotate_left
            · intro w hSw; (try dsimp only at hSw); go_simp; (try with_reducible rfl)
            try simp only [Act.put, List.setIfInBounds_toArray, List.set_cons_zero, List.set_cons_succ]
            refine tk 4 (v := ?_) ?_ ?_
            rotate_left
            · intro w hSw; (try dsimp only at hSw); go_simp; (try with_reducible rfl)
            try simp only [Act.put, List.setIfInBounds_toArray, List.set_cons_zero, List.set_cons_succ]
            refine tk 5 (v := ?_) ?_ ?_
            rotate_left
            · intro w hSw; (try dsimp only at hSw); go_simp; (try with_reducible rfl)
            try simp only [Act.put, List.setIfInBounds_toArray, List.set_cons_zero, List.set_cons_succ]
            refine tk 6 (v := ?_) ?_ ?_
            rotate_left
            · intro w hSw; (try dsimp only at hSw); go_simp; (try with_reducible rfl)
            try simp only [Act.put, List.setIfInBounds_toArray, List.set_cons_zero, List.set_cons_succ]
            refine tk 7 (v := ?_) ?_ ?_
            rotate_left
            · intro w hSw; (try dsimp only at hSw); go_simp; (try with_reducible rfl)
            try simp only [Act.put, List.setIfInBounds_toArray, List.set_cons_zero, List.set_cons_succ]
            refine tk 9 (v := ?_) ?_ ?_
            rotate_left
            · intro w hSw; (try dsimp only at hSw); go_simp; (try with_reducible rfl)
            try simp only [Act.put, List.setIfInBounds_toArray, List.set_cons_zero, List.set_cons_succ]
            refine tk 10 (v := ?_) ?_ ?_
            rotate_left
            · intro w hSw; (try dsimp only at hSw); go_simp; (try with_reducible rfl)
            try simp only [Act.put, List.setIfInBounds_toArray, List.set_cons_zero, List.set_cons_succ]
            refine tk 11 (v := ?_) ?_ ?_
            rotate_left
            · intro w hSw; (try dsimp only at hSw); go_simp; (try with_reducible rfl)
            try simp only [Act.put, List.setIfInBounds_toArray, List.set_cons_zero, List.set_cons_succ]
            refine tk 12 (v := ?_) ?_ ?_
            rotate_left
            · intro w hSw; (try dsimp only at hSw); go_simp; (try with_reducible rfl)
            try simp only [Act.put, List.setIfInBounds_toArray, List.set_cons_zero, List.set_cons_succ]
            refine tk 13 (v := ?_) ?_ ?_
            rotate_left
            · intro w hSw; (try dsimp only at hSw); go_simp; (try with_reducible rfl)
            try simp only [Act.put, List.setIfInBounds_toArray, List.set_cons_zero, List.set_cons_succ]
            refine tk 14 (v := ?_) ?_ ?_
            rotate_left
            · intro w hSw; (try dsimp only at hSw); go_simp; (try with_reducible rfl)
            try simp only [Act.put, List.setIfInBounds_toArray, List.set_cons_zero, List.set_cons_succ]
            refine tk 15 (v := ?_) ?_ ?_
            rotate_left
            · intro w hSw; (try dsimp only at hSw); go_simp; (try with_reducible rfl)
            try simp only [Act.put, List.setIfInBounds_toArray, List.set_cons_zero, List.set_cons_succ]
            refine tk 16 (v := ?_) ?_ ?_
            rotate_left
            · intro w hSw; (try dsimp only at hSw); go_simp; (try with_reducible rfl)
            try simp only [Act.put, List.setIfInBounds_toArray, List.set_cons_zero, List.set_cons_succ]
            refine wpAnyH_ready (rs := [8, 18, 19]) (by kernel_rfl) (by simp) ?_
            refine (rdc (fun K hK => ?_) (rdc (fun K hK => ?_) (rdc (fun K hK => ?_) AllReadyH.nil)))
            · go_simp
              go_at_call 67; refine (CX1.out _ KK.out.1.1).mono ?_; rintro e w_1 ⟨⟨AX1, cx1, rfl, hr⟩, hb⟩
              replace KK := hid (KK.out.step hb)
              replace RX0 := hid (RX0.out.below hb)
              replace RY0 := hid (RY0.out.below hb)
              have RX1 := hid hr
              refine hK.out _ _ (KS.out _ KK.out) (fun hHeld2 => ?_)
              clear hK K hHeld; have hHeld := hHeld2; clear hHeld2
              clear hr hb
              try simp only [Act.put, List.setIfInBounds_toArray, List.set_cons_zero, List.set_cons_succ]
              refine wpAnyH_ready (rs := [17, 18, 19]) (by kernel_rfl) (by simp) ?_
              refine (rdc (fun K hK => ?_) (rdc (fun K hK => ?_) (rdc (fun K hK => ?_) AllReadyH.nil)))
              · go_simp
                go_at_call 67; refine (CY1.out _ KK.out.1.1).mono ?_; rintro e w_2 ⟨⟨AY1, cy1, rfl, hr⟩, hb⟩
                replace KK := hid (KK.out.step hb)
                replace RX0 := hid (RX0.out.below hb)
                replace RY0 := hid (RY0.out.below hb)
                replace RX1 := hid (RX1.out.below hb)
                have RY1 := hid hr
                refine hK.out _ _ (KS.out _ KK.out) (fun hHeld2 => ?_)
                clear hK K hHeld; have hHeld := hHeld2; clear hHeld2
                clear hr hb
                try simp only [Act.put, List.setIfInBounds_toArray, List.set_cons_zero, List.set_cons_succ]
                refine wpAnyH_ready (rs := [18, 19]) (by kernel_rfl) (by simp) ?_
                refine (rdc (fun K hK => ?_) (rdc (fun K hK => ?_) AllReadyH.nil))
                · go_simp
                  have KX : Hid (Kp w (w_2.alloc (.cells #[.slice none 0 0, .bool false] 130)) w_2.heap.size (.cells #[.slice none 0 0, .bool false] 130)) := hid (kp_new2 KK.out.1.1 _ _ rfl)
                  have l1 := heap_lt KK.out.2.2.2.2.2.2
                  replace KK := hid (KK.out.step (b1alloc _ (.cells #[.slice none 0 0, .bool false] 130)))
                  replace RX0 := hid (RX0.out.below (b1alloc w_2 (.cells #[.slice none 0 0, .bool false] 130)))
                  replace RY0 := hid (RY0.out.below (b1alloc w_2 (.cells #[.slice none 0 0, .bool false] 130)))
                  replace RX1 := hid (RX1.out.below (b1alloc w_2 (.cells #[.slice none 0 0, .bool false] 130)))
                  replace RY1 := hid (RY1.out.below (b1alloc w_2 (.cells #[.slice none 0 0, .bool false] 130)))
                  refine hK.out _ _ (KS.out _ KK.out) (fun hHeld2 => ?_)
                  clear hK K hHeld; have hHeld := hHeld2; clear hHeld2
                  have DKX := hid l1
                  clear l1
                  generalize w_2.alloc (.cells #[.slice none 0 0, .bool false] 130) = w_3 at KK KX RX0 RY0 RX1 RY1 hHeld ⊢
                  generalize w_2.heap.size = NX at KX DKX ⊢
                  try simp only [Act.put, List.setIfInBounds_toArray, List.set_cons_zero, List.set_cons_succ]
                  refine rd1 19 (fun K hK => ?_)
                  go_simp
                  have KY : Hid (Kp w (w_3.alloc (.cells #[.slice none 0 0, .bool false] 130)) w_3.heap.size (.cells #[.slice none 0 0, .bool false] 130)) := hid (kp_new2 KK.out.1.1 _ _ rfl)
                  have l1 := heap_lt KK.out.2.2.2.2.2.2
                  have l3 := heap_lt KX.out.2.2
                  replace KK := hid (KK.out.step (b1alloc _ (.cells #[.slice none 0 0, .bool false] 130)))
                  replace KX := hid (kp_alloc KX.out (.cells #[.slice none 0 0, .bool false] 130))
                  replace RX0 := hid (RX0.out.below (b1alloc w_3 (.cells #[.slice none 0 0, .bool false] 130)))
                  replace RY0 := hid (RY0.out.below (b1alloc w_3 (.cells #[.slice none 0 0, .bool false] 130)))
                  replace RX1 := hid (RX1.out.below (b1alloc w_3 (.cells #[.slice none 0 0, .bool false] 130)))
                  replace RY1 := hid (RY1.out.below (b1alloc w_3 (.cells #[.slice none 0 0, .bool false] 130)))
                  refine hK.out _ _ (KS.out _ KK.out) (fun hHeld2 => ?_)
                  clear hK K hHeld; have hHeld := hHeld2; clear hHeld2
                  have DKY := hid l1
                  have DXY := hid l3
                  clear l1 l3
                  generalize w_3.alloc (.cells #[.slice none 0 0, .bool false] 130) = w_4 at KK KX KY RX0 RY0 RX1 RY1 hHeld ⊢
                  generalize w_3.heap.size = NY at KY DKY DXY ⊢
                  try simp only [Act.put, List.setIfInBounds_toArray, List.set_cons_zero, List.set_cons_succ]
                  refine rd1 20 (fun K hK => ?_)
                  obtain ⟨z0, z1⟩ := box_two KX.out.2.2
                  have y0 := kp_froz KX.out 0
                  have y1 := kp_froz KX.out 1
                  go_simp
                  have g6 := (set_grown w_4 NX 0 (.slice AX1 kx1 cx1)).trans (set_grown _ NX 1 (.bool vx1))
                  have nz := no_int2 (fun _ h => by cases h) (fun _ h => by cases h) KX.out.2.2
                  replace KK := hid (KK.out.gr g6 HM4.out DKX.out)
                  replace KY := hid (kp_gr KY.out g6 (by have := DXY.out; omega) (by have := HM4.out; have := DKX.out; omega))
                  replace RX0 := hid (RX0.out.offd g6 nz PX0.out)
                  replace RY0 := hid (RY0.out.offd g6 nz PY0.out)
                  replace RX1 := hid (RX1.out.offd g6 nz PX1.out)
                  replace RY1 := hid (RY1.out.offd g6 nz PY1.out)
                  replace KX := hid (kp_set2 (.slice AX1 kx1 cx1) (.bool vx1) KX.out)
                  refine hK.out _ _ (KS.out _ KK.out) (fun hHeld2 => ?_)
                  clear hK K hHeld; have hHeld := hHeld2; clear hHeld2
                  clear g6 nz z0 z1 y0 y1
                  generalize ((w_4.setCell ⟨NX, 0, none⟩ (.slice AX1 kx1 cx1)).setCell ⟨NX, 1, none⟩ (.bool vx1)) = w_5 at KK KX KY RX0 RY0 RX1 RY1 hHeld ⊢
                  try simp only [Act.put, List.setIfInBounds_toArray, List.set_cons_zero, List.set_cons_succ]
                  refine rd1 21 (fun K hK => ?_)
                  obtain ⟨z0, z1⟩ := box_two KY.out.2.2
                  have y0 := kp_froz KY.out 0
                  have y1 := kp_froz KY.out 1
                  go_simp
                  have g6 := (set_grown w_5 NY 0 (.slice AY1 ky1 cy1)).trans (set_grown _ NY 1 (.bool vy1))
                  have nz := no_int2 (fun _ h => by cases h) (fun _ h => by cases h) KY.out.2.2
                  replace KK := hid (KK.out.gr g6 HM4.out DKY.out)
                  replace KX := hid (kp_gr KX.out g6 (by have := DXY.out; omega) (by have := HM4.out; have := DKY.out; omega))
                  replace RX0 := hid (RX0.out.offd g6 nz PX0.out)
                  replace RY0 := hid (RY0.out.offd g6 nz PY0.out)
                  replace RX1 := hid (RX1.out.offd g6 nz PX1.out)
                  replace RY1 := hid (RY1.out.offd g6 nz PY1.out)
                  replace KY := hid (kp_set2 (.slice AY1 ky1 cy1) (.bool vy1) KY.out)
                  refine hK.out _ _ (KS.out _ KK.out) (fun hHeld2 => ?_)
                  clear hK K hHeld; have hHeld := hHeld2; clear hHeld2
                  clear g6 nz z0 z1 y0 y1
                  generalize ((w_5.setCell ⟨NY, 0, none⟩ (.slice AY1 ky1 cy1)).setCell ⟨NY, 1, none⟩ (.bool vy1)) = w_6 at KK KX KY RX0 RY0 RX1 RY1 hHeld ⊢
                  try simp only [Act.put, List.setIfInBounds_toArray, List.set_cons_zero, List.set_cons_succ]
                  refine wpAnyH_done (by kernel_rfl) ?_ _
                  refine NoPanic.normal ?_
                  try go_wp2_with fail
                  go_meet
                  exact ⟨NX, NY, AX1, cx1, AY1, cy1, rfl, rfl, hid KK.out.1, hid KK.out.2.1, hid KK.out.2.2.1, hid KK.out.2.2.2.1, hid KK.out.2.2.2.2, KX, KY, RX0, RY0, RX1, RY1, DKX, DKY⟩
                · go_simp
                  have KY : Hid (Kp w (w_2.alloc (.cells #[.slice none 0 0, .bool false] 130)) w_2.heap.size (.cells #[.slice none 0 0, .bool false] 130)) := hid (kp_new2 KK.out.1.1 _ _ rfl)
                  have l1 := heap_lt KK.out.2.2.2.2.2.2
                  replace KK := hid (KK.out.step (b1alloc _ (.cells #[.slice none 0 0, .bool false] 130)))
                  replace RX0 := hid (RX0.out.below (b1alloc w_2 (.cells #[.slice none 0 0, .bool false] 130)))
                  replace RY0 := hid (RY0.out.below (b1alloc w_2 (.cells #[.slice none 0 0, .bool false] 130)))
                  replace RX1 := hid (RX1.out.below (b1alloc w_2 (.cells #[.slice none 0 0, .bool false] 130)))
                  replace RY1 := hid (RY1.out.below (b1alloc w_2 (.cells #[.slice none 0 0, .bool false] 130)))
                  refine hK.out _ _ (KS.out _ KK.out) (fun hHeld2 => ?_)
                  clear hK K hHeld; have hHeld := hHeld2; clear hHeld2
                  have DKY := hid l1
                  clear l1
                  generalize w_2.alloc (.cells #[.slice none 0 0, .bool false] 130) = w_3 at KK KY RX0 RY0 RX1 RY1 hHeld ⊢
                  generalize w_2.heap.size = NY at KY DKY ⊢
                  try simp only [Act.put, List.setIfInBounds_toArray, List.set_cons_zero, List.set_cons_succ]
                  refine rd1 18 (fun K hK => ?_)
                  go_simp
                  have KX : Hid (Kp w (w_3.alloc (.cells #[.slice none 0 0, .bool false] 130)) w_3.heap.size (.cells #[.slice none 0 0, .bool false] 130)) := hid (kp_new2 KK.out.1.1 _ _ rfl)
                  have l1 := heap_lt KK.out.2.2.2.2.2.2
                  have l3 := heap_lt KY.out.2.2
                  replace KK := hid (KK.out.step (b1alloc _ (.cells #[.slice none 0 0, .bool false] 130)))
                  replace KY := hid (kp_alloc KY.out (.cells #[.slice none 0 0, .bool false] 130))
                  replace RX0 := hid (RX0.out.below (b1alloc w_3 (.cells #[.slice none 0 0, .bool false] 130)))
                  replace RY0 := hid (RY0.out.below (b1alloc w_3 (.cells #[.slice none 0 0, .bool false] 130)))
                  replace RX1 := hid (RX1.out.below (b1alloc w_3 (.cells #[.slice none 0 0, .bool false] 130)))
                  replace RY1 := hid (RY1.out.below (b1alloc w_3 (.cells #[.slice none 0 0, .bool false] 130)))
                  refine hK.out _ _ (KS.out _ KK.out) (fun hHeld2 => ?_)
                  clear hK K hHeld; have hHeld := hHeld2; clear hHeld2
                  have DKX := hid l1
                  have DXY := hid l3
                  clear l1 l3
                  generalize w_3.alloc (.cells #[.slice none 0 0, .bool false] 130) = w_4 at KK KY KX RX0 RY0 RX1 RY1 hHeld ⊢
                  generalize w_3.heap.size = NX at KX DKX DXY ⊢
                  try simp only [Act.put, List.setIfInBounds_toArray, List.set_cons_zero, List.set_cons_succ]
                  refine rd1 20 (fun K hK => ?_)
                  obtain ⟨z0, z1⟩ := box_two KX.out.2.2
                  have y0 := kp_froz KX.out 0
                  have y1 := kp_froz KX.out 1
                  go_simp
                  have g6 := (set_grown w_4 NX 0 (.slice AX1 kx1 cx1)).trans (set_grown _ NX 1 (.bool vx1))
                  have nz := no_int2 (fun _ h => by cases h) (fun _ h => by cases h) KX.out.2.2
                  replace KK := hid (KK.out.gr g6 HM4.out DKX.out)
                  replace KY := hid (kp_gr KY.out g6 (by have := DXY.out; omega) (by have := HM4.out; have := DKX.out; omega))
                  replace RX0 := hid (RX0.out.offd g6 nz PX0.out)
                  replace RY0 := hid (RY0.out.offd g6 nz PY0.out)
                  replace RX1 := hid (RX1.out.offd g6 nz PX1.out)
                  replace RY1 := hid (RY1.out.offd g6 nz PY1.out)
                  replace KX := hid (kp_set2 (.slice AX1 kx1 cx1) (.bool vx1) KX.out)
                  refine hK.out _ _ (KS.out _ KK.out) (fun hHeld2 => ?_)
                  clear hK K hHeld; have hHeld := hHeld2; clear hHeld2
                  clear g6 nz z0 z1 y0 y1
                  generalize ((w_4.setCell ⟨NX, 0, none⟩ (.slice AX1 kx1 cx1)).setCell ⟨NX, 1, none⟩ (.bool vx1)) = w_5 at KK KX KY RX0 RY0 RX1 RY1 hHeld ⊢
                  try simp only [Act.put, List.setIfInBounds_toArray, List.set_cons_zero, List.set_cons_succ]
                  refine rd1 21 (fun K hK => ?_)
                  obtain ⟨z0, z1⟩ := box_two KY.out.2.2
                  have y0 := kp_froz KY.out 0
                  have y1 := kp_froz KY.out 1
                  go_simp
                  have g6 := (set_grown w_5 NY 0 (.slice AY1 ky1 cy1)).trans (set_grown _ NY 1 (.bool vy1))
                  have nz := no_int2 (fun _ h => by cases h) (fun _ h => by cases h) KY.out.2.2
                  replace KK := hid (KK.out.gr g6 HM4.out DKY.out)
                  replace KX := hid (kp_gr KX.out g6 (by have := DXY.out; omega) (by have := HM4.out; have := DKY.out; omega))
                  replace RX0 := hid (RX0.out.offd g6 nz PX0.out)
                  replace RY0 := hid (RY0.out.offd g6 nz PY0.out)
                  replace RX1 := hid (RX1.out.offd g6 nz PX1.out)
                  replace RY1 := hid (RY1.out.offd g6 nz PY1.out)
                  replace KY := hid (kp_set2 (.slice AY1 ky1 cy1) (.bool vy1) KY.out)
                  refine hK.out _ _ (KS.out _ KK.out) (fun hHeld2 => ?_)
                  clear hK K hHeld; have hHeld := hHeld2; clear hHeld2
                  clear g6 nz z0 z1 y0 y1
                  generalize ((w_5.setCell ⟨NY, 0, none⟩ (.slice AY1 ky1 cy1)).setCell ⟨NY, 1, none⟩ (.bool vy1)) = w_6 at KK KX KY RX0 RY0 RX1 RY1 hHeld ⊢
                  try simp only [Act.put, List.setIfInBounds_toArray, List.set_cons_zero, List.set_cons_succ]
                  refine wpAnyH_done (by kernel_rfl) ?_ _
                  refine NoPanic.normal ?_
                  try go_wp2_with fail
                  go_meet
                  exact ⟨NX, NY, AX1, cx1, AY1, cy1, rfl, rfl, hid KK.out.1, hid KK.out.2.1, hid KK.out.2.2.1, hid KK.out.2.2.2.1, hid KK.out.2.2.2.2, KX, KY, RX0, RY0, RX1, RY1, DKX, DKY⟩
              · go_simp
                have KX : Hid (Kp w (w_1.alloc (.cells #[.slice none 0 0, .bool false] 130)) w_1.heap.size (.cells #[.slice none 0 0, .bool false] 130)) := hid (kp_new2 KK.out.1.1 _ _ rfl)
                have l1 := heap_lt KK.out.2.2.2.2.2.2
                replace KK := hid (KK.out.step (b1alloc _ (.cells #[.slice none 0 0, .bool false] 130)))
                replace RX0 := hid (RX0.out.below (b1alloc w_1 (.cells #[.slice none 0 0, .bool false] 130)))
                replace RY0 := hid (RY0.out.below (b1alloc w_1 (.cells #[.slice none 0 0, .bool false] 130)))
                replace RX1 := hid (RX1.out.below (b1alloc w_1 (.cells #[.slice none 0 0, .bool false] 130)))
                refine hK.out _ _ (KS.out _ KK.out) (fun hHeld2 => ?_)
                clear hK K hHeld; have hHeld := hHeld2; clear hHeld2
                have DKX := hid l1
                clear l1
                generalize w_1.alloc (.cells #[.slice none 0 0, .bool false] 130) = w_2 at KK KX RX0 RY0 RX1 hHeld ⊢
                generalize w_1.heap.size = NX at KX DKX ⊢
                try simp only [Act.put, List.setIfInBounds_toArray, List.set_cons_zero, List.set_cons_succ]
                refine wpAnyH_ready (rs := [17, 19]) (by kernel_rfl) (by simp) ?_
                refine (rdc (fun K hK => ?_) (rdc (fun K hK => ?_) AllReadyH.nil))
                · go_simp
                  go_at_call 67; refine (CY1.out _ KK.out.1.1).mono ?_; rintro e w_3 ⟨⟨AY1, cy1, rfl, hr⟩, hb⟩
                  replace KK := hid (KK.out.step hb)
                  replace KX := hid (KX.out.step hb)
                  replace RX0 := hid (RX0.out.below hb)
                  replace RY0 := hid (RY0.out.below hb)
                  replace RX1 := hid (RX1.out.below hb)
                  have RY1 := hid hr
                  refine hK.out _ _ (KS.out _ KK.out) (fun hHeld2 => ?_)
                  clear hK K hHeld; have hHeld := hHeld2; clear hHeld2
                  clear hr hb
                  try simp only [Act.put, List.setIfInBounds_toArray, List.set_cons_zero, List.set_cons_succ]
                  refine rd1 19 (fun K hK => ?_)
                  go_simp
                  have KY : Hid (Kp w (w_3.alloc (.cells #[.slice none 0 0, .bool false] 130)) w_3.heap.size (.cells #[.slice none 0 0, .bool false] 130)) := hid (kp_new2 KK.out.1.1 _ _ rfl)
                  have l1 := heap_lt KK.out.2.2.2.2.2.2
                  have l3 := heap_lt KX.out.2.2
                  replace KK := hid (KK.out.step (b1alloc _ (.cells #[.slice none 0 0, .bool false] 130)))
                  replace KX := hid (kp_alloc KX.out (.cells #[.slice none 0 0, .bool false] 130))
                  replace RX0 := hid (RX0.out.below (b1alloc w_3 (.cells #[.slice none 0 0, .bool false] 130)))
                  replace RY0 := hid (RY0.out.below (b1alloc w_3 (.cells #[.slice none 0 0, .bool false] 130)))
                  replace RX1 := hid (RX1.out.below (b1alloc w_3 (.cells #[.slice none 0 0, .bool false] 130)))
                  replace RY1 := hid (RY1.out.below (b1alloc w_3 (.cells #[.slice none 0 0, .bool false] 130)))
                  refine hK.out _ _ (KS.out _ KK.out) (fun hHeld2 => ?_)
                  clear hK K hHeld; have hHeld := hHeld2; clear hHeld2
                  have DKY := hid l1
                  have DXY := hid l3
                  clear l1 l3
                  generalize w_3.alloc (.cells #[.slice none 0 0, .bool false] 130) = w_4 at KK KX KY RX0 RY0 RX1 RY1 hHeld ⊢
                  generalize w_3.heap.size = NY at KY DKY DXY ⊢
                  try simp only [Act.put, List.setIfInBounds_toArray, List.set_cons_zero, List.set_cons_succ]
                  refine rd1 20 (fun K hK => ?_)
                  obtain ⟨z0, z1⟩ := box_two KX.out.2.2
                  have y0 := kp_froz KX.out 0
                  have y1 := kp_froz KX.out 1
                  go_simp
                  have g6 := (set_grown w_4 NX 0 (.slice AX1 kx1 cx1)).trans (set_grown _ NX 1 (.bool vx1))
                  have nz := no_int2 (fun _ h => by cases h) (fun _ h => by cases h) KX.out.2.2
                  replace KK := hid (KK.out.gr g6 HM4.out DKX.out)
                  replace KY := hid (kp_gr KY.out g6 (by have := DXY.out; omega) (by have := HM4.out; have := DKX.out; omega))
                  replace RX0 := hid (RX0.out.offd g6 nz PX0.out)
                  replace RY0 := hid (RY0.out.offd g6 nz PY0.out)
                  replace RX1 := hid (RX1.out.offd g6 nz PX1.out)
                  replace RY1 := hid (RY1.out.offd g6 nz PY1.out)
                  replace KX := hid (kp_set2 (.slice AX1 kx1 cx1) (.bool vx1) KX.out)
                  refine hK.out _ _ (KS.out _ KK.out) (fun hHeld2 => ?_)
                  clear hK K hHeld; have hHeld := hHeld2; clear hHeld2
                  clear g6 nz z0 z1 y0 y1
                  generalize ((w_4.setCell ⟨NX, 0, none⟩ (.slice AX1 kx1 cx1)).setCell ⟨NX, 1, none⟩ (.bool vx1)) = w_5 at KK KX KY RX0 RY0 RX1 RY1 hHeld ⊢
                  try simp only [Act.put, List.setIfInBounds_toArray, List.set_cons_zero, List.set_cons_succ]
                  refine rd1 21 (fun K hK => ?_)
                  obtain ⟨z0, z1⟩ := box_two KY.out.2.2
                  have y0 := kp_froz KY.out 0
                  have y1 := kp_froz KY.out 1
                  go_simp
                  have g6 := (set_grown w_5 NY 0 (.slice AY1 ky1 cy1)).trans (set_grown _ NY 1 (.bool vy1))
                  have nz := no_int2 (fun _ h => by cases h) (fun _ h => by cases h) KY.out.2.2
                  replace KK := hid (KK.out.gr g6 HM4.out DKY.out)
                  replace KX := hid (kp_gr KX.out g6 (by have := DXY.out; omega) (by have := HM4.out; have := DKY.out; omega))
                  replace RX0 := hid (RX0.out.offd g6 nz PX0.out)
                  replace RY0 := hid (RY0.out.offd g6 nz PY0.out)
                  replace RX1 := hid (RX1.out.offd g6 nz PX1.out)
                  replace RY1 := hid (RY1.out.offd g6 nz PY1.out)
                  replace KY := hid (kp_set2 (.slice AY1 ky1 cy1) (.bool vy1) KY.out)
                  refine hK.out _ _ (KS.out _ KK.out) (fun hHeld2 => ?_)
                  clear hK K hHeld; have hHeld := hHeld2; clear hHeld2
                  clear g6 nz z0 z1 y0 y1
                  generalize ((w_5.setCell ⟨NY, 0, none⟩ (.slice AY1 ky1 cy1)).setCell ⟨NY, 1, none⟩ (.bool vy1)) = w_6 at KK KX KY RX0 RY0 RX1 RY1 hHeld ⊢
                  try simp only [Act.put, List.setIfInBounds_toArray, List.set_cons_zero, List.set_cons_succ]
                  refine wpAnyH_done (by kernel_rfl) ?_ _
                  refine NoPanic.normal ?_
                  try go_wp2_with fail
                  go_meet
                  exact ⟨NX, NY, AX1, cx1, AY1, cy1, rfl, rfl, hid KK.out.1, hid KK.out.2.1, hid KK.out.2.2.1, hid KK.out.2.2.2.1, hid KK.out.2.2.2.2, KX, KY, RX0, RY0, RX1, RY1, DKX, DKY⟩
                · go_simp
                  have KY : Hid (Kp w (w_2.alloc (.cells #[.slice none 0 0, .bool false] 130)) w_2.heap.size (.cells #[.slice none 0 0, .bool false] 130)) := hid (kp_new2 KK.out.1.1 _ _ rfl)
                  have l1 := heap_lt KK.out.2.2.2.2.2.2
                  have l3 := heap_lt KX.out.2.2
                  replace KK := hid (KK.out.step (b1alloc _ (.cells #[.slice none 0 0, .bool false] 130)))
                  replace KX := hid (kp_alloc KX.out (.cells #[.slice none 0 0, .bool false] 130))
                  replace RX0 := hid (RX0.out.below (b1alloc w_2 (.cells #[.slice none 0 0, .bool false] 130)))
                  replace RY0 := hid (RY0.out.below (b1alloc w_2 (.cells #[.slice none 0 0, .bool false] 130)))
                  replace RX1 := hid (RX1.out.below (b1alloc w_2 (.cells #[.slice none 0 0, .bool false] 130)))
                  refine hK.out _ _ (KS.out _ KK.out) (fun hHeld2 => ?_)
                  clear hK K hHeld; have hHeld := hHeld2; clear hHeld2
                  have DKY := hid l1
                  have DXY := hid l3
                  clear l1 l3
                  generalize w_2.alloc (.cells #[.slice none 0 0, .bool false] 130) = w_3 at KK KX KY RX0 RY0 RX1 hHeld ⊢
                  generalize w_2.heap.size = NY at KY DKY DXY ⊢
                  try simp only [Act.put, List.setIfInBounds_toArray, List.set_cons_zero, List.set_cons_succ]
                  refine rd1 17 (fun K hK => ?_)
                  go_simp
                  go_at_call 67; refine (CY1.out _ KK.out.1.1).mono ?_; rintro e w_4 ⟨⟨AY1, cy1, rfl, hr⟩, hb⟩
                  replace KK := hid (KK.out.step hb)
                  replace KX := hid (KX.out.step hb)
                  replace KY := hid (KY.out.step hb)
                  replace RX0 := hid (RX0.out.below hb)
                  replace RY0 := hid (RY0.out.below hb)
                  replace RX1 := hid (RX1.out.below hb)
                  have RY1 := hid hr
                  refine hK.out _ _ (KS.out _ KK.out) (fun hHeld2 => ?_)
                  clear hK K hHeld; have hHeld := hHeld2; clear hHeld2
                  clear hr hb
                  try simp only [Act.put, List.setIfInBounds_toArray, List.set_cons_zero, List.set_cons_succ]
                  refine rd1 20 (fun K hK => ?_)
                  obtain ⟨z0, z1⟩ := box_two KX.out.2.2
                  have y0 := kp_froz KX.out 0
                  have y1 := kp_froz KX.out 1
                  go_simp
                  have g6 := (set_grown w_4 NX 0 (.slice AX1 kx1 cx1)).trans (set_grown _ NX 1 (.bool vx1))
                  have nz := no_int2 (fun _ h => by cases h) (fun _ h => by cases h) KX.out.2.2
                  replace KK := hid (KK.out.gr g6 HM4.out DKX.out)
                  replace KY := hid (kp_gr KY.out g6 (by have := DXY.out; omega) (by have := HM4.out; have := DKX.out; omega))
                  replace RX0 := hid (RX0.out.offd g6 nz PX0.out)
                  replace RY0 := hid (RY0.out.offd g6 nz PY0.out)
                  replace RX1 := hid (RX1.out.offd g6 nz PX1.out)
                  replace RY1 := hid (RY1.out.offd g6 nz PY1.out)
                  replace KX := hid (kp_set2 (.slice AX1 kx1 cx1) (.bool vx1) KX.out)
                  refine hK.out _ _ (KS.out _ KK.out) (fun hHeld2 => ?_)
                  clear hK K hHeld; have hHeld := hHeld2; clear hHeld2
                  clear g6 nz z0 z1 y0 y1
                  generalize ((w_4.setCell ⟨NX, 0, none⟩ (.slice AX1 kx1 cx1)).setCell ⟨NX, 1, none⟩ (.bool vx1)) = w_5 at KK KX KY RX0 RY0 RX1 RY1 hHeld ⊢
                  try simp only [Act.put, List.setIfInBounds_toArray, List.set_cons_zero, List.set_cons_succ]
                  refine rd1 21 (fun K hK => ?_)
                  obtain ⟨z0, z1⟩ := box_two KY.out.2.2
                  have y0 := kp_froz KY.out 0
                  have y1 := kp_froz KY.out 1
                  go_simp
                  have g6 := (set_grown w_5 NY 0 (.slice AY1 ky1 cy1)).trans (set_grown _ NY 1 (.bool vy1))
                  have nz := no_int2 (fun _ h => by cases h) (fun _ h => by cases h) KY.out.2.2
                  replace KK := hid (KK.out.gr g6 HM4.out DKY.out)
                  replace KX := hid (kp_gr KX.out g6 (by have := DXY.out; omega) (by have := HM4.out; have := DKY.out; omega))
                  replace RX0 := hid (RX0.out.offd g6 nz PX0.out)
                  replace RY0 := hid (RY0.out.offd g6 nz PY0.out)
                  replace RX1 := hid (RX1.out.offd g6 nz PX1.out)
                  replace RY1 := hid (RY1.out.offd g6 nz PY1.out)
                  replace KY := hid (kp_set2 (.slice AY1 ky1 cy1) (.bool vy1) KY.out)
                  refine hK.out _ _ (KS.out _ KK.out) (fun hHeld2 => ?_)
                  clear hK K hHeld; have hHeld := hHeld2; clear hHeld2
                  clear g6 nz z0 z1 y0 y1
                  generalize ((w_5.setCell ⟨NY, 0, none⟩ (.slice AY1 ky1 cy1)).setCell ⟨NY, 1, none⟩ (.bool vy1)) = w_6 at KK KX KY RX0 RY0 RX1 RY1 hHeld ⊢
                  try simp only [Act.put, List.setIfInBounds_toArray, List.set_cons_zero, List.set_cons_succ]
                  refine wpAnyH_done (by kernel_rfl) ?_ _
                  refine NoPanic.normal ?_
                  try go_wp2_with fail
                  go_meet
                  exact ⟨NX, NY, AX1, cx1, AY1, cy1, rfl, rfl, hid KK.out.1, hid KK.out.2.1, hid KK.out.2.2.1, hid KK.out.2.2.2.1, hid KK.out.2.2.2.2, KX, KY, RX0, RY0, RX1, RY1, DKX, DKY⟩
              · go_simp
                have KY : Hid (Kp w (w_1.alloc (.cells #[.slice none 0 0, .bool false] 130)) w_1.heap.size (.cells #[.slice none 0 0, .bool false] 130)) := hid (kp_new2 KK.out.1.1 _ _ rfl)
                have l1 := heap_lt KK.out.2.2.2.2.2.2
                replace KK := hid (KK.out.step (b1alloc _ (.cells #[.slice none 0 0, .bool false] 130)))
                replace RX0 := hid (RX0.out.below (b1alloc w_1 (.cells #[.slice none 0 0, .bool false] 130)))
                replace RY0 := hid (RY0.out.below (b1alloc w_1 (.cells #[.slice none 0 0, .bool false] 130)))
                replace RX1 := hid (RX1.out.below (b1alloc w_1 (.cells #[.slice none 0 0, .bool false] 130)))
                refine hK.out _ _ (KS.out _ KK.out) (fun hHeld2 => ?_)
                clear hK K hHeld; have hHeld := hHeld2; clear hHeld2
                have DKY := hid l1
                clear l1
                generalize w_1.alloc (.cells #[.slice none 0 0, .bool false] 130) = w_2 at KK KY RX0 RY0 RX1 hHeld ⊢
                generalize w_1.heap.size = NY at KY DKY ⊢
                try simp only [Act.put, List.setIfInBounds_toArray, List.set_cons_zero, List.set_cons_succ]
                refine wpAnyH_ready (rs := [17, 18]) (by kernel_rfl) (by simp) ?_
                refine (rdc (fun K hK => ?_) (rdc (fun K hK => ?_) AllReadyH.nil))
                · go_simp
                  go_at_call 67; refine (CY1.out _ KK.out.1.1).mono ?_; rintro e w_3 ⟨⟨AY1, cy1, rfl, hr⟩, hb⟩
                  replace KK := hid (KK.out.step hb)
                  replace KY := hid (KY.out.step hb)
                  replace RX0 := hid (RX0.out.below hb)
                  replace RY0 := hid (RY0.out.below hb)
                  replace RX1 := hid (RX1.out.below hb)
                  have RY1 := hid hr
                  refine hK.out _ _ (KS.out _ KK.out) (fun hHeld2 => ?_)
                  clear hK K hHeld; have hHeld := hHeld2; clear hHeld2
                  clear hr hb
                  try simp only [Act.put, List.setIfInBounds_toArray, List.set_cons_zero, List.set_cons_succ]
                  refine rd1 18 (fun K hK => ?_)
                  go_simp
                  have KX : Hid (Kp w (w_3.alloc (.cells #[.slice none 0 0, .bool false] 130)) w_3.heap.size (.cells #[.slice none 0 0, .bool false] 130)) := hid (kp_new2 KK.out.1.1 _ _ rfl)
                  have l1 := heap_lt KK.out.2.2.2.2.2.2
                  have l3 := heap_lt KY.out.2.2
                  replace KK := hid (KK.out.step (b1alloc _ (.cells #[.slice none 0 0, .bool false] 130)))
                  replace KY := hid (kp_alloc KY.out (.cells #[.slice none 0 0, .bool false] 130))
                  replace RX0 := hid (RX0.out.below (b1alloc w_3 (.cells #[.slice none 0 0, .bool false] 130)))
                  replace RY0 := hid (RY0.out.below (b1alloc w_3 (.cells #[.slice none 0 0, .bool false] 130)))
                  replace RX1 := hid (RX1.out.below (b1alloc w_3 (.cells #[.slice none 0 0, .bool false] 130)))
                  replace RY1 := hid (RY1.out.below (b1alloc w_3 (.cells #[.slice none 0 0, .bool false] 130)))
                  refine hK.out _ _ (KS.out _ KK.out) (fun hHeld2 => ?_)
                  clear hK K hHeld; have hHeld := hHeld2; clear hHeld2
                  have DKX := hid l1
                  have DXY := hid l3
                  clear l1 l3
                  generalize w_3.alloc (.cells #[.slice none 0 0, .bool false] 130) = w_4 at KK KY KX RX0 RY0 RX1 RY1 hHeld ⊢
                  generalize w_3.heap.size = NX at KX DKX DXY ⊢
                  try simp only [Act.put, List.setIfInBounds_toArray, List.set_cons_zero, List.set_cons_succ]
                  refine rd1 20 (fun K hK => ?_)
                  obtain ⟨z0, z1⟩ := box_two KX.out.2.2
                  have y0 := kp_froz KX.out 0
                  have y1 := kp_froz KX.out 1
                  go_simp
                  have g6 := (set_grown w_4 NX 0 (.slice AX1 kx1 cx1)).trans (set_grown _ NX 1 (.bool vx1))
                  have nz := no_int2 (fun _ h => by cases h) (fun _ h => by cases h) KX.out.2.2
                  replace KK := hid (KK.out.gr g6 HM4.out DKX.out)
                  replace KY := hid (kp_gr KY.out g6 (by have := DXY.out; omega) (by have := HM4.out; have := DKX.out; omega))
                  replace RX0 := hid (RX0.out.offd g6 nz PX0.out)
                  replace RY0 := hid (RY0.out.offd g6 nz PY0.out)
                  replace RX1 := hid (RX1.out.offd g6 nz PX1.out)
                  replace RY1 := hid (RY1.out.offd g6 nz PY1.out)
                  replace KX := hid (kp_set2 (.slice AX1 kx1 cx1) (.bool vx1) KX.out)
                  refine hK.out _ _ (KS.out _ KK.out) (fun hHeld2 => ?_)
                  clear hK K hHeld; have hHeld := hHeld2; clear hHeld2
                  clear g6 nz z0 z1 y0 y1
                  generalize ((w_4.setCell ⟨NX, 0, none⟩ (.slice AX1 kx1 cx1)).setCell ⟨NX, 1, none⟩ (.bool vx1)) = w_5 at KK KX KY RX0 RY0 RX1 RY1 hHeld ⊢
                  try simp only [Act.put, List.setIfInBounds_toArray, List.set_cons_zero, List.set_cons_succ]
                  refine rd1 21 (fun K hK => ?_)
                  obtain ⟨z0, z1⟩ := box_two KY.out.2.2
                  have y0 := kp_froz KY.out 0
                  have y1 := kp_froz KY.out 1
                  go_simp
                  have g6 := (set_grown w_5 NY 0 (.slice AY1 ky1 cy1)).trans (set_grown _ NY 1 (.bool vy1))
                  have nz := no_int2 (fun _ h => by cases h) (fun _ h => by cases h) KY.out.2.2
                  replace KK := hid (KK.out.gr g6 HM4.out DKY.out)
                  replace KX := hid (kp_gr KX.out g6 (by have := DXY.out; omega) (by have := HM4.out; have := DKY.out; omega))
                  replace RX0 := hid (RX0.out.offd g6 nz PX0.out)
                  replace RY0 := hid (RY0.out.offd g6 nz PY0.out)
                  replace RX1 := hid (RX1.out.offd g6 nz PX1.out)
                  replace RY1 := hid (RY1.out.offd g6 nz PY1.out)
                  replace KY := hid (kp_set2 (.slice AY1 ky1 cy1) (.bool vy1) KY.out)
                  refine hK.out _ _ (KS.out _ KK.out) (fun hHeld2 => ?_)
                  clear hK K hHeld; have hHeld := hHeld2; clear hHeld2
                  clear g6 nz z0 z1 y0 y1
                  generalize ((w_5.setCell ⟨NY, 0, none⟩ (.slice AY1 ky1 cy1)).setCell ⟨NY, 1, none⟩ (.bool vy1)) = w_6 at KK KX KY RX0 RY0 RX1 RY1 hHeld ⊢
                  try simp only [Act.put, List.setIfInBounds_toArray, List.set_cons_zero, List.set_cons_succ]
                  refine wpAnyH_done (by kernel_rfl) ?_ _
                  refine NoPanic.normal ?_
                  try go_wp2_with fail
                  go_meet
                  exact ⟨NX, NY, AX1, cx1, AY1, cy1, rfl, rfl, hid KK.out.1, hid KK.out.2.1, hid KK.out.2.2.1, hid KK.out.2.2.2.1, hid KK.out.2.2.2.2, KX, KY, RX0, RY0, RX1, RY1, DKX, DKY⟩
                · go_simp
                  have KX : Hid (Kp w (w_2.alloc (.cells #[.slice none 0 0, .bool false] 130)) w_2.heap.size (.cells #[.slice none 0 0, .bool false] 130)) := hid (kp_new2 KK.out.1.1 _ _ rfl)
                  have l1 := heap_lt KK.out.2.2.2.2.2.2
                  have l3 := heap_lt KY.out.2.2
                  replace KK := hid (KK.out.step (b1alloc _ (.cells #[.slice none 0 0, .bool false] 130)))
                  replace KY := hid (kp_alloc KY.out (.cells #[.slice none 0 0, .bool false] 130))
                  replace RX0 := hid (RX0.out.below (b1alloc w_2 (.cells #[.slice none 0 0, .bool false] 130)))
                  replace RY0 := hid (RY0.out.below (b1alloc w_2 (.cells #[.slice none 0 0, .bool false] 130)))
                  replace RX1 := hid (RX1.out.below (b1alloc w_2 (.cells #[.slice none 0 0, .bool false] 130)))
                  refine hK.out _ _ (KS.out _ KK.out) (fun hHeld2 => ?_)
                  clear hK K hHeld; have hHeld := hHeld2; clear hHeld2
                  have DKX := hid l1
                  have DXY := hid l3
                  clear l1 l3
                  generalize w_2.alloc (.cells #[.slice none 0 0, .bool false] 130) = w_3 at KK KY KX RX0 RY0 RX1 hHeld ⊢
                  generalize w_2.heap.size = NX at KX DKX DXY ⊢
                  try simp only [Act.put, List.setIfInBounds_toArray, List.set_cons_zero, List.set_cons_succ]
                  refine rd1 17 (fun K hK => ?_)
                  go_simp
                  go_at_call 67; refine (CY1.out _ KK.out.1.1).mono ?_; rintro e w_4 ⟨⟨AY1, cy1, rfl, hr⟩, hb⟩
                  replace KK := hid (KK.out.step hb)
                  replace KX := hid (KX.out.step hb)
                  replace KY := hid (KY.out.step hb)
                  replace RX0 := hid (RX0.out.below hb)
                  replace RY0 := hid (RY0.out.below hb)
                  replace RX1 := hid (RX1.out.below hb)
                  have RY1 := hid hr
                  refine hK.out _ _ (KS.out _ KK.out) (fun hHeld2 => ?_)
                  clear hK K hHeld; have hHeld := hHeld2; clear hHeld2
                  clear hr hb
                  try simp only [Act.put, List.setIfInBounds_toArray, List.set_cons_zero, List.set_cons_succ]
                  refine rd1 20 (fun K hK => ?_)
                  obtain ⟨z0, z1⟩ := box_two KX.out.2.2
                  have y0 := kp_froz KX.out 0
                  have y1 := kp_froz KX.out 1
                  go_simp
                  have g6 := (set_grown w_4 NX 0 (.slice AX1 kx1 cx1)).trans (set_grown _ NX 1 (.bool vx1))
                  have nz := no_int2 (fun _ h => by cases h) (fun _ h => by cases h) KX.out.2.2
                  replace KK := hid (KK.out.gr g6 HM4.out DKX.out)
                  replace KY := hid (kp_gr KY.out g6 (by have := DXY.out; omega) (by have := HM4.out; have := DKX.out; omega))
                  replace RX0 := hid (RX0.out.offd g6 nz PX0.out)
                  replace RY0 := hid (RY0.out.offd g6 nz PY0.out)
                  replace RX1 := hid (RX1.out.offd g6 nz PX1.out)
                  replace RY1 := hid (RY1.out.offd g6 nz PY1.out)
                  replace KX := hid (kp_set2 (.slice AX1 kx1 cx1) (.bool vx1) KX.out)
                  refine hK.out _ _ (KS.out _ KK.out) (fun hHeld2 => ?_)
                  clear hK K hHeld; have hHeld := hHeld2; clear hHeld2
                  clear g6 nz z0 z1 y0 y1
                  generalize ((w_4.setCell ⟨NX, 0, none⟩ (.slice AX1 kx1 cx1)).setCell ⟨NX, 1, none⟩ (.bool vx1)) = w_5 at KK KX KY RX0 RY0 RX1 RY1 hHeld ⊢
                  try simp only [Act.put, List.setIfInBounds_toArray, List.set_cons_zero, List.set_cons_succ]
                  refine rd1 21 (fun K hK => ?_)
                  obtain ⟨z0, z1⟩ := box_two KY.out.2.2
                  have y0 := kp_froz KY.out 0
                  have y1 := kp_froz KY.out 1
                  go_simp
                  have g6 := (set_grown w_5 NY 0 (.slice AY1 ky1 cy1)).trans (set_grown _ NY 1 (.bool vy1))
                  have nz := no_int2 (fun _ h => by cases h) (fun _ h => by cases h) KY.out.2.2
                  replace KK := hid (KK.out.gr g6 HM4.out DKY.out)
                  replace KX := hid (kp_gr KX.out g6 (by have := DXY.out; omega) (by have := HM4.out; have := DKY.out; omega))
                  replace RX0 := hid (RX0.out.offd g6 nz PX0.out)
                  replace RY0 := hid (RY0.out.offd g6 nz PY0.out)
                  replace RX1 := hid (RX1.out.offd g6 nz PX1.out)
                  replace RY1 := hid (RY1.out.offd g6 nz PY1.out)
                  replace KY := hid (kp_set2 (.slice AY1 ky1 cy1) (.bool vy1) KY.out)
                  refine hK.out _ _ (KS.out _ KK.out) (fun hHeld2 => ?_)
                  clear hK K hHeld; have hHeld := hHeld2; clear hHeld2
                  clear g6 nz z0 z1 y0 y1
                  generalize ((w_5.setCell ⟨NY, 0, none⟩ (.slice AY1 ky1 cy1)).setCell ⟨NY, 1, none⟩ (.bool vy1)) = w_6 at KK KX KY RX0 RY0 RX1 RY1 hHeld ⊢
                  try simp only [Act.put, List.setIfInBounds_toArray, List.set_cons_zero, List.set_cons_succ]
                  refine wpAnyH_done (by kernel_rfl) ?_ _
                  refine NoPanic.normal ?_
                  try go_wp2_with fail
                  go_meet
                  exact ⟨NX, NY, AX1, cx1, AY1, cy1, rfl, rfl, hid KK.out.1, hid KK.out.2.1, hid KK.out.2.2.1, hid KK.out.2.2.2.1, hid KK.out.2.2.2.2, KX, KY, RX0, RY0, RX1, RY1, DKX, DKY⟩
            · go_simp
              have KX : Hid (Kp w (wd.alloc (.cells #[.slice none 0 0, .bool false] 130)) wd.heap.size (.cells #[.slice none 0 0, .bool false] 130)) := hid (kp_new2 KK.out.1.1 _ _ rfl)
              have l1 := heap_lt KK.out.2.2.2.2.2.2
              replace KK := hid (KK.out.step (b1alloc _ (.cells #[.slice none 0 0, .bool false] 130)))
              replace RX0 := hid (RX0.out.below (b1alloc wd (.cells #[.slice none 0 0, .bool false] 130)))
              replace RY0 := hid (RY0.out.below (b1alloc wd (.cells #[.slice none 0 0, .bool false] 130)))
              refine hK.out _ _ (KS.out _ KK.out) (fun hHeld2 => ?_)
              clear hK K hHeld; have hHeld := hHeld2; clear hHeld2
              have DKX := hid l1
              clear l1
              generalize wd.alloc (.cells #[.slice none 0 0, .bool false] 130) = w_1 at KK KX RX0 RY0 hHeld ⊢
              generalize wd.heap.size = NX at KX DKX ⊢
              try simp only [Act.put, List.setIfInBounds_toArray, List.set_cons_zero, List.set_cons_succ]
              refine wpAnyH_ready (rs := [8, 19]) (by kernel_rfl) (by simp) ?_
              refine (rdc (fun K hK => ?_) (rdc (fun K hK => ?_) AllReadyH.nil))
              · go_simp
                go_at_call 67; refine (CX1.out _ KK.out.1.1).mono ?_; rintro e w_2 ⟨⟨AX1, cx1, rfl, hr⟩, hb⟩
                replace KK := hid (KK.out.step hb)
                replace KX := hid (KX.out.step hb)
                replace RX0 := hid (RX0.out.below hb)
                replace RY0 := hid (RY0.out.below hb)
                have RX1 := hid hr
                refine hK.out _ _ (KS.out _ KK.out) (fun hHeld2 => ?_)
                clear hK K hHeld; have hHeld := hHeld2; clear hHeld2
                clear hr hb
                try simp only [Act.put, List.setIfInBounds_toArray, List.set_cons_zero, List.set_cons_succ]
                refine wpAnyH_ready (rs := [17, 19]) (by kernel_rfl) (by simp) ?_
                refine (rdc (fun K hK => ?_) (rdc (fun K hK => ?_) AllReadyH.nil))
                · go_simp
                  go_at_call 67; refine (CY1.out _ KK.out.1.1).mono ?_; rintro e w_3 ⟨⟨AY1, cy1, rfl, hr⟩, hb⟩
                  replace KK := hid (KK.out.step hb)
                  replace KX := hid (KX.out.step hb)
                  replace RX0 := hid (RX0.out.below hb)
                  replace RY0 := hid (RY0.out.below hb)
                  replace RX1 := hid (RX1.out.below hb)
                  have RY1 := hid hr
                  refine hK.out _ _ (KS.out _ KK.out) (fun hHeld2 => ?_)
                  clear hK K hHeld; have hHeld := hHeld2; clear hHeld2
                  clear hr hb
                  try simp only [Act.put, List.setIfInBounds_toArray, List.set_cons_zero, List.set_cons_succ]
                  refine rd1 19 (fun K hK => ?_)
                  go_simp
                  have KY : Hid (Kp w (w_3.alloc (.cells #[.slice none 0 0, .bool false] 130)) w_3.heap.size (.cells #[.slice none 0 0, .bool false] 130)) := hid (kp_new2 KK.out.1.1 _ _ rfl)
                  have l1 := heap_lt KK.out.2.2.2.2.2.2
                  have l3 := heap_lt KX.out.2.2
                  replace KK := hid (KK.out.step (b1alloc _ (.cells #[.slice none 0 0, .bool false] 130)))
                  replace KX := hid (kp_alloc KX.out (.cells #[.slice none 0 0, .bool false] 130))
                  replace RX0 := hid (RX0.out.below (b1alloc w_3 (.cells #[.slice none 0 0, .bool false] 130)))
                  replace RY0 := hid (RY0.out.below (b1alloc w_3 (.cells #[.slice none 0 0, .bool false] 130)))
                  replace RX1 := hid (RX1.out.below (b1alloc w_3 (.cells #[.slice none 0 0, .bool false] 130)))
                  replace RY1 := hid (RY1.out.below (b1alloc w_3 (.cells #[.slice none 0 0, .bool false] 130)))
                  refine hK.out _ _ (KS.out _ KK.out) (fun hHeld2 => ?_)
                  clear hK K hHeld; have hHeld := hHeld2; clear hHeld2
                  have DKY := hid l1
                  have DXY := hid l3
                  clear l1 l3
                  generalize w_3.alloc (.cells #[.slice none 0 0, .bool false] 130) = w_4 at KK KX KY RX0 RY0 RX1 RY1 hHeld ⊢
                  generalize w_3.heap.size = NY at KY DKY DXY ⊢
                  try simp only [Act.put, List.setIfInBounds_toArray, List.set_cons_zero, List.set_cons_succ]
                  refine rd1 20 (fun K hK => ?_)
                  obtain ⟨z0, z1⟩ := box_two KX.out.2.2
                  have y0 := kp_froz KX.out 0
                  have y1 := kp_froz KX.out 1
                  go_simp
                  have g6 := (set_grown w_4 NX 0 (.slice AX1 kx1 cx1)).trans (set_grown _ NX 1 (.bool vx1))
                  have nz := no_int2 (fun _ h => by cases h) (fun _ h => by cases h) KX.out.2.2
                  replace KK := hid (KK.out.gr g6 HM4.out DKX.out)
                  replace KY := hid (kp_gr KY.out g6 (by have := DXY.out; omega) (by have := HM4.out; have := DKX.out; omega))
                  replace RX0 := hid (RX0.out.offd g6 nz PX0.out)
                  replace RY0 := hid (RY0.out.offd g6 nz PY0.out)
                  replace RX1 := hid (RX1.out.offd g6 nz PX1.out)
                  replace RY1 := hid (RY1.out.offd g6 nz PY1.out)
                  replace KX := hid (kp_set2 (.slice AX1 kx1 cx1) (.bool vx1) KX.out)
                  refine hK.out _ _ (KS.out _ KK.out) (fun hHeld2 => ?_)
                  clear hK K hHeld; have hHeld := hHeld2; clear hHeld2
                  clear g6 nz z0 z1 y0 y1
                  generalize ((w_4.setCell ⟨NX, 0, none⟩ (.slice AX1 kx1 cx1)).setCell ⟨NX, 1, none⟩ (.bool vx1)) = w_5 at KK KX KY RX0 RY0 RX1 RY1 hHeld ⊢
                  try simp only [Act.put, List.setIfInBounds_toArray, List.set_cons_zero, List.set_cons_succ]
                  refine rd1 21 (fun K hK => ?_)
                  obtain ⟨z0, z1⟩ := box_two KY.out.2.2
                  have y0 := kp_froz KY.out 0
                  have y1 := kp_froz KY.out 1
                  go_simp
                  have g6 := (set_grown w_5 NY 0 (.slice AY1 ky1 cy1)).trans (set_grown _ NY 1 (.bool vy1))
                  have nz := no_int2 (fun _ h => by cases h) (fun _ h => by cases h) KY.out.2.2
                  replace KK := hid (KK.out.gr g6 HM4.out DKY.out)
                  replace KX := hid (kp_gr KX.out g6 (by have := DXY.out; omega) (by have := HM4.out; have := DKY.out; omega))
                  replace RX0 := hid (RX0.out.offd g6 nz PX0.out)
                  replace RY0 := hid (RY0.out.offd g6 nz PY0.out)
                  replace RX1 := hid (RX1.out.offd g6 nz PX1.out)
                  replace RY1 := hid (RY1.out.offd g6 nz PY1.out)
                  replace KY := hid (kp_set2 (.slice AY1 ky1 cy1) (.bool vy1) KY.out)
                  refine hK.out _ _ (KS.out _ KK.out) (fun hHeld2 => ?_)
                  clear hK K hHeld; have hHeld := hHeld2; clear hHeld2
                  clear g6 nz z0 z1 y0 y1
                  generalize ((w_5.setCell ⟨NY, 0, none⟩ (.slice AY1 ky1 cy1)).setCell ⟨NY, 1, none⟩ (.bool vy1)) = w_6 at KK KX KY RX0 RY0 RX1 RY1 hHeld ⊢
                  try simp only [Act.put, List.setIfInBounds_toArray, List.set_cons_zero, List.set_cons_succ]
                  refine wpAnyH_done (by kernel_rfl) ?_ _
                  refine NoPanic.normal ?_
                  try go_wp2_with fail
                  go_meet
                  exact ⟨NX, NY, AX1, cx1, AY1, cy1, rfl, rfl, hid KK.out.1, hid KK.out.2.1, hid KK.out.2.2.1, hid KK.out.2.2.2.1, hid KK.out.2.2.2.2, KX, KY, RX0, RY0, RX1, RY1, DKX, DKY⟩
                · go_simp
                  have KY : Hid (Kp w (w_2.alloc (.cells #[.slice none 0 0, .bool false] 130)) w_2.heap.size (.cells #[.slice none 0 0, .bool false] 130)) := hid (kp_new2 KK.out.1.1 _ _ rfl)
                  have l1 := heap_lt KK.out.2.2.2.2.2.2
                  have l3 := heap_lt KX.out.2.2
                  replace KK := hid (KK.out.step (b1alloc _ (.cells #[.slice none 0 0, .bool false] 130)))
                  replace KX := hid (kp_alloc KX.out (.cells #[.slice none 0 0, .bool false] 130))
                  replace RX0 := hid (RX0.out.below (b1alloc w_2 (.cells #[.slice none 0 0, .bool false] 130)))
                  replace RY0 := hid (RY0.out.below (b1alloc w_2 (.cells #[.slice none 0 0, .bool false] 130)))
                  replace RX1 := hid (RX1.out.below (b1alloc w_2 (.cells #[.slice none 0 0, .bool false] 130)))
                  refine hK.out _ _ (KS.out _ KK.out) (fun hHeld2 => ?_)
                  clear hK K hHeld; have hHeld := hHeld2; clear hHeld2
                  have DKY := hid l1
                  have DXY := hid l3
                  clear l1 l3
                  generalize w_2.alloc (.cells #[.slice none 0 0, .bool false] 130) = w_3 at KK KX KY RX0 RY0 RX1 hHeld ⊢
                  generalize w_2.heap.size = NY at KY DKY DXY ⊢
                  try simp only [Act.put, List.setIfInBounds_toArray, List.set_cons_zero, List.set_cons_succ]
                  refine rd1 17 (fun K hK => ?_)
                  go_simp
                  go_at_call 67; refine (CY1.out _ KK.out.1.1).mono ?_; rintro e w_4 ⟨⟨AY1, cy1, rfl, hr⟩, hb⟩
                  replace KK := hid (KK.out.step hb)
                  replace KX := hid (KX.out.step hb)
                  replace KY := hid (KY.out.step hb)
                  replace RX0 := hid (RX0.out.below hb)
                  replace RY0 := hid (RY0.out.below hb)
                  replace RX1 := hid (RX1.out.below hb)
                  have RY1 := hid hr
                  refine hK.out _ _ (KS.out _ KK.out) (fun hHeld2 => ?_)
                  clear hK K hHeld; have hHeld := hHeld2; clear hHeld2
                  clear hr hb
                  try simp only [Act.put, List.setIfInBounds_toArray, List.set_cons_zero, List.set_cons_succ]
                  refine rd1 20 (fun K hK => ?_)
                  obtain ⟨z0, z1⟩ := box_two KX.out.2.2
                  have y0 := kp_froz KX.out 0
                  have y1 := kp_froz KX.out 1
                  go_simp
                  have g6 := (set_grown w_4 NX 0 (.slice AX1 kx1 cx1)).trans (set_grown _ NX 1 (.bool vx1))
                  have nz := no_int2 (fun _ h => by cases h) (fun _ h => by cases h) KX.out.2.2
                  replace KK := hid (KK.out.gr g6 HM4.out DKX.out)
                  replace KY := hid (kp_gr KY.out g6 (by have := DXY.out; omega) (by have := HM4.out; have := DKX.out; omega))
                  replace RX0 := hid (RX0.out.offd g6 nz PX0.out)
                  replace RY0 := hid (RY0.out.offd g6 nz PY0.out)
                  replace RX1 := hid (RX1.out.offd g6 nz PX1.out)
                  replace RY1 := hid (RY1.out.offd g6 nz PY1.out)
                  replace KX := hid (kp_set2 (.slice AX1 kx1 cx1) (.bool vx1) KX.out)
                  refine hK.out _ _ (KS.out _ KK.out) (fun hHeld2 => ?_)
                  clear hK K hHeld; have hHeld := hHeld2; clear hHeld2
                  clear g6 nz z0 z1 y0 y1
                  generalize ((w_4.setCell ⟨NX, 0, none⟩ (.slice AX1 kx1 cx1)).setCell ⟨NX, 1, none⟩ (.bool vx1)) = w_5 at KK KX KY RX0 RY0 RX1 RY1 hHeld ⊢
                  try simp only [Act.put, List.setIfInBounds_toArray, List.set_cons_zero, List.set_cons_succ]
                  refine rd1 21 (fun K hK => ?_)
                  obtain ⟨z0, z1⟩ := box_two KY.out.2.2
                  have y0 := kp_froz KY.out 0
                  have y1 := kp_froz KY.out 1
                  go_simp
                  have g6 := (set_grown w_5 NY 0 (.slice AY1 ky1 cy1)).trans (set_grown _ NY 1 (.bool vy1))
                  have nz := no_int2 (fun _ h => by cases h) (fun _ h => by cases h) KY.out.2.2
                  replace KK := hid (KK.out.gr g6 HM4.out DKY.out)
                  replace KX := hid (kp_gr KX.out g6 (by have := DXY.out; omega) (by have := HM4.out; have := DKY.out; omega))
                  replace RX0 := hid (RX0.out.offd g6 nz PX0.out)
                  replace RY0 := hid (RY0.out.offd g6 nz PY0.out)
                  replace RX1 := hid (RX1.out.offd g6 nz PX1.out)
                  replace RY1 := hid (RY1.out.offd g6 nz PY1.out)
                  replace KY := hid (kp_set2 (.slice AY1 ky1 cy1) (.bool vy1) KY.out)
                  refine hK.out _ _ (KS.out _ KK.out) (fun hHeld2 => ?_)
                  clear hK K hHeld; have hHeld := hHeld2; clear hHeld2
                  clear g6 nz z0 z1 y0 y1
                  generalize ((w_5.setCell ⟨NY, 0, none⟩ (.slice AY1 ky1 cy1)).setCell ⟨NY, 1, none⟩ (.bool vy1)) = w_6 at KK KX KY RX0 RY0 RX1 RY1 hHeld ⊢
                  try simp only [Act.put, List.setIfInBounds_toArray, List.set_cons_zero, List.set_cons_succ]
                  refine wpAnyH_done (by kernel_rfl) ?_ _
                  refine NoPanic.normal ?_
                  try go_wp2_with fail
                  go_meet
                  exact ⟨NX, NY, AX1, cx1, AY1, cy1, rfl, rfl, hid KK.out.1, hid KK.out.2.1, hid KK.out.2.2.1, hid KK.out.2.2.2.1, hid KK.out.2.2.2.2, KX, KY, RX0, RY0, RX1, RY1, DKX, DKY⟩
              · go_simp
                have KY : Hid (Kp w (w_1.alloc (.cells #[.slice none 0 0, .bool false] 130)) w_1.heap.size (.cells #[.slice none 0 0, .bool false] 130)) := hid (kp_new2 KK.out.1.1 _ _ rfl)
                have l1 := heap_lt KK.out.2.2.2.2.2.2
                have l3 := heap_lt KX.out.2.2
                replace KK := hid (KK.out.step (b1alloc _ (.cells #[.slice none 0 0, .bool false] 130)))
                replace KX := hid (kp_alloc KX.out (.cells #[.slice none 0 0, .bool false] 130))
                replace RX0 := hid (RX0.out.below (b1alloc w_1 (.cells #[.slice none 0 0, .bool false] 130)))
                replace RY0 := hid (RY0.out.below (b1alloc w_1 (.cells #[.slice none 0 0, .bool false] 130)))
                refine hK.out _ _ (KS.out _ KK.out) (fun hHeld2 => ?_)
                clear hK K hHeld; have hHeld := hHeld2; clear hHeld2
                have DKY := hid l1
                have DXY := hid l3
                clear l1 l3
                generalize w_1.alloc (.cells #[.slice none 0 0, .bool false] 130) = w_2 at KK KX KY RX0 RY0 hHeld ⊢
                generalize w_1.heap.size = NY at KY DKY DXY ⊢
                try simp only [Act.put, List.setIfInBounds_toArray, List.set_cons_zero, List.set_cons_succ]
                refine rd1 8 (fun K hK => ?_)
                go_simp
                go_at_call 67; refine (CX1.out _ KK.out.1.1).mono ?_; rintro e w_3 ⟨⟨AX1, cx1, rfl, hr⟩, hb⟩
                replace KK := hid (KK.out.step hb)
                replace KX := hid (KX.out.step hb)
                replace KY := hid (KY.out.step hb)
                replace RX0 := hid (RX0.out.below hb)
                replace RY0 := hid (RY0.out.below hb)
                have RX1 := hid hr
                refine hK.out _ _ (KS.out _ KK.out) (fun hHeld2 => ?_)
                clear hK K hHeld; have hHeld := hHeld2; clear hHeld2
                clear hr hb
                try simp only [Act.put, List.setIfInBounds_toArray, List.set_cons_zero, List.set_cons_succ]
                refine rd1 17 (fun K hK => ?_)
                go_simp
                go_at_call 67; refine (CY1.out _ KK.out.1.1).mono ?_; rintro e w_4 ⟨⟨AY1, cy1, rfl, hr⟩, hb⟩
                replace KK := hid (KK.out.step hb)
                replace KX := hid (KX.out.step hb)
                replace KY := hid (KY.out.step hb)
                replace RX0 := hid (RX0.out.below hb)
                replace RY0 := hid (RY0.out.below hb)
                replace RX1 := hid (RX1.out.below hb)
                have RY1 := hid hr
                refine hK.out _ _ (KS.out _ KK.out) (fun hHeld2 => ?_)
                clear hK K hHeld; have hHeld := hHeld2; clear hHeld2
                clear hr hb
                try simp only [Act.put, List.setIfInBounds_toArray, List.set_cons_zero, List.set_cons_succ]
                refine rd1 20 (fun K hK => ?_)
                obtain ⟨z0, z1⟩ := box_two KX.out.2.2
                have y0 := kp_froz KX.out 0
                have y1 := kp_froz KX.out 1
                go_simp
                have g6 := (set_grown w_4 NX 0 (.slice AX1 kx1 cx1)).trans (set_grown _ NX 1 (.bool vx1))
                have nz := no_int2 (fun _ h => by cases h) (fun _ h => by cases h) KX.out.2.2
                replace KK := hid (KK.out.gr g6 HM4.out DKX.out)
                replace KY := hid (kp_gr KY.out g6 (by have := DXY.out; omega) (by have := HM4.out; have := DKX.out; omega))
                replace RX0 := hid (RX0.out.offd g6 nz PX0.out)
                replace RY0 := hid (RY0.out.offd g6 nz PY0.out)
                replace RX1 := hid (RX1.out.offd g6 nz PX1.out)
                replace RY1 := hid (RY1.out.offd g6 nz PY1.out)
                replace KX := hid (kp_set2 (.slice AX1 kx1 cx1) (.bool vx1) KX.out)
                refine hK.out _ _ (KS.out _ KK.out) (fun hHeld2 => ?_)
                clear hK K hHeld; have hHeld := hHeld2; clear hHeld2
                clear g6 nz z0 z1 y0 y1
                generalize ((w_4.setCell ⟨NX, 0, none⟩ (.slice AX1 kx1 cx1)).setCell ⟨NX, 1, none⟩ (.bool vx1)) = w_5 at KK KX KY RX0 RY0 RX1 RY1 hHeld ⊢
                try simp only [Act.put, List.setIfInBounds_toArray, List.set_cons_zero, List.set_cons_succ]
                refine rd1 21 (fun K hK => ?_)
                obtain ⟨z0, z1⟩ := box_two KY.out.2.2
                have y0 := kp_froz KY.out 0
                have y1 := kp_froz KY.out 1
                go_simp
                have g6 := (set_grown w_5 NY 0 (.slice AY1 ky1 cy1)).trans (set_grown _ NY 1 (.bool vy1))
                have nz := no_int2 (fun _ h => by cases h) (fun _ h => by cases h) KY.out.2.2
                replace KK := hid (KK.out.gr g6 HM4.out DKY.out)
                replace KX := hid (kp_gr KX.out g6 (by have := DXY.out; omega) (by have := HM4.out; have := DKY.out; omega))
                replace RX0 := hid (RX0.out.offd g6 nz PX0.out)
                replace RY0 := hid (RY0.out.offd g6 nz PY0.out)
                replace RX1 := hid (RX1.out.offd g6 nz PX1.out)
                replace RY1 := hid (RY1.out.offd g6 nz PY1.out)
                replace KY := hid (kp_set2 (.slice AY1 ky1 cy1) (.bool vy1) KY.out)
                refine hK.out _ _ (KS.out _ KK.out) (fun hHeld2 => ?_)
                clear hK K hHeld; have hHeld := hHeld2; clear hHeld2
                clear g6 nz z0 z1 y0 y1
                generalize ((w_5.setCell ⟨NY, 0, none⟩ (.slice AY1 ky1 cy1)).setCell ⟨NY, 1, none⟩ (.bool vy1)) = w_6 at KK KX KY RX0 RY0 RX1 RY1 hHeld ⊢
                try simp only [Act.put, List.setIfInBounds_toArray, List.set_cons_zero, List.set_cons_succ]
                refine wpAnyH_done (by kernel_rfl) ?_ _
                refine NoPanic.normal ?_
                try go_wp2_with fail
                go_meet
                exact ⟨NX, NY, AX1, cx1, AY1, cy1, rfl, rfl, hid KK.out.1, hid KK.out.2.1, hid KK.out.2.2.1, hid KK.out.2.2.2.1, hid KK.out.2.2.2.2, KX, KY, RX0, RY0, RX1, RY1, DKX, DKY⟩
            · go_simp
              have KY : Hid (Kp w (wd.alloc (.cells #[.slice none 0 0, .bool false] 130)) wd.heap.size (.cells #[.slice none 0 0, .bool false] 130)) := hid (kp_new2 KK.out.1.1 _ _ rfl)
              have l1 := heap_lt KK.out.2.2.2.2.2.2
              replace KK := hid (KK.out.step (b1alloc _ (.cells #[.slice none 0 0, .bool false] 130)))
              replace RX0 := hid (RX0.out.below (b1alloc wd (.cells #[.slice none 0 0, .bool false] 130)))
              replace RY0 := hid (RY0.out.below (b1alloc wd (.cells #[.slice none 0 0, .bool false] 130)))
              refine hK.out _ _ (KS.out _ KK.out) (fun hHeld2 => ?_)
              clear hK K hHeld; have hHeld := hHeld2; clear hHeld2
              have DKY := hid l1
              clear l1
              generalize wd.alloc (.cells #[.slice none 0 0, .bool false] 130) = w_1 at KK KY RX0 RY0 hHeld ⊢
              generalize wd.heap.size = NY at KY DKY ⊢
              try simp only [Act.put, List.setIfInBounds_toArray, List.set_cons_zero, List.set_cons_succ]
              refine wpAnyH_ready (rs := [8, 18]) (by kernel_rfl) (by simp) ?_
              refine (rdc (fun K hK => ?_) (rdc (fun K hK => ?_) AllReadyH.nil))
              · go_simp
                go_at_call 67; refine (CX1.out _ KK.out.1.1).mono ?_; rintro e w_2 ⟨⟨AX1, cx1, rfl, hr⟩, hb⟩
                replace KK := hid (KK.out.step hb)
                replace KY := hid (KY.out.step hb)
                replace RX0 := hid (RX0.out.below hb)
                replace RY0 := hid (RY0.out.below hb)
                have RX1 := hid hr
                refine hK.out _ _ (KS.out _ KK.out) (fun hHeld2 => ?_)
                clear hK K hHeld; have hHeld := hHeld2; clear hHeld2
                clear hr hb
                try simp only [Act.put, List.setIfInBounds_toArray, List.set_cons_zero, List.set_cons_succ]
                refine wpAnyH_ready (rs := [17, 18]) (by kernel_rfl) (by simp) ?_
                refine (rdc (fun K hK => ?_) (rdc (fun K hK => ?_) AllReadyH.nil))
                · go_simp
                  go_at_call 67; refine (CY1.out _ KK.out.1.1).mono ?_; rintro e w_3 ⟨⟨AY1, cy1, rfl, hr⟩, hb⟩
                  replace KK := hid (KK.out.step hb)
                  replace KY := hid (KY.out.step hb)
                  replace RX0 := hid (RX0.out.below hb)
                  replace RY0 := hid (RY0.out.below hb)
                  replace RX1 := hid (RX1.out.below hb)
                  have RY1 := hid hr
                  refine hK.out _ _ (KS.out _ KK.out) (fun hHeld2 => ?_)
                  clear hK K hHeld; have hHeld := hHeld2; clear hHeld2
                  clear hr hb
                  try simp only [Act.put, List.setIfInBounds_toArray, List.set_cons_zero, List.set_cons_succ]
                  refine rd1 18 (fun K hK => ?_)
                  go_simp
                  have KX : Hid (Kp w (w_3.alloc (.cells #[.slice none 0 0, .bool false] 130)) w_3.heap.size (.cells #[.slice none 0 0, .bool false] 130)) := hid (kp_new2 KK.out.1.1 _ _ rfl)
                  have l1 := heap_lt KK.out.2.2.2.2.2.2
                  have l3 := heap_lt KY.out.2.2
                  replace KK := hid (KK.out.step (b1alloc _ (.cells #[.slice none 0 0, .bool false] 130)))
                  replace KY := hid (kp_alloc KY.out (.cells #[.slice none 0 0, .bool false] 130))
                  replace RX0 := hid (RX0.out.below (b1alloc w_3 (.cells #[.slice none 0 0, .bool false] 130)))
                  replace RY0 := hid (RY0.out.below (b1alloc w_3 (.cells #[.slice none 0 0, .bool false] 130)))
                  replace RX1 := hid (RX1.out.below (b1alloc w_3 (.cells #[.slice none 0 0, .bool false] 130)))
                  replace RY1 := hid (RY1.out.below (b1alloc w_3 (.cells #[.slice none 0 0, .bool false] 130)))
                  refine hK.out _ _ (KS.out _ KK.out) (fun hHeld2 => ?_)
                  clear hK K hHeld; have hHeld := hHeld2; clear hHeld2
                  have DKX := hid l1
                  have DXY := hid l3
                  clear l1 l3
                  generalize w_3.alloc (.cells #[.slice none 0 0, .bool false] 130) = w_4 at KK KY KX RX0 RY0 RX1 RY1 hHeld ⊢
                  generalize w_3.heap.size = NX at KX DKX DXY ⊢
                  try simp only [Act.put, List.setIfInBounds_toArray, List.set_cons_zero, List.set_cons_succ]
                  refine rd1 20 (fun K hK => ?_)
                  obtain ⟨z0, z1⟩ := box_two KX.out.2.2
                  have y0 := kp_froz KX.out 0
                  have y1 := kp_froz KX.out 1
                  go_simp
                  have g6 := (set_grown w_4 NX 0 (.slice AX1 kx1 cx1)).trans (set_grown _ NX 1 (.bool vx1))
                  have nz := no_int2 (fun _ h => by cases h) (fun _ h => by cases h) KX.out.2.2
                  replace KK := hid (KK.out.gr g6 HM4.out DKX.out)
                  replace KY := hid (kp_gr KY.out g6 (by have := DXY.out; omega) (by have := HM4.out; have := DKX.out; omega))
                  replace RX0 := hid (RX0.out.offd g6 nz PX0.out)
                  replace RY0 := hid (RY0.out.offd g6 nz PY0.out)
                  replace RX1 := hid (RX1.out.offd g6 nz PX1.out)
                  replace RY1 := hid (RY1.out.offd g6 nz PY1.out)
                  replace KX := hid (kp_set2 (.slice AX1 kx1 cx1) (.bool vx1) KX.out)
                  refine hK.out _ _ (KS.out _ KK.out) (fun hHeld2 => ?_)
                  clear hK K hHeld; have hHeld := hHeld2; clear hHeld2
                  clear g6 nz z0 z1 y0 y1
                  generalize ((w_4.setCell ⟨NX, 0, none⟩ (.slice AX1 kx1 cx1)).setCell ⟨NX, 1, none⟩ (.bool vx1)) = w_5 at KK KX KY RX0 RY0 RX1 RY1 hHeld ⊢
                  try simp only [Act.put, List.setIfInBounds_toArray, List.set_cons_zero, List.set_cons_succ]
                  refine rd1 21 (fun K hK => ?_)
                  obtain ⟨z0, z1⟩ := box_two KY.out.2.2
                  have y0 := kp_froz KY.out 0
                  have y1 := kp_froz KY.out 1
                  go_simp
                  have g6 := (set_grown w_5 NY 0 (.slice AY1 ky1 cy1)).trans (set_grown _ NY 1 (.bool vy1))
                  have nz := no_int2 (fun _ h => by cases h) (fun _ h => by cases h) KY.out.2.2
                  replace KK := hid (KK.out.gr g6 HM4.out DKY.out)
                  replace KX := hid (kp_gr KX.out g6 (by have := DXY.out; omega) (by have := HM4.out; have := DKY.out; omega))
                  replace RX0 := hid (RX0.out.offd g6 nz PX0.out)
                  replace RY0 := hid (RY0.out.offd g6 nz PY0.out)
                  replace RX1 := hid (RX1.out.offd g6 nz PX1.out)
                  replace RY1 := hid (RY1.out.offd g6 nz PY1.out)
                  replace KY := hid (kp_set2 (.slice AY1 ky1 cy1) (.bool vy1) KY.out)
                  refine hK.out _ _ (KS.out _ KK.out) (fun hHeld2 => ?_)
                  clear hK K hHeld; have hHeld := hHeld2; clear hHeld2
                  clear g6 nz z0 z1 y0 y1
                  generalize ((w_5.setCell ⟨NY, 0, none⟩ (.slice AY1 ky1 cy1)).setCell ⟨NY, 1, none⟩ (.bool vy1)) = w_6 at KK KX KY RX0 RY0 RX1 RY1 hHeld ⊢
                  try simp only [Act.put, List.setIfInBounds_toArray, List.set_cons_zero, List.set_cons_succ]
                  refine wpAnyH_done (by kernel_rfl) ?_ _
                  refine NoPanic.normal ?_
                  try go_wp2_with fail
                  go_meet
                  exact ⟨NX, NY, AX1, cx1, AY1, cy1, rfl, rfl, hid KK.out.1, hid KK.out.2.1, hid KK.out.2.2.1, hid KK.out.2.2.2.1, hid KK.out.2.2.2.2, KX, KY, RX0, RY0, RX1, RY1, DKX, DKY⟩
                · go_simp
                  have KX : Hid (Kp w (w_2.alloc (.cells #[.slice none 0 0, .bool false] 130)) w_2.heap.size (.cells #[.slice none 0 0, .bool false] 130)) := hid (kp_new2 KK.out.1.1 _ _ rfl)
                  have l1 := heap_lt KK.out.2.2.2.2.2.2
                  have l3 := heap_lt KY.out.2.2
                  replace KK := hid (KK.out.step (b1alloc _ (.cells #[.slice none 0 0, .bool false] 130)))
                  replace KY := hid (kp_alloc KY.out (.cells #[.slice none 0 0, .bool false] 130))
                  replace RX0 := hid (RX0.out.below (b1alloc w_2 (.cells #[.slice none 0 0, .bool false] 130)))
                  replace RY0 := hid (RY0.out.below (b1alloc w_2 (.cells #[.slice none 0 0, .bool false] 130)))
                  replace RX1 := hid (RX1.out.below (b1alloc w_2 (.cells #[.slice none 0 0, .bool false] 130)))
                  refine hK.out _ _ (KS.out _ KK.out) (fun hHeld2 => ?_)
                  clear hK K hHeld; have hHeld := hHeld2; clear hHeld2
                  have DKX := hid l1
                  have DXY := hid l3
                  clear l1 l3
                  generalize w_2.alloc (.cells #[.slice none 0 0, .bool false] 130) = w_3 at KK KY KX RX0 RY0 RX1 hHeld ⊢
                  generalize w_2.heap.size = NX at KX DKX DXY ⊢
                  try simp only [Act.put, List.setIfInBounds_toArray, List.set_cons_zero, List.set_cons_succ]
                  refine rd1 17 (fun K hK => ?_)
                  go_simp
                  go_at_call 67; refine (CY1.out _ KK.out.1.1).mono ?_; rintro e w_4 ⟨⟨AY1, cy1, rfl, hr⟩, hb⟩
                  replace KK := hid (KK.out.step hb)
                  replace KX := hid (KX.out.step hb)
                  replace KY := hid (KY.out.step hb)
                  replace RX0 := hid (RX0.out.below hb)
                  replace RY0 := hid (RY0.out.below hb)
                  replace RX1 := hid (RX1.out.below hb)
                  have RY1 := hid hr
                  refine hK.out _ _ (KS.out _ KK.out) (fun hHeld2 => ?_)
                  clear hK K hHeld; have hHeld := hHeld2; clear hHeld2
                  clear hr hb
                  try simp only [Act.put, List.setIfInBounds_toArray, List.set_cons_zero, List.set_cons_succ]
                  refine rd1 20 (fun K hK => ?_)
                  obtain ⟨z0, z1⟩ := box_two KX.out.2.2
                  have y0 := kp_froz KX.out 0
                  have y1 := kp_froz KX.out 1
                  go_simp
                  have g6 := (set_grown w_4 NX 0 (.slice AX1 kx1 cx1)).trans (set_grown _ NX 1 (.bool vx1))
                  have nz := no_int2 (fun _ h => by cases h) (fun _ h => by cases h) KX.out.2.2
                  replace KK := hid (KK.out.gr g6 HM4.out DKX.out)
                  replace KY := hid (kp_gr KY.out g6 (by have := DXY.out; omega) (by have := HM4.out; have := DKX.out; omega))
                  replace RX0 := hid (RX0.out.offd g6 nz PX0.out)
                  replace RY0 := hid (RY0.out.offd g6 nz PY0.out)
                  replace RX1 := hid (RX1.out.offd g6 nz PX1.out)
                  replace RY1 := hid (RY1.out.offd g6 nz PY1.out)
                  replace KX := hid (kp_set2 (.slice AX1 kx1 cx1) (.bool vx1) KX.out)
                  refine hK.out _ _ (KS.out _ KK.out) (fun hHeld2 => ?_)
                  clear hK K hHeld; have hHeld := hHeld2; clear hHeld2
                  clear g6 nz z0 z1 y0 y1
                  generalize ((w_4.setCell ⟨NX, 0, none⟩ (.slice AX1 kx1 cx1)).setCell ⟨NX, 1, none⟩ (.bool vx1)) = w_5 at KK KX KY RX0 RY0 RX1 RY1 hHeld ⊢
                  try simp only [Act.put, List.setIfInBounds_toArray, List.set_cons_zero, List.set_cons_succ]
                  refine rd1 21 (fun K hK => ?_)
                  obtain ⟨z0, z1⟩ := box_two KY.out.2.2
                  have y0 := kp_froz KY.out 0
                  have y1 := kp_froz KY.out 1
                  go_simp
                  have g6 := (set_grown w_5 NY 0 (.slice AY1 ky1 cy1)).trans (set_grown _ NY 1 (.bool vy1))
                  have nz := no_int2 (fun _ h => by cases h) (fun _ h => by cases h) KY.out.2.2
                  replace KK := hid (KK.out.gr g6 HM4.out DKY.out)
                  replace KX := hid (kp_gr KX.out g6 (by have := DXY.out; omega) (by have := HM4.out; have := DKY.out; omega))
                  replace RX0 := hid (RX0.out.offd g6 nz PX0.out)
                  replace RY0 := hid (RY0.out.offd g6 nz PY0.out)
                  replace RX1 := hid (RX1.out.offd g6 nz PX1.out)
                  replace RY1 := hid (RY1.out.offd g6 nz PY1.out)
                  replace KY := hid (kp_set2 (.slice AY1 ky1 cy1) (.bool vy1) KY.out)
                  refine hK.out _ _ (KS.out _ KK.out) (fun hHeld2 => ?_)
                  clear hK K hHeld; have hHeld := hHeld2; clear hHeld2
                  clear g6 nz z0 z1 y0 y1
                  generalize ((w_5.setCell ⟨NY, 0, none⟩ (.slice AY1 ky1 cy1)).setCell ⟨NY, 1, none⟩ (.bool vy1)) = w_6 at KK KX KY RX0 RY0 RX1 RY1 hHeld ⊢
                  try simp only [Act.put, List.setIfInBounds_toArray, List.set_cons_zero, List.set_cons_succ]
                  refine wpAnyH_done (by kernel_rfl) ?_ _
                  refine NoPanic.normal ?_
                  try go_wp2_with fail
                  go_meet
                  exact ⟨NX, NY, AX1, cx1, AY1, cy1, rfl, rfl, hid KK.out.1, hid KK.out.2.1, hid KK.out.2.2.1, hid KK.out.2.2.2.1, hid KK.out.2.2.2.2, KX, KY, RX0, RY0, RX1, RY1, DKX, DKY⟩
              · go_simp
                have KX : Hid (Kp w (w_1.alloc (.cells #[.slice none 0 0, .bool false] 130)) w_1.heap.size (.cells #[.slice none 0 0, .bool false] 130)) := hid (kp_new2 KK.out.1.1 _ _ rfl)
                have l1 := heap_lt KK.out.2.2.2.2.2.2
                have l3 := heap_lt KY.out.2.2
                replace KK := hid (KK.out.step (b1alloc _ (.cells #[.slice none 0 0, .bool false] 130)))
                replace KY := hid (kp_alloc KY.out (.cells #[.slice none 0 0, .bool false] 130))
                replace RX0 := hid (RX0.out.below (b1alloc w_1 (.cells #[.slice none 0 0, .bool false] 130)))
                replace RY0 := hid (RY0.out.below (b1alloc w_1 (.cells #[.slice none 0 0, .bool false] 130)))
                refine hK.out _ _ (KS.out _ KK.out) (fun hHeld2 => ?_)
                clear hK K hHeld; have hHeld := hHeld2; clear hHeld2
                have DKX := hid l1
                have DXY := hid l3
                clear l1 l3
                generalize w_1.alloc (.cells #[.slice none 0 0, .bool false] 130) = w_2 at KK KY KX RX0 RY0 hHeld ⊢
                generalize w_1.heap.size = NX at KX DKX DXY ⊢
                try simp only [Act.put, List.setIfInBounds_toArray, List.set_cons_zero, List.set_cons_succ]
                refine rd1 8 (fun K hK => ?_)
                go_simp
                go_at_call 67; refine (CX1.out _ KK.out.1.1).mono ?_; rintro e w_3 ⟨⟨AX1, cx1, rfl, hr⟩, hb⟩
                replace KK := hid (KK.out.step hb)
                replace KX := hid (KX.out.step hb)
                replace KY := hid (KY.out.step hb)
                replace RX0 := hid (RX0.out.below hb)
                replace RY0 := hid (RY0.out.below hb)
                have RX1 := hid hr
                refine hK.out _ _ (KS.out _ KK.out) (fun hHeld2 => ?_)
                clear hK K hHeld; have hHeld := hHeld2; clear hHeld2
                clear hr hb
                try simp only [Act.put, List.setIfInBounds_toArray, List.set_cons_zero, List.set_cons_succ]
                refine rd1 17 (fun K hK => ?_)
                go_simp
                go_at_call 67; refine (CY1.out _ KK.out.1.1).mono ?_; rintro e w_4 ⟨⟨AY1, cy1, rfl, hr⟩, hb⟩
                replace KK := hid (KK.out.step hb)
                replace KX := hid (KX.out.step hb)
                replace KY := hid (KY.out.step hb)
                replace RX0 := hid (RX0.out.below hb)
                replace RY0 := hid (RY0.out.below hb)
                replace RX1 := hid (RX1.out.below hb)
                have RY1 := hid hr
                refine hK.out _ _ (KS.out _ KK.out) (fun hHeld2 => ?_)
                clear hK K hHeld; have hHeld := hHeld2; clear hHeld2
                clear hr hb
                try simp only [Act.put, List.setIfInBounds_toArray, List.set_cons_zero, List.set_cons_succ]
                refine rd1 20 (fun K hK => ?_)
                obtain ⟨z0, z1⟩ := box_two KX.out.2.2
                have y0 := kp_froz KX.out 0
                have y1 := kp_froz KX.out 1
                go_simp
                have g6 := (set_grown w_4 NX 0 (.slice AX1 kx1 cx1)).trans (set_grown _ NX 1 (.bool vx1))
                have nz := no_int2 (fun _ h => by cases h) (fun _ h => by cases h) KX.out.2.2
                replace KK := hid (KK.out.gr g6 HM4.out DKX.out)
                replace KY := hid (kp_gr KY.out g6 (by have := DXY.out; omega) (by have := HM4.out; have := DKX.out; omega))
                replace RX0 := hid (RX0.out.offd g6 nz PX0.out)
                replace RY0 := hid (RY0.out.offd g6 nz PY0.out)
                replace RX1 := hid (RX1.out.offd g6 nz PX1.out)
                replace RY1 := hid (RY1.out.offd g6 nz PY1.out)
                replace KX := hid (kp_set2 (.slice AX1 kx1 cx1) (.bool vx1) KX.out)
                refine hK.out _ _ (KS.out _ KK.out) (fun hHeld2 => ?_)
                clear hK K hHeld; have hHeld := hHeld2; clear hHeld2
                clear g6 nz z0 z1 y0 y1
                generalize ((w_4.setCell ⟨NX, 0, none⟩ (.slice AX1 kx1 cx1)).setCell ⟨NX, 1, none⟩ (.bool vx1)) = w_5 at KK KX KY RX0 RY0 RX1 RY1 hHeld ⊢
                try simp only [Act.put, List.setIfInBounds_toArray, List.set_cons_zero, List.set_cons_succ]
                refine rd1 21 (fun K hK => ?_)
                obtain ⟨z0, z1⟩ := box_two KY.out.2.2
                have y0 := kp_froz KY.out 0
                have y1 := kp_froz KY.out 1
                go_simp
                have g6 := (set_grown w_5 NY 0 (.slice AY1 ky1 cy1)).trans (set_grown _ NY 1 (.bool vy1))
                have nz := no_int2 (fun _ h => by cases h) (fun _ h => by cases h) KY.out.2.2
                replace KK := hid (KK.out.gr g6 HM4.out DKY.out)
                replace KX := hid (kp_gr KX.out g6 (by have := DXY.out; omega) (by have := HM4.out; have := DKY.out; omega))
                replace RX0 := hid (RX0.out.offd g6 nz PX0.out)
                replace RY0 := hid (RY0.out.offd g6 nz PY0.out)
                replace RX1 := hid (RX1.out.offd g6 nz PX1.out)
                replace RY1 := hid (RY1.out.offd g6 nz PY1.out)
                replace KY := hid (kp_set2 (.slice AY1 ky1 cy1) (.bool vy1) KY.out)
                refine hK.out _ _ (KS.out _ KK.out) (fun hHeld2 => ?_)
                clear hK K hHeld; have hHeld := hHeld2; clear hHeld2
                clear g6 nz z0 z1 y0 y1
                generalize ((w_5.setCell ⟨NY, 0, none⟩ (.slice AY1 ky1 cy1)).setCell ⟨NY, 1, none⟩ (.bool vy1)) = w_6 at KK KX KY RX0 RY0 RX1 RY1 hHeld ⊢
                try simp only [Act.put, List.setIfInBounds_toArray, List.set_cons_zero, List.set_cons_succ]
                refine wpAnyH_done (by kernel_rfl) ?_ _
                refine NoPanic.normal ?_
                try go_wp2_with fail
                go_meet
                exact ⟨NX, NY, AX1, cx1, AY1, cy1, rfl, rfl, hid KK.out.1, hid KK.out.2.1, hid KK.out.2.2.1, hid KK.out.2.2.2.1, hid KK.out.2.2.2.2, KX, KY, RX0, RY0, RX1, RY1, DKX, DKY⟩
        case rest =>
          obtain ⟨NX, NY, AX1, cx1, AY1, cy1, rfl, rfl, KA, KB, KR, KI, KO, KX, KY, RX0, RY0, RX1, RY1, DKX, DKY⟩ := hcut
          rename World => V1
          obtain ⟨y0, y1⟩ := box_two KX.out.2.2
          obtain ⟨y2, y3⟩ := box_two KY.out.2.2
          cases vx1 with
          | false =>
            have e0 : Hid (djB 2 c d = false) := hid (dj_few (.inr (.inr (.inl (jf BC.out.2.1 BD.out.2.1 Evx1.out)))))
            have HZ := hid (And.intro (hC.out.symm.trans (djC_no e0.out)) (hv.out.symm.trans e0.out))
            go_wp2_with (refine wpList_store_whole rfl 78 (.tmp 6) (.tmp 54) rfl N2 (rdC 0 0 0 none 0 0 none 0 0 none 0 0 none 0 0 false) rfl rfl 78 _ KR.out.2.2 rfl (by show _ = some 8; exact size_rd) (rdC_one _ _ _ _ _ _ _ _ _ _ _ _ _ _ _ _) ?_; intro w9 hp9 hg9; have KR9 := hid (kp_at KR.out hg9 hp9); clear hp9 hg9)
            (try simp only [Exit.inBlock, Exit.then])
            show bodyPost Try.prog Try.f43 _ _ _ _
            refine bodyPost_ret (results_cell_row (p := 6) rfl _ _ N2 _ (rdC 0 0 0 none 0 0 none 0 0 none 0 0 none 0 0 false) (0, 0) _ rfl KR9.out.2.2 Try.underlying78 rfl (by kernel_rfl)) rfl ?_
            obtain ⟨z1, z2⟩ := HZ.out
            subst z1
            subst z2
            exact ⟨⟨none, 0, 0, none, 0, 0, none, 0, 0, none, 0, 0, rfl, dw_0 _, fd_0 _⟩, KR9.out.1⟩
          | true =>
          cases vy1 with
          | false =>
            have e0 : Hid (djB 2 c d = false) := hid (dj_few (.inr (.inr (.inr (jf BC.out.2.2 BD.out.2.2 Evy1.out)))))
            have HZ := hid (And.intro (hC.out.symm.trans (djC_no e0.out)) (hv.out.symm.trans e0.out))
            go_wp2_with (refine wpList_store_whole rfl 78 (.tmp 6) (.tmp 54) rfl N2 (rdC 0 0 0 none 0 0 none 0 0 none 0 0 none 0 0 false) rfl rfl 78 _ KR.out.2.2 rfl (by show _ = some 8; exact size_rd) (rdC_one _ _ _ _ _ _ _ _ _ _ _ _ _ _ _ _) ?_; intro w9 hp9 hg9; have KR9 := hid (kp_at KR.out hg9 hp9); clear hp9 hg9)
            (try simp only [Exit.inBlock, Exit.then])
            show bodyPost Try.prog Try.f43 _ _ _ _
            refine bodyPost_ret (results_cell_row (p := 6) rfl _ _ N2 _ (rdC 0 0 0 none 0 0 none 0 0 none 0 0 none 0 0 false) (0, 0) _ rfl KR9.out.2.2 Try.underlying78 rfl (by kernel_rfl)) rfl ?_
            obtain ⟨z1, z2⟩ := HZ.out
            subst z1
            subst z2
            exact ⟨⟨none, 0, 0, none, 0, 0, none, 0, 0, none, 0, 0, rfl, dw_0 _, fd_0 _⟩, KR9.out.1⟩
          | true =>
          have cz := kp_cell (j := 1) (v := .slice none 0 0) KI.out rfl
          have fz := kp_froz KI.out 1
          go_upto_region 11 with fail
          clear cz fz
          have g9 := set_grown V1 N3 1 (.slice AX1 kx1 cx1)
          have nz := no_int2 (by intro y h; cases h) (by intro y h; cases h) KI.out.2.2
          replace KA := hid (kp_gr KA.out g9 (by have := HM4.out; have := DKX.out; have := DKY.out; omega) (by have := HM4.out; omega))
          replace KB := hid (kp_gr KB.out g9 (by have := HM4.out; have := DKX.out; have := DKY.out; omega) (by have := HM4.out; omega))
          replace KR := hid (kp_gr KR.out g9 (by have := HM4.out; have := DKX.out; have := DKY.out; omega) (by have := HM4.out; omega))
          replace KO := hid (kp_gr KO.out g9 (by have := HM4.out; have := DKX.out; have := DKY.out; omega) (by have := HM4.out; omega))
          replace KX := hid (kp_gr KX.out g9 (by have := HM4.out; have := DKX.out; have := DKY.out; omega) (by have := HM4.out; omega))
          replace KY := hid (kp_gr KY.out g9 (by have := HM4.out; have := DKX.out; have := DKY.out; omega) (by have := HM4.out; omega))
          replace RX0 := hid (RX0.out.offd g9 nz PX0.out)
          replace RY0 := hid (RY0.out.offd g9 nz PY0.out)
          replace RX1 := hid (RX1.out.offd g9 nz PX1.out)
          replace RY1 := hid (RY1.out.offd g9 nz PY1.out)
          replace KI : Hid (Kp w (V1.setCell ⟨N3, 1, none⟩ (.slice AX1 kx1 cx1)) N3 (.cells #[.slice AX0 kx0 cx0, .slice AX1 kx1 cx1] 24)) := hid (kp_set (j := 1) (v := .slice AX1 kx1 cx1) KI.out)
          clear g9 nz y0 y1 y2 y3
          generalize V1.setCell ⟨N3, 1, none⟩ (.slice AX1 kx1 cx1) = Va1 at KA KB KR KI KO KX KY RX0 RY0 RX1 RY1 ⊢
          obtain ⟨y0, y1⟩ := box_two KX.out.2.2
          obtain ⟨y2, y3⟩ := box_two KY.out.2.2
          have cz := kp_cell (j := 1) (v := .slice none 0 0) KO.out rfl
          have fz := kp_froz KO.out 1
          go_upto_region 6 with fail
          clear cz fz
          have g9 := set_grown Va1 N4 1 (.slice AY1 ky1 cy1)
          have nz := no_int2 (by intro y h; cases h) (by intro y h; cases h) KO.out.2.2
          replace KA := hid (kp_gr KA.out g9 (by have := HM4.out; have := DKX.out; have := DKY.out; omega) (by have := HM4.out; omega))
          replace KB := hid (kp_gr KB.out g9 (by have := HM4.out; have := DKX.out; have := DKY.out; omega) (by have := HM4.out; omega))
          replace KR := hid (kp_gr KR.out g9 (by have := HM4.out; have := DKX.out; have := DKY.out; omega) (by have := HM4.out; omega))
          replace KI := hid (kp_gr KI.out g9 (by have := HM4.out; have := DKX.out; have := DKY.out; omega) (by have := HM4.out; omega))
          replace KX := hid (kp_gr KX.out g9 (by have := HM4.out; have := DKX.out; have := DKY.out; omega) (by have := HM4.out; omega))
          replace KY := hid (kp_gr KY.out g9 (by have := HM4.out; have := DKX.out; have := DKY.out; omega) (by have := HM4.out; omega))
          replace RX0 := hid (RX0.out.offd g9 nz PX0.out)
          replace RY0 := hid (RY0.out.offd g9 nz PY0.out)
          replace RX1 := hid (RX1.out.offd g9 nz PX1.out)
          replace RY1 := hid (RY1.out.offd g9 nz PY1.out)
          replace KO : Hid (Kp w (Va1.setCell ⟨N4, 1, none⟩ (.slice AY1 ky1 cy1)) N4 (.cells #[.slice AY0 ky0 cy0, .slice AY1 ky1 cy1] 24)) := hid (kp_set (j := 1) (v := .slice AY1 ky1 cy1) KO.out)
          clear g9 nz y0 y1 y2 y3
          generalize Va1.setCell ⟨N4, 1, none⟩ (.slice AY1 ky1 cy1) = Vb1 at KA KB KR KI KO KX KY RX0 RY0 RX1 RY1 ⊢
          obtain ⟨y0, y1⟩ := box_two KX.out.2.2
          obtain ⟨y2, y3⟩ := box_two KY.out.2.2
          clear y0 y1 y2 y3 KX KY DKX DKY
          go_wp2
          rw [rounds_succ]
          have TX0 := hid (jt BC.out.1.1 BD.out.1.1 Evx0.out)
          have TY0 := hid (jt BC.out.1.2 BD.out.1.2 Evy0.out)
          have JX0 : Hid (jnl c.i0 d.i0 = X0) := hid ((jl_yes Evx0.out).symm.trans EX0.out)
          have JY0 : Hid (jnl c.o0 d.o0 = Y0) := hid ((jl_yes Evy0.out).symm.trans EY0.out)
          have GX0 : Hid (Bag X0) := hid (by rw [← JX0.out]; exact jnl_bg BC.out.1.1 BD.out.1.1 TX0.out)
          have GY0 : Hid (Bag Y0) := hid (by rw [← JY0.out]; exact jnl_bg BC.out.1.2 BD.out.1.2 TY0.out)
          have SX0 : Hid (X0.length ≤ 1000) := hid (by have h := jl_len c.i0 d.i0; rw [EX0.out] at h; have := HP.out; have := HP2.out; unfold sh5 at *; omega)
          have SY0 : Hid (Y0.length ≤ 1000) := hid (by have h := jl_len c.o0 d.o0; rw [EY0.out] at h; have := HP.out; have := HP2.out; unfold sh5 at *; omega)
          have TX1 := hid (jt BC.out.2.1 BD.out.2.1 Evx1.out)
          have TY1 := hid (jt BC.out.2.2 BD.out.2.2 Evy1.out)
          have JX1 : Hid (jnl c.i1 d.i1 = X1) := hid ((jl_yes Evx1.out).symm.trans EX1.out)
          have JY1 : Hid (jnl c.o1 d.o1 = Y1) := hid ((jl_yes Evy1.out).symm.trans EY1.out)
          have GX1 : Hid (Bag X1) := hid (by rw [← JX1.out]; exact jnl_bg BC.out.2.1 BD.out.2.1 TX1.out)
          have GY1 : Hid (Bag Y1) := hid (by rw [← JY1.out]; exact jnl_bg BC.out.2.2 BD.out.2.2 TY1.out)
          have SX1 : Hid (X1.length ≤ 1000) := hid (by have h := jl_len c.i1 d.i1; rw [EX1.out] at h; have := HP.out; have := HP2.out; unfold sh5 at *; omega)
          have SY1 : Hid (Y1.length ≤ 1000) := hid (by have h := jl_len c.o1 d.o1; rw [EY1.out] at h; have := HP.out; have := HP2.out; unfold sh5 at *; omega)
          have XE := xd_join2 CA.out CB.out TX0.out TY0.out TX1.out TY1.out
          rw [JX0.out, JY0.out, JX1.out, JY1.out] at XE
          have XB : Hid (xdB 2 (c.n + d.n) X0 X1 Y0 Y1 = v) := hid (XE.1.trans hv.out)
          have XC : Hid (xdC 2 (c.n + d.n) X0 X1 Y0 Y1 = D) := hid (XE.2.trans hC.out)
          clear XE
          have OKX : Hid (okd ⟨c.n + d.n, 0, 0, X0, X1, Y0, Y1⟩) := hid ⟨⟨by show I64 (c.n + d.n); unfold I64; omega, calc.i64_0, calc.i64_0⟩, ⟨(by rw [← EX0.out]; exact jl_nok BC.out.1.1 BD.out.1.1 HK.out.2.1.1 HK2.out.2.1.1), (by rw [← EX1.out]; exact jl_nok BC.out.2.1 BD.out.2.1 HK.out.2.1.2 HK2.out.2.1.2)⟩, (by rw [← EY0.out]; exact jl_nok BC.out.1.2 BD.out.1.2 HK.out.2.2.1 HK2.out.2.2.1), (by rw [← EY1.out]; exact jl_nok BC.out.2.2 BD.out.2.2 HK.out.2.2.2 HK2.out.2.2.2)⟩
          obtain ⟨p0, p1, p2, p3, p4, p5, p6⟩ := box_seven KA.out.2.2
          obtain ⟨q0, q1, q2, q3, q4, q5, q6⟩ := box_seven KB.out.2.2
          obtain ⟨y0, y1⟩ := box_two KI.out.2.2
          obtain ⟨y2, y3⟩ := box_two KO.out.2.2
          have LT := hid (heap_lt KR.out.2.2)
          have SZ := hid KA.out.1.size
          go_wp2_with (first
            | (go_at_call 76; refine (rmade_m 2 ⟨c.n + d.n, 0, 0, X0, X1, Y0, Y1⟩ AX0 kx0 cx0 AX1 kx1 cx1 AY0 ky0 cy0 AY1 ky1 cy1 D v _ ⟨⟨RX0.out, RX1.out⟩, RY0.out, RY1.out⟩ OKX.out ⟨⟨GX0.out, GY0.out⟩, GX1.out, GY1.out⟩ ⟨⟨SX0.out, SX1.out⟩, SY0.out, SY1.out⟩ (.inr rfl) XC XB).mono ?_; rintro e w2 ⟨⟨r0, r1, r2, r3, r4, r5, r6, r7, r8, r9, r10, r11, rfl, hd, hf⟩, hb⟩; have DD := hid hd; have FF := hid hf; replace KR := hid (KR.out.step hb); clear hd hf hb y0 y1 y2 y3 p0 p1 p2 p3 p4 p5 p6 q0 q1 q2 q3 q4 q5 q6)
            | (refine wpList_store_whole rfl 78 (.tmp 6) (.tmp 71) rfl N2 (rdC D.n D.s0 D.s1 r0 r1 r2 r3 r4 r5 r6 r7 r8 r9 r10 r11 v) rfl rfl 78 _ KR.out.2.2 rfl (by show _ = some 8; exact size_rd) (rdC_one _ _ _ _ _ _ _ _ _ _ _ _ _ _ _ _) ?_; intro w9 hp9 hg9; have KR9 := hid (kp_at KR.out hg9 hp9); have D9 := hid (dw_apart DD.out FF.out hg9 LT.out); clear hp9 hg9))
          (try simp only [Exit.inBlock, Exit.then])
          show bodyPost Try.prog Try.f43 _ _ _ _
          refine bodyPost_ret (results_cell_row (p := 6) rfl _ _ N2 _ (rdC D.n D.s0 D.s1 r0 r1 r2 r3 r4 r5 r6 r7 r8 r9 r10 r11 v) (0, 0) _ rfl KR9.out.2.2 Try.underlying78 rfl (by kernel_rfl)) rfl ?_
          exact ⟨⟨r0, r1, r2, r3, r4, r5, r6, r7, r8, r9, r10, r11, rfl, D9.out, FF.out.mono SZ.out⟩, KR9.out.1⟩

end Go.Proofs.Ytjkkajhjcinalaa

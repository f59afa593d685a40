/-
  Small cells and deltas; a delta and its Neg behind it: what light and back of the law return; the words of the laws' cases, opened.
  Conditions: as each theorem states them.
-/
import Derived.Test.YtjkkajhjcinalaaAF10
import Derived.Test.YtjkkajhjcinalaaU10
import Derived.Test.YtjkkajhjcinalaaJ9
import Derived.Laws.Cover1
namespace Go.Proofs.Ytjkkajhjcinalaa
open Go.ChangeShapes Go.WideShapes Go.ChangeAt Go.RowKit
set_option linter.unusedVariables false
set_option linter.unusedSimpArgs false
set_option maxRecDepth 100000

theorem ofC_okd {m : Int} {l : List Rw} (hk : ∀ r ∈ l, rok r) (hl : l.length ≤ 1000) : okc (ofC m l) := by
  cases h : ofB m l with
  | false => rw [ofC_no h]; exact okc_0d
  | true =>
    rw [ofC_yes h]
    obtain ⟨hm, h0, f0, f1⟩ := ofB_iff.1 h
    refine ⟨by show I64 (l.length : Int); unfold I64; omega, fitB_iff.1 f0, ?_, bagOf_ok (V0_i64 hk) (by rw [V0_len]; omega), ?_⟩
    · show I64 (if m = 2 then calc.sumI (V1 l) else 0)
      rcases hm with rfl | rfl
      · exact calc.i64_0
      · rcases f1 with f1 | f1
        · cases f1
        · exact fitB_iff.1 f1
    · show ∀ r ∈ (if m = 2 then bagOf (V1 l) else []), nok r
      rcases hm with rfl | rfl
      · intro r hr; cases hr
      · exact bagOf_ok (V1_i64 hk) (by rw [V1_len]; omega)
theorem ofC_lend (m : Int) (l : List Rw) : (ofC m l).b0.length ≤ l.length ∧ (ofC m l).b1.length ≤ l.length := by
  cases h : ofB m l with
  | false => rw [ofC_no h]; exact ⟨Nat.zero_le _, Nat.zero_le _⟩
  | true =>
    rw [ofC_yes h]
    have e0 := bagOf_len (V0 l)
    have e1 := bagOf_len (V1 l)
    rw [V0_len] at e0
    rw [V1_len] at e1
    refine ⟨e0, ?_⟩
    show (if m = 2 then bagOf (V1 l) else []).length ≤ l.length
    split
    · exact e1
    · exact Nat.zero_le _
set_option maxHeartbeats 4000000 in
theorem clight_m (c : Cl) (a0 : Option Addr) (p0 k0 : Nat) (a1 : Option Addr) (p1 k1 : Nat) (v : Bool) (w : World) (h0 : p0 ≤ 9223372036854775807) (h1 : p1 ≤ 9223372036854775807) (hv : Hid (decide (p0 ≤ 60 ∧ p1 ≤ 60) = v)) :
    Calls Try.prog 14 #[.agg #[.int .i64 c.n, .int .i64 c.s0, .int .i64 c.s1, .slice a0 p0 k0, .slice a1 p1 k1]] w fun e w' => e = .returned (.bool v) ∧ Below w.heap.size w w' := by
  have K0 := hid (kp_new w (.cells #[.int .i64 c.n, .int .i64 c.s0, .int .i64 c.s1, .slice a0 p0 k0, .slice a1 p1 k1] 26))
  obtain ⟨X, hX⟩ : ∃ y, max (0 : Int) (p0 : Int) = y := ⟨_, rfl⟩
  obtain ⟨Y, hY⟩ : ∃ y, max X (p1 : Int) = y := ⟨_, rfl⟩
  have hd : decide (Y ≤ 60) = v := by rw [← hv.out]; exact decide_eq_decide.2 (by omega)
  have hX2 : (p0 : Int) = X := by omega
  have e1 : max (0 : Int) (p0 : Int) = (p0 : Int) := by omega
  have FX := hid hX2
  clear hX hX2 e1 hv
  rw [← FX.out] at hY
  clear FX
  go_enter Try.func14, Try.ntmps14
  go_upto_region 1 with fail
  generalize w.alloc (.cells #[.int .i64 c.n, .int .i64 c.s0, .int .i64 c.s1, .slice a0 p0 k0, .slice a1 p1 k1] 26) = W at K0 ⊢
  obtain ⟨d0, d1, d2, d3, d4⟩ := box_five K0.out.2.2
  go_upto_region 3 with fail
  refine wp_loop_rounds 3 ?_
  rw [rounds_succ]
  go_wp2
  rw [rounds_succ]
  go_wp2
  rw [rounds_succ]
  go_wp2
  go_ret
  exact ⟨by first | rfl | exact ret_bool hd, K0.out.1⟩

theorem three_pick_d {w : World} {N : Nat} {t : TypeId} {a b c : Int} (h : w.heap[N]? = some (.cells #[.int .i64 a, .int .i64 b, .int .i64 c] t)) {q : Nat} (hq : q < 3) : ∃ x, w.cell? ⟨N, q, none⟩ = some (.int .i64 x) := by
  rw [cell_of_row _ _ _ _ t (0, 0) h]
  match q, hq with
  | 0, _ => exact ⟨a, rfl⟩
  | 1, _ => exact ⟨b, rfl⟩
  | 2, _ => exact ⟨c, rfl⟩

theorem cw_lend {w : World} {a0 a1 : Option Addr} {p0 k0 p1 k1 : Nat} {c : Cl} (h : CW w a0 p0 k0 a1 p1 k1 c) : p0 = c.b0.length ∧ p1 = c.b1.length := ⟨h.1.lens.1, h.2.lens.1⟩
theorem da_no3d {M : Int} {c : Cl} {is : Bool} {Y : Dl} (g : daB M c is Y = false) : daI M c is Y = false ∧ daC M c is Y = cl0 := by
  have e : daI M c is Y = false := by unfold daI; rw [g]; rfl
  exact ⟨e, by unfold daC; rw [e]; rfl⟩
theorem daC_ok {m : Int} {c : Cl} {is : Bool} {d : Dl} (kc : okc c) (kd : okd d) : okc (daC m c is d) := by
  cases h : daB m c is d with
  | false => rw [(da_no3d h).2]; exact okc_0d
  | true =>
    obtain ⟨⟨g, s⟩, ⟨f0, f1⟩, ⟨t0, t1⟩, e0, e1⟩ := da_open h
    obtain ⟨⟨g1, g2⟩, g3, g4⟩ := dg_bags g
    obtain ⟨⟨c0, c1⟩, _, _, _⟩ := st_bags s
    obtain ⟨_, n0, n1⟩ := da_rkc h
    rw [(da_c h).1]
    refine ⟨by show I64 (c.n + d.n); unfold I64; omega, fitB_iff.1 e0, fitB_iff.1 e1, ?_, ?_⟩
    · exact jnl_okd (mnl_bg c0 g2 f0) g1 (by rw [mnl_tot]; exact t0) (mnl_ok c0 g2 kc.2.2.2.1 kd.2.2.1) kd.2.1.1
    · exact jnl_okd (mnl_bg c1 g4 f1) g3 (by rw [mnl_tot]; exact t1) (mnl_ok c1 g4 kc.2.2.2.2 kd.2.2.2) kd.2.1.2
theorem daC_len {m : Int} {c : Cl} {is : Bool} {d : Dl} {k n : Nat} (hc : c.b0.length ≤ k ∧ c.b1.length ≤ k) (hd : shn n d) : (daC m c is d).b0.length ≤ k + n + n ∧ (daC m c is d).b1.length ≤ k + n + n := by
  cases h : daB m c is d with
  | false => rw [(da_no3d h).2]; exact ⟨Nat.zero_le _, Nat.zero_le _⟩
  | true =>
    rw [(da_c h).1]
    obtain ⟨⟨h1, h2⟩, h3, h4⟩ := hd
    have q0 := jnl_len (mnl c.b0 d.o0) d.i0
    have q1 := mnl_len c.b0 d.o0
    have q2 := jnl_len (mnl c.b1 d.o1) d.i1
    have q3 := mnl_len c.b1 d.o1
    constructor
    · show (jnl (mnl c.b0 d.o0) d.i0).length ≤ _; omega
    · show (jnl (mnl c.b1 d.o1) d.i1).length ≤ _; omega
theorem open_case {H : Type} {enc : TypeId × Value → H} {W : World} {base e0 : Nat} {r : Reach} {v : Value} {d : DataW H} {p : List MemPlace}
    (hv : Value.okWide Try.prog W r e0 90 v) (h : DataW.Trod enc Try.prog W base (fun _ => true) true 90 v d p) :
    ∃ (m : Int) (C : Cl) (a0 : Option Addr) (a1 a2 : Nat) (a3 : Option Addr) (a4 a5 : Nat) (is : Bool) (D : Dl) (b0 : Option Addr) (b1 b2 : Nat) (b3 : Option Addr) (b4 b5 : Nat) (b6 : Option Addr) (b7 b8 : Nat) (b9 : Option Addr) (b10 b11 : Nat), v = (.agg #[.int .i64 m, .int .i64 C.n, .int .i64 C.s0, .int .i64 C.s1, .slice a0 a1 a2, .slice a3 a4 a5, .bool is, .int .i64 D.n, .int .i64 D.s0, .int .i64 D.s1, .slice b0 b1 b2, .slice b3 b4 b5, .slice b6 b7 b8, .slice b9 b10 b11]) ∧ (CW W a0 a1 a2 a3 a4 a5 C ∧ okc C) ∧ DW W b0 b1 b2 b3 b4 b5 b6 b7 b8 b9 b10 b11 D ∧ okd D := by
  have hC : Try.prog.cellsOf 90 = 14 := by kernel_rfl
  have hI : Try.prog.cellsOf 3 = 1 := by kernel_rfl
  have hB : Try.prog.cellsOf 4 = 1 := by kernel_rfl
  have hX : Try.prog.cellsOf 26 = 5 := by kernel_rfl
  have hL : Try.prog.cellsOf 68 = 7 := by kernel_rfl
  obtain ⟨cs, rfl, hsz⟩ := okWide_struct Try.underlying90 hv
  rw [hC] at hsz
  obtain ⟨fuel, hf⟩ := h
  obtain ⟨c0, c1, c2, c3, c4, c5, c6, c7, c8, c9, c10, c11, c12, c13, rfl⟩ : ∃ c0 c1 c2 c3 c4 c5 c6 c7 c8 c9 c10 c11 c12 c13, cs = #[c0, c1, c2, c3, c4, c5, c6, c7, c8, c9, c10, c11, c12, c13] := by
    obtain ⟨l⟩ := cs
    have hs : l.length = 14 := by simpa using hsz
    obtain ⟨c0, c1, c2, c3, c4, c5, c6, hA⟩ := list7 (l := l.take 7) (by rw [List.length_take]; omega)
    obtain ⟨c7, c8, c9, c10, c11, c12, c13, hB⟩ := list7 (l := l.drop 7) (by rw [List.length_drop]; omega)
    have e : l = l.take 7 ++ l.drop 7 := (List.take_append_drop 7 l).symm
    rw [hA, hB] at e
    refine ⟨c0, c1, c2, c3, c4, c5, c6, c7, c8, c9, c10, c11, c12, c13, ?_⟩
    rw [e]
    rfl
  have hf' : DataW.trod enc Try.prog W base (fun _ => true) true fuel 90 [c0, c1, c2, c3, c4, c5, c6, c7, c8, c9, c10, c11, c12, c13] = some (d, p) := hf
  obtain ⟨ys, m, _, _, _, hl, hg⟩ := DataW.trod_struct Try.underlying90 hf'
  have g0 := hg 0
  have g1 := hg 1
  have g2 := hg 2
  have g3 := hg 3
  simp [hI, hX, hB, hL] at g0 g1 g2 g3
  match ys, hl with
  | [y0, y1, y2, y3], _ =>
    obtain ⟨n, e0, _, w0⟩ := DataW.trod_int Try.underlying3 g0
    simp at e0
    subst e0
    obtain ⟨C, a0, a1, a2, a3, a4, a5, rfl, rfl, rfl, rfl, rfl, wA, oA⟩ := open_cell_cl g1
    obtain ⟨is, e2, _⟩ := DataW.trod_bool Try.underlying4 g2
    simp at e2
    subst e2
    obtain ⟨D, b0, b1, b2, b3, b4, b5, b6, b7, b8, b9, b10, b11, e, hD, kD⟩ := open_delta_cl g3
    simp only [List.cons.injEq, and_true] at e
    obtain ⟨rfl, rfl, rfl, rfl, rfl, rfl, rfl⟩ := e
    exact ⟨n, C, a0, a1, a2, a3, a4, a5, is, D, b0, b1, b2, b3, b4, b5, b6, b7, b8, b9, b10, b11, rfl, ⟨wA, oA⟩, hD, kD⟩
theorem box_14 {w : World} {D : Nat} {t : TypeId} {c0 c1 c2 c3 c4 c5 c6 c7 c8 c9 c10 c11 c12 c13 : Value} (hD : w.heap[D]? = some (.cells #[c0, c1, c2, c3, c4, c5, c6, c7, c8, c9, c10, c11, c12, c13] t)) : w.cell? ⟨D, 0, none⟩ = some c0 ∧ w.cell? ⟨D, 1, none⟩ = some c1 ∧ w.cell? ⟨D, 2, none⟩ = some c2 ∧ w.cell? ⟨D, 3, none⟩ = some c3 ∧ w.cell? ⟨D, 4, none⟩ = some c4 ∧ w.cell? ⟨D, 5, none⟩ = some c5 ∧ w.cell? ⟨D, 6, none⟩ = some c6 ∧ w.cell? ⟨D, 7, none⟩ = some c7 ∧ w.cell? ⟨D, 8, none⟩ = some c8 ∧ w.cell? ⟨D, 9, none⟩ = some c9 ∧ w.cell? ⟨D, 10, none⟩ = some c10 ∧ w.cell? ⟨D, 11, none⟩ = some c11 ∧ w.cell? ⟨D, 12, none⟩ = some c12 ∧ w.cell? ⟨D, 13, none⟩ = some c13 := by
  refine ⟨?_, ?_, ?_, ?_, ?_, ?_, ?_, ?_, ?_, ?_, ?_, ?_, ?_, ?_⟩ <;> simp [World.cell?, hD]

set_option maxHeartbeats 32000000 in
theorem dback_m (m : Int) (c : Cl) (a0 : Option Addr) (a1 a2 : Nat) (a3 : Option Addr) (a4 a5 : Nat) (is : Bool) (d : Dl) (b0 : Option Addr) (b1 b2 : Nat) (b3 : Option Addr) (b4 b5 : Nat) (b6 : Option Addr) (b7 b8 : Nat) (b9 : Option Addr) (b10 b11 : Nat) (w : World) (hw : CW w a0 a1 a2 a3 a4 a5 c) (hz : DW w b0 b1 b2 b3 b4 b5 b6 b7 b8 b9 b10 b11 d) (hk : okc c) (hk' : okd d) (hp : c.b0.length ≤ 100 ∧ c.b1.length ≤ 100) (hp' : shn 100 d) :
    Calls Try.prog 46 #[.int .i64 m, (.agg #[.int .i64 c.n, .int .i64 c.s0, .int .i64 c.s1, .slice a0 a1 a2, .slice a3 a4 a5]), .bool is, (.agg #[.int .i64 d.n, .int .i64 d.s0, .int .i64 d.s1, .slice b0 b1 b2, .slice b3 b4 b5, .slice b6 b7 b8, .slice b9 b10 b11])] w fun e w' => e = .returned (.bool true) ∧ Below w.heap.size w w' := by
  have HW := hid hw
  have HV := hid hz
  have HK := hid hk
  have HK2 := hid hk'
  have HP := hid hp
  have HP2 := hid hp'
  clear hw hz hk hk' hp hp'
  obtain ⟨X, hX⟩ : ∃ y, daC m c is d = y := ⟨_, rfl⟩
  obtain ⟨i, hi⟩ : ∃ y, daI m c is d = y := ⟨_, rfl⟩
  obtain ⟨v, hv⟩ : ∃ y, daB m c is d = y := ⟨_, rfl⟩
  obtain ⟨n, hn⟩ : ∃ y, dnC m d = y := ⟨_, rfl⟩
  obtain ⟨p, hp⟩ : ∃ y, dnB m d = y := ⟨_, rfl⟩
  have FX := hid hX
  have FI := hid hi
  have FV := hid hv
  have Fn := hid hn
  have Fp := hid hp
  have OX : Hid (okc X) := hid (by rw [← hX]; exact daC_ok HK.out HK2.out)
  have LX : Hid (X.b0.length ≤ 300 ∧ X.b1.length ≤ 300) := hid (by rw [← hX]; exact daC_len (k := 100) (n := 100) HP.out HP2.out)
  have On : Hid (okd n) := hid (by rw [← hn]; exact dnC_ok HK2.out)
  have Sn : Hid (shn 100 n) := hid (by rw [← hn]; exact dnC_sh HP2.out)
  have TB : Hid (v = true → p = true → daB m X i n = true ∧ daI m X i n = is ∧ daC m X i n = c) := hid (fun e1 e2 => by
    have h := da_back (hv.trans e1) (hp.trans e2) HK.out
    rw [hX, hi, hn] at h
    exact h)
  clear hX hi hv hn hp
  have K0 := hid (kq_new w (.cells #[.int .i64 c.n, .int .i64 c.s0, .int .i64 c.s1, .slice a0 a1 a2, .slice a3 a4 a5] 26) (.cells #[.int .i64 d.n, .int .i64 d.s0, .int .i64 d.s1, .slice b0 b1 b2, .slice b3 b4 b5, .slice b6 b7 b8, .slice b9 b10 b11] 68))
  go_enter Try.func46, Try.ntmps46
  go_upto_region 1 with fail
  generalize (w.alloc (.cells #[.int .i64 c.n, .int .i64 c.s0, .int .i64 c.s1, .slice a0 a1 a2, .slice a3 a4 a5] 26)).alloc (.cells #[.int .i64 d.n, .int .i64 d.s0, .int .i64 d.s1, .slice b0 b1 b2, .slice b3 b4 b5, .slice b6 b7 b8, .slice b9 b10 b11] 68) = W at K0 ⊢
  have KA := hid K0.out.1
  have KB := hid K0.out.2
  clear K0
  obtain ⟨N0, hN0⟩ : ∃ y, w.heap.size = y := ⟨_, rfl⟩
  obtain ⟨N1, hN1⟩ : ∃ y, w.heap.size + 1 = y := ⟨_, rfl⟩
  rw [hN1] at KB ⊢
  rw [hN0] at KA ⊢
  have HN := hid hN0
  clear hN0 hN1
  obtain ⟨f0, f1, f2, f3, f4⟩ := box_five KA.out.2.2
  obtain ⟨g0, g1, g2, g3, g4, g5, g6⟩ := box_seven KB.out.2.2
  go_upto_region 2 with (first
    | (go_at_call 49; refine (dapply_m m c a0 a1 a2 a3 a4 a5 is d b0 b1 b2 b3 b4 b5 b6 b7 b8 b9 b10 b11 X i v _ (HW.out.below KA.out.1) (HV.out.below KA.out.1) HK.out HK2.out (by have := HP.out; omega) (shn_5 HP2.out (by omega)) FX FI FV).mono ?_; rintro e w1 ⟨⟨x0, x1, x2, x3, x4, x5, rfl, hd, _⟩, hb⟩; replace KA := hid (KA.out.step hb); replace KB := hid (KB.out.step hb); have CX := hid hd; clear hd hb f0 f1 f2 f3 f4 g0 g1 g2 g3 g4 g5 g6)
    | (have KZ : Hid (Kp w (w1.alloc (.cells #[.int .i64 0, .int .i64 0, .int .i64 0, .slice none 0 0, .slice none 0 0] 26)) w1.heap.size (.cells #[.int .i64 0, .int .i64 0, .int .i64 0, .slice none 0 0, .slice none 0 0] 26)) := hid (kp_new2 KA.out.1 _ _ rfl); refine wpList_store_whole rfl 26 (.tmp 9) (.tmp 23) rfl w1.heap.size (clC X.n X.s0 X.s1 x0 x1 x2 x3 x4 x5) rfl rfl 26 _ KZ.out.2.2 rfl (by show _ = some 5; exact size_cl) (clC_one _ _ _ _ _ _ _ _ _) ?_; intro w9 hp9 hg9; have KX := hid (kp_at KZ.out hg9 hp9); replace KA := hid (kp_new_gr KA.out hg9); replace KB := hid (kp_new_gr KB.out hg9); replace CX := hid (cw_new_gr CX.out hg9); clear hp9 hg9 KZ))
  generalize w1.heap.size = NX at KX ⊢
  obtain ⟨g0, g1, g2, g3, g4, g5, g6⟩ := box_seven KB.out.2.2
  go_upto_region 3 with (first
    | (go_at_call 36; refine (dneg_m m d b0 b1 b2 b3 b4 b5 b6 b7 b8 b9 b10 b11 n p _ (HV.out.below KA.out.1) HK2.out (sh5_shd (shn_5 HP2.out (by omega))) Fn Fp).mono ?_; rintro e w2 ⟨⟨n0, n1, n2, n3, n4, n5, n6, n7, n8, n9, n10, n11, rfl, hd, _⟩, hb⟩; replace KA := hid (KA.out.step hb); replace KB := hid (KB.out.step hb); replace CX := hid (CX.out.below hb); replace KX := hid (KX.out.step hb); have DN := hid hd; clear hd hb g0 g1 g2 g3 g4 g5 g6)
    | (have KZ : Hid (Kp w (w2.alloc (.cells #[.int .i64 0, .int .i64 0, .int .i64 0, .slice none 0 0, .slice none 0 0, .slice none 0 0, .slice none 0 0] 68)) w2.heap.size (.cells #[.int .i64 0, .int .i64 0, .int .i64 0, .slice none 0 0, .slice none 0 0, .slice none 0 0, .slice none 0 0] 68)) := hid (kp_new2 KA.out.1 _ _ rfl); refine wpList_store_whole rfl 68 (.tmp 12) (.tmp 30) rfl w2.heap.size (dlC n.n n.s0 n.s1 n0 n1 n2 n3 n4 n5 n6 n7 n8 n9 n10 n11) rfl rfl 68 _ KZ.out.2.2 rfl (by show _ = some 7; exact size_dl) (dlC_one _ _ _ _ _ _ _ _ _ _ _ _ _ _ _) ?_; intro w9 hp9 hg9; have KN := hid (kp_at KZ.out hg9 hp9); replace KA := hid (kp_new_gr KA.out hg9); replace KB := hid (kp_new_gr KB.out hg9); replace CX := hid (cw_new_gr CX.out hg9); replace KX := hid (kp_new_gr KX.out hg9); replace DN := hid (dw_new_gr DN.out hg9); clear hp9 hg9 KZ))
  generalize w2.heap.size = NN at KN ⊢
  cases v with
  | false =>
    go_wp2
    go_ret
    exact ⟨rfl, KA.out.1⟩
  | true =>
  cases p with
  | false =>
    go_wp2
    go_ret
    exact ⟨rfl, KA.out.1⟩
  | true =>
    obtain ⟨t1, t2, t3⟩ := TB.out rfl rfl
    have T1 := hid t1
    have T2 := hid t2
    have T3 := hid t3
    have eis : (is == is) = true := by simp
    clear t1 t2 t3 TB
    obtain ⟨f0, f1, f2, f3, f4⟩ := box_five KX.out.2.2
    obtain ⟨g0, g1, g2, g3, g4, g5, g6⟩ := box_seven KN.out.2.2
    go_upto_region 6 with (first
      | (go_at_call 49; refine (dapply_m m X x0 x1 x2 x3 x4 x5 i n n0 n1 n2 n3 n4 n5 n6 n7 n8 n9 n10 n11 c is true _ CX.out DN.out OX.out On.out (by have := LX.out; omega) (shn_5 Sn.out (by omega)) T3 T2 T1).mono ?_; rintro e w3 ⟨⟨y0, y1, y2, y3, y4, y5, rfl, hd, _⟩, hb⟩; replace KA := hid (KA.out.step hb); replace KB := hid (KB.out.step hb); replace CX := hid (CX.out.below hb); replace KX := hid (KX.out.step hb); replace DN := hid (DN.out.below hb); replace KN := hid (KN.out.step hb); have CY := hid hd; clear hd hb f0 f1 f2 f3 f4 g0 g1 g2 g3 g4 g5 g6)
      | (have KZ : Hid (Kp w (w3.alloc (.cells #[.int .i64 0, .int .i64 0, .int .i64 0, .slice none 0 0, .slice none 0 0] 26)) w3.heap.size (.cells #[.int .i64 0, .int .i64 0, .int .i64 0, .slice none 0 0, .slice none 0 0] 26)) := hid (kp_new2 KA.out.1 _ _ rfl); refine wpList_store_whole rfl 26 (.tmp 14) (.tmp 44) rfl w3.heap.size (clC c.n c.s0 c.s1 y0 y1 y2 y3 y4 y5) rfl rfl 26 _ KZ.out.2.2 rfl (by show _ = some 5; exact size_cl) (clC_one _ _ _ _ _ _ _ _ _) ?_; intro w9 hp9 hg9; have KY := hid (kp_at KZ.out hg9 hp9); replace KA := hid (kp_new_gr KA.out hg9); replace KB := hid (kp_new_gr KB.out hg9); replace CX := hid (cw_new_gr CX.out hg9); replace KX := hid (kp_new_gr KX.out hg9); replace DN := hid (dw_new_gr DN.out hg9); replace KN := hid (kp_new_gr KN.out hg9); replace CY := hid (cw_new_gr CY.out hg9); clear hp9 hg9 KZ))
    generalize w3.heap.size = NY at KY ⊢
    obtain ⟨f0, f1, f2, f3, f4⟩ := box_five KY.out.2.2
    obtain ⟨g0, g1, g2, g3, g4⟩ := box_five KA.out.2.2
    go_wp2_with (go_at_call 25; refine (csame_m c c _ _ _ _ _ _ _ _ _ _ _ _ true _ CY.out (HW.out.below KA.out.1) (hid (csm_self _))).mono ?_; rintro e w4 ⟨rfl, hb⟩; replace KA := hid (KA.out.step hb); clear hb)
    go_ret
    exact ⟨rfl, KA.out.1⟩

set_option maxHeartbeats 16000000 in
theorem dlightB_m (m : Int) (C : Cl) (a0 : Option Addr) (a1 a2 : Nat) (a3 : Option Addr) (a4 a5 : Nat) (is : Bool) (D : Dl) (b0 : Option Addr) (b1 b2 : Nat) (b3 : Option Addr) (b4 b5 : Nat) (b6 : Option Addr) (b7 b8 : Nat) (b9 : Option Addr) (b10 b11 : Nat) (x : Option Addr) (n c : Nat) (l : List Rw) (y : Option Addr) (k f : Nat) (u : List Ch) (v : Bool) (w : World) (hC : CW w a0 a1 a2 a3 a4 a5 C) (hD : DW w b0 b1 b2 b3 b4 b5 b6 b7 b8 b9 b10 b11 D) (hl : RRow w x n c l) (hu : CRow w y k f u) (hv : Hid (decide ((a1 ≤ 60 ∧ a4 ≤ 60) ∧ ((b1 ≤ 60 ∧ b4 ≤ 60) ∧ b7 ≤ 60 ∧ b10 ≤ 60) ∧ n ≤ 30 ∧ k ≤ 30) = v)) :
    Calls Try.prog 45 #[(.agg #[.int .i64 m, .int .i64 C.n, .int .i64 C.s0, .int .i64 C.s1, .slice a0 a1 a2, .slice a3 a4 a5, .bool is, .int .i64 D.n, .int .i64 D.s0, .int .i64 D.s1, .slice b0 b1 b2, .slice b3 b4 b5, .slice b6 b7 b8, .slice b9 b10 b11]), .slice x n c, .slice y k f] w fun e w' => e = .returned (.bool v) ∧ Below w.heap.size w w' := by
  have HC := hid hC
  have HD := hid hD
  have b1' : a1 ≤ 9223372036854775807 := hC.1.lens.2
  have b2' : a4 ≤ 9223372036854775807 := hC.2.lens.2
  have b3' : n ≤ 9223372036854775807 := hl.lens.2
  have b4' : k ≤ 9223372036854775807 := hu.lens.2
  have KX := hid (kp_new w (.cells #[.int .i64 m, .int .i64 C.n, .int .i64 C.s0, .int .i64 C.s1, .slice a0 a1 a2, .slice a3 a4 a5, .bool is, .int .i64 D.n, .int .i64 D.s0, .int .i64 D.s1, .slice b0 b1 b2, .slice b3 b4 b5, .slice b6 b7 b8, .slice b9 b10 b11] 90))
  clear hC hD hl hu
  obtain ⟨vc, hvc⟩ : ∃ y, decide (a1 ≤ 60 ∧ a4 ≤ 60) = y := ⟨_, rfl⟩
  obtain ⟨vd, hvd⟩ : ∃ y, decide ((b1 ≤ 60 ∧ b4 ≤ 60) ∧ b7 ≤ 60 ∧ b10 ≤ 60) = y := ⟨_, rfl⟩
  have HVC := hid hvc
  have HVD := hid hvd
  have E : Hid (v = (vc && (vd && (decide (n ≤ 30) && decide (k ≤ 30))))) := hid (by
    rw [← hv.out, ← hvc, ← hvd, ← Bool.decide_and, ← Bool.decide_and, ← Bool.decide_and])
  clear hvc hvd
  go_enter Try.func45, Try.ntmps45
  go_upto_region 1 with fail
  generalize w.alloc (.cells #[.int .i64 m, .int .i64 C.n, .int .i64 C.s0, .int .i64 C.s1, .slice a0 a1 a2, .slice a3 a4 a5, .bool is, .int .i64 D.n, .int .i64 D.s0, .int .i64 D.s1, .slice b0 b1 b2, .slice b3 b4 b5, .slice b6 b7 b8, .slice b9 b10 b11] 90) = W at KX ⊢
  obtain ⟨g0, g1, g2, g3, g4, g5, g6, g7, g8, g9, g10, g11, g12, g13⟩ := box_14 KX.out.2.2
  cases vc with
  | false =>
    go_wp2_with (go_at_call 14; refine (clight_m C a0 a1 a2 a3 a4 a5 false _ b1' b2' HVC).mono ?_; rintro e w1 ⟨rfl, hb⟩; replace KX := hid (KX.out.step hb); clear hb g0 g1 g2 g3 g4 g5 g6 g7 g8 g9 g10 g11 g12 g13; obtain ⟨g0, g1, g2, g3, g4, g5, g6, g7, g8, g9, g10, g11, g12, g13⟩ := box_14 KX.out.2.2)
    go_ret
    exact ⟨ret_bool (by rw [E.out]; rfl), KX.out.1⟩
  | true =>
  cases vd with
  | false =>
    go_wp2_with (first
      | (go_at_call 14; refine (clight_m C a0 a1 a2 a3 a4 a5 true _ b1' b2' HVC).mono ?_; rintro e w1 ⟨rfl, hb⟩; replace KX := hid (KX.out.step hb); clear hb g0 g1 g2 g3 g4 g5 g6 g7 g8 g9 g10 g11 g12 g13; obtain ⟨g0, g1, g2, g3, g4, g5, g6, g7, g8, g9, g10, g11, g12, g13⟩ := box_14 KX.out.2.2)
      | (go_at_call 30; refine (dlight_m D b0 b1 b2 b3 b4 b5 b6 b7 b8 b9 b10 b11 false _ (HD.out.below KX.out.1) HVD).mono ?_; rintro e w2 ⟨rfl, hb⟩; replace KX := hid (KX.out.step hb); clear hb))
    go_ret
    exact ⟨ret_bool (by rw [E.out]; rfl), KX.out.1⟩
  | true =>
  by_cases hn : n ≤ 30
  · have hnd : decide ((n : Int) ≤ 30) = true := decide_eq_true (by omega)
    have hne : decide (n ≤ 30) = true := decide_eq_true hn
    by_cases hk : k ≤ 30
    · have hkd : decide ((k : Int) ≤ 30) = true := decide_eq_true (by omega)
      have hke : decide (k ≤ 30) = true := decide_eq_true hk
      have E2 : Hid (v = true) := hid (by rw [E.out, hne, hke]; rfl)
      clear hn hk
      go_wp2_with (first
        | (go_at_call 14; refine (clight_m C a0 a1 a2 a3 a4 a5 true _ b1' b2' HVC).mono ?_; rintro e w1 ⟨rfl, hb⟩; replace KX := hid (KX.out.step hb); clear hb g0 g1 g2 g3 g4 g5 g6 g7 g8 g9 g10 g11 g12 g13; obtain ⟨g0, g1, g2, g3, g4, g5, g6, g7, g8, g9, g10, g11, g12, g13⟩ := box_14 KX.out.2.2)
        | (go_at_call 30; refine (dlight_m D b0 b1 b2 b3 b4 b5 b6 b7 b8 b9 b10 b11 true _ (HD.out.below KX.out.1) HVD).mono ?_; rintro e w2 ⟨rfl, hb⟩; replace KX := hid (KX.out.step hb); clear hb))
      go_ret
      exact ⟨ret_bool E2.out.symm, KX.out.1⟩
    · have hkd : decide ((k : Int) ≤ 30) = false := decide_eq_false (by omega)
      have hke : decide (k ≤ 30) = false := decide_eq_false hk
      have E2 : Hid (v = false) := hid (by rw [E.out, hne, hke]; rfl)
      clear hn hk
      go_wp2_with (first
        | (go_at_call 14; refine (clight_m C a0 a1 a2 a3 a4 a5 true _ b1' b2' HVC).mono ?_; rintro e w1 ⟨rfl, hb⟩; replace KX := hid (KX.out.step hb); clear hb g0 g1 g2 g3 g4 g5 g6 g7 g8 g9 g10 g11 g12 g13; obtain ⟨g0, g1, g2, g3, g4, g5, g6, g7, g8, g9, g10, g11, g12, g13⟩ := box_14 KX.out.2.2)
        | (go_at_call 30; refine (dlight_m D b0 b1 b2 b3 b4 b5 b6 b7 b8 b9 b10 b11 true _ (HD.out.below KX.out.1) HVD).mono ?_; rintro e w2 ⟨rfl, hb⟩; replace KX := hid (KX.out.step hb); clear hb))
      go_ret
      exact ⟨ret_bool E2.out.symm, KX.out.1⟩
  · have hnd : decide ((n : Int) ≤ 30) = false := decide_eq_false (by omega)
    have hne : decide (n ≤ 30) = false := decide_eq_false hn
    have E2 : Hid (v = false) := hid (by rw [E.out, hne]; rfl)
    clear hn
    go_wp2_with (first
      | (go_at_call 14; refine (clight_m C a0 a1 a2 a3 a4 a5 true _ b1' b2' HVC).mono ?_; rintro e w1 ⟨rfl, hb⟩; replace KX := hid (KX.out.step hb); clear hb g0 g1 g2 g3 g4 g5 g6 g7 g8 g9 g10 g11 g12 g13; obtain ⟨g0, g1, g2, g3, g4, g5, g6, g7, g8, g9, g10, g11, g12, g13⟩ := box_14 KX.out.2.2)
      | (go_at_call 30; refine (dlight_m D b0 b1 b2 b3 b4 b5 b6 b7 b8 b9 b10 b11 true _ (HD.out.below KX.out.1) HVD).mono ?_; rintro e w2 ⟨rfl, hb⟩; replace KX := hid (KX.out.step hb); clear hb))
    go_ret
    exact ⟨ret_bool E2.out.symm, KX.out.1⟩

end Go.Proofs.Ytjkkajhjcinalaa

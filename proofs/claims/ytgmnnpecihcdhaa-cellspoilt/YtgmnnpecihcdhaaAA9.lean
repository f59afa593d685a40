/-
  A spoilt cell may not be: the walk of the law CellSpoilt.
  Conditions: as each theorem states them.
-/
import Derived.Test.YtgmnnpecihcdhaaY9
import Derived.Test.YtgmnnpecihcdhaaR9
namespace Go.Proofs.Ytgmnnpecihcdhaa
open Go.ChangeShapes Go.WideShapes Go.ChangeAt Go.RowKit
set_option linter.unusedVariables false
set_option linter.unusedSimpArgs false
set_option maxRecDepth 100000

theorem wrap_mod (z : Int) : (IntKind.i64.wrap z) % 18446744073709551616 = z % 18446744073709551616 := by
  simp [IntKind.wrap, IntKind.bits, IntKind.signed]
  omega
theorem wrap_i64 (z : Int) : I64 (IntKind.i64.wrap z) := by
  unfold I64
  simp [IntKind.wrap, IntKind.bits, IntKind.signed]
  omega
theorem xor_i64 (x y : Int) : I64 (bits .xor .i64 x y) := wrap_i64 _
theorem ofInt_mod {x y : Int} (h : x % 18446744073709551616 = y % 18446744073709551616) : BitVec.ofInt 64 x = BitVec.ofInt 64 y := by
  apply BitVec.eq_of_toNat_eq
  rw [BitVec.toNat_ofInt, BitVec.toNat_ofInt]
  exact congrArg Int.toNat h
theorem or_one (b : Int) : BitVec.ofInt 64 (bits .or .i64 b 1) = BitVec.ofInt 64 b ||| 1#64 := by
  have e1 : bits .or .i64 b 1 = IntKind.i64.wrap ((BitVec.ofInt 64 b ||| BitVec.ofInt 64 1).toNat : Int) := rfl
  rw [e1, ofInt_mod (wrap_mod _)]
  apply BitVec.eq_of_toNat_eq
  rw [BitVec.toNat_ofInt]
  have := (BitVec.ofInt 64 b ||| BitVec.ofInt 64 1).isLt
  have e3 : BitVec.ofInt 64 1 = 1#64 := rfl
  rw [e3] at *
  omega
theorem or_bit (b : Int) : ¬ BitVec.ofInt 64 (bits .or .i64 b 1) = 0#64 := by
  rw [or_one]
  intro h
  have := congrArg (fun v => v.getLsbD 0) h
  simp at this
theorem or_ne (b : Int) : ¬ bits .or .i64 b 1 = 0 := fun h => or_bit b (by rw [h]; rfl)
theorem or_i64 (x y : Int) : I64 (bits .or .i64 x y) := wrap_i64 _
theorem xor_nz {x y : Int} (hy : ¬ BitVec.ofInt 64 y = 0#64) : ¬ bits .xor .i64 x y = x := by
  intro h
  have e1 : bits .xor .i64 x y = IntKind.i64.wrap ((BitVec.ofInt 64 x ^^^ BitVec.ofInt 64 y).toNat : Int) := rfl
  have e2 : BitVec.ofInt 64 (bits .xor .i64 x y) = BitVec.ofInt 64 x ^^^ BitVec.ofInt 64 y := by
    rw [e1, ofInt_mod (wrap_mod _)]
    apply BitVec.eq_of_toNat_eq
    rw [BitVec.toNat_ofInt]
    have := (BitVec.ofInt 64 x ^^^ BitVec.ofInt 64 y).isLt
    omega
  rw [h] at e2
  have h3 := congrArg (fun z => BitVec.ofInt 64 x ^^^ z) e2
  rw [BitVec.xor_self, ← BitVec.xor_assoc, BitVec.xor_self, BitVec.zero_xor] at h3
  exact hy h3.symm
theorem box_six {w : World} {D : Nat} {t : TypeId} {a b c d e f : Value} (hD : w.heap[D]? = some (.cells #[a, b, c, d, e, f] t)) : w.cell? ⟨D, 0, none⟩ = some a ∧ w.cell? ⟨D, 1, none⟩ = some b ∧ w.cell? ⟨D, 2, none⟩ = some c ∧ w.cell? ⟨D, 3, none⟩ = some d ∧ w.cell? ⟨D, 4, none⟩ = some e ∧ w.cell? ⟨D, 5, none⟩ = some f := by
  refine ⟨?_, ?_, ?_, ?_, ?_, ?_⟩ <;> simp [World.cell?, hD]
/-! How a cell may be spoilt. -/
theorem sp0 {M : Int} {X : Cl} (h : CG M X) : cg M ⟨X.n + 1, X.s0, X.s1, X.b0, X.b1⟩ = false := cg_no (fun g => by have a := g.2.1.2.1; have b := h.2.1.2.1; simp only at a; omega)
theorem sp1 {M Z : Int} {X : Cl} (h : CG M X) (hz : ¬ Z = X.s0) : cg M ⟨X.n, Z, X.s1, X.b0, X.b1⟩ = false := cg_no (fun g => hz (g.2.1.2.2.symm.trans h.2.1.2.2))
theorem sp2 {M : Int} {X : Cl} {b : List Rn} (h : CG M X) (hb : ¬ tot b = tot X.b0) : cg M ⟨X.n, X.s0, X.s1, b, X.b1⟩ = false := cg_no (fun g => hb (g.2.1.2.1.trans h.2.1.2.1.symm))
theorem sp3 {M : Int} {X : Cl} {b : List Rn} (hb : ¬ Bag b) : cg M ⟨X.n, X.s0, X.s1, b, X.b1⟩ = false := cg_no (fun g => hb g.2.1.1)
theorem sp4 {X : Cl} (h : CG 2 X) : cg 2 ⟨X.n, X.s0, X.s1, X.b0, []⟩ = false := cg_no (fun g => by
  have a := (cg_two1 g).2.1
  have b := h.1.1
  simp only [tot] at a
  omega)
theorem sp5 {Z : Int} {X : Cl} (hz : ¬ Z = 0) : cg 1 ⟨X.n, X.s0, Z, X.b0, []⟩ = false := cg_no (fun g => hz (cg_one1 g).1)
theorem csm_gd {M : Int} {X Y : Cl} (h : CG M X) (g : cg M Y = false) : csm X Y = false := csm_no (fun e => by rw [← e, cg_yes h] at g; cases g)
theorem open_spoil {H : Type} {enc : TypeId × Value → H} {W : World} {base b0 : Nat} {spare : Nat → Bool} {held : Bool} {r : Reach} {v : Value} {d : DataW H} {p : List MemPlace}
    (hv : Value.okWide Try.prog W r b0 63 v) (h : DataW.Trod enc Try.prog W base spare held 63 v d p) : ∃ x y : Int, v = .agg #[.int .u8 x, .int .i64 y] ∧ U8 x ∧ I64 y := by
  have hO : Try.prog.cellsOf 2 = 1 := by kernel_rfl
  have hU : Try.prog.cellsOf 5 = 1 := by kernel_rfl
  have hC : Try.prog.cellsOf 63 = 2 := by kernel_rfl
  obtain ⟨cs, rfl, hsz⟩ := okWide_struct Try.underlying63 hv
  rw [hC] at hsz
  obtain ⟨fuel, hf⟩ := h
  obtain ⟨c0, c1, rfl⟩ : ∃ c0 c1, cs = #[c0, c1] := by
    obtain ⟨l⟩ := cs
    match l, hsz with
    | [c0, c1], _ => exact ⟨_, _, rfl⟩
  have hf' : DataW.trod enc Try.prog W base spare held fuel 63 [c0, c1] = some (d, p) := hf
  obtain ⟨xs, m, _, _, _, hl, hg⟩ := DataW.trod_struct Try.underlying63 hf'
  have g0 := hg 0
  have g1 := hg 1
  simp [hO, hU] at g0 g1
  match xs, hl with
  | [y0, y1], _ =>
    obtain ⟨a, e0, _, w0⟩ := DataW.trod_int Try.underlying5 g0
    obtain ⟨b, e1, _, w1⟩ := DataW.trod_int Try.underlying2 g1
    simp at e0 e1
    subst e0 e1
    exact ⟨a, b, rfl, bounds_u8 w0, bounds_i64 w1⟩
theorem append_nr {w : World} {ops : Array Oper} {rest : List Oper} {o : Oper} {a : Act} {Q : Exit → Act → World → Prop} (hgd : o.guard = none) (s x : Operand)
    (ho : o.op = .call { callee := .builtin .append, args := #[s, x], argTypes := #[23, 23] }) (base g n cap : Nat) (xs : List Rn)
    (hs : a.eval s = .slice (some ⟨g, 0, none⟩) n cap) (hown : w.ownsRow base 65 2 (.slice (some ⟨g, 0, none⟩) n cap) n (ncells xs))
    (ad : Addr) (m c : Nat) (ys : List Rn) (hx : a.eval x = .slice (some ad) m c) (hr : NRun w (some ad) m c ys) (hn : n + m ≤ 1000000) (hbase : base ≤ w.heap.size) (N : Nat) (hN : n + m = N) (zs : List Rn) (hz : xs ++ ys = zs)
    (h : ∀ g' cap' w', w'.ownsRow base 65 2 (.slice (some ⟨g', 0, none⟩) N cap') N (ncells zs) → w.grownBy w' (some g) → wpList Try.prog ops Q rest (a.put o.dst (.slice (some ⟨g', 0, none⟩) N cap')) w') : wpList Try.prog ops Q (o :: rest) a w := by
  subst hN
  subst hz
  obtain ⟨i0, hi, hz0, hz1, hz2⟩ := info_parts info_nr
  refine wpList_append_own w hgd s x 23 ho base 65 i0 _ 2 16 Try.underlying23 hi hz0 hz1 hz2 rfl (by decide) _ n (ncells xs) hs hown ad m c (ncells ys) hx (by rw [ncells_len, hr.1]) (nrun_src hr) (ncells_one _) (by unfold maxLen; omega) (by omega) hbase ?_
  intro v' w' hown' hgrow' hiff
  obtain ⟨g', cap', rfl⟩ := nown_form hown' (fun e => by have := (hiff.mp e).1; cases this)
  rw [← ncells_app] at hown'
  exact h g' cap' w' hown' hgrow'
/-- At a step of a region that draws: any slice of runs behind a row of one's own. -/
theorem step_append_nr (w : World) {ops : Array Oper} {o : Oper} {a : Act} {K : Act → World → Prop} {Q : Exit → Act → World → Prop} {E : Prop} (hgd : o.guard = none) (s x : Operand)
    (ho : o.op = .call { callee := .builtin .append, args := #[s, x], argTypes := #[23, 23] }) (base g n cap : Nat) (xs : List Rn)
    (hs : a.eval s = .slice (some ⟨g, 0, none⟩) n cap) (hown : w.ownsRow base 65 2 (.slice (some ⟨g, 0, none⟩) n cap) n (ncells xs))
    (ad : Addr) (m c : Nat) (ys : List Rn) (hx : a.eval x = .slice (some ad) m c) (hr : NRun w (some ad) m c ys) (hn : n + m ≤ 1000000) (hbase : base ≤ w.heap.size) (N : Nat) (zs : List Rn) (hN : n + m = N) (hz : xs ++ ys = zs)
    (h : ∀ g' cap' w', w'.ownsRow base 65 2 (.slice (some ⟨g', 0, none⟩) N cap') N (ncells zs) → w.grownBy w' (some g) → K (a.put o.dst (.slice (some ⟨g', 0, none⟩) N cap')) w') :
    if Region.wanted o (yielded ops a.tmps) = true then Oper.wp Try.prog o a w K Q else E := by
  subst hN hz
  have hw : Region.wanted o (yielded ops a.tmps) = true := by simp [Region.wanted, hgd]
  rw [if_pos hw]
  obtain ⟨i0, hi, hz0, hz1, hz2⟩ := info_parts info_nr
  obtain ⟨v', w', hr', h2, h3, hiff⟩ := run_append_own (P := Try.prog) w base 23 o.type 65 i0 _ 2 16 Try.underlying23 hi hz0 hz1 hz2 rfl (by decide) _ n (ncells xs) hown ad m c (ncells ys) (by rw [ncells_len, hr.1]) (nrun_src hr) (ncells_one _) (by unfold maxLen; omega) (by omega) hbase
  unfold Oper.wp execOp
  simp only [ho, resolve, invoke, builtin, Sem.run_bind, Sem.run_pure, Result.andThen_ok, List.map_toArray, List.map_cons, List.map_nil, hs, hx, hr']
  obtain ⟨g', cap', rfl⟩ := nown_form h2 (fun e => by have := (hiff.mp e).1; cases this)
  rw [← ncells_app] at h2
  exact h g' cap' w' h2 h3
theorem nown_at (w : World) (base N : Nat) (hN : N = w.heap.size) (hb : base ≤ w.heap.size) : (w.alloc (.cells #[] 65)).ownsRow base 65 2 (.slice (some ⟨N, 0, none⟩) 0 0) 0 (ncells []) := by subst hN; exact nown_made w base hb
theorem nrun_1 (w : World) (N : Nat) (p q : Int) (t : TypeId) (hN : w.heap.size = N) : NRun (w.alloc (.cells #[.int .i64 p, .int .i64 q] t)) (some ⟨N, 0, none⟩) 1 1 [(p, q)] :=
  nrun_heap (l := [(p, q)]) (t := t) (hnew hN) (by simp)
theorem nrun_pre {w : World} {a : Option Addr} {p c : Nat} {l : List Rn} (h : NRun w a p c l) {n : Nat} (hn : n ≤ p) : NRun w a n c (l.take n) := by
  obtain ⟨h1, h2, h3, h4, h5⟩ := h
  refine ⟨by rw [List.length_take]; omega, by omega, h3, h4, fun h0 => ?_⟩
  obtain ⟨b, off, e, hlt, hl⟩ := h5 (by omega)
  refine ⟨b, off, e, hlt, fun j r hj i v hi => hl j r ?_ i v hi⟩
  rw [List.getElem?_take] at hj
  split at hj
  · exact hj
  · cases hj
theorem ofC_yes_ok {M : Int} {l : List Rw} (h : ofB M l = true) (hl : l.length ≤ 1000) : CG M (ofC M l) := cg_iff.1 (ofC_good h hl)

set_option maxHeartbeats 64000000 in
theorem spoilt_walk (t : Bool) (a : Option Addr) (n c : Nat) (l : List Rw) (h b : Int) (w : World) (hl : RRow w a n c l) (hkl : ∀ r ∈ l, rok r) (hh : U8 h) (hb0 : I64 b) :
    Calls Try.prog 8 #[.bool t, .slice a n c, .agg #[.int .u8 h, .int .i64 b]] w fun e w' => e = .returned (.bool true) ∧ Below w.heap.size w w' := by
  have HL := hid hl
  have KL := hid hkl
  obtain ⟨l1, l2⟩ := hl.lens
  have EL := hid l1
  have eql := eqL3
  have KS0 := hid (kp_new w (.cells #[.int .u8 h, .int .i64 b] 63))
  clear hl hkl l1
  by_cases hbig : 60 < n
  · have hd1 : decide ((60 : Int) < (n : Int)) = true := decide_eq_true (by omega)
    have hi1 : (60 : Int) < (n : Int) := by omega
    go_enter Try.func8, Try.ntmps8
    go_wp2_with (go_at_call 15; refine (wakes_any _).mono ?_; rintro e w13 ⟨rfl, hb⟩)
    go_ret
    exact ⟨rfl, bt KS0.out.1 hb⟩
  · have hd1 : decide ((60 : Int) < (n : Int)) = false := decide_eq_false (by omega)
    have n1 : n ≤ 1000 := by omega
    obtain ⟨M, hM⟩ : ∃ y : Int, (if t then (2 : Int) else 1) = y := ⟨_, rfl⟩
    have HM := hid hM
    obtain ⟨X, hX⟩ : ∃ y, ofC M l = y := ⟨_, rfl⟩
    obtain ⟨v, hv⟩ : ∃ y, ofB M l = y := ⟨_, rfl⟩
    have EX := hid hX
    have EV := hid hv
    have OX : Hid (okc X) := hid (by rw [← hX]; exact ofC_ok KL.out (by have := EL.out; omega))
    have lenx : X.b0.length ≤ 60 ∧ X.b1.length ≤ 60 := by rw [← hX]; have := ofC_len M l; have := EL.out; omega
    have LX := hid lenx
    clear hM hX hv hbig lenx
    go_enter Try.func8, Try.ntmps8
    go_upto_region 1 with fail
    generalize w.alloc (.cells #[.int .u8 h, .int .i64 b] 63) = W1 at KS0 ⊢
    go_upto_region 5 with (first
      | (go_at_call 26; refine (many_m t M _ HM).mono ?_; rintro e w1 ⟨rfl, hw⟩; have hw2 := hw.symm; clear hw; subst hw2)
      | (go_at_call 16; refine (crof_m M _ _ _ l X v _ (HL.out.below KS0.out.1) KL.out n1 EX EV).mono ?_; rintro e w2 ⟨⟨a0, p0, k0, a1, p1, k1, rfl, hcw⟩, hb⟩; have XX := hid hcw; replace KS0 := hid (KS0.out.step hb); clear hcw hb))
    have KX : Hid (Kp w (w2.alloc (.cells #[.int .i64 X.n, .int .i64 X.s0, .int .i64 X.s1, .slice a0 p0 k0, .slice a1 p1 k1, .bool v] 36)) w2.heap.size (.cells #[.int .i64 X.n, .int .i64 X.s0, .int .i64 X.s1, .slice a0 p0 k0, .slice a1 p1 k1, .bool v] 36)) := hid (kp_new2 KS0.out.1 _ _ rfl)
    replace KS0 := hid (kp_alloc KS0.out (.cells #[.int .i64 X.n, .int .i64 X.s0, .int .i64 X.s1, .slice a0 p0 k0, .slice a1 p1 k1, .bool v] 36))
    replace XX := hid (XX.out.below (b1alloc w2 (.cells #[.int .i64 X.n, .int .i64 X.s0, .int .i64 X.s1, .slice a0 p0 k0, .slice a1 p1 k1, .bool v] 36)))
    generalize w2.alloc (.cells #[.int .i64 X.n, .int .i64 X.s0, .int .i64 X.s1, .slice a0 p0 k0, .slice a1 p1 k1, .bool v] 36) = W6 at KS0 KX XX ⊢
    generalize w2.heap.size = NX at KX ⊢
    obtain ⟨fx0, fx1, fx2, fx3, fx4, fx5⟩ := box_six KX.out.2.2
    have PX := hid (cw_len XX.out)
    cases v with
    | false =>
      go_wp2_with (go_at_call 15; refine (wakes_any _).mono ?_; rintro e w13 ⟨rfl, hb⟩)
      go_ret
      exact ⟨rfl, bt KS0.out.1 hb⟩
    | true =>
      have GX : Hid (CG M X) := hid (by rw [← EX.out]; exact ofC_yes_ok EV.out (by have := EL.out; omega))
      have nb := GX.out.1
      obtain ⟨nb1, nb2⟩ := nb
      go_upto_region 8 with fail
      clear fx0 fx1 fx2 fx3 fx4 fx5
      have KY : Hid (Kp w (W6.alloc (.cells #[.int .i64 X.n, .int .i64 X.s0, .int .i64 X.s1, .slice a0 p0 k0, .slice a1 p1 k1] 26)) W6.heap.size (.cells #[.int .i64 X.n, .int .i64 X.s0, .int .i64 X.s1, .slice a0 p0 k0, .slice a1 p1 k1] 26)) := hid (kp_new2 KS0.out.1 _ _ rfl)
      have XX6 := XX
      have KX6 := KX
      have hsp := kp_alloc KS0.out (.cells #[.int .i64 X.n, .int .i64 X.s0, .int .i64 X.s1, .slice a0 p0 k0, .slice a1 p1 k1] 26)
      obtain ⟨sp0', sp1'⟩ := box_two hsp.2.2
      have B67 := hid (b1alloc W6 (.cells #[.int .i64 X.n, .int .i64 X.s0, .int .i64 X.s1, .slice a0 p0 k0, .slice a1 p1 k1] 26))
      clear XX KX hsp
      generalize W6.alloc (.cells #[.int .i64 X.n, .int .i64 X.s0, .int .i64 X.s1, .slice a0 p0 k0, .slice a1 p1 k1] 26) = W7 at KY B67 sp0' sp1' ⊢
      obtain ⟨hh0, hh1⟩ := hh
      obtain ⟨k, hk⟩ : ∃ k : Nat, h % 5 = k ∧ k < 5 := ⟨(h % 5).toNat, by omega⟩
      obtain ⟨hmod, hk5⟩ := hk
      have hk' : k = 0 ∨ k = 1 ∨ k = 2 ∨ k = 3 ∨ k = 4 := by omega
      clear hk5
      rcases hk' with rfl | rfl | rfl | rfl | rfl
      · have ek : (h % 5 : Int) = 0 := by rw [hmod]; rfl
        have ek2 : h.tmod 5 = 0 := by rw [Int.tmod_eq_emod_of_nonneg (by omega)]; exact ek
        have hwn : IntKind.i64.wrap (X.n + 1) = X.n + 1 := IntWalk.i64_in _ (by omega)
        have cz := kp_cell (j := 0) (v := .int .i64 X.n) KY.out rfl
        have fz := kp_froz KY.out 0
        obtain ⟨fy0, fy1, fy2, fy3, fy4⟩ := box_five KY.out.2.2
        go_upto_region 24 with fail
        have BC : Hid (Below W6.heap.size W6 (W7.setCell ⟨W6.heap.size, 0, none⟩ (.int .i64 (X.n + 1)))) := hid (B67.out.setCell (p := ⟨W6.heap.size, 0, none⟩) (Nat.le_refl _) (.int .i64 (X.n + 1)))
        replace KY : Hid (Kp w _ W6.heap.size (.cells #[.int .i64 (X.n + 1), .int .i64 X.s0, .int .i64 X.s1, .slice a0 p0 k0, .slice a1 p1 k1] 26)) := hid (kp_set (j := 0) (v := .int .i64 (X.n + 1)) KY.out)
        have XX := hid (XX6.out.below BC.out)
        have YY : Hid (CW _ a0 p0 k0 a1 p1 k1 ⟨X.n + 1, X.s0, X.s1, X.b0, X.b1⟩) := hid (⟨XX.out.1, XX.out.2⟩)
        have KX := hid (KX6.out.step BC.out)
        clear cz fz fy0 fy1 fy2 fy3 fy4 BC
        generalize (W7.setCell ⟨W6.heap.size, 0, none⟩ (.int .i64 (X.n + 1))) = Wm at KX KY XX YY ⊢
        have OY : Hid (okc ⟨X.n + 1, X.s0, X.s1, X.b0, X.b1⟩) := hid ⟨by show I64 (X.n + 1); unfold I64; omega, OX.out.2⟩
        have GY : Hid (cg M ⟨X.n + 1, X.s0, X.s1, X.b0, X.b1⟩ = false) := hid (sp0 GX.out)
        have NE : Hid (csm X ⟨X.n + 1, X.s0, X.s1, X.b0, X.b1⟩ = false) := hid (csm_gd GX.out GY.out)
        have tk1 : True := trivial
        obtain ⟨fx0, fx1, fx2, fx3, fx4, fx5⟩ := box_six KX.out.2.2
        obtain ⟨fy0, fy1, fy2, fy3, fy4⟩ := box_five KY.out.2.2
        go_upto_region 25 with (go_at_call 23; refine (cjoin_m M X ⟨X.n + 1, X.s0, X.s1, X.b0, X.b1⟩ _ _ _ _ _ _ _ _ _ _ _ _ cl0 false _ XX.out YY.out OX.out OY.out (by have := PX.out; have := LX.out; omega) (hid (cjC_no (cjB_b GY.out))) (hid (cjB_b GY.out))).mono ?_; rintro e w7 ⟨⟨r0, r1, r2, r3, r4, r5, rfl, hcw⟩, hb⟩; replace KX := hid (KX.out.step hb); replace KY := hid (KY.out.step hb); replace XX := hid (XX.out.below hb); replace YY := hid (YY.out.below hb); clear hcw hb fx0 fx1 fx2 fx3 fx4 fx5 fy0 fy1 fy2 fy3 fy4)
        replace KX := hid (kp_alloc KX.out (.cells #[.int .i64 cl0.n, .int .i64 cl0.s0, .int .i64 cl0.s1, .slice r0 r1 r2, .slice r3 r4 r5] 26))
        replace KY := hid (kp_alloc KY.out (.cells #[.int .i64 cl0.n, .int .i64 cl0.s0, .int .i64 cl0.s1, .slice r0 r1 r2, .slice r3 r4 r5] 26))
        replace XX := hid (XX.out.below (b1alloc w7 (.cells #[.int .i64 cl0.n, .int .i64 cl0.s0, .int .i64 cl0.s1, .slice r0 r1 r2, .slice r3 r4 r5] 26)))
        replace YY := hid (YY.out.below (b1alloc w7 (.cells #[.int .i64 cl0.n, .int .i64 cl0.s0, .int .i64 cl0.s1, .slice r0 r1 r2, .slice r3 r4 r5] 26)))
        generalize w7.alloc (.cells #[.int .i64 cl0.n, .int .i64 cl0.s0, .int .i64 cl0.s1, .slice r0 r1 r2, .slice r3 r4 r5] 26) = W7b at KX KY XX YY ⊢
        obtain ⟨fx0, fx1, fx2, fx3, fx4, fx5⟩ := box_six KX.out.2.2
        obtain ⟨fy0, fy1, fy2, fy3, fy4⟩ := box_five KY.out.2.2
        go_upto_region 26 with (go_at_call 23; refine (cjoin_m M ⟨X.n + 1, X.s0, X.s1, X.b0, X.b1⟩ X _ _ _ _ _ _ _ _ _ _ _ _ cl0 false _ YY.out XX.out OY.out OX.out (by have := PX.out; have := LX.out; omega) (hid (cjC_no (cjB_a GY.out))) (hid (cjB_a GY.out))).mono ?_; rintro e w8 ⟨⟨s0', s1', s2', s3', s4', s5', rfl, hcw⟩, hb⟩; replace KX := hid (KX.out.step hb); replace KY := hid (KY.out.step hb); replace XX := hid (XX.out.below hb); replace YY := hid (YY.out.below hb); clear hcw hb fx0 fx1 fx2 fx3 fx4 fx5 fy0 fy1 fy2 fy3 fy4)
        replace KX := hid (kp_alloc KX.out (.cells #[.int .i64 cl0.n, .int .i64 cl0.s0, .int .i64 cl0.s1, .slice s0' s1' s2', .slice s3' s4' s5'] 26))
        replace KY := hid (kp_alloc KY.out (.cells #[.int .i64 cl0.n, .int .i64 cl0.s0, .int .i64 cl0.s1, .slice s0' s1' s2', .slice s3' s4' s5'] 26))
        replace XX := hid (XX.out.below (b1alloc w8 (.cells #[.int .i64 cl0.n, .int .i64 cl0.s0, .int .i64 cl0.s1, .slice s0' s1' s2', .slice s3' s4' s5'] 26)))
        replace YY := hid (YY.out.below (b1alloc w8 (.cells #[.int .i64 cl0.n, .int .i64 cl0.s0, .int .i64 cl0.s1, .slice s0' s1' s2', .slice s3' s4' s5'] 26)))
        generalize w8.alloc (.cells #[.int .i64 cl0.n, .int .i64 cl0.s0, .int .i64 cl0.s1, .slice s0' s1' s2', .slice s3' s4' s5'] 26) = W8 at KX KY XX YY ⊢
        obtain ⟨fx0, fx1, fx2, fx3, fx4, fx5⟩ := box_six KX.out.2.2
        obtain ⟨fy0, fy1, fy2, fy3, fy4⟩ := box_five KY.out.2.2
        go_wp2_with (first
          | (go_at_call 19; clear tk1; refine (cgood_m M X _ _ _ _ _ _ true _ XX.out OX.out (hid (cg_yes GX.out))).mono ?_; rintro e w9 ⟨rfl, hb⟩; replace KX := hid (KX.out.step hb); replace KY := hid (KY.out.step hb); replace XX := hid (XX.out.below hb); replace YY := hid (YY.out.below hb); obtain ⟨fx0, fx1, fx2, fx3, fx4, fx5⟩ := box_six KX.out.2.2; obtain ⟨fy0, fy1, fy2, fy3, fy4⟩ := box_five KY.out.2.2; clear hb)
          | (go_at_call 19; refine (cgood_m M ⟨X.n + 1, X.s0, X.s1, X.b0, X.b1⟩ _ _ _ _ _ _ false _ YY.out OY.out GY).mono ?_; rintro e w10 ⟨rfl, hb⟩; replace KX := hid (KX.out.step hb); replace KY := hid (KY.out.step hb); replace XX := hid (XX.out.below hb); replace YY := hid (YY.out.below hb); obtain ⟨fx0, fx1, fx2, fx3, fx4, fx5⟩ := box_six KX.out.2.2; obtain ⟨fy0, fy1, fy2, fy3, fy4⟩ := box_five KY.out.2.2; clear hb)
          | (go_at_call 25; refine (csame_m X ⟨X.n + 1, X.s0, X.s1, X.b0, X.b1⟩ _ _ _ _ _ _ _ _ _ _ _ _ false _ XX.out YY.out NE).mono ?_; rintro e w11 ⟨rfl, hb⟩; replace KX := hid (KX.out.step hb); replace KY := hid (KY.out.step hb); replace XX := hid (XX.out.below hb); replace YY := hid (YY.out.below hb); obtain ⟨fx0, fx1, fx2, fx3, fx4, fx5⟩ := box_six KX.out.2.2; obtain ⟨fy0, fy1, fy2, fy3, fy4⟩ := box_five KY.out.2.2; clear hb)
          | (go_at_call 21; refine (cline_m M 1 0 0 0 ⟨X.n + 1, X.s0, X.s1, X.b0, X.b1⟩ _ _ _ _ _ _ (.agg #[.int .u8 0, .int .u8 0, .int .u8 0, .int .u8 0, .int .i64 0, .int .i64 0, .int .i64 0, .int .i64 0, .int .i64 0, .int .i64 0, .int .i64 0]) _ YY.out OY.out (hid (lineV_no GY.out))).mono ?_; rintro e w12 ⟨rfl, hb⟩; replace KX := hid (KX.out.step hb); replace KY := hid (KY.out.step hb); replace XX := hid (XX.out.below hb); replace YY := hid (YY.out.below hb); clear hb)
          | (go_at_call 15; refine (wakes_any _).mono ?_; rintro e w13 ⟨rfl, hb⟩; replace KX := hid (KX.out.step hb); replace KY := hid (KY.out.step hb); replace XX := hid (XX.out.below hb); replace YY := hid (YY.out.below hb); clear hb))
        go_ret
        exact ⟨rfl, KY.out.1⟩
      · have ek : (h % 5 : Int) = 1 := by rw [hmod]; rfl
        have ek2 : h.tmod 5 = 1 := by rw [Int.tmod_eq_emod_of_nonneg (by omega)]; exact ek
        obtain ⟨O, hO⟩ : ∃ y, bits .or .i64 b 1 = y := ⟨_, rfl⟩
        obtain ⟨Z, hZ⟩ : ∃ y, bits .xor .i64 X.s0 O = y := ⟨_, rfl⟩
        have HO := hid hO
        have HZ := hid hZ
        have cz := kp_cell (j := 1) (v := .int .i64 X.s0) KY.out rfl
        have fz := kp_froz KY.out 1
        obtain ⟨fy0, fy1, fy2, fy3, fy4⟩ := box_five KY.out.2.2
        go_upto_region 24 with fail
        have BC : Hid (Below W6.heap.size W6 (W7.setCell ⟨W6.heap.size, 1, none⟩ (.int .i64 Z))) := hid (B67.out.setCell (p := ⟨W6.heap.size, 1, none⟩) (Nat.le_refl _) (.int .i64 Z))
        replace KY : Hid (Kp w _ W6.heap.size (.cells #[.int .i64 X.n, .int .i64 Z, .int .i64 X.s1, .slice a0 p0 k0, .slice a1 p1 k1] 26)) := hid (kp_set (j := 1) (v := .int .i64 Z) KY.out)
        have XX := hid (XX6.out.below BC.out)
        have YY : Hid (CW _ a0 p0 k0 a1 p1 k1 ⟨X.n, Z, X.s1, X.b0, X.b1⟩) := hid (⟨XX.out.1, XX.out.2⟩)
        have KX := hid (KX6.out.step BC.out)
        clear cz fz fy0 fy1 fy2 fy3 fy4 BC
        generalize (W7.setCell ⟨W6.heap.size, 1, none⟩ (.int .i64 Z)) = Wm at KX KY XX YY ⊢
        have OY : Hid (okc ⟨X.n, Z, X.s1, X.b0, X.b1⟩) := hid ⟨OX.out.1, by show I64 Z; rw [← HZ.out]; exact xor_i64 _ _, OX.out.2.2⟩
        have GY : Hid (cg M ⟨X.n, Z, X.s1, X.b0, X.b1⟩ = false) := hid (sp1 GX.out (by rw [← HZ.out]; exact xor_nz (by rw [← HO.out]; exact or_bit b)))
        have NE : Hid (csm X ⟨X.n, Z, X.s1, X.b0, X.b1⟩ = false) := hid (csm_gd GX.out GY.out)
        have tk1 : True := trivial
        obtain ⟨fx0, fx1, fx2, fx3, fx4, fx5⟩ := box_six KX.out.2.2
        obtain ⟨fy0, fy1, fy2, fy3, fy4⟩ := box_five KY.out.2.2
        go_upto_region 25 with (go_at_call 23; refine (cjoin_m M X ⟨X.n, Z, X.s1, X.b0, X.b1⟩ _ _ _ _ _ _ _ _ _ _ _ _ cl0 false _ XX.out YY.out OX.out OY.out (by have := PX.out; have := LX.out; omega) (hid (cjC_no (cjB_b GY.out))) (hid (cjB_b GY.out))).mono ?_; rintro e w7 ⟨⟨r0, r1, r2, r3, r4, r5, rfl, hcw⟩, hb⟩; replace KX := hid (KX.out.step hb); replace KY := hid (KY.out.step hb); replace XX := hid (XX.out.below hb); replace YY := hid (YY.out.below hb); clear hcw hb fx0 fx1 fx2 fx3 fx4 fx5 fy0 fy1 fy2 fy3 fy4)
        replace KX := hid (kp_alloc KX.out (.cells #[.int .i64 cl0.n, .int .i64 cl0.s0, .int .i64 cl0.s1, .slice r0 r1 r2, .slice r3 r4 r5] 26))
        replace KY := hid (kp_alloc KY.out (.cells #[.int .i64 cl0.n, .int .i64 cl0.s0, .int .i64 cl0.s1, .slice r0 r1 r2, .slice r3 r4 r5] 26))
        replace XX := hid (XX.out.below (b1alloc w7 (.cells #[.int .i64 cl0.n, .int .i64 cl0.s0, .int .i64 cl0.s1, .slice r0 r1 r2, .slice r3 r4 r5] 26)))
        replace YY := hid (YY.out.below (b1alloc w7 (.cells #[.int .i64 cl0.n, .int .i64 cl0.s0, .int .i64 cl0.s1, .slice r0 r1 r2, .slice r3 r4 r5] 26)))
        generalize w7.alloc (.cells #[.int .i64 cl0.n, .int .i64 cl0.s0, .int .i64 cl0.s1, .slice r0 r1 r2, .slice r3 r4 r5] 26) = W7b at KX KY XX YY ⊢
        obtain ⟨fx0, fx1, fx2, fx3, fx4, fx5⟩ := box_six KX.out.2.2
        obtain ⟨fy0, fy1, fy2, fy3, fy4⟩ := box_five KY.out.2.2
        go_upto_region 26 with (go_at_call 23; refine (cjoin_m M ⟨X.n, Z, X.s1, X.b0, X.b1⟩ X _ _ _ _ _ _ _ _ _ _ _ _ cl0 false _ YY.out XX.out OY.out OX.out (by have := PX.out; have := LX.out; omega) (hid (cjC_no (cjB_a GY.out))) (hid (cjB_a GY.out))).mono ?_; rintro e w8 ⟨⟨s0', s1', s2', s3', s4', s5', rfl, hcw⟩, hb⟩; replace KX := hid (KX.out.step hb); replace KY := hid (KY.out.step hb); replace XX := hid (XX.out.below hb); replace YY := hid (YY.out.below hb); clear hcw hb fx0 fx1 fx2 fx3 fx4 fx5 fy0 fy1 fy2 fy3 fy4)
        replace KX := hid (kp_alloc KX.out (.cells #[.int .i64 cl0.n, .int .i64 cl0.s0, .int .i64 cl0.s1, .slice s0' s1' s2', .slice s3' s4' s5'] 26))
        replace KY := hid (kp_alloc KY.out (.cells #[.int .i64 cl0.n, .int .i64 cl0.s0, .int .i64 cl0.s1, .slice s0' s1' s2', .slice s3' s4' s5'] 26))
        replace XX := hid (XX.out.below (b1alloc w8 (.cells #[.int .i64 cl0.n, .int .i64 cl0.s0, .int .i64 cl0.s1, .slice s0' s1' s2', .slice s3' s4' s5'] 26)))
        replace YY := hid (YY.out.below (b1alloc w8 (.cells #[.int .i64 cl0.n, .int .i64 cl0.s0, .int .i64 cl0.s1, .slice s0' s1' s2', .slice s3' s4' s5'] 26)))
        generalize w8.alloc (.cells #[.int .i64 cl0.n, .int .i64 cl0.s0, .int .i64 cl0.s1, .slice s0' s1' s2', .slice s3' s4' s5'] 26) = W8 at KX KY XX YY ⊢
        obtain ⟨fx0, fx1, fx2, fx3, fx4, fx5⟩ := box_six KX.out.2.2
        obtain ⟨fy0, fy1, fy2, fy3, fy4⟩ := box_five KY.out.2.2
        go_wp2_with (first
          | (go_at_call 19; clear tk1; refine (cgood_m M X _ _ _ _ _ _ true _ XX.out OX.out (hid (cg_yes GX.out))).mono ?_; rintro e w9 ⟨rfl, hb⟩; replace KX := hid (KX.out.step hb); replace KY := hid (KY.out.step hb); replace XX := hid (XX.out.below hb); replace YY := hid (YY.out.below hb); obtain ⟨fx0, fx1, fx2, fx3, fx4, fx5⟩ := box_six KX.out.2.2; obtain ⟨fy0, fy1, fy2, fy3, fy4⟩ := box_five KY.out.2.2; clear hb)
          | (go_at_call 19; refine (cgood_m M ⟨X.n, Z, X.s1, X.b0, X.b1⟩ _ _ _ _ _ _ false _ YY.out OY.out GY).mono ?_; rintro e w10 ⟨rfl, hb⟩; replace KX := hid (KX.out.step hb); replace KY := hid (KY.out.step hb); replace XX := hid (XX.out.below hb); replace YY := hid (YY.out.below hb); obtain ⟨fx0, fx1, fx2, fx3, fx4, fx5⟩ := box_six KX.out.2.2; obtain ⟨fy0, fy1, fy2, fy3, fy4⟩ := box_five KY.out.2.2; clear hb)
          | (go_at_call 25; refine (csame_m X ⟨X.n, Z, X.s1, X.b0, X.b1⟩ _ _ _ _ _ _ _ _ _ _ _ _ false _ XX.out YY.out NE).mono ?_; rintro e w11 ⟨rfl, hb⟩; replace KX := hid (KX.out.step hb); replace KY := hid (KY.out.step hb); replace XX := hid (XX.out.below hb); replace YY := hid (YY.out.below hb); obtain ⟨fx0, fx1, fx2, fx3, fx4, fx5⟩ := box_six KX.out.2.2; obtain ⟨fy0, fy1, fy2, fy3, fy4⟩ := box_five KY.out.2.2; clear hb)
          | (go_at_call 21; refine (cline_m M 1 0 0 0 ⟨X.n, Z, X.s1, X.b0, X.b1⟩ _ _ _ _ _ _ (.agg #[.int .u8 0, .int .u8 0, .int .u8 0, .int .u8 0, .int .i64 0, .int .i64 0, .int .i64 0, .int .i64 0, .int .i64 0, .int .i64 0, .int .i64 0]) _ YY.out OY.out (hid (lineV_no GY.out))).mono ?_; rintro e w12 ⟨rfl, hb⟩; replace KX := hid (KX.out.step hb); replace KY := hid (KY.out.step hb); replace XX := hid (XX.out.below hb); replace YY := hid (YY.out.below hb); clear hb)
          | (go_at_call 15; refine (wakes_any _).mono ?_; rintro e w13 ⟨rfl, hb⟩; replace KX := hid (KX.out.step hb); replace KY := hid (KY.out.step hb); replace XX := hid (XX.out.below hb); replace YY := hid (YY.out.below hb); clear hb))
        go_ret
        exact ⟨rfl, KY.out.1⟩
      · have ek : (h % 5 : Int) = 2 := by rw [hmod]; rfl
        have ek2 : h.tmod 5 = 2 := by rw [Int.tmod_eq_emod_of_nonneg (by omega)]; exact ek
        obtain ⟨u0v, u1v, rest, hb0'⟩ : ∃ u0v u1v rest, X.b0 = (u0v, u1v) :: rest := by
          cases hx : X.b0 with
          | nil => exact absurd hx (rk_ne GX.out.2.1 GX.out.1.1)
          | cons r rest => exact ⟨r.1, r.2, rest, rfl⟩
        have HB0 := hid hb0'
        have hr1 : 1 ≤ u1v ∧ u1v ≤ 1099511627776 := by
          have hbg := GX.out.2.1.1
          have h1 := hbg.2.1 (u0v, u1v) (by rw [hb0']; simp)
          have h2 := cn_le (v := u0v) hbg.2.1
          have h3 := cn_at hbg.1 (k := 0) (r := (u0v, u1v)) (by rw [hb0']; rfl)
          have h4 := hbg.2.2
          simp only at h1 h3
          omega
        obtain ⟨hr1a, hr1b⟩ := hr1
        have hwr : IntKind.i64.wrap (u1v + 1) = u1v + 1 := IntWalk.i64_in _ (by omega)
        have hp0 : 0 < p0 := by have h9 := PX.out.1; rw [hb0'] at h9; simp at h9; omega
        have hp0i : (0 : Int) < (p0 : Int) := by omega
        have hpl : p0 ≤ 60 := by have := PX.out; have := LX.out; omega
        have NX7 := hid ((XX6.out.below B67.out).1)
        have ha0 : ∃ ad, a0 = some ad := by
          obtain ⟨bb, oo, _, _, e, _⟩ := XX6.out.1.pick (Below.refl _ _) hp0
          exact ⟨_, e⟩
        obtain ⟨ad, rfl⟩ := ha0
        clear hb0'
        obtain ⟨fy0, fy1, fy2, fy3, fy4⟩ := box_five KY.out.2.2
        have cz := kp_cell (j := 3) (v := .slice (some ad) p0 k0) KY.out rfl
        have fz := kp_froz KY.out 3
        have hny := heap_lt KY.out.2.2
        have HNY := hid hny
        go_upto_region 18 with (at_builtin; refine append_nr rfl (.tmp 61) (.tmp 64) rfl W7.heap.size W7.heap.size 0 0 [] rfl (nown_at W7 W7.heap.size _ rfl (Nat.le_refl _)) ad p0 k0 X.b0 rfl (NX7.out.below (b1alloc W7 (.cells #[] 65))) (by omega) (by simp) p0 (by omega) X.b0 (by simp) ?_; intro g2 cap2 w8 ho8 hg8; have O8 := hid ho8; have B8 : Hid (Below W7.heap.size W7 w8) := hid ((b1alloc W7 (.cells #[] 65)).trans (grow_below (base := W7.heap.size) hg8 (by simp) (fun k hk => by cases hk; exact Nat.le_refl _))); replace KY := hid (KY.out.step B8.out); have cz8 := kp_cell (j := 3) (v := .slice (some ad) p0 k0) KY.out rfl; have fz8 := kp_froz KY.out 3; clear ho8 hg8)
        clear cz fz hny fy0 fy1 fy2 fy3 fy4 cz8 fz8
        have hg2 := (O8.out.lt g2 rfl).1
        have HG2 : Hid (W6.heap.size < g2) := hid (by have := HNY.out; omega)
        replace KY : Hid (Kp w (w8.setCell ⟨W6.heap.size, 3, none⟩ (.slice (some ⟨g2, 0, none⟩) p0 cap2)) W6.heap.size (.cells #[.int .i64 X.n, .int .i64 X.s0, .int .i64 X.s1, .slice (some ⟨g2, 0, none⟩) p0 cap2, .slice a1 p1 k1] 26)) := hid (kp_set (j := 3) (v := .slice (some ⟨g2, 0, none⟩) p0 cap2) KY.out)
        have O9 : Hid ((w8.setCell ⟨W6.heap.size, 3, none⟩ (.slice (some ⟨g2, 0, none⟩) p0 cap2)).ownsRow W7.heap.size 65 2 (.slice (some ⟨g2, 0, none⟩) p0 cap2) p0 (ncells X.b0)) := hid (by
          have e9 := PX.out.1
          have h9 := O8.out
          rw [e9] at h9 ⊢
          exact own_other (l := X.b0) h9 (set_grown w8 W6.heap.size 3 _) (fun g hg => by have e9 := own_only hg; have := HG2.out; omega))
        have BC : Hid (Below W6.heap.size W6 (w8.setCell ⟨W6.heap.size, 3, none⟩ (.slice (some ⟨g2, 0, none⟩) p0 cap2))) := hid ((bt B67.out B8.out).setCell (p := ⟨W6.heap.size, 3, none⟩) (Nat.le_refl _) _)
        clear O8 hg2
        generalize (w8.setCell ⟨W6.heap.size, 3, none⟩ (.slice (some ⟨g2, 0, none⟩) p0 cap2)) = W9 at KY O9 BC ⊢
        have hn9 := own_nrun O9.out
        obtain ⟨bb, oo, x0, x1, eb, hlt, hr, q0, q1⟩ := hn9.pick (Below.refl _ _) (k := 0) hp0
        cases eb
        simp only [Nat.zero_mul, Nat.add_zero, Nat.zero_add] at q0 q1
        rw [HB0.out] at hr
        simp only [List.getElem?_cons_zero, Option.some.injEq, Prod.mk.injEq] at hr
        rw [← hr.2] at q1
        have fq := O9.out.frozenAt 1
        obtain ⟨fy0, fy1, fy2, fy3, fy4⟩ := box_five KY.out.2.2
        clear hn9 hr
        go_upto_region 24 with fail
        have st := World.ownsRow.stored O9.out 1 (.int .i64 (u1v + 1))
        have O10 := hid st.1
        have G10 := st.2
        replace KY := hid (kp_gr KY.out G10 (Nat.ne_of_lt HG2.out) (Nat.le_trans KS0.out.1.size (Nat.le_of_lt HG2.out)))
        replace BC : Hid (Below W6.heap.size W6 (W9.setCell ⟨g2, 1, none⟩ (.int .i64 (u1v + 1)))) := hid (BC.out.setCell (p := ⟨g2, 1, none⟩) (Nat.le_of_lt HG2.out) _)
        have XX := hid (XX6.out.below BC.out)
        have YY : Hid (CW _ (some ⟨g2, 0, none⟩) p0 cap2 a1 p1 k1 ⟨X.n, X.s0, X.s1, (u0v, u1v + 1) :: rest, X.b1⟩) := hid ⟨own_nrun (by have h9 := O10.out; rw [HB0.out] at h9; exact h9), XX.out.2⟩
        have KX := hid (KX6.out.step BC.out)
        clear q0 q1 fq fy0 fy1 fy2 fy3 fy4 BC O9 O10 G10 st
        generalize (W9.setCell ⟨g2, 1, none⟩ (.int .i64 (u1v + 1))) = Wm at KX KY XX YY ⊢
        have OY : Hid (okc ⟨X.n, X.s0, X.s1, (u0v, u1v + 1) :: rest, X.b1⟩) := hid ⟨OX.out.1, OX.out.2.1, OX.out.2.2.1, (fun r hr => by rcases List.mem_cons.1 hr with rfl | hr; exact ⟨(OX.out.2.2.2.1 (u0v, u1v) (by rw [HB0.out]; simp)).1, by show I64 (u1v + 1); unfold I64; omega⟩; exact OX.out.2.2.2.1 r (by rw [HB0.out]; simp [hr])), OX.out.2.2.2.2⟩
        have GY : Hid (cg M ⟨X.n, X.s0, X.s1, (u0v, u1v + 1) :: rest, X.b1⟩ = false) := hid (sp2 GX.out (by rw [HB0.out]; simp only [tot]; omega))
        have NE : Hid (csm X ⟨X.n, X.s0, X.s1, (u0v, u1v + 1) :: rest, X.b1⟩ = false) := hid (csm_gd GX.out GY.out)
        have tk1 : True := trivial
        obtain ⟨fx0, fx1, fx2, fx3, fx4, fx5⟩ := box_six KX.out.2.2
        obtain ⟨fy0, fy1, fy2, fy3, fy4⟩ := box_five KY.out.2.2
        go_upto_region 25 with (go_at_call 23; refine (cjoin_m M X ⟨X.n, X.s0, X.s1, (u0v, u1v + 1) :: rest, X.b1⟩ _ _ _ _ _ _ _ _ _ _ _ _ cl0 false _ XX.out YY.out OX.out OY.out (by have := PX.out; have := LX.out; omega) (hid (cjC_no (cjB_b GY.out))) (hid (cjB_b GY.out))).mono ?_; rintro e w7 ⟨⟨r0, r1, r2, r3, r4, r5, rfl, hcw⟩, hb⟩; replace KX := hid (KX.out.step hb); replace KY := hid (KY.out.step hb); replace XX := hid (XX.out.below hb); replace YY := hid (YY.out.below hb); clear hcw hb fx0 fx1 fx2 fx3 fx4 fx5 fy0 fy1 fy2 fy3 fy4)
        replace KX := hid (kp_alloc KX.out (.cells #[.int .i64 cl0.n, .int .i64 cl0.s0, .int .i64 cl0.s1, .slice r0 r1 r2, .slice r3 r4 r5] 26))
        replace KY := hid (kp_alloc KY.out (.cells #[.int .i64 cl0.n, .int .i64 cl0.s0, .int .i64 cl0.s1, .slice r0 r1 r2, .slice r3 r4 r5] 26))
        replace XX := hid (XX.out.below (b1alloc w7 (.cells #[.int .i64 cl0.n, .int .i64 cl0.s0, .int .i64 cl0.s1, .slice r0 r1 r2, .slice r3 r4 r5] 26)))
        replace YY := hid (YY.out.below (b1alloc w7 (.cells #[.int .i64 cl0.n, .int .i64 cl0.s0, .int .i64 cl0.s1, .slice r0 r1 r2, .slice r3 r4 r5] 26)))
        generalize w7.alloc (.cells #[.int .i64 cl0.n, .int .i64 cl0.s0, .int .i64 cl0.s1, .slice r0 r1 r2, .slice r3 r4 r5] 26) = W7b at KX KY XX YY ⊢
        obtain ⟨fx0, fx1, fx2, fx3, fx4, fx5⟩ := box_six KX.out.2.2
        obtain ⟨fy0, fy1, fy2, fy3, fy4⟩ := box_five KY.out.2.2
        go_upto_region 26 with (go_at_call 23; refine (cjoin_m M ⟨X.n, X.s0, X.s1, (u0v, u1v + 1) :: rest, X.b1⟩ X _ _ _ _ _ _ _ _ _ _ _ _ cl0 false _ YY.out XX.out OY.out OX.out (by have := PX.out; have := LX.out; omega) (hid (cjC_no (cjB_a GY.out))) (hid (cjB_a GY.out))).mono ?_; rintro e w8 ⟨⟨s0', s1', s2', s3', s4', s5', rfl, hcw⟩, hb⟩; replace KX := hid (KX.out.step hb); replace KY := hid (KY.out.step hb); replace XX := hid (XX.out.below hb); replace YY := hid (YY.out.below hb); clear hcw hb fx0 fx1 fx2 fx3 fx4 fx5 fy0 fy1 fy2 fy3 fy4)
        replace KX := hid (kp_alloc KX.out (.cells #[.int .i64 cl0.n, .int .i64 cl0.s0, .int .i64 cl0.s1, .slice s0' s1' s2', .slice s3' s4' s5'] 26))
        replace KY := hid (kp_alloc KY.out (.cells #[.int .i64 cl0.n, .int .i64 cl0.s0, .int .i64 cl0.s1, .slice s0' s1' s2', .slice s3' s4' s5'] 26))
        replace XX := hid (XX.out.below (b1alloc w8 (.cells #[.int .i64 cl0.n, .int .i64 cl0.s0, .int .i64 cl0.s1, .slice s0' s1' s2', .slice s3' s4' s5'] 26)))
        replace YY := hid (YY.out.below (b1alloc w8 (.cells #[.int .i64 cl0.n, .int .i64 cl0.s0, .int .i64 cl0.s1, .slice s0' s1' s2', .slice s3' s4' s5'] 26)))
        generalize w8.alloc (.cells #[.int .i64 cl0.n, .int .i64 cl0.s0, .int .i64 cl0.s1, .slice s0' s1' s2', .slice s3' s4' s5'] 26) = W8 at KX KY XX YY ⊢
        obtain ⟨fx0, fx1, fx2, fx3, fx4, fx5⟩ := box_six KX.out.2.2
        obtain ⟨fy0, fy1, fy2, fy3, fy4⟩ := box_five KY.out.2.2
        go_wp2_with (first
          | (go_at_call 19; clear tk1; refine (cgood_m M X _ _ _ _ _ _ true _ XX.out OX.out (hid (cg_yes GX.out))).mono ?_; rintro e w9 ⟨rfl, hb⟩; replace KX := hid (KX.out.step hb); replace KY := hid (KY.out.step hb); replace XX := hid (XX.out.below hb); replace YY := hid (YY.out.below hb); obtain ⟨fx0, fx1, fx2, fx3, fx4, fx5⟩ := box_six KX.out.2.2; obtain ⟨fy0, fy1, fy2, fy3, fy4⟩ := box_five KY.out.2.2; clear hb)
          | (go_at_call 19; refine (cgood_m M ⟨X.n, X.s0, X.s1, (u0v, u1v + 1) :: rest, X.b1⟩ _ _ _ _ _ _ false _ YY.out OY.out GY).mono ?_; rintro e w10 ⟨rfl, hb⟩; replace KX := hid (KX.out.step hb); replace KY := hid (KY.out.step hb); replace XX := hid (XX.out.below hb); replace YY := hid (YY.out.below hb); obtain ⟨fx0, fx1, fx2, fx3, fx4, fx5⟩ := box_six KX.out.2.2; obtain ⟨fy0, fy1, fy2, fy3, fy4⟩ := box_five KY.out.2.2; clear hb)
          | (go_at_call 25; refine (csame_m X ⟨X.n, X.s0, X.s1, (u0v, u1v + 1) :: rest, X.b1⟩ _ _ _ _ _ _ _ _ _ _ _ _ false _ XX.out YY.out NE).mono ?_; rintro e w11 ⟨rfl, hb⟩; replace KX := hid (KX.out.step hb); replace KY := hid (KY.out.step hb); replace XX := hid (XX.out.below hb); replace YY := hid (YY.out.below hb); obtain ⟨fx0, fx1, fx2, fx3, fx4, fx5⟩ := box_six KX.out.2.2; obtain ⟨fy0, fy1, fy2, fy3, fy4⟩ := box_five KY.out.2.2; clear hb)
          | (go_at_call 21; refine (cline_m M 1 0 0 0 ⟨X.n, X.s0, X.s1, (u0v, u1v + 1) :: rest, X.b1⟩ _ _ _ _ _ _ (.agg #[.int .u8 0, .int .u8 0, .int .u8 0, .int .u8 0, .int .i64 0, .int .i64 0, .int .i64 0, .int .i64 0, .int .i64 0, .int .i64 0, .int .i64 0]) _ YY.out OY.out (hid (lineV_no GY.out))).mono ?_; rintro e w12 ⟨rfl, hb⟩; replace KX := hid (KX.out.step hb); replace KY := hid (KY.out.step hb); replace XX := hid (XX.out.below hb); replace YY := hid (YY.out.below hb); clear hb)
          | (go_at_call 15; refine (wakes_any _).mono ?_; rintro e w13 ⟨rfl, hb⟩; replace KX := hid (KX.out.step hb); replace KY := hid (KY.out.step hb); replace XX := hid (XX.out.below hb); replace YY := hid (YY.out.below hb); clear hb))
        go_ret
        exact ⟨rfl, KY.out.1⟩
      · have ek : (h % 5 : Int) = 3 := by rw [hmod]; rfl
        have ek2 : h.tmod 5 = 3 := by rw [Int.tmod_eq_emod_of_nonneg (by omega)]; exact ek
        have hp0 : 0 < p0 := by
          have h9 := PX.out.1
          have h8 := rk_ne GX.out.2.1 GX.out.1.1
          cases hx : X.b0 with
          | nil => exact absurd hx h8
          | cons r rest => rw [hx] at h9; simp at h9; omega
        obtain ⟨nn, hpn⟩ : ∃ nn, nn + 1 = p0 := ⟨p0 - 1, by omega⟩
        have hn1 : nn < p0 := by omega
        have hpl : p0 ≤ 60 := by have := PX.out; have := LX.out; omega
        obtain ⟨bb, oo, x0, x1, eb, hlt, hr, q0, q1⟩ := XX6.out.1.pick (Below.refl _ _) (k := nn) hn1
        subst eb
        have hk0 : p0 ≤ k0 := XX6.out.1.2.1
        have HR := hid hr
        have KS : Hid (∀ y, Below W6.heap.size W6 y → (fun y => Below W6.heap.size W6 y ∧ y.cell? ⟨bb, oo + nn * 2, none⟩ = some (.int .i64 x0) ∧ y.cell? ⟨bb, oo + nn * 2 + 1, none⟩ = some (.int .i64 x1)) y) := hid (fun y hb => ⟨hb, ((bcell hb).1 bb _ hlt).trans q0, ((bcell hb).1 bb _ hlt).trans q1⟩)
        have hwn : IntKind.i64.wrap ((p0 : Int) - 1) = (nn : Int) := by rw [IntWalk.i64_in _ (by omega)]; omega
        have NP : Hid (NRun W7 (some ⟨bb, oo, none⟩) nn k0 (X.b0.take nn)) := hid (nrun_pre ((XX6.out.below B67.out).1) (by omega))
        have HNY := hid (heap_lt KY.out.2.2)
        have BWc : Hid (Below W7.heap.size W7 W7.drew) := hid (bdrew (Below.refl _ _))
        have hi0 : (0 : Int) ≤ (nn : Int) := by omega
        have hi1 : (nn : Int) < (p0 : Int) := by omega
        have hi2 : (nn : Int) ≤ (k0 : Int) := by omega
        have hi3 : (nn : Int) ≤ (p0 : Int) := by omega
        have hi4 : nn ≤ k0 := by omega
        have hp0i : (0 : Int) < (p0 : Int) := by omega
        clear hr q0 q1
        obtain ⟨fy0, fy1, fy2, fy3, fy4⟩ := box_five KY.out.2.2
        go_upto_region 21 with fail
        clear fy0 fy1 fy2 fy3 fy4
        have cz3 := kp_cell (j := 3) (v := .slice (some ⟨bb, oo, none⟩) p0 k0) (KY.out.step BWc.out) rfl
        go_cut [98] (fun p wx => ∃ z g c, p = z ∧ W6.heap.size < g ∧ Kp w wx W6.heap.size (.cells #[.int .i64 X.n, .int .i64 X.s0, .int .i64 X.s1, .slice (some ⟨g, 0, none⟩) p0 c, .slice a1 p1 k1] 26) ∧ wx.ownsRow W7.heap.size 65 2 (.slice (some ⟨g, 0, none⟩) p0 c) p0 (ncells ((x0, x1) :: X.b0.take nn)) ∧ Below W6.heap.size W6 wx)
        case first =>
          refine wp_region_noPanic ?_
          refine wp_region_held_drew (S := fun y => Below W6.heap.size W6 y ∧ y.cell? ⟨bb, oo + nn * 2, none⟩ = some (.int .i64 x0) ∧ y.cell? ⟨bb, oo + nn * 2 + 1, none⟩ = some (.int .i64 x1)) (by kernel_rfl) (KS.out _ (bdrew B67.out)) (fun hHeld => ?_)
          refine wpAnyH_take (i := 1) (v := ?_) (by simp only [List.getElem?_toArray, List.getElem?_cons_succ, List.getElem?_cons_zero]; exact rfl) (by kernel_rfl) (by kernel_rfl) (by kernel_rfl) (fun _ _ _ h => h) (Or.inl ⟨by rfl, ?_⟩) (by assumption) ?_
          rotate_left
          · intro w hSw
            try dsimp only at hSw
            go_simp
            try with_reducible rfl
          try simp only [Act.put, List.setIfInBounds_toArray, List.set_cons_zero, List.set_cons_succ]
          refine wpAnyH_take (i := 2) (v := ?_) (by simp only [List.getElem?_toArray, List.getElem?_cons_succ, List.getElem?_cons_zero]; exact rfl) (by kernel_rfl) (by kernel_rfl) (by kernel_rfl) (fun _ _ _ h => h) (Or.inl ⟨by rfl, ?_⟩) (by assumption) ?_
          rotate_left
          · intro w hSw
            try dsimp only at hSw
            go_simp
            try with_reducible rfl
          try simp only [Act.put, List.setIfInBounds_toArray, List.set_cons_zero, List.set_cons_succ]
          refine wpAnyH_take (i := 4) (v := ?_) (by simp only [List.getElem?_toArray, List.getElem?_cons_succ, List.getElem?_cons_zero]; exact rfl) (by kernel_rfl) (by kernel_rfl) (by kernel_rfl) (fun _ _ _ h => h) (Or.inl ⟨by rfl, ?_⟩) (by assumption) ?_
          rotate_left
          · intro w hSw
            try dsimp only at hSw
            go_simp
            try with_reducible rfl
          try simp only [Act.put, List.setIfInBounds_toArray, List.set_cons_zero, List.set_cons_succ]
          refine wpAnyH_take (i := 9) (v := ?_) (by simp only [List.getElem?_toArray, List.getElem?_cons_succ, List.getElem?_cons_zero]; exact rfl) (by kernel_rfl) (by kernel_rfl) (by kernel_rfl) (fun _ _ _ h => h) (Or.inl ⟨by rfl, ?_⟩) (by assumption) ?_
          rotate_left
          · intro w hSw
            try dsimp only at hSw
            go_simp
            try with_reducible rfl
          try simp only [Act.put, List.setIfInBounds_toArray, List.set_cons_zero, List.set_cons_succ]
          refine wpAnyH_take (i := 10) (v := ?_) (by simp only [List.getElem?_toArray, List.getElem?_cons_succ, List.getElem?_cons_zero]; exact rfl) (by kernel_rfl) (by kernel_rfl) (by kernel_rfl) (fun _ _ _ h => h) (Or.inl ⟨by rfl, ?_⟩) (by assumption) ?_
          rotate_left
          · intro w hSw
            try dsimp only at hSw
            go_simp
            try with_reducible rfl
          try simp only [Act.put, List.setIfInBounds_toArray, List.set_cons_zero, List.set_cons_succ]
          refine wpAnyH_take (i := 12) (v := ?_) (by simp only [List.getElem?_toArray, List.getElem?_cons_succ, List.getElem?_cons_zero]; exact rfl) (by kernel_rfl) (by kernel_rfl) (by kernel_rfl) (fun _ _ _ h => h) (Or.inl ⟨by rfl, ?_⟩) (by assumption) ?_
          rotate_left
          · intro w hSw
            try dsimp only at hSw
            go_simp
            try with_reducible rfl
          try simp only [Act.put, List.setIfInBounds_toArray, List.set_cons_zero, List.set_cons_succ]
          refine wpAnyH_take (i := 15) (v := ?_) (by simp only [List.getElem?_toArray, List.getElem?_cons_succ, List.getElem?_cons_zero]; exact rfl) (by kernel_rfl) (by kernel_rfl) (by kernel_rfl) (fun _ _ _ h => h) (Or.inl ⟨by rfl, ?_⟩) (by assumption) ?_
          rotate_left
          · intro w hSw
            try dsimp only at hSw
            go_simp
            try with_reducible rfl
          try simp only [Act.put, List.setIfInBounds_toArray, List.set_cons_zero, List.set_cons_succ]
          refine wpAnyH_ready (rs := [0, 3, 11]) (by kernel_rfl) (by simp) ?_
          refine (AllReadyH.cons (by simp only [List.getElem?_toArray, List.getElem?_cons_succ, List.getElem?_cons_zero]; exact rfl) (fun K hK => ?_) (AllReadyH.cons (by simp only [List.getElem?_toArray, List.getElem?_cons_succ, List.getElem?_cons_zero]; exact rfl) (fun K hK => ?_) (AllReadyH.cons (by simp only [List.getElem?_toArray, List.getElem?_cons_succ, List.getElem?_cons_zero]; exact rfl) (fun K hK => ?_) AllReadyH.nil)))
          · go_simp
            replace BWc : Hid (Below W7.heap.size W7 (W7.drew.alloc (.cells #[] 65))) := hid (bt BWc.out (b1alloc _ _))
            refine hK.out _ _ (KS.out _ (bt B67.out BWc.out)) (fun hHeld2 => ?_)
            clear hK K hHeld
            have hHeld := hHeld2
            clear hHeld2
            clear cz3
            have cz3 : (W7.alloc (.cells #[] 65)).cell? ⟨W6.heap.size, 3, none⟩ = some (.slice (some ⟨bb, oo, none⟩) p0 k0) := kp_cell (j := 3) (v := .slice (some ⟨bb, oo, none⟩) p0 k0) (KY.out.step BWc.out) rfl
            try simp only [Act.put, List.setIfInBounds_toArray, List.set_cons_zero, List.set_cons_succ]
            refine wpAnyH_ready (rs := [3, 11]) (by kernel_rfl) (by simp) ?_
            refine (AllReadyH.cons (by simp only [List.getElem?_toArray, List.getElem?_cons_succ, List.getElem?_cons_zero]; exact rfl) (fun K hK => ?_) (AllReadyH.cons (by simp only [List.getElem?_toArray, List.getElem?_cons_succ, List.getElem?_cons_zero]; exact rfl) (fun K hK => ?_) AllReadyH.nil))
            · go_simp
              refine hK.out _ _ hHeld (fun hHeld2 => ?_)
              clear hK K hHeld2
              try simp only [Act.put, List.setIfInBounds_toArray, List.set_cons_zero, List.set_cons_succ]
              refine wpAnyH_take (i := 5) (v := ?_) (by simp only [List.getElem?_toArray, List.getElem?_cons_succ, List.getElem?_cons_zero]; exact rfl) (by kernel_rfl) (by kernel_rfl) (by kernel_rfl) (fun _ _ _ h => h) (Or.inl ⟨by rfl, ?_⟩) (by assumption) ?_
              rotate_left
              · intro w hSw
                try dsimp only at hSw
                go_simp
                try with_reducible rfl
              try simp only [Act.put, List.setIfInBounds_toArray, List.set_cons_zero, List.set_cons_succ]
              refine wpAnyH_take (i := 6) (v := ?_) (by simp only [List.getElem?_toArray, List.getElem?_cons_succ, List.getElem?_cons_zero]; exact rfl) (by kernel_rfl) (by kernel_rfl) (by kernel_rfl) (fun _ _ _ h => h) (Or.inl ⟨by rfl, ?_⟩) (by assumption) ?_
              rotate_left
              · intro w hSw
                try dsimp only at hSw
                go_simp
                try with_reducible rfl
              try simp only [Act.put, List.setIfInBounds_toArray, List.set_cons_zero, List.set_cons_succ]
              refine wpAnyH_ready (rs := [7, 11]) (by kernel_rfl) (by simp) ?_
              refine (AllReadyH.cons (by simp only [List.getElem?_toArray, List.getElem?_cons_succ, List.getElem?_cons_zero]; exact rfl) (fun K hK => ?_) (AllReadyH.cons (by simp only [List.getElem?_toArray, List.getElem?_cons_succ, List.getElem?_cons_zero]; exact rfl) (fun K hK => ?_) AllReadyH.nil))
              · go_simp
                replace BWc : Hid (Below W7.heap.size W7 ((W7.drew.alloc (.cells #[] 65)).alloc (.cells #[.int .i64 x0, .int .i64 x1] 65))) := hid (bt BWc.out (b1alloc _ _))
                refine hK.out _ _ (KS.out _ (bt B67.out BWc.out)) (fun hHeld2 => ?_)
                clear hK K hHeld
                have hHeld := hHeld2
                clear hHeld2
                clear cz3
                have cz3 : ((W7.alloc (.cells #[] 65)).alloc (.cells #[.int .i64 x0, .int .i64 x1] 65)).cell? ⟨W6.heap.size, 3, none⟩ = some (.slice (some ⟨bb, oo, none⟩) p0 k0) := kp_cell (j := 3) (v := .slice (some ⟨bb, oo, none⟩) p0 k0) (KY.out.step BWc.out) rfl
                try simp only [Act.put, List.setIfInBounds_toArray, List.set_cons_zero, List.set_cons_succ]
                refine wpAnyH_ready (rs := [8, 11]) (by kernel_rfl) (by simp) ?_
                refine (AllReadyH.cons (by simp only [List.getElem?_toArray, List.getElem?_cons_succ, List.getElem?_cons_zero]; exact rfl) (fun K hK => ?_) (AllReadyH.cons (by simp only [List.getElem?_toArray, List.getElem?_cons_succ, List.getElem?_cons_zero]; exact rfl) (fun K hK => ?_) AllReadyH.nil))
                · refine step_append_nr ((W7.drew.alloc (.cells #[] 65)).alloc (.cells #[.int .i64 x0, .int .i64 x1] 65)) (by rfl) (.tmp 84) (.tmp 91) (by rfl) W7.heap.size W7.heap.size 0 0 [] (by rfl) ((nown_at W7.drew W7.heap.size W7.heap.size rfl (Nat.le_refl _)).alloc _) ⟨(W7.heap.size + 1), 0, none⟩ 1 1 [(x0, x1)] (by rfl) (nrun_1 _ _ x0 x1 _ (by simp)) (by omega) BWc.out.size 1 [(x0, x1)] rfl rfl ?_
                  intro g8 c8 w8 ho8 hg8
                  have O8 := hid ho8
                  replace BWc : Hid (Below W7.heap.size W7 w8) := hid (BWc.out.trans (grow_below (base := W7.heap.size) hg8 BWc.out.size (fun k hk => by cases hk; first | exact Nat.le_refl _ | omega)))
                  refine hK.out _ _ (KS.out _ (bt B67.out BWc.out)) (fun hHeld2 => ?_)
                  clear hK K hHeld
                  have hHeld := hHeld2
                  clear hHeld2
                  clear ho8 hg8 cz3
                  have cz3 := kp_cell (j := 3) (v := .slice (some ⟨bb, oo, none⟩) p0 k0) (KY.out.step BWc.out) rfl
                  try simp only [Act.put, List.setIfInBounds_toArray, List.set_cons_zero, List.set_cons_succ]
                  refine wpAnyH_ready (rs := [11]) (by kernel_rfl) (by simp) ?_
                  refine (AllReadyH.cons (by simp only [List.getElem?_toArray, List.getElem?_cons_succ, List.getElem?_cons_zero]; exact rfl) (fun K hK => ?_) AllReadyH.nil)
                  go_simp
                  refine hK.out _ _ hHeld (fun hHeld2 => ?_)
                  clear hK K hHeld2
                  try simp only [Act.put, List.setIfInBounds_toArray, List.set_cons_zero, List.set_cons_succ]
                  refine wpAnyH_take (i := 13) (v := ?_) (by simp only [List.getElem?_toArray, List.getElem?_cons_succ, List.getElem?_cons_zero]; exact rfl) (by kernel_rfl) (by kernel_rfl) (by kernel_rfl) (fun _ _ _ h => h) (Or.inl ⟨by rfl, ?_⟩) (by assumption) ?_
                  rotate_left
                  · intro w hSw
                    try dsimp only at hSw
                    go_simp
                    try with_reducible rfl
                  try simp only [Act.put, List.setIfInBounds_toArray, List.set_cons_zero, List.set_cons_succ]
                  refine wpAnyH_ready (rs := [14]) (by kernel_rfl) (by simp) ?_
                  refine (AllReadyH.cons (by simp only [List.getElem?_toArray, List.getElem?_cons_succ, List.getElem?_cons_zero]; exact rfl) (fun K hK => ?_) AllReadyH.nil)
                  refine step_append_nr w8 (by rfl) (.tmp 92) (.tmp 97) (by rfl) W7.heap.size g8 1 c8 [(x0, x1)] (by rfl) O8.out ⟨bb, oo, none⟩ nn k0 (X.b0.take nn) (by rfl) (NP.out.below BWc.out) (by omega) BWc.out.size p0 ((x0, x1) :: X.b0.take nn) (by omega) rfl ?_
                  intro g9 c9 w9 ho9 hg9
                  have O9 := hid ho9
                  replace BWc : Hid (Below W7.heap.size W7 w9) := hid (BWc.out.trans (grow_below (base := W7.heap.size) hg9 BWc.out.size (fun k hk => by cases hk; exact (O8.out.lt g8 rfl).1)))
                  refine hK.out _ _ (KS.out _ (bt B67.out BWc.out)) (fun hHeld2 => ?_)
                  clear hK K hHeld
                  have hHeld := hHeld2
                  clear hHeld2
                  clear ho9 hg9 cz3
                  have cz3 := kp_cell (j := 3) (v := .slice (some ⟨bb, oo, none⟩) p0 k0) (KY.out.step BWc.out) rfl
                  have fz3 := kp_froz (KY.out.step BWc.out) 3
                  try simp only [Act.put, List.setIfInBounds_toArray, List.set_cons_zero, List.set_cons_succ]
                  refine wpAnyH_take (i := 16) (v := ?_) (by simp only [List.getElem?_toArray, List.getElem?_cons_succ, List.getElem?_cons_zero]; exact rfl) (by kernel_rfl) (by kernel_rfl) (by kernel_rfl) (fun _ _ _ h => h) (Or.inl ⟨by rfl, ?_⟩) (by assumption) ?_
                  rotate_left
                  · intro w hSw
                    try dsimp only at hSw
                    go_simp
                    try with_reducible rfl
                  try simp only [Act.put, List.setIfInBounds_toArray, List.set_cons_zero, List.set_cons_succ]
                  refine wpAnyH_ready (rs := [17]) (by kernel_rfl) (by simp) ?_
                  refine (AllReadyH.cons (by simp only [List.getElem?_toArray, List.getElem?_cons_succ, List.getElem?_cons_zero]; exact rfl) (fun K hK => ?_) AllReadyH.nil)
                  go_simp
                  refine hK.out _ _ (KS.out _ ((bt B67.out BWc.out).setCell (p := ⟨W6.heap.size, 3, none⟩) (Nat.le_refl _) _)) (fun hHeld2 => ?_)
                  clear hK K hHeld hHeld2
                  try simp only [Act.put, List.setIfInBounds_toArray, List.set_cons_zero, List.set_cons_succ]
                  refine wpAnyH_done (by kernel_rfl) ?_ _
                  refine NoPanic.normal ?_
                  try go_wp2_with fail
                  go_meet
                  have hg9 := (O9.out.lt g9 rfl).1
                  have e9 : p0 = ((x0, x1) :: X.b0.take nn).length := by rw [List.length_cons, List.length_take]; have := PX.out.1; omega
                  have h9 := O9.out
                  refine ⟨_, g9, c9, rfl, by have := HNY.out; omega, kp_set (j := 3) (v := .slice (some ⟨g9, 0, none⟩) p0 c9) (KY.out.step BWc.out), ?_, (bt B67.out BWc.out).setCell (p := ⟨W6.heap.size, 3, none⟩) (Nat.le_refl _) _⟩
                  rw [e9] at h9 ⊢
                  exact own_other (l := (x0, x1) :: X.b0.take nn) h9 (set_grown w9 W6.heap.size 3 _) (fun g hg => by have e8 := own_only hg; have := HNY.out; omega)
                · go_simp
                  refine hK.out _ _ hHeld (fun hHeld2 => ?_)
                  clear hK K hHeld2
                  try simp only [Act.put, List.setIfInBounds_toArray, List.set_cons_zero, List.set_cons_succ]
                  refine wpAnyH_take (i := 13) (v := ?_) (by simp only [List.getElem?_toArray, List.getElem?_cons_succ, List.getElem?_cons_zero]; exact rfl) (by kernel_rfl) (by kernel_rfl) (by kernel_rfl) (fun _ _ _ h => h) (Or.inl ⟨by rfl, ?_⟩) (by assumption) ?_
                  rotate_left
                  · intro w hSw
                    try dsimp only at hSw
                    go_simp
                    try with_reducible rfl
                  try simp only [Act.put, List.setIfInBounds_toArray, List.set_cons_zero, List.set_cons_succ]
                  refine wpAnyH_ready (rs := [8]) (by kernel_rfl) (by simp) ?_
                  refine (AllReadyH.cons (by simp only [List.getElem?_toArray, List.getElem?_cons_succ, List.getElem?_cons_zero]; exact rfl) (fun K hK => ?_) AllReadyH.nil)
                  refine step_append_nr ((W7.drew.alloc (.cells #[] 65)).alloc (.cells #[.int .i64 x0, .int .i64 x1] 65)) (by rfl) (.tmp 84) (.tmp 91) (by rfl) W7.heap.size W7.heap.size 0 0 [] (by rfl) ((nown_at W7.drew W7.heap.size W7.heap.size rfl (Nat.le_refl _)).alloc _) ⟨(W7.heap.size + 1), 0, none⟩ 1 1 [(x0, x1)] (by rfl) (nrun_1 _ _ x0 x1 _ (by simp)) (by omega) BWc.out.size 1 [(x0, x1)] rfl rfl ?_
                  intro g8 c8 w8 ho8 hg8
                  have O8 := hid ho8
                  replace BWc : Hid (Below W7.heap.size W7 w8) := hid (BWc.out.trans (grow_below (base := W7.heap.size) hg8 BWc.out.size (fun k hk => by cases hk; first | exact Nat.le_refl _ | omega)))
                  refine hK.out _ _ (KS.out _ (bt B67.out BWc.out)) (fun hHeld2 => ?_)
                  clear hK K hHeld
                  have hHeld := hHeld2
                  clear hHeld2
                  clear ho8 hg8 cz3
                  have cz3 := kp_cell (j := 3) (v := .slice (some ⟨bb, oo, none⟩) p0 k0) (KY.out.step BWc.out) rfl
                  try simp only [Act.put, List.setIfInBounds_toArray, List.set_cons_zero, List.set_cons_succ]
                  refine wpAnyH_ready (rs := [14]) (by kernel_rfl) (by simp) ?_
                  refine (AllReadyH.cons (by simp only [List.getElem?_toArray, List.getElem?_cons_succ, List.getElem?_cons_zero]; exact rfl) (fun K hK => ?_) AllReadyH.nil)
                  refine step_append_nr w8 (by rfl) (.tmp 92) (.tmp 97) (by rfl) W7.heap.size g8 1 c8 [(x0, x1)] (by rfl) O8.out ⟨bb, oo, none⟩ nn k0 (X.b0.take nn) (by rfl) (NP.out.below BWc.out) (by omega) BWc.out.size p0 ((x0, x1) :: X.b0.take nn) (by omega) rfl ?_
                  intro g9 c9 w9 ho9 hg9
                  have O9 := hid ho9
                  replace BWc : Hid (Below W7.heap.size W7 w9) := hid (BWc.out.trans (grow_below (base := W7.heap.size) hg9 BWc.out.size (fun k hk => by cases hk; exact (O8.out.lt g8 rfl).1)))
                  refine hK.out _ _ (KS.out _ (bt B67.out BWc.out)) (fun hHeld2 => ?_)
                  clear hK K hHeld
                  have hHeld := hHeld2
                  clear hHeld2
                  clear ho9 hg9 cz3
                  have cz3 := kp_cell (j := 3) (v := .slice (some ⟨bb, oo, none⟩) p0 k0) (KY.out.step BWc.out) rfl
                  have fz3 := kp_froz (KY.out.step BWc.out) 3
                  try simp only [Act.put, List.setIfInBounds_toArray, List.set_cons_zero, List.set_cons_succ]
                  refine wpAnyH_take (i := 16) (v := ?_) (by simp only [List.getElem?_toArray, List.getElem?_cons_succ, List.getElem?_cons_zero]; exact rfl) (by kernel_rfl) (by kernel_rfl) (by kernel_rfl) (fun _ _ _ h => h) (Or.inl ⟨by rfl, ?_⟩) (by assumption) ?_
                  rotate_left
                  · intro w hSw
                    try dsimp only at hSw
                    go_simp
                    try with_reducible rfl
                  try simp only [Act.put, List.setIfInBounds_toArray, List.set_cons_zero, List.set_cons_succ]
                  refine wpAnyH_ready (rs := [17]) (by kernel_rfl) (by simp) ?_
                  refine (AllReadyH.cons (by simp only [List.getElem?_toArray, List.getElem?_cons_succ, List.getElem?_cons_zero]; exact rfl) (fun K hK => ?_) AllReadyH.nil)
                  go_simp
                  refine hK.out _ _ (KS.out _ ((bt B67.out BWc.out).setCell (p := ⟨W6.heap.size, 3, none⟩) (Nat.le_refl _) _)) (fun hHeld2 => ?_)
                  clear hK K hHeld hHeld2
                  try simp only [Act.put, List.setIfInBounds_toArray, List.set_cons_zero, List.set_cons_succ]
                  refine wpAnyH_done (by kernel_rfl) ?_ _
                  refine NoPanic.normal ?_
                  try go_wp2_with fail
                  go_meet
                  have hg9 := (O9.out.lt g9 rfl).1
                  have e9 : p0 = ((x0, x1) :: X.b0.take nn).length := by rw [List.length_cons, List.length_take]; have := PX.out.1; omega
                  have h9 := O9.out
                  refine ⟨_, g9, c9, rfl, by have := HNY.out; omega, kp_set (j := 3) (v := .slice (some ⟨g9, 0, none⟩) p0 c9) (KY.out.step BWc.out), ?_, (bt B67.out BWc.out).setCell (p := ⟨W6.heap.size, 3, none⟩) (Nat.le_refl _) _⟩
                  rw [e9] at h9 ⊢
                  exact own_other (l := (x0, x1) :: X.b0.take nn) h9 (set_grown w9 W6.heap.size 3 _) (fun g hg => by have e8 := own_only hg; have := HNY.out; omega)
              · go_simp
                refine hK.out _ _ hHeld (fun hHeld2 => ?_)
                clear hK K hHeld2
                try simp only [Act.put, List.setIfInBounds_toArray, List.set_cons_zero, List.set_cons_succ]
                refine wpAnyH_take (i := 13) (v := ?_) (by simp only [List.getElem?_toArray, List.getElem?_cons_succ, List.getElem?_cons_zero]; exact rfl) (by kernel_rfl) (by kernel_rfl) (by kernel_rfl) (fun _ _ _ h => h) (Or.inl ⟨by rfl, ?_⟩) (by assumption) ?_
                rotate_left
                · intro w hSw
                  try dsimp only at hSw
                  go_simp
                  try with_reducible rfl
                try simp only [Act.put, List.setIfInBounds_toArray, List.set_cons_zero, List.set_cons_succ]
                refine wpAnyH_ready (rs := [7]) (by kernel_rfl) (by simp) ?_
                refine (AllReadyH.cons (by simp only [List.getElem?_toArray, List.getElem?_cons_succ, List.getElem?_cons_zero]; exact rfl) (fun K hK => ?_) AllReadyH.nil)
                go_simp
                replace BWc : Hid (Below W7.heap.size W7 ((W7.drew.alloc (.cells #[] 65)).alloc (.cells #[.int .i64 x0, .int .i64 x1] 65))) := hid (bt BWc.out (b1alloc _ _))
                refine hK.out _ _ (KS.out _ (bt B67.out BWc.out)) (fun hHeld2 => ?_)
                clear hK K hHeld
                have hHeld := hHeld2
                clear hHeld2
                clear cz3
                have cz3 : ((W7.alloc (.cells #[] 65)).alloc (.cells #[.int .i64 x0, .int .i64 x1] 65)).cell? ⟨W6.heap.size, 3, none⟩ = some (.slice (some ⟨bb, oo, none⟩) p0 k0) := kp_cell (j := 3) (v := .slice (some ⟨bb, oo, none⟩) p0 k0) (KY.out.step BWc.out) rfl
                try simp only [Act.put, List.setIfInBounds_toArray, List.set_cons_zero, List.set_cons_succ]
                refine wpAnyH_ready (rs := [8]) (by kernel_rfl) (by simp) ?_
                refine (AllReadyH.cons (by simp only [List.getElem?_toArray, List.getElem?_cons_succ, List.getElem?_cons_zero]; exact rfl) (fun K hK => ?_) AllReadyH.nil)
                refine step_append_nr ((W7.drew.alloc (.cells #[] 65)).alloc (.cells #[.int .i64 x0, .int .i64 x1] 65)) (by rfl) (.tmp 84) (.tmp 91) (by rfl) W7.heap.size W7.heap.size 0 0 [] (by rfl) ((nown_at W7.drew W7.heap.size W7.heap.size rfl (Nat.le_refl _)).alloc _) ⟨(W7.heap.size + 1), 0, none⟩ 1 1 [(x0, x1)] (by rfl) (nrun_1 _ _ x0 x1 _ (by simp)) (by omega) BWc.out.size 1 [(x0, x1)] rfl rfl ?_
                intro g8 c8 w8 ho8 hg8
                have O8 := hid ho8
                replace BWc : Hid (Below W7.heap.size W7 w8) := hid (BWc.out.trans (grow_below (base := W7.heap.size) hg8 BWc.out.size (fun k hk => by cases hk; first | exact Nat.le_refl _ | omega)))
                refine hK.out _ _ (KS.out _ (bt B67.out BWc.out)) (fun hHeld2 => ?_)
                clear hK K hHeld
                have hHeld := hHeld2
                clear hHeld2
                clear ho8 hg8 cz3
                have cz3 := kp_cell (j := 3) (v := .slice (some ⟨bb, oo, none⟩) p0 k0) (KY.out.step BWc.out) rfl
                try simp only [Act.put, List.setIfInBounds_toArray, List.set_cons_zero, List.set_cons_succ]
                refine wpAnyH_ready (rs := [14]) (by kernel_rfl) (by simp) ?_
                refine (AllReadyH.cons (by simp only [List.getElem?_toArray, List.getElem?_cons_succ, List.getElem?_cons_zero]; exact rfl) (fun K hK => ?_) AllReadyH.nil)
                refine step_append_nr w8 (by rfl) (.tmp 92) (.tmp 97) (by rfl) W7.heap.size g8 1 c8 [(x0, x1)] (by rfl) O8.out ⟨bb, oo, none⟩ nn k0 (X.b0.take nn) (by rfl) (NP.out.below BWc.out) (by omega) BWc.out.size p0 ((x0, x1) :: X.b0.take nn) (by omega) rfl ?_
                intro g9 c9 w9 ho9 hg9
                have O9 := hid ho9
                replace BWc : Hid (Below W7.heap.size W7 w9) := hid (BWc.out.trans (grow_below (base := W7.heap.size) hg9 BWc.out.size (fun k hk => by cases hk; exact (O8.out.lt g8 rfl).1)))
                refine hK.out _ _ (KS.out _ (bt B67.out BWc.out)) (fun hHeld2 => ?_)
                clear hK K hHeld
                have hHeld := hHeld2
                clear hHeld2
                clear ho9 hg9 cz3
                have cz3 := kp_cell (j := 3) (v := .slice (some ⟨bb, oo, none⟩) p0 k0) (KY.out.step BWc.out) rfl
                have fz3 := kp_froz (KY.out.step BWc.out) 3
                try simp only [Act.put, List.setIfInBounds_toArray, List.set_cons_zero, List.set_cons_succ]
                refine wpAnyH_take (i := 16) (v := ?_) (by simp only [List.getElem?_toArray, List.getElem?_cons_succ, List.getElem?_cons_zero]; exact rfl) (by kernel_rfl) (by kernel_rfl) (by kernel_rfl) (fun _ _ _ h => h) (Or.inl ⟨by rfl, ?_⟩) (by assumption) ?_
                rotate_left
                · intro w hSw
                  try dsimp only at hSw
                  go_simp
                  try with_reducible rfl
                try simp only [Act.put, List.setIfInBounds_toArray, List.set_cons_zero, List.set_cons_succ]
                refine wpAnyH_ready (rs := [17]) (by kernel_rfl) (by simp) ?_
                refine (AllReadyH.cons (by simp only [List.getElem?_toArray, List.getElem?_cons_succ, List.getElem?_cons_zero]; exact rfl) (fun K hK => ?_) AllReadyH.nil)
                go_simp
                refine hK.out _ _ (KS.out _ ((bt B67.out BWc.out).setCell (p := ⟨W6.heap.size, 3, none⟩) (Nat.le_refl _) _)) (fun hHeld2 => ?_)
                clear hK K hHeld hHeld2
                try simp only [Act.put, List.setIfInBounds_toArray, List.set_cons_zero, List.set_cons_succ]
                refine wpAnyH_done (by kernel_rfl) ?_ _
                refine NoPanic.normal ?_
                try go_wp2_with fail
                go_meet
                have hg9 := (O9.out.lt g9 rfl).1
                have e9 : p0 = ((x0, x1) :: X.b0.take nn).length := by rw [List.length_cons, List.length_take]; have := PX.out.1; omega
                have h9 := O9.out
                refine ⟨_, g9, c9, rfl, by have := HNY.out; omega, kp_set (j := 3) (v := .slice (some ⟨g9, 0, none⟩) p0 c9) (KY.out.step BWc.out), ?_, (bt B67.out BWc.out).setCell (p := ⟨W6.heap.size, 3, none⟩) (Nat.le_refl _) _⟩
                rw [e9] at h9 ⊢
                exact own_other (l := (x0, x1) :: X.b0.take nn) h9 (set_grown w9 W6.heap.size 3 _) (fun g hg => by have e8 := own_only hg; have := HNY.out; omega)
            · go_simp
              refine hK.out _ _ hHeld (fun hHeld2 => ?_)
              clear hK K hHeld2
              try simp only [Act.put, List.setIfInBounds_toArray, List.set_cons_zero, List.set_cons_succ]
              refine wpAnyH_take (i := 13) (v := ?_) (by simp only [List.getElem?_toArray, List.getElem?_cons_succ, List.getElem?_cons_zero]; exact rfl) (by kernel_rfl) (by kernel_rfl) (by kernel_rfl) (fun _ _ _ h => h) (Or.inl ⟨by rfl, ?_⟩) (by assumption) ?_
              rotate_left
              · intro w hSw
                try dsimp only at hSw
                go_simp
                try with_reducible rfl
              try simp only [Act.put, List.setIfInBounds_toArray, List.set_cons_zero, List.set_cons_succ]
              refine wpAnyH_ready (rs := [3]) (by kernel_rfl) (by simp) ?_
              refine (AllReadyH.cons (by simp only [List.getElem?_toArray, List.getElem?_cons_succ, List.getElem?_cons_zero]; exact rfl) (fun K hK => ?_) AllReadyH.nil)
              go_simp
              refine hK.out _ _ hHeld (fun hHeld2 => ?_)
              clear hK K hHeld2
              try simp only [Act.put, List.setIfInBounds_toArray, List.set_cons_zero, List.set_cons_succ]
              refine wpAnyH_take (i := 5) (v := ?_) (by simp only [List.getElem?_toArray, List.getElem?_cons_succ, List.getElem?_cons_zero]; exact rfl) (by kernel_rfl) (by kernel_rfl) (by kernel_rfl) (fun _ _ _ h => h) (Or.inl ⟨by rfl, ?_⟩) (by assumption) ?_
              rotate_left
              · intro w hSw
                try dsimp only at hSw
                go_simp
                try with_reducible rfl
              try simp only [Act.put, List.setIfInBounds_toArray, List.set_cons_zero, List.set_cons_succ]
              refine wpAnyH_take (i := 6) (v := ?_) (by simp only [List.getElem?_toArray, List.getElem?_cons_succ, List.getElem?_cons_zero]; exact rfl) (by kernel_rfl) (by kernel_rfl) (by kernel_rfl) (fun _ _ _ h => h) (Or.inl ⟨by rfl, ?_⟩) (by assumption) ?_
              rotate_left
              · intro w hSw
                try dsimp only at hSw
                go_simp
                try with_reducible rfl
              try simp only [Act.put, List.setIfInBounds_toArray, List.set_cons_zero, List.set_cons_succ]
              refine wpAnyH_ready (rs := [7]) (by kernel_rfl) (by simp) ?_
              refine (AllReadyH.cons (by simp only [List.getElem?_toArray, List.getElem?_cons_succ, List.getElem?_cons_zero]; exact rfl) (fun K hK => ?_) AllReadyH.nil)
              go_simp
              replace BWc : Hid (Below W7.heap.size W7 ((W7.drew.alloc (.cells #[] 65)).alloc (.cells #[.int .i64 x0, .int .i64 x1] 65))) := hid (bt BWc.out (b1alloc _ _))
              refine hK.out _ _ (KS.out _ (bt B67.out BWc.out)) (fun hHeld2 => ?_)
              clear hK K hHeld
              have hHeld := hHeld2
              clear hHeld2
              clear cz3
              have cz3 : ((W7.alloc (.cells #[] 65)).alloc (.cells #[.int .i64 x0, .int .i64 x1] 65)).cell? ⟨W6.heap.size, 3, none⟩ = some (.slice (some ⟨bb, oo, none⟩) p0 k0) := kp_cell (j := 3) (v := .slice (some ⟨bb, oo, none⟩) p0 k0) (KY.out.step BWc.out) rfl
              try simp only [Act.put, List.setIfInBounds_toArray, List.set_cons_zero, List.set_cons_succ]
              refine wpAnyH_ready (rs := [8]) (by kernel_rfl) (by simp) ?_
              refine (AllReadyH.cons (by simp only [List.getElem?_toArray, List.getElem?_cons_succ, List.getElem?_cons_zero]; exact rfl) (fun K hK => ?_) AllReadyH.nil)
              refine step_append_nr ((W7.drew.alloc (.cells #[] 65)).alloc (.cells #[.int .i64 x0, .int .i64 x1] 65)) (by rfl) (.tmp 84) (.tmp 91) (by rfl) W7.heap.size W7.heap.size 0 0 [] (by rfl) ((nown_at W7.drew W7.heap.size W7.heap.size rfl (Nat.le_refl _)).alloc _) ⟨(W7.heap.size + 1), 0, none⟩ 1 1 [(x0, x1)] (by rfl) (nrun_1 _ _ x0 x1 _ (by simp)) (by omega) BWc.out.size 1 [(x0, x1)] rfl rfl ?_
              intro g8 c8 w8 ho8 hg8
              have O8 := hid ho8
              replace BWc : Hid (Below W7.heap.size W7 w8) := hid (BWc.out.trans (grow_below (base := W7.heap.size) hg8 BWc.out.size (fun k hk => by cases hk; first | exact Nat.le_refl _ | omega)))
              refine hK.out _ _ (KS.out _ (bt B67.out BWc.out)) (fun hHeld2 => ?_)
              clear hK K hHeld
              have hHeld := hHeld2
              clear hHeld2
              clear ho8 hg8 cz3
              have cz3 := kp_cell (j := 3) (v := .slice (some ⟨bb, oo, none⟩) p0 k0) (KY.out.step BWc.out) rfl
              try simp only [Act.put, List.setIfInBounds_toArray, List.set_cons_zero, List.set_cons_succ]
              refine wpAnyH_ready (rs := [14]) (by kernel_rfl) (by simp) ?_
              refine (AllReadyH.cons (by simp only [List.getElem?_toArray, List.getElem?_cons_succ, List.getElem?_cons_zero]; exact rfl) (fun K hK => ?_) AllReadyH.nil)
              refine step_append_nr w8 (by rfl) (.tmp 92) (.tmp 97) (by rfl) W7.heap.size g8 1 c8 [(x0, x1)] (by rfl) O8.out ⟨bb, oo, none⟩ nn k0 (X.b0.take nn) (by rfl) (NP.out.below BWc.out) (by omega) BWc.out.size p0 ((x0, x1) :: X.b0.take nn) (by omega) rfl ?_
              intro g9 c9 w9 ho9 hg9
              have O9 := hid ho9
              replace BWc : Hid (Below W7.heap.size W7 w9) := hid (BWc.out.trans (grow_below (base := W7.heap.size) hg9 BWc.out.size (fun k hk => by cases hk; exact (O8.out.lt g8 rfl).1)))
              refine hK.out _ _ (KS.out _ (bt B67.out BWc.out)) (fun hHeld2 => ?_)
              clear hK K hHeld
              have hHeld := hHeld2
              clear hHeld2
              clear ho9 hg9 cz3
              have cz3 := kp_cell (j := 3) (v := .slice (some ⟨bb, oo, none⟩) p0 k0) (KY.out.step BWc.out) rfl
              have fz3 := kp_froz (KY.out.step BWc.out) 3
              try simp only [Act.put, List.setIfInBounds_toArray, List.set_cons_zero, List.set_cons_succ]
              refine wpAnyH_take (i := 16) (v := ?_) (by simp only [List.getElem?_toArray, List.getElem?_cons_succ, List.getElem?_cons_zero]; exact rfl) (by kernel_rfl) (by kernel_rfl) (by kernel_rfl) (fun _ _ _ h => h) (Or.inl ⟨by rfl, ?_⟩) (by assumption) ?_
              rotate_left
              · intro w hSw
                try dsimp only at hSw
                go_simp
                try with_reducible rfl
              try simp only [Act.put, List.setIfInBounds_toArray, List.set_cons_zero, List.set_cons_succ]
              refine wpAnyH_ready (rs := [17]) (by kernel_rfl) (by simp) ?_
              refine (AllReadyH.cons (by simp only [List.getElem?_toArray, List.getElem?_cons_succ, List.getElem?_cons_zero]; exact rfl) (fun K hK => ?_) AllReadyH.nil)
              go_simp
              refine hK.out _ _ (KS.out _ ((bt B67.out BWc.out).setCell (p := ⟨W6.heap.size, 3, none⟩) (Nat.le_refl _) _)) (fun hHeld2 => ?_)
              clear hK K hHeld hHeld2
              try simp only [Act.put, List.setIfInBounds_toArray, List.set_cons_zero, List.set_cons_succ]
              refine wpAnyH_done (by kernel_rfl) ?_ _
              refine NoPanic.normal ?_
              try go_wp2_with fail
              go_meet
              have hg9 := (O9.out.lt g9 rfl).1
              have e9 : p0 = ((x0, x1) :: X.b0.take nn).length := by rw [List.length_cons, List.length_take]; have := PX.out.1; omega
              have h9 := O9.out
              refine ⟨_, g9, c9, rfl, by have := HNY.out; omega, kp_set (j := 3) (v := .slice (some ⟨g9, 0, none⟩) p0 c9) (KY.out.step BWc.out), ?_, (bt B67.out BWc.out).setCell (p := ⟨W6.heap.size, 3, none⟩) (Nat.le_refl _) _⟩
              rw [e9] at h9 ⊢
              exact own_other (l := (x0, x1) :: X.b0.take nn) h9 (set_grown w9 W6.heap.size 3 _) (fun g hg => by have e8 := own_only hg; have := HNY.out; omega)
          · go_simp
            refine hK.out _ _ hHeld (fun hHeld2 => ?_)
            clear hK K hHeld2
            try simp only [Act.put, List.setIfInBounds_toArray, List.set_cons_zero, List.set_cons_succ]
            refine wpAnyH_take (i := 5) (v := ?_) (by simp only [List.getElem?_toArray, List.getElem?_cons_succ, List.getElem?_cons_zero]; exact rfl) (by kernel_rfl) (by kernel_rfl) (by kernel_rfl) (fun _ _ _ h => h) (Or.inl ⟨by rfl, ?_⟩) (by assumption) ?_
            rotate_left
            · intro w hSw
              try dsimp only at hSw
              go_simp
              try with_reducible rfl
            try simp only [Act.put, List.setIfInBounds_toArray, List.set_cons_zero, List.set_cons_succ]
            refine wpAnyH_take (i := 6) (v := ?_) (by simp only [List.getElem?_toArray, List.getElem?_cons_succ, List.getElem?_cons_zero]; exact rfl) (by kernel_rfl) (by kernel_rfl) (by kernel_rfl) (fun _ _ _ h => h) (Or.inl ⟨by rfl, ?_⟩) (by assumption) ?_
            rotate_left
            · intro w hSw
              try dsimp only at hSw
              go_simp
              try with_reducible rfl
            try simp only [Act.put, List.setIfInBounds_toArray, List.set_cons_zero, List.set_cons_succ]
            refine wpAnyH_ready (rs := [0, 7, 11]) (by kernel_rfl) (by simp) ?_
            refine (AllReadyH.cons (by simp only [List.getElem?_toArray, List.getElem?_cons_succ, List.getElem?_cons_zero]; exact rfl) (fun K hK => ?_) (AllReadyH.cons (by simp only [List.getElem?_toArray, List.getElem?_cons_succ, List.getElem?_cons_zero]; exact rfl) (fun K hK => ?_) (AllReadyH.cons (by simp only [List.getElem?_toArray, List.getElem?_cons_succ, List.getElem?_cons_zero]; exact rfl) (fun K hK => ?_) AllReadyH.nil)))
            · go_simp
              replace BWc : Hid (Below W7.heap.size W7 (W7.drew.alloc (.cells #[] 65))) := hid (bt BWc.out (b1alloc _ _))
              refine hK.out _ _ (KS.out _ (bt B67.out BWc.out)) (fun hHeld2 => ?_)
              clear hK K hHeld
              have hHeld := hHeld2
              clear hHeld2
              clear cz3
              have cz3 : (W7.alloc (.cells #[] 65)).cell? ⟨W6.heap.size, 3, none⟩ = some (.slice (some ⟨bb, oo, none⟩) p0 k0) := kp_cell (j := 3) (v := .slice (some ⟨bb, oo, none⟩) p0 k0) (KY.out.step BWc.out) rfl
              try simp only [Act.put, List.setIfInBounds_toArray, List.set_cons_zero, List.set_cons_succ]
              refine wpAnyH_ready (rs := [7, 11]) (by kernel_rfl) (by simp) ?_
              refine (AllReadyH.cons (by simp only [List.getElem?_toArray, List.getElem?_cons_succ, List.getElem?_cons_zero]; exact rfl) (fun K hK => ?_) (AllReadyH.cons (by simp only [List.getElem?_toArray, List.getElem?_cons_succ, List.getElem?_cons_zero]; exact rfl) (fun K hK => ?_) AllReadyH.nil))
              · go_simp
                replace BWc : Hid (Below W7.heap.size W7 ((W7.drew.alloc (.cells #[] 65)).alloc (.cells #[.int .i64 x0, .int .i64 x1] 65))) := hid (bt BWc.out (b1alloc _ _))
                refine hK.out _ _ (KS.out _ (bt B67.out BWc.out)) (fun hHeld2 => ?_)
                clear hK K hHeld
                have hHeld := hHeld2
                clear hHeld2
                clear cz3
                have cz3 : ((W7.alloc (.cells #[] 65)).alloc (.cells #[.int .i64 x0, .int .i64 x1] 65)).cell? ⟨W6.heap.size, 3, none⟩ = some (.slice (some ⟨bb, oo, none⟩) p0 k0) := kp_cell (j := 3) (v := .slice (some ⟨bb, oo, none⟩) p0 k0) (KY.out.step BWc.out) rfl
                try simp only [Act.put, List.setIfInBounds_toArray, List.set_cons_zero, List.set_cons_succ]
                refine wpAnyH_ready (rs := [8, 11]) (by kernel_rfl) (by simp) ?_
                refine (AllReadyH.cons (by simp only [List.getElem?_toArray, List.getElem?_cons_succ, List.getElem?_cons_zero]; exact rfl) (fun K hK => ?_) (AllReadyH.cons (by simp only [List.getElem?_toArray, List.getElem?_cons_succ, List.getElem?_cons_zero]; exact rfl) (fun K hK => ?_) AllReadyH.nil))
                · refine step_append_nr ((W7.drew.alloc (.cells #[] 65)).alloc (.cells #[.int .i64 x0, .int .i64 x1] 65)) (by rfl) (.tmp 84) (.tmp 91) (by rfl) W7.heap.size W7.heap.size 0 0 [] (by rfl) ((nown_at W7.drew W7.heap.size W7.heap.size rfl (Nat.le_refl _)).alloc _) ⟨(W7.heap.size + 1), 0, none⟩ 1 1 [(x0, x1)] (by rfl) (nrun_1 _ _ x0 x1 _ (by simp)) (by omega) BWc.out.size 1 [(x0, x1)] rfl rfl ?_
                  intro g8 c8 w8 ho8 hg8
                  have O8 := hid ho8
                  replace BWc : Hid (Below W7.heap.size W7 w8) := hid (BWc.out.trans (grow_below (base := W7.heap.size) hg8 BWc.out.size (fun k hk => by cases hk; first | exact Nat.le_refl _ | omega)))
                  refine hK.out _ _ (KS.out _ (bt B67.out BWc.out)) (fun hHeld2 => ?_)
                  clear hK K hHeld
                  have hHeld := hHeld2
                  clear hHeld2
                  clear ho8 hg8 cz3
                  have cz3 := kp_cell (j := 3) (v := .slice (some ⟨bb, oo, none⟩) p0 k0) (KY.out.step BWc.out) rfl
                  try simp only [Act.put, List.setIfInBounds_toArray, List.set_cons_zero, List.set_cons_succ]
                  refine wpAnyH_ready (rs := [11]) (by kernel_rfl) (by simp) ?_
                  refine (AllReadyH.cons (by simp only [List.getElem?_toArray, List.getElem?_cons_succ, List.getElem?_cons_zero]; exact rfl) (fun K hK => ?_) AllReadyH.nil)
                  go_simp
                  refine hK.out _ _ hHeld (fun hHeld2 => ?_)
                  clear hK K hHeld2
                  try simp only [Act.put, List.setIfInBounds_toArray, List.set_cons_zero, List.set_cons_succ]
                  refine wpAnyH_take (i := 13) (v := ?_) (by simp only [List.getElem?_toArray, List.getElem?_cons_succ, List.getElem?_cons_zero]; exact rfl) (by kernel_rfl) (by kernel_rfl) (by kernel_rfl) (fun _ _ _ h => h) (Or.inl ⟨by rfl, ?_⟩) (by assumption) ?_
                  rotate_left
                  · intro w hSw
                    try dsimp only at hSw
                    go_simp
                    try with_reducible rfl
                  try simp only [Act.put, List.setIfInBounds_toArray, List.set_cons_zero, List.set_cons_succ]
                  refine wpAnyH_ready (rs := [14]) (by kernel_rfl) (by simp) ?_
                  refine (AllReadyH.cons (by simp only [List.getElem?_toArray, List.getElem?_cons_succ, List.getElem?_cons_zero]; exact rfl) (fun K hK => ?_) AllReadyH.nil)
                  refine step_append_nr w8 (by rfl) (.tmp 92) (.tmp 97) (by rfl) W7.heap.size g8 1 c8 [(x0, x1)] (by rfl) O8.out ⟨bb, oo, none⟩ nn k0 (X.b0.take nn) (by rfl) (NP.out.below BWc.out) (by omega) BWc.out.size p0 ((x0, x1) :: X.b0.take nn) (by omega) rfl ?_
                  intro g9 c9 w9 ho9 hg9
                  have O9 := hid ho9
                  replace BWc : Hid (Below W7.heap.size W7 w9) := hid (BWc.out.trans (grow_below (base := W7.heap.size) hg9 BWc.out.size (fun k hk => by cases hk; exact (O8.out.lt g8 rfl).1)))
                  refine hK.out _ _ (KS.out _ (bt B67.out BWc.out)) (fun hHeld2 => ?_)
                  clear hK K hHeld
                  have hHeld := hHeld2
                  clear hHeld2
                  clear ho9 hg9 cz3
                  have cz3 := kp_cell (j := 3) (v := .slice (some ⟨bb, oo, none⟩) p0 k0) (KY.out.step BWc.out) rfl
                  have fz3 := kp_froz (KY.out.step BWc.out) 3
                  try simp only [Act.put, List.setIfInBounds_toArray, List.set_cons_zero, List.set_cons_succ]
                  refine wpAnyH_take (i := 16) (v := ?_) (by simp only [List.getElem?_toArray, List.getElem?_cons_succ, List.getElem?_cons_zero]; exact rfl) (by kernel_rfl) (by kernel_rfl) (by kernel_rfl) (fun _ _ _ h => h) (Or.inl ⟨by rfl, ?_⟩) (by assumption) ?_
                  rotate_left
                  · intro w hSw
                    try dsimp only at hSw
                    go_simp
                    try with_reducible rfl
                  try simp only [Act.put, List.setIfInBounds_toArray, List.set_cons_zero, List.set_cons_succ]
                  refine wpAnyH_ready (rs := [17]) (by kernel_rfl) (by simp) ?_
                  refine (AllReadyH.cons (by simp only [List.getElem?_toArray, List.getElem?_cons_succ, List.getElem?_cons_zero]; exact rfl) (fun K hK => ?_) AllReadyH.nil)
                  go_simp
                  refine hK.out _ _ (KS.out _ ((bt B67.out BWc.out).setCell (p := ⟨W6.heap.size, 3, none⟩) (Nat.le_refl _) _)) (fun hHeld2 => ?_)
                  clear hK K hHeld hHeld2
                  try simp only [Act.put, List.setIfInBounds_toArray, List.set_cons_zero, List.set_cons_succ]
                  refine wpAnyH_done (by kernel_rfl) ?_ _
                  refine NoPanic.normal ?_
                  try go_wp2_with fail
                  go_meet
                  have hg9 := (O9.out.lt g9 rfl).1
                  have e9 : p0 = ((x0, x1) :: X.b0.take nn).length := by rw [List.length_cons, List.length_take]; have := PX.out.1; omega
                  have h9 := O9.out
                  refine ⟨_, g9, c9, rfl, by have := HNY.out; omega, kp_set (j := 3) (v := .slice (some ⟨g9, 0, none⟩) p0 c9) (KY.out.step BWc.out), ?_, (bt B67.out BWc.out).setCell (p := ⟨W6.heap.size, 3, none⟩) (Nat.le_refl _) _⟩
                  rw [e9] at h9 ⊢
                  exact own_other (l := (x0, x1) :: X.b0.take nn) h9 (set_grown w9 W6.heap.size 3 _) (fun g hg => by have e8 := own_only hg; have := HNY.out; omega)
                · go_simp
                  refine hK.out _ _ hHeld (fun hHeld2 => ?_)
                  clear hK K hHeld2
                  try simp only [Act.put, List.setIfInBounds_toArray, List.set_cons_zero, List.set_cons_succ]
                  refine wpAnyH_take (i := 13) (v := ?_) (by simp only [List.getElem?_toArray, List.getElem?_cons_succ, List.getElem?_cons_zero]; exact rfl) (by kernel_rfl) (by kernel_rfl) (by kernel_rfl) (fun _ _ _ h => h) (Or.inl ⟨by rfl, ?_⟩) (by assumption) ?_
                  rotate_left
                  · intro w hSw
                    try dsimp only at hSw
                    go_simp
                    try with_reducible rfl
                  try simp only [Act.put, List.setIfInBounds_toArray, List.set_cons_zero, List.set_cons_succ]
                  refine wpAnyH_ready (rs := [8]) (by kernel_rfl) (by simp) ?_
                  refine (AllReadyH.cons (by simp only [List.getElem?_toArray, List.getElem?_cons_succ, List.getElem?_cons_zero]; exact rfl) (fun K hK => ?_) AllReadyH.nil)
                  refine step_append_nr ((W7.drew.alloc (.cells #[] 65)).alloc (.cells #[.int .i64 x0, .int .i64 x1] 65)) (by rfl) (.tmp 84) (.tmp 91) (by rfl) W7.heap.size W7.heap.size 0 0 [] (by rfl) ((nown_at W7.drew W7.heap.size W7.heap.size rfl (Nat.le_refl _)).alloc _) ⟨(W7.heap.size + 1), 0, none⟩ 1 1 [(x0, x1)] (by rfl) (nrun_1 _ _ x0 x1 _ (by simp)) (by omega) BWc.out.size 1 [(x0, x1)] rfl rfl ?_
                  intro g8 c8 w8 ho8 hg8
                  have O8 := hid ho8
                  replace BWc : Hid (Below W7.heap.size W7 w8) := hid (BWc.out.trans (grow_below (base := W7.heap.size) hg8 BWc.out.size (fun k hk => by cases hk; first | exact Nat.le_refl _ | omega)))
                  refine hK.out _ _ (KS.out _ (bt B67.out BWc.out)) (fun hHeld2 => ?_)
                  clear hK K hHeld
                  have hHeld := hHeld2
                  clear hHeld2
                  clear ho8 hg8 cz3
                  have cz3 := kp_cell (j := 3) (v := .slice (some ⟨bb, oo, none⟩) p0 k0) (KY.out.step BWc.out) rfl
                  try simp only [Act.put, List.setIfInBounds_toArray, List.set_cons_zero, List.set_cons_succ]
                  refine wpAnyH_ready (rs := [14]) (by kernel_rfl) (by simp) ?_
                  refine (AllReadyH.cons (by simp only [List.getElem?_toArray, List.getElem?_cons_succ, List.getElem?_cons_zero]; exact rfl) (fun K hK => ?_) AllReadyH.nil)
                  refine step_append_nr w8 (by rfl) (.tmp 92) (.tmp 97) (by rfl) W7.heap.size g8 1 c8 [(x0, x1)] (by rfl) O8.out ⟨bb, oo, none⟩ nn k0 (X.b0.take nn) (by rfl) (NP.out.below BWc.out) (by omega) BWc.out.size p0 ((x0, x1) :: X.b0.take nn) (by omega) rfl ?_
                  intro g9 c9 w9 ho9 hg9
                  have O9 := hid ho9
                  replace BWc : Hid (Below W7.heap.size W7 w9) := hid (BWc.out.trans (grow_below (base := W7.heap.size) hg9 BWc.out.size (fun k hk => by cases hk; exact (O8.out.lt g8 rfl).1)))
                  refine hK.out _ _ (KS.out _ (bt B67.out BWc.out)) (fun hHeld2 => ?_)
                  clear hK K hHeld
                  have hHeld := hHeld2
                  clear hHeld2
                  clear ho9 hg9 cz3
                  have cz3 := kp_cell (j := 3) (v := .slice (some ⟨bb, oo, none⟩) p0 k0) (KY.out.step BWc.out) rfl
                  have fz3 := kp_froz (KY.out.step BWc.out) 3
                  try simp only [Act.put, List.setIfInBounds_toArray, List.set_cons_zero, List.set_cons_succ]
                  refine wpAnyH_take (i := 16) (v := ?_) (by simp only [List.getElem?_toArray, List.getElem?_cons_succ, List.getElem?_cons_zero]; exact rfl) (by kernel_rfl) (by kernel_rfl) (by kernel_rfl) (fun _ _ _ h => h) (Or.inl ⟨by rfl, ?_⟩) (by assumption) ?_
                  rotate_left
                  · intro w hSw
                    try dsimp only at hSw
                    go_simp
                    try with_reducible rfl
                  try simp only [Act.put, List.setIfInBounds_toArray, List.set_cons_zero, List.set_cons_succ]
                  refine wpAnyH_ready (rs := [17]) (by kernel_rfl) (by simp) ?_
                  refine (AllReadyH.cons (by simp only [List.getElem?_toArray, List.getElem?_cons_succ, List.getElem?_cons_zero]; exact rfl) (fun K hK => ?_) AllReadyH.nil)
                  go_simp
                  refine hK.out _ _ (KS.out _ ((bt B67.out BWc.out).setCell (p := ⟨W6.heap.size, 3, none⟩) (Nat.le_refl _) _)) (fun hHeld2 => ?_)
                  clear hK K hHeld hHeld2
                  try simp only [Act.put, List.setIfInBounds_toArray, List.set_cons_zero, List.set_cons_succ]
                  refine wpAnyH_done (by kernel_rfl) ?_ _
                  refine NoPanic.normal ?_
                  try go_wp2_with fail
                  go_meet
                  have hg9 := (O9.out.lt g9 rfl).1
                  have e9 : p0 = ((x0, x1) :: X.b0.take nn).length := by rw [List.length_cons, List.length_take]; have := PX.out.1; omega
                  have h9 := O9.out
                  refine ⟨_, g9, c9, rfl, by have := HNY.out; omega, kp_set (j := 3) (v := .slice (some ⟨g9, 0, none⟩) p0 c9) (KY.out.step BWc.out), ?_, (bt B67.out BWc.out).setCell (p := ⟨W6.heap.size, 3, none⟩) (Nat.le_refl _) _⟩
                  rw [e9] at h9 ⊢
                  exact own_other (l := (x0, x1) :: X.b0.take nn) h9 (set_grown w9 W6.heap.size 3 _) (fun g hg => by have e8 := own_only hg; have := HNY.out; omega)
              · go_simp
                refine hK.out _ _ hHeld (fun hHeld2 => ?_)
                clear hK K hHeld2
                try simp only [Act.put, List.setIfInBounds_toArray, List.set_cons_zero, List.set_cons_succ]
                refine wpAnyH_take (i := 13) (v := ?_) (by simp only [List.getElem?_toArray, List.getElem?_cons_succ, List.getElem?_cons_zero]; exact rfl) (by kernel_rfl) (by kernel_rfl) (by kernel_rfl) (fun _ _ _ h => h) (Or.inl ⟨by rfl, ?_⟩) (by assumption) ?_
                rotate_left
                · intro w hSw
                  try dsimp only at hSw
                  go_simp
                  try with_reducible rfl
                try simp only [Act.put, List.setIfInBounds_toArray, List.set_cons_zero, List.set_cons_succ]
                refine wpAnyH_ready (rs := [7]) (by kernel_rfl) (by simp) ?_
                refine (AllReadyH.cons (by simp only [List.getElem?_toArray, List.getElem?_cons_succ, List.getElem?_cons_zero]; exact rfl) (fun K hK => ?_) AllReadyH.nil)
                go_simp
                replace BWc : Hid (Below W7.heap.size W7 ((W7.drew.alloc (.cells #[] 65)).alloc (.cells #[.int .i64 x0, .int .i64 x1] 65))) := hid (bt BWc.out (b1alloc _ _))
                refine hK.out _ _ (KS.out _ (bt B67.out BWc.out)) (fun hHeld2 => ?_)
                clear hK K hHeld
                have hHeld := hHeld2
                clear hHeld2
                clear cz3
                have cz3 : ((W7.alloc (.cells #[] 65)).alloc (.cells #[.int .i64 x0, .int .i64 x1] 65)).cell? ⟨W6.heap.size, 3, none⟩ = some (.slice (some ⟨bb, oo, none⟩) p0 k0) := kp_cell (j := 3) (v := .slice (some ⟨bb, oo, none⟩) p0 k0) (KY.out.step BWc.out) rfl
                try simp only [Act.put, List.setIfInBounds_toArray, List.set_cons_zero, List.set_cons_succ]
                refine wpAnyH_ready (rs := [8]) (by kernel_rfl) (by simp) ?_
                refine (AllReadyH.cons (by simp only [List.getElem?_toArray, List.getElem?_cons_succ, List.getElem?_cons_zero]; exact rfl) (fun K hK => ?_) AllReadyH.nil)
                refine step_append_nr ((W7.drew.alloc (.cells #[] 65)).alloc (.cells #[.int .i64 x0, .int .i64 x1] 65)) (by rfl) (.tmp 84) (.tmp 91) (by rfl) W7.heap.size W7.heap.size 0 0 [] (by rfl) ((nown_at W7.drew W7.heap.size W7.heap.size rfl (Nat.le_refl _)).alloc _) ⟨(W7.heap.size + 1), 0, none⟩ 1 1 [(x0, x1)] (by rfl) (nrun_1 _ _ x0 x1 _ (by simp)) (by omega) BWc.out.size 1 [(x0, x1)] rfl rfl ?_
                intro g8 c8 w8 ho8 hg8
                have O8 := hid ho8
                replace BWc : Hid (Below W7.heap.size W7 w8) := hid (BWc.out.trans (grow_below (base := W7.heap.size) hg8 BWc.out.size (fun k hk => by cases hk; first | exact Nat.le_refl _ | omega)))
                refine hK.out _ _ (KS.out _ (bt B67.out BWc.out)) (fun hHeld2 => ?_)
                clear hK K hHeld
                have hHeld := hHeld2
                clear hHeld2
                clear ho8 hg8 cz3
                have cz3 := kp_cell (j := 3) (v := .slice (some ⟨bb, oo, none⟩) p0 k0) (KY.out.step BWc.out) rfl
                try simp only [Act.put, List.setIfInBounds_toArray, List.set_cons_zero, List.set_cons_succ]
                refine wpAnyH_ready (rs := [14]) (by kernel_rfl) (by simp) ?_
                refine (AllReadyH.cons (by simp only [List.getElem?_toArray, List.getElem?_cons_succ, List.getElem?_cons_zero]; exact rfl) (fun K hK => ?_) AllReadyH.nil)
                refine step_append_nr w8 (by rfl) (.tmp 92) (.tmp 97) (by rfl) W7.heap.size g8 1 c8 [(x0, x1)] (by rfl) O8.out ⟨bb, oo, none⟩ nn k0 (X.b0.take nn) (by rfl) (NP.out.below BWc.out) (by omega) BWc.out.size p0 ((x0, x1) :: X.b0.take nn) (by omega) rfl ?_
                intro g9 c9 w9 ho9 hg9
                have O9 := hid ho9
                replace BWc : Hid (Below W7.heap.size W7 w9) := hid (BWc.out.trans (grow_below (base := W7.heap.size) hg9 BWc.out.size (fun k hk => by cases hk; exact (O8.out.lt g8 rfl).1)))
                refine hK.out _ _ (KS.out _ (bt B67.out BWc.out)) (fun hHeld2 => ?_)
                clear hK K hHeld
                have hHeld := hHeld2
                clear hHeld2
                clear ho9 hg9 cz3
                have cz3 := kp_cell (j := 3) (v := .slice (some ⟨bb, oo, none⟩) p0 k0) (KY.out.step BWc.out) rfl
                have fz3 := kp_froz (KY.out.step BWc.out) 3
                try simp only [Act.put, List.setIfInBounds_toArray, List.set_cons_zero, List.set_cons_succ]
                refine wpAnyH_take (i := 16) (v := ?_) (by simp only [List.getElem?_toArray, List.getElem?_cons_succ, List.getElem?_cons_zero]; exact rfl) (by kernel_rfl) (by kernel_rfl) (by kernel_rfl) (fun _ _ _ h => h) (Or.inl ⟨by rfl, ?_⟩) (by assumption) ?_
                rotate_left
                · intro w hSw
                  try dsimp only at hSw
                  go_simp
                  try with_reducible rfl
                try simp only [Act.put, List.setIfInBounds_toArray, List.set_cons_zero, List.set_cons_succ]
                refine wpAnyH_ready (rs := [17]) (by kernel_rfl) (by simp) ?_
                refine (AllReadyH.cons (by simp only [List.getElem?_toArray, List.getElem?_cons_succ, List.getElem?_cons_zero]; exact rfl) (fun K hK => ?_) AllReadyH.nil)
                go_simp
                refine hK.out _ _ (KS.out _ ((bt B67.out BWc.out).setCell (p := ⟨W6.heap.size, 3, none⟩) (Nat.le_refl _) _)) (fun hHeld2 => ?_)
                clear hK K hHeld hHeld2
                try simp only [Act.put, List.setIfInBounds_toArray, List.set_cons_zero, List.set_cons_succ]
                refine wpAnyH_done (by kernel_rfl) ?_ _
                refine NoPanic.normal ?_
                try go_wp2_with fail
                go_meet
                have hg9 := (O9.out.lt g9 rfl).1
                have e9 : p0 = ((x0, x1) :: X.b0.take nn).length := by rw [List.length_cons, List.length_take]; have := PX.out.1; omega
                have h9 := O9.out
                refine ⟨_, g9, c9, rfl, by have := HNY.out; omega, kp_set (j := 3) (v := .slice (some ⟨g9, 0, none⟩) p0 c9) (KY.out.step BWc.out), ?_, (bt B67.out BWc.out).setCell (p := ⟨W6.heap.size, 3, none⟩) (Nat.le_refl _) _⟩
                rw [e9] at h9 ⊢
                exact own_other (l := (x0, x1) :: X.b0.take nn) h9 (set_grown w9 W6.heap.size 3 _) (fun g hg => by have e8 := own_only hg; have := HNY.out; omega)
            · go_simp
              replace BWc : Hid (Below W7.heap.size W7 (W7.drew.alloc (.cells #[.int .i64 x0, .int .i64 x1] 65))) := hid (bt BWc.out (b1alloc _ _))
              refine hK.out _ _ (KS.out _ (bt B67.out BWc.out)) (fun hHeld2 => ?_)
              clear hK K hHeld
              have hHeld := hHeld2
              clear hHeld2
              clear cz3
              have cz3 : (W7.alloc (.cells #[.int .i64 x0, .int .i64 x1] 65)).cell? ⟨W6.heap.size, 3, none⟩ = some (.slice (some ⟨bb, oo, none⟩) p0 k0) := kp_cell (j := 3) (v := .slice (some ⟨bb, oo, none⟩) p0 k0) (KY.out.step BWc.out) rfl
              try simp only [Act.put, List.setIfInBounds_toArray, List.set_cons_zero, List.set_cons_succ]
              refine wpAnyH_ready (rs := [0, 11]) (by kernel_rfl) (by simp) ?_
              refine (AllReadyH.cons (by simp only [List.getElem?_toArray, List.getElem?_cons_succ, List.getElem?_cons_zero]; exact rfl) (fun K hK => ?_) (AllReadyH.cons (by simp only [List.getElem?_toArray, List.getElem?_cons_succ, List.getElem?_cons_zero]; exact rfl) (fun K hK => ?_) AllReadyH.nil))
              · go_simp
                replace BWc : Hid (Below W7.heap.size W7 ((W7.drew.alloc (.cells #[.int .i64 x0, .int .i64 x1] 65)).alloc (.cells #[] 65))) := hid (bt BWc.out (b1alloc _ _))
                refine hK.out _ _ (KS.out _ (bt B67.out BWc.out)) (fun hHeld2 => ?_)
                clear hK K hHeld
                have hHeld := hHeld2
                clear hHeld2
                clear cz3
                have cz3 : ((W7.alloc (.cells #[.int .i64 x0, .int .i64 x1] 65)).alloc (.cells #[] 65)).cell? ⟨W6.heap.size, 3, none⟩ = some (.slice (some ⟨bb, oo, none⟩) p0 k0) := kp_cell (j := 3) (v := .slice (some ⟨bb, oo, none⟩) p0 k0) (KY.out.step BWc.out) rfl
                try simp only [Act.put, List.setIfInBounds_toArray, List.set_cons_zero, List.set_cons_succ]
                refine wpAnyH_ready (rs := [8, 11]) (by kernel_rfl) (by simp) ?_
                refine (AllReadyH.cons (by simp only [List.getElem?_toArray, List.getElem?_cons_succ, List.getElem?_cons_zero]; exact rfl) (fun K hK => ?_) (AllReadyH.cons (by simp only [List.getElem?_toArray, List.getElem?_cons_succ, List.getElem?_cons_zero]; exact rfl) (fun K hK => ?_) AllReadyH.nil))
                · refine step_append_nr ((W7.drew.alloc (.cells #[.int .i64 x0, .int .i64 x1] 65)).alloc (.cells #[] 65)) (by rfl) (.tmp 84) (.tmp 91) (by rfl) W7.heap.size (W7.heap.size + 1) 0 0 [] (by rfl) (nown_at (W7.drew.alloc (.cells #[.int .i64 x0, .int .i64 x1] 65)) W7.heap.size (W7.heap.size + 1) (by simp) (by simp)) ⟨W7.heap.size, 0, none⟩ 1 1 [(x0, x1)] (by rfl) ((nrun_1 W7.drew W7.heap.size x0 x1 _ rfl).below (b1alloc _ _)) (by omega) BWc.out.size 1 [(x0, x1)] rfl rfl ?_
                  intro g8 c8 w8 ho8 hg8
                  have O8 := hid ho8
                  replace BWc : Hid (Below W7.heap.size W7 w8) := hid (BWc.out.trans (grow_below (base := W7.heap.size) hg8 BWc.out.size (fun k hk => by cases hk; first | exact Nat.le_refl _ | omega)))
                  refine hK.out _ _ (KS.out _ (bt B67.out BWc.out)) (fun hHeld2 => ?_)
                  clear hK K hHeld
                  have hHeld := hHeld2
                  clear hHeld2
                  clear ho8 hg8 cz3
                  have cz3 := kp_cell (j := 3) (v := .slice (some ⟨bb, oo, none⟩) p0 k0) (KY.out.step BWc.out) rfl
                  try simp only [Act.put, List.setIfInBounds_toArray, List.set_cons_zero, List.set_cons_succ]
                  refine wpAnyH_ready (rs := [11]) (by kernel_rfl) (by simp) ?_
                  refine (AllReadyH.cons (by simp only [List.getElem?_toArray, List.getElem?_cons_succ, List.getElem?_cons_zero]; exact rfl) (fun K hK => ?_) AllReadyH.nil)
                  go_simp
                  refine hK.out _ _ hHeld (fun hHeld2 => ?_)
                  clear hK K hHeld2
                  try simp only [Act.put, List.setIfInBounds_toArray, List.set_cons_zero, List.set_cons_succ]
                  refine wpAnyH_take (i := 13) (v := ?_) (by simp only [List.getElem?_toArray, List.getElem?_cons_succ, List.getElem?_cons_zero]; exact rfl) (by kernel_rfl) (by kernel_rfl) (by kernel_rfl) (fun _ _ _ h => h) (Or.inl ⟨by rfl, ?_⟩) (by assumption) ?_
                  rotate_left
                  · intro w hSw
                    try dsimp only at hSw
                    go_simp
                    try with_reducible rfl
                  try simp only [Act.put, List.setIfInBounds_toArray, List.set_cons_zero, List.set_cons_succ]
                  refine wpAnyH_ready (rs := [14]) (by kernel_rfl) (by simp) ?_
                  refine (AllReadyH.cons (by simp only [List.getElem?_toArray, List.getElem?_cons_succ, List.getElem?_cons_zero]; exact rfl) (fun K hK => ?_) AllReadyH.nil)
                  refine step_append_nr w8 (by rfl) (.tmp 92) (.tmp 97) (by rfl) W7.heap.size g8 1 c8 [(x0, x1)] (by rfl) O8.out ⟨bb, oo, none⟩ nn k0 (X.b0.take nn) (by rfl) (NP.out.below BWc.out) (by omega) BWc.out.size p0 ((x0, x1) :: X.b0.take nn) (by omega) rfl ?_
                  intro g9 c9 w9 ho9 hg9
                  have O9 := hid ho9
                  replace BWc : Hid (Below W7.heap.size W7 w9) := hid (BWc.out.trans (grow_below (base := W7.heap.size) hg9 BWc.out.size (fun k hk => by cases hk; exact (O8.out.lt g8 rfl).1)))
                  refine hK.out _ _ (KS.out _ (bt B67.out BWc.out)) (fun hHeld2 => ?_)
                  clear hK K hHeld
                  have hHeld := hHeld2
                  clear hHeld2
                  clear ho9 hg9 cz3
                  have cz3 := kp_cell (j := 3) (v := .slice (some ⟨bb, oo, none⟩) p0 k0) (KY.out.step BWc.out) rfl
                  have fz3 := kp_froz (KY.out.step BWc.out) 3
                  try simp only [Act.put, List.setIfInBounds_toArray, List.set_cons_zero, List.set_cons_succ]
                  refine wpAnyH_take (i := 16) (v := ?_) (by simp only [List.getElem?_toArray, List.getElem?_cons_succ, List.getElem?_cons_zero]; exact rfl) (by kernel_rfl) (by kernel_rfl) (by kernel_rfl) (fun _ _ _ h => h) (Or.inl ⟨by rfl, ?_⟩) (by assumption) ?_
                  rotate_left
                  · intro w hSw
                    try dsimp only at hSw
                    go_simp
                    try with_reducible rfl
                  try simp only [Act.put, List.setIfInBounds_toArray, List.set_cons_zero, List.set_cons_succ]
                  refine wpAnyH_ready (rs := [17]) (by kernel_rfl) (by simp) ?_
                  refine (AllReadyH.cons (by simp only [List.getElem?_toArray, List.getElem?_cons_succ, List.getElem?_cons_zero]; exact rfl) (fun K hK => ?_) AllReadyH.nil)
                  go_simp
                  refine hK.out _ _ (KS.out _ ((bt B67.out BWc.out).setCell (p := ⟨W6.heap.size, 3, none⟩) (Nat.le_refl _) _)) (fun hHeld2 => ?_)
                  clear hK K hHeld hHeld2
                  try simp only [Act.put, List.setIfInBounds_toArray, List.set_cons_zero, List.set_cons_succ]
                  refine wpAnyH_done (by kernel_rfl) ?_ _
                  refine NoPanic.normal ?_
                  try go_wp2_with fail
                  go_meet
                  have hg9 := (O9.out.lt g9 rfl).1
                  have e9 : p0 = ((x0, x1) :: X.b0.take nn).length := by rw [List.length_cons, List.length_take]; have := PX.out.1; omega
                  have h9 := O9.out
                  refine ⟨_, g9, c9, rfl, by have := HNY.out; omega, kp_set (j := 3) (v := .slice (some ⟨g9, 0, none⟩) p0 c9) (KY.out.step BWc.out), ?_, (bt B67.out BWc.out).setCell (p := ⟨W6.heap.size, 3, none⟩) (Nat.le_refl _) _⟩
                  rw [e9] at h9 ⊢
                  exact own_other (l := (x0, x1) :: X.b0.take nn) h9 (set_grown w9 W6.heap.size 3 _) (fun g hg => by have e8 := own_only hg; have := HNY.out; omega)
                · go_simp
                  refine hK.out _ _ hHeld (fun hHeld2 => ?_)
                  clear hK K hHeld2
                  try simp only [Act.put, List.setIfInBounds_toArray, List.set_cons_zero, List.set_cons_succ]
                  refine wpAnyH_take (i := 13) (v := ?_) (by simp only [List.getElem?_toArray, List.getElem?_cons_succ, List.getElem?_cons_zero]; exact rfl) (by kernel_rfl) (by kernel_rfl) (by kernel_rfl) (fun _ _ _ h => h) (Or.inl ⟨by rfl, ?_⟩) (by assumption) ?_
                  rotate_left
                  · intro w hSw
                    try dsimp only at hSw
                    go_simp
                    try with_reducible rfl
                  try simp only [Act.put, List.setIfInBounds_toArray, List.set_cons_zero, List.set_cons_succ]
                  refine wpAnyH_ready (rs := [8]) (by kernel_rfl) (by simp) ?_
                  refine (AllReadyH.cons (by simp only [List.getElem?_toArray, List.getElem?_cons_succ, List.getElem?_cons_zero]; exact rfl) (fun K hK => ?_) AllReadyH.nil)
                  refine step_append_nr ((W7.drew.alloc (.cells #[.int .i64 x0, .int .i64 x1] 65)).alloc (.cells #[] 65)) (by rfl) (.tmp 84) (.tmp 91) (by rfl) W7.heap.size (W7.heap.size + 1) 0 0 [] (by rfl) (nown_at (W7.drew.alloc (.cells #[.int .i64 x0, .int .i64 x1] 65)) W7.heap.size (W7.heap.size + 1) (by simp) (by simp)) ⟨W7.heap.size, 0, none⟩ 1 1 [(x0, x1)] (by rfl) ((nrun_1 W7.drew W7.heap.size x0 x1 _ rfl).below (b1alloc _ _)) (by omega) BWc.out.size 1 [(x0, x1)] rfl rfl ?_
                  intro g8 c8 w8 ho8 hg8
                  have O8 := hid ho8
                  replace BWc : Hid (Below W7.heap.size W7 w8) := hid (BWc.out.trans (grow_below (base := W7.heap.size) hg8 BWc.out.size (fun k hk => by cases hk; first | exact Nat.le_refl _ | omega)))
                  refine hK.out _ _ (KS.out _ (bt B67.out BWc.out)) (fun hHeld2 => ?_)
                  clear hK K hHeld
                  have hHeld := hHeld2
                  clear hHeld2
                  clear ho8 hg8 cz3
                  have cz3 := kp_cell (j := 3) (v := .slice (some ⟨bb, oo, none⟩) p0 k0) (KY.out.step BWc.out) rfl
                  try simp only [Act.put, List.setIfInBounds_toArray, List.set_cons_zero, List.set_cons_succ]
                  refine wpAnyH_ready (rs := [14]) (by kernel_rfl) (by simp) ?_
                  refine (AllReadyH.cons (by simp only [List.getElem?_toArray, List.getElem?_cons_succ, List.getElem?_cons_zero]; exact rfl) (fun K hK => ?_) AllReadyH.nil)
                  refine step_append_nr w8 (by rfl) (.tmp 92) (.tmp 97) (by rfl) W7.heap.size g8 1 c8 [(x0, x1)] (by rfl) O8.out ⟨bb, oo, none⟩ nn k0 (X.b0.take nn) (by rfl) (NP.out.below BWc.out) (by omega) BWc.out.size p0 ((x0, x1) :: X.b0.take nn) (by omega) rfl ?_
                  intro g9 c9 w9 ho9 hg9
                  have O9 := hid ho9
                  replace BWc : Hid (Below W7.heap.size W7 w9) := hid (BWc.out.trans (grow_below (base := W7.heap.size) hg9 BWc.out.size (fun k hk => by cases hk; exact (O8.out.lt g8 rfl).1)))
                  refine hK.out _ _ (KS.out _ (bt B67.out BWc.out)) (fun hHeld2 => ?_)
                  clear hK K hHeld
                  have hHeld := hHeld2
                  clear hHeld2
                  clear ho9 hg9 cz3
                  have cz3 := kp_cell (j := 3) (v := .slice (some ⟨bb, oo, none⟩) p0 k0) (KY.out.step BWc.out) rfl
                  have fz3 := kp_froz (KY.out.step BWc.out) 3
                  try simp only [Act.put, List.setIfInBounds_toArray, List.set_cons_zero, List.set_cons_succ]
                  refine wpAnyH_take (i := 16) (v := ?_) (by simp only [List.getElem?_toArray, List.getElem?_cons_succ, List.getElem?_cons_zero]; exact rfl) (by kernel_rfl) (by kernel_rfl) (by kernel_rfl) (fun _ _ _ h => h) (Or.inl ⟨by rfl, ?_⟩) (by assumption) ?_
                  rotate_left
                  · intro w hSw
                    try dsimp only at hSw
                    go_simp
                    try with_reducible rfl
                  try simp only [Act.put, List.setIfInBounds_toArray, List.set_cons_zero, List.set_cons_succ]
                  refine wpAnyH_ready (rs := [17]) (by kernel_rfl) (by simp) ?_
                  refine (AllReadyH.cons (by simp only [List.getElem?_toArray, List.getElem?_cons_succ, List.getElem?_cons_zero]; exact rfl) (fun K hK => ?_) AllReadyH.nil)
                  go_simp
                  refine hK.out _ _ (KS.out _ ((bt B67.out BWc.out).setCell (p := ⟨W6.heap.size, 3, none⟩) (Nat.le_refl _) _)) (fun hHeld2 => ?_)
                  clear hK K hHeld hHeld2
                  try simp only [Act.put, List.setIfInBounds_toArray, List.set_cons_zero, List.set_cons_succ]
                  refine wpAnyH_done (by kernel_rfl) ?_ _
                  refine NoPanic.normal ?_
                  try go_wp2_with fail
                  go_meet
                  have hg9 := (O9.out.lt g9 rfl).1
                  have e9 : p0 = ((x0, x1) :: X.b0.take nn).length := by rw [List.length_cons, List.length_take]; have := PX.out.1; omega
                  have h9 := O9.out
                  refine ⟨_, g9, c9, rfl, by have := HNY.out; omega, kp_set (j := 3) (v := .slice (some ⟨g9, 0, none⟩) p0 c9) (KY.out.step BWc.out), ?_, (bt B67.out BWc.out).setCell (p := ⟨W6.heap.size, 3, none⟩) (Nat.le_refl _) _⟩
                  rw [e9] at h9 ⊢
                  exact own_other (l := (x0, x1) :: X.b0.take nn) h9 (set_grown w9 W6.heap.size 3 _) (fun g hg => by have e8 := own_only hg; have := HNY.out; omega)
              · go_simp
                refine hK.out _ _ hHeld (fun hHeld2 => ?_)
                clear hK K hHeld2
                try simp only [Act.put, List.setIfInBounds_toArray, List.set_cons_zero, List.set_cons_succ]
                refine wpAnyH_take (i := 13) (v := ?_) (by simp only [List.getElem?_toArray, List.getElem?_cons_succ, List.getElem?_cons_zero]; exact rfl) (by kernel_rfl) (by kernel_rfl) (by kernel_rfl) (fun _ _ _ h => h) (Or.inl ⟨by rfl, ?_⟩) (by assumption) ?_
                rotate_left
                · intro w hSw
                  try dsimp only at hSw
                  go_simp
                  try with_reducible rfl
                try simp only [Act.put, List.setIfInBounds_toArray, List.set_cons_zero, List.set_cons_succ]
                refine wpAnyH_ready (rs := [0]) (by kernel_rfl) (by simp) ?_
                refine (AllReadyH.cons (by simp only [List.getElem?_toArray, List.getElem?_cons_succ, List.getElem?_cons_zero]; exact rfl) (fun K hK => ?_) AllReadyH.nil)
                go_simp
                replace BWc : Hid (Below W7.heap.size W7 ((W7.drew.alloc (.cells #[.int .i64 x0, .int .i64 x1] 65)).alloc (.cells #[] 65))) := hid (bt BWc.out (b1alloc _ _))
                refine hK.out _ _ (KS.out _ (bt B67.out BWc.out)) (fun hHeld2 => ?_)
                clear hK K hHeld
                have hHeld := hHeld2
                clear hHeld2
                clear cz3
                have cz3 : ((W7.alloc (.cells #[.int .i64 x0, .int .i64 x1] 65)).alloc (.cells #[] 65)).cell? ⟨W6.heap.size, 3, none⟩ = some (.slice (some ⟨bb, oo, none⟩) p0 k0) := kp_cell (j := 3) (v := .slice (some ⟨bb, oo, none⟩) p0 k0) (KY.out.step BWc.out) rfl
                try simp only [Act.put, List.setIfInBounds_toArray, List.set_cons_zero, List.set_cons_succ]
                refine wpAnyH_ready (rs := [8]) (by kernel_rfl) (by simp) ?_
                refine (AllReadyH.cons (by simp only [List.getElem?_toArray, List.getElem?_cons_succ, List.getElem?_cons_zero]; exact rfl) (fun K hK => ?_) AllReadyH.nil)
                refine step_append_nr ((W7.drew.alloc (.cells #[.int .i64 x0, .int .i64 x1] 65)).alloc (.cells #[] 65)) (by rfl) (.tmp 84) (.tmp 91) (by rfl) W7.heap.size (W7.heap.size + 1) 0 0 [] (by rfl) (nown_at (W7.drew.alloc (.cells #[.int .i64 x0, .int .i64 x1] 65)) W7.heap.size (W7.heap.size + 1) (by simp) (by simp)) ⟨W7.heap.size, 0, none⟩ 1 1 [(x0, x1)] (by rfl) ((nrun_1 W7.drew W7.heap.size x0 x1 _ rfl).below (b1alloc _ _)) (by omega) BWc.out.size 1 [(x0, x1)] rfl rfl ?_
                intro g8 c8 w8 ho8 hg8
                have O8 := hid ho8
                replace BWc : Hid (Below W7.heap.size W7 w8) := hid (BWc.out.trans (grow_below (base := W7.heap.size) hg8 BWc.out.size (fun k hk => by cases hk; first | exact Nat.le_refl _ | omega)))
                refine hK.out _ _ (KS.out _ (bt B67.out BWc.out)) (fun hHeld2 => ?_)
                clear hK K hHeld
                have hHeld := hHeld2
                clear hHeld2
                clear ho8 hg8 cz3
                have cz3 := kp_cell (j := 3) (v := .slice (some ⟨bb, oo, none⟩) p0 k0) (KY.out.step BWc.out) rfl
                try simp only [Act.put, List.setIfInBounds_toArray, List.set_cons_zero, List.set_cons_succ]
                refine wpAnyH_ready (rs := [14]) (by kernel_rfl) (by simp) ?_
                refine (AllReadyH.cons (by simp only [List.getElem?_toArray, List.getElem?_cons_succ, List.getElem?_cons_zero]; exact rfl) (fun K hK => ?_) AllReadyH.nil)
                refine step_append_nr w8 (by rfl) (.tmp 92) (.tmp 97) (by rfl) W7.heap.size g8 1 c8 [(x0, x1)] (by rfl) O8.out ⟨bb, oo, none⟩ nn k0 (X.b0.take nn) (by rfl) (NP.out.below BWc.out) (by omega) BWc.out.size p0 ((x0, x1) :: X.b0.take nn) (by omega) rfl ?_
                intro g9 c9 w9 ho9 hg9
                have O9 := hid ho9
                replace BWc : Hid (Below W7.heap.size W7 w9) := hid (BWc.out.trans (grow_below (base := W7.heap.size) hg9 BWc.out.size (fun k hk => by cases hk; exact (O8.out.lt g8 rfl).1)))
                refine hK.out _ _ (KS.out _ (bt B67.out BWc.out)) (fun hHeld2 => ?_)
                clear hK K hHeld
                have hHeld := hHeld2
                clear hHeld2
                clear ho9 hg9 cz3
                have cz3 := kp_cell (j := 3) (v := .slice (some ⟨bb, oo, none⟩) p0 k0) (KY.out.step BWc.out) rfl
                have fz3 := kp_froz (KY.out.step BWc.out) 3
                try simp only [Act.put, List.setIfInBounds_toArray, List.set_cons_zero, List.set_cons_succ]
                refine wpAnyH_take (i := 16) (v := ?_) (by simp only [List.getElem?_toArray, List.getElem?_cons_succ, List.getElem?_cons_zero]; exact rfl) (by kernel_rfl) (by kernel_rfl) (by kernel_rfl) (fun _ _ _ h => h) (Or.inl ⟨by rfl, ?_⟩) (by assumption) ?_
                rotate_left
                · intro w hSw
                  try dsimp only at hSw
                  go_simp
                  try with_reducible rfl
                try simp only [Act.put, List.setIfInBounds_toArray, List.set_cons_zero, List.set_cons_succ]
                refine wpAnyH_ready (rs := [17]) (by kernel_rfl) (by simp) ?_
                refine (AllReadyH.cons (by simp only [List.getElem?_toArray, List.getElem?_cons_succ, List.getElem?_cons_zero]; exact rfl) (fun K hK => ?_) AllReadyH.nil)
                go_simp
                refine hK.out _ _ (KS.out _ ((bt B67.out BWc.out).setCell (p := ⟨W6.heap.size, 3, none⟩) (Nat.le_refl _) _)) (fun hHeld2 => ?_)
                clear hK K hHeld hHeld2
                try simp only [Act.put, List.setIfInBounds_toArray, List.set_cons_zero, List.set_cons_succ]
                refine wpAnyH_done (by kernel_rfl) ?_ _
                refine NoPanic.normal ?_
                try go_wp2_with fail
                go_meet
                have hg9 := (O9.out.lt g9 rfl).1
                have e9 : p0 = ((x0, x1) :: X.b0.take nn).length := by rw [List.length_cons, List.length_take]; have := PX.out.1; omega
                have h9 := O9.out
                refine ⟨_, g9, c9, rfl, by have := HNY.out; omega, kp_set (j := 3) (v := .slice (some ⟨g9, 0, none⟩) p0 c9) (KY.out.step BWc.out), ?_, (bt B67.out BWc.out).setCell (p := ⟨W6.heap.size, 3, none⟩) (Nat.le_refl _) _⟩
                rw [e9] at h9 ⊢
                exact own_other (l := (x0, x1) :: X.b0.take nn) h9 (set_grown w9 W6.heap.size 3 _) (fun g hg => by have e8 := own_only hg; have := HNY.out; omega)
            · go_simp
              refine hK.out _ _ hHeld (fun hHeld2 => ?_)
              clear hK K hHeld2
              try simp only [Act.put, List.setIfInBounds_toArray, List.set_cons_zero, List.set_cons_succ]
              refine wpAnyH_take (i := 13) (v := ?_) (by simp only [List.getElem?_toArray, List.getElem?_cons_succ, List.getElem?_cons_zero]; exact rfl) (by kernel_rfl) (by kernel_rfl) (by kernel_rfl) (fun _ _ _ h => h) (Or.inl ⟨by rfl, ?_⟩) (by assumption) ?_
              rotate_left
              · intro w hSw
                try dsimp only at hSw
                go_simp
                try with_reducible rfl
              try simp only [Act.put, List.setIfInBounds_toArray, List.set_cons_zero, List.set_cons_succ]
              refine wpAnyH_ready (rs := [0, 7]) (by kernel_rfl) (by simp) ?_
              refine (AllReadyH.cons (by simp only [List.getElem?_toArray, List.getElem?_cons_succ, List.getElem?_cons_zero]; exact rfl) (fun K hK => ?_) (AllReadyH.cons (by simp only [List.getElem?_toArray, List.getElem?_cons_succ, List.getElem?_cons_zero]; exact rfl) (fun K hK => ?_) AllReadyH.nil))
              · go_simp
                replace BWc : Hid (Below W7.heap.size W7 (W7.drew.alloc (.cells #[] 65))) := hid (bt BWc.out (b1alloc _ _))
                refine hK.out _ _ (KS.out _ (bt B67.out BWc.out)) (fun hHeld2 => ?_)
                clear hK K hHeld
                have hHeld := hHeld2
                clear hHeld2
                clear cz3
                have cz3 : (W7.alloc (.cells #[] 65)).cell? ⟨W6.heap.size, 3, none⟩ = some (.slice (some ⟨bb, oo, none⟩) p0 k0) := kp_cell (j := 3) (v := .slice (some ⟨bb, oo, none⟩) p0 k0) (KY.out.step BWc.out) rfl
                try simp only [Act.put, List.setIfInBounds_toArray, List.set_cons_zero, List.set_cons_succ]
                refine wpAnyH_ready (rs := [7]) (by kernel_rfl) (by simp) ?_
                refine (AllReadyH.cons (by simp only [List.getElem?_toArray, List.getElem?_cons_succ, List.getElem?_cons_zero]; exact rfl) (fun K hK => ?_) AllReadyH.nil)
                go_simp
                replace BWc : Hid (Below W7.heap.size W7 ((W7.drew.alloc (.cells #[] 65)).alloc (.cells #[.int .i64 x0, .int .i64 x1] 65))) := hid (bt BWc.out (b1alloc _ _))
                refine hK.out _ _ (KS.out _ (bt B67.out BWc.out)) (fun hHeld2 => ?_)
                clear hK K hHeld
                have hHeld := hHeld2
                clear hHeld2
                clear cz3
                have cz3 : ((W7.alloc (.cells #[] 65)).alloc (.cells #[.int .i64 x0, .int .i64 x1] 65)).cell? ⟨W6.heap.size, 3, none⟩ = some (.slice (some ⟨bb, oo, none⟩) p0 k0) := kp_cell (j := 3) (v := .slice (some ⟨bb, oo, none⟩) p0 k0) (KY.out.step BWc.out) rfl
                try simp only [Act.put, List.setIfInBounds_toArray, List.set_cons_zero, List.set_cons_succ]
                refine wpAnyH_ready (rs := [8]) (by kernel_rfl) (by simp) ?_
                refine (AllReadyH.cons (by simp only [List.getElem?_toArray, List.getElem?_cons_succ, List.getElem?_cons_zero]; exact rfl) (fun K hK => ?_) AllReadyH.nil)
                refine step_append_nr ((W7.drew.alloc (.cells #[] 65)).alloc (.cells #[.int .i64 x0, .int .i64 x1] 65)) (by rfl) (.tmp 84) (.tmp 91) (by rfl) W7.heap.size W7.heap.size 0 0 [] (by rfl) ((nown_at W7.drew W7.heap.size W7.heap.size rfl (Nat.le_refl _)).alloc _) ⟨(W7.heap.size + 1), 0, none⟩ 1 1 [(x0, x1)] (by rfl) (nrun_1 _ _ x0 x1 _ (by simp)) (by omega) BWc.out.size 1 [(x0, x1)] rfl rfl ?_
                intro g8 c8 w8 ho8 hg8
                have O8 := hid ho8
                replace BWc : Hid (Below W7.heap.size W7 w8) := hid (BWc.out.trans (grow_below (base := W7.heap.size) hg8 BWc.out.size (fun k hk => by cases hk; first | exact Nat.le_refl _ | omega)))
                refine hK.out _ _ (KS.out _ (bt B67.out BWc.out)) (fun hHeld2 => ?_)
                clear hK K hHeld
                have hHeld := hHeld2
                clear hHeld2
                clear ho8 hg8 cz3
                have cz3 := kp_cell (j := 3) (v := .slice (some ⟨bb, oo, none⟩) p0 k0) (KY.out.step BWc.out) rfl
                try simp only [Act.put, List.setIfInBounds_toArray, List.set_cons_zero, List.set_cons_succ]
                refine wpAnyH_ready (rs := [14]) (by kernel_rfl) (by simp) ?_
                refine (AllReadyH.cons (by simp only [List.getElem?_toArray, List.getElem?_cons_succ, List.getElem?_cons_zero]; exact rfl) (fun K hK => ?_) AllReadyH.nil)
                refine step_append_nr w8 (by rfl) (.tmp 92) (.tmp 97) (by rfl) W7.heap.size g8 1 c8 [(x0, x1)] (by rfl) O8.out ⟨bb, oo, none⟩ nn k0 (X.b0.take nn) (by rfl) (NP.out.below BWc.out) (by omega) BWc.out.size p0 ((x0, x1) :: X.b0.take nn) (by omega) rfl ?_
                intro g9 c9 w9 ho9 hg9
                have O9 := hid ho9
                replace BWc : Hid (Below W7.heap.size W7 w9) := hid (BWc.out.trans (grow_below (base := W7.heap.size) hg9 BWc.out.size (fun k hk => by cases hk; exact (O8.out.lt g8 rfl).1)))
                refine hK.out _ _ (KS.out _ (bt B67.out BWc.out)) (fun hHeld2 => ?_)
                clear hK K hHeld
                have hHeld := hHeld2
                clear hHeld2
                clear ho9 hg9 cz3
                have cz3 := kp_cell (j := 3) (v := .slice (some ⟨bb, oo, none⟩) p0 k0) (KY.out.step BWc.out) rfl
                have fz3 := kp_froz (KY.out.step BWc.out) 3
                try simp only [Act.put, List.setIfInBounds_toArray, List.set_cons_zero, List.set_cons_succ]
                refine wpAnyH_take (i := 16) (v := ?_) (by simp only [List.getElem?_toArray, List.getElem?_cons_succ, List.getElem?_cons_zero]; exact rfl) (by kernel_rfl) (by kernel_rfl) (by kernel_rfl) (fun _ _ _ h => h) (Or.inl ⟨by rfl, ?_⟩) (by assumption) ?_
                rotate_left
                · intro w hSw
                  try dsimp only at hSw
                  go_simp
                  try with_reducible rfl
                try simp only [Act.put, List.setIfInBounds_toArray, List.set_cons_zero, List.set_cons_succ]
                refine wpAnyH_ready (rs := [17]) (by kernel_rfl) (by simp) ?_
                refine (AllReadyH.cons (by simp only [List.getElem?_toArray, List.getElem?_cons_succ, List.getElem?_cons_zero]; exact rfl) (fun K hK => ?_) AllReadyH.nil)
                go_simp
                refine hK.out _ _ (KS.out _ ((bt B67.out BWc.out).setCell (p := ⟨W6.heap.size, 3, none⟩) (Nat.le_refl _) _)) (fun hHeld2 => ?_)
                clear hK K hHeld hHeld2
                try simp only [Act.put, List.setIfInBounds_toArray, List.set_cons_zero, List.set_cons_succ]
                refine wpAnyH_done (by kernel_rfl) ?_ _
                refine NoPanic.normal ?_
                try go_wp2_with fail
                go_meet
                have hg9 := (O9.out.lt g9 rfl).1
                have e9 : p0 = ((x0, x1) :: X.b0.take nn).length := by rw [List.length_cons, List.length_take]; have := PX.out.1; omega
                have h9 := O9.out
                refine ⟨_, g9, c9, rfl, by have := HNY.out; omega, kp_set (j := 3) (v := .slice (some ⟨g9, 0, none⟩) p0 c9) (KY.out.step BWc.out), ?_, (bt B67.out BWc.out).setCell (p := ⟨W6.heap.size, 3, none⟩) (Nat.le_refl _) _⟩
                rw [e9] at h9 ⊢
                exact own_other (l := (x0, x1) :: X.b0.take nn) h9 (set_grown w9 W6.heap.size 3 _) (fun g hg => by have e8 := own_only hg; have := HNY.out; omega)
              · go_simp
                replace BWc : Hid (Below W7.heap.size W7 (W7.drew.alloc (.cells #[.int .i64 x0, .int .i64 x1] 65))) := hid (bt BWc.out (b1alloc _ _))
                refine hK.out _ _ (KS.out _ (bt B67.out BWc.out)) (fun hHeld2 => ?_)
                clear hK K hHeld
                have hHeld := hHeld2
                clear hHeld2
                clear cz3
                have cz3 : (W7.alloc (.cells #[.int .i64 x0, .int .i64 x1] 65)).cell? ⟨W6.heap.size, 3, none⟩ = some (.slice (some ⟨bb, oo, none⟩) p0 k0) := kp_cell (j := 3) (v := .slice (some ⟨bb, oo, none⟩) p0 k0) (KY.out.step BWc.out) rfl
                try simp only [Act.put, List.setIfInBounds_toArray, List.set_cons_zero, List.set_cons_succ]
                refine wpAnyH_ready (rs := [0]) (by kernel_rfl) (by simp) ?_
                refine (AllReadyH.cons (by simp only [List.getElem?_toArray, List.getElem?_cons_succ, List.getElem?_cons_zero]; exact rfl) (fun K hK => ?_) AllReadyH.nil)
                go_simp
                replace BWc : Hid (Below W7.heap.size W7 ((W7.drew.alloc (.cells #[.int .i64 x0, .int .i64 x1] 65)).alloc (.cells #[] 65))) := hid (bt BWc.out (b1alloc _ _))
                refine hK.out _ _ (KS.out _ (bt B67.out BWc.out)) (fun hHeld2 => ?_)
                clear hK K hHeld
                have hHeld := hHeld2
                clear hHeld2
                clear cz3
                have cz3 : ((W7.alloc (.cells #[.int .i64 x0, .int .i64 x1] 65)).alloc (.cells #[] 65)).cell? ⟨W6.heap.size, 3, none⟩ = some (.slice (some ⟨bb, oo, none⟩) p0 k0) := kp_cell (j := 3) (v := .slice (some ⟨bb, oo, none⟩) p0 k0) (KY.out.step BWc.out) rfl
                try simp only [Act.put, List.setIfInBounds_toArray, List.set_cons_zero, List.set_cons_succ]
                refine wpAnyH_ready (rs := [8]) (by kernel_rfl) (by simp) ?_
                refine (AllReadyH.cons (by simp only [List.getElem?_toArray, List.getElem?_cons_succ, List.getElem?_cons_zero]; exact rfl) (fun K hK => ?_) AllReadyH.nil)
                refine step_append_nr ((W7.drew.alloc (.cells #[.int .i64 x0, .int .i64 x1] 65)).alloc (.cells #[] 65)) (by rfl) (.tmp 84) (.tmp 91) (by rfl) W7.heap.size (W7.heap.size + 1) 0 0 [] (by rfl) (nown_at (W7.drew.alloc (.cells #[.int .i64 x0, .int .i64 x1] 65)) W7.heap.size (W7.heap.size + 1) (by simp) (by simp)) ⟨W7.heap.size, 0, none⟩ 1 1 [(x0, x1)] (by rfl) ((nrun_1 W7.drew W7.heap.size x0 x1 _ rfl).below (b1alloc _ _)) (by omega) BWc.out.size 1 [(x0, x1)] rfl rfl ?_
                intro g8 c8 w8 ho8 hg8
                have O8 := hid ho8
                replace BWc : Hid (Below W7.heap.size W7 w8) := hid (BWc.out.trans (grow_below (base := W7.heap.size) hg8 BWc.out.size (fun k hk => by cases hk; first | exact Nat.le_refl _ | omega)))
                refine hK.out _ _ (KS.out _ (bt B67.out BWc.out)) (fun hHeld2 => ?_)
                clear hK K hHeld
                have hHeld := hHeld2
                clear hHeld2
                clear ho8 hg8 cz3
                have cz3 := kp_cell (j := 3) (v := .slice (some ⟨bb, oo, none⟩) p0 k0) (KY.out.step BWc.out) rfl
                try simp only [Act.put, List.setIfInBounds_toArray, List.set_cons_zero, List.set_cons_succ]
                refine wpAnyH_ready (rs := [14]) (by kernel_rfl) (by simp) ?_
                refine (AllReadyH.cons (by simp only [List.getElem?_toArray, List.getElem?_cons_succ, List.getElem?_cons_zero]; exact rfl) (fun K hK => ?_) AllReadyH.nil)
                refine step_append_nr w8 (by rfl) (.tmp 92) (.tmp 97) (by rfl) W7.heap.size g8 1 c8 [(x0, x1)] (by rfl) O8.out ⟨bb, oo, none⟩ nn k0 (X.b0.take nn) (by rfl) (NP.out.below BWc.out) (by omega) BWc.out.size p0 ((x0, x1) :: X.b0.take nn) (by omega) rfl ?_
                intro g9 c9 w9 ho9 hg9
                have O9 := hid ho9
                replace BWc : Hid (Below W7.heap.size W7 w9) := hid (BWc.out.trans (grow_below (base := W7.heap.size) hg9 BWc.out.size (fun k hk => by cases hk; exact (O8.out.lt g8 rfl).1)))
                refine hK.out _ _ (KS.out _ (bt B67.out BWc.out)) (fun hHeld2 => ?_)
                clear hK K hHeld
                have hHeld := hHeld2
                clear hHeld2
                clear ho9 hg9 cz3
                have cz3 := kp_cell (j := 3) (v := .slice (some ⟨bb, oo, none⟩) p0 k0) (KY.out.step BWc.out) rfl
                have fz3 := kp_froz (KY.out.step BWc.out) 3
                try simp only [Act.put, List.setIfInBounds_toArray, List.set_cons_zero, List.set_cons_succ]
                refine wpAnyH_take (i := 16) (v := ?_) (by simp only [List.getElem?_toArray, List.getElem?_cons_succ, List.getElem?_cons_zero]; exact rfl) (by kernel_rfl) (by kernel_rfl) (by kernel_rfl) (fun _ _ _ h => h) (Or.inl ⟨by rfl, ?_⟩) (by assumption) ?_
                rotate_left
                · intro w hSw
                  try dsimp only at hSw
                  go_simp
                  try with_reducible rfl
                try simp only [Act.put, List.setIfInBounds_toArray, List.set_cons_zero, List.set_cons_succ]
                refine wpAnyH_ready (rs := [17]) (by kernel_rfl) (by simp) ?_
                refine (AllReadyH.cons (by simp only [List.getElem?_toArray, List.getElem?_cons_succ, List.getElem?_cons_zero]; exact rfl) (fun K hK => ?_) AllReadyH.nil)
                go_simp
                refine hK.out _ _ (KS.out _ ((bt B67.out BWc.out).setCell (p := ⟨W6.heap.size, 3, none⟩) (Nat.le_refl _) _)) (fun hHeld2 => ?_)
                clear hK K hHeld hHeld2
                try simp only [Act.put, List.setIfInBounds_toArray, List.set_cons_zero, List.set_cons_succ]
                refine wpAnyH_done (by kernel_rfl) ?_ _
                refine NoPanic.normal ?_
                try go_wp2_with fail
                go_meet
                have hg9 := (O9.out.lt g9 rfl).1
                have e9 : p0 = ((x0, x1) :: X.b0.take nn).length := by rw [List.length_cons, List.length_take]; have := PX.out.1; omega
                have h9 := O9.out
                refine ⟨_, g9, c9, rfl, by have := HNY.out; omega, kp_set (j := 3) (v := .slice (some ⟨g9, 0, none⟩) p0 c9) (KY.out.step BWc.out), ?_, (bt B67.out BWc.out).setCell (p := ⟨W6.heap.size, 3, none⟩) (Nat.le_refl _) _⟩
                rw [e9] at h9 ⊢
                exact own_other (l := (x0, x1) :: X.b0.take nn) h9 (set_grown w9 W6.heap.size 3 _) (fun g hg => by have e8 := own_only hg; have := HNY.out; omega)
          · go_simp
            refine hK.out _ _ hHeld (fun hHeld2 => ?_)
            clear hK K hHeld2
            try simp only [Act.put, List.setIfInBounds_toArray, List.set_cons_zero, List.set_cons_succ]
            refine wpAnyH_take (i := 13) (v := ?_) (by simp only [List.getElem?_toArray, List.getElem?_cons_succ, List.getElem?_cons_zero]; exact rfl) (by kernel_rfl) (by kernel_rfl) (by kernel_rfl) (fun _ _ _ h => h) (Or.inl ⟨by rfl, ?_⟩) (by assumption) ?_
            rotate_left
            · intro w hSw
              try dsimp only at hSw
              go_simp
              try with_reducible rfl
            try simp only [Act.put, List.setIfInBounds_toArray, List.set_cons_zero, List.set_cons_succ]
            refine wpAnyH_ready (rs := [0, 3]) (by kernel_rfl) (by simp) ?_
            refine (AllReadyH.cons (by simp only [List.getElem?_toArray, List.getElem?_cons_succ, List.getElem?_cons_zero]; exact rfl) (fun K hK => ?_) (AllReadyH.cons (by simp only [List.getElem?_toArray, List.getElem?_cons_succ, List.getElem?_cons_zero]; exact rfl) (fun K hK => ?_) AllReadyH.nil))
            · go_simp
              replace BWc : Hid (Below W7.heap.size W7 (W7.drew.alloc (.cells #[] 65))) := hid (bt BWc.out (b1alloc _ _))
              refine hK.out _ _ (KS.out _ (bt B67.out BWc.out)) (fun hHeld2 => ?_)
              clear hK K hHeld
              have hHeld := hHeld2
              clear hHeld2
              clear cz3
              have cz3 : (W7.alloc (.cells #[] 65)).cell? ⟨W6.heap.size, 3, none⟩ = some (.slice (some ⟨bb, oo, none⟩) p0 k0) := kp_cell (j := 3) (v := .slice (some ⟨bb, oo, none⟩) p0 k0) (KY.out.step BWc.out) rfl
              try simp only [Act.put, List.setIfInBounds_toArray, List.set_cons_zero, List.set_cons_succ]
              refine wpAnyH_ready (rs := [3]) (by kernel_rfl) (by simp) ?_
              refine (AllReadyH.cons (by simp only [List.getElem?_toArray, List.getElem?_cons_succ, List.getElem?_cons_zero]; exact rfl) (fun K hK => ?_) AllReadyH.nil)
              go_simp
              refine hK.out _ _ hHeld (fun hHeld2 => ?_)
              clear hK K hHeld2
              try simp only [Act.put, List.setIfInBounds_toArray, List.set_cons_zero, List.set_cons_succ]
              refine wpAnyH_take (i := 5) (v := ?_) (by simp only [List.getElem?_toArray, List.getElem?_cons_succ, List.getElem?_cons_zero]; exact rfl) (by kernel_rfl) (by kernel_rfl) (by kernel_rfl) (fun _ _ _ h => h) (Or.inl ⟨by rfl, ?_⟩) (by assumption) ?_
              rotate_left
              · intro w hSw
                try dsimp only at hSw
                go_simp
                try with_reducible rfl
              try simp only [Act.put, List.setIfInBounds_toArray, List.set_cons_zero, List.set_cons_succ]
              refine wpAnyH_take (i := 6) (v := ?_) (by simp only [List.getElem?_toArray, List.getElem?_cons_succ, List.getElem?_cons_zero]; exact rfl) (by kernel_rfl) (by kernel_rfl) (by kernel_rfl) (fun _ _ _ h => h) (Or.inl ⟨by rfl, ?_⟩) (by assumption) ?_
              rotate_left
              · intro w hSw
                try dsimp only at hSw
                go_simp
                try with_reducible rfl
              try simp only [Act.put, List.setIfInBounds_toArray, List.set_cons_zero, List.set_cons_succ]
              refine wpAnyH_ready (rs := [7]) (by kernel_rfl) (by simp) ?_
              refine (AllReadyH.cons (by simp only [List.getElem?_toArray, List.getElem?_cons_succ, List.getElem?_cons_zero]; exact rfl) (fun K hK => ?_) AllReadyH.nil)
              go_simp
              replace BWc : Hid (Below W7.heap.size W7 ((W7.drew.alloc (.cells #[] 65)).alloc (.cells #[.int .i64 x0, .int .i64 x1] 65))) := hid (bt BWc.out (b1alloc _ _))
              refine hK.out _ _ (KS.out _ (bt B67.out BWc.out)) (fun hHeld2 => ?_)
              clear hK K hHeld
              have hHeld := hHeld2
              clear hHeld2
              clear cz3
              have cz3 : ((W7.alloc (.cells #[] 65)).alloc (.cells #[.int .i64 x0, .int .i64 x1] 65)).cell? ⟨W6.heap.size, 3, none⟩ = some (.slice (some ⟨bb, oo, none⟩) p0 k0) := kp_cell (j := 3) (v := .slice (some ⟨bb, oo, none⟩) p0 k0) (KY.out.step BWc.out) rfl
              try simp only [Act.put, List.setIfInBounds_toArray, List.set_cons_zero, List.set_cons_succ]
              refine wpAnyH_ready (rs := [8]) (by kernel_rfl) (by simp) ?_
              refine (AllReadyH.cons (by simp only [List.getElem?_toArray, List.getElem?_cons_succ, List.getElem?_cons_zero]; exact rfl) (fun K hK => ?_) AllReadyH.nil)
              refine step_append_nr ((W7.drew.alloc (.cells #[] 65)).alloc (.cells #[.int .i64 x0, .int .i64 x1] 65)) (by rfl) (.tmp 84) (.tmp 91) (by rfl) W7.heap.size W7.heap.size 0 0 [] (by rfl) ((nown_at W7.drew W7.heap.size W7.heap.size rfl (Nat.le_refl _)).alloc _) ⟨(W7.heap.size + 1), 0, none⟩ 1 1 [(x0, x1)] (by rfl) (nrun_1 _ _ x0 x1 _ (by simp)) (by omega) BWc.out.size 1 [(x0, x1)] rfl rfl ?_
              intro g8 c8 w8 ho8 hg8
              have O8 := hid ho8
              replace BWc : Hid (Below W7.heap.size W7 w8) := hid (BWc.out.trans (grow_below (base := W7.heap.size) hg8 BWc.out.size (fun k hk => by cases hk; first | exact Nat.le_refl _ | omega)))
              refine hK.out _ _ (KS.out _ (bt B67.out BWc.out)) (fun hHeld2 => ?_)
              clear hK K hHeld
              have hHeld := hHeld2
              clear hHeld2
              clear ho8 hg8 cz3
              have cz3 := kp_cell (j := 3) (v := .slice (some ⟨bb, oo, none⟩) p0 k0) (KY.out.step BWc.out) rfl
              try simp only [Act.put, List.setIfInBounds_toArray, List.set_cons_zero, List.set_cons_succ]
              refine wpAnyH_ready (rs := [14]) (by kernel_rfl) (by simp) ?_
              refine (AllReadyH.cons (by simp only [List.getElem?_toArray, List.getElem?_cons_succ, List.getElem?_cons_zero]; exact rfl) (fun K hK => ?_) AllReadyH.nil)
              refine step_append_nr w8 (by rfl) (.tmp 92) (.tmp 97) (by rfl) W7.heap.size g8 1 c8 [(x0, x1)] (by rfl) O8.out ⟨bb, oo, none⟩ nn k0 (X.b0.take nn) (by rfl) (NP.out.below BWc.out) (by omega) BWc.out.size p0 ((x0, x1) :: X.b0.take nn) (by omega) rfl ?_
              intro g9 c9 w9 ho9 hg9
              have O9 := hid ho9
              replace BWc : Hid (Below W7.heap.size W7 w9) := hid (BWc.out.trans (grow_below (base := W7.heap.size) hg9 BWc.out.size (fun k hk => by cases hk; exact (O8.out.lt g8 rfl).1)))
              refine hK.out _ _ (KS.out _ (bt B67.out BWc.out)) (fun hHeld2 => ?_)
              clear hK K hHeld
              have hHeld := hHeld2
              clear hHeld2
              clear ho9 hg9 cz3
              have cz3 := kp_cell (j := 3) (v := .slice (some ⟨bb, oo, none⟩) p0 k0) (KY.out.step BWc.out) rfl
              have fz3 := kp_froz (KY.out.step BWc.out) 3
              try simp only [Act.put, List.setIfInBounds_toArray, List.set_cons_zero, List.set_cons_succ]
              refine wpAnyH_take (i := 16) (v := ?_) (by simp only [List.getElem?_toArray, List.getElem?_cons_succ, List.getElem?_cons_zero]; exact rfl) (by kernel_rfl) (by kernel_rfl) (by kernel_rfl) (fun _ _ _ h => h) (Or.inl ⟨by rfl, ?_⟩) (by assumption) ?_
              rotate_left
              · intro w hSw
                try dsimp only at hSw
                go_simp
                try with_reducible rfl
              try simp only [Act.put, List.setIfInBounds_toArray, List.set_cons_zero, List.set_cons_succ]
              refine wpAnyH_ready (rs := [17]) (by kernel_rfl) (by simp) ?_
              refine (AllReadyH.cons (by simp only [List.getElem?_toArray, List.getElem?_cons_succ, List.getElem?_cons_zero]; exact rfl) (fun K hK => ?_) AllReadyH.nil)
              go_simp
              refine hK.out _ _ (KS.out _ ((bt B67.out BWc.out).setCell (p := ⟨W6.heap.size, 3, none⟩) (Nat.le_refl _) _)) (fun hHeld2 => ?_)
              clear hK K hHeld hHeld2
              try simp only [Act.put, List.setIfInBounds_toArray, List.set_cons_zero, List.set_cons_succ]
              refine wpAnyH_done (by kernel_rfl) ?_ _
              refine NoPanic.normal ?_
              try go_wp2_with fail
              go_meet
              have hg9 := (O9.out.lt g9 rfl).1
              have e9 : p0 = ((x0, x1) :: X.b0.take nn).length := by rw [List.length_cons, List.length_take]; have := PX.out.1; omega
              have h9 := O9.out
              refine ⟨_, g9, c9, rfl, by have := HNY.out; omega, kp_set (j := 3) (v := .slice (some ⟨g9, 0, none⟩) p0 c9) (KY.out.step BWc.out), ?_, (bt B67.out BWc.out).setCell (p := ⟨W6.heap.size, 3, none⟩) (Nat.le_refl _) _⟩
              rw [e9] at h9 ⊢
              exact own_other (l := (x0, x1) :: X.b0.take nn) h9 (set_grown w9 W6.heap.size 3 _) (fun g hg => by have e8 := own_only hg; have := HNY.out; omega)
            · go_simp
              refine hK.out _ _ hHeld (fun hHeld2 => ?_)
              clear hK K hHeld2
              try simp only [Act.put, List.setIfInBounds_toArray, List.set_cons_zero, List.set_cons_succ]
              refine wpAnyH_take (i := 5) (v := ?_) (by simp only [List.getElem?_toArray, List.getElem?_cons_succ, List.getElem?_cons_zero]; exact rfl) (by kernel_rfl) (by kernel_rfl) (by kernel_rfl) (fun _ _ _ h => h) (Or.inl ⟨by rfl, ?_⟩) (by assumption) ?_
              rotate_left
              · intro w hSw
                try dsimp only at hSw
                go_simp
                try with_reducible rfl
              try simp only [Act.put, List.setIfInBounds_toArray, List.set_cons_zero, List.set_cons_succ]
              refine wpAnyH_take (i := 6) (v := ?_) (by simp only [List.getElem?_toArray, List.getElem?_cons_succ, List.getElem?_cons_zero]; exact rfl) (by kernel_rfl) (by kernel_rfl) (by kernel_rfl) (fun _ _ _ h => h) (Or.inl ⟨by rfl, ?_⟩) (by assumption) ?_
              rotate_left
              · intro w hSw
                try dsimp only at hSw
                go_simp
                try with_reducible rfl
              try simp only [Act.put, List.setIfInBounds_toArray, List.set_cons_zero, List.set_cons_succ]
              refine wpAnyH_ready (rs := [0, 7]) (by kernel_rfl) (by simp) ?_
              refine (AllReadyH.cons (by simp only [List.getElem?_toArray, List.getElem?_cons_succ, List.getElem?_cons_zero]; exact rfl) (fun K hK => ?_) (AllReadyH.cons (by simp only [List.getElem?_toArray, List.getElem?_cons_succ, List.getElem?_cons_zero]; exact rfl) (fun K hK => ?_) AllReadyH.nil))
              · go_simp
                replace BWc : Hid (Below W7.heap.size W7 (W7.drew.alloc (.cells #[] 65))) := hid (bt BWc.out (b1alloc _ _))
                refine hK.out _ _ (KS.out _ (bt B67.out BWc.out)) (fun hHeld2 => ?_)
                clear hK K hHeld
                have hHeld := hHeld2
                clear hHeld2
                clear cz3
                have cz3 : (W7.alloc (.cells #[] 65)).cell? ⟨W6.heap.size, 3, none⟩ = some (.slice (some ⟨bb, oo, none⟩) p0 k0) := kp_cell (j := 3) (v := .slice (some ⟨bb, oo, none⟩) p0 k0) (KY.out.step BWc.out) rfl
                try simp only [Act.put, List.setIfInBounds_toArray, List.set_cons_zero, List.set_cons_succ]
                refine wpAnyH_ready (rs := [7]) (by kernel_rfl) (by simp) ?_
                refine (AllReadyH.cons (by simp only [List.getElem?_toArray, List.getElem?_cons_succ, List.getElem?_cons_zero]; exact rfl) (fun K hK => ?_) AllReadyH.nil)
                go_simp
                replace BWc : Hid (Below W7.heap.size W7 ((W7.drew.alloc (.cells #[] 65)).alloc (.cells #[.int .i64 x0, .int .i64 x1] 65))) := hid (bt BWc.out (b1alloc _ _))
                refine hK.out _ _ (KS.out _ (bt B67.out BWc.out)) (fun hHeld2 => ?_)
                clear hK K hHeld
                have hHeld := hHeld2
                clear hHeld2
                clear cz3
                have cz3 : ((W7.alloc (.cells #[] 65)).alloc (.cells #[.int .i64 x0, .int .i64 x1] 65)).cell? ⟨W6.heap.size, 3, none⟩ = some (.slice (some ⟨bb, oo, none⟩) p0 k0) := kp_cell (j := 3) (v := .slice (some ⟨bb, oo, none⟩) p0 k0) (KY.out.step BWc.out) rfl
                try simp only [Act.put, List.setIfInBounds_toArray, List.set_cons_zero, List.set_cons_succ]
                refine wpAnyH_ready (rs := [8]) (by kernel_rfl) (by simp) ?_
                refine (AllReadyH.cons (by simp only [List.getElem?_toArray, List.getElem?_cons_succ, List.getElem?_cons_zero]; exact rfl) (fun K hK => ?_) AllReadyH.nil)
                refine step_append_nr ((W7.drew.alloc (.cells #[] 65)).alloc (.cells #[.int .i64 x0, .int .i64 x1] 65)) (by rfl) (.tmp 84) (.tmp 91) (by rfl) W7.heap.size W7.heap.size 0 0 [] (by rfl) ((nown_at W7.drew W7.heap.size W7.heap.size rfl (Nat.le_refl _)).alloc _) ⟨(W7.heap.size + 1), 0, none⟩ 1 1 [(x0, x1)] (by rfl) (nrun_1 _ _ x0 x1 _ (by simp)) (by omega) BWc.out.size 1 [(x0, x1)] rfl rfl ?_
                intro g8 c8 w8 ho8 hg8
                have O8 := hid ho8
                replace BWc : Hid (Below W7.heap.size W7 w8) := hid (BWc.out.trans (grow_below (base := W7.heap.size) hg8 BWc.out.size (fun k hk => by cases hk; first | exact Nat.le_refl _ | omega)))
                refine hK.out _ _ (KS.out _ (bt B67.out BWc.out)) (fun hHeld2 => ?_)
                clear hK K hHeld
                have hHeld := hHeld2
                clear hHeld2
                clear ho8 hg8 cz3
                have cz3 := kp_cell (j := 3) (v := .slice (some ⟨bb, oo, none⟩) p0 k0) (KY.out.step BWc.out) rfl
                try simp only [Act.put, List.setIfInBounds_toArray, List.set_cons_zero, List.set_cons_succ]
                refine wpAnyH_ready (rs := [14]) (by kernel_rfl) (by simp) ?_
                refine (AllReadyH.cons (by simp only [List.getElem?_toArray, List.getElem?_cons_succ, List.getElem?_cons_zero]; exact rfl) (fun K hK => ?_) AllReadyH.nil)
                refine step_append_nr w8 (by rfl) (.tmp 92) (.tmp 97) (by rfl) W7.heap.size g8 1 c8 [(x0, x1)] (by rfl) O8.out ⟨bb, oo, none⟩ nn k0 (X.b0.take nn) (by rfl) (NP.out.below BWc.out) (by omega) BWc.out.size p0 ((x0, x1) :: X.b0.take nn) (by omega) rfl ?_
                intro g9 c9 w9 ho9 hg9
                have O9 := hid ho9
                replace BWc : Hid (Below W7.heap.size W7 w9) := hid (BWc.out.trans (grow_below (base := W7.heap.size) hg9 BWc.out.size (fun k hk => by cases hk; exact (O8.out.lt g8 rfl).1)))
                refine hK.out _ _ (KS.out _ (bt B67.out BWc.out)) (fun hHeld2 => ?_)
                clear hK K hHeld
                have hHeld := hHeld2
                clear hHeld2
                clear ho9 hg9 cz3
                have cz3 := kp_cell (j := 3) (v := .slice (some ⟨bb, oo, none⟩) p0 k0) (KY.out.step BWc.out) rfl
                have fz3 := kp_froz (KY.out.step BWc.out) 3
                try simp only [Act.put, List.setIfInBounds_toArray, List.set_cons_zero, List.set_cons_succ]
                refine wpAnyH_take (i := 16) (v := ?_) (by simp only [List.getElem?_toArray, List.getElem?_cons_succ, List.getElem?_cons_zero]; exact rfl) (by kernel_rfl) (by kernel_rfl) (by kernel_rfl) (fun _ _ _ h => h) (Or.inl ⟨by rfl, ?_⟩) (by assumption) ?_
                rotate_left
                · intro w hSw
                  try dsimp only at hSw
                  go_simp
                  try with_reducible rfl
                try simp only [Act.put, List.setIfInBounds_toArray, List.set_cons_zero, List.set_cons_succ]
                refine wpAnyH_ready (rs := [17]) (by kernel_rfl) (by simp) ?_
                refine (AllReadyH.cons (by simp only [List.getElem?_toArray, List.getElem?_cons_succ, List.getElem?_cons_zero]; exact rfl) (fun K hK => ?_) AllReadyH.nil)
                go_simp
                refine hK.out _ _ (KS.out _ ((bt B67.out BWc.out).setCell (p := ⟨W6.heap.size, 3, none⟩) (Nat.le_refl _) _)) (fun hHeld2 => ?_)
                clear hK K hHeld hHeld2
                try simp only [Act.put, List.setIfInBounds_toArray, List.set_cons_zero, List.set_cons_succ]
                refine wpAnyH_done (by kernel_rfl) ?_ _
                refine NoPanic.normal ?_
                try go_wp2_with fail
                go_meet
                have hg9 := (O9.out.lt g9 rfl).1
                have e9 : p0 = ((x0, x1) :: X.b0.take nn).length := by rw [List.length_cons, List.length_take]; have := PX.out.1; omega
                have h9 := O9.out
                refine ⟨_, g9, c9, rfl, by have := HNY.out; omega, kp_set (j := 3) (v := .slice (some ⟨g9, 0, none⟩) p0 c9) (KY.out.step BWc.out), ?_, (bt B67.out BWc.out).setCell (p := ⟨W6.heap.size, 3, none⟩) (Nat.le_refl _) _⟩
                rw [e9] at h9 ⊢
                exact own_other (l := (x0, x1) :: X.b0.take nn) h9 (set_grown w9 W6.heap.size 3 _) (fun g hg => by have e8 := own_only hg; have := HNY.out; omega)
              · go_simp
                replace BWc : Hid (Below W7.heap.size W7 (W7.drew.alloc (.cells #[.int .i64 x0, .int .i64 x1] 65))) := hid (bt BWc.out (b1alloc _ _))
                refine hK.out _ _ (KS.out _ (bt B67.out BWc.out)) (fun hHeld2 => ?_)
                clear hK K hHeld
                have hHeld := hHeld2
                clear hHeld2
                clear cz3
                have cz3 : (W7.alloc (.cells #[.int .i64 x0, .int .i64 x1] 65)).cell? ⟨W6.heap.size, 3, none⟩ = some (.slice (some ⟨bb, oo, none⟩) p0 k0) := kp_cell (j := 3) (v := .slice (some ⟨bb, oo, none⟩) p0 k0) (KY.out.step BWc.out) rfl
                try simp only [Act.put, List.setIfInBounds_toArray, List.set_cons_zero, List.set_cons_succ]
                refine wpAnyH_ready (rs := [0]) (by kernel_rfl) (by simp) ?_
                refine (AllReadyH.cons (by simp only [List.getElem?_toArray, List.getElem?_cons_succ, List.getElem?_cons_zero]; exact rfl) (fun K hK => ?_) AllReadyH.nil)
                go_simp
                replace BWc : Hid (Below W7.heap.size W7 ((W7.drew.alloc (.cells #[.int .i64 x0, .int .i64 x1] 65)).alloc (.cells #[] 65))) := hid (bt BWc.out (b1alloc _ _))
                refine hK.out _ _ (KS.out _ (bt B67.out BWc.out)) (fun hHeld2 => ?_)
                clear hK K hHeld
                have hHeld := hHeld2
                clear hHeld2
                clear cz3
                have cz3 : ((W7.alloc (.cells #[.int .i64 x0, .int .i64 x1] 65)).alloc (.cells #[] 65)).cell? ⟨W6.heap.size, 3, none⟩ = some (.slice (some ⟨bb, oo, none⟩) p0 k0) := kp_cell (j := 3) (v := .slice (some ⟨bb, oo, none⟩) p0 k0) (KY.out.step BWc.out) rfl
                try simp only [Act.put, List.setIfInBounds_toArray, List.set_cons_zero, List.set_cons_succ]
                refine wpAnyH_ready (rs := [8]) (by kernel_rfl) (by simp) ?_
                refine (AllReadyH.cons (by simp only [List.getElem?_toArray, List.getElem?_cons_succ, List.getElem?_cons_zero]; exact rfl) (fun K hK => ?_) AllReadyH.nil)
                refine step_append_nr ((W7.drew.alloc (.cells #[.int .i64 x0, .int .i64 x1] 65)).alloc (.cells #[] 65)) (by rfl) (.tmp 84) (.tmp 91) (by rfl) W7.heap.size (W7.heap.size + 1) 0 0 [] (by rfl) (nown_at (W7.drew.alloc (.cells #[.int .i64 x0, .int .i64 x1] 65)) W7.heap.size (W7.heap.size + 1) (by simp) (by simp)) ⟨W7.heap.size, 0, none⟩ 1 1 [(x0, x1)] (by rfl) ((nrun_1 W7.drew W7.heap.size x0 x1 _ rfl).below (b1alloc _ _)) (by omega) BWc.out.size 1 [(x0, x1)] rfl rfl ?_
                intro g8 c8 w8 ho8 hg8
                have O8 := hid ho8
                replace BWc : Hid (Below W7.heap.size W7 w8) := hid (BWc.out.trans (grow_below (base := W7.heap.size) hg8 BWc.out.size (fun k hk => by cases hk; first | exact Nat.le_refl _ | omega)))
                refine hK.out _ _ (KS.out _ (bt B67.out BWc.out)) (fun hHeld2 => ?_)
                clear hK K hHeld
                have hHeld := hHeld2
                clear hHeld2
                clear ho8 hg8 cz3
                have cz3 := kp_cell (j := 3) (v := .slice (some ⟨bb, oo, none⟩) p0 k0) (KY.out.step BWc.out) rfl
                try simp only [Act.put, List.setIfInBounds_toArray, List.set_cons_zero, List.set_cons_succ]
                refine wpAnyH_ready (rs := [14]) (by kernel_rfl) (by simp) ?_
                refine (AllReadyH.cons (by simp only [List.getElem?_toArray, List.getElem?_cons_succ, List.getElem?_cons_zero]; exact rfl) (fun K hK => ?_) AllReadyH.nil)
                refine step_append_nr w8 (by rfl) (.tmp 92) (.tmp 97) (by rfl) W7.heap.size g8 1 c8 [(x0, x1)] (by rfl) O8.out ⟨bb, oo, none⟩ nn k0 (X.b0.take nn) (by rfl) (NP.out.below BWc.out) (by omega) BWc.out.size p0 ((x0, x1) :: X.b0.take nn) (by omega) rfl ?_
                intro g9 c9 w9 ho9 hg9
                have O9 := hid ho9
                replace BWc : Hid (Below W7.heap.size W7 w9) := hid (BWc.out.trans (grow_below (base := W7.heap.size) hg9 BWc.out.size (fun k hk => by cases hk; exact (O8.out.lt g8 rfl).1)))
                refine hK.out _ _ (KS.out _ (bt B67.out BWc.out)) (fun hHeld2 => ?_)
                clear hK K hHeld
                have hHeld := hHeld2
                clear hHeld2
                clear ho9 hg9 cz3
                have cz3 := kp_cell (j := 3) (v := .slice (some ⟨bb, oo, none⟩) p0 k0) (KY.out.step BWc.out) rfl
                have fz3 := kp_froz (KY.out.step BWc.out) 3
                try simp only [Act.put, List.setIfInBounds_toArray, List.set_cons_zero, List.set_cons_succ]
                refine wpAnyH_take (i := 16) (v := ?_) (by simp only [List.getElem?_toArray, List.getElem?_cons_succ, List.getElem?_cons_zero]; exact rfl) (by kernel_rfl) (by kernel_rfl) (by kernel_rfl) (fun _ _ _ h => h) (Or.inl ⟨by rfl, ?_⟩) (by assumption) ?_
                rotate_left
                · intro w hSw
                  try dsimp only at hSw
                  go_simp
                  try with_reducible rfl
                try simp only [Act.put, List.setIfInBounds_toArray, List.set_cons_zero, List.set_cons_succ]
                refine wpAnyH_ready (rs := [17]) (by kernel_rfl) (by simp) ?_
                refine (AllReadyH.cons (by simp only [List.getElem?_toArray, List.getElem?_cons_succ, List.getElem?_cons_zero]; exact rfl) (fun K hK => ?_) AllReadyH.nil)
                go_simp
                refine hK.out _ _ (KS.out _ ((bt B67.out BWc.out).setCell (p := ⟨W6.heap.size, 3, none⟩) (Nat.le_refl _) _)) (fun hHeld2 => ?_)
                clear hK K hHeld hHeld2
                try simp only [Act.put, List.setIfInBounds_toArray, List.set_cons_zero, List.set_cons_succ]
                refine wpAnyH_done (by kernel_rfl) ?_ _
                refine NoPanic.normal ?_
                try go_wp2_with fail
                go_meet
                have hg9 := (O9.out.lt g9 rfl).1
                have e9 : p0 = ((x0, x1) :: X.b0.take nn).length := by rw [List.length_cons, List.length_take]; have := PX.out.1; omega
                have h9 := O9.out
                refine ⟨_, g9, c9, rfl, by have := HNY.out; omega, kp_set (j := 3) (v := .slice (some ⟨g9, 0, none⟩) p0 c9) (KY.out.step BWc.out), ?_, (bt B67.out BWc.out).setCell (p := ⟨W6.heap.size, 3, none⟩) (Nat.le_refl _) _⟩
                rw [e9] at h9 ⊢
                exact own_other (l := (x0, x1) :: X.b0.take nn) h9 (set_grown w9 W6.heap.size 3 _) (fun g hg => by have e8 := own_only hg; have := HNY.out; omega)
        case rest =>
          obtain ⟨z0, g2, cap2, e0, hg2, ky2, o2, bc2⟩ := hcut
          rename World => wc
          clear e0 cz3
          replace KY := hid ky2
          have HG2 := hid hg2
          have O9 := hid o2
          have BC := hid bc2
          clear hg2 ky2 o2 bc2 KS BWc NP
          by_cases h0 : nn = 0
          · have hz : (nn : Int) = 0 := by omega
            have hzb : ((nn : Int) == 0) = true := by simp [h0]
            have hn9 := own_nrun O9.out
            obtain ⟨bb', oo', y0, y1, eb, hlt', hr', q0, q1⟩ := hn9.pick (Below.refl _ _) (k := 0) hp0
            cases eb
            simp only [Nat.zero_mul, Nat.add_zero, Nat.zero_add] at q0 q1
            have fq := O9.out.frozenAt 1
            obtain ⟨fy0, fy1, fy2, fy3, fy4⟩ := box_five KY.out.2.2
            clear hn9 hr'
            go_upto_region 24 with fail
            have st := World.ownsRow.stored O9.out 1 (.int .i64 0)
            have O10 := hid st.1
            have G10 := st.2
            replace KY := hid (kp_gr KY.out G10 (Nat.ne_of_lt HG2.out) (Nat.le_trans KS0.out.1.size (Nat.le_of_lt HG2.out)))
            replace BC : Hid (Below W6.heap.size W6 (wc.setCell ⟨g2, 1, none⟩ (.int .i64 0))) := hid (BC.out.setCell (p := ⟨g2, 1, none⟩) (Nat.le_of_lt HG2.out) _)
            have XX := hid (XX6.out.below BC.out)
            have YY : Hid (CW _ (some ⟨g2, 0, none⟩) p0 cap2 a1 p1 k1 ⟨X.n, X.s0, X.s1, (x0, 0) :: X.b0.take nn, X.b1⟩) := hid ⟨own_nrun O10.out, XX.out.2⟩
            have KX := hid (KX6.out.step BC.out)
            clear q0 q1 fq fy0 fy1 fy2 fy3 fy4 BC O9 O10 G10 st
            generalize (wc.setCell ⟨g2, 1, none⟩ (.int .i64 0)) = Wm at KX KY XX YY ⊢
            have OY : Hid (okc ⟨X.n, X.s0, X.s1, (x0, 0) :: X.b0.take nn, X.b1⟩) := hid ⟨OX.out.1, OX.out.2.1, OX.out.2.2.1, (fun r hr => by rcases List.mem_cons.1 hr with rfl | hr; exact ⟨(OX.out.2.2.2.1 (x0, x1) (List.mem_of_getElem? HR.out)).1, by show I64 0; unfold I64; omega⟩; exact OX.out.2.2.2.1 r (List.mem_of_mem_take hr)), OX.out.2.2.2.2⟩
            have GY : Hid (cg M ⟨X.n, X.s0, X.s1, (x0, 0) :: X.b0.take nn, X.b1⟩ = false) := hid (sp3 (fun h => by have h1 := h.2.1 (x0, 0) (List.mem_cons_self); simp at h1))
            have NE : Hid (csm X ⟨X.n, X.s0, X.s1, (x0, 0) :: X.b0.take nn, X.b1⟩ = false) := hid (csm_gd GX.out GY.out)
            have tk1 : True := trivial
            obtain ⟨fx0, fx1, fx2, fx3, fx4, fx5⟩ := box_six KX.out.2.2
            obtain ⟨fy0, fy1, fy2, fy3, fy4⟩ := box_five KY.out.2.2
            go_upto_region 25 with (go_at_call 23; refine (cjoin_m M X ⟨X.n, X.s0, X.s1, (x0, 0) :: X.b0.take nn, X.b1⟩ _ _ _ _ _ _ _ _ _ _ _ _ cl0 false _ XX.out YY.out OX.out OY.out (by have := PX.out; have := LX.out; omega) (hid (cjC_no (cjB_b GY.out))) (hid (cjB_b GY.out))).mono ?_; rintro e w7 ⟨⟨r0, r1, r2, r3, r4, r5, rfl, hcw⟩, hb⟩; replace KX := hid (KX.out.step hb); replace KY := hid (KY.out.step hb); replace XX := hid (XX.out.below hb); replace YY := hid (YY.out.below hb); clear hcw hb fx0 fx1 fx2 fx3 fx4 fx5 fy0 fy1 fy2 fy3 fy4)
            replace KX := hid (kp_alloc KX.out (.cells #[.int .i64 cl0.n, .int .i64 cl0.s0, .int .i64 cl0.s1, .slice r0 r1 r2, .slice r3 r4 r5] 26))
            replace KY := hid (kp_alloc KY.out (.cells #[.int .i64 cl0.n, .int .i64 cl0.s0, .int .i64 cl0.s1, .slice r0 r1 r2, .slice r3 r4 r5] 26))
            replace XX := hid (XX.out.below (b1alloc w7 (.cells #[.int .i64 cl0.n, .int .i64 cl0.s0, .int .i64 cl0.s1, .slice r0 r1 r2, .slice r3 r4 r5] 26)))
            replace YY := hid (YY.out.below (b1alloc w7 (.cells #[.int .i64 cl0.n, .int .i64 cl0.s0, .int .i64 cl0.s1, .slice r0 r1 r2, .slice r3 r4 r5] 26)))
            generalize w7.alloc (.cells #[.int .i64 cl0.n, .int .i64 cl0.s0, .int .i64 cl0.s1, .slice r0 r1 r2, .slice r3 r4 r5] 26) = W7b at KX KY XX YY ⊢
            obtain ⟨fx0, fx1, fx2, fx3, fx4, fx5⟩ := box_six KX.out.2.2
            obtain ⟨fy0, fy1, fy2, fy3, fy4⟩ := box_five KY.out.2.2
            go_upto_region 26 with (go_at_call 23; refine (cjoin_m M ⟨X.n, X.s0, X.s1, (x0, 0) :: X.b0.take nn, X.b1⟩ X _ _ _ _ _ _ _ _ _ _ _ _ cl0 false _ YY.out XX.out OY.out OX.out (by have := PX.out; have := LX.out; omega) (hid (cjC_no (cjB_a GY.out))) (hid (cjB_a GY.out))).mono ?_; rintro e w8 ⟨⟨s0', s1', s2', s3', s4', s5', rfl, hcw⟩, hb⟩; replace KX := hid (KX.out.step hb); replace KY := hid (KY.out.step hb); replace XX := hid (XX.out.below hb); replace YY := hid (YY.out.below hb); clear hcw hb fx0 fx1 fx2 fx3 fx4 fx5 fy0 fy1 fy2 fy3 fy4)
            replace KX := hid (kp_alloc KX.out (.cells #[.int .i64 cl0.n, .int .i64 cl0.s0, .int .i64 cl0.s1, .slice s0' s1' s2', .slice s3' s4' s5'] 26))
            replace KY := hid (kp_alloc KY.out (.cells #[.int .i64 cl0.n, .int .i64 cl0.s0, .int .i64 cl0.s1, .slice s0' s1' s2', .slice s3' s4' s5'] 26))
            replace XX := hid (XX.out.below (b1alloc w8 (.cells #[.int .i64 cl0.n, .int .i64 cl0.s0, .int .i64 cl0.s1, .slice s0' s1' s2', .slice s3' s4' s5'] 26)))
            replace YY := hid (YY.out.below (b1alloc w8 (.cells #[.int .i64 cl0.n, .int .i64 cl0.s0, .int .i64 cl0.s1, .slice s0' s1' s2', .slice s3' s4' s5'] 26)))
            generalize w8.alloc (.cells #[.int .i64 cl0.n, .int .i64 cl0.s0, .int .i64 cl0.s1, .slice s0' s1' s2', .slice s3' s4' s5'] 26) = W8 at KX KY XX YY ⊢
            obtain ⟨fx0, fx1, fx2, fx3, fx4, fx5⟩ := box_six KX.out.2.2
            obtain ⟨fy0, fy1, fy2, fy3, fy4⟩ := box_five KY.out.2.2
            go_wp2_with (first
              | (go_at_call 19; clear tk1; refine (cgood_m M X _ _ _ _ _ _ true _ XX.out OX.out (hid (cg_yes GX.out))).mono ?_; rintro e w9 ⟨rfl, hb⟩; replace KX := hid (KX.out.step hb); replace KY := hid (KY.out.step hb); replace XX := hid (XX.out.below hb); replace YY := hid (YY.out.below hb); obtain ⟨fx0, fx1, fx2, fx3, fx4, fx5⟩ := box_six KX.out.2.2; obtain ⟨fy0, fy1, fy2, fy3, fy4⟩ := box_five KY.out.2.2; clear hb)
              | (go_at_call 19; refine (cgood_m M ⟨X.n, X.s0, X.s1, (x0, 0) :: X.b0.take nn, X.b1⟩ _ _ _ _ _ _ false _ YY.out OY.out GY).mono ?_; rintro e w10 ⟨rfl, hb⟩; replace KX := hid (KX.out.step hb); replace KY := hid (KY.out.step hb); replace XX := hid (XX.out.below hb); replace YY := hid (YY.out.below hb); obtain ⟨fx0, fx1, fx2, fx3, fx4, fx5⟩ := box_six KX.out.2.2; obtain ⟨fy0, fy1, fy2, fy3, fy4⟩ := box_five KY.out.2.2; clear hb)
              | (go_at_call 25; refine (csame_m X ⟨X.n, X.s0, X.s1, (x0, 0) :: X.b0.take nn, X.b1⟩ _ _ _ _ _ _ _ _ _ _ _ _ false _ XX.out YY.out NE).mono ?_; rintro e w11 ⟨rfl, hb⟩; replace KX := hid (KX.out.step hb); replace KY := hid (KY.out.step hb); replace XX := hid (XX.out.below hb); replace YY := hid (YY.out.below hb); obtain ⟨fx0, fx1, fx2, fx3, fx4, fx5⟩ := box_six KX.out.2.2; obtain ⟨fy0, fy1, fy2, fy3, fy4⟩ := box_five KY.out.2.2; clear hb)
              | (go_at_call 21; refine (cline_m M 1 0 0 0 ⟨X.n, X.s0, X.s1, (x0, 0) :: X.b0.take nn, X.b1⟩ _ _ _ _ _ _ (.agg #[.int .u8 0, .int .u8 0, .int .u8 0, .int .u8 0, .int .i64 0, .int .i64 0, .int .i64 0, .int .i64 0, .int .i64 0, .int .i64 0, .int .i64 0]) _ YY.out OY.out (hid (lineV_no GY.out))).mono ?_; rintro e w12 ⟨rfl, hb⟩; replace KX := hid (KX.out.step hb); replace KY := hid (KY.out.step hb); replace XX := hid (XX.out.below hb); replace YY := hid (YY.out.below hb); clear hb)
              | (go_at_call 15; refine (wakes_any _).mono ?_; rintro e w13 ⟨rfl, hb⟩; replace KX := hid (KX.out.step hb); replace KY := hid (KY.out.step hb); replace XX := hid (XX.out.below hb); replace YY := hid (YY.out.below hb); clear hb))
            go_ret
            exact ⟨rfl, KY.out.1⟩
          · have hz : ¬ (nn : Int) = 0 := by omega
            have hzb : ((nn : Int) == 0) = false := by simp [h0]
            have hsr : ¬ Bag ((x0, x1) :: X.b0.take nn) := by
              intro h
              have hl : 0 < (X.b0.take nn).length := by rw [List.length_take]; have := PX.out.1; omega
              obtain ⟨r, hr⟩ := List.exists_mem_of_length_pos hl
              have h1 := take_lt GX.out.2.1.1.1 HR.out r hr
              have h2 := List.rel_of_pairwise_cons h.1 hr
              have h3 : x0 < r.1 := h2
              simp only at h1
              omega
            have XX := hid (XX6.out.below BC.out)
            have YY : Hid (CW _ (some ⟨g2, 0, none⟩) p0 cap2 a1 p1 k1 ⟨X.n, X.s0, X.s1, (x0, x1) :: X.b0.take nn, X.b1⟩) := hid ⟨own_nrun O9.out, XX.out.2⟩
            have KX := hid (KX6.out.step BC.out)
            clear BC O9
            obtain ⟨fy0, fy1, fy2, fy3, fy4⟩ := box_five KY.out.2.2
            go_upto_region 24 with fail
            clear fy0 fy1 fy2 fy3 fy4
            have OY : Hid (okc ⟨X.n, X.s0, X.s1, (x0, x1) :: X.b0.take nn, X.b1⟩) := hid ⟨OX.out.1, OX.out.2.1, OX.out.2.2.1, (fun r hr => by rcases List.mem_cons.1 hr with rfl | hr; exact OX.out.2.2.2.1 (x0, x1) (List.mem_of_getElem? HR.out); exact OX.out.2.2.2.1 r (List.mem_of_mem_take hr)), OX.out.2.2.2.2⟩
            have GY : Hid (cg M ⟨X.n, X.s0, X.s1, (x0, x1) :: X.b0.take nn, X.b1⟩ = false) := hid (sp3 hsr)
            have NE : Hid (csm X ⟨X.n, X.s0, X.s1, (x0, x1) :: X.b0.take nn, X.b1⟩ = false) := hid (csm_gd GX.out GY.out)
            have tk1 : True := trivial
            obtain ⟨fx0, fx1, fx2, fx3, fx4, fx5⟩ := box_six KX.out.2.2
            obtain ⟨fy0, fy1, fy2, fy3, fy4⟩ := box_five KY.out.2.2
            go_upto_region 25 with (go_at_call 23; refine (cjoin_m M X ⟨X.n, X.s0, X.s1, (x0, x1) :: X.b0.take nn, X.b1⟩ _ _ _ _ _ _ _ _ _ _ _ _ cl0 false _ XX.out YY.out OX.out OY.out (by have := PX.out; have := LX.out; omega) (hid (cjC_no (cjB_b GY.out))) (hid (cjB_b GY.out))).mono ?_; rintro e w7 ⟨⟨r0, r1, r2, r3, r4, r5, rfl, hcw⟩, hb⟩; replace KX := hid (KX.out.step hb); replace KY := hid (KY.out.step hb); replace XX := hid (XX.out.below hb); replace YY := hid (YY.out.below hb); clear hcw hb fx0 fx1 fx2 fx3 fx4 fx5 fy0 fy1 fy2 fy3 fy4)
            replace KX := hid (kp_alloc KX.out (.cells #[.int .i64 cl0.n, .int .i64 cl0.s0, .int .i64 cl0.s1, .slice r0 r1 r2, .slice r3 r4 r5] 26))
            replace KY := hid (kp_alloc KY.out (.cells #[.int .i64 cl0.n, .int .i64 cl0.s0, .int .i64 cl0.s1, .slice r0 r1 r2, .slice r3 r4 r5] 26))
            replace XX := hid (XX.out.below (b1alloc w7 (.cells #[.int .i64 cl0.n, .int .i64 cl0.s0, .int .i64 cl0.s1, .slice r0 r1 r2, .slice r3 r4 r5] 26)))
            replace YY := hid (YY.out.below (b1alloc w7 (.cells #[.int .i64 cl0.n, .int .i64 cl0.s0, .int .i64 cl0.s1, .slice r0 r1 r2, .slice r3 r4 r5] 26)))
            generalize w7.alloc (.cells #[.int .i64 cl0.n, .int .i64 cl0.s0, .int .i64 cl0.s1, .slice r0 r1 r2, .slice r3 r4 r5] 26) = W7b at KX KY XX YY ⊢
            obtain ⟨fx0, fx1, fx2, fx3, fx4, fx5⟩ := box_six KX.out.2.2
            obtain ⟨fy0, fy1, fy2, fy3, fy4⟩ := box_five KY.out.2.2
            go_upto_region 26 with (go_at_call 23; refine (cjoin_m M ⟨X.n, X.s0, X.s1, (x0, x1) :: X.b0.take nn, X.b1⟩ X _ _ _ _ _ _ _ _ _ _ _ _ cl0 false _ YY.out XX.out OY.out OX.out (by have := PX.out; have := LX.out; omega) (hid (cjC_no (cjB_a GY.out))) (hid (cjB_a GY.out))).mono ?_; rintro e w8 ⟨⟨s0', s1', s2', s3', s4', s5', rfl, hcw⟩, hb⟩; replace KX := hid (KX.out.step hb); replace KY := hid (KY.out.step hb); replace XX := hid (XX.out.below hb); replace YY := hid (YY.out.below hb); clear hcw hb fx0 fx1 fx2 fx3 fx4 fx5 fy0 fy1 fy2 fy3 fy4)
            replace KX := hid (kp_alloc KX.out (.cells #[.int .i64 cl0.n, .int .i64 cl0.s0, .int .i64 cl0.s1, .slice s0' s1' s2', .slice s3' s4' s5'] 26))
            replace KY := hid (kp_alloc KY.out (.cells #[.int .i64 cl0.n, .int .i64 cl0.s0, .int .i64 cl0.s1, .slice s0' s1' s2', .slice s3' s4' s5'] 26))
            replace XX := hid (XX.out.below (b1alloc w8 (.cells #[.int .i64 cl0.n, .int .i64 cl0.s0, .int .i64 cl0.s1, .slice s0' s1' s2', .slice s3' s4' s5'] 26)))
            replace YY := hid (YY.out.below (b1alloc w8 (.cells #[.int .i64 cl0.n, .int .i64 cl0.s0, .int .i64 cl0.s1, .slice s0' s1' s2', .slice s3' s4' s5'] 26)))
            generalize w8.alloc (.cells #[.int .i64 cl0.n, .int .i64 cl0.s0, .int .i64 cl0.s1, .slice s0' s1' s2', .slice s3' s4' s5'] 26) = W8 at KX KY XX YY ⊢
            obtain ⟨fx0, fx1, fx2, fx3, fx4, fx5⟩ := box_six KX.out.2.2
            obtain ⟨fy0, fy1, fy2, fy3, fy4⟩ := box_five KY.out.2.2
            go_wp2_with (first
              | (go_at_call 19; clear tk1; refine (cgood_m M X _ _ _ _ _ _ true _ XX.out OX.out (hid (cg_yes GX.out))).mono ?_; rintro e w9 ⟨rfl, hb⟩; replace KX := hid (KX.out.step hb); replace KY := hid (KY.out.step hb); replace XX := hid (XX.out.below hb); replace YY := hid (YY.out.below hb); obtain ⟨fx0, fx1, fx2, fx3, fx4, fx5⟩ := box_six KX.out.2.2; obtain ⟨fy0, fy1, fy2, fy3, fy4⟩ := box_five KY.out.2.2; clear hb)
              | (go_at_call 19; refine (cgood_m M ⟨X.n, X.s0, X.s1, (x0, x1) :: X.b0.take nn, X.b1⟩ _ _ _ _ _ _ false _ YY.out OY.out GY).mono ?_; rintro e w10 ⟨rfl, hb⟩; replace KX := hid (KX.out.step hb); replace KY := hid (KY.out.step hb); replace XX := hid (XX.out.below hb); replace YY := hid (YY.out.below hb); obtain ⟨fx0, fx1, fx2, fx3, fx4, fx5⟩ := box_six KX.out.2.2; obtain ⟨fy0, fy1, fy2, fy3, fy4⟩ := box_five KY.out.2.2; clear hb)
              | (go_at_call 25; refine (csame_m X ⟨X.n, X.s0, X.s1, (x0, x1) :: X.b0.take nn, X.b1⟩ _ _ _ _ _ _ _ _ _ _ _ _ false _ XX.out YY.out NE).mono ?_; rintro e w11 ⟨rfl, hb⟩; replace KX := hid (KX.out.step hb); replace KY := hid (KY.out.step hb); replace XX := hid (XX.out.below hb); replace YY := hid (YY.out.below hb); obtain ⟨fx0, fx1, fx2, fx3, fx4, fx5⟩ := box_six KX.out.2.2; obtain ⟨fy0, fy1, fy2, fy3, fy4⟩ := box_five KY.out.2.2; clear hb)
              | (go_at_call 21; refine (cline_m M 1 0 0 0 ⟨X.n, X.s0, X.s1, (x0, x1) :: X.b0.take nn, X.b1⟩ _ _ _ _ _ _ (.agg #[.int .u8 0, .int .u8 0, .int .u8 0, .int .u8 0, .int .i64 0, .int .i64 0, .int .i64 0, .int .i64 0, .int .i64 0, .int .i64 0, .int .i64 0]) _ YY.out OY.out (hid (lineV_no GY.out))).mono ?_; rintro e w12 ⟨rfl, hb⟩; replace KX := hid (KX.out.step hb); replace KY := hid (KY.out.step hb); replace XX := hid (XX.out.below hb); replace YY := hid (YY.out.below hb); clear hb)
              | (go_at_call 15; refine (wakes_any _).mono ?_; rintro e w13 ⟨rfl, hb⟩; replace KX := hid (KX.out.step hb); replace KY := hid (KY.out.step hb); replace XX := hid (XX.out.below hb); replace YY := hid (YY.out.below hb); clear hb))
            go_ret
            exact ⟨rfl, KY.out.1⟩
      · have ek : (h % 5 : Int) = 4 := by rw [hmod]; rfl
        have ek2 : h.tmod 5 = 4 := by rw [Int.tmod_eq_emod_of_nonneg (by omega)]; exact ek
        cases t with
        | true =>
          have em : M = 2 := HM.out.symm
          subst em
          have cz := kp_cell (j := 4) (v := .slice a1 p1 k1) KY.out rfl
          have fz := kp_froz KY.out 4
          obtain ⟨fy0, fy1, fy2, fy3, fy4⟩ := box_five KY.out.2.2
          go_upto_region 24 with fail
          have BC : Hid (Below W6.heap.size W6 (W7.setCell ⟨W6.heap.size, 4, none⟩ (.slice none 0 0))) := hid (B67.out.setCell (p := ⟨W6.heap.size, 4, none⟩) (Nat.le_refl _) (.slice none 0 0))
          replace KY : Hid (Kp w _ W6.heap.size (.cells #[.int .i64 X.n, .int .i64 X.s0, .int .i64 X.s1, .slice a0 p0 k0, .slice none 0 0] 26)) := hid (kp_set (j := 4) (v := .slice none 0 0) KY.out)
          have XX := hid (XX6.out.below BC.out)
          have YY : Hid (CW _ a0 p0 k0 none 0 0 ⟨X.n, X.s0, X.s1, X.b0, []⟩) := hid ⟨XX.out.1, nrun_nil _⟩
          have KX := hid (KX6.out.step BC.out)
          clear cz fz fy0 fy1 fy2 fy3 fy4 BC
          generalize (W7.setCell ⟨W6.heap.size, 4, none⟩ (.slice none 0 0)) = Wm at KX KY XX YY ⊢
          have OY : Hid (okc ⟨X.n, X.s0, X.s1, X.b0, []⟩) := hid ⟨OX.out.1, OX.out.2.1, OX.out.2.2.1, OX.out.2.2.2.1, nok_nil⟩
          have GY : Hid (cg 2 ⟨X.n, X.s0, X.s1, X.b0, []⟩ = false) := hid (sp4 GX.out)
          have NE : Hid (csm X ⟨X.n, X.s0, X.s1, X.b0, []⟩ = false) := hid (csm_gd GX.out GY.out)
          have tk1 : True := trivial
          obtain ⟨fx0, fx1, fx2, fx3, fx4, fx5⟩ := box_six KX.out.2.2
          obtain ⟨fy0, fy1, fy2, fy3, fy4⟩ := box_five KY.out.2.2
          go_upto_region 25 with (go_at_call 23; refine (cjoin_m 2 X ⟨X.n, X.s0, X.s1, X.b0, []⟩ _ _ _ _ _ _ _ _ _ _ _ _ cl0 false _ XX.out YY.out OX.out OY.out (by have := PX.out; have := LX.out; omega) (hid (cjC_no (cjB_b GY.out))) (hid (cjB_b GY.out))).mono ?_; rintro e w7 ⟨⟨r0, r1, r2, r3, r4, r5, rfl, hcw⟩, hb⟩; replace KX := hid (KX.out.step hb); replace KY := hid (KY.out.step hb); replace XX := hid (XX.out.below hb); replace YY := hid (YY.out.below hb); clear hcw hb fx0 fx1 fx2 fx3 fx4 fx5 fy0 fy1 fy2 fy3 fy4)
          replace KX := hid (kp_alloc KX.out (.cells #[.int .i64 cl0.n, .int .i64 cl0.s0, .int .i64 cl0.s1, .slice r0 r1 r2, .slice r3 r4 r5] 26))
          replace KY := hid (kp_alloc KY.out (.cells #[.int .i64 cl0.n, .int .i64 cl0.s0, .int .i64 cl0.s1, .slice r0 r1 r2, .slice r3 r4 r5] 26))
          replace XX := hid (XX.out.below (b1alloc w7 (.cells #[.int .i64 cl0.n, .int .i64 cl0.s0, .int .i64 cl0.s1, .slice r0 r1 r2, .slice r3 r4 r5] 26)))
          replace YY := hid (YY.out.below (b1alloc w7 (.cells #[.int .i64 cl0.n, .int .i64 cl0.s0, .int .i64 cl0.s1, .slice r0 r1 r2, .slice r3 r4 r5] 26)))
          generalize w7.alloc (.cells #[.int .i64 cl0.n, .int .i64 cl0.s0, .int .i64 cl0.s1, .slice r0 r1 r2, .slice r3 r4 r5] 26) = W7b at KX KY XX YY ⊢
          obtain ⟨fx0, fx1, fx2, fx3, fx4, fx5⟩ := box_six KX.out.2.2
          obtain ⟨fy0, fy1, fy2, fy3, fy4⟩ := box_five KY.out.2.2
          go_upto_region 26 with (go_at_call 23; refine (cjoin_m 2 ⟨X.n, X.s0, X.s1, X.b0, []⟩ X _ _ _ _ _ _ _ _ _ _ _ _ cl0 false _ YY.out XX.out OY.out OX.out (by have := PX.out; have := LX.out; omega) (hid (cjC_no (cjB_a GY.out))) (hid (cjB_a GY.out))).mono ?_; rintro e w8 ⟨⟨s0', s1', s2', s3', s4', s5', rfl, hcw⟩, hb⟩; replace KX := hid (KX.out.step hb); replace KY := hid (KY.out.step hb); replace XX := hid (XX.out.below hb); replace YY := hid (YY.out.below hb); clear hcw hb fx0 fx1 fx2 fx3 fx4 fx5 fy0 fy1 fy2 fy3 fy4)
          replace KX := hid (kp_alloc KX.out (.cells #[.int .i64 cl0.n, .int .i64 cl0.s0, .int .i64 cl0.s1, .slice s0' s1' s2', .slice s3' s4' s5'] 26))
          replace KY := hid (kp_alloc KY.out (.cells #[.int .i64 cl0.n, .int .i64 cl0.s0, .int .i64 cl0.s1, .slice s0' s1' s2', .slice s3' s4' s5'] 26))
          replace XX := hid (XX.out.below (b1alloc w8 (.cells #[.int .i64 cl0.n, .int .i64 cl0.s0, .int .i64 cl0.s1, .slice s0' s1' s2', .slice s3' s4' s5'] 26)))
          replace YY := hid (YY.out.below (b1alloc w8 (.cells #[.int .i64 cl0.n, .int .i64 cl0.s0, .int .i64 cl0.s1, .slice s0' s1' s2', .slice s3' s4' s5'] 26)))
          generalize w8.alloc (.cells #[.int .i64 cl0.n, .int .i64 cl0.s0, .int .i64 cl0.s1, .slice s0' s1' s2', .slice s3' s4' s5'] 26) = W8 at KX KY XX YY ⊢
          obtain ⟨fx0, fx1, fx2, fx3, fx4, fx5⟩ := box_six KX.out.2.2
          obtain ⟨fy0, fy1, fy2, fy3, fy4⟩ := box_five KY.out.2.2
          go_wp2_with (first
            | (go_at_call 19; clear tk1; refine (cgood_m 2 X _ _ _ _ _ _ true _ XX.out OX.out (hid (cg_yes GX.out))).mono ?_; rintro e w9 ⟨rfl, hb⟩; replace KX := hid (KX.out.step hb); replace KY := hid (KY.out.step hb); replace XX := hid (XX.out.below hb); replace YY := hid (YY.out.below hb); obtain ⟨fx0, fx1, fx2, fx3, fx4, fx5⟩ := box_six KX.out.2.2; obtain ⟨fy0, fy1, fy2, fy3, fy4⟩ := box_five KY.out.2.2; clear hb)
            | (go_at_call 19; refine (cgood_m 2 ⟨X.n, X.s0, X.s1, X.b0, []⟩ _ _ _ _ _ _ false _ YY.out OY.out GY).mono ?_; rintro e w10 ⟨rfl, hb⟩; replace KX := hid (KX.out.step hb); replace KY := hid (KY.out.step hb); replace XX := hid (XX.out.below hb); replace YY := hid (YY.out.below hb); obtain ⟨fx0, fx1, fx2, fx3, fx4, fx5⟩ := box_six KX.out.2.2; obtain ⟨fy0, fy1, fy2, fy3, fy4⟩ := box_five KY.out.2.2; clear hb)
            | (go_at_call 25; refine (csame_m X ⟨X.n, X.s0, X.s1, X.b0, []⟩ _ _ _ _ _ _ _ _ _ _ _ _ false _ XX.out YY.out NE).mono ?_; rintro e w11 ⟨rfl, hb⟩; replace KX := hid (KX.out.step hb); replace KY := hid (KY.out.step hb); replace XX := hid (XX.out.below hb); replace YY := hid (YY.out.below hb); obtain ⟨fx0, fx1, fx2, fx3, fx4, fx5⟩ := box_six KX.out.2.2; obtain ⟨fy0, fy1, fy2, fy3, fy4⟩ := box_five KY.out.2.2; clear hb)
            | (go_at_call 21; refine (cline_m 2 1 0 0 0 ⟨X.n, X.s0, X.s1, X.b0, []⟩ _ _ _ _ _ _ (.agg #[.int .u8 0, .int .u8 0, .int .u8 0, .int .u8 0, .int .i64 0, .int .i64 0, .int .i64 0, .int .i64 0, .int .i64 0, .int .i64 0, .int .i64 0]) _ YY.out OY.out (hid (lineV_no GY.out))).mono ?_; rintro e w12 ⟨rfl, hb⟩; replace KX := hid (KX.out.step hb); replace KY := hid (KY.out.step hb); replace XX := hid (XX.out.below hb); replace YY := hid (YY.out.below hb); clear hb)
            | (go_at_call 15; refine (wakes_any _).mono ?_; rintro e w13 ⟨rfl, hb⟩; replace KX := hid (KX.out.step hb); replace KY := hid (KY.out.step hb); replace XX := hid (XX.out.below hb); replace YY := hid (YY.out.below hb); clear hb))
          go_ret
          exact ⟨rfl, KY.out.1⟩
        | false =>
          have em : M = 1 := HM.out.symm
          subst em
          obtain ⟨O, hO⟩ : ∃ y, bits .or .i64 b 1 = y := ⟨_, rfl⟩
          have HO := hid hO
          have cz := kp_cell (j := 4) (v := .slice a1 p1 k1) KY.out rfl
          have fz := kp_froz KY.out 4
          have cz2 := kp_cell (j := 2) (v := .int .i64 X.s1) KY.out rfl
          have fz2 := kp_froz KY.out 2
          obtain ⟨fy0, fy1, fy2, fy3, fy4⟩ := box_five KY.out.2.2
          go_upto_region 24 with fail
          have BC : Hid (Below W6.heap.size W6 ((W7.setCell ⟨W6.heap.size, 4, none⟩ (.slice none 0 0)).setCell ⟨W6.heap.size, 2, none⟩ (.int .i64 O))) := hid ((B67.out.setCell (p := ⟨W6.heap.size, 4, none⟩) (Nat.le_refl _) (.slice none 0 0)).setCell (p := ⟨W6.heap.size, 2, none⟩) (Nat.le_refl _) (.int .i64 O))
          replace KY : Hid (Kp w _ W6.heap.size (.cells #[.int .i64 X.n, .int .i64 X.s0, .int .i64 O, .slice a0 p0 k0, .slice none 0 0] 26)) := hid (kp_set (j := 2) (v := .int .i64 O) (kp_set (j := 4) (v := .slice none 0 0) KY.out))
          have XX := hid (XX6.out.below BC.out)
          have YY : Hid (CW _ a0 p0 k0 none 0 0 ⟨X.n, X.s0, O, X.b0, []⟩) := hid ⟨XX.out.1, nrun_nil _⟩
          have KX := hid (KX6.out.step BC.out)
          clear cz fz cz2 fz2 fy0 fy1 fy2 fy3 fy4 BC
          generalize ((W7.setCell ⟨W6.heap.size, 4, none⟩ (.slice none 0 0)).setCell ⟨W6.heap.size, 2, none⟩ (.int .i64 O)) = Wm at KX KY XX YY ⊢
          have OY : Hid (okc ⟨X.n, X.s0, O, X.b0, []⟩) := hid ⟨OX.out.1, OX.out.2.1, by show I64 O; rw [← HO.out]; exact or_i64 _ _, OX.out.2.2.2.1, nok_nil⟩
          have GY : Hid (cg 1 ⟨X.n, X.s0, O, X.b0, []⟩ = false) := hid (sp5 (by rw [← HO.out]; exact or_ne b))
          have NE : Hid (csm X ⟨X.n, X.s0, O, X.b0, []⟩ = false) := hid (csm_gd GX.out GY.out)
          have tk1 : True := trivial
          obtain ⟨fx0, fx1, fx2, fx3, fx4, fx5⟩ := box_six KX.out.2.2
          obtain ⟨fy0, fy1, fy2, fy3, fy4⟩ := box_five KY.out.2.2
          go_upto_region 25 with (go_at_call 23; refine (cjoin_m 1 X ⟨X.n, X.s0, O, X.b0, []⟩ _ _ _ _ _ _ _ _ _ _ _ _ cl0 false _ XX.out YY.out OX.out OY.out (by have := PX.out; have := LX.out; omega) (hid (cjC_no (cjB_b GY.out))) (hid (cjB_b GY.out))).mono ?_; rintro e w7 ⟨⟨r0, r1, r2, r3, r4, r5, rfl, hcw⟩, hb⟩; replace KX := hid (KX.out.step hb); replace KY := hid (KY.out.step hb); replace XX := hid (XX.out.below hb); replace YY := hid (YY.out.below hb); clear hcw hb fx0 fx1 fx2 fx3 fx4 fx5 fy0 fy1 fy2 fy3 fy4)
          replace KX := hid (kp_alloc KX.out (.cells #[.int .i64 cl0.n, .int .i64 cl0.s0, .int .i64 cl0.s1, .slice r0 r1 r2, .slice r3 r4 r5] 26))
          replace KY := hid (kp_alloc KY.out (.cells #[.int .i64 cl0.n, .int .i64 cl0.s0, .int .i64 cl0.s1, .slice r0 r1 r2, .slice r3 r4 r5] 26))
          replace XX := hid (XX.out.below (b1alloc w7 (.cells #[.int .i64 cl0.n, .int .i64 cl0.s0, .int .i64 cl0.s1, .slice r0 r1 r2, .slice r3 r4 r5] 26)))
          replace YY := hid (YY.out.below (b1alloc w7 (.cells #[.int .i64 cl0.n, .int .i64 cl0.s0, .int .i64 cl0.s1, .slice r0 r1 r2, .slice r3 r4 r5] 26)))
          generalize w7.alloc (.cells #[.int .i64 cl0.n, .int .i64 cl0.s0, .int .i64 cl0.s1, .slice r0 r1 r2, .slice r3 r4 r5] 26) = W7b at KX KY XX YY ⊢
          obtain ⟨fx0, fx1, fx2, fx3, fx4, fx5⟩ := box_six KX.out.2.2
          obtain ⟨fy0, fy1, fy2, fy3, fy4⟩ := box_five KY.out.2.2
          go_upto_region 26 with (go_at_call 23; refine (cjoin_m 1 ⟨X.n, X.s0, O, X.b0, []⟩ X _ _ _ _ _ _ _ _ _ _ _ _ cl0 false _ YY.out XX.out OY.out OX.out (by have := PX.out; have := LX.out; omega) (hid (cjC_no (cjB_a GY.out))) (hid (cjB_a GY.out))).mono ?_; rintro e w8 ⟨⟨s0', s1', s2', s3', s4', s5', rfl, hcw⟩, hb⟩; replace KX := hid (KX.out.step hb); replace KY := hid (KY.out.step hb); replace XX := hid (XX.out.below hb); replace YY := hid (YY.out.below hb); clear hcw hb fx0 fx1 fx2 fx3 fx4 fx5 fy0 fy1 fy2 fy3 fy4)
          replace KX := hid (kp_alloc KX.out (.cells #[.int .i64 cl0.n, .int .i64 cl0.s0, .int .i64 cl0.s1, .slice s0' s1' s2', .slice s3' s4' s5'] 26))
          replace KY := hid (kp_alloc KY.out (.cells #[.int .i64 cl0.n, .int .i64 cl0.s0, .int .i64 cl0.s1, .slice s0' s1' s2', .slice s3' s4' s5'] 26))
          replace XX := hid (XX.out.below (b1alloc w8 (.cells #[.int .i64 cl0.n, .int .i64 cl0.s0, .int .i64 cl0.s1, .slice s0' s1' s2', .slice s3' s4' s5'] 26)))
          replace YY := hid (YY.out.below (b1alloc w8 (.cells #[.int .i64 cl0.n, .int .i64 cl0.s0, .int .i64 cl0.s1, .slice s0' s1' s2', .slice s3' s4' s5'] 26)))
          generalize w8.alloc (.cells #[.int .i64 cl0.n, .int .i64 cl0.s0, .int .i64 cl0.s1, .slice s0' s1' s2', .slice s3' s4' s5'] 26) = W8 at KX KY XX YY ⊢
          obtain ⟨fx0, fx1, fx2, fx3, fx4, fx5⟩ := box_six KX.out.2.2
          obtain ⟨fy0, fy1, fy2, fy3, fy4⟩ := box_five KY.out.2.2
          go_wp2_with (first
            | (go_at_call 19; clear tk1; refine (cgood_m 1 X _ _ _ _ _ _ true _ XX.out OX.out (hid (cg_yes GX.out))).mono ?_; rintro e w9 ⟨rfl, hb⟩; replace KX := hid (KX.out.step hb); replace KY := hid (KY.out.step hb); replace XX := hid (XX.out.below hb); replace YY := hid (YY.out.below hb); obtain ⟨fx0, fx1, fx2, fx3, fx4, fx5⟩ := box_six KX.out.2.2; obtain ⟨fy0, fy1, fy2, fy3, fy4⟩ := box_five KY.out.2.2; clear hb)
            | (go_at_call 19; refine (cgood_m 1 ⟨X.n, X.s0, O, X.b0, []⟩ _ _ _ _ _ _ false _ YY.out OY.out GY).mono ?_; rintro e w10 ⟨rfl, hb⟩; replace KX := hid (KX.out.step hb); replace KY := hid (KY.out.step hb); replace XX := hid (XX.out.below hb); replace YY := hid (YY.out.below hb); obtain ⟨fx0, fx1, fx2, fx3, fx4, fx5⟩ := box_six KX.out.2.2; obtain ⟨fy0, fy1, fy2, fy3, fy4⟩ := box_five KY.out.2.2; clear hb)
            | (go_at_call 25; refine (csame_m X ⟨X.n, X.s0, O, X.b0, []⟩ _ _ _ _ _ _ _ _ _ _ _ _ false _ XX.out YY.out NE).mono ?_; rintro e w11 ⟨rfl, hb⟩; replace KX := hid (KX.out.step hb); replace KY := hid (KY.out.step hb); replace XX := hid (XX.out.below hb); replace YY := hid (YY.out.below hb); obtain ⟨fx0, fx1, fx2, fx3, fx4, fx5⟩ := box_six KX.out.2.2; obtain ⟨fy0, fy1, fy2, fy3, fy4⟩ := box_five KY.out.2.2; clear hb)
            | (go_at_call 21; refine (cline_m 1 1 0 0 0 ⟨X.n, X.s0, O, X.b0, []⟩ _ _ _ _ _ _ (.agg #[.int .u8 0, .int .u8 0, .int .u8 0, .int .u8 0, .int .i64 0, .int .i64 0, .int .i64 0, .int .i64 0, .int .i64 0, .int .i64 0, .int .i64 0]) _ YY.out OY.out (hid (lineV_no GY.out))).mono ?_; rintro e w12 ⟨rfl, hb⟩; replace KX := hid (KX.out.step hb); replace KY := hid (KY.out.step hb); replace XX := hid (XX.out.below hb); replace YY := hid (YY.out.below hb); clear hb)
            | (go_at_call 15; refine (wakes_any _).mono ?_; rintro e w13 ⟨rfl, hb⟩; replace KX := hid (KX.out.step hb); replace KY := hid (KY.out.step hb); replace XX := hid (XX.out.below hb); replace YY := hid (YY.out.below hb); clear hb))
          go_ret
          exact ⟨rfl, KY.out.1⟩

end Go.Proofs.Ytgmnnpecihcdhaa

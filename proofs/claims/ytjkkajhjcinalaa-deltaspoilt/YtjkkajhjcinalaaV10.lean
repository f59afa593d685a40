/-
  How a delta may be spoilt; the words of the law DeltaSpoilt, opened; appends.
  Conditions: as each theorem states them.
-/
import Derived.Test.YtjkkajhjcinalaaG6
import Derived.Test.YtjkkajhjcinalaaGG9
namespace Go.Proofs.Ytjkkajhjcinalaa
open Go.ChangeShapes Go.WideShapes Go.ChangeAt Go.RowKit
set_option linter.unusedVariables false
set_option linter.unusedSimpArgs false
set_option maxRecDepth 100000

theorem wrap_mod_d (z : Int) : (IntKind.i64.wrap z) % 18446744073709551616 = z % 18446744073709551616 := by
  simp [IntKind.wrap, IntKind.bits, IntKind.signed]
  omega
theorem wrap_i64_d (z : Int) : I64 (IntKind.i64.wrap z) := by
  unfold I64
  simp [IntKind.wrap, IntKind.bits, IntKind.signed]
  omega
theorem xor_i64_d (x y : Int) : I64 (bits .xor .i64 x y) := wrap_i64_d _
theorem ofInt_mod_d {x y : Int} (h : x % 18446744073709551616 = y % 18446744073709551616) : BitVec.ofInt 64 x = BitVec.ofInt 64 y := by
  apply BitVec.eq_of_toNat_eq
  rw [BitVec.toNat_ofInt, BitVec.toNat_ofInt]
  exact congrArg Int.toNat h
theorem or_one_d (b : Int) : BitVec.ofInt 64 (bits .or .i64 b 1) = BitVec.ofInt 64 b ||| 1#64 := by
  have e1 : bits .or .i64 b 1 = IntKind.i64.wrap ((BitVec.ofInt 64 b ||| BitVec.ofInt 64 1).toNat : Int) := rfl
  rw [e1, ofInt_mod_d (wrap_mod_d _)]
  apply BitVec.eq_of_toNat_eq
  rw [BitVec.toNat_ofInt]
  have := (BitVec.ofInt 64 b ||| BitVec.ofInt 64 1).isLt
  have e3 : BitVec.ofInt 64 1 = 1#64 := rfl
  rw [e3] at *
  omega
theorem or_bit_d (b : Int) : ¬ BitVec.ofInt 64 (bits .or .i64 b 1) = 0#64 := by
  rw [or_one_d]
  intro h
  have := congrArg (fun v => v.getLsbD 0) h
  simp at this
theorem or_ne_d (b : Int) : ¬ bits .or .i64 b 1 = 0 := fun h => or_bit_d b (by rw [h]; rfl)
theorem or_i64_d (x y : Int) : I64 (bits .or .i64 x y) := wrap_i64_d _
theorem xor_nz_d {x y : Int} (hy : ¬ BitVec.ofInt 64 y = 0#64) : ¬ bits .xor .i64 x y = x := by
  intro h
  have e1 : bits .xor .i64 x y = IntKind.i64.wrap ((BitVec.ofInt 64 x ^^^ BitVec.ofInt 64 y).toNat : Int) := rfl
  have e2 : BitVec.ofInt 64 (bits .xor .i64 x y) = BitVec.ofInt 64 x ^^^ BitVec.ofInt 64 y := by
    rw [e1, ofInt_mod_d (wrap_mod_d _)]
    apply BitVec.eq_of_toNat_eq
    rw [BitVec.toNat_ofInt]
    have := (BitVec.ofInt 64 x ^^^ BitVec.ofInt 64 y).isLt
    omega
  rw [h] at e2
  have h3 := congrArg (fun z => BitVec.ofInt 64 x ^^^ z) e2
  rw [BitVec.xor_self, ← BitVec.xor_assoc, BitVec.xor_self, BitVec.zero_xor] at h3
  exact hy h3.symm
theorem open_dspoil {H : Type} {enc : TypeId × Value → H} {W : World} {base b0 : Nat} {spare : Nat → Bool} {held : Bool} {r : Reach} {v : Value} {d : DataW H} {p : List MemPlace}
    (hv : Value.okWide Try.prog W r b0 108 v) (h : DataW.Trod enc Try.prog W base spare held 108 v d p) : ∃ x y : Int, v = .agg #[.int .u8 x, .int .i64 y] ∧ U8 x ∧ I64 y := by
  have hO : Try.prog.cellsOf 2 = 1 := by kernel_rfl
  have hU : Try.prog.cellsOf 5 = 1 := by kernel_rfl
  have hC : Try.prog.cellsOf 108 = 2 := by kernel_rfl
  obtain ⟨cs, rfl, hsz⟩ := okWide_struct Try.underlying108 hv
  rw [hC] at hsz
  obtain ⟨fuel, hf⟩ := h
  obtain ⟨c0, c1, rfl⟩ : ∃ c0 c1, cs = #[c0, c1] := by
    obtain ⟨l⟩ := cs
    match l, hsz with
    | [c0, c1], _ => exact ⟨_, _, rfl⟩
  have hf' : DataW.trod enc Try.prog W base spare held fuel 108 [c0, c1] = some (d, p) := hf
  obtain ⟨xs, m, _, _, _, hl, hg⟩ := DataW.trod_struct Try.underlying108 hf'
  have g0 := hg 0
  have g1 := hg 1
  simp [hO, hU] at g0 g1
  match xs, hl with
  | [y0, y1], _ =>
    obtain ⟨a, e0, _, w0⟩ := DataW.trod_int Try.underlying5 g0
    obtain ⟨b, e1, _, w1⟩ := DataW.trod_int Try.underlying2 g1
    simp at e0 e1
    subst e0 e1
    exact ⟨a, b, rfl, bounds_u8 w0, bounds_i64 w1⟩
/-- At a step of a region that draws: any slice of runs, nil or not, behind a row of one's own. -/
theorem step_append_nany (w : World) {ops : Array Oper} {o : Oper} {a : Act} {K : Act → World → Prop} {Q : Exit → Act → World → Prop} {E : Prop} (hgd : o.guard = none) (s x : Operand)
    (ho : o.op = .call { callee := .builtin .append, args := #[s, x], argTypes := #[23, 23] }) (base g n cap : Nat) (xs : List Rn)
    (hs : a.eval s = .slice (some ⟨g, 0, none⟩) n cap) (hown : w.ownsRow base 65 2 (.slice (some ⟨g, 0, none⟩) n cap) n (ncells xs))
    (sa : Option Addr) (m c : Nat) (ys : List Rn) (hx : a.eval x = .slice sa m c) (hr : NRun w sa m c ys) (hn : n + m ≤ 1000000) (hbase : base ≤ w.heap.size)
    (h : ∀ g' cap' w', w'.ownsRow base 65 2 (.slice (some ⟨g', 0, none⟩) (n + m) cap') (n + m) (ncells (xs ++ ys)) → w.grownBy w' (some g) → K (a.put o.dst (.slice (some ⟨g', 0, none⟩) (n + m) cap')) w') :
    if Region.wanted o (yielded ops a.tmps) = true then Oper.wp Try.prog o a w K Q else E := by
  have hw : Region.wanted o (yielded ops a.tmps) = true := by simp [Region.wanted, hgd]
  rw [if_pos hw]
  obtain ⟨i0, hi, hz0, hz1, hz2⟩ := info_parts info_nr
  cases sa with
  | none =>
    obtain ⟨r1, r2, r3, r4, r5⟩ := hr
    obtain rfl : c = 0 := r4 rfl
    obtain rfl : m = 0 := by omega
    have hy : ys = [] := List.length_eq_zero_iff.mp r1.symm
    subst hy
    have hr := run_append_owned_none (P := Try.prog) (w := w) base 23 o.type 65 i0 2 Try.underlying23 hi _ n (ncells xs) hown
    unfold Oper.wp execOp
    simp only [ho, resolve, invoke, builtin, Sem.run_bind, Sem.run_pure, Result.andThen_ok, List.map_toArray, List.map_cons, List.map_nil, hs, hx, hr]
    have := h g cap w (by simpa using hown) ⟨rfl, rfl, rfl, Nat.le_refl _, fun _ _ _ => rfl⟩
    simp only [Nat.add_zero, List.append_nil] at this
    exact this
  | some ad =>
    obtain ⟨v', w', hr', h2, h3, hiff⟩ := run_append_own (P := Try.prog) w base 23 o.type 65 i0 _ 2 16 Try.underlying23 hi hz0 hz1 hz2 rfl (by decide) _ n (ncells xs) hown ad m c (ncells ys) (by rw [ncells_len, hr.1]) (nrun_src hr) (ncells_one _) (by unfold maxLen; omega) (by omega) hbase
    unfold Oper.wp execOp
    simp only [ho, resolve, invoke, builtin, Sem.run_bind, Sem.run_pure, Result.andThen_ok, List.map_toArray, List.map_cons, List.map_nil, hs, hx, hr']
    obtain ⟨g', cap', rfl⟩ := nown_form h2 (fun e => by have := (hiff.mp e).1; cases this)
    rw [← ncells_app] at h2
    exact h g' cap' w' h2 h3
theorem nown_at_d (w : World) (base N : Nat) (hN : N = w.heap.size) (hb : base ≤ w.heap.size) : (w.alloc (.cells #[] 65)).ownsRow base 65 2 (.slice (some ⟨N, 0, none⟩) 0 0) 0 (ncells []) := by subst hN; exact nown_made w base hb
theorem nrun_1_d (w : World) (N : Nat) (p q : Int) (t : TypeId) (hN : w.heap.size = N) : NRun (w.alloc (.cells #[.int .i64 p, .int .i64 q] t)) (some ⟨N, 0, none⟩) 1 1 [(p, q)] :=
  nrun_heap (l := [(p, q)]) (t := t) (hnew hN) (by simp)

theorem step_append_ne (w : World) {ops : Array Oper} {o : Oper} {a : Act} {K : Act → World → Prop} {Q : Exit → Act → World → Prop} {E : Prop} (hgd : o.guard = none) (s x : Operand)
    (ho : o.op = .call { callee := .builtin .append, args := #[s, x], argTypes := #[23, 23] }) (base g n cap : Nat) (xs : List Rn)
    (hs : a.eval s = .slice (some ⟨g, 0, none⟩) n cap) (hown : w.ownsRow base 65 2 (.slice (some ⟨g, 0, none⟩) n cap) n (ncells xs))
    (sa : Option Addr) (m c : Nat) (ys : List Rn) (hx : a.eval x = .slice sa m c) (hr : NRun w sa m c ys) (hn : n + m ≤ 1000000) (hbase : base ≤ w.heap.size) (N : Nat) (zs : List Rn) (hN : n + m = N) (hz : xs ++ ys = zs)
    (h : ∀ g' cap' w', w'.ownsRow base 65 2 (.slice (some ⟨g', 0, none⟩) N cap') N (ncells zs) → w.grownBy w' (some g) → K (a.put o.dst (.slice (some ⟨g', 0, none⟩) N cap')) w') :
    if Region.wanted o (yielded ops a.tmps) = true then Oper.wp Try.prog o a w K Q else E := by
  subst hN hz
  exact step_append_nany w hgd s x ho base g n cap xs hs hown sa m c ys hx hr hn hbase h
theorem nrun_2_d (w : World) (N : Nat) (p q r s : Int) (t : TypeId) (hN : w.heap.size = N) : NRun (w.alloc (.cells #[.int .i64 p, .int .i64 q, .int .i64 r, .int .i64 s] t)) (some ⟨N, 0, none⟩) 2 2 [(p, q), (r, s)] :=
  nrun_heap (l := [(p, q), (r, s)]) (t := t) (hnew hN) (by simp)
/-! How a delta may be spoilt. -/
theorem dq0 {M : Int} {D : Dl} (h : DG M D) : dg M ⟨D.n + 1, D.s0, D.s1, D.i0, D.i1, D.o0, D.o1⟩ = false := dg_no (fun g => by
  have a := g.1.2.2.1
  have b := h.1.2.2.1
  simp only at a
  omega)
theorem dq1 {M Z : Int} {D : Dl} (h : DG M D) (hz : ¬ Z = D.s0) : dg M ⟨D.n, Z, D.s1, D.i0, D.i1, D.o0, D.o1⟩ = false := dg_no (fun g => hz (g.1.2.2.2.1.symm.trans h.1.2.2.2.1))
theorem dq2 {M b : Int} {D : Dl} (h : DG M D) : dg M ⟨D.n, D.s0, D.s1, lay b 1 D.i0, D.i1, lay b 1 D.o0, D.o1⟩ = false := dg_no (fun g => by
  have g1 := (apt_iff g.1.1.2.1).1 g.1.2.2.2.2
  have p1 := cn_nn (v := b) h.1.1.2.1
  have p2 := cn_nn (v := b) h.1.2.1.2.1
  have e1 := lay_cn b 1 D.i0 b
  have e2 := lay_cn b 1 D.o0 b
  rw [if_pos rfl] at e1 e2
  obtain ⟨r, hr, hb⟩ := cn_pos_mem (v := b) (l := lay b 1 D.i0) (by omega)
  have := g1 r hr
  rw [hb] at this
  simp only at this
  omega)
theorem dq3 {M b : Int} {D : Dl} : dg M ⟨D.n, D.s0, D.s1, D.i0, D.i1, D.o0 ++ [(b, 0)], D.o1⟩ = false := dg_no (fun g => by
  have := g.1.2.1.2.1 (b, 0) (by simp)
  simp at this)
theorem dq4 {M b : Int} {D : Dl} : dg M ⟨D.n, D.s0, D.s1, D.i0, D.i1 ++ [(b, 1), (b, 1)], D.o0, D.o1⟩ = false := dg_no (fun g => by
  rcases g.2 with ⟨_, _, e, _⟩ | ⟨_, k⟩
  · simp at e
  · have h1 := k.1.1
    have h2 := (List.pairwise_append.1 h1).2.1
    simp only [List.pairwise_cons, List.mem_cons, List.not_mem_nil, or_false, forall_eq, ltR] at h2
    omega)
theorem dsm_gd {M : Int} {D Y : Dl} (h : dg M D = true) (g : dg M Y = false) : dsm D Y = false := dsm_no (fun e => by rw [← e, h] at g; cases g)
theorem did_no {M : Int} {Y : Dl} (g : dg M Y = false) : did M Y = false := by unfold did; rw [g]; rfl
theorem dj_no2 {M : Int} {D Y : Dl} (g : dg M Y = false) : djB M D Y = false := by unfold djB; rw [g]; simp
theorem dn_no2 {M : Int} {Y : Dl} (g : dg M Y = false) : dnB M Y = false := by unfold dnB; rw [g]; rfl
theorem da_no2 {M : Int} {c : Cl} {is : Bool} {Y : Dl} (g : dg M Y = false) : daB M c is Y = false := by unfold daB; rw [g]; simp
theorem da_no3 {M : Int} {c : Cl} {is : Bool} {Y : Dl} (g : daB M c is Y = false) : daI M c is Y = false ∧ daC M c is Y = cl0 := by
  have e : daI M c is Y = false := by unfold daI; rw [g]; rfl
  exact ⟨e, by unfold daC; rw [e]; rfl⟩
theorem lay_nok {b : Int} {l : List Rn} (hb : I64 b) (hl : Bag l) (hk : ∀ r ∈ l, nok r) : ∀ r ∈ lay b 1 l, nok r := by
  intro r hr
  refine ⟨?_, ?_⟩
  · rcases lay_mem hr with e | h
    · rw [e]; exact hb
    · exact (hk r h).1
  · have p := lay_pos (v := b) (n := 1) hl.2.1 (by omega)
    have h1 := cn_srt_eq (lay_srt (v := b) (n := 1) hl.1) hr
    have h2 := cn_le (v := r.1) p
    have h3 := lay_tot (v := b) (n := 1) (l := l)
    have h4 := hl.2.2
    have h5 := p r hr
    unfold I64
    omega

end Go.Proofs.Ytjkkajhjcinalaa

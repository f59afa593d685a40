/-
  Deltas joined, as numbers and bags: in any order, by parts, and taken back.
  Parameters of the laws of stage 10, opened.
  Conditions: as each theorem states them.
-/
import Derived.Test.YtjkkajhjcinalaaP10
import Derived.Test.YtjkkajhjcinalaaG8
namespace Go.Proofs.Ytjkkajhjcinalaa
open Go.RowKit
set_option linter.unusedVariables false
set_option linter.unusedSimpArgs false
set_option maxRecDepth 100000

theorem djR_comm {m : Int} {a b : Dl} (h : djB m a b = true) : djR a b = djR b a := by
  obtain ⟨ga, gb, _⟩ := djB_iff.1 h
  obtain ⟨⟨a1, a2⟩, a3, a4⟩ := dg_bags ga
  obtain ⟨⟨b1, b2⟩, b3, b4⟩ := dg_bags gb
  unfold djR
  rw [jnl_comm a1.1 a1.2.1 b1.1 b1.2.1, jnl_comm a2.1 a2.2.1 b2.1 b2.2.1, jnl_comm a3.1 a3.2.1 b3.1 b3.2.1, jnl_comm a4.1 a4.2.1 b4.1 b4.2.1, Int.add_comm a.n, Int.add_comm a.s0, Int.add_comm a.s1]
theorem djB_comm (m : Int) (a b : Dl) : djB m a b = djB m b a := by
  unfold djB
  rw [Bool.and_comm (dg m a), Int.add_comm (tot a.i0), Int.add_comm (tot a.i1), Int.add_comm (tot a.o0), Int.add_comm (tot a.o1), Int.add_comm a.s0, Int.add_comm a.s1]
theorem djC_comm (m : Int) (a b : Dl) : djC m a b = djC m b a := by
  cases h : djB m a b with
  | false => rw [djC_no h, djC_no (by rw [← djB_comm]; exact h)]
  | true => rw [djC_yes h, djC_yes (by rw [← djB_comm]; exact h), djR_comm h]
theorem mnx (x y : Int) : (x ≤ y ∧ min x y = x) ∨ (y ≤ x ∧ min x y = y) := by omega
/-- What is left, how often. -/
theorem lef_net {a b : List Rn} (ha : Bag a) (hb : Bag b) (v : Int) : (cn v b ≤ cn v a → cn v (lef a b) = cn v a - cn v b) ∧ (cn v a ≤ cn v b → cn v (lef a b) = 0) := by
  rw [lef_cn ha.1 ha.2.1 hb.2.1]
  have := mnx (cn v a) (cn v b)
  constructor <;> intro h <;> omega
theorem lef_join {a b c d : List Rn} {a' b' c' d' : List Rn} (h1 : Bag a) (h2 : Bag b) (k1 : Bag c) (k2 : Bag d)
    (e : ∀ v, cn v a - cn v b = cn v c - cn v d) : lef a b = lef c d := by
  refine runs_ext (lef_srt h1.1 b) (pos_nz (lef_pos h1.1 h1.2.1 b)) (lef_srt k1.1 d) (pos_nz (lef_pos k1.1 k1.2.1 d)) (fun v => ?_)
  have := lef_net h1 h2 v
  have := lef_net k1 k2 v
  have := e v
  by_cases h : cn v b ≤ cn v a
  · rw [(lef_net h1 h2 v).1 h, (lef_net k1 k2 v).1 (by omega)]; exact e v
  · rw [(lef_net h1 h2 v).2 (by omega), (lef_net k1 k2 v).2 (by omega)]
theorem lef_dif {a b : List Rn} (ha : Bag a) (hb : Bag b) (v : Int) : cn v (lef a b) - cn v (lef b a) = cn v a - cn v b := by
  rw [lef_cn ha.1 ha.2.1 hb.2.1, lef_cn hb.1 hb.2.1 ha.2.1]
  have := mnx (cn v a) (cn v b)
  have := mnx (cn v b) (cn v a)
  omega
/-- By parts. -/
theorem djR_assoc {m : Int} {a b c : Dl} (h1 : djB m a b = true) (h2 : djB m (djC m a b) c = true) (h3 : djB m b c = true) (h4 : djB m a (djC m b c) = true) : djC m (djC m a b) c = djC m a (djC m b c) := by
  have p1 := (dj_parts h1).2
  have p3 := (dj_parts h3).2
  have p2 := (dj_parts h2).2
  have p4 := (dj_parts h4).2
  rw [djC_yes h2, djC_yes h4, djC_yes h1, djC_yes h3]
  rw [djC_yes h1] at p2
  rw [djC_yes h3] at p4
  obtain ⟨⟨q1, q2⟩, q3, q4⟩ := p1
  obtain ⟨⟨r1, r2⟩, r3, r4⟩ := p3
  obtain ⟨⟨s1, s2⟩, s3, s4⟩ := p2
  obtain ⟨⟨t1, t2⟩, t3, t4⟩ := p4
  have key : ∀ x y u v z t : List Rn, Bag (jnl x u) → Bag (jnl y v) → Bag (jnl u z) → Bag (jnl v t) → Bag (jnl (lef (jnl x u) (jnl y v)) z) → Bag (jnl (lef (jnl y v) (jnl x u)) t) → Bag (jnl x (lef (jnl u z) (jnl v t))) → Bag (jnl y (lef (jnl v t) (jnl u z))) →
      lef (jnl (lef (jnl x u) (jnl y v)) z) (jnl (lef (jnl y v) (jnl x u)) t) = lef (jnl x (lef (jnl u z) (jnl v t))) (jnl y (lef (jnl v t) (jnl u z))) := by
    intro x y u v z t b1 b2 b3 b4 b5 b6 b7 b8
    refine lef_join (a' := []) (b' := []) (c' := []) (d' := []) b5 b6 b7 b8 (fun k => ?_)
    rw [jnl_cn, jnl_cn, jnl_cn, jnl_cn]
    have e1 := lef_dif b1 b2 k
    have e2 := lef_dif b3 b4 k
    rw [jnl_cn, jnl_cn] at e1 e2
    omega
  have e0 := key a.i0 a.o0 b.i0 b.o0 c.i0 c.o0 q1 q3 r1 r3 s1 s3 t1 t3
  have e1 := key a.i1 a.o1 b.i1 b.o1 c.i1 c.o1 q2 q4 r2 r4 s2 s4 t2 t4
  have e2 := key a.o0 a.i0 b.o0 b.i0 c.o0 c.i0 q3 q1 r3 r1 s3 s1 t3 t1
  have e3 := key a.o1 a.i1 b.o1 b.i1 c.o1 c.i1 q4 q2 r4 r2 s4 s2 t4 t2
  show djR (djR a b) c = djR a (djR b c)
  unfold djR
  simp only
  rw [e0, e1, e2, e3]
  simp only [Int.add_assoc]
/-- Turned round twice. -/
theorem dn_twice {m : Int} {a : Dl} (h : dnB m a = true) (k : okd a) : dnB m (dnC m a) = true ∧ dnC m (dnC m a) = a := by
  have g : DG m a := by
    unfold dnB at h
    rw [Bool.and_eq_true] at h
    exact dg_iff.1 h.1
  rw [dnC_yes h]
  have h2 : dnB m (dnR a) = true := by
    unfold dnB
    rw [dg_yes (dnR_good g)]
    show (true && (calc.fitB (- -a.s0) && (decide (m = 1) || calc.fitB (- -a.s1)))) = true
    rw [Int.neg_neg, Int.neg_neg, fitB_i64 k.1.2.1, fitB_i64 k.1.2.2]
    simp
  exact ⟨h2, by rw [dnC_yes h2, dnR_two]⟩
theorem lef_self {a b : List Rn} (ha : Bag a) (hb : Bag b) (h : ∀ v, cn v a = cn v b) : lef a b = [] := by
  refine runs_ext (lef_srt ha.1 b) (pos_nz (lef_pos ha.1 ha.2.1 b)) srt_nil (pos_nz pos_nil) (fun v => ?_)
  rw [(lef_net ha hb v).2 (by rw [h v]; exact Int.le_refl _)]
  rfl
/-- One and its other way round come to nothing. -/
theorem dn_join {m : Int} {a : Dl} (h : dnB m a = true) (hj : djB m (dnC m a) a = true) : djC m (dnC m a) a = dl0 := by
  have p := (dj_parts hj).2
  rw [djC_yes hj, dnC_yes h]
  rw [dnC_yes h] at p
  obtain ⟨⟨p1, p2⟩, p3, p4⟩ := p
  have sw : ∀ x y : List Rn, Bag (jnl x y) → Bag (jnl y x) → lef (jnl x y) (jnl y x) = [] := fun x y h1 h2 => lef_self h1 h2 (fun v => by rw [jnl_cn, jnl_cn]; omega)
  show djR (dnR a) a = dl0
  unfold djR dl0
  have e0 : lef (jnl (dnR a).i0 a.i0) (jnl (dnR a).o0 a.o0) = [] := sw a.o0 a.i0 p1 p3
  have e1 : lef (jnl (dnR a).i1 a.i1) (jnl (dnR a).o1 a.o1) = [] := sw a.o1 a.i1 p2 p4
  have e2 : lef (jnl (dnR a).o0 a.o0) (jnl (dnR a).i0 a.i0) = [] := sw a.i0 a.o0 p3 p1
  have e3 : lef (jnl (dnR a).o1 a.o1) (jnl (dnR a).i1 a.i1) = [] := sw a.i1 a.o1 p4 p2
  rw [e0, e1, e2, e3]
  have f0 : (dnR a).n + a.n = 0 := by show -a.n + a.n = 0; omega
  have f1 : (dnR a).s0 + a.s0 = 0 := by show -a.s0 + a.s0 = 0; omega
  have f2 : (dnR a).s1 + a.s1 = 0 := by show -a.s1 + a.s1 = 0; omega
  rw [f0, f1, f2]
theorem did_0 {m : Int} (hm : m = 1 ∨ m = 2) : did m dl0 = true := by rcases hm with rfl | rfl <;> decide
/-- What is joined is sound, and no longer than both. -/
theorem djC_ok {m : Int} {a b : Dl} (ka : okd a) (kb : okd b) : okd (djC m a b) := by
  cases h : djB m a b with
  | false => rw [djC_no h]; exact dl0_ok
  | true =>
    have p := (dj_parts h).2
    have n := dj_nok h ka kb
    have g := djR_good h
    have gn := dg_n g
    obtain ⟨_, _, _, _, f0, f1⟩ := djB_iff.1 h
    rw [djC_yes h]
    obtain ⟨⟨p1, p2⟩, p3, p4⟩ := p
    obtain ⟨⟨n1, n2⟩, n3, n4⟩ := n
    exact ⟨⟨by unfold I64; omega, fitB_iff.1 f0, fitB_iff.1 f1⟩, ⟨lef_nok n1 p1.1 p1.2.1 p3.2.1, lef_nok n2 p2.1 p2.2.1 p4.2.1⟩, lef_nok n3 p3.1 p3.2.1 p1.2.1, lef_nok n4 p4.1 p4.2.1 p2.2.1⟩
/-- Its bags are no longer than so. -/
def shn (k : Nat) (d : Dl) : Prop := (d.i0.length ≤ k ∧ d.i1.length ≤ k) ∧ d.o0.length ≤ k ∧ d.o1.length ≤ k
theorem shn_5 {k : Nat} {d : Dl} (h : shn k d) (hk : k ≤ 500) : sh5 d := by
  obtain ⟨⟨h1, h2⟩, h3, h4⟩ := h
  exact ⟨⟨by omega, by omega⟩, by omega, by omega⟩
theorem djC_sh {m : Int} {a b : Dl} {k n : Nat} (ha : shn k a) (hb : shn n b) : shn (k + n) (djC m a b) := by
  cases h : djB m a b with
  | false => rw [djC_no h]; exact ⟨⟨Nat.zero_le _, Nat.zero_le _⟩, Nat.zero_le _, Nat.zero_le _⟩
  | true =>
    obtain ⟨⟨p1, p2⟩, p3, p4⟩ := (dj_parts h).2
    rw [djC_yes h]
    have l1 := lef_len p1.1 p1.2.1 p3.2.1
    have l2 := lef_len p2.1 p2.2.1 p4.2.1
    have l3 := lef_len p3.1 p3.2.1 p1.2.1
    have l4 := lef_len p4.1 p4.2.1 p2.2.1
    have m1 := jnl_len a.i0 b.i0
    have m2 := jnl_len a.i1 b.i1
    have m3 := jnl_len a.o0 b.o0
    have m4 := jnl_len a.o1 b.o1
    obtain ⟨⟨a1, a2⟩, a3, a4⟩ := ha
    obtain ⟨⟨b1, b2⟩, b3, b4⟩ := hb
    exact ⟨⟨by show (lef _ _).length ≤ _; omega, by show (lef _ _).length ≤ _; omega⟩, by show (lef _ _).length ≤ _; omega, by show (lef _ _).length ≤ _; omega⟩
theorem dnC_ok {m : Int} {a : Dl} (ka : okd a) : okd (dnC m a) := by
  cases h : dnB m a with
  | false => rw [dnC_no h]; exact dl0_ok
  | true =>
    rw [dnC_yes h]
    have g : DG m a := by
      unfold dnB at h
      rw [Bool.and_eq_true] at h
      exact dg_iff.1 h.1
    have e := dn_eq g
    rw [h, Int.zero_sub, Int.zero_sub] at e
    have e' := e.symm
    rw [Bool.and_eq_true] at e'
    have gn := dg_n g
    obtain ⟨_, ⟨k1, k2⟩, k3, k4⟩ := ka
    exact ⟨⟨by show I64 (-a.n); unfold I64; omega, fitB_iff.1 e'.1, fitB_iff.1 e'.2⟩, ⟨k3, k4⟩, k1, k2⟩
theorem dnC_sh {m : Int} {a : Dl} {k : Nat} (ha : shn k a) : shn k (dnC m a) := by
  cases h : dnB m a with
  | false => rw [dnC_no h]; exact ⟨⟨Nat.zero_le _, Nat.zero_le _⟩, Nat.zero_le _, Nat.zero_le _⟩
  | true => rw [dnC_yes h]; exact ⟨ha.2, ha.1⟩

end Go.Proofs.Ytjkkajhjcinalaa

namespace Go.Proofs.Ytjkkajhjcinalaa
open Go.ChangeShapes Go.WideShapes Go.ChangeAt Go.RowKit
set_option linter.unusedVariables false
set_option linter.unusedSimpArgs false
set_option maxRecDepth 100000

theorem open_runs_cl {H : Type} {enc : TypeId × Value → H} {W : World} {base fuel : Nat} {c0 : Value} {x : DataW H × List MemPlace}
    (hf : DataW.trod enc Try.prog W base (fun _ => true) true fuel 23 [c0] = some x) : ∃ a n c l, c0 = .slice a n c ∧ NRun W a n c l ∧ ∀ r ∈ l, nok r := by
  rcases Go.Deep.open_slice Try.underlying23 hf with ⟨hcs, _⟩ | ⟨ad, len, cap, m, n', D, Pl, hcs, hb, hl, hm, hmm, _, hx⟩
  · simp at hcs
    subst hcs
    exact ⟨none, 0, 0, [], rfl, nrun_nil W, fun r hr => by cases hr⟩
  · simp at hcs
    subst hcs
    simp only [if_true] at hmm
    have each : ∀ i, i < len → ∃ q : Rn, nok q ∧ ∀ k v, (ncs q)[k]? = some v → W.cell? (ad.add (i * 2 + k)) = some v := by
      intro i hi
      obtain ⟨cs', h1, h2⟩ := hx i (by omega)
      rw [cells_nr] at h1
      obtain ⟨_, hlen, hcell⟩ := World.cells?_some h1
      match cs', hlen with
      | [c0, c1], _ =>
        obtain ⟨x0, x1, e, hr⟩ := open_run_cells h2
        refine ⟨_, hr, fun k v hk => ?_⟩
        rw [← e] at hk
        have hk6 : k < 2 := by
          have := (List.getElem?_eq_some_iff.1 hk).1
          simpa using this
        have := hcell k (by simpa using hk6)
        rw [Go.Deep.add_add] at this
        rw [this]
        exact hk
    obtain ⟨q, hq⟩ := Go.Deep.choose_lt each
    refine ⟨some ad, len, cap, (List.range len).map q, rfl, ⟨by simp, hl, hm, (fun h => by cases h), fun h0 => ?_⟩, ?_⟩
    · obtain ⟨b, off, spot⟩ := ad
      have hc0 := (hq 0 (by omega)).2 0
      obtain ⟨⟨x0, x1⟩, hq0⟩ : ∃ y, q 0 = y := ⟨_, rfl⟩
      have hc := hc0 (.int .i64 x0) (by rw [hq0]; rfl)
      have hspot : spot = none := by simpa [Addr.add] using World.cell?_spot hc
      subst hspot
      have hb' := World.block_lt_of_cell? _ _ hc
      refine ⟨b, off, rfl, by simpa [Addr.add] using hb', fun j r hj i v hi => ?_⟩
      have hjl : j < len := by
        have := (List.getElem?_eq_some_iff.1 hj).1
        simpa using this
      rw [List.getElem?_map, List.getElem?_range hjl] at hj
      simp at hj
      subst hj
      have := (hq j hjl).2 i v hi
      rw [add_at, ← Nat.add_assoc] at this
      exact this
    · intro r hr
      simp only [List.mem_map, List.mem_range] at hr
      obtain ⟨i, hi, rfl⟩ := hr
      exact (hq i hi).1
theorem open_cell_cl {H : Type} {enc : TypeId × Value → H} {W : World} {base fuel : Nat} {c0 c1 c2 c3 c4 : Value} {x : DataW H × List MemPlace}
    (hf : DataW.trod enc Try.prog W base (fun _ => true) true fuel 26 [c0, c1, c2, c3, c4] = some x) :
    ∃ (y : Cl) (a0 : Option Addr) (p0 k0 : Nat) (a1 : Option Addr) (p1 k1 : Nat), c0 = .int .i64 y.n ∧ c1 = .int .i64 y.s0 ∧ c2 = .int .i64 y.s1 ∧ c3 = .slice a0 p0 k0 ∧ c4 = .slice a1 p1 k1 ∧ CW W a0 p0 k0 a1 p1 k1 y ∧ okc y := by
  have hI : Try.prog.cellsOf 2 = 1 := by kernel_rfl
  have hM : Try.prog.cellsOf 22 = 2 := by kernel_rfl
  have hB : Try.prog.cellsOf 24 = 2 := by kernel_rfl
  have hR : Try.prog.cellsOf 23 = 1 := by kernel_rfl
  obtain ⟨xs, m, _, _, _, hl, hg⟩ := DataW.trod_struct Try.underlying26 hf
  have g0 := hg 0
  have g1 := hg 1
  have g2 := hg 2
  simp [hI, hM, hB] at g0 g1 g2
  match xs, hl with
  | [y0, y1, y2], _ =>
    obtain ⟨n, e0, _, w0⟩ := DataW.trod_int Try.underlying2 g0
    simp at e0
    subst e0
    obtain ⟨s0, s1, rfl, rfl, i0, i1⟩ := open_meas_cells (c0 := c1) (c1 := c2) g1
    obtain ⟨ys, m2, _, _, _, hl2, hg2⟩ := DataW.trod_array Try.underlying24 g2
    have h0 := hg2 0 (by decide)
    have h1 := hg2 1 (by decide)
    rw [hR] at h0 h1
    match ys, hl2 with
    | [z0, z1], _ =>
      simp at h0 h1
      obtain ⟨a0, p0, k0, l0, rfl, r0, o0⟩ := open_runs_cl h0
      obtain ⟨a1, p1, k1, l1, rfl, r1, o1⟩ := open_runs_cl h1
      exact ⟨⟨n, s0, s1, l0, l1⟩, a0, p0, k0, a1, p1, k1, rfl, rfl, rfl, rfl, rfl, ⟨r0, r1⟩, bounds_i64 w0, i0, i1, o0, o1⟩
theorem open_delta_cl {H : Type} {enc : TypeId × Value → H} {W : World} {base fuel : Nat} {c0 c1 c2 c3 c4 c5 c6 : Value} {x : DataW H × List MemPlace}
    (hf : DataW.trod enc Try.prog W base (fun _ => true) true fuel 68 [c0, c1, c2, c3, c4, c5, c6] = some x) :
    ∃ (d : Dl) (a0 : Option Addr) (a1 a2 : Nat) (a3 : Option Addr) (a4 a5 : Nat) (a6 : Option Addr) (a7 a8 : Nat) (a9 : Option Addr) (a10 a11 : Nat), [c0, c1, c2, c3, c4, c5, c6] = [.int .i64 d.n, .int .i64 d.s0, .int .i64 d.s1, .slice a0 a1 a2, .slice a3 a4 a5, .slice a6 a7 a8, .slice a9 a10 a11] ∧ DW W a0 a1 a2 a3 a4 a5 a6 a7 a8 a9 a10 a11 d ∧ okd d := by
  have hI : Try.prog.cellsOf 2 = 1 := by kernel_rfl
  have hM : Try.prog.cellsOf 22 = 2 := by kernel_rfl
  have hB : Try.prog.cellsOf 24 = 2 := by kernel_rfl
  have hR : Try.prog.cellsOf 23 = 1 := by kernel_rfl
  obtain ⟨xs, m, _, _, _, hl, hg⟩ := DataW.trod_struct Try.underlying68 hf
  have g0 := hg 0
  have g1 := hg 1
  have g2 := hg 2
  have g3 := hg 3
  simp [hI, hM, hB] at g0 g1 g2 g3
  match xs, hl with
  | [y0, y1, y2, y3], _ =>
    obtain ⟨n, e0, _, w0⟩ := DataW.trod_int Try.underlying2 g0
    simp at e0
    subst e0
    obtain ⟨s0, s1, rfl, rfl, i0, i1⟩ := open_meas_cells (c0 := c1) (c1 := c2) g1
    obtain ⟨ys, m2, _, _, _, hl2, hg2⟩ := DataW.trod_array Try.underlying24 g2
    have h0 := hg2 0 (by decide)
    have h1 := hg2 1 (by decide)
    rw [hR] at h0 h1
    obtain ⟨zs, m3, _, _, _, hl3, hg3⟩ := DataW.trod_array Try.underlying24 g3
    have h2 := hg3 0 (by decide)
    have h3 := hg3 1 (by decide)
    rw [hR] at h2 h3
    match ys, hl2, zs, hl3 with
    | [z0, z1], _, [z2, z3], _ =>
      simp at h0 h1 h2 h3
      obtain ⟨a0, a1, a2, l0, rfl, r0, o0⟩ := open_runs_cl h0
      obtain ⟨a3, a4, a5, l1, rfl, r1, o1⟩ := open_runs_cl h1
      obtain ⟨a6, a7, a8, l2, rfl, r2, o2⟩ := open_runs_cl h2
      obtain ⟨a9, a10, a11, l3, rfl, r3, o3⟩ := open_runs_cl h3
      exact ⟨⟨n, s0, s1, l0, l1, l2, l3⟩, a0, a1, a2, a3, a4, a5, a6, a7, a8, a9, a10, a11, rfl, ⟨⟨r0, r1⟩, r2, r3⟩, ⟨bounds_i64 w0, i0, i1⟩, ⟨o0, o1⟩, o2, o3⟩
theorem list7 {l : List Value} (h : l.length = 7) : ∃ c0 c1 c2 c3 c4 c5 c6, l = [c0, c1, c2, c3, c4, c5, c6] := by
  match l, h with
  | [c0, c1, c2, c3, c4, c5, c6], _ => exact ⟨_, _, _, _, _, _, _, rfl⟩
theorem open_delta {H : Type} {enc : TypeId × Value → H} {W : World} {base b0 : Nat} {r : Reach} {v : Value} {d : DataW H} {p : List MemPlace}
    (hv : Value.okWide Try.prog W r b0 68 v) (h : DataW.Trod enc Try.prog W base (fun _ => true) true 68 v d p) :
    ∃ (D : Dl) (a0 : Option Addr) (a1 a2 : Nat) (a3 : Option Addr) (a4 a5 : Nat) (a6 : Option Addr) (a7 a8 : Nat) (a9 : Option Addr) (a10 a11 : Nat), v = (.agg #[.int .i64 D.n, .int .i64 D.s0, .int .i64 D.s1, .slice a0 a1 a2, .slice a3 a4 a5, .slice a6 a7 a8, .slice a9 a10 a11]) ∧ DW W a0 a1 a2 a3 a4 a5 a6 a7 a8 a9 a10 a11 D ∧ okd D := by
  have hC : Try.prog.cellsOf 68 = 7 := by kernel_rfl
  obtain ⟨cs, rfl, hsz⟩ := okWide_struct Try.underlying68 hv
  rw [hC] at hsz
  obtain ⟨fuel, hf⟩ := h
  obtain ⟨c0, c1, c2, c3, c4, c5, c6, rfl⟩ : ∃ c0 c1 c2 c3 c4 c5 c6, cs = #[c0, c1, c2, c3, c4, c5, c6] := by
    obtain ⟨l⟩ := cs
    obtain ⟨c0, c1, c2, c3, c4, c5, c6, e⟩ := list7 (l := l) (by simpa using hsz)
    exact ⟨c0, c1, c2, c3, c4, c5, c6, by rw [e]⟩
  have hf' : DataW.trod enc Try.prog W base (fun _ => true) true fuel 68 [c0, c1, c2, c3, c4, c5, c6] = some (d, p) := hf
  obtain ⟨D, a0, a1, a2, a3, a4, a5, a6, a7, a8, a9, a10, a11, e, hD, kD⟩ := open_delta_cl hf'
  simp only [List.cons.injEq, and_true] at e
  obtain ⟨rfl, rfl, rfl, rfl, rfl, rfl, rfl⟩ := e
  exact ⟨D, a0, a1, a2, a3, a4, a5, a6, a7, a8, a9, a10, a11, rfl, hD, kD⟩
theorem open_dthree {H : Type} {enc : TypeId × Value → H} {W : World} {base e0 : Nat} {r : Reach} {v : Value} {d : DataW H} {p : List MemPlace}
    (hv : Value.okWide Try.prog W r e0 106 v) (h : DataW.Trod enc Try.prog W base (fun _ => true) true 106 v d p) :
    ∃ (A : Dl) (a0 : Option Addr) (a1 a2 : Nat) (a3 : Option Addr) (a4 a5 : Nat) (a6 : Option Addr) (a7 a8 : Nat) (a9 : Option Addr) (a10 a11 : Nat) (B : Dl) (b0 : Option Addr) (b1 b2 : Nat) (b3 : Option Addr) (b4 b5 : Nat) (b6 : Option Addr) (b7 b8 : Nat) (b9 : Option Addr) (b10 b11 : Nat) (C : Dl) (c0 : Option Addr) (c1 c2 : Nat) (c3 : Option Addr) (c4 c5 : Nat) (c6 : Option Addr) (c7 c8 : Nat) (c9 : Option Addr) (c10 c11 : Nat), v = (.agg #[.int .i64 A.n, .int .i64 A.s0, .int .i64 A.s1, .slice a0 a1 a2, .slice a3 a4 a5, .slice a6 a7 a8, .slice a9 a10 a11, .int .i64 B.n, .int .i64 B.s0, .int .i64 B.s1, .slice b0 b1 b2, .slice b3 b4 b5, .slice b6 b7 b8, .slice b9 b10 b11, .int .i64 C.n, .int .i64 C.s0, .int .i64 C.s1, .slice c0 c1 c2, .slice c3 c4 c5, .slice c6 c7 c8, .slice c9 c10 c11]) ∧ (DW W a0 a1 a2 a3 a4 a5 a6 a7 a8 a9 a10 a11 A ∧ okd A) ∧ (DW W b0 b1 b2 b3 b4 b5 b6 b7 b8 b9 b10 b11 B ∧ okd B) ∧ DW W c0 c1 c2 c3 c4 c5 c6 c7 c8 c9 c10 c11 C ∧ okd C := by
  have hC : Try.prog.cellsOf 106 = 21 := by kernel_rfl
  have hL : Try.prog.cellsOf 68 = 7 := by kernel_rfl
  obtain ⟨cs, rfl, hsz⟩ := okWide_struct Try.underlying106 hv
  rw [hC] at hsz
  obtain ⟨fuel, hf⟩ := h
  obtain ⟨c0, c1, c2, c3, c4, c5, c6, c7, c8, c9, c10, c11, c12, c13, c14, c15, c16, c17, c18, c19, c20, rfl⟩ : ∃ c0 c1 c2 c3 c4 c5 c6 c7 c8 c9 c10 c11 c12 c13 c14 c15 c16 c17 c18 c19 c20, cs = #[c0, c1, c2, c3, c4, c5, c6, c7, c8, c9, c10, c11, c12, c13, c14, c15, c16, c17, c18, c19, c20] := by
    obtain ⟨l⟩ := cs
    have hs : l.length = 21 := by simpa using hsz
    obtain ⟨c0, c1, c2, c3, c4, c5, c6, hA⟩ := list7 (l := l.take 7) (by rw [List.length_take]; omega)
    obtain ⟨c7, c8, c9, c10, c11, c12, c13, hB⟩ := list7 (l := (l.drop 7).take 7) (by rw [List.length_take, List.length_drop]; omega)
    obtain ⟨c14, c15, c16, c17, c18, c19, c20, hD⟩ := list7 (l := (l.drop 7).drop 7) (by rw [List.length_drop, List.length_drop]; omega)
    have e : l = l.take 7 ++ ((l.drop 7).take 7 ++ (l.drop 7).drop 7) := by rw [List.take_append_drop, List.take_append_drop]
    rw [hA, hB, hD] at e
    refine ⟨c0, c1, c2, c3, c4, c5, c6, c7, c8, c9, c10, c11, c12, c13, c14, c15, c16, c17, c18, c19, c20, ?_⟩
    rw [e]
    rfl
  have hf' : DataW.trod enc Try.prog W base (fun _ => true) true fuel 106 [c0, c1, c2, c3, c4, c5, c6, c7, c8, c9, c10, c11, c12, c13, c14, c15, c16, c17, c18, c19, c20] = some (d, p) := hf
  obtain ⟨ys, m, _, _, _, hl, hg⟩ := DataW.trod_struct Try.underlying106 hf'
  have g0 := hg 0
  have g1 := hg 1
  have g2 := hg 2
  simp [hL] at g0 g1 g2
  match ys, hl with
  | [y0, y1, y2], _ =>
    obtain ⟨A, a0, a1, a2, a3, a4, a5, a6, a7, a8, a9, a10, a11, eA, hA, kA⟩ := open_delta_cl g0
    obtain ⟨B, b0, b1, b2, b3, b4, b5, b6, b7, b8, b9, b10, b11, eB, hB, kB⟩ := open_delta_cl g1
    obtain ⟨C, c0, c1, c2, c3, c4, c5, c6, c7, c8, c9, c10, c11, eC, hC', kC⟩ := open_delta_cl g2
    simp only [List.cons.injEq, and_true] at eA eB eC
    obtain ⟨rfl, rfl, rfl, rfl, rfl, rfl, rfl⟩ := eA
    obtain ⟨rfl, rfl, rfl, rfl, rfl, rfl, rfl⟩ := eB
    obtain ⟨rfl, rfl, rfl, rfl, rfl, rfl, rfl⟩ := eC
    exact ⟨A, a0, a1, a2, a3, a4, a5, a6, a7, a8, a9, a10, a11, B, b0, b1, b2, b3, b4, b5, b6, b7, b8, b9, b10, b11, C, c0, c1, c2, c3, c4, c5, c6, c7, c8, c9, c10, c11, rfl, ⟨hA, kA⟩, ⟨hB, kB⟩, hC', kC⟩

end Go.Proofs.Ytjkkajhjcinalaa

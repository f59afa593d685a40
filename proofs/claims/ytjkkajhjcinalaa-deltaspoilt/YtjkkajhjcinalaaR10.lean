/-
  Deltas joined, as numbers and bags: in any order, by parts, and taken back.
  Conditions: as each theorem states them.
-/
import Derived.Test.YtjkkajhjcinalaaP10
namespace Go.Proofs.Ytjkkajhjcinalaa
open Go.RowKit
set_option linter.unusedVariables false
set_option linter.unusedSimpArgs false
set_option maxRecDepth 100000

theorem djR_comm {m : Int} {a b : Dl} (h : djB m a b = true) : djR a b = djR b a := by
  obtain ⟨ga, gb, _⟩ := djB_iff.1 h
  obtain ⟨⟨a1, a2⟩, a3, a4⟩ := dg_bags ga
  obtain ⟨⟨b1, b2⟩, b3, b4⟩ := dg_bags gb
  unfold djR
  rw [jnl_comm a1.1 a1.2.1 b1.1 b1.2.1, jnl_comm a2.1 a2.2.1 b2.1 b2.2.1, jnl_comm a3.1 a3.2.1 b3.1 b3.2.1, jnl_comm a4.1 a4.2.1 b4.1 b4.2.1, Int.add_comm a.n, Int.add_comm a.s0, Int.add_comm a.s1]
theorem djB_comm (m : Int) (a b : Dl) : djB m a b = djB m b a := by
  unfold djB
  rw [Bool.and_comm (dg m a), Int.add_comm (tot a.i0), Int.add_comm (tot a.i1), Int.add_comm (tot a.o0), Int.add_comm (tot a.o1), Int.add_comm a.s0, Int.add_comm a.s1]
theorem djC_comm (m : Int) (a b : Dl) : djC m a b = djC m b a := by
  cases h : djB m a b with
  | false => rw [djC_no h, djC_no (by rw [← djB_comm]; exact h)]
  | true => rw [djC_yes h, djC_yes (by rw [← djB_comm]; exact h), djR_comm h]
theorem mnx (x y : Int) : (x ≤ y ∧ min x y = x) ∨ (y ≤ x ∧ min x y = y) := by omega
/-- What is left, how often. -/
theorem lef_net {a b : List Rn} (ha : Bag a) (hb : Bag b) (v : Int) : (cn v b ≤ cn v a → cn v (lef a b) = cn v a - cn v b) ∧ (cn v a ≤ cn v b → cn v (lef a b) = 0) := by
  rw [lef_cn ha.1 ha.2.1 hb.2.1]
  have := mnx (cn v a) (cn v b)
  constructor <;> intro h <;> omega
theorem lef_join {a b c d : List Rn} {a' b' c' d' : List Rn} (h1 : Bag a) (h2 : Bag b) (k1 : Bag c) (k2 : Bag d)
    (e : ∀ v, cn v a - cn v b = cn v c - cn v d) : lef a b = lef c d := by
  refine runs_ext (lef_srt h1.1 b) (pos_nz (lef_pos h1.1 h1.2.1 b)) (lef_srt k1.1 d) (pos_nz (lef_pos k1.1 k1.2.1 d)) (fun v => ?_)
  have := lef_net h1 h2 v
  have := lef_net k1 k2 v
  have := e v
  by_cases h : cn v b ≤ cn v a
  · rw [(lef_net h1 h2 v).1 h, (lef_net k1 k2 v).1 (by omega)]; exact e v
  · rw [(lef_net h1 h2 v).2 (by omega), (lef_net k1 k2 v).2 (by omega)]
theorem lef_dif {a b : List Rn} (ha : Bag a) (hb : Bag b) (v : Int) : cn v (lef a b) - cn v (lef b a) = cn v a - cn v b := by
  rw [lef_cn ha.1 ha.2.1 hb.2.1, lef_cn hb.1 hb.2.1 ha.2.1]
  have := mnx (cn v a) (cn v b)
  have := mnx (cn v b) (cn v a)
  omega
/-- By parts. -/
theorem djR_assoc {m : Int} {a b c : Dl} (h1 : djB m a b = true) (h2 : djB m (djC m a b) c = true) (h3 : djB m b c = true) (h4 : djB m a (djC m b c) = true) : djC m (djC m a b) c = djC m a (djC m b c) := by
  have p1 := (dj_parts h1).2
  have p3 := (dj_parts h3).2
  have p2 := (dj_parts h2).2
  have p4 := (dj_parts h4).2
  rw [djC_yes h2, djC_yes h4, djC_yes h1, djC_yes h3]
  rw [djC_yes h1] at p2
  rw [djC_yes h3] at p4
  obtain ⟨⟨q1, q2⟩, q3, q4⟩ := p1
  obtain ⟨⟨r1, r2⟩, r3, r4⟩ := p3
  obtain ⟨⟨s1, s2⟩, s3, s4⟩ := p2
  obtain ⟨⟨t1, t2⟩, t3, t4⟩ := p4
  have key : ∀ x y u v z t : List Rn, Bag (jnl x u) → Bag (jnl y v) → Bag (jnl u z) → Bag (jnl v t) → Bag (jnl (lef (jnl x u) (jnl y v)) z) → Bag (jnl (lef (jnl y v) (jnl x u)) t) → Bag (jnl x (lef (jnl u z) (jnl v t))) → Bag (jnl y (lef (jnl v t) (jnl u z))) →
      lef (jnl (lef (jnl x u) (jnl y v)) z) (jnl (lef (jnl y v) (jnl x u)) t) = lef (jnl x (lef (jnl u z) (jnl v t))) (jnl y (lef (jnl v t) (jnl u z))) := by
    intro x y u v z t b1 b2 b3 b4 b5 b6 b7 b8
    refine lef_join (a' := []) (b' := []) (c' := []) (d' := []) b5 b6 b7 b8 (fun k => ?_)
    rw [jnl_cn, jnl_cn, jnl_cn, jnl_cn]
    have e1 := lef_dif b1 b2 k
    have e2 := lef_dif b3 b4 k
    rw [jnl_cn, jnl_cn] at e1 e2
    omega
  have e0 := key a.i0 a.o0 b.i0 b.o0 c.i0 c.o0 q1 q3 r1 r3 s1 s3 t1 t3
  have e1 := key a.i1 a.o1 b.i1 b.o1 c.i1 c.o1 q2 q4 r2 r4 s2 s4 t2 t4
  have e2 := key a.o0 a.i0 b.o0 b.i0 c.o0 c.i0 q3 q1 r3 r1 s3 s1 t3 t1
  have e3 := key a.o1 a.i1 b.o1 b.i1 c.o1 c.i1 q4 q2 r4 r2 s4 s2 t4 t2
  show djR (djR a b) c = djR a (djR b c)
  unfold djR
  simp only
  rw [e0, e1, e2, e3]
  simp only [Int.add_assoc]
/-- Turned round twice. -/
theorem dn_twice {m : Int} {a : Dl} (h : dnB m a = true) (k : okd a) : dnB m (dnC m a) = true ∧ dnC m (dnC m a) = a := by
  have g : DG m a := by
    unfold dnB at h
    rw [Bool.and_eq_true] at h
    exact dg_iff.1 h.1
  rw [dnC_yes h]
  have h2 : dnB m (dnR a) = true := by
    unfold dnB
    rw [dg_yes (dnR_good g)]
    show (true && (calc.fitB (- -a.s0) && (decide (m = 1) || calc.fitB (- -a.s1)))) = true
    rw [Int.neg_neg, Int.neg_neg, fitB_i64 k.1.2.1, fitB_i64 k.1.2.2]
    simp
  exact ⟨h2, by rw [dnC_yes h2, dnR_two]⟩
theorem lef_self {a b : List Rn} (ha : Bag a) (hb : Bag b) (h : ∀ v, cn v a = cn v b) : lef a b = [] := by
  refine runs_ext (lef_srt ha.1 b) (pos_nz (lef_pos ha.1 ha.2.1 b)) srt_nil (pos_nz pos_nil) (fun v => ?_)
  rw [(lef_net ha hb v).2 (by rw [h v]; exact Int.le_refl _)]
  rfl
/-- One and its other way round come to nothing. -/
theorem dn_join {m : Int} {a : Dl} (h : dnB m a = true) (hj : djB m (dnC m a) a = true) : djC m (dnC m a) a = dl0 := by
  have p := (dj_parts hj).2
  rw [djC_yes hj, dnC_yes h]
  rw [dnC_yes h] at p
  obtain ⟨⟨p1, p2⟩, p3, p4⟩ := p
  have sw : ∀ x y : List Rn, Bag (jnl x y) → Bag (jnl y x) → lef (jnl x y) (jnl y x) = [] := fun x y h1 h2 => lef_self h1 h2 (fun v => by rw [jnl_cn, jnl_cn]; omega)
  show djR (dnR a) a = dl0
  unfold djR dl0
  have e0 : lef (jnl (dnR a).i0 a.i0) (jnl (dnR a).o0 a.o0) = [] := sw a.o0 a.i0 p1 p3
  have e1 : lef (jnl (dnR a).i1 a.i1) (jnl (dnR a).o1 a.o1) = [] := sw a.o1 a.i1 p2 p4
  have e2 : lef (jnl (dnR a).o0 a.o0) (jnl (dnR a).i0 a.i0) = [] := sw a.i0 a.o0 p3 p1
  have e3 : lef (jnl (dnR a).o1 a.o1) (jnl (dnR a).i1 a.i1) = [] := sw a.i1 a.o1 p4 p2
  rw [e0, e1, e2, e3]
  have f0 : (dnR a).n + a.n = 0 := by show -a.n + a.n = 0; omega
  have f1 : (dnR a).s0 + a.s0 = 0 := by show -a.s0 + a.s0 = 0; omega
  have f2 : (dnR a).s1 + a.s1 = 0 := by show -a.s1 + a.s1 = 0; omega
  rw [f0, f1, f2]
theorem did_0 {m : Int} (hm : m = 1 ∨ m = 2) : did m dl0 = true := by rcases hm with rfl | rfl <;> decide
/-- What is joined is sound, and no longer than both. -/
theorem djC_ok {m : Int} {a b : Dl} (ka : okd a) (kb : okd b) : okd (djC m a b) := by
  cases h : djB m a b with
  | false => rw [djC_no h]; exact dl0_ok
  | true =>
    have p := (dj_parts h).2
    have n := dj_nok h ka kb
    have g := djR_good h
    have gn := dg_n g
    obtain ⟨_, _, _, _, f0, f1⟩ := djB_iff.1 h
    rw [djC_yes h]
    obtain ⟨⟨p1, p2⟩, p3, p4⟩ := p
    obtain ⟨⟨n1, n2⟩, n3, n4⟩ := n
    exact ⟨⟨by unfold I64; omega, fitB_iff.1 f0, fitB_iff.1 f1⟩, ⟨lef_nok n1 p1.1 p1.2.1 p3.2.1, lef_nok n2 p2.1 p2.2.1 p4.2.1⟩, lef_nok n3 p3.1 p3.2.1 p1.2.1, lef_nok n4 p4.1 p4.2.1 p2.2.1⟩
/-- Its bags are no longer than so. -/
def shn (k : Nat) (d : Dl) : Prop := (d.i0.length ≤ k ∧ d.i1.length ≤ k) ∧ d.o0.length ≤ k ∧ d.o1.length ≤ k
theorem shn_5 {k : Nat} {d : Dl} (h : shn k d) (hk : k ≤ 500) : sh5 d := by
  obtain ⟨⟨h1, h2⟩, h3, h4⟩ := h
  exact ⟨⟨by omega, by omega⟩, by omega, by omega⟩
theorem djC_sh {m : Int} {a b : Dl} {k n : Nat} (ha : shn k a) (hb : shn n b) : shn (k + n) (djC m a b) := by
  cases h : djB m a b with
  | false => rw [djC_no h]; exact ⟨⟨Nat.zero_le _, Nat.zero_le _⟩, Nat.zero_le _, Nat.zero_le _⟩
  | true =>
    obtain ⟨⟨p1, p2⟩, p3, p4⟩ := (dj_parts h).2
    rw [djC_yes h]
    have l1 := lef_len p1.1 p1.2.1 p3.2.1
    have l2 := lef_len p2.1 p2.2.1 p4.2.1
    have l3 := lef_len p3.1 p3.2.1 p1.2.1
    have l4 := lef_len p4.1 p4.2.1 p2.2.1
    have m1 := jnl_len a.i0 b.i0
    have m2 := jnl_len a.i1 b.i1
    have m3 := jnl_len a.o0 b.o0
    have m4 := jnl_len a.o1 b.o1
    obtain ⟨⟨a1, a2⟩, a3, a4⟩ := ha
    obtain ⟨⟨b1, b2⟩, b3, b4⟩ := hb
    exact ⟨⟨by show (lef _ _).length ≤ _; omega, by show (lef _ _).length ≤ _; omega⟩, by show (lef _ _).length ≤ _; omega, by show (lef _ _).length ≤ _; omega⟩
theorem dnC_ok {m : Int} {a : Dl} (ka : okd a) : okd (dnC m a) := by
  cases h : dnB m a with
  | false => rw [dnC_no h]; exact dl0_ok
  | true =>
    rw [dnC_yes h]
    have g : DG m a := by
      unfold dnB at h
      rw [Bool.and_eq_true] at h
      exact dg_iff.1 h.1
    have e := dn_eq g
    rw [h, Int.zero_sub, Int.zero_sub] at e
    have e' := e.symm
    rw [Bool.and_eq_true] at e'
    have gn := dg_n g
    obtain ⟨_, ⟨k1, k2⟩, k3, k4⟩ := ka
    exact ⟨⟨by show I64 (-a.n); unfold I64; omega, fitB_iff.1 e'.1, fitB_iff.1 e'.2⟩, ⟨k3, k4⟩, k1, k2⟩
theorem dnC_sh {m : Int} {a : Dl} {k : Nat} (ha : shn k a) : shn k (dnC m a) := by
  cases h : dnB m a with
  | false => rw [dnC_no h]; exact ⟨⟨Nat.zero_le _, Nat.zero_le _⟩, Nat.zero_le _, Nat.zero_le _⟩
  | true => rw [dnC_yes h]; exact ⟨ha.2, ha.1⟩

end Go.Proofs.Ytjkkajhjcinalaa

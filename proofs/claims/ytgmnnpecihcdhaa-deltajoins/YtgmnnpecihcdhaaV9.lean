/-
  The cell of all is that of the parts, joined: the walk of the law CellJoins.
  Conditions: as each theorem states them.
-/
import Derived.Test.YtgmnnpecihcdhaaT9
namespace Go.Proofs.Ytgmnnpecihcdhaa
open Go.ChangeShapes Go.WideShapes Go.ChangeAt Go.RowKit
set_option linter.unusedVariables false
set_option linter.unusedSimpArgs false
set_option maxRecDepth 100000

theorem okc_0 : okc cl0 := ⟨calc.i64_0, calc.i64_0, calc.i64_0, nok_nil, nok_nil⟩
theorem ofC_ok {m : Int} {l : List Rw} (hk : ∀ r ∈ l, rok r) (hl : l.length ≤ 1000) : okc (ofC m l) := by
  cases h : ofB m l with
  | false => rw [ofC_no h]; exact okc_0
  | true =>
    rw [ofC_yes h]
    obtain ⟨hm, h0, f0, f1⟩ := ofB_iff.1 h
    refine ⟨by show I64 (l.length : Int); unfold I64; omega, fitB_iff.1 f0, ?_, bagOf_ok (V0_i64 hk) (by rw [V0_len]; omega), ?_⟩
    · show I64 (if m = 2 then calc.sumI (V1 l) else 0)
      rcases hm with rfl | rfl
      · exact calc.i64_0
      · rcases f1 with f1 | f1
        · cases f1
        · exact fitB_iff.1 f1
    · show ∀ r ∈ (if m = 2 then bagOf (V1 l) else []), nok r
      rcases hm with rfl | rfl
      · intro r hr; cases hr
      · exact bagOf_ok (V1_i64 hk) (by rw [V1_len]; omega)
theorem ofC_len (m : Int) (l : List Rw) : (ofC m l).b0.length ≤ l.length ∧ (ofC m l).b1.length ≤ l.length := by
  cases h : ofB m l with
  | false => rw [ofC_no h]; exact ⟨Nat.zero_le _, Nat.zero_le _⟩
  | true =>
    rw [ofC_yes h]
    have e0 := bagOf_len (V0 l)
    have e1 := bagOf_len (V1 l)
    rw [V0_len] at e0
    rw [V1_len] at e1
    refine ⟨e0, ?_⟩
    show (if m = 2 then bagOf (V1 l) else []).length ≤ l.length
    split
    · exact e1
    · exact Nat.zero_le _
theorem append_rn {w : World} {ops : Array Oper} {rest : List Oper} {o : Oper} {a : Act} {Q : Exit → Act → World → Prop} (hgd : o.guard = none) (s x : Operand)
    (ho : o.op = .call { callee := .builtin .append, args := #[s, x], argTypes := #[31, 31] }) (base g n cap : Nat) (xs : List Rw)
    (hs : a.eval s = .slice (some ⟨g, 0, none⟩) n cap) (hown : w.ownsRow base 53 6 (.slice (some ⟨g, 0, none⟩) n cap) n (rcells xs))
    (sa : Option Addr) (m c : Nat) (ys : List Rw) (hx : a.eval x = .slice sa m c) (hr : RRow w sa m c ys) (hn : n + m ≤ 1000000) (hbase : base ≤ w.heap.size) (N : Nat) (hN : n + m = N) (zs : List Rw) (hz : xs ++ ys = zs)
    (h : ∀ g' cap' w', w'.ownsRow base 53 6 (.slice (some ⟨g', 0, none⟩) N cap') N (rcells zs) → w.grownBy w' (some g) → wpList Try.prog ops Q rest (a.put o.dst (.slice (some ⟨g', 0, none⟩) N cap')) w') : wpList Try.prog ops Q (o :: rest) a w := by
  subst hN
  subst hz
  exact append_rrow hgd s x ho base g n cap xs hs hown sa m c ys hx hr hn hbase h
theorem many_12 (t : Bool) (M : Int) (h : (if t then 2 else 1) = M) : M = 1 ∨ M = 2 := by cases t <;> simp at h <;> omega

set_option maxHeartbeats 64000000 in
theorem joins_walk (t : Bool) (a b : Option Addr) (n c m d : Nat) (l u : List Rw) (w : World) (hl : RRow w a n c l) (hu : RRow w b m d u) (hkl : ∀ r ∈ l, rok r) (hku : ∀ r ∈ u, rok r) :
    Calls Try.prog 4 #[.bool t, .slice a n c, .slice b m d] w fun e w' => e = .returned (.bool true) ∧ Below w.heap.size w w' := by
  have HL := hid hl
  have HU := hid hu
  have KL := hid hkl
  have KU := hid hku
  obtain ⟨l1, l2⟩ := hl.lens
  obtain ⟨u1, u2⟩ := hu.lens
  have EL := hid l1
  have EU := hid u1
  clear hl hu hkl hku l1 u1
  by_cases hbig : 60 < n ∨ 60 < m
  · by_cases h1 : 60 < n
    · have hd1 : decide ((60 : Int) < (n : Int)) = true := decide_eq_true (by omega)
      have hi1 : (60 : Int) < (n : Int) := by omega
      clear hbig
      go_enter Try.func4, Try.ntmps4
      go_wp2_with (go_at_call 15; refine (wakes_any _).mono ?_; rintro e wa ⟨rfl, hba⟩)
      go_ret
      exact ⟨rfl, hba⟩
    · have hd1 : decide ((60 : Int) < (n : Int)) = false := decide_eq_false (by omega)
      have hd2 : decide ((60 : Int) < (m : Int)) = true := decide_eq_true (by omega)
      have hi2 : (60 : Int) < (m : Int) := by omega
      clear hbig
      go_enter Try.func4, Try.ntmps4
      go_wp2_with (go_at_call 15; refine (wakes_any _).mono ?_; rintro e wa ⟨rfl, hba⟩)
      go_ret
      exact ⟨rfl, hba⟩
  · have hd1 : decide ((60 : Int) < (n : Int)) = false := decide_eq_false (by omega)
    have hd2 : decide ((60 : Int) < (m : Int)) = false := decide_eq_false (by omega)
    have nb : n ≤ 60 := by omega
    have mb : m ≤ 60 := by omega
    have n1 : n ≤ 1000 := by omega
    have m1 : m ≤ 1000 := by omega
    obtain ⟨M, hM⟩ : ∃ y : Int, (if t then (2 : Int) else 1) = y := ⟨_, rfl⟩
    have HM := hid hM
    have M12 := hid (many_12 t M hM)
    obtain ⟨C1, hC1⟩ : ∃ y, ofC M l = y := ⟨_, rfl⟩
    obtain ⟨C2, hC2⟩ : ∃ y, ofC M u = y := ⟨_, rfl⟩
    obtain ⟨C3, hC3⟩ : ∃ y, ofC M (l ++ u) = y := ⟨_, rfl⟩
    obtain ⟨v1, hv1⟩ : ∃ y, ofB M l = y := ⟨_, rfl⟩
    obtain ⟨v2, hv2⟩ : ∃ y, ofB M u = y := ⟨_, rfl⟩
    obtain ⟨v3, hv3⟩ : ∃ y, ofB M (l ++ u) = y := ⟨_, rfl⟩
    have E1 := hid hC1
    have E2 := hid hC2
    have E3 := hid hC3
    have G1 := hid hv1
    have G2 := hid hv2
    have G3 := hid hv3
    have O1 : Hid (okc C1) := hid (by rw [← hC1]; exact ofC_ok KL.out (by have := EL.out; omega))
    have O2 : Hid (okc C2) := hid (by rw [← hC2]; exact ofC_ok KU.out (by have := EU.out; omega))
    have len1 : C1.b0.length ≤ 60 ∧ C1.b1.length ≤ 60 := by rw [← hC1]; have := ofC_len M l; have := EL.out; omega
    have len2 : C2.b0.length ≤ 60 ∧ C2.b1.length ≤ 60 := by rw [← hC2]; have := ofC_len M u; have := EU.out; omega
    have L1 := hid len1
    have L2 := hid len2
    have K3r : Hid (∀ r ∈ l ++ u, rok r) := hid (fun r hr => by
      rcases List.mem_append.1 hr with h | h
      · exact KL.out r h
      · exact KU.out r h)
    clear hM hC1 hC2 hC3 hv1 hv2 hv3 len1 len2 hbig
    have tk1 : True := trivial
    go_enter Try.func4, Try.ntmps4
    go_upto_region 5 with (first
      | (go_at_call 26; refine (many_m t M _ HM).mono ?_; rintro e w1 ⟨rfl, hw⟩; have hw2 := hw.symm; clear hw; subst hw2)
      | (go_at_call 17; refine (cof_m M _ _ _ l C1 v1 _ HL.out KL.out n1 E1 G1).mono ?_; rintro e w2 ⟨⟨a0, p0, k0, a1, p1, k1, rfl, hcw⟩, hb⟩; have X1 := hid hcw; have B2 := hid hb; clear hcw hb))
    have K1 : Hid (Kp w (w2.alloc (.cells #[.int .i64 C1.n, .int .i64 C1.s0, .int .i64 C1.s1, .slice a0 p0 k0, .slice a1 p1 k1] 26)) w2.heap.size (.cells #[.int .i64 C1.n, .int .i64 C1.s0, .int .i64 C1.s1, .slice a0 p0 k0, .slice a1 p1 k1] 26)) := hid (kp_new2 B2.out _ _ rfl)
    replace X1 := hid (X1.out.below (b1alloc w2 (.cells #[.int .i64 C1.n, .int .i64 C1.s0, .int .i64 C1.s1, .slice a0 p0 k0, .slice a1 p1 k1] 26)))
    clear B2
    generalize w2.alloc (.cells #[.int .i64 C1.n, .int .i64 C1.s0, .int .i64 C1.s1, .slice a0 p0 k0, .slice a1 p1 k1] 26) = W2 at K1 X1 ⊢
    generalize w2.heap.size = N1 at K1 ⊢
    go_upto_region 6 with (go_at_call 17; refine (cof_m M _ _ _ u C2 v2 _ (HU.out.below K1.out.1) KU.out m1 E2 G2).mono ?_; rintro e w3 ⟨⟨b0, q0, j0, b1, q1, j1, rfl, hcw⟩, hb⟩; have X2 := hid hcw; replace X1 := hid (X1.out.below hb); replace K1 := hid (K1.out.step hb); clear hcw hb)
    have K2 : Hid (Kp w (w3.alloc (.cells #[.int .i64 C2.n, .int .i64 C2.s0, .int .i64 C2.s1, .slice b0 q0 j0, .slice b1 q1 j1] 26)) w3.heap.size (.cells #[.int .i64 C2.n, .int .i64 C2.s0, .int .i64 C2.s1, .slice b0 q0 j0, .slice b1 q1 j1] 26)) := hid (kp_new2 K1.out.1 _ _ rfl)
    replace K1 := hid (kp_alloc K1.out (.cells #[.int .i64 C2.n, .int .i64 C2.s0, .int .i64 C2.s1, .slice b0 q0 j0, .slice b1 q1 j1] 26))
    replace X1 := hid (X1.out.below (b1alloc w3 (.cells #[.int .i64 C2.n, .int .i64 C2.s0, .int .i64 C2.s1, .slice b0 q0 j0, .slice b1 q1 j1] 26)))
    replace X2 := hid (X2.out.below (b1alloc w3 (.cells #[.int .i64 C2.n, .int .i64 C2.s0, .int .i64 C2.s1, .slice b0 q0 j0, .slice b1 q1 j1] 26)))
    generalize w3.alloc (.cells #[.int .i64 C2.n, .int .i64 C2.s0, .int .i64 C2.s1, .slice b0 q0 j0, .slice b1 q1 j1] 26) = W3 at K1 K2 X1 X2 ⊢
    generalize w3.heap.size = N2 at K2 ⊢
    have hge := K1.out.1.size
    have HGE := hid hge
    clear hge
    go_upto_region 7 with (first
      | (at_builtin; refine append_rn rfl (.tmp 43) (.tmp 44) rfl W3.heap.size W3.heap.size 0 0 [] rfl (rown_at W3 W3.heap.size _ rfl (Nat.le_refl _)) a n c l rfl (HL.out.below (bt K1.out.1 (b1alloc W3 (.cells #[] 53)))) (by omega) (by simp) n (by omega) l (by simp) ?_; intro g1 cap1 w4 ho4 hg4; have O4 := hid ho4; have B4 := hid (grow_below (base := W3.heap.size) hg4 (by simp) (fun k hk => by cases hk; exact Nat.le_refl _)); have BW4 : Hid (Below W3.heap.size W3 w4) := hid ((b1alloc W3 (.cells #[] 53)).trans B4.out); clear ho4 hg4)
      | (at_builtin; refine append_rn rfl (.tmp 45) (.tmp 46) rfl W3.heap.size g1 n cap1 l rfl O4.out b m d u rfl (HU.out.below (bt K1.out.1 BW4.out)) (by omega) BW4.out.size (n + m) rfl (l ++ u) rfl ?_; intro g2 cap2 w5 ho5 hg5; have R5 := hid (own_rrow ho5); have B5 := hid (grow_below (base := W3.heap.size) hg5 BW4.out.size (fun k hk => by cases hk; exact (O4.out.lt g1 rfl).1)); have BW5 : Hid (Below W3.heap.size W3 w5) := hid (BW4.out.trans B5.out); clear ho5 hg5)
      | (go_at_call 17; refine (cof_m M _ _ _ (l ++ u) C3 v3 _ R5.out K3r.out (by omega) E3 G3).mono ?_; rintro e w6 ⟨⟨e0, r0, h0, e1, r1, h1, rfl, hcw⟩, hb⟩; have X3 := hid hcw; replace X1 := hid ((X1.out.below BW5.out).below hb); replace X2 := hid ((X2.out.below BW5.out).below hb); replace K1 := hid ((K1.out.step BW5.out).step hb); replace K2 := hid ((K2.out.step BW5.out).step hb); clear hcw hb))
    have K3 : Hid (Kp w (w6.alloc (.cells #[.int .i64 C3.n, .int .i64 C3.s0, .int .i64 C3.s1, .slice e0 r0 h0, .slice e1 r1 h1] 26)) w6.heap.size (.cells #[.int .i64 C3.n, .int .i64 C3.s0, .int .i64 C3.s1, .slice e0 r0 h0, .slice e1 r1 h1] 26)) := hid (kp_new2 K1.out.1 _ _ rfl)
    replace K1 := hid (kp_alloc K1.out (.cells #[.int .i64 C3.n, .int .i64 C3.s0, .int .i64 C3.s1, .slice e0 r0 h0, .slice e1 r1 h1] 26))
    replace K2 := hid (kp_alloc K2.out (.cells #[.int .i64 C3.n, .int .i64 C3.s0, .int .i64 C3.s1, .slice e0 r0 h0, .slice e1 r1 h1] 26))
    replace X1 := hid (X1.out.below (b1alloc w6 (.cells #[.int .i64 C3.n, .int .i64 C3.s0, .int .i64 C3.s1, .slice e0 r0 h0, .slice e1 r1 h1] 26)))
    replace X2 := hid (X2.out.below (b1alloc w6 (.cells #[.int .i64 C3.n, .int .i64 C3.s0, .int .i64 C3.s1, .slice e0 r0 h0, .slice e1 r1 h1] 26)))
    replace X3 := hid (X3.out.below (b1alloc w6 (.cells #[.int .i64 C3.n, .int .i64 C3.s0, .int .i64 C3.s1, .slice e0 r0 h0, .slice e1 r1 h1] 26)))
    clear O4 B4 BW4 R5 B5 BW5 HGE
    generalize w6.alloc (.cells #[.int .i64 C3.n, .int .i64 C3.s0, .int .i64 C3.s1, .slice e0 r0 h0, .slice e1 r1 h1] 26) = W6 at K1 K2 K3 X1 X2 X3 ⊢
    generalize w6.heap.size = N3 at K3 ⊢
    have P1 := hid (cw_len X1.out)
    have P2 := hid (cw_len X2.out)
    by_cases hpq : v1 = true ∧ v2 = true
    · obtain ⟨rfl, rfl⟩ := hpq
      have hJ := join_of G1.out G2.out (by have := EL.out; omega) (by have := EU.out; omega)
      have JB : Hid (cjB M C1 C2 = v3) := hid (by rw [← E1.out, ← E2.out, hJ.1]; exact G3.out)
      have JC : Hid (cjC M C1 C2 = C3) := hid (by rw [← E1.out, ← E2.out, hJ.2]; exact E3.out)
      have JB2 : Hid (cjB M C2 C1 = v3) := hid (by rw [cjB_comm]; exact JB.out)
      have JC2 : Hid (cjC M C2 C1 = C3) := hid (by rw [cjC_comm]; exact JC.out)
      have v33 : (v3 == v3) = true := by simp
      clear hJ
      obtain ⟨c0, c1, c2, c3, c4⟩ := box_five K1.out.2.2
      obtain ⟨d0, d1, d2, d3, d4⟩ := box_five K2.out.2.2
      go_upto_region 9 with (go_at_call 23; refine (cjoin_m M C1 C2 _ _ _ _ _ _ _ _ _ _ _ _ C3 v3 _ X1.out X2.out O1.out O2.out (by have := P1.out; have := P2.out; have := L1.out; have := L2.out; omega) JC JB).mono ?_; rintro e w7 ⟨⟨f0, s0, i0, f1, s1, i1, rfl, hcw⟩, hb⟩; have X4 := hid hcw; replace K1 := hid (K1.out.step hb); replace K2 := hid (K2.out.step hb); replace K3 := hid (K3.out.step hb); replace X1 := hid (X1.out.below hb); replace X2 := hid (X2.out.below hb); replace X3 := hid (X3.out.below hb); clear hcw hb c0 c1 c2 c3 c4 d0 d1 d2 d3 d4)
      have K4 : Hid (Kp w (w7.alloc (.cells #[.int .i64 C3.n, .int .i64 C3.s0, .int .i64 C3.s1, .slice f0 s0 i0, .slice f1 s1 i1] 26)) w7.heap.size (.cells #[.int .i64 C3.n, .int .i64 C3.s0, .int .i64 C3.s1, .slice f0 s0 i0, .slice f1 s1 i1] 26)) := hid (kp_new2 K1.out.1 _ _ rfl)
      replace K1 := hid (kp_alloc K1.out (.cells #[.int .i64 C3.n, .int .i64 C3.s0, .int .i64 C3.s1, .slice f0 s0 i0, .slice f1 s1 i1] 26))
      replace K2 := hid (kp_alloc K2.out (.cells #[.int .i64 C3.n, .int .i64 C3.s0, .int .i64 C3.s1, .slice f0 s0 i0, .slice f1 s1 i1] 26))
      replace K3 := hid (kp_alloc K3.out (.cells #[.int .i64 C3.n, .int .i64 C3.s0, .int .i64 C3.s1, .slice f0 s0 i0, .slice f1 s1 i1] 26))
      replace X1 := hid (X1.out.below (b1alloc w7 (.cells #[.int .i64 C3.n, .int .i64 C3.s0, .int .i64 C3.s1, .slice f0 s0 i0, .slice f1 s1 i1] 26)))
      replace X2 := hid (X2.out.below (b1alloc w7 (.cells #[.int .i64 C3.n, .int .i64 C3.s0, .int .i64 C3.s1, .slice f0 s0 i0, .slice f1 s1 i1] 26)))
      replace X3 := hid (X3.out.below (b1alloc w7 (.cells #[.int .i64 C3.n, .int .i64 C3.s0, .int .i64 C3.s1, .slice f0 s0 i0, .slice f1 s1 i1] 26)))
      replace X4 := hid (X4.out.below (b1alloc w7 (.cells #[.int .i64 C3.n, .int .i64 C3.s0, .int .i64 C3.s1, .slice f0 s0 i0, .slice f1 s1 i1] 26)))
      generalize w7.alloc (.cells #[.int .i64 C3.n, .int .i64 C3.s0, .int .i64 C3.s1, .slice f0 s0 i0, .slice f1 s1 i1] 26) = W7 at K1 K2 K3 K4 X1 X2 X3 X4 ⊢
      generalize w7.heap.size = N4 at K4 ⊢
      obtain ⟨c0, c1, c2, c3, c4⟩ := box_five K1.out.2.2
      obtain ⟨d0, d1, d2, d3, d4⟩ := box_five K2.out.2.2
      go_upto_region 10 with (go_at_call 23; refine (cjoin_m M C2 C1 _ _ _ _ _ _ _ _ _ _ _ _ C3 v3 _ X2.out X1.out O2.out O1.out (by have := P1.out; have := P2.out; have := L1.out; have := L2.out; omega) JC2 JB2).mono ?_; rintro e w8 ⟨⟨g0, t0, l0, g1, t1, l1, rfl, hcw⟩, hb⟩; have X5 := hid hcw; replace K1 := hid (K1.out.step hb); replace K2 := hid (K2.out.step hb); replace K3 := hid (K3.out.step hb); replace K4 := hid (K4.out.step hb); replace X1 := hid (X1.out.below hb); replace X2 := hid (X2.out.below hb); replace X3 := hid (X3.out.below hb); replace X4 := hid (X4.out.below hb); clear hcw hb c0 c1 c2 c3 c4 d0 d1 d2 d3 d4)
      have K5 : Hid (Kp w (w8.alloc (.cells #[.int .i64 C3.n, .int .i64 C3.s0, .int .i64 C3.s1, .slice g0 t0 l0, .slice g1 t1 l1] 26)) w8.heap.size (.cells #[.int .i64 C3.n, .int .i64 C3.s0, .int .i64 C3.s1, .slice g0 t0 l0, .slice g1 t1 l1] 26)) := hid (kp_new2 K1.out.1 _ _ rfl)
      replace K1 := hid (kp_alloc K1.out (.cells #[.int .i64 C3.n, .int .i64 C3.s0, .int .i64 C3.s1, .slice g0 t0 l0, .slice g1 t1 l1] 26))
      replace K2 := hid (kp_alloc K2.out (.cells #[.int .i64 C3.n, .int .i64 C3.s0, .int .i64 C3.s1, .slice g0 t0 l0, .slice g1 t1 l1] 26))
      replace K3 := hid (kp_alloc K3.out (.cells #[.int .i64 C3.n, .int .i64 C3.s0, .int .i64 C3.s1, .slice g0 t0 l0, .slice g1 t1 l1] 26))
      replace K4 := hid (kp_alloc K4.out (.cells #[.int .i64 C3.n, .int .i64 C3.s0, .int .i64 C3.s1, .slice g0 t0 l0, .slice g1 t1 l1] 26))
      replace X1 := hid (X1.out.below (b1alloc w8 (.cells #[.int .i64 C3.n, .int .i64 C3.s0, .int .i64 C3.s1, .slice g0 t0 l0, .slice g1 t1 l1] 26)))
      replace X2 := hid (X2.out.below (b1alloc w8 (.cells #[.int .i64 C3.n, .int .i64 C3.s0, .int .i64 C3.s1, .slice g0 t0 l0, .slice g1 t1 l1] 26)))
      replace X3 := hid (X3.out.below (b1alloc w8 (.cells #[.int .i64 C3.n, .int .i64 C3.s0, .int .i64 C3.s1, .slice g0 t0 l0, .slice g1 t1 l1] 26)))
      replace X4 := hid (X4.out.below (b1alloc w8 (.cells #[.int .i64 C3.n, .int .i64 C3.s0, .int .i64 C3.s1, .slice g0 t0 l0, .slice g1 t1 l1] 26)))
      replace X5 := hid (X5.out.below (b1alloc w8 (.cells #[.int .i64 C3.n, .int .i64 C3.s0, .int .i64 C3.s1, .slice g0 t0 l0, .slice g1 t1 l1] 26)))
      generalize w8.alloc (.cells #[.int .i64 C3.n, .int .i64 C3.s0, .int .i64 C3.s1, .slice g0 t0 l0, .slice g1 t1 l1] 26) = W8 at K1 K2 K3 K4 K5 X1 X2 X3 X4 X5 ⊢
      generalize w8.heap.size = N5 at K5 ⊢
      obtain ⟨cc0, cc1, cc2, cc3, cc4⟩ := box_five K3.out.2.2
      obtain ⟨cd0, cd1, cd2, cd3, cd4⟩ := box_five K4.out.2.2
      obtain ⟨ce0, ce1, ce2, ce3, ce4⟩ := box_five K5.out.2.2
      go_wp2_with (first
        | (go_at_call 25; clear tk1; refine (csame_m C3 C3 _ _ _ _ _ _ _ _ _ _ _ _ true _ X4.out X3.out (hid (csm_self _))).mono ?_; rintro e w9 ⟨rfl, hb⟩; replace K1 := hid (K1.out.step hb); replace K2 := hid (K2.out.step hb); replace K3 := hid (K3.out.step hb); replace K4 := hid (K4.out.step hb); replace K5 := hid (K5.out.step hb); replace X1 := hid (X1.out.below hb); replace X2 := hid (X2.out.below hb); replace X3 := hid (X3.out.below hb); replace X4 := hid (X4.out.below hb); replace X5 := hid (X5.out.below hb); obtain ⟨cc0, cc1, cc2, cc3, cc4⟩ := box_five K3.out.2.2; obtain ⟨cd0, cd1, cd2, cd3, cd4⟩ := box_five K4.out.2.2; obtain ⟨ce0, ce1, ce2, ce3, ce4⟩ := box_five K5.out.2.2; clear hb)
        | (go_at_call 25; refine (csame_m C3 C3 _ _ _ _ _ _ _ _ _ _ _ _ true _ X5.out X3.out (hid (csm_self _))).mono ?_; rintro e w10 ⟨rfl, hb⟩; replace K1 := hid (K1.out.step hb); replace K2 := hid (K2.out.step hb); replace K3 := hid (K3.out.step hb); replace K4 := hid (K4.out.step hb); replace K5 := hid (K5.out.step hb); replace X1 := hid (X1.out.below hb); replace X2 := hid (X2.out.below hb); replace X3 := hid (X3.out.below hb); replace X4 := hid (X4.out.below hb); replace X5 := hid (X5.out.below hb); clear hb)
        | (go_at_call 15; refine (wakes_any _).mono ?_; rintro e w11 ⟨rfl, hb⟩; replace K1 := hid (K1.out.step hb); clear hb))
      go_ret
      exact ⟨rfl, K1.out.1⟩
    · have hww : Hid (n = 0 → v1 = false ∧ v2 = v3 ∧ C2 = C3) := hid (fun h => by
        have e : l = [] := List.length_eq_zero_iff.mp (by have := EL.out; omega)
        have a1 := G1.out; have a2 := G2.out; have a3 := G3.out; have b2 := E2.out; have b3 := E3.out
        rw [e] at a1 a3 b3
        rw [ofB_e] at a1
        simp only [List.nil_append] at a3 b3
        exact ⟨a1.symm, a2.symm.trans a3, b2.symm.trans b3⟩)
      have hwv : Hid (m = 0 → v2 = false ∧ v1 = v3 ∧ C1 = C3) := hid (fun h => by
        have e : u = [] := List.length_eq_zero_iff.mp (by have := EU.out; omega)
        have a1 := G1.out; have a2 := G2.out; have a3 := G3.out; have b1 := E1.out; have b3 := E3.out
        rw [e] at a2 a3 b3
        rw [ofB_e] at a2
        simp only [List.append_nil] at a3 b3
        exact ⟨a2.symm, a1.symm.trans a3, b1.symm.trans b3⟩)
      by_cases hn0 : n = 0
      · obtain ⟨x1, x2, x3⟩ := hww.out hn0
        have nt : ((n : Int) == 0) = true := by simp [hn0]
        have nt2 : (n == 0) = true := by simp [hn0]
        have v23 : (v2 != v3) = false := by rw [x2]; simp
        have SM := hid (csm_iff.2 x3)
        by_cases hm0 : m = 0
        · obtain ⟨y1, y2, y3⟩ := hwv.out hm0
          have mt : ((m : Int) == 0) = true := by simp [hm0]
          have mt2 : (m == 0) = true := by simp [hm0]
          have v13 : (v1 != v3) = false := by rw [y2]; simp
          have SN := hid (csm_iff.2 y3)
          have x4 : v3 = false := x2.symm.trans y1
          clear hn0 hm0 hww hwv x2 x3 y2 y3 hpq v23 v13
          subst x1
          subst y1
          subst x4
          obtain ⟨cc0, cc1, cc2, cc3, cc4⟩ := box_five K1.out.2.2
          obtain ⟨cd0, cd1, cd2, cd3, cd4⟩ := box_five K2.out.2.2
          obtain ⟨ce0, ce1, ce2, ce3, ce4⟩ := box_five K3.out.2.2
          go_wp2_with (first
            | (go_at_call 25; clear tk1; refine (csame_m C2 C3 _ _ _ _ _ _ _ _ _ _ _ _ true _ X2.out X3.out SM).mono ?_; rintro e w9 ⟨rfl, hb⟩; replace K1 := hid (K1.out.step hb); replace K2 := hid (K2.out.step hb); replace K3 := hid (K3.out.step hb); replace X1 := hid (X1.out.below hb); replace X2 := hid (X2.out.below hb); replace X3 := hid (X3.out.below hb); obtain ⟨cc0, cc1, cc2, cc3, cc4⟩ := box_five K1.out.2.2; obtain ⟨cd0, cd1, cd2, cd3, cd4⟩ := box_five K2.out.2.2; obtain ⟨ce0, ce1, ce2, ce3, ce4⟩ := box_five K3.out.2.2; clear hb)
            | (go_at_call 25; refine (csame_m C1 C3 _ _ _ _ _ _ _ _ _ _ _ _ true _ X1.out X3.out SN).mono ?_; rintro e w10 ⟨rfl, hb⟩; replace K1 := hid (K1.out.step hb); replace K2 := hid (K2.out.step hb); replace K3 := hid (K3.out.step hb); replace X1 := hid (X1.out.below hb); replace X2 := hid (X2.out.below hb); replace X3 := hid (X3.out.below hb); clear hb)
            | (go_at_call 15; refine (wakes_any _).mono ?_; rintro e w11 ⟨rfl, hb⟩; replace K1 := hid (K1.out.step hb); clear hb))
          go_ret
          exact ⟨rfl, K1.out.1⟩
        · have mt : ((m : Int) == 0) = false := by simp; omega
          have mt2 : (m == 0) = false := by simp; omega
          clear hn0 hm0 hww hwv x3 hpq v23
          subst x1
          subst x2
          have v22 : (v2 != v2) = false := by simp
          obtain ⟨cc0, cc1, cc2, cc3, cc4⟩ := box_five K1.out.2.2
          obtain ⟨cd0, cd1, cd2, cd3, cd4⟩ := box_five K2.out.2.2
          obtain ⟨ce0, ce1, ce2, ce3, ce4⟩ := box_five K3.out.2.2
          go_wp2_with (first
            | (go_at_call 25; refine (csame_m C2 C3 _ _ _ _ _ _ _ _ _ _ _ _ true _ X2.out X3.out SM).mono ?_; rintro e w9 ⟨rfl, hb⟩; replace K1 := hid (K1.out.step hb); replace K2 := hid (K2.out.step hb); replace K3 := hid (K3.out.step hb); replace X1 := hid (X1.out.below hb); replace X2 := hid (X2.out.below hb); replace X3 := hid (X3.out.below hb); clear hb)
            | (go_at_call 15; refine (wakes_any _).mono ?_; rintro e w11 ⟨rfl, hb⟩; replace K1 := hid (K1.out.step hb); clear hb))
          go_ret
          exact ⟨rfl, K1.out.1⟩
      · have nt : ((n : Int) == 0) = false := by simp; omega
        have nt2 : (n == 0) = false := by simp; omega
        by_cases hm0 : m = 0
        · obtain ⟨y1, y2, y3⟩ := hwv.out hm0
          have mt : ((m : Int) == 0) = true := by simp [hm0]
          have mt2 : (m == 0) = true := by simp [hm0]
          have v13 : (v1 != v3) = false := by rw [y2]; simp
          have SN := hid (csm_iff.2 y3)
          clear hn0 hm0 hww hwv y3 hpq v13
          subst y1
          subst y2
          obtain ⟨cc0, cc1, cc2, cc3, cc4⟩ := box_five K1.out.2.2
          obtain ⟨cd0, cd1, cd2, cd3, cd4⟩ := box_five K2.out.2.2
          obtain ⟨ce0, ce1, ce2, ce3, ce4⟩ := box_five K3.out.2.2
          cases v1 with
          | false =>
            go_wp2_with (first
              | (go_at_call 25; refine (csame_m C1 C3 _ _ _ _ _ _ _ _ _ _ _ _ true _ X1.out X3.out SN).mono ?_; rintro e w10 ⟨rfl, hb⟩; replace K1 := hid (K1.out.step hb); replace K2 := hid (K2.out.step hb); replace K3 := hid (K3.out.step hb); replace X1 := hid (X1.out.below hb); replace X2 := hid (X2.out.below hb); replace X3 := hid (X3.out.below hb); clear hb)
              | (go_at_call 15; refine (wakes_any _).mono ?_; rintro e w11 ⟨rfl, hb⟩; replace K1 := hid (K1.out.step hb); clear hb))
            go_ret
            exact ⟨rfl, K1.out.1⟩
          | true =>
            go_wp2_with (first
              | (go_at_call 25; refine (csame_m C1 C3 _ _ _ _ _ _ _ _ _ _ _ _ true _ X1.out X3.out SN).mono ?_; rintro e w10 ⟨rfl, hb⟩; replace K1 := hid (K1.out.step hb); replace K2 := hid (K2.out.step hb); replace K3 := hid (K3.out.step hb); replace X1 := hid (X1.out.below hb); replace X2 := hid (X2.out.below hb); replace X3 := hid (X3.out.below hb); clear hb)
              | (go_at_call 15; refine (wakes_any _).mono ?_; rintro e w11 ⟨rfl, hb⟩; replace K1 := hid (K1.out.step hb); clear hb))
            go_ret
            exact ⟨rfl, K1.out.1⟩
        · have mt : ((m : Int) == 0) = false := by simp; omega
          have mt2 : (m == 0) = false := by simp; omega
          clear hn0 hm0 hww hwv
          cases v1 with
          | false =>
            go_wp2_with (go_at_call 15; refine (wakes_any _).mono ?_; rintro e w11 ⟨rfl, hb⟩; replace K1 := hid (K1.out.step hb); clear hb)
            go_ret
            exact ⟨rfl, K1.out.1⟩
          | true =>
            cases v2 with
            | true => exact absurd ⟨rfl, rfl⟩ hpq
            | false =>
              go_wp2_with (go_at_call 15; refine (wakes_any _).mono ?_; rintro e w11 ⟨rfl, hb⟩; replace K1 := hid (K1.out.step hb); clear hb)
              go_ret
              exact ⟨rfl, K1.out.1⟩

end Go.Proofs.Ytgmnnpecihcdhaa

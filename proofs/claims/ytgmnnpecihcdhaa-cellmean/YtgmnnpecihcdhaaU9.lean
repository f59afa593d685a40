/-
  Averages, held against each other: the walk of the law CellMean.
  Conditions: as each theorem states them.
-/
import Derived.Test.YtgmnnpecihcdhaaT9
namespace Go.Proofs.Ytgmnnpecihcdhaa
open Go.ChangeShapes Go.WideShapes Go.ChangeAt Go.RowKit
set_option linter.unusedVariables false
set_option linter.unusedSimpArgs false
set_option maxRecDepth 100000

theorem bounds_u16 {n : Int} (h : (Lit.int .u16 n).wf = true) : 0 ≤ n ∧ n ≤ 65535 := by
  simp [Lit.wf, IntKind.min, IntKind.max, IntKind.signed, IntKind.bits] at h; omega
theorem bounds_i32 {n : Int} (h : (Lit.int .i32 n).wf = true) : -2147483648 ≤ n ∧ n ≤ 2147483647 := by
  simp [Lit.wf, IntKind.min, IntKind.max, IntKind.signed, IntKind.bits] at h; omega
theorem mul_bds {a b A B : Int} (ha : -A ≤ a ∧ a ≤ A) (hb : 0 ≤ b ∧ b ≤ B) (hA : 0 ≤ A) : -(A * B) ≤ a * b ∧ a * b ≤ A * B := mul_abs ha hb hA
theorem okl5 {n s : Int} (hn : I64 n) (hs : I64 s) : okl ⟨n, s, 0, 0, 0, 0, 0⟩ := ⟨hn, ⟨hs, calc.i64_0⟩, ⟨calc.i64_0, calc.i64_0⟩, calc.i64_0, calc.i64_0⟩
theorem mean_facts {s n f N P S : Int} (hN : 1 ≤ N) (hf : 1 ≤ f) (hP : N * f = P) (hS : s * f = S) :
    av 5 0 ⟨N, s, 0, 0, 0, 0, 0⟩ ⟨P, S, 0, 0, 0, 0, 0⟩ = 0 ∧ av 5 0 ⟨N, s, 0, 0, 0, 0, 0⟩ ⟨P, S + 1, 0, 0, 0, 0, 0⟩ = 1 ∧ av 5 0 ⟨P, S + 1, 0, 0, 0, 0, 0⟩ ⟨N, s, 0, 0, 0, 0, 0⟩ = -1 ∧ av 5 0 ⟨P, S, 0, 0, 0, 0, 0⟩ ⟨P, S + 1, 0, 0, 0, 0, 0⟩ = 1 := by
  have hP1 : 1 ≤ P := by
    have := Int.mul_le_mul hN hf (by omega) (by omega)
    omega
  have e1 : mx1 N = N := by unfold mx1; omega
  have e2 : mx1 P = P := by unfold mx1; omega
  have k1 : S * N = s * P := by rw [← hS, ← hP, Int.mul_assoc, Int.mul_comm f N]
  have k2 : (S + 1) * N = s * P + N := by rw [Int.add_mul, k1, Int.one_mul]
  have k3 : (S + 1) * P = S * P + P := by rw [Int.add_mul, Int.one_mul]
  refine ⟨?_, ?_, ?_, ?_⟩ <;> rw [av_50] <;> simp only [e1, e2]
  · rw [k1]; exact calc.sg_self _
  · rw [k2]; exact calc.sg_gt (by omega)
  · rw [k2]; exact calc.sg_lt (by omega)
  · rw [k3]; exact calc.sg_gt (by omega)
set_option maxHeartbeats 32000000 in
theorem mean_walk (s n t : Int) (w : World) (hs : -2147483648 ≤ s ∧ s ≤ 2147483647) (hn : 0 ≤ n ∧ n ≤ 65535) (ht : 0 ≤ t ∧ t ≤ 65535) :
    Calls Try.prog 7 #[.int .i32 s, .int .u16 n, .int .u16 t] w fun e w' => e = .returned (.bool true) ∧ Below w.heap.size w w' := by
  obtain ⟨s1, s2⟩ := hs
  obtain ⟨n1, n2⟩ := hn
  obtain ⟨t1, t2⟩ := ht
  obtain ⟨f, hf⟩ : ∃ y, t + 1 = y := ⟨_, rfl⟩
  obtain ⟨N, hN⟩ : ∃ y, n + 1 = y := ⟨_, rfl⟩
  obtain ⟨P, hP⟩ : ∃ y, N * f = y := ⟨_, rfl⟩
  obtain ⟨S, hS⟩ : ∃ y, s * f = y := ⟨_, rfl⟩
  have f1 : 1 ≤ f ∧ f ≤ 65536 := by omega
  have N1 : 1 ≤ N ∧ N ≤ 65536 := by omega
  have bP := mul_bds (a := N) (b := f) (A := 65536) (B := 65536) (by omega) (by omega) (by omega)
  have bS := mul_bds (a := s) (b := f) (A := 2147483648) (B := 65536) (by omega) (by omega) (by omega)
  rw [hP] at bP
  rw [hS] at bS
  have HM := hid (mean_facts (n := n) N1.1 f1.1 hP hS)
  have wt : IntKind.i64.wrap t = t := IntWalk.i64_in _ (by omega)
  have wn : IntKind.i64.wrap n = n := IntWalk.i64_in _ (by omega)
  have ws : IntKind.i64.wrap s = s := IntWalk.i64_in _ (by omega)
  have wf : IntKind.i64.wrap (t + 1) = f := by rw [hf]; exact IntWalk.i64_in _ (by omega)
  have wN : IntKind.i64.wrap (n + 1) = N := by rw [hN]; exact IntWalk.i64_in _ (by omega)
  have wP : IntKind.i64.wrap (N * f) = P := by rw [hP]; exact IntWalk.i64_in _ (by omega)
  have wS : IntKind.i64.wrap (s * f) = S := by rw [hS]; exact IntWalk.i64_in _ (by omega)
  have wS1 : IntKind.i64.wrap (S + 1) = S + 1 := IntWalk.i64_in _ (by omega)
  have O1 : Hid (okl ⟨N, s, 0, 0, 0, 0, 0⟩) := hid (okl5 (by unfold I64; omega) (by unfold I64; omega))
  have O2 : Hid (okl ⟨P, S, 0, 0, 0, 0, 0⟩) := hid (okl5 (by unfold I64; omega) (by unfold I64; omega))
  have O3 : Hid (okl ⟨P, S + 1, 0, 0, 0, 0, 0⟩) := hid (okl5 (by unfold I64; omega) (by unfold I64; omega))
  have tk1 : True := trivial
  have tk2 : True := trivial
  have tk3 : True := trivial
  go_enter Try.func7, Try.ntmps7
  go_upto_region 3 with fail
  have K1 : Hid (Kp w (w.alloc (.cells #[.int .u8 0, .int .u8 0, .int .u8 0, .int .u8 0, .int .i64 N, .int .i64 0, .int .i64 0, .int .i64 0, .int .i64 0, .int .i64 0, .int .i64 0] 44)) w.heap.size (.cells #[.int .u8 0, .int .u8 0, .int .u8 0, .int .u8 0, .int .i64 N, .int .i64 0, .int .i64 0, .int .i64 0, .int .i64 0, .int .i64 0, .int .i64 0] 44)) := hid (kp_new w _)
  generalize w.alloc (.cells #[.int .u8 0, .int .u8 0, .int .u8 0, .int .u8 0, .int .i64 N, .int .i64 0, .int .i64 0, .int .i64 0, .int .i64 0, .int .i64 0, .int .i64 0] 44) = W1 at K1 ⊢
  have z := kp_cell (j := 5) (v := .int .i64 0) K1.out rfl
  have fz := kp_froz K1.out 5
  go_upto_region 4 with fail
  replace K1 : Hid (Kp w (W1.setCell ⟨w.heap.size, 5, none⟩ (.int .i64 s)) w.heap.size (.cells #[.int .u8 0, .int .u8 0, .int .u8 0, .int .u8 0, .int .i64 N, .int .i64 s, .int .i64 0, .int .i64 0, .int .i64 0, .int .i64 0, .int .i64 0] 44)) := hid (kp_set (j := 5) (v := .int .i64 s) K1.out)
  clear z fz
  generalize (W1.setCell ⟨w.heap.size, 5, none⟩ (.int .i64 s)) = W2 at K1 ⊢
  obtain ⟨a0, a1, a2, a3, a4, a5, a6, a7, a8, a9, a10⟩ := box_elf K1.out.2.2
  go_upto_region 5 with fail
  have K2 : Hid (Kp w (W2.alloc (.cells #[.int .u8 0, .int .u8 0, .int .u8 0, .int .u8 0, .int .i64 P, .int .i64 0, .int .i64 0, .int .i64 0, .int .i64 0, .int .i64 0, .int .i64 0] 44)) W2.heap.size (.cells #[.int .u8 0, .int .u8 0, .int .u8 0, .int .u8 0, .int .i64 P, .int .i64 0, .int .i64 0, .int .i64 0, .int .i64 0, .int .i64 0, .int .i64 0] 44)) := hid (kp_new2 K1.out.1 _ _ rfl)
  have hlt := heap_lt K1.out.2.2
  have hge := K1.out.1.size
  have HLT := hid hlt
  have HGE := hid hge
  replace K1 := hid (kp_alloc K1.out (.cells #[.int .u8 0, .int .u8 0, .int .u8 0, .int .u8 0, .int .i64 P, .int .i64 0, .int .i64 0, .int .i64 0, .int .i64 0, .int .i64 0, .int .i64 0] 44))
  clear a0 a1 a2 a3 a4 a5 a6 a7 a8 a9 a10 hlt hge
  generalize W2.alloc (.cells #[.int .u8 0, .int .u8 0, .int .u8 0, .int .u8 0, .int .i64 P, .int .i64 0, .int .i64 0, .int .i64 0, .int .i64 0, .int .i64 0, .int .i64 0] 44) = W3 at K1 K2 ⊢
  generalize W2.heap.size = B at K2 HLT HGE ⊢
  obtain ⟨a0, a1, a2, a3, a4, a5, a6, a7, a8, a9, a10⟩ := box_elf K1.out.2.2
  have z := kp_cell (j := 5) (v := .int .i64 0) K2.out rfl
  have fz := kp_froz K2.out 5
  go_upto_region 6 with fail
  replace K2 : Hid (Kp w (W3.setCell ⟨B, 5, none⟩ (.int .i64 S)) B (.cells #[.int .u8 0, .int .u8 0, .int .u8 0, .int .u8 0, .int .i64 P, .int .i64 S, .int .i64 0, .int .i64 0, .int .i64 0, .int .i64 0, .int .i64 0] 44)) := hid (kp_set (j := 5) (v := .int .i64 S) K2.out)
  replace K1 := hid (kp_other (j := 5) (v := .int .i64 S) K1.out (Nat.ne_of_lt HLT.out) HGE.out)
  clear z fz a0 a1 a2 a3 a4 a5 a6 a7 a8 a9 a10
  generalize (W3.setCell ⟨B, 5, none⟩ (.int .i64 S)) = W4 at K1 K2 ⊢
  obtain ⟨b0, b1, b2, b3, b4, b5, b6, b7, b8, b9, b10⟩ := box_elf K2.out.2.2
  go_upto_region 7 with fail
  have K3 : Hid (Kp w (W4.alloc (.cells #[.int .u8 0, .int .u8 0, .int .u8 0, .int .u8 0, .int .i64 P, .int .i64 S, .int .i64 0, .int .i64 0, .int .i64 0, .int .i64 0, .int .i64 0] 44)) W4.heap.size (.cells #[.int .u8 0, .int .u8 0, .int .u8 0, .int .u8 0, .int .i64 P, .int .i64 S, .int .i64 0, .int .i64 0, .int .i64 0, .int .i64 0, .int .i64 0] 44)) := hid (kp_new2 K1.out.1 _ _ rfl)
  have hlt1 := heap_lt K1.out.2.2
  have hlt2 := heap_lt K2.out.2.2
  have hge := K1.out.1.size
  have H1 := hid hlt1
  have H2 := hid hlt2
  have H3 := hid hge
  replace K1 := hid (kp_alloc K1.out (.cells #[.int .u8 0, .int .u8 0, .int .u8 0, .int .u8 0, .int .i64 P, .int .i64 S, .int .i64 0, .int .i64 0, .int .i64 0, .int .i64 0, .int .i64 0] 44))
  replace K2 := hid (kp_alloc K2.out (.cells #[.int .u8 0, .int .u8 0, .int .u8 0, .int .u8 0, .int .i64 P, .int .i64 S, .int .i64 0, .int .i64 0, .int .i64 0, .int .i64 0, .int .i64 0] 44))
  clear b0 b1 b2 b3 b4 b5 b6 b7 b8 b9 b10 hlt1 hlt2 hge
  generalize W4.alloc (.cells #[.int .u8 0, .int .u8 0, .int .u8 0, .int .u8 0, .int .i64 P, .int .i64 S, .int .i64 0, .int .i64 0, .int .i64 0, .int .i64 0, .int .i64 0] 44) = W5 at K1 K2 K3 ⊢
  generalize W4.heap.size = D at K3 H1 H2 H3 ⊢
  have z := kp_cell (j := 5) (v := .int .i64 S) K3.out rfl
  have fz := kp_froz K3.out 5
  go_upto_region 8 with fail
  replace K3 : Hid (Kp w (W5.setCell ⟨D, 5, none⟩ (.int .i64 (S + 1))) D (.cells #[.int .u8 0, .int .u8 0, .int .u8 0, .int .u8 0, .int .i64 P, .int .i64 (S + 1), .int .i64 0, .int .i64 0, .int .i64 0, .int .i64 0, .int .i64 0] 44)) := hid (kp_set (j := 5) (v := .int .i64 (S + 1)) K3.out)
  replace K1 := hid (kp_other (j := 5) (v := .int .i64 (S + 1)) K1.out (Nat.ne_of_lt H1.out) H3.out)
  replace K2 := hid (kp_other (j := 5) (v := .int .i64 (S + 1)) K2.out (Nat.ne_of_lt H2.out) H3.out)
  clear z fz
  generalize (W5.setCell ⟨D, 5, none⟩ (.int .i64 (S + 1))) = W6 at K1 K2 K3 ⊢
  clear wt wn ws wf wN wP wS wS1 bP bS hP hS hf hN f1 N1 s1 s2 n1 n2 t1 t2
  obtain ⟨a0, a1, a2, a3, a4, a5, a6, a7, a8, a9, a10⟩ := box_elf K1.out.2.2; obtain ⟨b0, b1, b2, b3, b4, b5, b6, b7, b8, b9, b10⟩ := box_elf K2.out.2.2; obtain ⟨c0, c1, c2, c3, c4, c5, c6, c7, c8, c9, c10⟩ := box_elf K3.out.2.2
  go_wp2_with (first
    | (go_at_call 28; clear tk1; refine (cahead_m 5 0 ⟨N, s, 0, 0, 0, 0, 0⟩ ⟨P, S, 0, 0, 0, 0, 0⟩ 0 0 0 0 0 0 0 0 0 _ O1.out O2.out (hid HM.out.1)).mono ?_; rintro e w1 ⟨rfl, hb⟩; replace K1 := hid (K1.out.step hb); replace K2 := hid (K2.out.step hb); replace K3 := hid (K3.out.step hb); obtain ⟨a0, a1, a2, a3, a4, a5, a6, a7, a8, a9, a10⟩ := box_elf K1.out.2.2; obtain ⟨b0, b1, b2, b3, b4, b5, b6, b7, b8, b9, b10⟩ := box_elf K2.out.2.2; obtain ⟨c0, c1, c2, c3, c4, c5, c6, c7, c8, c9, c10⟩ := box_elf K3.out.2.2; clear hb)
    | (go_at_call 28; clear tk2; refine (cahead_m 5 0 ⟨N, s, 0, 0, 0, 0, 0⟩ ⟨P, S + 1, 0, 0, 0, 0, 0⟩ 0 0 0 0 0 0 0 0 1 _ O1.out O3.out (hid HM.out.2.1)).mono ?_; rintro e w2 ⟨rfl, hb⟩; replace K1 := hid (K1.out.step hb); replace K2 := hid (K2.out.step hb); replace K3 := hid (K3.out.step hb); obtain ⟨a0, a1, a2, a3, a4, a5, a6, a7, a8, a9, a10⟩ := box_elf K1.out.2.2; obtain ⟨b0, b1, b2, b3, b4, b5, b6, b7, b8, b9, b10⟩ := box_elf K2.out.2.2; obtain ⟨c0, c1, c2, c3, c4, c5, c6, c7, c8, c9, c10⟩ := box_elf K3.out.2.2; clear hb)
    | (go_at_call 28; clear tk3; refine (cahead_m 5 0 ⟨P, S + 1, 0, 0, 0, 0, 0⟩ ⟨N, s, 0, 0, 0, 0, 0⟩ 0 0 0 0 0 0 0 0 (-1) _ O3.out O1.out (hid HM.out.2.2.1)).mono ?_; rintro e w3 ⟨rfl, hb⟩; replace K1 := hid (K1.out.step hb); replace K2 := hid (K2.out.step hb); replace K3 := hid (K3.out.step hb); obtain ⟨a0, a1, a2, a3, a4, a5, a6, a7, a8, a9, a10⟩ := box_elf K1.out.2.2; obtain ⟨b0, b1, b2, b3, b4, b5, b6, b7, b8, b9, b10⟩ := box_elf K2.out.2.2; obtain ⟨c0, c1, c2, c3, c4, c5, c6, c7, c8, c9, c10⟩ := box_elf K3.out.2.2; clear hb)
    | (go_at_call 28; refine (cahead_m 5 0 ⟨P, S, 0, 0, 0, 0, 0⟩ ⟨P, S + 1, 0, 0, 0, 0, 0⟩ 0 0 0 0 0 0 0 0 1 _ O2.out O3.out (hid HM.out.2.2.2)).mono ?_; rintro e w4 ⟨rfl, hb⟩; replace K1 := hid (K1.out.step hb); replace K2 := hid (K2.out.step hb); replace K3 := hid (K3.out.step hb); clear hb)
    | (go_at_call 15; refine (wakes_any _).mono ?_; rintro e w5 ⟨rfl, hb⟩; replace K1 := hid (K1.out.step hb); clear hb))
  go_ret
  exact ⟨rfl, K1.out.1⟩

end Go.Proofs.Ytgmnnpecihcdhaa

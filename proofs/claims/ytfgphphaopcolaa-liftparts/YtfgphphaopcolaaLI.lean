/-
  What lattice.Cost returns, and the document's own.
  Conditions: as each theorem states them.
-/
import Derived.Test.YtfgphphaopcolaaLH
namespace Go.Proofs.Ytfgphphaopcolaa
open Go.ChangeShapes Go.WideShapes Go.ChangeAt Go.RowKit
set_option linter.unusedVariables false
set_option linter.unusedSimpArgs false

/-- The product of the first so many levels' members. -/
def costP (ds : Dims) (V : List Int) : Nat → Int
  | 0 => 1
  | k + 1 => costP ds V k * memC ds k (V.getD k 0)
def cost (ds : Dims) (M v0 v1 v2 v3 : Int) : Int := if nodeC ds M v0 v1 v2 v3 then costP ds [v0, v1, v2, v3] ds.length else 0
theorem costP_bd (ds : Dims) (V : List Int) (k : Nat) : 0 ≤ costP ds V k ∧ costP ds V k ≤ 40 ^ k := by
  induction k with
  | zero => simp [costP]
  | succ k ih =>
    have hm := memC_bd ds k (V.getD k 0)
    rw [costP]
    refine ⟨Int.mul_nonneg ih.1 hm.1, ?_⟩
    rw [Int.pow_succ]
    exact Int.mul_le_mul ih.2 hm.2 hm.1 (by have := ih.1; have := ih.2; omega)
theorem pow40 {k : Nat} (h : k ≤ 4) : (40 : Int) ^ k ≤ 2560000 := by
  have : k = 0 ∨ k = 1 ∨ k = 2 ∨ k = 3 ∨ k = 4 := by omega
  rcases this with rfl | rfl | rfl | rfl | rfl <;> decide
/-- A catalog and a node in their boxes. -/
def N2 (w wr : World) (s u : Value) (V : List Int) : Prop :=
  Below w.heap.size w wr ∧ wr.heap[w.heap.size]? = some (.cells #[s, u] 24) ∧ wr.heap[w.heap.size + 1]? = some (.cells #[.int .u8 (V.getD 0 0), .int .u8 (V.getD 1 0), .int .u8 (V.getD 2 0), .int .u8 (V.getD 3 0)] 26)
theorem N2.step {w wr w' : World} {s u : Value} {V : List Int} (h : N2 w wr s u V) (hb : Below wr.heap.size wr w') : N2 w w' s u V :=
  ⟨bt h.1 hb, keep_blk h.2.1 hb, keep_blk h.2.2 hb⟩
theorem n2_new (w : World) (s u : Value) (v0 v1 v2 v3 : Int) : N2 w ((w.alloc (.cells #[s, u] 24)).alloc (.cells #[.int .u8 v0, .int .u8 v1, .int .u8 v2, .int .u8 v3] 26)) s u [v0, v1, v2, v3] := by
  refine ⟨bx2 _ _ _ _ _, ?_, ?_⟩ <;> simp only [heap_alloc2, World.size_alloc]
  · rw [if_neg (by omega)]; simp
  · simp
theorem N2.at {w wr : World} {s u : Value} {V : List Int} (h : N2 w wr s u V) {k : Nat} (hk : k < 4) : wr.cell? ⟨w.heap.size + 1, k, none⟩ = some (.int .u8 (V.getD k 0)) := by
  obtain ⟨h0, h1, h2, h3⟩ := box4 h.2.2
  have : k = 0 ∨ k = 1 ∨ k = 2 ∨ k = 3 := by omega
  rcases this with rfl | rfl | rfl | rfl <;> assumption
theorem size_m (sa : Option Addr) (sl sc : Nat) (ua : Option Addr) (ul uc : Nat) (S : List Int) (U : List (List Int)) (f m : Int) (w : World) (hd : Dim w sa sl sc ua ul uc S U) (hf : I64 f) (hm : Hid (size S U f = m)) :
    Calls Try.prog 50 #[.agg #[.slice sa sl sc, .slice ua ul uc], .int .i64 f] w fun e w' => e = .returned (.int .i64 m) ∧ Below w.heap.size w w' := by
  have := size_any sa sl sc ua ul uc S U f w hd hf
  rw [hm.out] at this
  exact this
theorem lgood_m (a : Option Addr) (n c : Nat) (ds : Dims) (M v0 v1 v2 v3 : Int) (v : Bool) (w : World) (hc : Cat w a n c ds) (hM : I64 M) (hv : Hid (nodeC ds M v0 v1 v2 v3 = v)) :
    Calls Try.prog 29 #[.agg #[.slice a n c, .int .i64 M], .agg #[.int .u8 v0, .int .u8 v1, .int .u8 v2, .int .u8 v3]] w fun e w' => e = .returned (.bool v) ∧ Below w.heap.size w w' := by
  have := lgood_any a n c ds M v0 v1 v2 v3 w hc hM
  have e : (goodC ds M && bel v0 v1 v2 v3 (tp ds M 0) (tp ds M 1) (tp ds M 2) (tp ds M 3)) = v := hv.out
  rw [e] at this
  exact this
theorem rlgood_m (a : Option Addr) (n c : Nat) (ds : Dims) (M v0 v1 v2 v3 : Int) (v : Bool) (w : World) (hc : Cat w a n c ds) (hM : I64 M) (hV : ∀ x ∈ [v0, v1, v2, v3], U8 x) (hv : Hid (nodeC ds M v0 v1 v2 v3 = v)) :
    Calls Try.prog 18 #[.agg #[.slice a n c, .int .i64 M], .agg #[.int .u8 v0, .int .u8 v1, .int .u8 v2, .int .u8 v3]] w fun e w' => e = .returned (.bool v) ∧ Below w.heap.size w w' := by
  have := rlgood_any a n c ds M v0 v1 v2 v3 w hc hM hV
  rw [hv.out] at this
  exact this
theorem nodeC_good {ds : Dims} {M v0 v1 v2 v3 : Int} (h : nodeC ds M v0 v1 v2 v3 = true) : goodC ds M = true := by
  unfold nodeC at h
  rw [Bool.and_eq_true] at h
  exact h.1

set_option maxHeartbeats 8000000 in
theorem rcost_any (a : Option Addr) (n c : Nat) (ds : Dims) (M v0 v1 v2 v3 : Int) (w : World) (hc : Cat w a n c ds) (hM : I64 M) (hV : ∀ x ∈ [v0, v1, v2, v3], U8 x) :
    Calls Try.prog 21 #[.agg #[.slice a n c, .int .i64 M], .agg #[.int .u8 v0, .int .u8 v1, .int .u8 v2, .int .u8 v3]] w fun e w' => e = .returned (.int .i64 (cost ds M v0 v1 v2 v3)) ∧ Below w.heap.size w w' := by
  obtain ⟨e1, e2⟩ := hc.lens
  have E1 : Hid (n = ds.length) := e1
  have HC : Hid (Cat w a n c ds) := hc
  have HM : Hid (I64 M) := hM
  have HV : Hid (∀ x ∈ [v0, v1, v2, v3], U8 x) := hV
  have NX : Hid (N2 w _ (.slice a n c) (.int .i64 M) [v0, v1, v2, v3]) := n2_new w (.slice a n c) (.int .i64 M) v0 v1 v2 v3
  clear e1 hc hM hV
  cases hn : nodeC ds M v0 v1 v2 v3 with
  | false =>
    have HN : Hid (nodeC ds M v0 v1 v2 v3 = false) := hn
    clear hn
    go_enter Try.func21, Try.ntmps21
    go_wp2_with (go_at_call 18; refine (rlgood_m _ _ _ _ _ _ _ _ _ _ _ (HC.out.below NX.out.1) HM.out HV.out HN).mono ?_; rintro e w1 ⟨rfl, hb⟩)
    go_ret
    exact ⟨ret_int (by unfold cost; rw [HN.out]; rfl), bt NX.out.1 hb⟩
  | true =>
    have HN : Hid (nodeC ds M v0 v1 v2 v3 = true) := hn
    have hgp := goodC_p (nodeC_good hn)
    rw [← E1.out] at hgp
    obtain ⟨n1, n4, _, _, _⟩ := hgp
    clear hn
    go_enter Try.func21, Try.ntmps21
    go_wp2_with (go_at_call 18; refine (rlgood_m _ _ _ _ _ _ _ _ _ _ _ (HC.out.below NX.out.1) HM.out HV.out HN).mono ?_; rintro e w1 ⟨rfl, hb⟩; have NX1 := NX.out.step hb; obtain ⟨c0, c1⟩ := box_two NX1.2.1; have NX1 := hid NX1)
    obtain ⟨V, hVV⟩ : ∃ V, [v0, v1, v2, v3] = V := ⟨_, rfl⟩
    have HVV : Hid ([v0, v1, v2, v3] = V) := hVV
    rw [hVV] at HV NX1
    clear hVV NX hb c1 c0
    go_loopw [5, 6] (fun p i wr => ∃ k : Nat, k ≤ n ∧ i = .int .i64 k ∧ p = .int .i64 (costP ds V k) ∧ Hid (N2 w wr (.slice a n c) (.int .i64 M) V)) (fun _ i _ => n - (intOf i).toNat)
    case atStart => exact ⟨0, by omega, rfl, rfl, NX1⟩
    case round =>
      obtain ⟨k, hk, rfl, rfl, NX2⟩ := hrel
      have bel2 := NX2.out.1
      have pb := costP_bd ds V k
      have p40 := pow40 (k := k) (by omega)
      have HP : Hid (costP ds V (k + 1) = costP ds V k * memC ds k (V.getD k 0)) := rfl
      obtain ⟨P, hP⟩ : ∃ P, costP ds V k = P := ⟨_, rfl⟩
      have HPk : Hid (costP ds V k = P) := hP
      rw [hP] at pb HP ⊢
      clear hP
      by_cases hlt : k < n
      · have hkn : (k : Int) < (n : Int) := by omega
        have hk4 : (k : Int) < 4 := by omega
        obtain ⟨b, off, rfl, hb0, sa, sl, sc, ua, ul, uc, S, U, d1, d2, HDm, HSU⟩ := HC.out.get bel2 hlt
        have hbw : b < wr.heap.size := Nat.lt_of_lt_of_le hb0 bel2.size
        have q1 := NX2.out.at (k := k) (by omega)
        have b1 := u8_at HV.out k
        obtain ⟨v, hv⟩ : ∃ v, V.getD k 0 = v := ⟨_, rfl⟩
        rw [hv] at q1 b1 HP
        have HVk : Hid (V.getD k 0 = v) := hv
        have mb := size_bd S U v
        obtain ⟨m, hm⟩ : ∃ m, size S U v = m := ⟨_, rfl⟩
        rw [hm] at mb
        have HMv : Hid (size S U v = m) := hm
        rw [memC_at (by rw [← E1.out]; exact hlt) HSU.out, hm] at HP
        have JV : Hid (I64 v) := by show I64 v; unfold I64; omega
        have wv : IntKind.i64.wrap v = v := IntWalk.i64_in _ (by omega)
        have hprod : 0 ≤ P * m ∧ P * m ≤ 2560000 * 40 := ⟨Int.mul_nonneg pb.1 mb.1, Int.mul_le_mul (by omega) mb.2 mb.1 (by omega)⟩
        have wp : IntKind.i64.wrap (P * m) = P * m := IntWalk.i64_in _ (by omega)
        clear hv hm
        have hz1 : w.heap.size + 1 < wr.heap.size := heap_lt NX2.out.2.2
        have c0 := (box_two NX2.out.2.1).1
        have KS : Hid (∀ x', Below wr.heap.size wr x' → Below wr.heap.size wr x' ∧ x'.cell? ⟨w.heap.size, 0, none⟩ = some (.slice (some ⟨b, off, none⟩) n c) ∧ x'.cell? ⟨b, off + k * 2, none⟩ = some (.slice sa sl sc) ∧ x'.cell? ⟨b, off + k * 2 + 1, none⟩ = some (.slice ua ul uc) ∧ x'.cell? ⟨w.heap.size + 1, k, none⟩ = some (.int .u8 v)) :=
          hid fun x' hB => ⟨hB, ((bcell hB).1 _ _ (by omega)).trans c0, ((bcell hB).1 _ _ hbw).trans d1, ((bcell hB).1 _ _ hbw).trans d2, ((bcell hB).1 _ _ (by omega)).trans q1⟩
        go_wp2
        go_region_held3 (fun x' => Below wr.heap.size wr x' ∧ x'.cell? ⟨w.heap.size, 0, none⟩ = some (.slice (some ⟨b, off, none⟩) n c) ∧ x'.cell? ⟨b, off + k * 2, none⟩ = some (.slice sa sl sc) ∧ x'.cell? ⟨b, off + k * 2 + 1, none⟩ = some (.slice ua ul uc) ∧ x'.cell? ⟨w.heap.size + 1, k, none⟩ = some (.int .u8 v))
          (first | assumption | exact keep_drew KS | exact keep_step (by assumption) (by assumption) KS)
          (first
            | (go_at_call 25; refine (rsize_m _ _ _ _ _ _ S U _ m _ (HDm.out.below (And.left (by assumption))) JV.out HMv).mono ?_; rintro e w5 ⟨rfl, hb5⟩))
        go_wp2
        go_roundw
        case rel =>
          refine ⟨k + 1, by omega, by go_num, ?_, hid (NX2.out.step (undrew hb5))⟩
          rw [HP.out]
        case measure => simp [intOf]; omega
      · obtain rfl : k = n := by omega
        have c0 := (box_two NX2.out.2.1).1
        go_wp2
        go_ret
        exact ⟨ret_int (by unfold cost; rw [if_pos HN.out, HVV.out, ← E1.out, HPk.out]), bel2⟩

end Go.Proofs.Ytfgphphaopcolaa

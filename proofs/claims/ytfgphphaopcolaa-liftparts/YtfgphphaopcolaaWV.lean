/-
  What the document's own Places returns: all places of a node, where there are not too many.
  Conditions: as each theorem states them.
-/
import Derived.Test.YtfgphphaopcolaaWU
import Derived.Deep.LoopGhost
namespace Go.Proofs.Ytfgphphaopcolaa
open Go.ChangeShapes Go.WideShapes Go.ChangeAt Go.RowKit
set_option linter.unusedVariables false
set_option linter.unusedSimpArgs false

theorem n2_cells {w wr : World} {s u : Value} {v0 v1 v2 v3 : Int} (h : N2 w wr s u [v0, v1, v2, v3]) : (wr.cell? ⟨w.heap.size, 0, none⟩ = some s ∧ wr.cell? ⟨w.heap.size, 1, none⟩ = some u) ∧ wr.cell? ⟨w.heap.size + 1, 0, none⟩ = some (.int .u8 v0) ∧ wr.cell? ⟨w.heap.size + 1, 1, none⟩ = some (.int .u8 v1) ∧ wr.cell? ⟨w.heap.size + 1, 2, none⟩ = some (.int .u8 v2) ∧ wr.cell? ⟨w.heap.size + 1, 3, none⟩ = some (.int .u8 v3) := ⟨box_two h.2.1, box4 h.2.2⟩

theorem rcost_n (a : Option Addr) (n c : Nat) (ds : Dims) (M v0 v1 v2 v3 : Int) (C : Int) (w : World) (hc : Cat w a n c ds) (hM : I64 M) (hV : ∀ x ∈ [v0, v1, v2, v3], U8 x) (h : Hid (cost ds M v0 v1 v2 v3 = C)) :
    Calls Try.prog 21 #[.agg #[.slice a n c, .int .i64 M], .agg #[.int .u8 v0, .int .u8 v1, .int .u8 v2, .int .u8 v3]] w fun e w' => e = .returned (.int .i64 C) ∧ Below w.heap.size w w' := by
  have := rcost_any a n c ds M v0 v1 v2 v3 w hc hM hV
  rw [h.out] at this
  exact this
set_option maxHeartbeats 16000000 in
set_option maxRecDepth 20000 in
theorem places6 (a : Option Addr) (n c : Nat) (ds : Dims) (M v0 v1 v2 v3 : Int) (w : World) (hc : Cat w a n c ds) (hM : I64 M) (hV : ∀ x ∈ [v0, v1, v2, v3], U8 x) (hn : nodeC ds M v0 v1 v2 v3 = true) (hsm : cost ds M v0 v1 v2 v3 ≤ 600) :
    Calls Try.prog 22 #[.agg #[.slice a n c, .int .i64 M], .agg #[.int .u8 v0, .int .u8 v1, .int .u8 v2, .int .u8 v3], .int .i64 600] w fun e w' => FTold (pls ds [v0, v1, v2, v3] n) e w' ∧ Below w.heap.size w w' := by
  obtain ⟨e1, e2⟩ := hc.lens
  have E1 : Hid (n = ds.length) := e1
  have HC : Hid (Cat w a n c ds) := hc
  have HM : Hid (I64 M) := hM
  have HV : Hid (∀ x ∈ [v0, v1, v2, v3], U8 x) := hV
  have HN : Hid (nodeC ds M v0 v1 v2 v3 = true) := hn
  have NX : Hid (N2 w _ (.slice a n c) (.int .i64 M) [v0, v1, v2, v3]) := n2_new w (.slice a n c) (.int .i64 M) v0 v1 v2 v3
  have hgp := goodC_p (nodeC_good hn)
  rw [← E1.out] at hgp
  obtain ⟨n1, n4', _, _, _⟩ := hgp
  have hcl : cost ds M v0 v1 v2 v3 = ((pls ds [v0, v1, v2, v3] n).length : Int) := by rw [pls_len, e1]; unfold cost; rw [if_pos hn]
  have HSP : Hid (∀ j, j < n → 0 < sz ds [v0, v1, v2, v3] j) := hid fun j hj => by
    have := node_mem hn hV (k := j) (by omega)
    rw [← sz_int] at this
    omega
  have HSB : Hid (∀ j, sz ds [v0, v1, v2, v3] j ≤ 40) := hid fun j => by
    have h1 := (memC_bd ds j ([v0, v1, v2, v3].getD j 0)).2
    have h2 := sz_int ds [v0, v1, v2, v3] j
    omega
  obtain ⟨C, hC⟩ : ∃ C : Nat, (pls ds [v0, v1, v2, v3] n).length = C := ⟨_, rfl⟩
  rw [hC] at hcl
  rw [hcl] at hsm
  have HCC := hid hcl
  have HPL := hid hC
  have hbf : decide ((600 : Int) < (C : Int)) = false := decide_eq_false (by omega)
  have hbf2 : decide (600 < C) = false := decide_eq_false (by omega)
  clear hc hM hV hn e1 hcl hC
  go_enter Try.func22, Try.ntmps22
  go_wp2_with (go_at_call 21; refine (rcost_n _ _ _ _ _ _ _ _ _ (C : Int) _ (HC.out.below NX.out.1) HM.out HV.out HCC).mono ?_; rintro e w1 ⟨rfl, hb1⟩; have NX1 := hid (NX.out.step hb1); clear hb1)
  have PS0 : Hid (PlSt w1 w1 (.slice none 0 0) ((pls ds [v0, v1, v2, v3] n).take 0)) := hid ⟨Below.refl _ _, World.ownsRow_nil _ _ _ _⟩
  go_loopg [8, 9] C (fun gk vo vi wr => ∃ (i : Nat), vi = .int .i64 i ∧ Hid (gk + i = C) ∧ Hid (PlSt w1 wr vo ((pls ds [v0, v1, v2, v3] n).take i)))
  case atStart => exact ⟨0, rfl, hid (by omega), PS0⟩
  case round =>
    obtain ⟨i, rfl, HI, PS⟩ := hrel
    rename World => W0
    have hiC := HI.out
    have NX2 := hid (NX1.out.step PS.out.1)
    obtain ⟨⟨i0, i1⟩, i2, i3, i4, i5⟩ := n2_cells NX2.out
    by_cases hi : i < C
    · have hii : (i : Int) < (C : Int) := by omega
      have HB0 := hid (heap_alloc_new W0 (.cells (n4 (nf (0, 0, 0, 0))) 27))
      have BL0 : Hid (Below W0.heap.size W0 (W0.alloc (.cells #[.int .u8 0, .int .u8 0, .int .u8 0, .int .u8 0] 27))) := hid ((Below.refl _ _).alloc (Nat.le_refl _) _)
      have hzw : w.heap.size < W0.heap.size := heap_lt NX2.out.2.1
      have HGET := hid (pls_get ds [v0, v1, v2, v3] n i (by rw [HPL.out]; exact hi))
      go_wp2
      go_loopg [11, 12] n (fun g2 vk vd wr => ∃ (q m : Nat) (x : Nd), vk = .int .i64 m ∧ vd = .int .i64 ((q : Int) - 1) ∧ Hid (g2 = q ∧ q ≤ n ∧ m ≤ 600 ∧ dgr ds [v0, v1, v2, v3] q m x = dgr ds [v0, v1, v2, v3] n i (0, 0, 0, 0)) ∧ Hid (wr.heap[W0.heap.size]? = some (.cells (n4 (nf x)) 27)) ∧ Hid (Below W0.heap.size W0 wr))
      case atStart => exact ⟨n, i, (0, 0, 0, 0), rfl, rfl, hid ⟨rfl, Nat.le_refl _, by omega, rfl⟩, HB0, BL0⟩
      case round =>
        obtain ⟨q, m, x, rfl, rfl, HQ, HB, BL⟩ := hrel
        cases q with
        | zero =>
          have hneg : decide ((0 : Int) ≤ ((0 : Nat) : Int) - 1) = false := decide_eq_false (by omega)
          have PS1 := hid (PS.out.step BL.out)
          have hx0 : x = dgr ds [v0, v1, v2, v3] n i (0, 0, 0, 0) := HQ.out.2.2.2
          obtain ⟨x0, x1, x2, x3⟩ := x
          have HX0 := hid hx0
          clear hx0
          obtain ⟨p0, p1, p2, p3⟩ := n4_all HB.out
          obtain ⟨LL, hLL⟩ : ∃ LL, ((pls ds [v0, v1, v2, v3] n).take i).length = LL := ⟨_, rfl⟩
          have HLL := hid hLL
          have HLB : Hid (LL + 1 ≤ 1000000) := hid (by rw [← hLL, List.length_take, HPL.out]; omega)
          have HO2 : Hid (wr.ownsRow w1.heap.size 27 4 u8 LL (ncells ((pls ds [v0, v1, v2, v3] n).take i))) := hid (by rw [← hLL]; exact PS1.out.2)
          clear hLL
          go_wp2_with (at_builtin; refine append_four Try.underlying44 info_coord (by decide) (by decide) rfl (.tmp 53) (.tmp 55) rfl w1.heap.size LL _ _ _ _ _ _ _ rfl rfl HO2.out rfl HLB.out PS1.out.1.size ?_; rintro v5 w5 ho5 ⟨g5, c5, rfl, hg5⟩ hgr5; have HO5 := hid ho5; have HR5 := hid hgr5; clear ho5 hg5 hgr5)
          go_roundg (C - (i + 1))
          case measure => have := HI.out; omega
          case rel =>
            refine ⟨i + 1, by go_num, hid (by have := HI.out; omega), hid ?_⟩
            rw [take_more HGET.out, ← HX0.out]
            have e5 := HLL.out
            have h5 := HO5.out
            subst e5
            exact pl_step (x := (x0, x1, x2, x3)) PS1.out h5 HR5.out
        | succ p =>
          have hpn : p < n := by have := HQ.out.2.1; omega
          have hp4 : p < 4 := by omega
          have hpd : ((p + 1 : Nat) : Int) - 1 = (p : Int) := by omega
          rw [hpd]
          have hm1 : m ≤ 600 := HQ.out.2.2.1
          have NX3 := hid (NX2.out.step BL.out)
          have bel3 := NX3.out.1
          obtain ⟨b, off, rfl, hb0, sa, sl, sc, ua, ul, uc, S, U, d1, d2, HDm, HSU⟩ := HC.out.get bel3 (k := p) hpn
          have hbw : b < wr.heap.size := Nat.lt_of_lt_of_le hb0 bel3.size
          have q1 := NX3.out.at (k := p) hp4
          have b1 := u8_at HV.out p
          have hs0 := HSP.out p hpn
          have hs1 := HSB.out p
          have hse := sz_int ds [v0, v1, v2, v3] p
          rw [memC_at (by rw [← E1.out]; exact hpn) HSU.out] at hse
          have HDG := hid (show dgr ds [v0, v1, v2, v3] p (m / sz ds [v0, v1, v2, v3] p) (pt x ((m % sz ds [v0, v1, v2, v3] p : Nat) : Int) p) = dgr ds [v0, v1, v2, v3] n i (0, 0, 0, 0) from HQ.out.2.2.2)
          obtain ⟨v, hv⟩ : ∃ v, [v0, v1, v2, v3].getD p 0 = v := ⟨_, rfl⟩
          rw [hv] at q1 b1 hse
          obtain ⟨s, hs⟩ : ∃ s : Nat, sz ds [v0, v1, v2, v3] p = s := ⟨_, rfl⟩
          rw [hs] at hs0 hs1 hse HDG
          have HMv : Hid (size S U v = (s : Int)) := hid hse.symm
          have JV : Hid (I64 v) := by show I64 v; unfold I64; omega
          have wv : IntKind.i64.wrap v = v := IntWalk.i64_in _ (by omega)
          clear hv hs hse
          have c0 := (box_two NX3.out.2.1).1
          have hz1 : w.heap.size + 1 < wr.heap.size := heap_lt NX3.out.2.2
          have hpn' : (p : Int) < (n : Int) := by omega
          have hp4' : (p : Int) < 4 := by omega
          have hp0' : (0 : Int) ≤ (p : Int) := by omega
          obtain ⟨rm, hrm⟩ : ∃ r : Nat, m % s = r := ⟨_, rfl⟩
          obtain ⟨qd, hqd⟩ : ∃ r : Nat, m / s = r := ⟨_, rfl⟩
          have hrml := Nat.mod_lt m hs0
          have hqdl := Nat.div_le_self m s
          rw [hrm] at hrml HDG
          rw [hqd] at hqdl HDG
          have ht1 : (m : Int).tmod (s : Int) = (rm : Int) := by rw [Int.tmod_eq_emod_of_nonneg (by omega), ← hrm]; rfl
          have ht2 : (m : Int).tdiv (s : Int) = (qd : Int) := by rw [Int.tdiv_eq_ediv_of_nonneg (by omega), ← hqd]; rfl
          have wr1 : IntKind.u8.wrap (rm : Int) = rm := IntWalk.u8_in _ (by omega)
          have wqd : IntKind.i64.wrap (qd : Int) = qd := IntWalk.i64_in _ (by omega)
          have hsz0 : ((s : Int) == 0) = false := by simp; omega
          have hszn : ¬ (s : Int) = 0 := by omega
          have hszn2 : ¬ s = 0 := by omega
          clear hrm hqd
          have KS : Hid (∀ x', Below wr.heap.size wr x' → Below wr.heap.size wr x' ∧ x'.cell? ⟨w.heap.size, 0, none⟩ = some (.slice (some ⟨b, off, none⟩) n c) ∧ x'.cell? ⟨b, off + p * 2, none⟩ = some (.slice sa sl sc) ∧ x'.cell? ⟨b, off + p * 2 + 1, none⟩ = some (.slice ua ul uc) ∧ x'.cell? ⟨w.heap.size + 1, p, none⟩ = some (.int .u8 v)) :=
            hid fun x' hB => ⟨hB, ((bcell hB).1 _ _ (by omega)).trans c0, ((bcell hB).1 _ _ hbw).trans d1, ((bcell hB).1 _ _ hbw).trans d2, ((bcell hB).1 _ _ (by omega)).trans q1⟩
          go_wp2
          go_region_held3 (fun x' => Below wr.heap.size wr x' ∧ x'.cell? ⟨w.heap.size, 0, none⟩ = some (.slice (some ⟨b, off, none⟩) n c) ∧ x'.cell? ⟨b, off + p * 2, none⟩ = some (.slice sa sl sc) ∧ x'.cell? ⟨b, off + p * 2 + 1, none⟩ = some (.slice ua ul uc) ∧ x'.cell? ⟨w.heap.size + 1, p, none⟩ = some (.int .u8 v))
            (first | assumption | exact keep_drew KS | exact keep_step (by assumption) (by assumption) KS)
            (first
              | (go_at_call 25; refine (rsize_m _ _ _ _ _ _ S U _ (s : Int) _ (HDm.out.below (And.left (by assumption))) JV.out HMv).mono ?_; rintro e w5 ⟨rfl, hb5⟩))
          have HB5 := hid (keep_blk HB.out (undrew hb5))
          have BL5 := hid (bt BL.out (undrew hb5))
          obtain ⟨qv, f1⟩ : ∃ u, w5.cell? ⟨W0.heap.size, p, none⟩ = some u := ⟨_, n4_at HB5.out hp4⟩
          have f2 := frozen_of_row w5 W0.heap.size p _ _ HB5.out
          have hz5 := heap_lt HB5.out
          clear hb5 KS
          go_wp2
          go_roundg p
          case measure => have := HQ.out.1; omega
          case rel =>
            refine ⟨p, qd, pt x (rm : Int) p, rfl, rfl, hid ⟨rfl, by omega, by omega, HDG.out⟩, hid (n4_set HB5.out hp4 fun j hj => nf_pt _ _ _ hj), hid (BL5.out.setCell (Nat.le_refl _) _)⟩
    · obtain rfl : i = C := by omega
      have hif : decide ((i : Int) < (i : Int)) = false := decide_eq_false (by omega)
      have hps := PS.out
      rw [take_full HPL.out.symm] at hps
      obtain ⟨a5, c5, e5, hr5⟩ := nrow_own hps.2
      subst e5
      have HR5 := hid hr5
      clear hps hr5
      go_wp2
      go_ret
      exact ⟨⟨_, _, _, rfl, HR5.out⟩, bt NX1.out.1 PS.out.1⟩

end Go.Proofs.Ytfgphphaopcolaa

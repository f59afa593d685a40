/-
  What the document's own Read returns.
  Conditions: as each theorem states them.
-/
import Derived.Test.YtmlnfpefemchhaaRQ
import Derived.Test.YtmlnfpefemchhaaST
import Derived.Test.YtmlnfpefemchhaaSV
import Derived.Deep.LoopGhost
import Derived.Deep.RegionLaw
import Derived.Deep.AppendLies
namespace Go.Proofs.Ytmlnfpefemchhaa
open Go.ChangeShapes Go.WideShapes Go.ChangeAt Go.RowKit
set_option linter.unusedVariables false
set_option linter.unusedSimpArgs false

theorem set_rdr {t : TypeId} {w0 w : World} {B C i : Nat} {s : St} {v : Value} (h : Rdr t w0 w B s) (hC : w0.heap.size ≤ C) (hne : ¬ C = B) : Rdr t w0 (w.setCell ⟨C, i, none⟩ v) B s := h.grow (set_grown w C i v) (fun j hj => by cases hj; exact ⟨hC, hne⟩)

theorem L3.blk {t : TypeId} {w W0 w3 w4 : World} {B D : Nat} {a a' : Option Addr} {n c k m mc : Nat} {S : List Int} {s : St} {U : List (List Int)} {uv : Value} {us : List Value} (h : L3 t w W0 w3 B D a n c S s U k uv us)
    (hg4 : (w3.alloc (.cells #[.slice a' m mc] 56)).grownBy w4 uv.ownBlock) : w4.heap[D]? = some (.cells #[.slice a n c, uv] 59) := by
  obtain ⟨h1, h2, h3, h4, h5, h6, h7⟩ := h
  have D3 := grown_keeps (World.grownBy_alloc w3 (.cells #[.slice a' m mc] 56) none) h4 (fun j hj => by cases hj)
  exact grown_keeps hg4 D3 (fun j hj => by obtain ⟨c', hc'⟩ := own_kind (h6.alloc (.cells #[.slice a' m mc] 56)) hj; exact kinds_apart hc' D3 (by decide))

set_option maxHeartbeats 16000000 in
set_option maxRecDepth 100000 in
theorem rread_any (a : Option Addr) (n c : Nat) (b : List Int) (w : World) (h : code.Row8 w a n c b) :
    Calls Try.prog 13 #[.slice a n c] w fun e w' => (∃ a' n' c', e = .returned (.tuple #[.agg #[.slice a' n' c', .int .i64 (rdM b)], .bool (rdB b)]) ∧ Cat w' a' n' c' (rdD b)) ∧ Below w.heap.size w w' := by
  obtain ⟨i0, hi, hz0, hz1, hz2⟩ := info_parts info_dim
  obtain ⟨i1, hi1, hy0, hy1, hy2⟩ := info_parts info_row
  obtain ⟨i2, hi2, hx0, hx1, hx2⟩ := info_parts info_int
  have HRow : Hid (code.Row8 w a n c b) := h
  have H0 : Hid (Rdr 70 w (((w.alloc (.cells #[.slice none 0 0, .int .i64 0] 25)).alloc (.cells #[.slice a n c, .bool false] 70)).alloc (.cells #[.slice none 0 0, .int .i64 0] 25)) (w.heap.size + 1) (some b)) := by
    have := rdr_new (t := 70) ((Below.refl w.heap.size w).alloc (Nat.le_refl _) (.cells #[.slice none 0 0, .int .i64 0] 25)) h
    rw [World.size_alloc] at this
    exact this.grow (World.grownBy_alloc _ _ none) (fun j hj => by cases hj)
  have C0 : Hid ((((w.alloc (.cells #[.slice none 0 0, .int .i64 0] 25)).alloc (.cells #[.slice a n c, .bool false] 70)).alloc (.cells #[.slice none 0 0, .int .i64 0] 25)).heap[w.heap.size + 2]? = some (.cells #[.slice none 0 0, .int .i64 0] 25)) := by
    show _ = _
    simp only [heap_alloc2, World.size_alloc]
    simp
  have R0 : Hid ((((w.alloc (.cells #[.slice none 0 0, .int .i64 0] 25)).alloc (.cells #[.slice a n c, .bool false] 70)).alloc (.cells #[.slice none 0 0, .int .i64 0] 25)).heap[w.heap.size]? = some (.cells #[.slice none 0 0, .int .i64 0] 25)) := by
    show _ = _
    simp only [heap_alloc2, World.size_alloc]
    rw [if_neg (by omega), if_neg (by omega)]; simp
  have NS : Hid (NN (some b)) := H0.out.nn
  clear h
  have t1 : True := trivial
  go_enter Try.func13, Try.ntmps13
  go_wp2_with (first
    | (go_at_call 50; clear t1; refine (rnum_any w (w.heap.size + 1) (some b) _ H0.out).mono ?_; rintro e w1 ⟨⟨M, rfl, hM0, hM1, hMe⟩, hr1, hg1⟩; have HME := hid (hMe (by simp)); have C1 := hid (grown_keeps hg1 C0.out (fun j hj => by cases hj; omega)); have R1 := hid (grown_keeps hg1 R0.out (fun j hj => by cases hj; omega)); have HR1 := hid (set_rdr (C := w.heap.size + 2) (i := 1) (v := .int .i64 M) hr1 (by omega) (by omega)); obtain ⟨p0, p1⟩ := box_two C1.out; have p2 := frozen_of_row w1 (w.heap.size + 2) 1 _ _ C1.out; have hz1' := heap_lt C1.out; clear hr1 hg1 hMe)
    | (go_at_call 50; refine (rnum_any w (w.heap.size + 1) (pnum (some b)).2 _ HR1.out).mono ?_; rintro e w2 ⟨⟨x2, rfl, hx20, hx21, hx2e⟩, hr2, hg2⟩; have HX2 := hid hx2e; have HR2 := hid hr2; have HG2 := hid hg2; clear hr2 hg2 hx2e))
  have CS0 : Hid (CS5 70 w w2 (w.heap.size + 1) w.heap.size (w.heap.size + 2) M (pst2 b) [] 0 (.slice none 0 0) []) := by
    have c2 := grown_keeps HG2.out (heap_setCell_same w1 (w.heap.size + 2) 1 _ _ (.int .i64 M) C1.out) (fun j hj => by cases hj; omega)
    have r2 := grown_keeps HG2.out (grown_keeps (set_grown w1 (w.heap.size + 2) 1 (.int .i64 M)) R1.out (fun j hj => by cases hj; omega)) (fun j hj => by cases hj; omega)
    exact hid ⟨HR2.out, ⟨Nat.le_refl _, by omega, by omega, by omega, by omega⟩, r2, c2, World.ownsRow_nil _ _ _ _, pairs_nil _⟩
  obtain ⟨nd, rfl⟩ : ∃ nd : Nat, x2 = (nd : Int) := ⟨x2.toNat, by omega⟩
  have nd40 : nd ≤ 40 := by omega
  have HND : Hid (¬ pst2 b = none → nd = pnd b) := hid fun hne => by
    have h1 : ¬ (pnum (some b)).2 = none := fun e => hne (by unfold pst2; rw [e]; rfl)
    have := HX2.out h1
    unfold pnd; omega
  have SD0 : Hid (Said b (pst2 b) (([] : Dims) = (pdims 0 (pst2 b)).1 ∧ pst2 b = (pdims 0 (pst2 b)).2)) := hid ⟨fun _ => ⟨rfl, rfl⟩, fun e => fail_all (i := 0) (Nat.zero_le _) e⟩
  clear HR1 HR2 HG2 H0 C0 C1 R0 R1 p0 p1 p2 hz1' hx20 hx21
  go_loopg [7] nd (fun gk vi wr => ∃ (i : Nat) (s : St) (ds : Dims) (dv : Value) (ps : List (Value × Value)), vi = .int .i64 i ∧ Hid (gk + i = nd) ∧ Hid (CS5 70 w wr (w.heap.size + 1) w.heap.size (w.heap.size + 2) M s ds i dv ps) ∧ Hid (Said b s (ds = (pdims i (pst2 b)).1 ∧ s = (pdims i (pst2 b)).2)))
  case atStart => exact ⟨0, pst2 b, [], _, [], rfl, hid (by omega), CS0, SD0⟩
  case round =>
    obtain ⟨i, s, ds, dv, ps, rfl, HI, CS, SD⟩ := hrel
    rename World => W0
    obtain ⟨ra, rn, rc, rl, st, c0, c1, HRR, hst⟩ := CS.out.1.cells
    replace HRR := hid HRR
    have hi40 : i ≤ 40 := by have := HI.out; omega
    rcases hst with ⟨rfl, hs⟩ | ⟨rfl, hs⟩
    · -- not stuck
      by_cases hlt : i < nd
      · have hin : (i : Int) < (nd : Int) := by omega
        obtain ⟨hds, hss⟩ := SD.out.1 (by rw [hs]; simp)
        have hne2 : ¬ pst2 b = none := fun e => by have := pdims_stuck (s := pst2 b) (k := 0) (n := i) (Nat.zero_le _) e; rw [← hss, hs] at this; cases this
        have HIP : Hid (i < pnd b) := hid (by rw [← HND.out hne2]; exact hlt)
        have HDS := hid hds
        have HSS := hid hss
        have HS := hid hs
        have HNS := hid CS.out.1.nn
        have hB0 := CS.out.1.2.1
        have hw0 : w.heap.size ≤ W0.heap.size := CS.out.1.2.2.1.size
        have L20 := hid (l2_new CS.out.1)
        clear hds hss hne2 hs
        go_wp2_with (go_at_call 50; refine (rnum_any w (w.heap.size + 1) s _ L20.out.1).mono ?_; rintro e w3 ⟨⟨x3, rfl, hx30, hx31, hx3e⟩, hr3, hg3⟩; have HX3 := hid hx3e; have HR3 := hid hr3; have HG3 := hid hg3; clear hr3 hg3 hx3e; have L21 := hid (L20.out.num hB0 (by decide) HR3.out HG3.out); have HX3' := hid (HX3.out (by rw [HS.out]; simp)))
        obtain ⟨nn, rfl⟩ : ∃ nn : Nat, x3 = (nn : Int) := ⟨x3.toNat, by omega⟩
        have nn40 : nn ≤ 40 := by omega
        have HNN : Hid (nn = (pnum s).1.toNat) := hid (by have := HX3'.out; omega)
        clear HR3 HG3 HX3 HX3' hx30 hx31 L20
        go_loopg [10] nn (fun g2 vk wr => ∃ (k : Nat) (sL : St) (sv : Value) (l : List Int), vk = .int .i64 k ∧ Hid (g2 + k = nn ∧ l.length = k ∧ ∀ x ∈ l, 0 ≤ x ∧ x ≤ 40) ∧ Hid (L2 70 w W0 wr (w.heap.size + 1) W0.heap.size sL sv l) ∧ Hid (Said b sL (l = (plist k (pnum s).2).1 ∧ sL = (plist k (pnum s).2).2)))
        case atStart => exact ⟨0, (pnum s).2, _, [], rfl, hid ⟨by omega, rfl, by simp⟩, L21, hid ⟨fun _ => ⟨rfl, rfl⟩, fun e => fail_sz HIP.out HSS.out (k := 0) (Nat.zero_le _) e⟩⟩
        case round =>
          obtain ⟨k, sL, sv, l, rfl, HK, LL, SL⟩ := hrel
          rename World => W2
          obtain ⟨ra2, rn2, rc2, rl2, st2, c02, c12, HRR2, hst2⟩ := LL.out.1.cells
          replace HRR2 := hid HRR2
          have hk40 : k ≤ 40 := by have := HK.out.1; omega
          rcases hst2 with ⟨rfl, hs2⟩ | ⟨rfl, hs2⟩
          · by_cases hk : k < nn
            · have hkn : (k : Int) < (nn : Int) := by omega
              obtain ⟨hl1, hl2⟩ := SL.out.1 (by rw [hs2]; simp)
              have HL1 := hid hl1
              have HL2 := hid hl2
              have HS2 := hid hs2
              obtain ⟨d0, d1⟩ := box_two LL.out.2.2.2.1
              have HD7 := hid LL.out.2.2.2.1
              have HR := hid LL.out.drew.1
              have hzD := heap_lt LL.out.2.2.2.1
              have hlen : Hid (l.length ≤ 40) := hid (by have := HK.out.2.1; omega)
              have HKB : Hid (∀ w3, W2.drew.grownBy w3 (some (w.heap.size + 1)) → w3.heap[W0.heap.size]? = some (.cells #[sv, .slice none 0 0] 59)) := hid fun w3 hg => grown_keeps hg HD7.out (fun j hj => by cases hj; omega)
              have HOB : Hid (∀ w3, W2.drew.grownBy w3 (some (w.heap.size + 1)) → w3.ownsRow W0.heap.size 3 1 sv l.length (vals .i64 l)) := hid fun w3 hg => (LL.out.2.2.2.2.drew).kept hg (.inr (fun e => by obtain ⟨c', hc'⟩ := own_kind LL.out.2.2.2.2 e; obtain ⟨cs, hcs⟩ := LL.out.1.kind; exact kinds_apart hc' hcs (by decide) rfl))
              have hb2 : W0.heap.size ≤ W2.heap.size := LL.out.2.1.size
              clear hl1 hl2 hs2
              go_wp2
              go_region_law (first
                | (refine step_append_lies _ (by rfl) _ _ _ (by rfl) W0.heap.size 3 i2 _ 1 8 Try.underlying56 hi2 hx0 hx1 hx2 rfl (by decide) sv l.length (vals .i64 l) (by rfl) ((HOB.out _ HG4.out).alloc _) ⟨w3.heap.size, 0, none⟩ 1 1 [.int .i64 x4] (by rfl) (by rfl) (cell_one_new _ _ _) (by intro u hu; simp at hu; subst hu; rfl) (by decide) (by unfold maxLen; have := hlen.out; omega) (by have := hlen.out; omega) (by simp; have := HG4.out.size; simp at this; omega) (w3.heap.size + 1) (by simp) ?_; intro g4 cap4 w4 ho4 hg4 _ _; have HO5 : Hid (w4.ownsRow W0.heap.size 3 1 (.slice (some ⟨g4, 0, none⟩) (l.length + 1) cap4) (l.length + 1) (vals .i64 (l ++ [x4]))) := (by have e : vals .i64 l ++ [.int .i64 x4] = vals .i64 (l ++ [x4]) := (by simp [vals]); rw [e] at ho4; exact hid ho4); have HG5 : Hid ((w3.alloc (.cells #[.int .i64 x4] 3)).grownBy w4 sv.ownBlock) := hg4; have hd4 := grown_keeps hg4 (grown_keeps (World.grownBy_alloc w3 (.cells #[.int .i64 x4] 3) none) (HKB.out _ HG4.out) (fun j hj => by cases hj)) (fun j hj => by obtain ⟨c', hc'⟩ := own_kind ((HOB.out _ HG4.out).alloc (.cells #[.int .i64 x4] 3)) hj; exact kinds_apart hc' (grown_keeps (World.grownBy_alloc w3 (.cells #[.int .i64 x4] 3) none) (HKB.out _ HG4.out) (fun j hj => by cases hj)) (by decide)); have q1 := (box_two hd4).1; have q2 := frozen_of_row w4 W0.heap.size 0 _ _ hd4; clear ho4 hg4 hd4)
                | (go_simp; go_at_call 50; refine (rnum_any w (w.heap.size + 1) sL _ HR.out).mono ?_; rintro e w3 ⟨⟨x4, rfl, hx40, hx41, hx4e⟩, hr3, hg3⟩; have HX4 := hid hx4e; have HR4 := hid hr3; have HG4 := hid hg3; clear hr3 hg3 hx4e; have HX4' := hid (HX4.out (by rw [HS2.out]; simp)); have q3 := (box_two (HKB.out _ HG4.out)).1; have q4 : (w3.alloc (.cells #[.int .i64 x4] 3)).cell? ⟨W0.heap.size, 0, none⟩ = some sv := (box_two (grown_keeps (World.grownBy_alloc w3 _ none) (HKB.out _ HG4.out) (fun j hj => by cases hj))).1; go_wp2_with fail))
              all_goals
                go_wp2
                go_roundg (nn - (k + 1))
                case measure => have := HK.out.1; omega
                case rel =>
                  refine ⟨k + 1, (pnum sL).2, _, l ++ [x4], by go_num, hid ⟨by have := HK.out.1; omega, by have := HK.out.2.1; simp; omega, fun x hx => ?_⟩, hid ((LL.out.drew.num hB0 (by decide) HR4.out HG4.out).put hw0 hB0 (by decide) HO5.out HG5.out), hid ⟨fun _ => ?_, fun e => ?_⟩⟩
                  · rw [List.mem_append, List.mem_singleton] at hx
                    rcases hx with hx | rfl
                    · exact HK.out.2.2 x hx
                    · exact ⟨hx40, hx41⟩
                  · show l ++ [x4] = (plist k (pnum s).2).1 ++ [(pnum (plist k (pnum s).2).2).1] ∧ (pnum sL).2 = (pnum (plist k (pnum s).2).2).2
                    rw [← HL2.out, ← HL1.out, HX4'.out]
                    exact ⟨rfl, rfl⟩
                  · refine fail_sz HIP.out HSS.out (k := k + 1) (by rw [← HNN.out]; omega) ?_
                    show (pnum (plist k (pnum s).2).2).2 = none
                    rw [← HL2.out]; exact e
            · have hkf : decide ((k : Int) < (nn : Int)) = false := decide_eq_false (by omega)
              obtain ⟨hl1, hl2⟩ := SL.out.1 (by rw [hs2]; simp)
              obtain rfl : k = nn := by have := HK.out.1; omega
              have HPS : Hid (l = (psz s).1 ∧ sL = (psz s).2) := hid (by unfold psz; rw [← HNN.out]; exact ⟨hl1, hl2⟩)
              have HLN := hid HK.out.2.1
              have HSb := hid HK.out.2.2
              obtain ⟨sa, sc, rfl, l3h⟩ := LL.out.l3
              have L3H0 := hid l3h
              have HSL := hid hs2
              clear hl1 hl2 hs2 l3h
              go_wp2
              go_loopg [11] k (fun g3 vk wr => ∃ (k3 : Nat) (sU : St) (U : List (List Int)) (uv : Value) (us : List Value), vk = .int .i64 k3 ∧ Hid (g3 + k3 = k ∧ ∀ l' ∈ U, ∀ x ∈ l', 0 ≤ x ∧ x ≤ 40) ∧ Hid (L3 70 w W0 wr (w.heap.size + 1) W0.heap.size sa l.length sc l sU U k3 uv us) ∧ Hid (Said b sU (U = (pups (psz s).1 k3 (psz s).2).1 ∧ sU = (pups (psz s).1 k3 (psz s).2).2)) ∧ Hid (k3 ≤ k - 1))
              case atStart => exact ⟨0, sL, [], _, [], rfl, hid ⟨by omega, by simp⟩, L3H0, hid ⟨fun _ => ⟨rfl, HPS.out.2⟩, fun e => by rw [HSL.out] at e; cases e⟩, hid (Nat.zero_le _)⟩
              case round =>
                obtain ⟨k3, sU, U, uv, us, rfl, HK3, L3H, SU, HK3b⟩ := hrel
                rename World => W3
                obtain ⟨ra3, rn3, rc3, rl3, st3, c03, c13, HRR3, hst3⟩ := L3H.out.1.cells
                replace HRR3 := hid HRR3
                have HUb := hid HK3.out.2
                have hk340 : k3 ≤ 40 := by have := HK3.out.1; omega
                rcases hst3 with ⟨rfl, hs3⟩ | ⟨rfl, hs3⟩
                · by_cases hk3 : k3 + 1 < k
                  · have hk3n : (k3 : Int) + 1 < (k : Int) := by omega
                    obtain ⟨hu1, hu2⟩ := SU.out.1 (by rw [hs3]; simp)
                    have HU1 := hid hu1
                    have HU2 := hid hu2
                    obtain ⟨b2, off2, rfl, hb2, hcell⟩ := (L3H.out.2.2.2.2.1.incl (only_incl _ _)).cell (k := k3) (by rw [HLN.out]; omega)
                    have bd := getD_of HSb.out k3 (by rw [HLN.out]; omega)
                    obtain ⟨mm, hmm⟩ : ∃ m : Nat, l.getD k3 0 = (m : Int) := ⟨(l.getD k3 0).toNat, by omega⟩
                    have m40 : mm ≤ 40 := by omega
                    have HMv := hid hmm
                    have HMM : Hid ((l.getD k3 0).toNat = mm) := hid (by omega)
                    have hkl : (k3 : Int) < (l.length : Int) := by rw [HLN.out]; omega
                    have L40 := hid (l4_new L3H.out.1)
                    have hw3 : w.heap.size ≤ W3.heap.size := L3H.out.1.2.2.1.size
                    clear hu1 hu2 hs3 hcell hb2 hmm bd
                    go_wp2
                    go_loopg [12, 13] mm (fun g4 vup vj wr => ∃ (j : Nat) (sJ : St) (up : List Int), vj = .int .i64 j ∧ Hid (g4 + j = mm ∧ up.length = j ∧ ∀ x ∈ up, 0 ≤ x ∧ x ≤ 40) ∧ Hid (L4 70 w W3 wr (w.heap.size + 1) sJ vup up) ∧ Hid (Said b sJ (up = (plist j sU).1 ∧ sJ = (plist j sU).2)))
                    case atStart => exact ⟨0, sU, [], rfl, hid ⟨by omega, rfl, by simp⟩, L40, hid ⟨fun _ => ⟨rfl, rfl⟩, SU.out.2⟩⟩
                    case round =>
                      obtain ⟨j, sJ, up, rfl, HJ, L4H, SJ⟩ := hrel
                      have L3J := hid (L3H.out.num hB0 (by decide) L4H.out.1 L4H.out.2.1)
                      obtain ⟨ra4, rn4, rc4, rl4, st4, c04, c14, HRR4, hst4⟩ := L4H.out.1.cells
                      replace HRR4 := hid HRR4
                      obtain ⟨d0, d1⟩ := box_two L3J.out.2.2.2.1
                      obtain ⟨b3, off3, eb3, hb3, hcell3⟩ := (L3J.out.2.2.2.2.1.incl (only_incl _ _)).cell (k := k3) (by rw [HLN.out]; omega)
                      simp only [Option.some.injEq, Addr.mk.injEq, and_true] at eb3
                      obtain ⟨rfl, rfl⟩ := eb3
                      have ck := hcell3 k3 (by rw [HLN.out]; omega)
                      rw [HMv.out] at ck
                      have hj40 : j ≤ 40 := by have := HJ.out.1; omega
                      clear hcell3
                      rcases hst4 with ⟨rfl, hs4⟩ | ⟨rfl, hs4⟩
                      · by_cases hj : j < mm
                        · have hjn : (j : Int) < (mm : Int) := by omega
                          obtain ⟨hv1, hv2⟩ := SJ.out.1 (by rw [hs4]; simp)
                          have HV1 := hid hv1
                          have HV2 := hid hv2
                          have HS4 := hid hs4
                          have hlen : Hid (up.length ≤ 40) := hid (by have := HJ.out.2.1; omega)
                          clear hv1 hv2 hs4
                          go_wp2_with (first
                            | (go_at_call 50; refine (rnum_any w (w.heap.size + 1) sJ _ L4H.out.1).mono ?_; rintro e w5 ⟨⟨x5, rfl, hx50, hx51, hx5e⟩, hr3, hg3⟩; have HX5 := hid hx5e; have HR5 := hid hr3; have HG5 := hid hg3; clear hr3 hg3 hx5e; have HX5' := hid (HX5.out (by rw [HS4.out]; simp)); have L45 := hid (L4H.out.num (by decide) HR5.out HG5.out))
                            | (at_builtin; refine wpList_append_lies _ rfl (.tmp 84) (.tmp 87) _ rfl W3.heap.size 3 i2 _ 1 8 Try.underlying56 hi2 hx0 hx1 hx2 rfl (by decide) _ up.length (vals .i64 up) rfl (L45.out.2.2.alloc _) ⟨w5.heap.size, 0, none⟩ 1 1 [.int .i64 x5] rfl rfl (cell_one_new _ _ _) (by intro u hu; simp at hu; subst hu; rfl) (by decide) (by unfold maxLen; have := hlen.out; omega) (by have := hlen.out; omega) (by have := L45.out.2.1.size; simp; omega) (w5.heap.size + 1) (by simp) ?_; intro g6 cap6 w6 ho6 hg6 _ _; have HO6 : Hid (w6.ownsRow W3.heap.size 3 1 (.slice (some ⟨g6, 0, none⟩) (up.length + 1) cap6) (up.length + 1) (vals .i64 (up ++ [x5]))) := (by have e : vals .i64 up ++ [.int .i64 x5] = vals .i64 (up ++ [x5]) := (by simp [vals]); rw [e] at ho6; exact hid ho6); have HG6 := hid hg6; clear ho6 hg6))
                          go_roundg (mm - (j + 1))
                          case measure => have := HJ.out.1; omega
                          case rel =>
                            refine ⟨j + 1, (pnum sJ).2, up ++ [x5], by go_num, hid ⟨by have := HJ.out.1; omega, by have := HJ.out.2.1; simp; omega, fun x hx => ?_⟩, hid (L45.out.put hw3 (by decide) HO6.out HG6.out), hid ⟨fun _ => ?_, fun e => ?_⟩⟩
                            · rw [List.mem_append, List.mem_singleton] at hx
                              rcases hx with hx | rfl
                              · exact HJ.out.2.2 x hx
                              · exact ⟨hx50, hx51⟩
                            · show up ++ [x5] = (plist j sU).1 ++ [(pnum (plist j sU).2).1] ∧ (pnum sJ).2 = (pnum (plist j sU).2).2
                              rw [← HV2.out, ← HV1.out, HX5'.out]
                              exact ⟨rfl, rfl⟩
                            · refine fail_in HIP.out HSS.out (k := k3) (j := j + 1) (by rw [← HPS.out.1, HLN.out]; omega) (by rw [← HPS.out.1, HMM.out]; omega) ?_
                              show (pnum (plist j (pups (psz s).1 k3 (psz s).2).2).2).2 = none
                              rw [← HU2.out, ← HV2.out]; exact e
                        · have hjf : decide ((j : Int) < (mm : Int)) = false := decide_eq_false (by omega)
                          clear hs4
                          obtain ⟨ua', uc', hvup, hirow⟩ := L4H.out.row
                          have HIR := hid hirow
                          subst hvup
                          clear hirow
                          have h1D := heap_lt L3J.out.2.2.2.1
                          go_wp2_with (at_builtin; refine wpList_append_lies _ rfl (.tmp 90) (.tmp 92) _ rfl W0.heap.size 56 i1 _ 1 24 Try.underlying57 hi1 hy0 hy1 hy2 rfl (by decide) _ k3 us rfl (L3J.out.2.2.2.2.2.1.alloc _) ⟨wr.heap.size, 0, none⟩ 1 1 [.slice ua' up.length uc'] rfl rfl (cell_one_new _ _ _) (by intro u hu; simp at hu; subst hu; rfl) (by decide) (by unfold maxLen; omega) (by omega) (by have := L3J.out.2.1.size; simp; omega) (wr.heap.size + 1) (by simp) ?_; intro g5 cap5 w5 ho5 hg5 _ _; have HO5 := hid ho5; have HG5 := hid hg5; have hd5 := L3J.out.blk HG5.out; have q1 := (box_two hd5).2; have q2 := frozen_of_row w5 W0.heap.size 1 _ _ hd5; clear ho5 hg5 hd5)
                          go_roundg (k - (k3 + 1))
                          case measure => have := HK3.out.1; omega
                          case rel =>
                            refine ⟨k3 + 1, sJ, U ++ [up], _, _, by go_num, hid ⟨by have := HK3.out.1; omega, fun l' hl' => ?_⟩, hid (L3J.out.put hw0 hB0 (by decide) HIR.out HO5.out HG5.out), hid ⟨fun hne => ?_, SJ.out.2⟩, hid (by omega)⟩
                            rotate_left
                            obtain ⟨hu1, hu2⟩ := SJ.out.1 hne
                            have em : j = mm := by have := HJ.out.1; omega
                            show U ++ [up] = (pups (psz s).1 k3 (psz s).2).1 ++ [(plist ((psz s).1.getD k3 0).toNat (pups (psz s).1 k3 (psz s).2).2).1] ∧ sJ = (plist ((psz s).1.getD k3 0).toNat (pups (psz s).1 k3 (psz s).2).2).2
                            rw [← HU2.out, ← HU1.out, ← HPS.out.1, HMM.out, ← em, ← hu1, ← hu2]
                            exact ⟨rfl, rfl⟩
                            rw [List.mem_append, List.mem_singleton] at hl'
                            rcases hl' with hl' | rfl
                            · exact HK3.out.2 l' hl'
                            · exact HJ.out.2.2
                      · have HSJ := hid hs4
                        clear hs4
                        by_cases hj : j < mm
                        · have hjn : (j : Int) < (mm : Int) := by omega
                          obtain ⟨ua', uc', hvup, hirow⟩ := L4H.out.row
                          have HIR := hid hirow
                          subst hvup
                          clear hirow
                          have h1D := heap_lt L3J.out.2.2.2.1
                          go_wp2_with (at_builtin; refine wpList_append_lies _ rfl (.tmp 90) (.tmp 92) _ rfl W0.heap.size 56 i1 _ 1 24 Try.underlying57 hi1 hy0 hy1 hy2 rfl (by decide) _ k3 us rfl (L3J.out.2.2.2.2.2.1.alloc _) ⟨wr.heap.size, 0, none⟩ 1 1 [.slice ua' up.length uc'] rfl rfl (cell_one_new _ _ _) (by intro u hu; simp at hu; subst hu; rfl) (by decide) (by unfold maxLen; omega) (by omega) (by have := L3J.out.2.1.size; simp; omega) (wr.heap.size + 1) (by simp) ?_; intro g5 cap5 w5 ho5 hg5 _ _; have HO5 := hid ho5; have HG5 := hid hg5; have hd5 := L3J.out.blk HG5.out; have q1 := (box_two hd5).2; have q2 := frozen_of_row w5 W0.heap.size 1 _ _ hd5; clear ho5 hg5 hd5)
                          go_roundg (k - (k3 + 1))
                          case measure => have := HK3.out.1; omega
                          case rel =>
                            refine ⟨k3 + 1, sJ, U ++ [up], _, _, by go_num, hid ⟨by have := HK3.out.1; omega, fun l' hl' => ?_⟩, hid (L3J.out.put hw0 hB0 (by decide) HIR.out HO5.out HG5.out), hid ⟨fun hne => absurd HSJ.out hne, SJ.out.2⟩, hid (by omega)⟩
                            rw [List.mem_append, List.mem_singleton] at hl'
                            rcases hl' with hl' | rfl
                            · exact HK3.out.2 l' hl'
                            · exact HJ.out.2.2
                        · have hjf : decide ((j : Int) < (mm : Int)) = false := decide_eq_false (by omega)
                          obtain ⟨ua', uc', hvup, hirow⟩ := L4H.out.row
                          have HIR := hid hirow
                          subst hvup
                          clear hirow
                          have h1D := heap_lt L3J.out.2.2.2.1
                          go_wp2_with (at_builtin; refine wpList_append_lies _ rfl (.tmp 90) (.tmp 92) _ rfl W0.heap.size 56 i1 _ 1 24 Try.underlying57 hi1 hy0 hy1 hy2 rfl (by decide) _ k3 us rfl (L3J.out.2.2.2.2.2.1.alloc _) ⟨wr.heap.size, 0, none⟩ 1 1 [.slice ua' up.length uc'] rfl rfl (cell_one_new _ _ _) (by intro u hu; simp at hu; subst hu; rfl) (by decide) (by unfold maxLen; omega) (by omega) (by have := L3J.out.2.1.size; simp; omega) (wr.heap.size + 1) (by simp) ?_; intro g5 cap5 w5 ho5 hg5 _ _; have HO5 := hid ho5; have HG5 := hid hg5; have hd5 := L3J.out.blk HG5.out; have q1 := (box_two hd5).2; have q2 := frozen_of_row w5 W0.heap.size 1 _ _ hd5; clear ho5 hg5 hd5)
                          go_roundg (k - (k3 + 1))
                          case measure => have := HK3.out.1; omega
                          case rel =>
                            refine ⟨k3 + 1, sJ, U ++ [up], _, _, by go_num, hid ⟨by have := HK3.out.1; omega, fun l' hl' => ?_⟩, hid (L3J.out.put hw0 hB0 (by decide) HIR.out HO5.out HG5.out), hid ⟨fun hne => absurd HSJ.out hne, SJ.out.2⟩, hid (by omega)⟩
                            rw [List.mem_append, List.mem_singleton] at hl'
                            rcases hl' with hl' | rfl
                            · exact HK3.out.2 l' hl'
                            · exact HJ.out.2.2
                  · have hk3f : decide ((k3 : Int) + 1 < (k : Int)) = false := decide_eq_false (by omega)
                    have HSU := hid hs3
                    have ek3 : k3 = (psz s).1.length - 1 := by rw [← HPS.out.1, HLN.out]; have := HK3b.out; omega
                    have HEK := hid ek3
                    clear hs3 ek3
                    obtain ⟨ua, uc, huv, hDm⟩ := L3H.out.dim (fun x hx => by have := HSb.out x hx; unfold I64; omega) (fun l hl x hx => by have := HUb.out l hl x hx; unfold I64; omega)
                    have HDm := hid hDm
                    cases huv
                    have CS3 := hid (CS.out.num (by decide) L3H.out.1 L3H.out.2.1)
                    obtain ⟨d0, d1⟩ := box_two L3H.out.2.2.2.1
                    obtain ⟨e0, e1⟩ := box_two CS3.out.2.2.2.1
                    have hzD := heap_lt L3H.out.2.2.2.1
                    have hzC := heap_lt CS3.out.2.2.2.1
                    clear hDm
                    go_wp2_with (at_builtin; refine wpList_append_lies _ rfl (.tmp 96) (.tmp 98) _ rfl w.heap.size 59 i0 _ 2 48 Try.underlying23 hi hz0 hz1 hz2 rfl (by decide) _ i (flat2 ps) rfl (CS3.out.2.2.2.2.1.alloc _) ⟨W3.heap.size, 0, none⟩ 1 1 [_, _] rfl rfl (two_cells _ _ _ _) (by intro u hu; simp at hu; rcases hu with rfl | rfl <;> rfl) (by decide) (by unfold maxLen; omega) (by omega) (by have := CS3.out.1.2.2.1.size; simp; omega) (W3.heap.size + 1) (by simp) ?_; intro g4 cap4 w4 ho4 hg4 _ _; have HP4 := hid (CS3.out.put (by decide) HDm.out ho4 hg4); obtain ⟨f0, f0'⟩ := box_two HP4.out.2; have f1 := frozen_of_row w4 (w.heap.size + 2) 0 _ _ HP4.out.2; clear ho4 hg4)
                    go_roundg (nd - (i + 1))
                    case measure => have := HI.out; omega
                    case rel =>
                      exact ⟨i + 1, _, _, _, _, by go_num, hid (by have := HI.out; omega), hid HP4.out.1, hid ⟨fun hne => pdims_next HDS.out HSS.out HPS.out.1 (by have := (SU.out.1 hne).1; rw [← HEK.out]; exact this) (by have := (SU.out.1 hne).2; rw [← HEK.out]; exact this), SU.out.2⟩⟩
                · have HSN := hid hs3
                  clear hs3
                  by_cases hk3 : k3 + 1 < k
                  · have hk3n : (k3 : Int) + 1 < (k : Int) := by omega
                    obtain ⟨ua, uc, huv, hDm⟩ := L3H.out.dim (fun x hx => by have := HSb.out x hx; unfold I64; omega) (fun l hl x hx => by have := HUb.out l hl x hx; unfold I64; omega)
                    have HDm := hid hDm
                    cases huv
                    have CS3 := hid (CS.out.num (by decide) L3H.out.1 L3H.out.2.1)
                    obtain ⟨d0, d1⟩ := box_two L3H.out.2.2.2.1
                    obtain ⟨e0, e1⟩ := box_two CS3.out.2.2.2.1
                    have hzD := heap_lt L3H.out.2.2.2.1
                    have hzC := heap_lt CS3.out.2.2.2.1
                    clear hDm
                    go_wp2_with (at_builtin; refine wpList_append_lies _ rfl (.tmp 96) (.tmp 98) _ rfl w.heap.size 59 i0 _ 2 48 Try.underlying23 hi hz0 hz1 hz2 rfl (by decide) _ i (flat2 ps) rfl (CS3.out.2.2.2.2.1.alloc _) ⟨W3.heap.size, 0, none⟩ 1 1 [_, _] rfl rfl (two_cells _ _ _ _) (by intro u hu; simp at hu; rcases hu with rfl | rfl <;> rfl) (by decide) (by unfold maxLen; omega) (by omega) (by have := CS3.out.1.2.2.1.size; simp; omega) (W3.heap.size + 1) (by simp) ?_; intro g4 cap4 w4 ho4 hg4 _ _; have HP4 := hid (CS3.out.put (by decide) HDm.out ho4 hg4); obtain ⟨f0, f0'⟩ := box_two HP4.out.2; have f1 := frozen_of_row w4 (w.heap.size + 2) 0 _ _ HP4.out.2; clear ho4 hg4)
                    go_roundg (nd - (i + 1))
                    case measure => have := HI.out; omega
                    case rel =>
                      exact ⟨i + 1, _, _, _, _, by go_num, hid (by have := HI.out; omega), hid HP4.out.1, hid ⟨fun hne => absurd HSN.out hne, SU.out.2⟩⟩
                  · have hk3f : decide ((k3 : Int) + 1 < (k : Int)) = false := decide_eq_false (by omega)
                    obtain ⟨ua, uc, huv, hDm⟩ := L3H.out.dim (fun x hx => by have := HSb.out x hx; unfold I64; omega) (fun l hl x hx => by have := HUb.out l hl x hx; unfold I64; omega)
                    have HDm := hid hDm
                    cases huv
                    have CS3 := hid (CS.out.num (by decide) L3H.out.1 L3H.out.2.1)
                    obtain ⟨d0, d1⟩ := box_two L3H.out.2.2.2.1
                    obtain ⟨e0, e1⟩ := box_two CS3.out.2.2.2.1
                    have hzD := heap_lt L3H.out.2.2.2.1
                    have hzC := heap_lt CS3.out.2.2.2.1
                    clear hDm
                    go_wp2_with (at_builtin; refine wpList_append_lies _ rfl (.tmp 96) (.tmp 98) _ rfl w.heap.size 59 i0 _ 2 48 Try.underlying23 hi hz0 hz1 hz2 rfl (by decide) _ i (flat2 ps) rfl (CS3.out.2.2.2.2.1.alloc _) ⟨W3.heap.size, 0, none⟩ 1 1 [_, _] rfl rfl (two_cells _ _ _ _) (by intro u hu; simp at hu; rcases hu with rfl | rfl <;> rfl) (by decide) (by unfold maxLen; omega) (by omega) (by have := CS3.out.1.2.2.1.size; simp; omega) (W3.heap.size + 1) (by simp) ?_; intro g4 cap4 w4 ho4 hg4 _ _; have HP4 := hid (CS3.out.put (by decide) HDm.out ho4 hg4); obtain ⟨f0, f0'⟩ := box_two HP4.out.2; have f1 := frozen_of_row w4 (w.heap.size + 2) 0 _ _ HP4.out.2; clear ho4 hg4)
                    go_roundg (nd - (i + 1))
                    case measure => have := HI.out; omega
                    case rel =>
                      exact ⟨i + 1, _, _, _, _, by go_num, hid (by have := HI.out; omega), hid HP4.out.1, hid ⟨fun hne => absurd HSN.out hne, SU.out.2⟩⟩
          · by_cases hk : k < nn
            · have hkn : (k : Int) < (nn : Int) := by omega
              obtain ⟨sa, sc, rfl, l3h⟩ := LL.out.l3
              have L3H := hid l3h
              have HSb := hid HK.out.2.2
              have HUb : Hid (∀ l' ∈ ([] : List (List Int)), ∀ x ∈ l', 0 ≤ x ∧ x ≤ 40) := hid (by intro l' hl'; simp at hl')
              have HF := hid (SL.out.2 hs2)
              have HSN := hid hs2
              clear hs2 l3h
              by_cases h1n : 1 < nn
              · have h1n' : (1 : Int) < (nn : Int) := by omega
                go_wp2
                refine wp_loop_rounds 1 ?_
                rw [rounds_succ]
                obtain ⟨ua, uc, huv, hDm⟩ := L3H.out.dim (fun x hx => by have := HSb.out x hx; unfold I64; omega) (fun l hl x hx => by have := HUb.out l hl x hx; unfold I64; omega)
                have HDm := hid hDm
                cases huv
                have CS3 := hid (CS.out.num (by decide) L3H.out.1 L3H.out.2.1)
                obtain ⟨d0, d1⟩ := box_two L3H.out.2.2.2.1
                obtain ⟨e0, e1⟩ := box_two CS3.out.2.2.2.1
                have hzD := heap_lt L3H.out.2.2.2.1
                have hzC := heap_lt CS3.out.2.2.2.1
                clear hDm
                go_wp2_with (at_builtin; refine wpList_append_lies _ rfl (.tmp 96) (.tmp 98) _ rfl w.heap.size 59 i0 _ 2 48 Try.underlying23 hi hz0 hz1 hz2 rfl (by decide) _ i (flat2 ps) rfl (CS3.out.2.2.2.2.1.alloc _) ⟨W2.heap.size, 0, none⟩ 1 1 [_, _] rfl rfl (two_cells _ _ _ _) (by intro u hu; simp at hu; rcases hu with rfl | rfl <;> rfl) (by decide) (by unfold maxLen; omega) (by omega) (by have := CS3.out.1.2.2.1.size; simp; omega) (W2.heap.size + 1) (by simp) ?_; intro g4 cap4 w4 ho4 hg4 _ _; have HP4 := hid (CS3.out.put (by decide) HDm.out ho4 hg4); obtain ⟨f0, f0'⟩ := box_two HP4.out.2; have f1 := frozen_of_row w4 (w.heap.size + 2) 0 _ _ HP4.out.2; clear ho4 hg4)
                go_roundg (nd - (i + 1))
                case measure => have := HI.out; omega
                case rel =>
                  exact ⟨i + 1, _, _, _, _, by go_num, hid (by have := HI.out; omega), hid HP4.out.1, hid ⟨fun hne => absurd HSN.out hne, fun _ => HF.out⟩⟩
              · have h1f : decide ((1 : Int) < (nn : Int)) = false := decide_eq_false (by omega)
                go_wp2
                refine wp_loop_rounds 1 ?_
                rw [rounds_succ]
                obtain ⟨ua, uc, huv, hDm⟩ := L3H.out.dim (fun x hx => by have := HSb.out x hx; unfold I64; omega) (fun l hl x hx => by have := HUb.out l hl x hx; unfold I64; omega)
                have HDm := hid hDm
                cases huv
                have CS3 := hid (CS.out.num (by decide) L3H.out.1 L3H.out.2.1)
                obtain ⟨d0, d1⟩ := box_two L3H.out.2.2.2.1
                obtain ⟨e0, e1⟩ := box_two CS3.out.2.2.2.1
                have hzD := heap_lt L3H.out.2.2.2.1
                have hzC := heap_lt CS3.out.2.2.2.1
                clear hDm
                go_wp2_with (at_builtin; refine wpList_append_lies _ rfl (.tmp 96) (.tmp 98) _ rfl w.heap.size 59 i0 _ 2 48 Try.underlying23 hi hz0 hz1 hz2 rfl (by decide) _ i (flat2 ps) rfl (CS3.out.2.2.2.2.1.alloc _) ⟨W2.heap.size, 0, none⟩ 1 1 [_, _] rfl rfl (two_cells _ _ _ _) (by intro u hu; simp at hu; rcases hu with rfl | rfl <;> rfl) (by decide) (by unfold maxLen; omega) (by omega) (by have := CS3.out.1.2.2.1.size; simp; omega) (W2.heap.size + 1) (by simp) ?_; intro g4 cap4 w4 ho4 hg4 _ _; have HP4 := hid (CS3.out.put (by decide) HDm.out ho4 hg4); obtain ⟨f0, f0'⟩ := box_two HP4.out.2; have f1 := frozen_of_row w4 (w.heap.size + 2) 0 _ _ HP4.out.2; clear ho4 hg4)
                go_roundg (nd - (i + 1))
                case measure => have := HI.out; omega
                case rel =>
                  exact ⟨i + 1, _, _, _, _, by go_num, hid (by have := HI.out; omega), hid HP4.out.1, hid ⟨fun hne => absurd HSN.out hne, fun _ => HF.out⟩⟩
            · have hkf : decide ((k : Int) < (nn : Int)) = false := decide_eq_false (by omega)
              obtain ⟨sa, sc, rfl, l3h⟩ := LL.out.l3
              have L3H := hid l3h
              have HSb := hid HK.out.2.2
              have HUb : Hid (∀ l' ∈ ([] : List (List Int)), ∀ x ∈ l', 0 ≤ x ∧ x ≤ 40) := hid (by intro l' hl'; simp at hl')
              have HF := hid (SL.out.2 hs2)
              have HSN := hid hs2
              clear hs2 l3h
              by_cases h1n : 1 < nn
              · have h1n' : (1 : Int) < (nn : Int) := by omega
                go_wp2
                refine wp_loop_rounds 1 ?_
                rw [rounds_succ]
                obtain ⟨ua, uc, huv, hDm⟩ := L3H.out.dim (fun x hx => by have := HSb.out x hx; unfold I64; omega) (fun l hl x hx => by have := HUb.out l hl x hx; unfold I64; omega)
                have HDm := hid hDm
                cases huv
                have CS3 := hid (CS.out.num (by decide) L3H.out.1 L3H.out.2.1)
                obtain ⟨d0, d1⟩ := box_two L3H.out.2.2.2.1
                obtain ⟨e0, e1⟩ := box_two CS3.out.2.2.2.1
                have hzD := heap_lt L3H.out.2.2.2.1
                have hzC := heap_lt CS3.out.2.2.2.1
                clear hDm
                go_wp2_with (at_builtin; refine wpList_append_lies _ rfl (.tmp 96) (.tmp 98) _ rfl w.heap.size 59 i0 _ 2 48 Try.underlying23 hi hz0 hz1 hz2 rfl (by decide) _ i (flat2 ps) rfl (CS3.out.2.2.2.2.1.alloc _) ⟨W2.heap.size, 0, none⟩ 1 1 [_, _] rfl rfl (two_cells _ _ _ _) (by intro u hu; simp at hu; rcases hu with rfl | rfl <;> rfl) (by decide) (by unfold maxLen; omega) (by omega) (by have := CS3.out.1.2.2.1.size; simp; omega) (W2.heap.size + 1) (by simp) ?_; intro g4 cap4 w4 ho4 hg4 _ _; have HP4 := hid (CS3.out.put (by decide) HDm.out ho4 hg4); obtain ⟨f0, f0'⟩ := box_two HP4.out.2; have f1 := frozen_of_row w4 (w.heap.size + 2) 0 _ _ HP4.out.2; clear ho4 hg4)
                go_roundg (nd - (i + 1))
                case measure => have := HI.out; omega
                case rel =>
                  exact ⟨i + 1, _, _, _, _, by go_num, hid (by have := HI.out; omega), hid HP4.out.1, hid ⟨fun hne => absurd HSN.out hne, fun _ => HF.out⟩⟩
              · have h1f : decide ((1 : Int) < (nn : Int)) = false := decide_eq_false (by omega)
                go_wp2
                refine wp_loop_rounds 1 ?_
                rw [rounds_succ]
                obtain ⟨ua, uc, huv, hDm⟩ := L3H.out.dim (fun x hx => by have := HSb.out x hx; unfold I64; omega) (fun l hl x hx => by have := HUb.out l hl x hx; unfold I64; omega)
                have HDm := hid hDm
                cases huv
                have CS3 := hid (CS.out.num (by decide) L3H.out.1 L3H.out.2.1)
                obtain ⟨d0, d1⟩ := box_two L3H.out.2.2.2.1
                obtain ⟨e0, e1⟩ := box_two CS3.out.2.2.2.1
                have hzD := heap_lt L3H.out.2.2.2.1
                have hzC := heap_lt CS3.out.2.2.2.1
                clear hDm
                go_wp2_with (at_builtin; refine wpList_append_lies _ rfl (.tmp 96) (.tmp 98) _ rfl w.heap.size 59 i0 _ 2 48 Try.underlying23 hi hz0 hz1 hz2 rfl (by decide) _ i (flat2 ps) rfl (CS3.out.2.2.2.2.1.alloc _) ⟨W2.heap.size, 0, none⟩ 1 1 [_, _] rfl rfl (two_cells _ _ _ _) (by intro u hu; simp at hu; rcases hu with rfl | rfl <;> rfl) (by decide) (by unfold maxLen; omega) (by omega) (by have := CS3.out.1.2.2.1.size; simp; omega) (W2.heap.size + 1) (by simp) ?_; intro g4 cap4 w4 ho4 hg4 _ _; have HP4 := hid (CS3.out.put (by decide) HDm.out ho4 hg4); obtain ⟨f0, f0'⟩ := box_two HP4.out.2; have f1 := frozen_of_row w4 (w.heap.size + 2) 0 _ _ HP4.out.2; clear ho4 hg4)
                go_roundg (nd - (i + 1))
                case measure => have := HI.out; omega
                case rel =>
                  exact ⟨i + 1, _, _, _, _, by go_num, hid (by have := HI.out; omega), hid HP4.out.1, hid ⟨fun hne => absurd HSN.out hne, fun _ => HF.out⟩⟩
      · have hinf : decide ((i : Int) < (nd : Int)) = false := decide_eq_false (by omega)
        obtain ⟨hds, hss⟩ := SD.out.1 (by rw [hs]; simp)
        have hne2 : ¬ pst2 b = none := fun e => by have := pdims_stuck (s := pst2 b) (k := 0) (n := i) (Nat.zero_le _) e; rw [← hss, hs] at this; cases this
        have hnd := HND.out hne2
        obtain rfl : i = nd := by have := HI.out; omega
        have HPA : Hid (pall b = (ds, some rl)) := hid (by rw [pall_eq, ← hnd]; exact Prod.ext hds.symm (by rw [← hss, hs]))
        obtain ⟨da, dc, rfl, hcat⟩ := CS.out.cat
        have HCat := hid hcat
        have HMI : Hid (I64 M) := hid (by unfold I64; omega)
        obtain ⟨c2, c3⟩ := box_two CS.out.2.2.2.1
        have hB0 := CS.out.1.2.1
        have hC0 := heap_lt CS.out.2.2.2.1
        have hrn := HRR.out.1
        have KS : Hid (∀ x, Below W0.heap.size W0 x → Below W0.heap.size W0 x ∧ x.cell? ⟨w.heap.size + 1, 0, none⟩ = some (.slice ra rn rc) ∧ x.cell? ⟨w.heap.size + 1, 1, none⟩ = some (.bool false) ∧ x.cell? ⟨w.heap.size + 2, 0, none⟩ = some (.slice da i dc) ∧ x.cell? ⟨w.heap.size + 2, 1, none⟩ = some (.int .i64 M) ∧ (convert 22 9 (.slice a n c)).run Try.prog x = .ok (.string (txt b)) x) := hid fun x hX => ⟨hX, ((bcell hX).1 _ _ hB0).trans c0, ((bcell hX).1 _ _ hB0).trans c1, ((bcell hX).1 _ _ hC0).trans c2, ((bcell hX).1 _ _ hC0).trans c3, conv8 (HRow.out.below (bt CS.out.1.2.2.1 hX))⟩
        clear hcat hds hss hne2 hnd hs
        by_cases hr0 : rn = 0
        · have hrl : rl = [] := List.length_eq_zero_iff.mp (by omega)
          subst hrl
          subst hr0
          clear hrn
          cases hg : goodC ds M with
          | false =>
            have HF : Hid (pread b = none) := hid (pread_no2 (by rw [HPA.out, ← HME.out]; exact hg))
            go_wp2
            refine wp_region_noPanic ?_
            refine wp_region_held_drew (S := fun x => Below W0.heap.size W0 x ∧ x.cell? ⟨w.heap.size + 1, 0, none⟩ = some (.slice ra 0 rc) ∧ x.cell? ⟨w.heap.size + 1, 1, none⟩ = some (.bool false) ∧ x.cell? ⟨w.heap.size + 2, 0, none⟩ = some (.slice da i dc) ∧ x.cell? ⟨w.heap.size + 2, 1, none⟩ = some (.int .i64 M) ∧ (convert 22 9 (.slice a n c)).run Try.prog x = .ok (.string (txt b)) x) (by kernel_rfl) (keep_drew KS) (fun hHeld => ?_)
            refine wpAnyH_take (i := 0) (v := ?_) (by simp only [List.getElem?_toArray, List.getElem?_cons_succ, List.getElem?_cons_zero]; exact rfl) (by kernel_rfl) (by kernel_rfl) (by kernel_rfl) (fun _ _ _ h => h) (Or.inl ⟨by rfl, ?_⟩) (by assumption) ?_
            rotate_left
            · intro w hSw
              try dsimp only at hSw
              go_simp
              try with_reducible rfl
            try simp only [Act.put, List.setIfInBounds_toArray, List.set_cons_zero, List.set_cons_succ]
            refine wpAnyH_take (i := 1) (v := ?_) (by simp only [List.getElem?_toArray, List.getElem?_cons_succ, List.getElem?_cons_zero]; exact rfl) (by kernel_rfl) (by kernel_rfl) (by kernel_rfl) (fun _ _ _ h => h) (Or.inl ⟨by rfl, ?_⟩) (by assumption) ?_
            rotate_left
            · intro w hSw
              try dsimp only at hSw
              go_simp
              try with_reducible rfl
            try simp only [Act.put, List.setIfInBounds_toArray, List.set_cons_zero, List.set_cons_succ]
            refine wpAnyH_take (i := 2) (v := ?_) (by simp only [List.getElem?_toArray, List.getElem?_cons_succ, List.getElem?_cons_zero]; exact rfl) (by kernel_rfl) (by kernel_rfl) (by kernel_rfl) (fun _ _ _ h => h) (Or.inl ⟨by rfl, ?_⟩) (by assumption) ?_
            rotate_left
            · intro w hSw
              try dsimp only at hSw
              go_simp
              try with_reducible rfl
            try simp only [Act.put, List.setIfInBounds_toArray, List.set_cons_zero, List.set_cons_succ]
            refine wpAnyH_take (i := 3) (v := ?_) (by simp only [List.getElem?_toArray, List.getElem?_cons_succ, List.getElem?_cons_zero]; exact rfl) (by kernel_rfl) (by kernel_rfl) (by kernel_rfl) (fun _ _ _ h => h) (Or.inl ⟨by rfl, ?_⟩) (by assumption) ?_
            rotate_left
            · intro w hSw
              try dsimp only at hSw
              go_simp
              try with_reducible rfl
            try simp only [Act.put, List.setIfInBounds_toArray, List.set_cons_zero, List.set_cons_succ]
            refine wpAnyH_take (i := 4) (v := ?_) (by simp only [List.getElem?_toArray, List.getElem?_cons_succ, List.getElem?_cons_zero]; exact rfl) (by kernel_rfl) (by kernel_rfl) (by kernel_rfl) (fun _ _ _ h => h) (Or.inl ⟨by rfl, ?_⟩) (by assumption) ?_
            rotate_left
            · intro w hSw
              try dsimp only at hSw
              go_simp
              try with_reducible rfl
            try simp only [Act.put, List.setIfInBounds_toArray, List.set_cons_zero, List.set_cons_succ]
            refine wpAnyH_take (i := 5) (v := ?_) (by simp only [List.getElem?_toArray, List.getElem?_cons_succ, List.getElem?_cons_zero]; exact rfl) (by kernel_rfl) (by kernel_rfl) (by kernel_rfl) (fun _ _ _ h => h) (Or.inl ⟨by rfl, ?_⟩) (by assumption) ?_
            rotate_left
            · intro w hSw
              try dsimp only at hSw
              go_simp
              try with_reducible rfl
            try simp only [Act.put, List.setIfInBounds_toArray, List.set_cons_zero, List.set_cons_succ]
            refine wpAnyH_take (i := 6) (v := ?_) (by simp only [List.getElem?_toArray, List.getElem?_cons_succ, List.getElem?_cons_zero]; exact rfl) (by kernel_rfl) (by kernel_rfl) (by kernel_rfl) (fun _ _ _ h => h) (Or.inl ⟨by rfl, ?_⟩) (by assumption) ?_
            rotate_left
            · intro w hSw
              try dsimp only at hSw
              go_simp
              try with_reducible rfl
            try simp only [Act.put, List.setIfInBounds_toArray, List.set_cons_zero, List.set_cons_succ]
            refine wpAnyH_take (i := 7) (v := ?_) (by simp only [List.getElem?_toArray, List.getElem?_cons_succ, List.getElem?_cons_zero]; exact rfl) (by kernel_rfl) (by kernel_rfl) (by kernel_rfl) (fun _ _ _ h => h) (Or.inl ⟨by rfl, ?_⟩) (by assumption) ?_
            rotate_left
            · intro w hSw
              try dsimp only at hSw
              go_simp
              try with_reducible rfl
            try simp only [Act.put, List.setIfInBounds_toArray, List.set_cons_zero, List.set_cons_succ]
            refine wpAnyH_take (i := 8) (v := ?_) (by simp only [List.getElem?_toArray, List.getElem?_cons_succ, List.getElem?_cons_zero]; exact rfl) (by kernel_rfl) (by kernel_rfl) (by kernel_rfl) (fun _ _ _ h => h) (Or.inl ⟨by rfl, ?_⟩) (by assumption) ?_
            rotate_left
            · intro w hSw
              try dsimp only at hSw
              go_simp
              try with_reducible rfl
            try simp only [Act.put, List.setIfInBounds_toArray, List.set_cons_zero, List.set_cons_succ]
            refine wpAnyH_take (i := 9) (v := ?_) (by simp only [List.getElem?_toArray, List.getElem?_cons_succ, List.getElem?_cons_zero]; exact rfl) (by kernel_rfl) (by kernel_rfl) (by kernel_rfl) (fun _ _ _ h => h) (Or.inl ⟨by rfl, ?_⟩) (by assumption) ?_
            rotate_left
            · intro w hSw
              try dsimp only at hSw
              go_simp
              try with_reducible rfl
            try simp only [Act.put, List.setIfInBounds_toArray, List.set_cons_zero, List.set_cons_succ]
            refine wpAnyH_take (i := 10) (v := ?_) (by simp only [List.getElem?_toArray, List.getElem?_cons_succ, List.getElem?_cons_zero]; exact rfl) (by kernel_rfl) (by kernel_rfl) (by kernel_rfl) (fun _ _ _ h => h) (Or.inl ⟨by rfl, ?_⟩) (by assumption) ?_
            rotate_left
            · intro w hSw
              try dsimp only at hSw
              go_simp
              try with_reducible rfl
            try simp only [Act.put, List.setIfInBounds_toArray, List.set_cons_zero, List.set_cons_succ]
            refine wpAnyH_take (i := 11) (v := ?_) (by simp only [List.getElem?_toArray, List.getElem?_cons_succ, List.getElem?_cons_zero]; exact rfl) (by kernel_rfl) (by kernel_rfl) (by kernel_rfl) (fun _ _ _ h => h) (Or.inl ⟨by rfl, ?_⟩) (by assumption) ?_
            rotate_left
            · intro w hSw
              try dsimp only at hSw
              go_simp
              try with_reducible rfl
            try simp only [Act.put, List.setIfInBounds_toArray, List.set_cons_zero, List.set_cons_succ]
            refine wpAnyH_take (i := 12) (v := ?_) (by simp only [List.getElem?_toArray, List.getElem?_cons_succ, List.getElem?_cons_zero]; exact rfl) (by kernel_rfl) (by kernel_rfl) (by kernel_rfl) (fun _ _ _ h => h) (Or.inl ⟨by rfl, ?_⟩) (by assumption) ?_
            rotate_left
            · intro w hSw
              try dsimp only at hSw
              go_simp
              try with_reducible rfl
            try simp only [Act.put, List.setIfInBounds_toArray, List.set_cons_zero, List.set_cons_succ]
            refine wpAnyH_take (i := 13) (v := ?_) (by simp only [List.getElem?_toArray, List.getElem?_cons_succ, List.getElem?_cons_zero]; exact rfl) (by kernel_rfl) (by kernel_rfl) (by kernel_rfl) (fun _ _ _ h => h) (Or.inl ⟨by rfl, ?_⟩) (by assumption) ?_
            rotate_left
            · intro w hSw
              try dsimp only at hSw
              go_simp
              try with_reducible rfl
            try simp only [Act.put, List.setIfInBounds_toArray, List.set_cons_zero, List.set_cons_succ]
            refine wpAnyH_ready (rs := [14]) (by kernel_rfl) (by simp) ?_
            refine AllReadyH.cons (by simp only [List.getElem?_toArray, List.getElem?_cons_succ, List.getElem?_cons_zero]; exact rfl) (fun K hK => ?_) AllReadyH.nil
            go_simp
            (go_at_call 37; refine (rgoodC_any _ _ _ ds _ _ (HCat.out.below hHeld.1) HMI.out).mono ?_; rintro e w5 ⟨rfl, hb5⟩)
            refine hK.out _ _ (keep_step hb5 hHeld KS) (fun hHeld2 => ?_)
            clear hK K hHeld
            have hHeld := hHeld2
            clear hHeld2
            try simp only [Act.put, List.setIfInBounds_toArray, List.set_cons_zero, List.set_cons_succ]
            refine wpAnyH_take (i := 15) (v := ?_) (by simp only [List.getElem?_toArray, List.getElem?_cons_succ, List.getElem?_cons_zero]; exact rfl) (by kernel_rfl) (by kernel_rfl) (by kernel_rfl) (fun _ _ _ h => h) (Or.inl ⟨by rfl, ?_⟩) (by assumption) ?_
            rotate_left
            · intro w hSw
              try dsimp only at hSw
              go_simp
              try with_reducible rfl
            try simp only [Act.put, List.setIfInBounds_toArray, List.set_cons_zero, List.set_cons_succ]
            refine wpAnyH_take (i := 16) (v := ?_) (by simp only [List.getElem?_toArray, List.getElem?_cons_succ, List.getElem?_cons_zero]; exact rfl) (by kernel_rfl) (by kernel_rfl) (by kernel_rfl) (fun _ _ _ h => h) (Or.inl ⟨by rfl, ?_⟩) (by assumption) ?_
            rotate_left
            · intro w hSw
              try dsimp only at hSw
              go_simp
              try with_reducible rfl
            try simp only [Act.put, List.setIfInBounds_toArray, List.set_cons_zero, List.set_cons_succ]
            refine wpAnyH_take (i := 17) (v := ?_) (by simp only [List.getElem?_toArray, List.getElem?_cons_succ, List.getElem?_cons_zero]; exact rfl) (by kernel_rfl) (by kernel_rfl) (by kernel_rfl) (fun _ _ _ h => h) (Or.inl ⟨by rfl, ?_⟩) (by assumption) ?_
            rotate_left
            · intro w hSw
              try dsimp only at hSw
              go_simp
              try with_reducible rfl
            try simp only [Act.put, List.setIfInBounds_toArray, List.set_cons_zero, List.set_cons_succ]
            refine wpAnyH_take (i := 18) (v := undef) (by simp only [List.getElem?_toArray, List.getElem?_cons_succ, List.getElem?_cons_zero]; exact rfl) (by kernel_rfl) (by kernel_rfl) (by kernel_rfl) (fun _ _ _ h => h) (Or.inr ⟨by rfl, rfl⟩) (by assumption) ?_
            try simp only [Act.put, List.setIfInBounds_toArray, List.set_cons_zero, List.set_cons_succ]
            refine wpAnyH_take (i := 19) (v := undef) (by simp only [List.getElem?_toArray, List.getElem?_cons_succ, List.getElem?_cons_zero]; exact rfl) (by kernel_rfl) (by kernel_rfl) (by kernel_rfl) (fun _ _ _ h => h) (Or.inr ⟨by rfl, rfl⟩) (by assumption) ?_
            try simp only [Act.put, List.setIfInBounds_toArray, List.set_cons_zero, List.set_cons_succ]
            refine wpAnyH_take (i := 20) (v := undef) (by simp only [List.getElem?_toArray, List.getElem?_cons_succ, List.getElem?_cons_zero]; exact rfl) (by kernel_rfl) (by kernel_rfl) (by kernel_rfl) (fun _ _ _ h => h) (Or.inr ⟨by rfl, rfl⟩) (by assumption) ?_
            try simp only [Act.put, List.setIfInBounds_toArray, List.set_cons_zero, List.set_cons_succ]
            refine wpAnyH_take (i := 21) (v := undef) (by simp only [List.getElem?_toArray, List.getElem?_cons_succ, List.getElem?_cons_zero]; exact rfl) (by kernel_rfl) (by kernel_rfl) (by kernel_rfl) (fun _ _ _ h => h) (Or.inr ⟨by rfl, rfl⟩) (by assumption) ?_
            try simp only [Act.put, List.setIfInBounds_toArray, List.set_cons_zero, List.set_cons_succ]
            refine wpAnyH_take (i := 22) (v := undef) (by simp only [List.getElem?_toArray, List.getElem?_cons_succ, List.getElem?_cons_zero]; exact rfl) (by kernel_rfl) (by kernel_rfl) (by kernel_rfl) (fun _ _ _ h => h) (Or.inr ⟨by rfl, rfl⟩) (by assumption) ?_
            try simp only [Act.put, List.setIfInBounds_toArray, List.set_cons_zero, List.set_cons_succ]
            refine wpAnyH_take (i := 23) (v := undef) (by simp only [List.getElem?_toArray, List.getElem?_cons_succ, List.getElem?_cons_zero]; exact rfl) (by kernel_rfl) (by kernel_rfl) (by kernel_rfl) (fun _ _ _ h => h) (Or.inr ⟨by rfl, rfl⟩) (by assumption) ?_
            try simp only [Act.put, List.setIfInBounds_toArray, List.set_cons_zero, List.set_cons_succ]
            refine wpAnyH_take (i := 24) (v := ?_) (by simp only [List.getElem?_toArray, List.getElem?_cons_succ, List.getElem?_cons_zero]; exact rfl) (by kernel_rfl) (by kernel_rfl) (by kernel_rfl) (fun _ _ _ h => h) (Or.inl ⟨by rfl, ?_⟩) (by assumption) ?_
            rotate_left
            · intro w hSw
              try dsimp only at hSw
              go_simp
              try with_reducible rfl
            try simp only [Act.put, List.setIfInBounds_toArray, List.set_cons_zero, List.set_cons_succ]
            refine wpAnyH_done (by kernel_rfl) ?_ _
            refine NoPanic.normal ?_
            have CSX := hid (CS.out.grow0 hHeld.1)
            clear hHeld KS
            obtain ⟨z0, z1⟩ := box_two CSX.out.2.2.1
            have z2 := frozen_of_row w5 w.heap.size 0 _ _ CSX.out.2.2.1
            have z3 := frozen_of_row w5 w.heap.size 1 _ _ CSX.out.2.2.1
            go_wp2
            obtain ⟨W5, hW5⟩ : ∃ W, W = (w5.setCell ⟨w.heap.size, 0, none⟩ (.slice none 0 0)).setCell ⟨w.heap.size, 1, none⟩ (.int .i64 0) := ⟨_, rfl⟩
            rw [← hW5]
            obtain ⟨hb5, H5, _⟩ := CSX.out.fin hW5
            obtain ⟨x0, x1⟩ := box_two H5
            obtain ⟨p1, p2, p3⟩ := rd_none HF.out
            exact bodyPost_ret (v := .tuple #[.agg #[.slice none 0 0, .int .i64 0], .bool false]) (by simp [results, Try.results13, go_sem, x0, x1]) rfl ⟨⟨none, 0, 0, by rw [p2, p3], by rw [p1]; exact cat_nil _⟩, hb5⟩
          | true =>
            have HP : Hid (pread b = some (ds, M)) := hid (by rw [pread_yes (by rw [HPA.out]) (by rw [HPA.out, ← HME.out]; exact hg), HPA.out, ← HME.out])
            have HBY : Hid (bytesC ds M = b) := hid (by rw [bytesC_nums hg]; exact (pread_was (fun x hx => (HRow.out.2.2.2.1 x hx).1) HP.out).2)
            go_wp2
            refine wp_region_noPanic ?_
            refine wp_region_held_drew (S := fun x => Below W0.heap.size W0 x ∧ x.cell? ⟨w.heap.size + 1, 0, none⟩ = some (.slice ra 0 rc) ∧ x.cell? ⟨w.heap.size + 1, 1, none⟩ = some (.bool false) ∧ x.cell? ⟨w.heap.size + 2, 0, none⟩ = some (.slice da i dc) ∧ x.cell? ⟨w.heap.size + 2, 1, none⟩ = some (.int .i64 M) ∧ (convert 22 9 (.slice a n c)).run Try.prog x = .ok (.string (txt b)) x) (by kernel_rfl) (keep_drew KS) (fun hHeld => ?_)
            refine wpAnyH_take (i := 0) (v := ?_) (by simp only [List.getElem?_toArray, List.getElem?_cons_succ, List.getElem?_cons_zero]; exact rfl) (by kernel_rfl) (by kernel_rfl) (by kernel_rfl) (fun _ _ _ h => h) (Or.inl ⟨by rfl, ?_⟩) (by assumption) ?_
            rotate_left
            · intro w hSw
              try dsimp only at hSw
              go_simp
              try with_reducible rfl
            try simp only [Act.put, List.setIfInBounds_toArray, List.set_cons_zero, List.set_cons_succ]
            refine wpAnyH_take (i := 1) (v := ?_) (by simp only [List.getElem?_toArray, List.getElem?_cons_succ, List.getElem?_cons_zero]; exact rfl) (by kernel_rfl) (by kernel_rfl) (by kernel_rfl) (fun _ _ _ h => h) (Or.inl ⟨by rfl, ?_⟩) (by assumption) ?_
            rotate_left
            · intro w hSw
              try dsimp only at hSw
              go_simp
              try with_reducible rfl
            try simp only [Act.put, List.setIfInBounds_toArray, List.set_cons_zero, List.set_cons_succ]
            refine wpAnyH_take (i := 2) (v := ?_) (by simp only [List.getElem?_toArray, List.getElem?_cons_succ, List.getElem?_cons_zero]; exact rfl) (by kernel_rfl) (by kernel_rfl) (by kernel_rfl) (fun _ _ _ h => h) (Or.inl ⟨by rfl, ?_⟩) (by assumption) ?_
            rotate_left
            · intro w hSw
              try dsimp only at hSw
              go_simp
              try with_reducible rfl
            try simp only [Act.put, List.setIfInBounds_toArray, List.set_cons_zero, List.set_cons_succ]
            refine wpAnyH_take (i := 3) (v := ?_) (by simp only [List.getElem?_toArray, List.getElem?_cons_succ, List.getElem?_cons_zero]; exact rfl) (by kernel_rfl) (by kernel_rfl) (by kernel_rfl) (fun _ _ _ h => h) (Or.inl ⟨by rfl, ?_⟩) (by assumption) ?_
            rotate_left
            · intro w hSw
              try dsimp only at hSw
              go_simp
              try with_reducible rfl
            try simp only [Act.put, List.setIfInBounds_toArray, List.set_cons_zero, List.set_cons_succ]
            refine wpAnyH_take (i := 4) (v := ?_) (by simp only [List.getElem?_toArray, List.getElem?_cons_succ, List.getElem?_cons_zero]; exact rfl) (by kernel_rfl) (by kernel_rfl) (by kernel_rfl) (fun _ _ _ h => h) (Or.inl ⟨by rfl, ?_⟩) (by assumption) ?_
            rotate_left
            · intro w hSw
              try dsimp only at hSw
              go_simp
              try with_reducible rfl
            try simp only [Act.put, List.setIfInBounds_toArray, List.set_cons_zero, List.set_cons_succ]
            refine wpAnyH_take (i := 5) (v := ?_) (by simp only [List.getElem?_toArray, List.getElem?_cons_succ, List.getElem?_cons_zero]; exact rfl) (by kernel_rfl) (by kernel_rfl) (by kernel_rfl) (fun _ _ _ h => h) (Or.inl ⟨by rfl, ?_⟩) (by assumption) ?_
            rotate_left
            · intro w hSw
              try dsimp only at hSw
              go_simp
              try with_reducible rfl
            try simp only [Act.put, List.setIfInBounds_toArray, List.set_cons_zero, List.set_cons_succ]
            refine wpAnyH_take (i := 6) (v := ?_) (by simp only [List.getElem?_toArray, List.getElem?_cons_succ, List.getElem?_cons_zero]; exact rfl) (by kernel_rfl) (by kernel_rfl) (by kernel_rfl) (fun _ _ _ h => h) (Or.inl ⟨by rfl, ?_⟩) (by assumption) ?_
            rotate_left
            · intro w hSw
              try dsimp only at hSw
              go_simp
              try with_reducible rfl
            try simp only [Act.put, List.setIfInBounds_toArray, List.set_cons_zero, List.set_cons_succ]
            refine wpAnyH_take (i := 7) (v := ?_) (by simp only [List.getElem?_toArray, List.getElem?_cons_succ, List.getElem?_cons_zero]; exact rfl) (by kernel_rfl) (by kernel_rfl) (by kernel_rfl) (fun _ _ _ h => h) (Or.inl ⟨by rfl, ?_⟩) (by assumption) ?_
            rotate_left
            · intro w hSw
              try dsimp only at hSw
              go_simp
              try with_reducible rfl
            try simp only [Act.put, List.setIfInBounds_toArray, List.set_cons_zero, List.set_cons_succ]
            refine wpAnyH_take (i := 8) (v := ?_) (by simp only [List.getElem?_toArray, List.getElem?_cons_succ, List.getElem?_cons_zero]; exact rfl) (by kernel_rfl) (by kernel_rfl) (by kernel_rfl) (fun _ _ _ h => h) (Or.inl ⟨by rfl, ?_⟩) (by assumption) ?_
            rotate_left
            · intro w hSw
              try dsimp only at hSw
              go_simp
              try with_reducible rfl
            try simp only [Act.put, List.setIfInBounds_toArray, List.set_cons_zero, List.set_cons_succ]
            refine wpAnyH_take (i := 9) (v := ?_) (by simp only [List.getElem?_toArray, List.getElem?_cons_succ, List.getElem?_cons_zero]; exact rfl) (by kernel_rfl) (by kernel_rfl) (by kernel_rfl) (fun _ _ _ h => h) (Or.inl ⟨by rfl, ?_⟩) (by assumption) ?_
            rotate_left
            · intro w hSw
              try dsimp only at hSw
              go_simp
              try with_reducible rfl
            try simp only [Act.put, List.setIfInBounds_toArray, List.set_cons_zero, List.set_cons_succ]
            refine wpAnyH_take (i := 10) (v := ?_) (by simp only [List.getElem?_toArray, List.getElem?_cons_succ, List.getElem?_cons_zero]; exact rfl) (by kernel_rfl) (by kernel_rfl) (by kernel_rfl) (fun _ _ _ h => h) (Or.inl ⟨by rfl, ?_⟩) (by assumption) ?_
            rotate_left
            · intro w hSw
              try dsimp only at hSw
              go_simp
              try with_reducible rfl
            try simp only [Act.put, List.setIfInBounds_toArray, List.set_cons_zero, List.set_cons_succ]
            refine wpAnyH_take (i := 11) (v := ?_) (by simp only [List.getElem?_toArray, List.getElem?_cons_succ, List.getElem?_cons_zero]; exact rfl) (by kernel_rfl) (by kernel_rfl) (by kernel_rfl) (fun _ _ _ h => h) (Or.inl ⟨by rfl, ?_⟩) (by assumption) ?_
            rotate_left
            · intro w hSw
              try dsimp only at hSw
              go_simp
              try with_reducible rfl
            try simp only [Act.put, List.setIfInBounds_toArray, List.set_cons_zero, List.set_cons_succ]
            refine wpAnyH_take (i := 12) (v := ?_) (by simp only [List.getElem?_toArray, List.getElem?_cons_succ, List.getElem?_cons_zero]; exact rfl) (by kernel_rfl) (by kernel_rfl) (by kernel_rfl) (fun _ _ _ h => h) (Or.inl ⟨by rfl, ?_⟩) (by assumption) ?_
            rotate_left
            · intro w hSw
              try dsimp only at hSw
              go_simp
              try with_reducible rfl
            try simp only [Act.put, List.setIfInBounds_toArray, List.set_cons_zero, List.set_cons_succ]
            refine wpAnyH_take (i := 13) (v := ?_) (by simp only [List.getElem?_toArray, List.getElem?_cons_succ, List.getElem?_cons_zero]; exact rfl) (by kernel_rfl) (by kernel_rfl) (by kernel_rfl) (fun _ _ _ h => h) (Or.inl ⟨by rfl, ?_⟩) (by assumption) ?_
            rotate_left
            · intro w hSw
              try dsimp only at hSw
              go_simp
              try with_reducible rfl
            try simp only [Act.put, List.setIfInBounds_toArray, List.set_cons_zero, List.set_cons_succ]
            refine wpAnyH_ready (rs := [14]) (by kernel_rfl) (by simp) ?_
            refine AllReadyH.cons (by simp only [List.getElem?_toArray, List.getElem?_cons_succ, List.getElem?_cons_zero]; exact rfl) (fun K hK => ?_) AllReadyH.nil
            go_simp
            (go_at_call 37; refine (rgoodC_any _ _ _ ds _ _ (HCat.out.below hHeld.1) HMI.out).mono ?_; rintro e w5 ⟨rfl, hb5⟩)
            refine hK.out _ _ (keep_step hb5 hHeld KS) (fun hHeld2 => ?_)
            clear hK K hHeld
            have hHeld := hHeld2
            clear hHeld2
            try simp only [Act.put, List.setIfInBounds_toArray, List.set_cons_zero, List.set_cons_succ]
            refine wpAnyH_take (i := 15) (v := ?_) (by simp only [List.getElem?_toArray, List.getElem?_cons_succ, List.getElem?_cons_zero]; exact rfl) (by kernel_rfl) (by kernel_rfl) (by kernel_rfl) (fun _ _ _ h => h) (Or.inl ⟨by rfl, ?_⟩) (by assumption) ?_
            rotate_left
            · intro w hSw
              try dsimp only at hSw
              go_simp
              try with_reducible rfl
            try simp only [Act.put, List.setIfInBounds_toArray, List.set_cons_zero, List.set_cons_succ]
            refine wpAnyH_take (i := 16) (v := ?_) (by simp only [List.getElem?_toArray, List.getElem?_cons_succ, List.getElem?_cons_zero]; exact rfl) (by kernel_rfl) (by kernel_rfl) (by kernel_rfl) (fun _ _ _ h => h) (Or.inl ⟨by rfl, ?_⟩) (by assumption) ?_
            rotate_left
            · intro w hSw
              try dsimp only at hSw
              go_simp
              try with_reducible rfl
            try simp only [Act.put, List.setIfInBounds_toArray, List.set_cons_zero, List.set_cons_succ]
            refine wpAnyH_take (i := 17) (v := ?_) (by simp only [List.getElem?_toArray, List.getElem?_cons_succ, List.getElem?_cons_zero]; exact rfl) (by kernel_rfl) (by kernel_rfl) (by kernel_rfl) (fun _ _ _ h => h) (Or.inl ⟨by rfl, ?_⟩) (by assumption) ?_
            rotate_left
            · intro w hSw
              try dsimp only at hSw
              go_simp
              try with_reducible rfl
            try simp only [Act.put, List.setIfInBounds_toArray, List.set_cons_zero, List.set_cons_succ]
            refine wpAnyH_take (i := 18) (v := ?_) (by simp only [List.getElem?_toArray, List.getElem?_cons_succ, List.getElem?_cons_zero]; exact rfl) (by kernel_rfl) (by kernel_rfl) (by kernel_rfl) (fun _ _ _ h => h) (Or.inl ⟨by rfl, ?_⟩) (by assumption) ?_
            rotate_left
            · intro w hSw
              try dsimp only at hSw
              go_simp
              try with_reducible rfl
            try simp only [Act.put, List.setIfInBounds_toArray, List.set_cons_zero, List.set_cons_succ]
            refine wpAnyH_take (i := 21) (v := ?_) (by simp only [List.getElem?_toArray, List.getElem?_cons_succ, List.getElem?_cons_zero]; exact rfl) (by kernel_rfl) (by kernel_rfl) (by kernel_rfl) (fun _ _ _ h => h) (Or.inl ⟨by rfl, ?_⟩) (by assumption) ?_
            rotate_left
            · intro w hSw
              try dsimp only at hSw
              go_simp
              try with_reducible rfl
            try simp only [Act.put, List.setIfInBounds_toArray, List.set_cons_zero, List.set_cons_succ]
            refine wpAnyH_take (i := 22) (v := ?_) (by simp only [List.getElem?_toArray, List.getElem?_cons_succ, List.getElem?_cons_zero]; exact rfl) (by kernel_rfl) (by kernel_rfl) (by kernel_rfl) (fun _ _ _ h => h) (Or.inl ⟨by rfl, ?_⟩) (by assumption) ?_
            rotate_left
            · intro w hSw
              try dsimp only at hSw
              go_simp
              try with_reducible rfl
            try simp only [Act.put, List.setIfInBounds_toArray, List.set_cons_zero, List.set_cons_succ]
            refine wpAnyH_ready (rs := [19]) (by kernel_rfl) (by simp) ?_
            refine AllReadyH.cons (by simp only [List.getElem?_toArray, List.getElem?_cons_succ, List.getElem?_cons_zero]; exact rfl) (fun K hK => ?_) AllReadyH.nil
            go_simp
            (go_at_call 11; refine (rbytes_row _ _ _ ds _ _ (HCat.out.below hHeld.1) HMI.out).mono ?_; rintro e w5 ⟨⟨a2, n2, c2, rfl, hr2⟩, hb5⟩; have cv2 := conv8 hr2; rw [HBY.out] at cv2; clear hr2)
            refine hK.out _ _ (keep_step hb5 hHeld KS) (fun hHeld2 => ?_)
            clear hK K hHeld
            have hHeld := hHeld2
            clear hHeld2
            try simp only [Act.put, List.setIfInBounds_toArray, List.set_cons_zero, List.set_cons_succ]
            refine wpAnyH_ready (rs := [20]) (by kernel_rfl) (by simp) ?_
            refine AllReadyH.cons (by simp only [List.getElem?_toArray, List.getElem?_cons_succ, List.getElem?_cons_zero]; exact rfl) (fun K hK => ?_) AllReadyH.nil
            go_simp
            refine hK.out _ _ hHeld (fun hHeld2 => ?_)
            clear hK K hHeld2
            try simp only [Act.put, List.setIfInBounds_toArray, List.set_cons_zero, List.set_cons_succ]
            refine wpAnyH_take (i := 23) (v := ?_) (by simp only [List.getElem?_toArray, List.getElem?_cons_succ, List.getElem?_cons_zero]; exact rfl) (by kernel_rfl) (by kernel_rfl) (by kernel_rfl) (fun _ _ _ h => h) (Or.inl ⟨by rfl, ?_⟩) (by assumption) ?_
            rotate_left
            · intro w hSw
              try dsimp only at hSw
              go_simp
              try with_reducible rfl
            try simp only [Act.put, List.setIfInBounds_toArray, List.set_cons_zero, List.set_cons_succ]
            refine wpAnyH_take (i := 24) (v := ?_) (by simp only [List.getElem?_toArray, List.getElem?_cons_succ, List.getElem?_cons_zero]; exact rfl) (by kernel_rfl) (by kernel_rfl) (by kernel_rfl) (fun _ _ _ h => h) (Or.inl ⟨by rfl, ?_⟩) (by assumption) ?_
            rotate_left
            · intro w hSw
              try dsimp only at hSw
              go_simp
              try with_reducible rfl
            try simp only [Act.put, List.setIfInBounds_toArray, List.set_cons_zero, List.set_cons_succ]
            refine wpAnyH_done (by kernel_rfl) ?_ _
            refine NoPanic.normal ?_
            have CSX := hid (CS.out.grow0 hHeld.1)
            clear hHeld KS
            obtain ⟨z0, z1⟩ := box_two CSX.out.2.2.1
            have z2 := frozen_of_row w5 w.heap.size 0 _ _ CSX.out.2.2.1
            have z3 := frozen_of_row w5 w.heap.size 1 _ _ CSX.out.2.2.1
            obtain ⟨z4, z5⟩ := box_two CSX.out.2.2.2.1
            go_wp2
            obtain ⟨W5, hW5⟩ : ∃ W, W = (w5.setCell ⟨w.heap.size, 0, none⟩ (.slice da i dc)).setCell ⟨w.heap.size, 1, none⟩ (.int .i64 M) := ⟨_, rfl⟩
            rw [← hW5]
            obtain ⟨hb5', H5, a9, c9, he9, hc9⟩ := CSX.out.fin hW5
            cases he9
            obtain ⟨x0, x1⟩ := box_two H5
            obtain ⟨p1, p2, p3⟩ := rd_some HP.out
            refine bodyPost_ret (v := .tuple #[.agg #[.slice da i dc, .int .i64 M], .bool true]) (by simp [results, Try.results13, go_sem, x0, x1]) rfl ⟨⟨_, _, _, by rw [p2, p3], ?_⟩, hb5'⟩
            rw [p1]; exact hc9
        · have HF : Hid (pread b = none) := hid (pread_no1 (by rw [HPA.out]; intro e; simp at e; rw [e] at hrn; exact hr0 (by simpa using hrn)))
          have hrnp : 0 < rn := by omega
          clear hrn
          have hrnp' : decide ((0 : Int) < (rn : Int)) = true := decide_eq_true (by omega)
          have hrnp2 : decide (0 < rn) = true := decide_eq_true hrnp
          go_wp2
          refine wp_region_noPanic ?_
          refine wp_region_held_drew (S := fun x => Below W0.heap.size W0 x ∧ x.cell? ⟨w.heap.size + 1, 0, none⟩ = some (.slice ra rn rc) ∧ x.cell? ⟨w.heap.size + 1, 1, none⟩ = some (.bool false) ∧ x.cell? ⟨w.heap.size + 2, 0, none⟩ = some (.slice da i dc) ∧ x.cell? ⟨w.heap.size + 2, 1, none⟩ = some (.int .i64 M) ∧ (convert 22 9 (.slice a n c)).run Try.prog x = .ok (.string (txt b)) x) (by kernel_rfl) (keep_drew KS) (fun hHeld => ?_)
          refine wpAnyH_take (i := 0) (v := ?_) (by simp only [List.getElem?_toArray, List.getElem?_cons_succ, List.getElem?_cons_zero]; exact rfl) (by kernel_rfl) (by kernel_rfl) (by kernel_rfl) (fun _ _ _ h => h) (Or.inl ⟨by rfl, ?_⟩) (by assumption) ?_
          rotate_left
          · intro w hSw
            try dsimp only at hSw
            go_simp
            try with_reducible rfl
          try simp only [Act.put, List.setIfInBounds_toArray, List.set_cons_zero, List.set_cons_succ]
          refine wpAnyH_take (i := 1) (v := ?_) (by simp only [List.getElem?_toArray, List.getElem?_cons_succ, List.getElem?_cons_zero]; exact rfl) (by kernel_rfl) (by kernel_rfl) (by kernel_rfl) (fun _ _ _ h => h) (Or.inl ⟨by rfl, ?_⟩) (by assumption) ?_
          rotate_left
          · intro w hSw
            try dsimp only at hSw
            go_simp
            try with_reducible rfl
          try simp only [Act.put, List.setIfInBounds_toArray, List.set_cons_zero, List.set_cons_succ]
          refine wpAnyH_take (i := 2) (v := ?_) (by simp only [List.getElem?_toArray, List.getElem?_cons_succ, List.getElem?_cons_zero]; exact rfl) (by kernel_rfl) (by kernel_rfl) (by kernel_rfl) (fun _ _ _ h => h) (Or.inl ⟨by rfl, ?_⟩) (by assumption) ?_
          rotate_left
          · intro w hSw
            try dsimp only at hSw
            go_simp
            try with_reducible rfl
          try simp only [Act.put, List.setIfInBounds_toArray, List.set_cons_zero, List.set_cons_succ]
          refine wpAnyH_take (i := 3) (v := ?_) (by simp only [List.getElem?_toArray, List.getElem?_cons_succ, List.getElem?_cons_zero]; exact rfl) (by kernel_rfl) (by kernel_rfl) (by kernel_rfl) (fun _ _ _ h => h) (Or.inl ⟨by rfl, ?_⟩) (by assumption) ?_
          rotate_left
          · intro w hSw
            try dsimp only at hSw
            go_simp
            try with_reducible rfl
          try simp only [Act.put, List.setIfInBounds_toArray, List.set_cons_zero, List.set_cons_succ]
          refine wpAnyH_take (i := 4) (v := ?_) (by simp only [List.getElem?_toArray, List.getElem?_cons_succ, List.getElem?_cons_zero]; exact rfl) (by kernel_rfl) (by kernel_rfl) (by kernel_rfl) (fun _ _ _ h => h) (Or.inl ⟨by rfl, ?_⟩) (by assumption) ?_
          rotate_left
          · intro w hSw
            try dsimp only at hSw
            go_simp
            try with_reducible rfl
          try simp only [Act.put, List.setIfInBounds_toArray, List.set_cons_zero, List.set_cons_succ]
          refine wpAnyH_take (i := 5) (v := ?_) (by simp only [List.getElem?_toArray, List.getElem?_cons_succ, List.getElem?_cons_zero]; exact rfl) (by kernel_rfl) (by kernel_rfl) (by kernel_rfl) (fun _ _ _ h => h) (Or.inl ⟨by rfl, ?_⟩) (by assumption) ?_
          rotate_left
          · intro w hSw
            try dsimp only at hSw
            go_simp
            try with_reducible rfl
          try simp only [Act.put, List.setIfInBounds_toArray, List.set_cons_zero, List.set_cons_succ]
          refine wpAnyH_take (i := 6) (v := ?_) (by simp only [List.getElem?_toArray, List.getElem?_cons_succ, List.getElem?_cons_zero]; exact rfl) (by kernel_rfl) (by kernel_rfl) (by kernel_rfl) (fun _ _ _ h => h) (Or.inl ⟨by rfl, ?_⟩) (by assumption) ?_
          rotate_left
          · intro w hSw
            try dsimp only at hSw
            go_simp
            try with_reducible rfl
          try simp only [Act.put, List.setIfInBounds_toArray, List.set_cons_zero, List.set_cons_succ]
          refine wpAnyH_take (i := 7) (v := ?_) (by simp only [List.getElem?_toArray, List.getElem?_cons_succ, List.getElem?_cons_zero]; exact rfl) (by kernel_rfl) (by kernel_rfl) (by kernel_rfl) (fun _ _ _ h => h) (Or.inl ⟨by rfl, ?_⟩) (by assumption) ?_
          rotate_left
          · intro w hSw
            try dsimp only at hSw
            go_simp
            try with_reducible rfl
          try simp only [Act.put, List.setIfInBounds_toArray, List.set_cons_zero, List.set_cons_succ]
          refine wpAnyH_take (i := 8) (v := ?_) (by simp only [List.getElem?_toArray, List.getElem?_cons_succ, List.getElem?_cons_zero]; exact rfl) (by kernel_rfl) (by kernel_rfl) (by kernel_rfl) (fun _ _ _ h => h) (Or.inl ⟨by rfl, ?_⟩) (by assumption) ?_
          rotate_left
          · intro w hSw
            try dsimp only at hSw
            go_simp
            try with_reducible rfl
          try simp only [Act.put, List.setIfInBounds_toArray, List.set_cons_zero, List.set_cons_succ]
          refine wpAnyH_take (i := 9) (v := ?_) (by simp only [List.getElem?_toArray, List.getElem?_cons_succ, List.getElem?_cons_zero]; exact rfl) (by kernel_rfl) (by kernel_rfl) (by kernel_rfl) (fun _ _ _ h => h) (Or.inl ⟨by rfl, ?_⟩) (by assumption) ?_
          rotate_left
          · intro w hSw
            try dsimp only at hSw
            go_simp
            try with_reducible rfl
          try simp only [Act.put, List.setIfInBounds_toArray, List.set_cons_zero, List.set_cons_succ]
          refine wpAnyH_take (i := 10) (v := ?_) (by simp only [List.getElem?_toArray, List.getElem?_cons_succ, List.getElem?_cons_zero]; exact rfl) (by kernel_rfl) (by kernel_rfl) (by kernel_rfl) (fun _ _ _ h => h) (Or.inl ⟨by rfl, ?_⟩) (by assumption) ?_
          rotate_left
          · intro w hSw
            try dsimp only at hSw
            go_simp
            try with_reducible rfl
          try simp only [Act.put, List.setIfInBounds_toArray, List.set_cons_zero, List.set_cons_succ]
          refine wpAnyH_take (i := 11) (v := ?_) (by simp only [List.getElem?_toArray, List.getElem?_cons_succ, List.getElem?_cons_zero]; exact rfl) (by kernel_rfl) (by kernel_rfl) (by kernel_rfl) (fun _ _ _ h => h) (Or.inl ⟨by rfl, ?_⟩) (by assumption) ?_
          rotate_left
          · intro w hSw
            try dsimp only at hSw
            go_simp
            try with_reducible rfl
          try simp only [Act.put, List.setIfInBounds_toArray, List.set_cons_zero, List.set_cons_succ]
          refine wpAnyH_take (i := 12) (v := ?_) (by simp only [List.getElem?_toArray, List.getElem?_cons_succ, List.getElem?_cons_zero]; exact rfl) (by kernel_rfl) (by kernel_rfl) (by kernel_rfl) (fun _ _ _ h => h) (Or.inl ⟨by rfl, ?_⟩) (by assumption) ?_
          rotate_left
          · intro w hSw
            try dsimp only at hSw
            go_simp
            try with_reducible rfl
          try simp only [Act.put, List.setIfInBounds_toArray, List.set_cons_zero, List.set_cons_succ]
          refine wpAnyH_take (i := 13) (v := undef) (by simp only [List.getElem?_toArray, List.getElem?_cons_succ, List.getElem?_cons_zero]; exact rfl) (by kernel_rfl) (by kernel_rfl) (by kernel_rfl) (fun _ _ _ h => h) (Or.inr ⟨by rfl, rfl⟩) (by assumption) ?_
          try simp only [Act.put, List.setIfInBounds_toArray, List.set_cons_zero, List.set_cons_succ]
          refine wpAnyH_take (i := 14) (v := undef) (by simp only [List.getElem?_toArray, List.getElem?_cons_succ, List.getElem?_cons_zero]; exact rfl) (by kernel_rfl) (by kernel_rfl) (by kernel_rfl) (fun _ _ _ h => h) (Or.inr ⟨by rfl, rfl⟩) (by assumption) ?_
          try simp only [Act.put, List.setIfInBounds_toArray, List.set_cons_zero, List.set_cons_succ]
          refine wpAnyH_take (i := 15) (v := undef) (by simp only [List.getElem?_toArray, List.getElem?_cons_succ, List.getElem?_cons_zero]; exact rfl) (by kernel_rfl) (by kernel_rfl) (by kernel_rfl) (fun _ _ _ h => h) (Or.inr ⟨by rfl, rfl⟩) (by assumption) ?_
          try simp only [Act.put, List.setIfInBounds_toArray, List.set_cons_zero, List.set_cons_succ]
          refine wpAnyH_take (i := 16) (v := ?_) (by simp only [List.getElem?_toArray, List.getElem?_cons_succ, List.getElem?_cons_zero]; exact rfl) (by kernel_rfl) (by kernel_rfl) (by kernel_rfl) (fun _ _ _ h => h) (Or.inl ⟨by rfl, ?_⟩) (by assumption) ?_
          rotate_left
          · intro w hSw
            try dsimp only at hSw
            go_simp
            try with_reducible rfl
          try simp only [Act.put, List.setIfInBounds_toArray, List.set_cons_zero, List.set_cons_succ]
          refine wpAnyH_take (i := 17) (v := ?_) (by simp only [List.getElem?_toArray, List.getElem?_cons_succ, List.getElem?_cons_zero]; exact rfl) (by kernel_rfl) (by kernel_rfl) (by kernel_rfl) (fun _ _ _ h => h) (Or.inl ⟨by rfl, ?_⟩) (by assumption) ?_
          rotate_left
          · intro w hSw
            try dsimp only at hSw
            go_simp
            try with_reducible rfl
          try simp only [Act.put, List.setIfInBounds_toArray, List.set_cons_zero, List.set_cons_succ]
          refine wpAnyH_take (i := 18) (v := undef) (by simp only [List.getElem?_toArray, List.getElem?_cons_succ, List.getElem?_cons_zero]; exact rfl) (by kernel_rfl) (by kernel_rfl) (by kernel_rfl) (fun _ _ _ h => h) (Or.inr ⟨by rfl, rfl⟩) (by assumption) ?_
          try simp only [Act.put, List.setIfInBounds_toArray, List.set_cons_zero, List.set_cons_succ]
          refine wpAnyH_take (i := 19) (v := undef) (by simp only [List.getElem?_toArray, List.getElem?_cons_succ, List.getElem?_cons_zero]; exact rfl) (by kernel_rfl) (by kernel_rfl) (by kernel_rfl) (fun _ _ _ h => h) (Or.inr ⟨by rfl, rfl⟩) (by assumption) ?_
          try simp only [Act.put, List.setIfInBounds_toArray, List.set_cons_zero, List.set_cons_succ]
          refine wpAnyH_take (i := 20) (v := undef) (by simp only [List.getElem?_toArray, List.getElem?_cons_succ, List.getElem?_cons_zero]; exact rfl) (by kernel_rfl) (by kernel_rfl) (by kernel_rfl) (fun _ _ _ h => h) (Or.inr ⟨by rfl, rfl⟩) (by assumption) ?_
          try simp only [Act.put, List.setIfInBounds_toArray, List.set_cons_zero, List.set_cons_succ]
          refine wpAnyH_take (i := 21) (v := undef) (by simp only [List.getElem?_toArray, List.getElem?_cons_succ, List.getElem?_cons_zero]; exact rfl) (by kernel_rfl) (by kernel_rfl) (by kernel_rfl) (fun _ _ _ h => h) (Or.inr ⟨by rfl, rfl⟩) (by assumption) ?_
          try simp only [Act.put, List.setIfInBounds_toArray, List.set_cons_zero, List.set_cons_succ]
          refine wpAnyH_take (i := 22) (v := undef) (by simp only [List.getElem?_toArray, List.getElem?_cons_succ, List.getElem?_cons_zero]; exact rfl) (by kernel_rfl) (by kernel_rfl) (by kernel_rfl) (fun _ _ _ h => h) (Or.inr ⟨by rfl, rfl⟩) (by assumption) ?_
          try simp only [Act.put, List.setIfInBounds_toArray, List.set_cons_zero, List.set_cons_succ]
          refine wpAnyH_take (i := 23) (v := undef) (by simp only [List.getElem?_toArray, List.getElem?_cons_succ, List.getElem?_cons_zero]; exact rfl) (by kernel_rfl) (by kernel_rfl) (by kernel_rfl) (fun _ _ _ h => h) (Or.inr ⟨by rfl, rfl⟩) (by assumption) ?_
          try simp only [Act.put, List.setIfInBounds_toArray, List.set_cons_zero, List.set_cons_succ]
          refine wpAnyH_take (i := 24) (v := ?_) (by simp only [List.getElem?_toArray, List.getElem?_cons_succ, List.getElem?_cons_zero]; exact rfl) (by kernel_rfl) (by kernel_rfl) (by kernel_rfl) (fun _ _ _ h => h) (Or.inl ⟨by rfl, ?_⟩) (by assumption) ?_
          rotate_left
          · intro w hSw
            try dsimp only at hSw
            go_simp
            try with_reducible rfl
          try simp only [Act.put, List.setIfInBounds_toArray, List.set_cons_zero, List.set_cons_succ]
          refine wpAnyH_done (by kernel_rfl) ?_ _
          refine NoPanic.normal ?_
          have CSX := hid CS.out.drew
          clear hHeld KS
          generalize W0.drew = X at CSX ⊢
          obtain ⟨z0, z1⟩ := box_two CSX.out.2.2.1
          have z2 := frozen_of_row X w.heap.size 0 _ _ CSX.out.2.2.1
          have z3 := frozen_of_row X w.heap.size 1 _ _ CSX.out.2.2.1
          go_wp2
          obtain ⟨W5, hW5⟩ : ∃ W, W = (X.setCell ⟨w.heap.size, 0, none⟩ (.slice none 0 0)).setCell ⟨w.heap.size, 1, none⟩ (.int .i64 0) := ⟨_, rfl⟩
          rw [← hW5]
          obtain ⟨hb5, H5, _⟩ := CSX.out.fin hW5
          obtain ⟨x0, x1⟩ := box_two H5
          obtain ⟨p1, p2, p3⟩ := rd_none HF.out
          exact bodyPost_ret (v := .tuple #[.agg #[.slice none 0 0, .int .i64 0], .bool false]) (by simp [results, Try.results13, go_sem, x0, x1]) rfl ⟨⟨none, 0, 0, by rw [p2, p3], by rw [p1]; exact cat_nil _⟩, hb5⟩
    · -- stuck
      by_cases hlt : i < nd
      · have hin : (i : Int) < (nd : Int) := by omega
        have HF := hid (SD.out.2 hs)
        clear hs
        have hB0 := CS.out.1.2.1
        have KS : Hid (∀ x, Below W0.heap.size W0 x → Below W0.heap.size W0 x ∧ x.cell? ⟨w.heap.size + 1, 1, none⟩ = some (.bool true)) := hid fun x hX => ⟨hX, ((bcell hX).1 _ _ hB0).trans c1⟩
        go_wp2
        refine wp_region_noPanic ?_
        refine wp_region_held_drew (S := fun x => Below W0.heap.size W0 x ∧ x.cell? ⟨w.heap.size + 1, 1, none⟩ = some (.bool true)) (by kernel_rfl) (keep_drew KS) (fun hHeld => ?_)
        refine wpAnyH_take (i := 0) (v := ?_) (by simp only [List.getElem?_toArray, List.getElem?_cons_succ, List.getElem?_cons_zero]; exact rfl) (by kernel_rfl) (by kernel_rfl) (by kernel_rfl) (fun _ _ _ h => h) (Or.inl ⟨by rfl, ?_⟩) (by assumption) ?_
        rotate_left
        · intro w hSw
          try dsimp only at hSw
          go_simp
          try with_reducible rfl
        try simp only [Act.put, List.setIfInBounds_toArray, List.set_cons_zero, List.set_cons_succ]
        refine wpAnyH_take (i := 1) (v := ?_) (by simp only [List.getElem?_toArray, List.getElem?_cons_succ, List.getElem?_cons_zero]; exact rfl) (by kernel_rfl) (by kernel_rfl) (by kernel_rfl) (fun _ _ _ h => h) (Or.inl ⟨by rfl, ?_⟩) (by assumption) ?_
        rotate_left
        · intro w hSw
          try dsimp only at hSw
          go_simp
          try with_reducible rfl
        try simp only [Act.put, List.setIfInBounds_toArray, List.set_cons_zero, List.set_cons_succ]
        refine wpAnyH_take (i := 2) (v := ?_) (by simp only [List.getElem?_toArray, List.getElem?_cons_succ, List.getElem?_cons_zero]; exact rfl) (by kernel_rfl) (by kernel_rfl) (by kernel_rfl) (fun _ _ _ h => h) (Or.inl ⟨by rfl, ?_⟩) (by assumption) ?_
        rotate_left
        · intro w hSw
          try dsimp only at hSw
          go_simp
          try with_reducible rfl
        try simp only [Act.put, List.setIfInBounds_toArray, List.set_cons_zero, List.set_cons_succ]
        refine wpAnyH_take (i := 3) (v := ?_) (by simp only [List.getElem?_toArray, List.getElem?_cons_succ, List.getElem?_cons_zero]; exact rfl) (by kernel_rfl) (by kernel_rfl) (by kernel_rfl) (fun _ _ _ h => h) (Or.inl ⟨by rfl, ?_⟩) (by assumption) ?_
        rotate_left
        · intro w hSw
          try dsimp only at hSw
          go_simp
          try with_reducible rfl
        try simp only [Act.put, List.setIfInBounds_toArray, List.set_cons_zero, List.set_cons_succ]
        refine wpAnyH_take (i := 4) (v := ?_) (by simp only [List.getElem?_toArray, List.getElem?_cons_succ, List.getElem?_cons_zero]; exact rfl) (by kernel_rfl) (by kernel_rfl) (by kernel_rfl) (fun _ _ _ h => h) (Or.inl ⟨by rfl, ?_⟩) (by assumption) ?_
        rotate_left
        · intro w hSw
          try dsimp only at hSw
          go_simp
          try with_reducible rfl
        try simp only [Act.put, List.setIfInBounds_toArray, List.set_cons_zero, List.set_cons_succ]
        refine wpAnyH_take (i := 5) (v := undef) (by simp only [List.getElem?_toArray, List.getElem?_cons_succ, List.getElem?_cons_zero]; exact rfl) (by kernel_rfl) (by kernel_rfl) (by kernel_rfl) (fun _ _ _ h => h) (Or.inr ⟨by rfl, rfl⟩) (by assumption) ?_
        try simp only [Act.put, List.setIfInBounds_toArray, List.set_cons_zero, List.set_cons_succ]
        refine wpAnyH_take (i := 6) (v := undef) (by simp only [List.getElem?_toArray, List.getElem?_cons_succ, List.getElem?_cons_zero]; exact rfl) (by kernel_rfl) (by kernel_rfl) (by kernel_rfl) (fun _ _ _ h => h) (Or.inr ⟨by rfl, rfl⟩) (by assumption) ?_
        try simp only [Act.put, List.setIfInBounds_toArray, List.set_cons_zero, List.set_cons_succ]
        refine wpAnyH_take (i := 7) (v := undef) (by simp only [List.getElem?_toArray, List.getElem?_cons_succ, List.getElem?_cons_zero]; exact rfl) (by kernel_rfl) (by kernel_rfl) (by kernel_rfl) (fun _ _ _ h => h) (Or.inr ⟨by rfl, rfl⟩) (by assumption) ?_
        try simp only [Act.put, List.setIfInBounds_toArray, List.set_cons_zero, List.set_cons_succ]
        refine wpAnyH_take (i := 8) (v := undef) (by simp only [List.getElem?_toArray, List.getElem?_cons_succ, List.getElem?_cons_zero]; exact rfl) (by kernel_rfl) (by kernel_rfl) (by kernel_rfl) (fun _ _ _ h => h) (Or.inr ⟨by rfl, rfl⟩) (by assumption) ?_
        try simp only [Act.put, List.setIfInBounds_toArray, List.set_cons_zero, List.set_cons_succ]
        refine wpAnyH_take (i := 9) (v := undef) (by simp only [List.getElem?_toArray, List.getElem?_cons_succ, List.getElem?_cons_zero]; exact rfl) (by kernel_rfl) (by kernel_rfl) (by kernel_rfl) (fun _ _ _ h => h) (Or.inr ⟨by rfl, rfl⟩) (by assumption) ?_
        try simp only [Act.put, List.setIfInBounds_toArray, List.set_cons_zero, List.set_cons_succ]
        refine wpAnyH_take (i := 10) (v := undef) (by simp only [List.getElem?_toArray, List.getElem?_cons_succ, List.getElem?_cons_zero]; exact rfl) (by kernel_rfl) (by kernel_rfl) (by kernel_rfl) (fun _ _ _ h => h) (Or.inr ⟨by rfl, rfl⟩) (by assumption) ?_
        try simp only [Act.put, List.setIfInBounds_toArray, List.set_cons_zero, List.set_cons_succ]
        refine wpAnyH_take (i := 11) (v := ?_) (by simp only [List.getElem?_toArray, List.getElem?_cons_succ, List.getElem?_cons_zero]; exact rfl) (by kernel_rfl) (by kernel_rfl) (by kernel_rfl) (fun _ _ _ h => h) (Or.inl ⟨by rfl, ?_⟩) (by assumption) ?_
        rotate_left
        · intro w hSw
          try dsimp only at hSw
          go_simp
          try with_reducible rfl
        try simp only [Act.put, List.setIfInBounds_toArray, List.set_cons_zero, List.set_cons_succ]
        refine wpAnyH_take (i := 12) (v := ?_) (by simp only [List.getElem?_toArray, List.getElem?_cons_succ, List.getElem?_cons_zero]; exact rfl) (by kernel_rfl) (by kernel_rfl) (by kernel_rfl) (fun _ _ _ h => h) (Or.inl ⟨by rfl, ?_⟩) (by assumption) ?_
        rotate_left
        · intro w hSw
          try dsimp only at hSw
          go_simp
          try with_reducible rfl
        try simp only [Act.put, List.setIfInBounds_toArray, List.set_cons_zero, List.set_cons_succ]
        refine wpAnyH_take (i := 13) (v := undef) (by simp only [List.getElem?_toArray, List.getElem?_cons_succ, List.getElem?_cons_zero]; exact rfl) (by kernel_rfl) (by kernel_rfl) (by kernel_rfl) (fun _ _ _ h => h) (Or.inr ⟨by rfl, rfl⟩) (by assumption) ?_
        try simp only [Act.put, List.setIfInBounds_toArray, List.set_cons_zero, List.set_cons_succ]
        refine wpAnyH_take (i := 14) (v := undef) (by simp only [List.getElem?_toArray, List.getElem?_cons_succ, List.getElem?_cons_zero]; exact rfl) (by kernel_rfl) (by kernel_rfl) (by kernel_rfl) (fun _ _ _ h => h) (Or.inr ⟨by rfl, rfl⟩) (by assumption) ?_
        try simp only [Act.put, List.setIfInBounds_toArray, List.set_cons_zero, List.set_cons_succ]
        refine wpAnyH_take (i := 15) (v := undef) (by simp only [List.getElem?_toArray, List.getElem?_cons_succ, List.getElem?_cons_zero]; exact rfl) (by kernel_rfl) (by kernel_rfl) (by kernel_rfl) (fun _ _ _ h => h) (Or.inr ⟨by rfl, rfl⟩) (by assumption) ?_
        try simp only [Act.put, List.setIfInBounds_toArray, List.set_cons_zero, List.set_cons_succ]
        refine wpAnyH_take (i := 16) (v := ?_) (by simp only [List.getElem?_toArray, List.getElem?_cons_succ, List.getElem?_cons_zero]; exact rfl) (by kernel_rfl) (by kernel_rfl) (by kernel_rfl) (fun _ _ _ h => h) (Or.inl ⟨by rfl, ?_⟩) (by assumption) ?_
        rotate_left
        · intro w hSw
          try dsimp only at hSw
          go_simp
          try with_reducible rfl
        try simp only [Act.put, List.setIfInBounds_toArray, List.set_cons_zero, List.set_cons_succ]
        refine wpAnyH_take (i := 17) (v := ?_) (by simp only [List.getElem?_toArray, List.getElem?_cons_succ, List.getElem?_cons_zero]; exact rfl) (by kernel_rfl) (by kernel_rfl) (by kernel_rfl) (fun _ _ _ h => h) (Or.inl ⟨by rfl, ?_⟩) (by assumption) ?_
        rotate_left
        · intro w hSw
          try dsimp only at hSw
          go_simp
          try with_reducible rfl
        try simp only [Act.put, List.setIfInBounds_toArray, List.set_cons_zero, List.set_cons_succ]
        refine wpAnyH_take (i := 18) (v := undef) (by simp only [List.getElem?_toArray, List.getElem?_cons_succ, List.getElem?_cons_zero]; exact rfl) (by kernel_rfl) (by kernel_rfl) (by kernel_rfl) (fun _ _ _ h => h) (Or.inr ⟨by rfl, rfl⟩) (by assumption) ?_
        try simp only [Act.put, List.setIfInBounds_toArray, List.set_cons_zero, List.set_cons_succ]
        refine wpAnyH_take (i := 19) (v := undef) (by simp only [List.getElem?_toArray, List.getElem?_cons_succ, List.getElem?_cons_zero]; exact rfl) (by kernel_rfl) (by kernel_rfl) (by kernel_rfl) (fun _ _ _ h => h) (Or.inr ⟨by rfl, rfl⟩) (by assumption) ?_
        try simp only [Act.put, List.setIfInBounds_toArray, List.set_cons_zero, List.set_cons_succ]
        refine wpAnyH_take (i := 20) (v := undef) (by simp only [List.getElem?_toArray, List.getElem?_cons_succ, List.getElem?_cons_zero]; exact rfl) (by kernel_rfl) (by kernel_rfl) (by kernel_rfl) (fun _ _ _ h => h) (Or.inr ⟨by rfl, rfl⟩) (by assumption) ?_
        try simp only [Act.put, List.setIfInBounds_toArray, List.set_cons_zero, List.set_cons_succ]
        refine wpAnyH_take (i := 21) (v := undef) (by simp only [List.getElem?_toArray, List.getElem?_cons_succ, List.getElem?_cons_zero]; exact rfl) (by kernel_rfl) (by kernel_rfl) (by kernel_rfl) (fun _ _ _ h => h) (Or.inr ⟨by rfl, rfl⟩) (by assumption) ?_
        try simp only [Act.put, List.setIfInBounds_toArray, List.set_cons_zero, List.set_cons_succ]
        refine wpAnyH_take (i := 22) (v := undef) (by simp only [List.getElem?_toArray, List.getElem?_cons_succ, List.getElem?_cons_zero]; exact rfl) (by kernel_rfl) (by kernel_rfl) (by kernel_rfl) (fun _ _ _ h => h) (Or.inr ⟨by rfl, rfl⟩) (by assumption) ?_
        try simp only [Act.put, List.setIfInBounds_toArray, List.set_cons_zero, List.set_cons_succ]
        refine wpAnyH_take (i := 23) (v := undef) (by simp only [List.getElem?_toArray, List.getElem?_cons_succ, List.getElem?_cons_zero]; exact rfl) (by kernel_rfl) (by kernel_rfl) (by kernel_rfl) (fun _ _ _ h => h) (Or.inr ⟨by rfl, rfl⟩) (by assumption) ?_
        try simp only [Act.put, List.setIfInBounds_toArray, List.set_cons_zero, List.set_cons_succ]
        refine wpAnyH_take (i := 24) (v := ?_) (by simp only [List.getElem?_toArray, List.getElem?_cons_succ, List.getElem?_cons_zero]; exact rfl) (by kernel_rfl) (by kernel_rfl) (by kernel_rfl) (fun _ _ _ h => h) (Or.inl ⟨by rfl, ?_⟩) (by assumption) ?_
        rotate_left
        · intro w hSw
          try dsimp only at hSw
          go_simp
          try with_reducible rfl
        try simp only [Act.put, List.setIfInBounds_toArray, List.set_cons_zero, List.set_cons_succ]
        refine wpAnyH_done (by kernel_rfl) ?_ _
        refine NoPanic.normal ?_
        have CSX := hid CS.out.drew
        clear hHeld KS
        generalize W0.drew = X at CSX ⊢
        obtain ⟨z0, z1⟩ := box_two CSX.out.2.2.1
        have z2 := frozen_of_row X w.heap.size 0 _ _ CSX.out.2.2.1
        have z3 := frozen_of_row X w.heap.size 1 _ _ CSX.out.2.2.1
        go_wp2
        obtain ⟨W5, hW5⟩ : ∃ W, W = (X.setCell ⟨w.heap.size, 0, none⟩ (.slice none 0 0)).setCell ⟨w.heap.size, 1, none⟩ (.int .i64 0) := ⟨_, rfl⟩
        rw [← hW5]
        obtain ⟨hb5, H5, _⟩ := CSX.out.fin hW5
        obtain ⟨x0, x1⟩ := box_two H5
        obtain ⟨p1, p2, p3⟩ := rd_none HF.out
        exact bodyPost_ret (v := .tuple #[.agg #[.slice none 0 0, .int .i64 0], .bool false]) (by simp [results, Try.results13, go_sem, x0, x1]) rfl ⟨⟨none, 0, 0, by rw [p2, p3], by rw [p1]; exact cat_nil _⟩, hb5⟩
      · have hinf : decide ((i : Int) < (nd : Int)) = false := decide_eq_false (by omega)
        have HF := hid (SD.out.2 hs)
        clear hs
        have hB0 := CS.out.1.2.1
        have KS : Hid (∀ x, Below W0.heap.size W0 x → Below W0.heap.size W0 x ∧ x.cell? ⟨w.heap.size + 1, 1, none⟩ = some (.bool true)) := hid fun x hX => ⟨hX, ((bcell hX).1 _ _ hB0).trans c1⟩
        go_wp2
        refine wp_region_noPanic ?_
        refine wp_region_held_drew (S := fun x => Below W0.heap.size W0 x ∧ x.cell? ⟨w.heap.size + 1, 1, none⟩ = some (.bool true)) (by kernel_rfl) (keep_drew KS) (fun hHeld => ?_)
        refine wpAnyH_take (i := 0) (v := ?_) (by simp only [List.getElem?_toArray, List.getElem?_cons_succ, List.getElem?_cons_zero]; exact rfl) (by kernel_rfl) (by kernel_rfl) (by kernel_rfl) (fun _ _ _ h => h) (Or.inl ⟨by rfl, ?_⟩) (by assumption) ?_
        rotate_left
        · intro w hSw
          try dsimp only at hSw
          go_simp
          try with_reducible rfl
        try simp only [Act.put, List.setIfInBounds_toArray, List.set_cons_zero, List.set_cons_succ]
        refine wpAnyH_take (i := 1) (v := ?_) (by simp only [List.getElem?_toArray, List.getElem?_cons_succ, List.getElem?_cons_zero]; exact rfl) (by kernel_rfl) (by kernel_rfl) (by kernel_rfl) (fun _ _ _ h => h) (Or.inl ⟨by rfl, ?_⟩) (by assumption) ?_
        rotate_left
        · intro w hSw
          try dsimp only at hSw
          go_simp
          try with_reducible rfl
        try simp only [Act.put, List.setIfInBounds_toArray, List.set_cons_zero, List.set_cons_succ]
        refine wpAnyH_take (i := 2) (v := ?_) (by simp only [List.getElem?_toArray, List.getElem?_cons_succ, List.getElem?_cons_zero]; exact rfl) (by kernel_rfl) (by kernel_rfl) (by kernel_rfl) (fun _ _ _ h => h) (Or.inl ⟨by rfl, ?_⟩) (by assumption) ?_
        rotate_left
        · intro w hSw
          try dsimp only at hSw
          go_simp
          try with_reducible rfl
        try simp only [Act.put, List.setIfInBounds_toArray, List.set_cons_zero, List.set_cons_succ]
        refine wpAnyH_take (i := 3) (v := ?_) (by simp only [List.getElem?_toArray, List.getElem?_cons_succ, List.getElem?_cons_zero]; exact rfl) (by kernel_rfl) (by kernel_rfl) (by kernel_rfl) (fun _ _ _ h => h) (Or.inl ⟨by rfl, ?_⟩) (by assumption) ?_
        rotate_left
        · intro w hSw
          try dsimp only at hSw
          go_simp
          try with_reducible rfl
        try simp only [Act.put, List.setIfInBounds_toArray, List.set_cons_zero, List.set_cons_succ]
        refine wpAnyH_take (i := 4) (v := ?_) (by simp only [List.getElem?_toArray, List.getElem?_cons_succ, List.getElem?_cons_zero]; exact rfl) (by kernel_rfl) (by kernel_rfl) (by kernel_rfl) (fun _ _ _ h => h) (Or.inl ⟨by rfl, ?_⟩) (by assumption) ?_
        rotate_left
        · intro w hSw
          try dsimp only at hSw
          go_simp
          try with_reducible rfl
        try simp only [Act.put, List.setIfInBounds_toArray, List.set_cons_zero, List.set_cons_succ]
        refine wpAnyH_take (i := 5) (v := undef) (by simp only [List.getElem?_toArray, List.getElem?_cons_succ, List.getElem?_cons_zero]; exact rfl) (by kernel_rfl) (by kernel_rfl) (by kernel_rfl) (fun _ _ _ h => h) (Or.inr ⟨by rfl, rfl⟩) (by assumption) ?_
        try simp only [Act.put, List.setIfInBounds_toArray, List.set_cons_zero, List.set_cons_succ]
        refine wpAnyH_take (i := 6) (v := undef) (by simp only [List.getElem?_toArray, List.getElem?_cons_succ, List.getElem?_cons_zero]; exact rfl) (by kernel_rfl) (by kernel_rfl) (by kernel_rfl) (fun _ _ _ h => h) (Or.inr ⟨by rfl, rfl⟩) (by assumption) ?_
        try simp only [Act.put, List.setIfInBounds_toArray, List.set_cons_zero, List.set_cons_succ]
        refine wpAnyH_take (i := 7) (v := undef) (by simp only [List.getElem?_toArray, List.getElem?_cons_succ, List.getElem?_cons_zero]; exact rfl) (by kernel_rfl) (by kernel_rfl) (by kernel_rfl) (fun _ _ _ h => h) (Or.inr ⟨by rfl, rfl⟩) (by assumption) ?_
        try simp only [Act.put, List.setIfInBounds_toArray, List.set_cons_zero, List.set_cons_succ]
        refine wpAnyH_take (i := 8) (v := undef) (by simp only [List.getElem?_toArray, List.getElem?_cons_succ, List.getElem?_cons_zero]; exact rfl) (by kernel_rfl) (by kernel_rfl) (by kernel_rfl) (fun _ _ _ h => h) (Or.inr ⟨by rfl, rfl⟩) (by assumption) ?_
        try simp only [Act.put, List.setIfInBounds_toArray, List.set_cons_zero, List.set_cons_succ]
        refine wpAnyH_take (i := 9) (v := undef) (by simp only [List.getElem?_toArray, List.getElem?_cons_succ, List.getElem?_cons_zero]; exact rfl) (by kernel_rfl) (by kernel_rfl) (by kernel_rfl) (fun _ _ _ h => h) (Or.inr ⟨by rfl, rfl⟩) (by assumption) ?_
        try simp only [Act.put, List.setIfInBounds_toArray, List.set_cons_zero, List.set_cons_succ]
        refine wpAnyH_take (i := 10) (v := undef) (by simp only [List.getElem?_toArray, List.getElem?_cons_succ, List.getElem?_cons_zero]; exact rfl) (by kernel_rfl) (by kernel_rfl) (by kernel_rfl) (fun _ _ _ h => h) (Or.inr ⟨by rfl, rfl⟩) (by assumption) ?_
        try simp only [Act.put, List.setIfInBounds_toArray, List.set_cons_zero, List.set_cons_succ]
        refine wpAnyH_take (i := 11) (v := ?_) (by simp only [List.getElem?_toArray, List.getElem?_cons_succ, List.getElem?_cons_zero]; exact rfl) (by kernel_rfl) (by kernel_rfl) (by kernel_rfl) (fun _ _ _ h => h) (Or.inl ⟨by rfl, ?_⟩) (by assumption) ?_
        rotate_left
        · intro w hSw
          try dsimp only at hSw
          go_simp
          try with_reducible rfl
        try simp only [Act.put, List.setIfInBounds_toArray, List.set_cons_zero, List.set_cons_succ]
        refine wpAnyH_take (i := 12) (v := ?_) (by simp only [List.getElem?_toArray, List.getElem?_cons_succ, List.getElem?_cons_zero]; exact rfl) (by kernel_rfl) (by kernel_rfl) (by kernel_rfl) (fun _ _ _ h => h) (Or.inl ⟨by rfl, ?_⟩) (by assumption) ?_
        rotate_left
        · intro w hSw
          try dsimp only at hSw
          go_simp
          try with_reducible rfl
        try simp only [Act.put, List.setIfInBounds_toArray, List.set_cons_zero, List.set_cons_succ]
        refine wpAnyH_take (i := 13) (v := undef) (by simp only [List.getElem?_toArray, List.getElem?_cons_succ, List.getElem?_cons_zero]; exact rfl) (by kernel_rfl) (by kernel_rfl) (by kernel_rfl) (fun _ _ _ h => h) (Or.inr ⟨by rfl, rfl⟩) (by assumption) ?_
        try simp only [Act.put, List.setIfInBounds_toArray, List.set_cons_zero, List.set_cons_succ]
        refine wpAnyH_take (i := 14) (v := undef) (by simp only [List.getElem?_toArray, List.getElem?_cons_succ, List.getElem?_cons_zero]; exact rfl) (by kernel_rfl) (by kernel_rfl) (by kernel_rfl) (fun _ _ _ h => h) (Or.inr ⟨by rfl, rfl⟩) (by assumption) ?_
        try simp only [Act.put, List.setIfInBounds_toArray, List.set_cons_zero, List.set_cons_succ]
        refine wpAnyH_take (i := 15) (v := undef) (by simp only [List.getElem?_toArray, List.getElem?_cons_succ, List.getElem?_cons_zero]; exact rfl) (by kernel_rfl) (by kernel_rfl) (by kernel_rfl) (fun _ _ _ h => h) (Or.inr ⟨by rfl, rfl⟩) (by assumption) ?_
        try simp only [Act.put, List.setIfInBounds_toArray, List.set_cons_zero, List.set_cons_succ]
        refine wpAnyH_take (i := 16) (v := ?_) (by simp only [List.getElem?_toArray, List.getElem?_cons_succ, List.getElem?_cons_zero]; exact rfl) (by kernel_rfl) (by kernel_rfl) (by kernel_rfl) (fun _ _ _ h => h) (Or.inl ⟨by rfl, ?_⟩) (by assumption) ?_
        rotate_left
        · intro w hSw
          try dsimp only at hSw
          go_simp
          try with_reducible rfl
        try simp only [Act.put, List.setIfInBounds_toArray, List.set_cons_zero, List.set_cons_succ]
        refine wpAnyH_take (i := 17) (v := ?_) (by simp only [List.getElem?_toArray, List.getElem?_cons_succ, List.getElem?_cons_zero]; exact rfl) (by kernel_rfl) (by kernel_rfl) (by kernel_rfl) (fun _ _ _ h => h) (Or.inl ⟨by rfl, ?_⟩) (by assumption) ?_
        rotate_left
        · intro w hSw
          try dsimp only at hSw
          go_simp
          try with_reducible rfl
        try simp only [Act.put, List.setIfInBounds_toArray, List.set_cons_zero, List.set_cons_succ]
        refine wpAnyH_take (i := 18) (v := undef) (by simp only [List.getElem?_toArray, List.getElem?_cons_succ, List.getElem?_cons_zero]; exact rfl) (by kernel_rfl) (by kernel_rfl) (by kernel_rfl) (fun _ _ _ h => h) (Or.inr ⟨by rfl, rfl⟩) (by assumption) ?_
        try simp only [Act.put, List.setIfInBounds_toArray, List.set_cons_zero, List.set_cons_succ]
        refine wpAnyH_take (i := 19) (v := undef) (by simp only [List.getElem?_toArray, List.getElem?_cons_succ, List.getElem?_cons_zero]; exact rfl) (by kernel_rfl) (by kernel_rfl) (by kernel_rfl) (fun _ _ _ h => h) (Or.inr ⟨by rfl, rfl⟩) (by assumption) ?_
        try simp only [Act.put, List.setIfInBounds_toArray, List.set_cons_zero, List.set_cons_succ]
        refine wpAnyH_take (i := 20) (v := undef) (by simp only [List.getElem?_toArray, List.getElem?_cons_succ, List.getElem?_cons_zero]; exact rfl) (by kernel_rfl) (by kernel_rfl) (by kernel_rfl) (fun _ _ _ h => h) (Or.inr ⟨by rfl, rfl⟩) (by assumption) ?_
        try simp only [Act.put, List.setIfInBounds_toArray, List.set_cons_zero, List.set_cons_succ]
        refine wpAnyH_take (i := 21) (v := undef) (by simp only [List.getElem?_toArray, List.getElem?_cons_succ, List.getElem?_cons_zero]; exact rfl) (by kernel_rfl) (by kernel_rfl) (by kernel_rfl) (fun _ _ _ h => h) (Or.inr ⟨by rfl, rfl⟩) (by assumption) ?_
        try simp only [Act.put, List.setIfInBounds_toArray, List.set_cons_zero, List.set_cons_succ]
        refine wpAnyH_take (i := 22) (v := undef) (by simp only [List.getElem?_toArray, List.getElem?_cons_succ, List.getElem?_cons_zero]; exact rfl) (by kernel_rfl) (by kernel_rfl) (by kernel_rfl) (fun _ _ _ h => h) (Or.inr ⟨by rfl, rfl⟩) (by assumption) ?_
        try simp only [Act.put, List.setIfInBounds_toArray, List.set_cons_zero, List.set_cons_succ]
        refine wpAnyH_take (i := 23) (v := undef) (by simp only [List.getElem?_toArray, List.getElem?_cons_succ, List.getElem?_cons_zero]; exact rfl) (by kernel_rfl) (by kernel_rfl) (by kernel_rfl) (fun _ _ _ h => h) (Or.inr ⟨by rfl, rfl⟩) (by assumption) ?_
        try simp only [Act.put, List.setIfInBounds_toArray, List.set_cons_zero, List.set_cons_succ]
        refine wpAnyH_take (i := 24) (v := ?_) (by simp only [List.getElem?_toArray, List.getElem?_cons_succ, List.getElem?_cons_zero]; exact rfl) (by kernel_rfl) (by kernel_rfl) (by kernel_rfl) (fun _ _ _ h => h) (Or.inl ⟨by rfl, ?_⟩) (by assumption) ?_
        rotate_left
        · intro w hSw
          try dsimp only at hSw
          go_simp
          try with_reducible rfl
        try simp only [Act.put, List.setIfInBounds_toArray, List.set_cons_zero, List.set_cons_succ]
        refine wpAnyH_done (by kernel_rfl) ?_ _
        refine NoPanic.normal ?_
        have CSX := hid CS.out.drew
        clear hHeld KS
        generalize W0.drew = X at CSX ⊢
        obtain ⟨z0, z1⟩ := box_two CSX.out.2.2.1
        have z2 := frozen_of_row X w.heap.size 0 _ _ CSX.out.2.2.1
        have z3 := frozen_of_row X w.heap.size 1 _ _ CSX.out.2.2.1
        go_wp2
        obtain ⟨W5, hW5⟩ : ∃ W, W = (X.setCell ⟨w.heap.size, 0, none⟩ (.slice none 0 0)).setCell ⟨w.heap.size, 1, none⟩ (.int .i64 0) := ⟨_, rfl⟩
        rw [← hW5]
        obtain ⟨hb5, H5, _⟩ := CSX.out.fin hW5
        obtain ⟨x0, x1⟩ := box_two H5
        obtain ⟨p1, p2, p3⟩ := rd_none HF.out
        exact bodyPost_ret (v := .tuple #[.agg #[.slice none 0 0, .int .i64 0], .bool false]) (by simp [results, Try.results13, go_sem, x0, x1]) rfl ⟨⟨none, 0, 0, by rw [p2, p3], by rw [p1]; exact cat_nil _⟩, hb5⟩

end Go.Proofs.Ytmlnfpefemchhaa

/-
  The walk of the law SchemaPlaces, at one place.
  Conditions: as each theorem states them.
-/
import Derived.Test.YtcccfaeclefcoaaTB
namespace Go.Proofs.Ytcccfaeclefcoaa
open Go.ChangeShapes Go.WideShapes Go.ChangeAt Go.RowKit
set_option linter.unusedVariables false
set_option linter.unusedSimpArgs false

set_option maxHeartbeats 4000000 in
set_option maxRecDepth 100000 in
theorem places_0 (a : Option Addr) (n c : Nat) (ds : Dims) (M : Int) (v0 v1 v2 v3 x0 x1 x2 x3 dim y : Int) (w : World) (hc : Cat w a n c ds) (hM : I64 M) (hV : ∀ x ∈ [v0, v1, v2, v3], U8 x) (hA : ∀ x ∈ [x0, x1, x2, x3], U8 x) (hd : U8 dim) (hy : U8 y) (hR : rightC ds M [v0, v1, v2, v3] [x0, x1, x2, x3] = true) (hk : dim.tmod 4 = 0) :
    Calls Try.prog 7 #[.agg #[.slice a n c, .int .i64 M, .int .u8 v0, .int .u8 v1, .int .u8 v2, .int .u8 v3, .int .u8 x0, .int .u8 x1, .int .u8 x2, .int .u8 x3], .int .u8 dim, .int .u8 y] w fun e w' => e = .returned (.bool true) ∧ Below w.heap.size w w' := by
  obtain ⟨e1, e2⟩ := hc.lens
  have E1 : Hid (n = ds.length) := e1
  have HC : Hid (Cat w a n c ds) := hc
  have HM : Hid (I64 M) := hM
  have HV : Hid (∀ x ∈ [v0, v1, v2, v3], U8 x) := hV
  have HA : Hid (∀ x ∈ [x0, x1, x2, x3], U8 x) := hA
  have HR0 : Hid (rightC ds M [v0, v1, v2, v3] [x0, x1, x2, x3] = true) := hR
  have HG : Hid (goodC ds M = true) := (rightC_is hR).1
  have hd1 := hd.1
  have hd2 := hd.2
  have hy1 := hy.1
  have hy2 := hy.2
  have wd : IntKind.i64.wrap dim = dim := IntWalk.i64_in _ (by omega)
  have HBX : Hid ((w.alloc (.cells #[.slice a n c, .int .i64 M, .int .u8 v0, .int .u8 v1, .int .u8 v2, .int .u8 v3, .int .u8 x0, .int .u8 x1, .int .u8 x2, .int .u8 x3] 48)).heap[w.heap.size]? = some (.cells #[.slice a n c, .int .i64 M, .int .u8 v0, .int .u8 v1, .int .u8 v2, .int .u8 v3, .int .u8 x0, .int .u8 x1, .int .u8 x2, .int .u8 x3] 48)) := heap_alloc_new w _
  have HB0 : Hid (Below w.heap.size w (w.alloc (.cells #[.slice a n c, .int .i64 M, .int .u8 v0, .int .u8 v1, .int .u8 v2, .int .u8 v3, .int .u8 x0, .int .u8 x1, .int .u8 x2, .int .u8 x3] 48))) := (Below.refl _ _).alloc (Nat.le_refl _) _
  clear e1 hc hM hV hA hR hd hy
  go_enter Try.func7, Try.ntmps7
  go_upto_region 4 with (go_at_call 15; refine (rright_m _ _ _ ds M _ _ _ _ _ _ _ _ true _ (HC.out.below HB0.out) HM.out HV.out HA.out HR0.out).mono ?_; rintro e w1 ⟨rfl, hb1⟩; have HBX1 : Hid (w1.heap[w.heap.size]? = some (.cells #[.slice a n c, .int .i64 M, .int .u8 v0, .int .u8 v1, .int .u8 v2, .int .u8 v3, .int .u8 x0, .int .u8 x1, .int .u8 x2, .int .u8 x3] 48)) := keep_blk HBX.out hb1; have HB1 : Hid (Below w.heap.size w w1) := bt HB0.out hb1; obtain ⟨pa, pb, pc, pd, pe, pf, pg, ph, pi, pj⟩ := box10 HBX1.out)
  go_cut [8, 9] (fun p q wx => ∃ Ba Bv, p = .pointer (some ⟨Ba, 0, none⟩) ∧ q = .pointer (some ⟨Bv, 0, none⟩) ∧ Hid (P3 w wx Ba Bv #[.slice a n c, .int .i64 M, .int .u8 v0, .int .u8 v1, .int .u8 v2, .int .u8 v3, .int .u8 x0, .int .u8 x1, .int .u8 x2, .int .u8 x3] #[.int .u8 x0, .int .u8 x1, .int .u8 x2, .int .u8 x3] #[.int .u8 v0, .int .u8 v1, .int .u8 v2, .int .u8 v3]))
  case first =>
    have hlt := heap_lt HBX1.out
    go_region
    all_goals
      go_wp2_with fail
      go_meet
      first
        | exact ⟨_, _, rfl, rfl, hid (p3_new1 _ _ _ _ _ HB1.out HBX1.out).drew⟩
        | exact ⟨_, _, rfl, rfl, hid (p3_new2 _ _ _ _ _ HB1.out HBX1.out).drew⟩
  case rest =>
    obtain ⟨Ba, Bv, rfl, rfl, P4⟩ := hcut
    clear pa pb pc pd pe pf pg ph pi pj HBX1 HB1 HBX HB0
    obtain ⟨_, _, _, hne, o0, o1, o2⟩ := P4.out
    obtain ⟨pa, pb, pc, pd, pe, pf, pg, ph, pi, pj⟩ := box10 o0
    obtain ⟨pk, pl, pm, pn⟩ := box4 o1
    obtain ⟨po, pp, pq, pr⟩ := box4 o2
    have fA := frozen_of_row wc Ba 0 _ _ o1
    have fV := frozen_of_row wc Bv 0 _ _ o2
    have n1 : 1 ≤ n := by rw [E1.out]; exact (goodC_p HG.out).1
    have hAk : 0 ≤ x0 := (HA.out x0 (by simp)).1
    have t1 : True := trivial
    have t2 : True := trivial
    have t3 : True := trivial
    have t4 : True := trivial
    clear o0 o1 o2
    by_cases hn : n ≤ 0
    · omega
    · have hnd : decide ((n : Int) ≤ 0) = false := decide_eq_false (by omega)
      obtain ⟨r, hr⟩ : ∃ r, y.tmod 100 = r := ⟨_, rfl⟩
      have hr0 : 0 ≤ r ∧ r ≤ 99 := by rw [← hr, Int.tmod_eq_emod_of_nonneg hy1]; omega
      obtain ⟨hr1, hr2⟩ := hr0
      have hdk : 0 < ds.length := by rw [← E1.out]; omega
      have lb := lev_bd HG.out hdk
      obtain ⟨lv, hlv⟩ : ∃ lv, levC ds M 0 = lv := ⟨_, rfl⟩
      have hlv' : levC ds M ((0 : Nat) : Int) = lv := hlv
      rw [hlv'] at lb
      obtain ⟨lb1, lb2⟩ := lb
      have HLV : Hid (levC ds M 0 = lv) := hlv
      have w1r : IntKind.u8.wrap (40 + r) = 40 + r := IntWalk.u8_in _ (by omega)
      have wr0 : IntKind.u8.wrap r = r := IntWalk.u8_in _ (by omega)
      have wlv : IntKind.u8.wrap lv = lv := IntWalk.u8_in _ (by omega)
      have wlr : IntKind.u8.wrap (lv + r) = lv + r := IntWalk.u8_in _ (by omega)
      have hma := mem_above (r := r) HG.out hdk hlv' hr1
      have hmb := (memC_bd ds 0 v0).2
      have HA2 : Hid (∀ z ∈ [40 + r, x1, x2, x3], U8 z) := u8_set HA.out (k := 0) (by unfold U8; omega) (by decide)
      have HV2 : Hid (∀ z ∈ [lv + r, v1, v2, v3], U8 z) := u8_set HV.out (k := 0) (by unfold U8; omega) (by decide)
      have HR1 : Hid (rightC ds M [v0, v1, v2, v3] [40 + r, x1, x2, x3] = false) := rightC_no (i := 0) (by decide) (by show memC ds 0 v0 ≤ 40 + r; omega)
      have HR2 : Hid (rightC ds M [lv + r, v1, v2, v3] [0, 0, 0, 0] = false) := rightC_no (i := 0) (by decide) (by show memC ds 0 (lv + r) ≤ 0; omega)
      have HR3 : Hid (rightC ds M [lv + r, v1, v2, v3] [x0, x1, x2, x3] = false) := rightC_no (i := 0) (by decide) (by show memC ds 0 (lv + r) ≤ x0; omega)
      have P5 : Hid (P3 w (wc.setCell ⟨Ba, 0, none⟩ (.int .u8 (40 + r))) Ba Bv #[.slice a n c, .int .i64 M, .int .u8 v0, .int .u8 v1, .int .u8 v2, .int .u8 v3, .int .u8 x0, .int .u8 x1, .int .u8 x2, .int .u8 x3] #[.int .u8 (40 + r), .int .u8 x1, .int .u8 x2, .int .u8 x3] #[.int .u8 v0, .int .u8 v1, .int .u8 v2, .int .u8 v3]) := P4.out.setA 0 _
      have HIK : Hid (I64 0) := by show I64 0; unfold I64; omega
      obtain ⟨_, _, _, _, u0, _, _⟩ := P5.out
      obtain ⟨sa, sb, sc, sd, se, sf, sg, sh, si, sj⟩ := box10 u0
      clear hlv hlv' hma hmb hdk u0
      go_upto_region 9 with (go_at_call 10; refine (levels_m _ _ _ ds M 0 lv _ (HC.out.below P5.out.1) HM.out HIK.out HLV.out).mono ?_; rintro e w5 ⟨rfl, hb5⟩; have P6 : Hid (P3 w w5 Ba Bv #[.slice a n c, .int .i64 M, .int .u8 v0, .int .u8 v1, .int .u8 v2, .int .u8 v3, .int .u8 x0, .int .u8 x1, .int .u8 x2, .int .u8 x3] #[.int .u8 (40 + r), .int .u8 x1, .int .u8 x2, .int .u8 x3] #[.int .u8 v0, .int .u8 v1, .int .u8 v2, .int .u8 v3]) := P5.out.step hb5; obtain ⟨_, _, _, _, _, _, o6⟩ := P6.out; obtain ⟨k0, k1, k2, k3⟩ := box4 o6; have fV5 := frozen_of_row w5 Bv 0 _ _ o6; clear o6)
      obtain ⟨W8, hW8⟩ : ∃ W, W = w5.setCell ⟨Bv, 0, none⟩ (.int .u8 (lv + r)) := ⟨_, rfl⟩
      rw [← hW8]
      have P8 : Hid (P3 w W8 Ba Bv #[.slice a n c, .int .i64 M, .int .u8 v0, .int .u8 v1, .int .u8 v2, .int .u8 v3, .int .u8 x0, .int .u8 x1, .int .u8 x2, .int .u8 x3] #[.int .u8 (40 + r), .int .u8 x1, .int .u8 x2, .int .u8 x3] #[.int .u8 (lv + r), .int .u8 v1, .int .u8 v2, .int .u8 v3]) := by rw [hW8]; exact P6.out.setV 0 _
      clear hW8
      obtain ⟨_, _, _, _, o0, o1, o2⟩ := P8.out
      obtain ⟨ra, rb, rc, rd, re, rf, rg, rh, ri, rj⟩ := box10 o0
      obtain ⟨rk, rl, rm, rn⟩ := box4 o1
      obtain ⟨ro, rp, rq, rs⟩ := box4 o2
      clear o0 o1 o2
      go_wp2_with (first
        | (go_at_call 14; clear t1; refine (right_m _ _ _ ds M v0 v1 v2 v3 x0 x1 x2 x3 true _ (HC.out.below P8.out.1) HM.out HV.out HA.out HR0.out).mono ?_; rintro e w9 ⟨rfl, hb9⟩; have P9 : Hid (P3 w w9 Ba Bv #[.slice a n c, .int .i64 M, .int .u8 v0, .int .u8 v1, .int .u8 v2, .int .u8 v3, .int .u8 x0, .int .u8 x1, .int .u8 x2, .int .u8 x3] #[.int .u8 (40 + r), .int .u8 x1, .int .u8 x2, .int .u8 x3] #[.int .u8 (lv + r), .int .u8 v1, .int .u8 v2, .int .u8 v3]) := P8.out.step hb9; obtain ⟨_, _, _, _, qa0, qa1, qa2⟩ := P9.out; obtain ⟨qaa, qab, qac, qad, qae, qaf, qag, qah, qai, qaj⟩ := box10 qa0; obtain ⟨qak, qal, qam, qan⟩ := box4 qa1; obtain ⟨qao, qap, qaq, qar⟩ := box4 qa2; clear qa0 qa1 qa2)
        | (go_at_call 14; clear t2; refine (right_m _ _ _ ds M v0 v1 v2 v3 (40 + r) x1 x2 x3 false _ (HC.out.below P9.out.1) HM.out HV.out HA2.out HR1.out).mono ?_; rintro e w10 ⟨rfl, hb10⟩; have P10 : Hid (P3 w w10 Ba Bv #[.slice a n c, .int .i64 M, .int .u8 v0, .int .u8 v1, .int .u8 v2, .int .u8 v3, .int .u8 x0, .int .u8 x1, .int .u8 x2, .int .u8 x3] #[.int .u8 (40 + r), .int .u8 x1, .int .u8 x2, .int .u8 x3] #[.int .u8 (lv + r), .int .u8 v1, .int .u8 v2, .int .u8 v3]) := P9.out.step hb10; obtain ⟨_, _, _, _, qb0, qb1, qb2⟩ := P10.out; obtain ⟨qba, qbb, qbc, qbd, qbe, qbf, qbg, qbh, qbi, qbj⟩ := box10 qb0; obtain ⟨qbk, qbl, qbm, qbn⟩ := box4 qb1; obtain ⟨qbo, qbp, qbq, qbr⟩ := box4 qb2; clear qb0 qb1 qb2)
        | (go_at_call 14; clear t3; refine (right_m _ _ _ ds M (lv + r) v1 v2 v3 0 0 0 0 false _ (HC.out.below P10.out.1) HM.out HV2.out u8_0000 HR2.out).mono ?_; rintro e w11 ⟨rfl, hb11⟩; have P11 : Hid (P3 w w11 Ba Bv #[.slice a n c, .int .i64 M, .int .u8 v0, .int .u8 v1, .int .u8 v2, .int .u8 v3, .int .u8 x0, .int .u8 x1, .int .u8 x2, .int .u8 x3] #[.int .u8 (40 + r), .int .u8 x1, .int .u8 x2, .int .u8 x3] #[.int .u8 (lv + r), .int .u8 v1, .int .u8 v2, .int .u8 v3]) := P10.out.step hb11; obtain ⟨_, _, _, _, qc0, qc1, qc2⟩ := P11.out; obtain ⟨qca, qcb, qcc, qcd, qce, qcf, qcg, qch, qci, qcj⟩ := box10 qc0; obtain ⟨qck, qcl, qcm, qcn⟩ := box4 qc1; obtain ⟨qco, qcp, qcq, qcr⟩ := box4 qc2; clear qc0 qc1 qc2)
        | (go_at_call 14; clear t4; refine (right_m _ _ _ ds M (lv + r) v1 v2 v3 x0 x1 x2 x3 false _ (HC.out.below P11.out.1) HM.out HV2.out HA.out HR3.out).mono ?_; rintro e w12 ⟨rfl, hb12⟩; have P12 : Hid (P3 w w12 Ba Bv #[.slice a n c, .int .i64 M, .int .u8 v0, .int .u8 v1, .int .u8 v2, .int .u8 v3, .int .u8 x0, .int .u8 x1, .int .u8 x2, .int .u8 x3] #[.int .u8 (40 + r), .int .u8 x1, .int .u8 x2, .int .u8 x3] #[.int .u8 (lv + r), .int .u8 v1, .int .u8 v2, .int .u8 v3]) := P11.out.step hb12; obtain ⟨_, _, _, _, qd0, qd1, qd2⟩ := P12.out; obtain ⟨qda, qdb, qdc, qdd, qde, qdf, qdg, qdh, qdi, qdj⟩ := box10 qd0; obtain ⟨qdk, qdl, qdm, qdn⟩ := box4 qd1; obtain ⟨qdo, qdp, qdq, qdr⟩ := box4 qd2; clear qd0 qd1 qd2)
        | (go_at_call 9; refine (wakes_any _).mono ?_; rintro e w13 ⟨rfl, hb13⟩))
      go_ret
      exact ⟨rfl, bt P12.out.1 hb13⟩

end Go.Proofs.Ytcccfaeclefcoaa

/-
  A catalog that may be is read as it was written: the walk of the law SchemaBack, up to its last word.
  Conditions: as each theorem states them.
-/
import Derived.Test.YtcccfaeclefcoaaSV
import Derived.Test.YtcccfaeclefcoaaSG
import Derived.Test.YtcccfaeclefcoaaSD
import Derived.Deep.RegionHeld
import Derived.Deep.Cut
import Derived.Deep.DeepCutAuto
import Derived.Deep.CutRange
namespace Go.Proofs.Ytcccfaeclefcoaa
open Go.ChangeShapes Go.WideShapes Go.ChangeAt Go.RowKit
set_option linter.unusedVariables false
set_option linter.unusedSimpArgs false

theorem row8_take {w : World} {b off n c m : Nat} {l : List Int} (h : code.Row8 w (some ⟨b, off, none⟩) n c l) (hm : m ≤ n) : code.Row8 w (some ⟨b, off, none⟩) m c (l.take m) := by
  obtain ⟨h1, h2, h3, h4, h5, h6⟩ := h
  refine ⟨by rw [List.length_take]; omega, by omega, h3, fun x hx => h4 x (List.mem_of_mem_take hx), (fun e => by cases e), fun h0 => ?_⟩
  obtain ⟨b', off', e, hb, hl⟩ := h6 (by omega)
  cases e
  refine ⟨b, off, rfl, hb, fun j hj => ?_⟩
  rw [List.length_take] at hj
  have := hl j (by omega)
  rw [this, List.getD_eq_getElem?_getD, List.getD_eq_getElem?_getD, List.getElem?_take, if_pos (by omega)]
theorem rd_back {ds : Dims} {M : Int} (h : goodC ds M = true) : rdD (nums ds M) = ds ∧ rdM (nums ds M) = M ∧ rdB (nums ds M) = true := rd_some (pread_is h)
theorem rd_more {ds : Dims} {M : Int} (h : goodC ds M = true) (x : Int) (hx : 0 ≤ x) : rdD (nums ds M ++ [x]) = [] ∧ rdM (nums ds M ++ [x]) = 0 ∧ rdB (nums ds M ++ [x]) = false :=
  rd_none (pread_none (fun y hy => by
    rw [List.mem_append, List.mem_singleton] at hy
    rcases hy with hy | rfl
    · exact (nums_small h y hy).1
    · exact hx) (more_none h x))
theorem rd_less {ds : Dims} {M : Int} (h : goodC ds M = true) {m : Nat} (hm : m = (nums ds M).length - 1) : rdD ((nums ds M).take m) = [] ∧ rdM ((nums ds M).take m) = 0 ∧ rdB ((nums ds M).take m) = false := by
  subst hm
  exact rd_none (pread_none (fun y hy => (nums_small h y (List.mem_of_mem_take hy)).1) (less_none h))
theorem txt_ne {a b : ByteArray} (h : ¬ a = b) : (a.toList == b.toList) = false := by
  rw [beq_eq_false_iff_ne]
  intro e
  rw [ByteArray.toList_eq, ByteArray.toList_eq] at e
  exact h (ByteArray.ext (Array.toList_inj.mp e))
theorem keep_hid {wr : World} {Q : World → Prop} {w' : World} (hb : Hid (Below wr.heap.size wr w')) (K : Hid (∀ x, Below wr.heap.size wr x → Q x)) : Q w' := K.out _ hb.out
theorem u8_app {L : List Int} {y : Int} (h : ∀ x ∈ L, U8 x) (hy : U8 y) : ∀ x ∈ L ++ [y], U8 x := by
  intro x hx
  rw [List.mem_append, List.mem_singleton] at hx
  rcases hx with hx | rfl
  · exact h x hx
  · exact hy
/-- Unlike ones are written unlike. -/
theorem txt_same {ds es : Dims} {M N : Int} (h : goodC ds M = true) : (txt (bytesC es N) = txt (nums ds M)) ↔ (M = N ∧ ds = es) := by
  constructor
  · intro e
    have e2 := txt_inj (bytesC_u8 es N) (nums_u8 h) e
    cases hg : goodC es N with
    | false =>
      rw [bytesC_bad hg] at e2
      have := (nums_len h).1
      rw [← e2] at this
      simp at this
    | true =>
      rw [bytesC_nums hg] at e2
      have := nums_inj (r := []) (s := []) hg h (by rw [e2])
      exact ⟨this.2.1.symm, this.1.symm⟩
  · rintro ⟨rfl, rfl⟩
    rw [bytesC_nums h]

set_option maxHeartbeats 20000000 in
set_option maxRecDepth 100000 in
theorem back_walk (a : Option Addr) (n c : Nat) (ds : Dims) (M : Int) (b : Option Addr) (n2 c2 : Nat) (es : Dims) (N y : Int) (w : World) (hc : Cat w a n c ds) (hM : I64 M) (hc2 : Cat w b n2 c2 es) (hN : I64 N) (hy : U8 y) :
    Calls Try.prog 5 #[.agg #[.slice a n c, .int .i64 M], .agg #[.slice b n2 c2, .int .i64 N], .int .u8 y] w fun e w' => e = .returned (.bool true) ∧ Below w.heap.size w w' := by
  have HC : Hid (Cat w a n c ds) := hc
  have HM : Hid (I64 M) := hM
  have HC2 : Hid (Cat w b n2 c2 es) := hc2
  have HN : Hid (I64 N) := hN
  have HY : Hid (U8 y) := hy
  have BX : Hid (B2 w ((w.alloc (.cells #[.slice a n c, .int .i64 M] 24)).alloc (.cells #[.slice b n2 c2, .int .i64 N] 24)) (.slice a n c) (.int .i64 M) (.slice b n2 c2) (.int .i64 N)) := b2_new _ _ _ _ _ _ _
  clear hc hM hc2 hN hy
  obtain ⟨g, hg⟩ : ∃ g, goodC ds M = g := ⟨_, rfl⟩
  have HG : Hid (goodC ds M = g) := hg
  clear hg
  go_enter Try.func5, Try.ntmps5
  cases g with
  | false =>
    go_wp2_with (first
      | (go_at_call 8; refine (lightC_any _ _ _ es N _ (HC2.out.below BX.out.2.1)).mono ?_; rintro e w1 ⟨⟨v, rfl, hv⟩, hb1⟩; clear hv; have BX1 : Hid (B2 w w1 (.slice a n c) (.int .i64 M) (.slice b n2 c2) (.int .i64 N)) := BX.out.step hb1; obtain ⟨_, _, q0, q1, q2, q3⟩ := BX1.out; clear hb1; cases v)
      | (go_at_call 13; refine (rgood_m _ _ _ ds M false _ (HC.out.below BX1.out.2.1) HM.out HG.out).mono ?_; rintro e w2 ⟨rfl, hb2⟩; have BX2 : Hid (B2 w w2 (.slice a n c) (.int .i64 M) (.slice b n2 c2) (.int .i64 N)) := BX1.out.step hb2; clear hb2)
      | (go_at_call 9; refine (wakes_any _).mono ?_; rintro e w9 ⟨rfl, hb9⟩))
    · go_ret
      exact ⟨rfl, bt BX1.out.2.1 hb9⟩
    · go_ret
      exact ⟨rfl, bt BX2.out.2.1 hb9⟩
  | true =>
    go_upto_if 21 with (first
      | (go_at_call 8; refine (lightC_any _ _ _ es N _ (HC2.out.below BX.out.2.1)).mono ?_; rintro e w1 ⟨⟨v, rfl, hv⟩, hb1⟩; clear hv; have BX1 : Hid (B2 w w1 (.slice a n c) (.int .i64 M) (.slice b n2 c2) (.int .i64 N)) := BX.out.step hb1; obtain ⟨_, _, q0, q1, q2, q3⟩ := BX1.out; clear hb1; cases v)
      | (go_at_call 13; refine (rgood_m _ _ _ ds M true _ (HC.out.below BX1.out.2.1) HM.out HG.out).mono ?_; rintro e w2 ⟨rfl, hb2⟩; have BX2 : Hid (B2 w w2 (.slice a n c) (.int .i64 M) (.slice b n2 c2) (.int .i64 N)) := BX1.out.step hb2; clear hb2; obtain ⟨_, _, q4, q5, q6, q7⟩ := BX2.out))
    · go_wp2_with (go_at_call 9; refine (wakes_any _).mono ?_; rintro e w9 ⟨rfl, hb9⟩)
      go_ret
      exact ⟨rfl, bt BX1.out.2.1 hb9⟩
    · clear q0 q1 q2 q3 BX1 BX
      obtain ⟨L, hL⟩ : ∃ L, nums ds M = L := ⟨_, rfl⟩
      have HL : Hid (nums ds M = L) := hL
      have hLl := nums_len HG.out
      rw [hL] at hLl
      have HU8 : Hid (∀ x ∈ L, U8 x) := by rw [← hL]; exact nums_u8 HG.out
      have HBL : Hid (bytesC ds M = L) := by show _ = _; rw [bytesC_nums HG.out]; exact hL
      clear hL
      have t1 : True := trivial
      have t2 : True := trivial
      go_upto_region 7 with (first
        | (go_at_call 17; refine (sbytes_any _ _ _ ds M _ (HC.out.below BX2.out.2.1) HM.out).mono ?_; rintro e w3 ⟨⟨ab, nb, cb, rfl, hrb⟩, hb3⟩; rw [HBL.out] at hrb; have HRB : Hid (code.Row8 w3 ab nb cb L) := hrb; have HNB : Hid (nb = L.length) := hrb.1; have hnb2 : 2 ≤ nb := (by rw [hrb.1]; exact hLl.1); have hnb3 : nb ≤ 502 := (by rw [hrb.1]; exact hLl.2); have hncb : nb ≤ cb := hrb.2.1; have hcbm : cb ≤ 9223372036854775807 := (by have := hrb.2.2.1; unfold maxLen at this; omega); clear hrb; have nz : ((nb : Int) == 0) = false := (by simp; omega); have BX3 : Hid (B2 w w3 (.slice a n c) (.int .i64 M) (.slice b n2 c2) (.int .i64 N)) := BX2.out.step hb3; clear hb3)
        | (go_at_call 20; refine (read_m _ _ _ L ds M true _ HRB.out (by rw [← HL.out]; exact rd_back HG.out)).mono ?_; rintro e w4 ⟨⟨a4, n4, c4, rfl, hc4⟩, hb4⟩; have HC4 : Hid (Cat w4 a4 n4 c4 ds) := hc4; have BX4 : Hid (B2 w w4 (.slice a n c) (.int .i64 M) (.slice b n2 c2) (.int .i64 N)) := BX3.out.step hb4; have HB4 : Hid (Below w3.heap.size w3 w4) := hb4; clear hc4 hb4))
      obtain ⟨b3, off3, rfl, _, _⟩ := HRB.out.2.2.2.2.2 (by omega)
      obtain ⟨w5, hw5⟩ : ∃ W, W = (w4.alloc (.cells #[.slice a4 n4 c4, .int .i64 M] 24)) := ⟨_, rfl⟩
      have HB5 : Hid (Below w4.heap.size w4 w5) := by rw [hw5]; exact (Below.refl _ _).alloc (Nat.le_refl _) _
      have BX5 : Hid (B2 w w5 (.slice a n c) (.int .i64 M) (.slice b n2 c2) (.int .i64 N)) := BX4.out.step HB5.out
      have BY5 : Hid (Bx w4 w5 (.slice a4 n4 c4) (.int .i64 M)) := by rw [hw5]; exact bx_new _ _ _ _
      rw [← hw5]
      clear hw5
      have HR5 : Hid (code.Row8 w5 (some ⟨b3, off3, none⟩) nb cb L) := HRB.out.below (bt HB4.out HB5.out)
      go_upto_region 8 with (first
        | (at_builtin; refine append_row (k := .u8) Try.underlying33 code.info_u8 (by decide) rfl (.tmp 34) (.tmp 35) rfl w5.heap.size w5.heap.size 0 0 [] rfl (own_made 5 w5 w5.heap.size (Nat.le_refl _)) (some ⟨b3, off3, none⟩) nb cb L rfl (row8_irow (HR5.out.below ((Below.refl _ _).alloc (Nat.le_refl _) _))).1 (by omega) (by simp) ?_; intro g6 cap6 w6 hown6 hgrow6; rw [Nat.zero_add, List.nil_append] at hown6; have HB6 : Hid (Below w5.heap.size w5 w6) := ((Below.refl w5.heap.size w5).alloc (Nat.le_refl _) _).grown hgrow6 (by simp) (fun k hk => by cases hk; exact Nat.le_refl _); have HO6 : Hid (w6.ownsRow w5.heap.size 5 1 (.slice (some ⟨g6, 0, none⟩) nb cap6) nb (vals .u8 L)) := hown6; clear hown6 hgrow6)
        | (at_builtin; refine append_one (k := .u8) Try.underlying33 code.info_u8 (by decide) rfl (.tmp 36) (.tmp 38) rfl w5.heap.size nb _ y L w6.heap.size rfl rfl HO6.out rfl (by omega) HB6.out.size ?_; intro v7 w7 hown7 hex7 hb7; obtain ⟨g7, cap7, rfl⟩ := hex7; have HB7 : Hid (Below w5.heap.size w5 w7) := HB6.out.trans hb7; have HR7 : Hid (code.Row8 w7 (some ⟨g7, 0, none⟩) (nb + 1) cap7 (L ++ [y])) := row8_of (own_row hown7) (u8_app HU8.out HY.out); clear hown7 hb7)
        | (go_at_call 20; clear t1; refine (read_m _ _ _ (L ++ [y]) [] 0 false _ HR7.out (by rw [← HL.out]; exact rd_more HG.out y HY.out.1)).mono ?_; rintro e w8 ⟨⟨a8, n8, c8, rfl, _⟩, hb8⟩; have HB8 : Hid (Below w5.heap.size w5 w8) := bt HB7.out hb8; clear hb8))
      obtain ⟨w9, hw9⟩ : ∃ W, W = w8.alloc (.cells #[.slice a8 n8 c8, .int .i64 0] 24) := ⟨_, rfl⟩
      have HB9 : Hid (Below w5.heap.size w5 w9) := by rw [hw9]; exact HB8.out.alloc HB8.out.size _
      rw [← hw9]
      clear hw9
      obtain ⟨m, hm⟩ : ∃ m : Nat, nb = m + 1 := ⟨nb - 1, by omega⟩
      have hs1 : IntKind.i64.wrap ((nb : Int) - 1) = (m : Int) := by rw [IntWalk.i64_in _ (by omega)]; omega
      have hs2 : (m : Int) ≤ (cb : Int) := by omega
      have hs3 : ¬ cb = 0 := by omega
      have HMn : Hid (nb = m + 1) := hm
      clear hm
      have HR9 : Hid (code.Row8 w9 (some ⟨b3, off3, none⟩) m cb (L.take m)) := row8_take (HR5.out.below HB9.out) (by have := HMn.out; omega)
      have HLS : Hid (rdD (L.take m) = [] ∧ rdM (L.take m) = 0 ∧ rdB (L.take m) = false) := by
        rw [← HL.out]
        exact rd_less HG.out (by rw [HL.out]; have h1 := HNB.out; have h2 := HMn.out; omega)
      go_upto_region 9 with (first
        | (go_at_call 20; clear t2; refine (read_m _ _ _ (L.take m) [] 0 false _ HR9.out HLS.out).mono ?_; rintro e w10 ⟨⟨a10, n10, c10, rfl, _⟩, hb10⟩; have HB10 : Hid (Below w5.heap.size w5 w10) := bt HB9.out hb10; clear hb10))
      obtain ⟨wr, hwr⟩ : ∃ W, W = w10.alloc (.cells #[.slice a10 n10 c10, .int .i64 0] 24) := ⟨_, rfl⟩
      have HBr : Hid (Below w5.heap.size w5 wr) := by rw [hwr]; exact HB10.out.alloc HB10.out.size _
      rw [← hwr]
      clear hwr
      have BXr : Hid (B2 w wr (.slice a n c) (.int .i64 M) (.slice b n2 c2) (.int .i64 N)) := BX5.out.step HBr.out
      have BYr : Hid (Bx w4 wr (.slice a4 n4 c4) (.int .i64 M)) := BY5.out.step HBr.out
      obtain ⟨X, hX⟩ : ∃ X, w4.heap.size = X := ⟨_, rfl⟩
      obtain ⟨s0, s1, y0, y1⟩ := BYr.out
      obtain ⟨z0, z1, q0, q1, q2, q3⟩ := BXr.out
      rw [hX] at y0 y1 s0
      have HCr : Hid (Cat wr a4 n4 c4 ds) := HC4.out.below s1
      rw [hX]
      clear hX q4 q5 q6 q7
      have HRr : Hid (code.Row8 wr (some ⟨b3, off3, none⟩) nb cb L) := HR5.out.below HBr.out
      have HBw : Hid (Below w.heap.size w wr) := z1
      obtain ⟨sm, hsm⟩ : ∃ sm, sameC ds M es N = sm := ⟨_, rfl⟩
      have HSM : Hid (sameC ds M es N = sm) := hsm
      have HTX : Hid ((txt (bytesC es N) = txt L) ↔ sm = true) := by
        show _ ↔ _
        rw [← HL.out, txt_same HG.out, ← hsm]; unfold sameC; simp
      have HSS : Hid (sameC ds M ds M = true) := sameC_yes rfl rfl
      clear hsm
      have KS : Hid (∀ w', Below wr.heap.size wr w' → Below wr.heap.size wr w' ∧ w'.cell? ⟨w.heap.size, 0, none⟩ = some (.slice a n c) ∧ w'.cell? ⟨w.heap.size, 1, none⟩ = some (.int .i64 M) ∧ w'.cell? ⟨w.heap.size + 1, 0, none⟩ = some (.slice b n2 c2) ∧ w'.cell? ⟨w.heap.size + 1, 1, none⟩ = some (.int .i64 N) ∧ w'.cell? ⟨X, 0, none⟩ = some (.slice a4 n4 c4) ∧ w'.cell? ⟨X, 1, none⟩ = some (.int .i64 M)) :=
        hid fun w' hB => ⟨hB, ((bcell hB).1 _ _ (by omega)).trans q0, ((bcell hB).1 _ _ (by omega)).trans q1, ((bcell hB).1 _ _ (by omega)).trans q2, ((bcell hB).1 _ _ (by omega)).trans q3, ((bcell hB).1 _ _ s0).trans y0, ((bcell hB).1 _ _ s0).trans y1⟩
      have cv0 : (convert 33 9 (.slice (some ⟨b3, off3, none⟩) nb cb)).run Try.prog wr.drew = .ok (.string (txt L)) wr.drew := conv8 (w := wr.drew) (HRr.out.below (Below.refl _ _).drew)
      have t3 : True := trivial
      cases sm with
      | true =>
        have htd : txt (bytesC es N) = txt L := HTX.out.mpr rfl
        go_region_held (fun w' => Below wr.heap.size wr w' ∧ w'.cell? ⟨w.heap.size, 0, none⟩ = some (.slice a n c) ∧ w'.cell? ⟨w.heap.size, 1, none⟩ = some (.int .i64 M) ∧ w'.cell? ⟨w.heap.size + 1, 0, none⟩ = some (.slice b n2 c2) ∧ w'.cell? ⟨w.heap.size + 1, 1, none⟩ = some (.int .i64 N) ∧ w'.cell? ⟨X, 0, none⟩ = some (.slice a4 n4 c4) ∧ w'.cell? ⟨X, 1, none⟩ = some (.int .i64 M))
          (first | assumption | exact keep_drew KS | exact keep_hid (by assumption) KS | exact keep_step (by assumption) (by assumption) KS)
          (first
            | (go_at_call 16; clear t3; refine (ssame_m _ _ _ _ _ _ ds ds M M true _ (HCr.out.below (And.left (by assumption))) (HC.out.below (bt HBw.out (And.left (by assumption)))) HSS).mono ?_; rintro e w12 ⟨rfl, hb12⟩; have HW12 : Hid (Below wr.heap.size wr w12) := bt (And.left (by assumption)) hb12; have cv1 := conv8 (HRr.out.below HW12.out))
            | (go_at_call 17; refine (sbytes_any _ _ _ es N _ (HC2.out.below (bt HBw.out (And.left (by assumption)))) HN.out).mono ?_; rintro e w13 ⟨⟨ad, nd, cd, rfl, hrd⟩, hb13⟩; have HRD : Hid (code.Row8 w13 ad nd cd (bytesC es N)) := hrd; clear hrd; have HW13 : Hid (Below wr.heap.size wr w13) := bt HW12.out hb13; have cv2 := conv8 (HRr.out.below HW13.out); have cv3 := conv8 HRD.out)
            | (go_at_call 16; refine (ssame_m _ _ _ _ _ _ ds es M N true _ (HC.out.below (bt HBw.out (And.left (by assumption)))) (HC2.out.below (bt HBw.out (And.left (by assumption)))) HSM).mono ?_; rintro e w14 ⟨rfl, hb14⟩; have cv4 := conv8 (HRr.out.below (bt HW13.out hb14)); have cv5 := conv8 (HRD.out.below hb14))
            | (go_at_call 9; refine (wakes_any _).mono ?_; rintro e w15 ⟨rfl, hb15⟩))
        all_goals
          go_wp2
          go_ret
          exact ⟨rfl, bt HBw.out (And.left (by assumption))⟩
      | false =>
        have htl : ((txt (bytesC es N)).toList == (txt L).toList) = false := txt_ne (fun e => by have := HTX.out.mp e; cases this)
        go_region_held (fun w' => Below wr.heap.size wr w' ∧ w'.cell? ⟨w.heap.size, 0, none⟩ = some (.slice a n c) ∧ w'.cell? ⟨w.heap.size, 1, none⟩ = some (.int .i64 M) ∧ w'.cell? ⟨w.heap.size + 1, 0, none⟩ = some (.slice b n2 c2) ∧ w'.cell? ⟨w.heap.size + 1, 1, none⟩ = some (.int .i64 N) ∧ w'.cell? ⟨X, 0, none⟩ = some (.slice a4 n4 c4) ∧ w'.cell? ⟨X, 1, none⟩ = some (.int .i64 M))
          (first | assumption | exact keep_drew KS | exact keep_hid (by assumption) KS | exact keep_step (by assumption) (by assumption) KS)
          (first
            | (go_at_call 16; clear t3; refine (ssame_m _ _ _ _ _ _ ds ds M M true _ (HCr.out.below (And.left (by assumption))) (HC.out.below (bt HBw.out (And.left (by assumption)))) HSS).mono ?_; rintro e w12 ⟨rfl, hb12⟩; have HW12 : Hid (Below wr.heap.size wr w12) := bt (And.left (by assumption)) hb12; have cv1 := conv8 (HRr.out.below HW12.out))
            | (go_at_call 17; refine (sbytes_any _ _ _ es N _ (HC2.out.below (bt HBw.out (And.left (by assumption)))) HN.out).mono ?_; rintro e w13 ⟨⟨ad, nd, cd, rfl, hrd⟩, hb13⟩; have HRD : Hid (code.Row8 w13 ad nd cd (bytesC es N)) := hrd; clear hrd; have HW13 : Hid (Below wr.heap.size wr w13) := bt HW12.out hb13; have cv2 := conv8 (HRr.out.below HW13.out); have cv3 := conv8 HRD.out)
            | (go_at_call 16; refine (ssame_m _ _ _ _ _ _ ds es M N false _ (HC.out.below (bt HBw.out (And.left (by assumption)))) (HC2.out.below (bt HBw.out (And.left (by assumption)))) HSM).mono ?_; rintro e w14 ⟨rfl, hb14⟩; have cv4 := conv8 (HRr.out.below (bt HW13.out hb14)); have cv5 := conv8 (HRD.out.below hb14))
            | (go_at_call 9; refine (wakes_any _).mono ?_; rintro e w15 ⟨rfl, hb15⟩))
        all_goals
          go_wp2
          go_ret
          exact ⟨rfl, bt HBw.out (And.left (by assumption))⟩

end Go.Proofs.Ytcccfaeclefcoaa

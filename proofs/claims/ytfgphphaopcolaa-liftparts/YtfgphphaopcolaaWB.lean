/-
  What lift.To returns: the place of the coarser node, or none.
  Conditions: as each theorem states them.
-/
import Derived.Test.YtfgphphaopcolaaWA
namespace Go.Proofs.Ytfgphphaopcolaa
open Go.ChangeShapes Go.WideShapes Go.ChangeAt Go.RowKit
set_option linter.unusedVariables false
set_option linter.unusedSimpArgs false

/-- A catalog, two nodes, a place and the result, in blocks behind a world. -/
def To5 (w wr : World) (s u : Value) (F T A R : Nat → Int) : Prop :=
  Below w.heap.size w wr ∧ wr.heap[w.heap.size]? = some (.cells #[s, u] 24) ∧ wr.heap[w.heap.size + 1]? = some (.cells (n4 F) 26) ∧ wr.heap[w.heap.size + 2]? = some (.cells (n4 T) 26) ∧ wr.heap[w.heap.size + 3]? = some (.cells (n4 A) 27) ∧ wr.heap[w.heap.size + 4]? = some (.cells (n4 R) 27)
theorem To5.step {w wr w' : World} {s u : Value} {F T A R : Nat → Int} (h : To5 w wr s u F T A R) (hb : Below wr.heap.size wr w') : To5 w w' s u F T A R :=
  ⟨bt h.1 hb, keep_blk h.2.1 hb, keep_blk h.2.2.1 hb, keep_blk h.2.2.2.1 hb, keep_blk h.2.2.2.2.1 hb, keep_blk h.2.2.2.2.2 hb⟩
theorem to5_new (w : World) (s u : Value) (f0 f1 f2 f3 t0 t1 t2 t3 x0 x1 x2 x3 : Int) : To5 w (((((w.alloc (.cells #[s, u] 24)).alloc (.cells #[.int .u8 f0, .int .u8 f1, .int .u8 f2, .int .u8 f3] 26)).alloc (.cells #[.int .u8 t0, .int .u8 t1, .int .u8 t2, .int .u8 t3] 26)).alloc (.cells #[.int .u8 x0, .int .u8 x1, .int .u8 x2, .int .u8 x3] 27)).alloc (.cells #[.int .u8 0, .int .u8 0, .int .u8 0, .int .u8 0] 27)) s u (fun j => [f0, f1, f2, f3].getD j 0) (fun j => [t0, t1, t2, t3].getD j 0) (fun j => [x0, x1, x2, x3].getD j 0) (fun _ => 0) := by
  refine ⟨(((((Below.refl _ _).alloc (Nat.le_refl _) _).alloc (by simp) _).alloc (by simp; omega) _).alloc (by simp; omega) _).alloc (by simp; omega) _, ?_, ?_, ?_, ?_, ?_⟩ <;> simp only [heap_alloc2, World.size_alloc]
  · rw [if_neg (by omega), if_neg (by omega), if_neg (by omega), if_neg (by omega)]; simp
  · rw [if_neg (by omega), if_neg (by omega), if_neg (by omega)]; simp [n4]
  · rw [if_neg (by omega), if_neg (by omega)]; simp [n4]
  · rw [if_neg (by omega)]; simp [n4]
  · simp [n4]
theorem To5.put {w wr : World} {s u : Value} {F T A R A' : Nat → Int} (h : To5 w wr s u F T A R) {k : Nat} (hk : k < 4) {x : Int} (e : ∀ j, j < 4 → A' j = if j = k then x else A j) : To5 w (wr.setCell ⟨w.heap.size + 3, k, none⟩ (.int .u8 x)) s u F T A' R := by
  obtain ⟨h1, h2, h3, h4, h5, h6⟩ := h
  refine ⟨h1.setCell (by simp) _, ?_, ?_, ?_, ?_, ?_⟩
  · rw [Below.heap_setCell _ _ _ _ (by simp)]; exact h2
  · rw [Below.heap_setCell _ _ _ _ (by simp)]; exact h3
  · rw [Below.heap_setCell _ _ _ _ (by simp)]; exact h4
  · exact n4_set h5 hk e
  · rw [Below.heap_setCell _ _ _ _ (by simp)]; exact h6
/-- What the walk reads of it. -/
theorem To5.all {w wr : World} {s u : Value} {F T A R : Nat → Int} (h : To5 w wr s u F T A R) :
    (wr.cell? ⟨w.heap.size, 0, none⟩ = some s ∧ wr.cell? ⟨w.heap.size, 1, none⟩ = some u) ∧
    (wr.cell? ⟨w.heap.size + 1, 0, none⟩ = some (.int .u8 (F 0)) ∧ wr.cell? ⟨w.heap.size + 1, 1, none⟩ = some (.int .u8 (F 1)) ∧ wr.cell? ⟨w.heap.size + 1, 2, none⟩ = some (.int .u8 (F 2)) ∧ wr.cell? ⟨w.heap.size + 1, 3, none⟩ = some (.int .u8 (F 3))) ∧
    (wr.cell? ⟨w.heap.size + 2, 0, none⟩ = some (.int .u8 (T 0)) ∧ wr.cell? ⟨w.heap.size + 2, 1, none⟩ = some (.int .u8 (T 1)) ∧ wr.cell? ⟨w.heap.size + 2, 2, none⟩ = some (.int .u8 (T 2)) ∧ wr.cell? ⟨w.heap.size + 2, 3, none⟩ = some (.int .u8 (T 3))) ∧
    (wr.cell? ⟨w.heap.size + 3, 0, none⟩ = some (.int .u8 (A 0)) ∧ wr.cell? ⟨w.heap.size + 3, 1, none⟩ = some (.int .u8 (A 1)) ∧ wr.cell? ⟨w.heap.size + 3, 2, none⟩ = some (.int .u8 (A 2)) ∧ wr.cell? ⟨w.heap.size + 3, 3, none⟩ = some (.int .u8 (A 3))) ∧
    (wr.cell? ⟨w.heap.size + 4, 0, none⟩ = some (.int .u8 (R 0)) ∧ wr.cell? ⟨w.heap.size + 4, 1, none⟩ = some (.int .u8 (R 1)) ∧ wr.cell? ⟨w.heap.size + 4, 2, none⟩ = some (.int .u8 (R 2)) ∧ wr.cell? ⟨w.heap.size + 4, 3, none⟩ = some (.int .u8 (R 3))) :=
  ⟨box_two h.2.1, n4_all h.2.2.1, n4_all h.2.2.2.1, n4_all h.2.2.2.2.1, n4_all h.2.2.2.2.2⟩
/-- The first so many are carried. -/
def toP (ds : Dims) (F T A : List Int) (k j : Nat) : Int := if j < k then toX ds F T A j else A.getD j 0

set_option maxHeartbeats 8000000 in
theorem lto_any (a : Option Addr) (n c : Nat) (ds : Dims) (M f0 f1 f2 f3 t0 t1 t2 t3 x0 x1 x2 x3 : Int) (w : World) (hc : Cat w a n c ds) (hM : I64 M) (hF : ∀ x ∈ [f0, f1, f2, f3], U8 x) (hT : ∀ x ∈ [t0, t1, t2, t3], U8 x) (hA : ∀ x ∈ [x0, x1, x2, x3], U8 x) :
    Calls Try.prog 11 #[.agg #[.slice a n c, .int .i64 M], .agg #[.int .u8 f0, .int .u8 f1, .int .u8 f2, .int .u8 f3], .agg #[.int .u8 t0, .int .u8 t1, .int .u8 t2, .int .u8 t3], .agg #[.int .u8 x0, .int .u8 x1, .int .u8 x2, .int .u8 x3]] w
      fun e w' => e = .returned (.tuple #[.agg (n4 (toR ds M f0 f1 f2 f3 t0 t1 t2 t3 x0 x1 x2 x3)), .bool (toB ds M f0 f1 f2 f3 t0 t1 t2 t3 x0 x1 x2 x3)]) ∧ Below w.heap.size w w' := by
  obtain ⟨e1, e2⟩ := hc.lens
  have E1 : Hid (n = ds.length) := e1
  have HC : Hid (Cat w a n c ds) := hc
  have HM : Hid (I64 M) := hM
  have HF : Hid (∀ x ∈ [f0, f1, f2, f3], U8 x) := hF
  have HT : Hid (∀ x ∈ [t0, t1, t2, t3], U8 x) := hT
  have HA : Hid (∀ x ∈ [x0, x1, x2, x3], U8 x) := hA
  have TX : Hid (To5 w _ (.slice a n c) (.int .i64 M) _ _ _ _) := to5_new w (.slice a n c) (.int .i64 M) f0 f1 f2 f3 t0 t1 t2 t3 x0 x1 x2 x3
  clear e1 hc hM hF hT hA
  cases hr : rightC ds M [f0, f1, f2, f3] [x0, x1, x2, x3] with
  | false =>
    have HR := hid hr
    have hB := toB_1 (t0 := t0) (t1 := t1) (t2 := t2) (t3 := t3) hr
    rw [n4_same (g := fun _ => 0) (fun j _ => toR_no hB j), hB]
    clear hr hB
    go_enter Try.func11, Try.ntmps11
    go_wp2_with (go_at_call 28; refine (sright_m _ _ _ _ _ _ _ _ _ _ _ _ _ _ _ (HC.out.below TX.out.1) HM.out HF.out HA.out HR).mono ?_; rintro e w1 ⟨rfl, hb⟩; have TX1 := TX.out.step hb; obtain ⟨d0, d1, d2, d3⟩ := n4_all TX1.2.2.2.2.2; obtain ⟨g0, g1, g2, g3⟩ := froz4 TX1.2.2.2.2.2; have TX1 := hid TX1)
    obtain ⟨r0, r1, r2, r3⟩ := box4 (n4_store TX1.out.2.2.2.2.2 (.int .u8 0) (.int .u8 0) (.int .u8 0) (.int .u8 0))
    exact bodyPost_ret (v := .tuple #[.agg (n4 fun _ => 0), .bool false]) (by simp [results, Try.results11, go_sem, r0, r1, r2, r3, n4]) rfl ⟨rfl, below4 TX1.out.1 (by omega) _ _ _ _⟩
  | true =>
    have HR := hid hr
    cases hn : nodeC ds M t0 t1 t2 t3 with
    | false =>
      have HN := hid hn
      have hB := toB_2 (f0 := f0) (f1 := f1) (f2 := f2) (f3 := f3) (x0 := x0) (x1 := x1) (x2 := x2) (x3 := x3) hn
      rw [n4_same (g := fun _ => 0) (fun j _ => toR_no hB j), hB]
      clear hr hB hn
      go_enter Try.func11, Try.ntmps11
      go_wp2_with (first
        | (go_at_call 28; refine (sright_m _ _ _ _ _ _ _ _ _ _ _ _ _ _ _ (HC.out.below TX.out.1) HM.out HF.out HA.out HR).mono ?_; rintro e w1 ⟨rfl, hb⟩; have TX1 := TX.out.step hb; obtain ⟨⟨b0, b1⟩, b2, ⟨b3, b4, b5, b6⟩, b7, b8⟩ := TX1.all; have TX1 := hid TX1)
        | (go_at_call 29; refine (lgood_m _ _ _ _ _ _ _ _ _ _ _ (HC.out.below TX1.out.1) HM.out HN).mono ?_; rintro e w2 ⟨rfl, hb2⟩; have TX2 := TX1.out.step hb2; obtain ⟨d0, d1, d2, d3⟩ := n4_all TX2.2.2.2.2.2; obtain ⟨g0, g1, g2, g3⟩ := froz4 TX2.2.2.2.2.2; have TX2 := hid TX2))
      obtain ⟨r0, r1, r2, r3⟩ := box4 (n4_store TX2.out.2.2.2.2.2 (.int .u8 0) (.int .u8 0) (.int .u8 0) (.int .u8 0))
      exact bodyPost_ret (v := .tuple #[.agg (n4 fun _ => 0), .bool false]) (by simp [results, Try.results11, go_sem, r0, r1, r2, r3, n4]) rfl ⟨rfl, below4 TX2.out.1 (by omega) _ _ _ _⟩
    | true =>
      have HN := hid hn
      cases hl : bel f0 f1 f2 f3 t0 t1 t2 t3 with
      | false =>
        have HL := hid hl
        have hB := toB_3 (ds := ds) (M := M) (x0 := x0) (x1 := x1) (x2 := x2) (x3 := x3) hl
        rw [n4_same (g := fun _ => 0) (fun j _ => toR_no hB j), hB]
        clear hr hB hn hl
        go_enter Try.func11, Try.ntmps11
        go_wp2_with (first
          | (go_at_call 28; refine (sright_m _ _ _ _ _ _ _ _ _ _ _ _ _ _ _ (HC.out.below TX.out.1) HM.out HF.out HA.out HR).mono ?_; rintro e w1 ⟨rfl, hb⟩; have TX1 := TX.out.step hb; obtain ⟨⟨b0, b1⟩, b2, ⟨b3, b4, b5, b6⟩, b7, b8⟩ := TX1.all; have TX1 := hid TX1)
          | (go_at_call 29; refine (lgood_m _ _ _ _ _ _ _ _ _ _ _ (HC.out.below TX1.out.1) HM.out HN).mono ?_; rintro e w2 ⟨rfl, hb2⟩; have TX2 := TX1.out.step hb2; obtain ⟨p1, ⟨p2, p3, p4, p5⟩, ⟨p6, p7, p8, p9⟩, pa⟩ := TX2.all; have TX2 := hid TX2)
          | (go_at_call 30; refine (below_m _ _ _ _ _ _ _ _ _ _ HL).mono ?_; rintro e w3 ⟨rfl, hb3⟩; have TX3 := TX2.out.step hb3; obtain ⟨d0, d1, d2, d3⟩ := n4_all TX3.2.2.2.2.2; obtain ⟨g0, g1, g2, g3⟩ := froz4 TX3.2.2.2.2.2; have TX3 := hid TX3))
        obtain ⟨r0, r1, r2, r3⟩ := box4 (n4_store TX3.out.2.2.2.2.2 (.int .u8 0) (.int .u8 0) (.int .u8 0) (.int .u8 0))
        exact bodyPost_ret (v := .tuple #[.agg (n4 fun _ => 0), .bool false]) (by simp [results, Try.results11, go_sem, r0, r1, r2, r3, n4]) rfl ⟨rfl, below4 TX3.out.1 (by omega) _ _ _ _⟩
      | true =>
        have HL := hid hl
        have hB := toB_4 hr hn hl
        have HX : Hid (∀ k, k < 4 → 0 ≤ toX ds [f0, f1, f2, f3] [t0, t1, t2, t3] [x0, x1, x2, x3] k ∧ toX ds [f0, f1, f2, f3] [t0, t1, t2, t3] [x0, x1, x2, x3] k < memC ds k ([t0, t1, t2, t3].getD k 0)) := hid fun k hk => toX_in hr hn hl HF.out HT.out HA.out hk
        rw [n4_same (fun j _ => toR_yes hB j), hB]
        have hgp := goodC_p (nodeC_good hn)
        rw [← E1.out] at hgp
        obtain ⟨n1, n4', _, _, _⟩ := hgp
        clear hr hB hn hl
        go_enter Try.func11, Try.ntmps11
        go_wp2_with (first
          | (go_at_call 28; refine (sright_m _ _ _ _ _ _ _ _ _ _ _ _ _ _ _ (HC.out.below TX.out.1) HM.out HF.out HA.out HR).mono ?_; rintro e w1 ⟨rfl, hb⟩; have TX1 := TX.out.step hb; obtain ⟨⟨b0, b1⟩, b2, ⟨b3, b4, b5, b6⟩, b7, b8⟩ := TX1.all; have TX1 := hid TX1)
          | (go_at_call 29; refine (lgood_m _ _ _ _ _ _ _ _ _ _ _ (HC.out.below TX1.out.1) HM.out HN).mono ?_; rintro e w2 ⟨rfl, hb2⟩; have TX2 := TX1.out.step hb2; obtain ⟨p1, ⟨p2, p3, p4, p5⟩, ⟨p6, p7, p8, p9⟩, pa⟩ := TX2.all; have TX2 := hid TX2)
          | (go_at_call 30; refine (below_m _ _ _ _ _ _ _ _ _ _ HL).mono ?_; rintro e w3 ⟨rfl, hb3⟩; have TX3 := TX2.out.step hb3; obtain ⟨d0, d1⟩ := box_two TX3.2.1; have TX3 := hid TX3))
        have TX4 : Hid (To5 w w3 (.slice a n c) (.int .i64 M) (fun j => [f0, f1, f2, f3].getD j 0) (fun j => [t0, t1, t2, t3].getD j 0) (toP ds [f0, f1, f2, f3] [t0, t1, t2, t3] [x0, x1, x2, x3] 0) (fun _ => 0)) := TX3
        obtain ⟨F, hFe⟩ : ∃ F, [f0, f1, f2, f3] = F := ⟨_, rfl⟩
        obtain ⟨T, hTe⟩ : ∃ T, [t0, t1, t2, t3] = T := ⟨_, rfl⟩
        obtain ⟨A, hAe⟩ : ∃ A, [x0, x1, x2, x3] = A := ⟨_, rfl⟩
        have HFE := hid hFe
        have HTE := hid hTe
        have HAE := hid hAe
        rw [hFe, hTe, hAe] at TX4 HX
        rw [hFe] at HF
        rw [hTe] at HT
        rw [hAe] at HA
        have HAR := HR
        rw [hFe, hAe] at HAR
        clear TX TX1 TX2 TX3 HR HN HL hFe hTe hAe
        go_loopw [34] (fun i wr => ∃ k : Nat, k ≤ n ∧ i = .int .i64 k ∧ Hid (To5 w wr (.slice a n c) (.int .i64 M) (fun j => F.getD j 0) (fun j => T.getD j 0) (toP ds F T A k) (fun _ => 0))) (fun i _ => n - (intOf i).toNat)
        case atStart => exact ⟨0, by omega, rfl, TX4⟩
        case round =>
          obtain ⟨k, hk, rfl, TX5⟩ := hrel
          have hsz := heap_lt TX5.out.2.2.2.2.2
          have bel2 := TX5.out.1
          by_cases hlt : k < n
          · have hkn : (k : Int) < (n : Int) := by omega
            have hk4 : (k : Int) < 4 := by omega
            obtain ⟨b, off, rfl, hb0, sa, sl, sc, ua, ul, uc, S, U, d1, d2, HDm, HSU⟩ := HC.out.get bel2 hlt
            have hbw : b < wr.heap.size := Nat.lt_of_lt_of_le hb0 bel2.size
            have c0 := (box_two TX5.out.2.1).1
            have q1 := n4_at TX5.out.2.2.1 (k := k) (by omega)
            have q2 := n4_at TX5.out.2.2.2.1 (k := k) (by omega)
            have q3 := n4_at TX5.out.2.2.2.2.1 (k := k) (by omega)
            have f3' := frozen_of_row wr (w.heap.size + 3) k _ _ TX5.out.2.2.2.2.1
            have e3 : toP ds F T A k k = A.getD k 0 := by unfold toP; rw [if_neg (by omega)]
            rw [e3] at q3
            have hx := HX.out k (by omega)
            have hx40 := (memC_bd ds k (T.getD k 0)).2
            have ex := toX_at (F := F) (T := T) (A := A) (by rw [← E1.out]; exact hlt) HSU.out
            have g1 := u8_at HF.out k
            have g2 := u8_at HT.out k
            have g3 := u8_at HA.out k
            have HP : Hid (∀ j, j < 4 → toP ds F T A (k + 1) j = if j = k then toX ds F T A k else toP ds F T A k j) := hid fun j hj => by
              unfold toP
              by_cases ejk : j = k
              · subst ejk; rw [if_pos (by omega), if_pos rfl]
              · rw [if_neg ejk]
                by_cases hjk : j < k
                · rw [if_pos (by omega), if_pos hjk]
                · rw [if_neg (by omega), if_neg hjk]
            obtain ⟨vf, hvf⟩ : ∃ v, F.getD k 0 = v := ⟨_, rfl⟩
            obtain ⟨vt, hvt⟩ : ∃ v, T.getD k 0 = v := ⟨_, rfl⟩
            obtain ⟨va, hva⟩ : ∃ v, A.getD k 0 = v := ⟨_, rfl⟩
            obtain ⟨X, hX⟩ : ∃ v, toX ds F T A k = v := ⟨_, rfl⟩
            rw [hX] at hx ex HP
            rw [hvf, hvt, hva] at ex
            simp only [hvf] at q1 g1
            simp only [hvt] at q2 g2 hx hx40
            simp only [hva] at q3 g3
            have HL : Hid (lift S U vf vt va = X ∧ 0 ≤ X) := hid ⟨ex.symm, hx.1⟩
            have JF : Hid (I64 vf) := by show I64 vf; unfold I64; omega
            have JT : Hid (I64 vt) := by show I64 vt; unfold I64; omega
            have JA : Hid (I64 va) := by show I64 va; unfold I64; omega
            have wf : IntKind.i64.wrap vf = vf := IntWalk.i64_in _ (by omega)
            have wt : IntKind.i64.wrap vt = vt := IntWalk.i64_in _ (by omega)
            have wa : IntKind.i64.wrap va = va := IntWalk.i64_in _ (by omega)
            have wx : IntKind.u8.wrap X = X := IntWalk.u8_in _ (by omega)
            clear hvf hvt hva hX ex e3
            have KS : Hid (∀ x', Below wr.heap.size wr x' → Below wr.heap.size wr x' ∧ x'.cell? ⟨w.heap.size, 0, none⟩ = some (.slice (some ⟨b, off, none⟩) n c) ∧ x'.cell? ⟨b, off + k * 2, none⟩ = some (.slice sa sl sc) ∧ x'.cell? ⟨b, off + k * 2 + 1, none⟩ = some (.slice ua ul uc) ∧ x'.cell? ⟨w.heap.size + 1, k, none⟩ = some (.int .u8 vf) ∧ x'.cell? ⟨w.heap.size + 2, k, none⟩ = some (.int .u8 vt) ∧ x'.cell? ⟨w.heap.size + 3, k, none⟩ = some (.int .u8 va)) :=
              hid fun x' hB => ⟨hB, ((bcell hB).1 _ _ (by omega)).trans c0, ((bcell hB).1 _ _ hbw).trans d1, ((bcell hB).1 _ _ hbw).trans d2, ((bcell hB).1 _ _ (by omega)).trans q1, ((bcell hB).1 _ _ (by omega)).trans q2, ((bcell hB).1 _ _ (by omega)).trans q3⟩
            go_wp2
            go_region_held3 (fun x' => Below wr.heap.size wr x' ∧ x'.cell? ⟨w.heap.size, 0, none⟩ = some (.slice (some ⟨b, off, none⟩) n c) ∧ x'.cell? ⟨b, off + k * 2, none⟩ = some (.slice sa sl sc) ∧ x'.cell? ⟨b, off + k * 2 + 1, none⟩ = some (.slice ua ul uc) ∧ x'.cell? ⟨w.heap.size + 1, k, none⟩ = some (.int .u8 vf) ∧ x'.cell? ⟨w.heap.size + 2, k, none⟩ = some (.int .u8 vt) ∧ x'.cell? ⟨w.heap.size + 3, k, none⟩ = some (.int .u8 va))
              (first | assumption | exact keep_drew KS | exact keep_step (by assumption) (by assumption) KS)
              (first
                | (go_at_call 31; refine (lift_m _ _ _ _ _ _ S U _ _ _ X _ (HDm.out.below (And.left (by assumption))) JF.out JT.out JA.out HL).mono ?_; rintro e w5 ⟨rfl, hb5⟩))
            have TX6 := hid (TX5.out.step (undrew hb5))
            obtain ⟨qv, q4⟩ : ∃ v, w5.cell? ⟨w.heap.size + 3, k, none⟩ = some v := ⟨_, n4_at TX6.out.2.2.2.2.1 (k := k) (by omega)⟩
            have f4 := frozen_of_row w5 (w.heap.size + 3) k _ _ TX6.out.2.2.2.2.1
            have hz5 := heap_lt TX6.out.2.2.2.2.2
            clear hb5 KS
            go_wp2
            go_roundw
            case rel => exact ⟨k + 1, by omega, by go_num, hid (TX6.out.put (by omega) HP.out)⟩
            case measure => simp [intOf]; omega
          · obtain rfl : k = n := by omega
            obtain ⟨_, _, _, ⟨q0, q1, q2, q3⟩, ⟨r0, r1, r2, r3⟩⟩ := TX5.out.all
            obtain ⟨g0, g1, g2, g3⟩ := froz4 TX5.out.2.2.2.2.2
            go_wp2
            obtain ⟨s0, s1, s2, s3⟩ := box4 (n4_store TX5.out.2.2.2.2.2 (.int .u8 (toP ds F T A k 0)) (.int .u8 (toP ds F T A k 1)) (.int .u8 (toP ds F T A k 2)) (.int .u8 (toP ds F T A k 3)))
            refine bodyPost_ret (v := .tuple #[.agg (n4 (toP ds F T A k)), .bool true]) (by simp [results, Try.results11, go_sem, s0, s1, s2, s3, n4]) rfl ⟨?_, below4 TX5.out.1 (by omega) _ _ _ _⟩
            rw [HFE.out, HTE.out, HAE.out, n4_same (f := toP ds F T A k) (g := toX ds F T A)]
            intro j hj
            unfold toP
            by_cases hjk : j < k
            · rw [if_pos hjk]
            · rw [if_neg hjk, toX_out (by rw [← E1.out]; omega)]
              exact right_beyond HAR.out HA.out hj (by rw [← E1.out]; omega)

end Go.Proofs.Ytfgphphaopcolaa

/-
  What the document's own Fiber returns.
  Conditions: as each theorem states them.
-/
import Derived.Test.YtfgphphaopcolaaWH
namespace Go.Proofs.Ytfgphphaopcolaa
open Go.ChangeShapes Go.WideShapes Go.ChangeAt Go.RowKit
set_option linter.unusedVariables false
set_option linter.unusedSimpArgs false

theorem runder_nm (sa : Option Addr) (sl sc : Nat) (ua : Option Addr) (ul uc : Nat) (S : List Int) (U : List (List Int)) (t m f : Int) (R : List Int) (rl : Nat) (w : World) (hd : Dim w sa sl sc ua ul uc S U) (ht : I64 t) (hm : I64 m) (hf : I64 f) (hR : Hid (under S U t m f = R ∧ R.length = rl)) :
    Calls Try.prog 37 #[.agg #[.slice sa sl sc, .slice ua ul uc], .int .i64 t, .int .i64 m, .int .i64 f] w fun e w' => ∃ a cap, e = .returned (.slice a rl cap) ∧ IRow .i64 w' a rl cap R ∧ Below w.heap.size w w' := by
  refine (runder_any sa sl sc ua ul uc S U t m f w hd ht hm hf).mono ?_
  obtain ⟨rfl, rfl⟩ := hR.out
  rintro e w' ⟨⟨a, cap, rfl, hr⟩, hb⟩
  exact ⟨a, cap, rfl, hr, hb⟩
theorem right_nodeC {ds : Dims} {M t0 t1 t2 t3 x0 x1 x2 x3 : Int} (h : rightC ds M [t0, t1, t2, t3] [x0, x1, x2, x3] = true) (hT : ∀ x ∈ [t0, t1, t2, t3], U8 x) (hA : ∀ x ∈ [x0, x1, x2, x3], U8 x) : nodeC ds M t0 t1 t2 t3 = true := by
  rw [← right_node hT]
  refine rightC_yes (rightC_is h).1 fun i hi => ?_
  have h1 := (rightC_is h).2 i hi
  have h2 := (u8_at hA i).1
  have e : ([0, 0, 0, 0] : List Int).getD i 0 = 0 := by
    have : i = 0 ∨ i = 1 ∨ i = 2 ∨ i = 3 := by omega
    rcases this with rfl | rfl | rfl | rfl <;> rfl
  rw [e]; omega
theorem bel_trans {a0 a1 a2 a3 b0 b1 b2 b3 c0 c1 c2 c3 : Int} (h : bel a0 a1 a2 a3 b0 b1 b2 b3 = true) (k : bel b0 b1 b2 b3 c0 c1 c2 c3 = true) : bel a0 a1 a2 a3 c0 c1 c2 c3 = true := by
  unfold bel at *
  have h := of_decide_eq_true h
  have k := of_decide_eq_true k
  exact decide_eq_true (by omega)
theorem node_below {ds : Dims} {M f0 f1 f2 f3 t0 t1 t2 t3 : Int} (h : nodeC ds M t0 t1 t2 t3 = true) (hb : bel f0 f1 f2 f3 t0 t1 t2 t3 = true) : nodeC ds M f0 f1 f2 f3 = true := by
  unfold nodeC at *
  rw [Bool.and_eq_true] at *
  exact ⟨h.1, bel_trans hb h.2⟩
/-- Too many ahead of the end: none at the end. -/
theorem fib_many {ds : Dims} {M t0 t1 t2 t3 x0 x1 x2 x3 f0 f1 f2 f3 : Int} {k : Nat} (hk : k ≤ ds.length) (h : 5000 < (fibs ds [t0, t1, t2, t3] [x0, x1, x2, x3] [f0, f1, f2, f3] k).length) : fib ds M t0 t1 t2 t3 x0 x1 x2 x3 f0 f1 f2 f3 = [] := by
  by_cases h0 : 0 < (fibs ds [t0, t1, t2, t3] [x0, x1, x2, x3] [f0, f1, f2, f3] ds.length).length
  · exact fib_3 (by have := (fibs_mono hk h0).1; omega)
  · exact fib_0 (by omega)

theorem set4_pt (y0 y1 y2 y3 m : Int) {k : Nat} (hk : k < 4) : ([Value.int .u8 y0, .int .u8 y1, .int .u8 y2, .int .u8 y3].set k (.int .u8 m)).toArray = n4 (nf (pt (y0, y1, y2, y3) m k)) := by
  have : k = 0 ∨ k = 1 ∨ k = 2 ∨ k = 3 := by omega
  rcases this with rfl | rfl | rfl | rfl <;> rfl

set_option maxHeartbeats 32000000 in
set_option maxRecDepth 20000 in
theorem rfiber_any (a : Option Addr) (n c : Nat) (ds : Dims) (M t0 t1 t2 t3 x0 x1 x2 x3 f0 f1 f2 f3 : Int) (w : World) (hc : Cat w a n c ds) (hM : I64 M) (hT : ∀ x ∈ [t0, t1, t2, t3], U8 x) (hA : ∀ x ∈ [x0, x1, x2, x3], U8 x) (hF : ∀ x ∈ [f0, f1, f2, f3], U8 x) :
    Calls Try.prog 17 #[.agg #[.slice a n c, .int .i64 M], .agg #[.int .u8 t0, .int .u8 t1, .int .u8 t2, .int .u8 t3], .agg #[.int .u8 x0, .int .u8 x1, .int .u8 x2, .int .u8 x3], .agg #[.int .u8 f0, .int .u8 f1, .int .u8 f2, .int .u8 f3]] w
      fun e w' => FTold (fib ds M t0 t1 t2 t3 x0 x1 x2 x3 f0 f1 f2 f3) e w' ∧ Below w.heap.size w w' := by
  obtain ⟨e1, e2⟩ := hc.lens
  have E1 : Hid (n = ds.length) := e1
  have HC : Hid (Cat w a n c ds) := hc
  have HM : Hid (I64 M) := hM
  have HF : Hid (∀ x ∈ [f0, f1, f2, f3], U8 x) := hF
  have HT : Hid (∀ x ∈ [t0, t1, t2, t3], U8 x) := hT
  have HA : Hid (∀ x ∈ [x0, x1, x2, x3], U8 x) := hA
  have TX : Hid (F4 w _ (.slice a n c) (.int .i64 M) _ _ _) := f4_new w (.slice a n c) (.int .i64 M) t0 t1 t2 t3 x0 x1 x2 x3 f0 f1 f2 f3
  clear e1 hc hM hF hT hA
  cases hr : rightC ds M [t0, t1, t2, t3] [x0, x1, x2, x3] with
  | false =>
    have HR := hid hr
    have HZ := hid (fib_1 (f0 := f0) (f1 := f1) (f2 := f2) (f3 := f3) hr)
    clear hr
    go_enter Try.func17, Try.ntmps17
    go_wp2_with (go_at_call 19; refine (rright_n _ _ _ _ _ _ _ _ _ _ _ _ _ _ _ (HC.out.below TX.out.1) HM.out HT.out HA.out HR).mono ?_; rintro e w1 ⟨rfl, hb⟩)
    go_ret
    exact ⟨ftold_nil _ HZ.out, bt TX.out.1 hb⟩
  | true =>
    have HR := hid hr
    cases hn : nodeC ds M f0 f1 f2 f3 with
    | false =>
      have HN := hid hn
      have hl : bel f0 f1 f2 f3 t0 t1 t2 t3 = false := by
        cases hl : bel f0 f1 f2 f3 t0 t1 t2 t3 with
        | false => rfl
        | true => rw [node_below (right_nodeC hr HT.out HA.out) hl] at hn; cases hn
      have HZ := hid (fib_2 (ds := ds) (M := M) (x0 := x0) (x1 := x1) (x2 := x2) (x3 := x3) hl)
      clear hr hl hn
      go_enter Try.func17, Try.ntmps17
      go_wp2_with (first
        | (go_at_call 19; refine (rright_n _ _ _ _ _ _ _ _ _ _ _ _ _ _ _ (HC.out.below TX.out.1) HM.out HT.out HA.out HR).mono ?_; rintro e w1 ⟨rfl, hb⟩; have TX1 := TX.out.step hb; obtain ⟨⟨b0, bb0⟩, ⟨b1, b2, b3, b4⟩, b5, ⟨b6, b7, b8, b9⟩⟩ := TX1.all; have TX1 := hid TX1)
        | (go_at_call 18; refine (rlgood_m _ _ _ _ _ _ _ _ _ _ _ (HC.out.below TX1.out.1) HM.out HF.out HN).mono ?_; rintro e w2 ⟨rfl, hb2⟩))
      go_ret
      exact ⟨ftold_nil _ HZ.out, bt TX1.out.1 hb2⟩
    | true =>
      have HN := hid hn
      cases hl : bel f0 f1 f2 f3 t0 t1 t2 t3 with
      | false =>
        have HL := hid hl
        have HZ := hid (fib_2 (ds := ds) (M := M) (x0 := x0) (x1 := x1) (x2 := x2) (x3 := x3) hl)
        clear hr hl hn
        go_enter Try.func17, Try.ntmps17
        go_wp2_with (first
          | (go_at_call 19; refine (rright_n _ _ _ _ _ _ _ _ _ _ _ _ _ _ _ (HC.out.below TX.out.1) HM.out HT.out HA.out HR).mono ?_; rintro e w1 ⟨rfl, hb⟩; have TX1 := TX.out.step hb; obtain ⟨⟨b0, bb0⟩, ⟨b1, b2, b3, b4⟩, b5, ⟨b6, b7, b8, b9⟩⟩ := TX1.all; have TX1 := hid TX1)
          | (go_at_call 18; refine (rlgood_m _ _ _ _ _ _ _ _ _ _ _ (HC.out.below TX1.out.1) HM.out HF.out HN).mono ?_; rintro e w2 ⟨rfl, hb2⟩; have TX2 := TX1.out.step hb2; obtain ⟨⟨d0, dd0⟩, ⟨d1, d2, d3, d4⟩, d5, ⟨d6, d7, d8, d9⟩⟩ := TX2.all; have TX2 := hid TX2)
          | (go_at_call 32; refine (rbelow_m _ _ _ _ _ _ _ _ _ _ HL).mono ?_; rintro e w3 ⟨rfl, hb3⟩))
        go_ret
        exact ⟨ftold_nil _ HZ.out, bt TX2.out.1 hb3⟩
      | true =>
        have HL := hid hl
        have hgp := goodC_p (rightC_is hr).1
        rw [← E1.out] at hgp
        obtain ⟨n1, n4', _, _, _⟩ := hgp
        have HZM : Hid (∀ k, k ≤ n → 5000 < (fibs ds [t0, t1, t2, t3] [x0, x1, x2, x3] [f0, f1, f2, f3] k).length → fib ds M t0 t1 t2 t3 x0 x1 x2 x3 f0 f1 f2 f3 = []) := hid (by rw [E1.out]; exact fun k hk => fib_many hk)
        have HZ4 : Hid ((fibs ds [t0, t1, t2, t3] [x0, x1, x2, x3] [f0, f1, f2, f3] n).length ≤ 5000 → fib ds M t0 t1 t2 t3 x0 x1 x2 x3 f0 f1 f2 f3 = fibs ds [t0, t1, t2, t3] [x0, x1, x2, x3] [f0, f1, f2, f3] n) := hid (by rw [E1.out]; exact fib_4 hr hl)
        clear hr hl hn
        go_enter Try.func17, Try.ntmps17
        go_wp2_with (first
          | (go_at_call 19; refine (rright_n _ _ _ _ _ _ _ _ _ _ _ _ _ _ _ (HC.out.below TX.out.1) HM.out HT.out HA.out HR).mono ?_; rintro e w1 ⟨rfl, hb⟩; have TX1 := TX.out.step hb; obtain ⟨⟨b0, bb0⟩, ⟨b1, b2, b3, b4⟩, b5, ⟨b6, b7, b8, b9⟩⟩ := TX1.all; have TX1 := hid TX1)
          | (go_at_call 18; refine (rlgood_m _ _ _ _ _ _ _ _ _ _ _ (HC.out.below TX1.out.1) HM.out HF.out HN).mono ?_; rintro e w2 ⟨rfl, hb2⟩; have TX2 := TX1.out.step hb2; obtain ⟨⟨d0, dd0⟩, ⟨d1, d2, d3, d4⟩, d5, ⟨d6, d7, d8, d9⟩⟩ := TX2.all; have TX2 := hid TX2)
          | (go_at_call 32; refine (rbelow_m _ _ _ _ _ _ _ _ _ _ HL).mono ?_; rintro e w3 ⟨rfl, hb3⟩; have TX3 := TX2.out.step hb3; have TX3 := hid TX3))
        have HN0 := hid (nrow_one w3 0 0 0 0 27)
        have TX4 := hid (TX3.out.step ((Below.refl _ _).alloc (Nat.le_refl _) (.cells #[.int .u8 0, .int .u8 0, .int .u8 0, .int .u8 0] 27)))
        obtain ⟨F, hFe⟩ : ∃ F, [f0, f1, f2, f3] = F := ⟨_, rfl⟩
        obtain ⟨T, hTe⟩ : ∃ T, [t0, t1, t2, t3] = T := ⟨_, rfl⟩
        obtain ⟨A, hAe⟩ : ∃ A, [x0, x1, x2, x3] = A := ⟨_, rfl⟩
        rw [hFe, hTe, hAe] at TX4 HZM HZ4
        rw [hFe] at HF
        rw [hTe] at HT
        rw [hAe] at HA
        clear TX TX1 TX2 TX3 HR HL HN hFe hTe hAe hb hb2 hb3 b0 bb0 b1 b2 b3 b4 b5 b6 b7 b8 b9 d0 dd0 d1 d2 d3 d4 d5 d6 d7 d8 d9
        go_loopg [9, 10] n (fun g0 v i wr => ∃ (k : Nat) (a2 : Option Addr) (n2 c2 : Nat), v = .slice a2 n2 c2 ∧ i = .int .i64 k ∧ Hid (g0 + k = n) ∧ n2 ≤ 200000 ∧ Hid (NRow wr a2 n2 c2 (fibs ds T A F k)) ∧ Hid (F4 w wr (.slice a n c) (.int .i64 M) (fun j => T.getD j 0) (fun j => A.getD j 0) (fun j => F.getD j 0)))
        case atStart => exact ⟨0, _, _, _, rfl, rfl, hid (by omega), by omega, HN0, TX4⟩
        case round =>
          obtain ⟨k, a2, n2, c2, rfl, rfl, HG, hn2, HN2, TX5⟩ := hrel
          rename World => W5
          have hk := HG.out
          have hsz := heap_lt TX5.out.2.2.2.2
          have bel2 := TX5.out.1
          obtain ⟨c0, c1⟩ := (box_two TX5.out.2.1)
          by_cases hlt : k < n
          · have hkn : (k : Int) < (n : Int) := by omega
            have hk4 : (k : Int) < 4 := by omega
            have hk4' : k < 4 := by omega
            have hk0 : (0 : Int) ≤ (k : Int) := by omega
            obtain ⟨b, off, rfl, hb0, sa, sl, sc, ua, ul, uc, S, U, d1, d2, HDm, HSU⟩ := HC.out.get bel2 hlt
            have hbw : b < W5.heap.size := Nat.lt_of_lt_of_le hb0 bel2.size
            have q1 := n4_at TX5.out.2.2.1 hk4'
            have q2 := n4_at TX5.out.2.2.2.1 hk4'
            have q3 := n4_at TX5.out.2.2.2.2 hk4'
            have g1 := u8_at HF.out k
            have g2 := u8_at HT.out k
            have g3 := u8_at HA.out k
            have eu := uL_at (T := T) (A := A) (F := F) HSU.out
            have hul := uL_len ds T A F k
            have HFL := hid (fibs_len ds T A F k)
            have HBD : Hid (∀ x ∈ uL ds T A F k, 0 ≤ x ∧ x ≤ 255) := hid fun x hx => by have := uL_bd hx; omega
            obtain ⟨R, hR⟩ : ∃ R, uL ds T A F k = R := ⟨_, rfl⟩
            obtain ⟨rl, hrl⟩ : ∃ rl, R.length = rl := ⟨_, rfl⟩
            obtain ⟨vf, hvf⟩ : ∃ v, F.getD k 0 = v := ⟨_, rfl⟩
            obtain ⟨vt, hvt⟩ : ∃ v, T.getD k 0 = v := ⟨_, rfl⟩
            obtain ⟨va, hva⟩ : ∃ v, A.getD k 0 = v := ⟨_, rfl⟩
            rw [hR, hrl] at hul
            rw [hR] at HBD
            rw [hR, hrl, ← HN2.out.1] at HFL
            rw [hR, hvf, hvt, hva] at eu
            simp only [hvt] at q1 g2
            simp only [hva] at q2 g3
            simp only [hvf] at q3 g1
            have HUL : Hid (under S U vt va vf = R ∧ R.length = rl) := hid ⟨eu.symm, hrl⟩
            have HRR := hid hR
            have HRL := hid hrl
            obtain ⟨Z, hZ⟩ : ∃ Z : Nat, n2 * rl = Z := ⟨_, rfl⟩
            have hZb : n2 * rl ≤ 200000 * 40 := Nat.mul_le_mul hn2 hul
            have hZi : (n2 : Int) * (rl : Int) = (Z : Int) := by rw [← hZ, Int.natCast_mul]
            rw [hZ] at hZb
            have HZE := hid hZ
            have wZ : IntKind.i64.wrap (Z : Int) = Z := IntWalk.i64_in _ (by omega)
            have JF : Hid (I64 vf) := by show I64 vf; unfold I64; omega
            have JT : Hid (I64 vt) := by show I64 vt; unfold I64; omega
            have JA : Hid (I64 va) := by show I64 va; unfold I64; omega
            have wf : IntKind.i64.wrap vf = vf := IntWalk.i64_in _ (by omega)
            have wt : IntKind.i64.wrap vt = vt := IntWalk.i64_in _ (by omega)
            have wa : IntKind.i64.wrap va = va := IntWalk.i64_in _ (by omega)
            clear hvf hvt hva hR eu hrl hZ
            have KS : Hid (∀ x', Below W5.heap.size W5 x' → Below W5.heap.size W5 x' ∧ x'.cell? ⟨w.heap.size, 0, none⟩ = some (.slice (some ⟨b, off, none⟩) n c) ∧ x'.cell? ⟨b, off + k * 2, none⟩ = some (.slice sa sl sc) ∧ x'.cell? ⟨b, off + k * 2 + 1, none⟩ = some (.slice ua ul uc) ∧ x'.cell? ⟨w.heap.size + 1, k, none⟩ = some (.int .u8 vt) ∧ x'.cell? ⟨w.heap.size + 2, k, none⟩ = some (.int .u8 va) ∧ x'.cell? ⟨w.heap.size + 3, k, none⟩ = some (.int .u8 vf)) :=
              hid fun x' hB => ⟨hB, ((bcell hB).1 _ _ (by omega)).trans c0, ((bcell hB).1 _ _ hbw).trans d1, ((bcell hB).1 _ _ hbw).trans d2, ((bcell hB).1 _ _ (by omega)).trans q1, ((bcell hB).1 _ _ (by omega)).trans q2, ((bcell hB).1 _ _ (by omega)).trans q3⟩
            go_wp2
            go_region_held3 (fun x' => Below W5.heap.size W5 x' ∧ x'.cell? ⟨w.heap.size, 0, none⟩ = some (.slice (some ⟨b, off, none⟩) n c) ∧ x'.cell? ⟨b, off + k * 2, none⟩ = some (.slice sa sl sc) ∧ x'.cell? ⟨b, off + k * 2 + 1, none⟩ = some (.slice ua ul uc) ∧ x'.cell? ⟨w.heap.size + 1, k, none⟩ = some (.int .u8 vt) ∧ x'.cell? ⟨w.heap.size + 2, k, none⟩ = some (.int .u8 va) ∧ x'.cell? ⟨w.heap.size + 3, k, none⟩ = some (.int .u8 vf))
              (first | assumption | exact keep_drew KS | exact keep_step (by assumption) (by assumption) KS)
              (first
                | (go_at_call 37; refine (runder_nm _ _ _ _ _ _ S U _ _ _ R rl _ (HDm.out.below (And.left (by assumption))) JT.out JA.out JF.out HUL).mono ?_; rintro e w7 ⟨ra, rc, rfl, hrow, hb7⟩; have HROW := hid hrow; clear hrow))
            have B7 : Below W5.heap.size W5 w7 := undrew hb7
            have TX7 := hid (TX5.out.step B7)
            have HN7 := hid (HN2.out.below B7)
            clear hb7 B7 KS q1 q2 q3 d1 d2 c0 c1
            by_cases hbig : 200000 < Z
            · have hbt : decide ((200000 : Int) < (Z : Int)) = true := decide_eq_true (by omega)
              have HZ := hid (HZM.out (k + 1) (by omega) (by rw [HFL.out, HZE.out]; omega))
              go_wp2
              go_ret
              exact ⟨ftold_nil _ HZ.out, TX7.out.1⟩
            · have hbt : decide ((200000 : Int) < (Z : Int)) = false := decide_eq_false (by omega)
              go_wp2
              have PS0 : Hid (PlSt w7 w7 (.slice none 0 0) (wid ((fibs ds T A F k).take 0) k R)) := hid ⟨Below.refl _ _, World.ownsRow_nil _ _ _ _⟩
              clear hbt hZi wZ
              go_loopg [12, 13] n2 (fun g1 v i wr => ∃ (p : Nat), i = .int .i64 p ∧ Hid (g1 + p = n2) ∧ Hid (PlSt w7 wr v (wid ((fibs ds T A F k).take p) k R)))
              case atStart => exact ⟨0, rfl, hid (by omega), PS0⟩
              case round =>
                obtain ⟨p, rfl, HP, PS⟩ := hrel
                rename World => W8
                have hp := HP.out
                by_cases hpn : p < n2
                · have hpi : (p : Int) < (n2 : Int) := by omega
                  obtain ⟨y, hy⟩ : ∃ y, (fibs ds T A F k)[p]? = some y := ⟨_, List.getElem?_eq_getElem (by rw [← HN7.out.1]; exact hpn)⟩
                  have HY := hid hy
                  obtain ⟨y0, y1, y2, y3⟩ := y
                  clear hy
                  have PS1 : Hid (PlSt w7 W8 u12 (wid ((fibs ds T A F k).take p) k R ++ (R.take 0).map (fun m => pt (y0, y1, y2, y3) m k))) := hid (by simpa using PS.out)
                  go_wp2
                  go_loopg [12, 14] rl (fun g2 v i wr => ∃ (q : Nat), i = .int .i64 q ∧ Hid (g2 + q = rl) ∧ Hid (PlSt w7 wr v (wid ((fibs ds T A F k).take p) k R ++ (R.take q).map (fun m => pt (y0, y1, y2, y3) m k))))
                  case atStart => exact ⟨0, rfl, hid (by omega), PS1⟩
                  case round =>
                    obtain ⟨q, rfl, HQ, PQ⟩ := hrel
                    rename World => W9
                    have hq := HQ.out
                    by_cases hqr : q < rl
                    · have hqi : (q : Int) < (rl : Int) := by omega
                      obtain ⟨yb, yoff, hya, hyb, c0, c1, c2, c3⟩ := (HN7.out.below PQ.out.1).at HY.out
                      obtain ⟨mb, moff, hma, hmb, hml2⟩ := (HROW.out.below PQ.out.1).2.2.2.2 (by omega)
                      have hcq := hml2 q (by rw [HRL.out]; exact hqr)
                      have hmv := HBD.out _ (getD_of (l := R) (p := fun x => x ∈ R) (fun x hx => hx) q (by rw [HRL.out]; exact hqr))
                      have HT2 : Hid (R.take (q + 1) = R.take q ++ [R.getD q 0]) := hid (take_snoc R q (by rw [HRL.out]; exact hqr))
                      obtain ⟨m, hmm⟩ : ∃ m, R.getD q 0 = m := ⟨_, rfl⟩
                      rw [hmm] at hcq hmv HT2
                      clear hmm hml2
                      have wm : IntKind.u8.wrap m = m := IntWalk.u8_in _ (by omega)
                      have HB0 : Hid (Below W9.heap.size W9 (W9.alloc (.cells #[.int .u8 y0, .int .u8 y1, .int .u8 y2, .int .u8 y3] 27))) := hid ((Below.refl _ _).alloc (Nat.le_refl _) _)
                      have HNW : (W9.alloc (.cells #[.int .u8 y0, .int .u8 y1, .int .u8 y2, .int .u8 y3] 27)).heap[W9.heap.size]? = some (.cells (n4 (nf (y0, y1, y2, y3))) 27) := heap_alloc_new W9 (.cells (n4 (nf (y0, y1, y2, y3))) 27)
                      have HOB : Hid (¬ u12.ownBlock = some W9.heap.size) := hid fun e => by have := (PQ.out.2.lt _ e).2; omega
                      obtain ⟨qv, q4⟩ : ∃ v, (W9.alloc (.cells #[.int .u8 y0, .int .u8 y1, .int .u8 y2, .int .u8 y3] 27)).cell? ⟨W9.heap.size, k, none⟩ = some v := ⟨_, n4_at HNW hk4'⟩
                      have f4 := frozen_of_row _ W9.heap.size k _ _ HNW
                      have hc9 := ((bcell HB0.out).1 mb (moff + q) hmb).trans hcq
                      have PS2 : PlSt w7 (W9.alloc (.cells ([Value.int .u8 y0, .int .u8 y1, .int .u8 y2, .int .u8 y3].set k (.int .u8 m)).toArray 27)) u12 (wid ((fibs ds T A F k).take p) k R ++ (R.take q).map (fun m => pt (y0, y1, y2, y3) m k)) := PQ.out.step ((Below.refl _ _).alloc (Nat.le_refl _) _)
                      have HP2 : (W9.alloc (.cells ([Value.int .u8 y0, .int .u8 y1, .int .u8 y2, .int .u8 y3].set k (.int .u8 m)).toArray 27)).heap[W9.heap.size]? = some (.cells (n4 (nf (pt (y0, y1, y2, y3) m k))) 27) := by rw [← set4_pt y0 y1 y2 y3 m hk4']; exact heap_alloc_new _ _
                      obtain ⟨W2, hW2⟩ : ∃ W2, W9.alloc (.cells ([Value.int .u8 y0, .int .u8 y1, .int .u8 y2, .int .u8 y3].set k (.int .u8 m)).toArray 27) = W2 := ⟨_, rfl⟩
                      rw [hW2] at PS2 HP2
                      have PS2 := hid PS2
                      have HW2 := hid hW2
                      obtain ⟨p0, p1, p2, p3⟩ := n4_all HP2
                      have HP2 := hid HP2
                      clear HNW hW2
                      subst hya hma
                      go_upto_region 19 with fail
                      rw [HW2.out]
                      obtain ⟨LL, hLL⟩ : ∃ LL, (wid ((fibs ds T A F k).take p) k R ++ (R.take q).map (fun m => pt (y0, y1, y2, y3) m k)).length = LL := ⟨_, rfl⟩
                      have HLL := hid hLL
                      have HLB : Hid (LL + 1 ≤ 1000000) := hid (by
                        rw [← hLL, List.length_append, wid_len, List.length_map, List.length_take, List.length_take, ← HN7.out.1, HRL.out, Nat.min_eq_left (by omega), Nat.min_eq_left (by omega)]
                        have h1 : p * rl + rl ≤ n2 * rl := by rw [← Nat.succ_mul]; exact Nat.mul_le_mul_right _ (by omega)
                        have h2 := HZE.out
                        omega)
                      have HO2 : Hid (W2.ownsRow w7.heap.size 27 4 u12 LL (ncells (wid ((fibs ds T A F k).take p) k R ++ (R.take q).map (fun m => pt (y0, y1, y2, y3) m k)))) := hid (by rw [← hLL]; exact PS2.out.2)
                      clear hLL
                      go_wp2_with (at_builtin; refine append_four Try.underlying44 info_coord (by decide) (by decide) rfl (.tmp 89) (.tmp 91) rfl w7.heap.size LL _ _ _ _ _ _ _ rfl rfl HO2.out rfl HLB.out PS2.out.1.size ?_; rintro v5 w5 ho5 ⟨g5, c5, rfl, hg5⟩ hgr5; have HO5 := hid ho5; have HR5 := hid hgr5; clear ho5 hg5 hgr5)
                      go_roundg (rl - (q + 1))
                      case measure => have := HQ.out; omega
                      case rel =>
                        refine ⟨q + 1, by go_num, hid (by have := HQ.out; omega), hid ?_⟩
                        rw [HT2.out, List.map_append, ← List.append_assoc]
                        have e5 := HLL.out
                        have h5 := HO5.out
                        subst e5
                        exact pl_step (x := pt (y0, y1, y2, y3) m k) PS2.out h5 HR5.out
                    · obtain rfl : q = rl := by omega
                      go_wp2
                      go_roundg (n2 - (p + 1))
                      case measure => have := HP.out; omega
                      case rel =>
                        refine ⟨p + 1, by go_num, hid (by have := HP.out; omega), hid ?_⟩
                        have := PQ.out
                        rw [take_full HRL.out.symm] at this
                        rw [take_more HY.out, wid_snoc]
                        exact this
                · obtain rfl : p = n2 := by omega
                  have hps := PS.out
                  rw [take_full HN7.out.1] at hps
                  obtain ⟨a9, c9, e9, hr9⟩ := nrow_own hps.2
                  subst e9
                  have HR9 := hid hr9
                  have hl9 : (wid (fibs ds T A F k) k R).length = Z := by rw [wid_len, HRL.out, ← HN7.out.1]; exact HZE.out
                  rw [hl9] at HR9 PS ⊢
                  clear hps hr9 hl9
                  go_wp2
                  go_roundg (n - (k + 1))
                  case measure => have := HG.out; omega
                  case rel =>
                    refine ⟨k + 1, a9, Z, c9, rfl, by go_num, hid (by have := HG.out; omega), by omega, hid ?_, hid (TX7.out.step PS.out.1)⟩
                    show NRow _ _ _ _ (wid (fibs ds T A F k) k (uL ds T A F k))
                    rw [HRR.out]
                    exact HR9.out
          · obtain rfl : k = n := by omega
            have hnl := HN2.out.1
            have HNL := hid hnl
            clear hnl
            by_cases hbig : 5000 < n2
            · have hbt : decide ((5000 : Int) < (n2 : Int)) = true := decide_eq_true (by omega)
              have hbt2 : decide (5000 < n2) = true := decide_eq_true hbig
              have HZ := hid (HZM.out k (by omega) (by rw [← HNL.out]; omega))
              go_wp2
              go_ret
              exact ⟨ftold_nil _ HZ.out, TX5.out.1⟩
            · have hbt : decide ((5000 : Int) < (n2 : Int)) = false := decide_eq_false (by omega)
              have hbt2 : decide (5000 < n2) = false := decide_eq_false hbig
              have HZ := hid (HZ4.out (by rw [← HNL.out]; omega))
              go_wp2
              go_ret
              exact ⟨⟨a2, n2, c2, rfl, by rw [HZ.out]; exact HN2.out⟩, TX5.out.1⟩

end Go.Proofs.Ytfgphphaopcolaa

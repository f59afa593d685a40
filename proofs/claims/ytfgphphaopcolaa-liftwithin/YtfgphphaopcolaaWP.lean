/-
  A place and fixes of one member, of all, of none: the walk of the law LiftWithin.
  Conditions: as each theorem states them.
-/
import Derived.Test.YtfgphphaopcolaaWO
namespace Go.Proofs.Ytfgphphaopcolaa
open Go.ChangeShapes Go.WideShapes Go.ChangeAt Go.RowKit
set_option linter.unusedVariables false
set_option linter.unusedSimpArgs false

theorem way_v {w : World} {D : Nat} {t : TypeId} {a : Option Addr} {n c : Nat} {M u0 u1 u2 u3 v0 v1 v2 v3 z0 z1 z2 z3 x0 x1 x2 x3 : Int} (hD : w.heap[D]? = some (.cells (way a n c M u0 u1 u2 u3 v0 v1 v2 v3 z0 z1 z2 z3 x0 x1 x2 x3) t)) {k : Nat} (hk : k < 4) : w.cell? ⟨D, 6 + k, none⟩ = some (.int .u8 ([v0, v1, v2, v3].getD k 0)) := by
  obtain ⟨_, _, ⟨h0, h1, h2, h3⟩, _, _⟩ := way_cells hD
  have : k = 0 ∨ k = 1 ∨ k = 2 ∨ k = 3 := by omega
  rcases this with rfl | rfl | rfl | rfl <;> assumption
theorem box4_at {w : World} {D : Nat} {t : TypeId} {y0 y1 y2 y3 : Int} (hD : w.heap[D]? = some (.cells #[.int .u8 y0, .int .u8 y1, .int .u8 y2, .int .u8 y3] t)) {k : Nat} (hk : k < 4) : w.cell? ⟨D, k, none⟩ = some (.int .u8 ([y0, y1, y2, y3].getD k 0)) := n4_at (f := fun j => [y0, y1, y2, y3].getD j 0) hD hk
theorem St.set {w wr : World} {L : List (Nat × Array Value × TypeId)} (h : St w wr L) {B j : Nat} (hB : ∀ (i : Nat) p, L[i]? = some p → p.1 < B) (hw : w.heap.size ≤ B) {v : Value} : St w (wr.setCell ⟨B, j, none⟩ v) L := by
  refine ⟨h.1.setCell hw _, fun i p hp => ?_⟩
  have := hB i p hp
  rw [Below.heap_setCell _ _ _ _ (by simp; omega)]
  exact h.2 i p hp
theorem wthn_at {ds : Dims} {M : Int} {V A : List Int} {k : Nat} {L x : Int} {Ms : List Int} {b : Bool} (h : rightC ds M V A = true) (h1 : k < ds.length) (hx : wl ds V A k L = x) (h2 : 0 ≤ x) (hb : decide (x ∈ Ms) = b) : wthn ds M V A k L Ms = b := by
  rw [wthn_is h (by omega) (by omega) hx h2, hb]
/-- What the loop bears: blocks, the fix's block, its members. -/
def FibS (w wr : World) (L : List (Nat × Array Value × TypeId)) (F base : Nat) (d l v : Value) (m : Nat) : Prop :=
  St w wr L ∧ wr.heap[F]? = some (.cells #[d, l, v] 30) ∧ wr.ownsRow base 3 1 v m (vals .i64 (upto m)) ∧ base ≤ wr.heap.size ∧ F < base ∧ (∀ (i : Nat) p, L[i]? = some p → p.1 < F) ∧ w.heap.size ≤ F
theorem FibS.step {w wr w' : World} {L : List (Nat × Array Value × TypeId)} {F base : Nat} {d l v : Value} {m : Nat} (h : FibS w wr L F base d l v m) (hb : Below wr.heap.size wr w') : FibS w w' L F base d l v m := by
  obtain ⟨h1, h2, h3, h4, h5, h6, h7⟩ := h
  exact ⟨h1.step hb, keep_blk h2 hb, h3.kept (below_grow hb none) (by cases hv : v.ownBlock with
    | none => exact .inl rfl
    | some j => exact .inr (by simp)), Nat.le_trans h4 hb.size, h5, h6, h7⟩
/-- One member more: the row is made, and its slice stored. -/
theorem FibS.more {w wr w' : World} {L : List (Nat × Array Value × TypeId)} {F base : Nat} {d l v v' : Value} {m : Nat} (h : FibS w wr L F base d l v m) (ho : w'.ownsRow base 3 1 v' (m + 1) (vals .i64 (upto m ++ [(m : Int)]))) (hb : Below base wr w') :
    FibS w (w'.setCell ⟨F, 2, none⟩ v') L F base d l v' (m + 1) := by
  obtain ⟨h1, h2, h3, h4, h5, h6, h7⟩ := h
  have hs : St w w' L := ⟨h1.1.trans (hb.mono (by omega)), fun i p hp => by rw [hb.block p.1 (by have := h6 i p hp; omega)]; exact h1.2 i p hp⟩
  refine ⟨hs.set h6 h7, ?_, ?_, ?_, h5, h6, h7⟩
  · have h8 : w'.heap[F]? = some (.cells #[d, l, v] 30) := (hb.block F h5).trans h2
    exact heap_setCell_same w' F 2 _ _ v' h8
  · rw [upto_succ]
    refine ho.kept (set_grown w' F 2 v') ?_
    cases hv : v'.ownBlock with
    | none => exact .inl rfl
    | some j => exact .inr (fun e => by have := (ho.lt j hv).1; cases e; omega)
  · have := hb.size; simp; omega

set_option maxHeartbeats 32000000 in
set_option maxRecDepth 100000 in
theorem within_walk (a : Option Addr) (n c : Nat) (ds : Dims) (M u0 u1 u2 u3 v0 v1 v2 v3 z0 z1 z2 z3 x0 x1 x2 x3 dim up : Int) (w : World) (hc : Cat w a n c ds) (hM : I64 M) (hv : ∀ y ∈ [v0, v1, v2, v3], U8 y) (hx : ∀ y ∈ [x0, x1, x2, x3], U8 y) (hd : U8 dim) (hup : U8 up) :
    Calls Try.prog 6 #[.agg (way a n c M u0 u1 u2 u3 v0 v1 v2 v3 z0 z1 z2 z3 x0 x1 x2 x3), .int .u8 dim, .int .u8 up] w fun e w' => e = .returned (.bool true) ∧ Below w.heap.size w w' := by
  unfold way
  obtain ⟨e1, e2⟩ := hc.lens
  have E1 : Hid (n = ds.length) := e1
  have HC := hid hc
  have HM := hid hM
  have HV := hid hv
  have HX := hid hx
  have S0 := hid (st_start w (way a n c M u0 u1 u2 u3 v0 v1 v2 v3 z0 z1 z2 z3 x0 x1 x2 x3) 48)
  have tk1 : True := trivial
  have tk2 : True := trivial
  clear hc hM hv hx e1
  cases hr : rightC ds M [v0, v1, v2, v3] [x0, x1, x2, x3] with
  | false =>
    have HR := hid hr
    clear hr
    go_enter Try.func6, Try.ntmps6
    go_wp2_with (first
      | (go_at_call 19; refine (rright_n _ _ _ _ _ _ _ _ _ _ _ _ _ _ _ (HC.out.below S0.out.1) HM.out HV.out HX.out HR).mono ?_; rintro e w1 ⟨rfl, hb1⟩; have S1 := hid (S0.out.step hb1))
      | (go_at_call 9; refine (wakes6 _).mono ?_; rintro e w9 ⟨rfl, hb9⟩))
    go_ret
    exact ⟨rfl, bt S1.out.1 hb9⟩
  | true =>
    have HR := hid hr
    have hg := (rightC_is hr).1
    have hnv := right_nodeC hr HV.out HX.out
    have hgp := goodC_p hg
    rw [← E1.out] at hgp
    obtain ⟨n1, n4', _, _, _⟩ := hgp
    obtain ⟨hd0, hd1⟩ := hd
    obtain ⟨up0, up1⟩ := hup
    obtain ⟨k, hk, hkn⟩ : ∃ k : Nat, dim % (n : Int) = (k : Int) ∧ k < n := by
      have h1 := Int.emod_nonneg dim (show (n : Int) ≠ 0 by omega)
      have h2 := Int.emod_lt_of_pos dim (show (0 : Int) < n by omega)
      exact ⟨(dim % (n : Int)).toNat, by omega, by omega⟩
    have hkt : dim.tmod (n : Int) = (k : Int) := by rw [Int.tmod_eq_emod_of_nonneg hd0]; exact hk
    have hk4 : k < 4 := by omega
    have hk4i : (k : Int) < 4 := by omega
    have hk0i : (0 : Int) ≤ (k : Int) := by omega
    have hkni : (k : Int) < (n : Int) := by omega
    have hn0 : ((n : Int) == 0) = false := by simp; omega
    have wd : IntKind.i64.wrap dim = dim := IntWalk.i64_in _ (by omega)
    have JK : Hid (I64 (k : Int)) := by show I64 (k : Int); unfold I64; omega
    obtain ⟨b, off, rfl, hb0, sa, sl, sc, ua, ul, uc, S, U, d1, d2, HDm, HSU⟩ := HC.out.get (Below.refl _ _) hkn
    have HB0 := hid hb0
    have HD1 := hid d1
    have HD2 := hid d2
    have hkd : k < ds.length := by rw [← E1.out]; exact hkn
    have hgd := dims_good hg hkd HSU.out
    have hlv : levC ds M k = (sl : Int) + 1 := by rw [levC_yes hg hkd, HSU.out, ← HDm.out.lens.1]
    have hsl : sl ≤ 4 := by have h4 := (good_p hgd).2.1; rw [HDm.out.lens.1]; omega
    have hlo := bel_at (node_bel_top hnv) hk4
    rw [tp_4 hk4, tp_good hg, whl_at hkd HSU.out, ← HDm.out.lens.1] at hlo
    have huv := u8_at HV.out k
    have EV : Hid (∀ (x : World) (B : Nat) (t : TypeId), x.heap[B]? = some (.cells #[.int .u8 v0, .int .u8 v1, .int .u8 v2, .int .u8 v3] t) → x.cell? ⟨B, k, none⟩ = some (.int .u8 ([v0, v1, v2, v3].getD k 0))) := hid fun x B t h => box4_at h hk4
    have EW : Hid (∀ (x : World) (t : TypeId), x.heap[w.heap.size]? = some (.cells (way (some ⟨b, off, none⟩) n c M u0 u1 u2 u3 v0 v1 v2 v3 z0 z1 z2 z3 x0 x1 x2 x3) t) → x.cell? ⟨w.heap.size, 6 + k, none⟩ = some (.int .u8 ([v0, v1, v2, v3].getD k 0))) := hid fun x t h => way_v h hk4
    obtain ⟨vk, hvk⟩ : ∃ y, [v0, v1, v2, v3].getD k 0 = y := ⟨_, rfl⟩
    rw [hvk] at hlo huv EV EW
    obtain ⟨lv, hlve⟩ : ∃ y, levC ds M k = y := ⟨_, rfl⟩
    have HLV := hid hlve
    rw [hlve] at hlv
    obtain ⟨df, hdf⟩ : ∃ y, lv - vk = y := ⟨_, rfl⟩
    have wdf : IntKind.i64.wrap (lv - vk) = df := by rw [hdf]; exact IntWalk.i64_in _ (by omega)
    have wdf8 : IntKind.u8.wrap df = df := IntWalk.u8_in _ (by omega)
    have hdf0 : (df == 0) = false := by simp; omega
    have hdfn : ¬ df = 0 := by omega
    have wvk : IntKind.i64.wrap vk = vk := IntWalk.i64_in _ (by omega)
    obtain ⟨q, hq⟩ : ∃ y, up % df = y := ⟨_, rfl⟩
    have hq0 := Int.emod_nonneg up (show df ≠ 0 by omega)
    have hq1 := Int.emod_lt_of_pos up (show 0 < df by omega)
    have hqt : up.tmod df = q := by rw [Int.tmod_eq_emod_of_nonneg up0]; exact hq
    rw [hq] at hq0 hq1
    obtain ⟨gq, hgq⟩ : ∃ y, vk + q = y := ⟨_, rfl⟩
    have wgk : IntKind.u8.wrap (vk + q) = gq := by rw [hgq]; exact IntWalk.u8_in _ (by omega)
    have hgq8 : 0 ≤ gq ∧ gq ≤ 255 := by omega
    have hgl : vk ≤ gq ∧ gq ≤ (sl : Int) := by omega
    obtain ⟨fr, hfr⟩ : ∃ f, pt (v0, v1, v2, v3) gq k = f := ⟨_, rfl⟩
    obtain ⟨g0, g1, g2, g3⟩ := fr
    have HFR := hid hfr
    have hfj : ∀ j, j < 4 → [g0, g1, g2, g3].getD j 0 = if j = k then gq else [v0, v1, v2, v3].getD j 0 := fun j hj => by
      have := nf_pt (v0, v1, v2, v3) gq k hj
      rw [hfr] at this
      exact this
    have hfk : [g0, g1, g2, g3].getD k 0 = gq := by rw [hfj k hk4, if_pos rfl]
    have UG : Hid (∀ y ∈ [g0, g1, g2, g3], U8 y) := hid (by
      have h4 : ∀ j, j < 4 → U8 ([g0, g1, g2, g3].getD j 0) := fun j hj => by
        rw [hfj j hj]
        by_cases e : j = k
        · rw [if_pos e]; exact hgq8
        · rw [if_neg e]; exact u8_at HV.out j
      exact u8_mk ⟨h4 0 (by omega), h4 1 (by omega), h4 2 (by omega), h4 3 (by omega)⟩)
    have hbel : bel v0 v1 v2 v3 g0 g1 g2 g3 = true := by
      have h4 : ∀ j, j < 4 → [v0, v1, v2, v3].getD j 0 ≤ [g0, g1, g2, g3].getD j 0 := fun j hj => by
        rw [hfj j hj]
        by_cases e : j = k
        · subst e; rw [if_pos rfl, hvk]; exact hgl.1
        · rw [if_neg e]; exact Int.le_refl _
      unfold bel
      exact decide_eq_true ⟨h4 0 (by omega), h4 1 (by omega), h4 2 (by omega), h4 3 (by omega)⟩
    have hng : nodeC ds M g0 g1 g2 g3 = true := by
      have h4 : ∀ j, j < 4 → [g0, g1, g2, g3].getD j 0 ≤ [tp ds M 0, tp ds M 1, tp ds M 2, tp ds M 3].getD j 0 := fun j hj => by
        rw [hfj j hj]
        by_cases e : j = k
        · subst e; rw [if_pos rfl, tp_4 hk4, tp_good hg, whl_at hkd HSU.out, ← HDm.out.lens.1]; exact hgl.2
        · rw [if_neg e]; exact bel_at (node_bel_top hnv) hj
      unfold nodeC
      rw [hg, Bool.true_and]
      unfold bel
      exact decide_eq_true ⟨h4 0 (by omega), h4 1 (by omega), h4 2 (by omega), h4 3 (by omega)⟩
    obtain ⟨p0, hp0⟩ : ∃ y, toX ds [v0, v1, v2, v3] [g0, g1, g2, g3] [x0, x1, x2, x3] 0 = y := ⟨_, rfl⟩
    obtain ⟨p1, hp1⟩ : ∃ y, toX ds [v0, v1, v2, v3] [g0, g1, g2, g3] [x0, x1, x2, x3] 1 = y := ⟨_, rfl⟩
    obtain ⟨p2, hp2⟩ : ∃ y, toX ds [v0, v1, v2, v3] [g0, g1, g2, g3] [x0, x1, x2, x3] 2 = y := ⟨_, rfl⟩
    obtain ⟨p3, hp3⟩ : ∃ y, toX ds [v0, v1, v2, v3] [g0, g1, g2, g3] [x0, x1, x2, x3] 3 = y := ⟨_, rfl⟩
    have hpp : ∀ k, k < 4 → toX ds [v0, v1, v2, v3] [g0, g1, g2, g3] [x0, x1, x2, x3] k = [p0, p1, p2, p3].getD k 0 := by
      intro k hk
      have : k = 0 ∨ k = 1 ∨ k = 2 ∨ k = 3 := by omega
      rcases this with rfl | rfl | rfl | rfl <;> assumption
    have Q1 := hid (And.intro (toB_4 hr hng hbel) hpp)
    have hin := toX_in hr hng hbel HV.out UG.out HX.out hk4
    rw [hpp k hk4, hfk, memC_at hkd HSU.out] at hin
    have hwl : wl ds [v0, v1, v2, v3] [x0, x1, x2, x3] k gq = [p0, p1, p2, p3].getD k 0 := by rw [← hpp k hk4, toX_at hkd HSU.out, hfk]; exact wl_at HSU.out
    have EP : Hid (∀ (x : World) (B : Nat) (t : TypeId), x.heap[B]? = some (.cells #[.int .u8 p0, .int .u8 p1, .int .u8 p2, .int .u8 p3] t) → x.cell? ⟨B, k, none⟩ = some (.int .u8 ([p0, p1, p2, p3].getD k 0))) := hid fun x B t h => box4_at h hk4
    have EG : Hid (∀ (x : World) (B : Nat) (t : TypeId), x.heap[B]? = some (.cells #[.int .u8 g0, .int .u8 g1, .int .u8 g2, .int .u8 g3] t) → x.cell? ⟨B, k, none⟩ = some (.int .u8 ([g0, g1, g2, g3].getD k 0))) := hid fun x B t h => box4_at h hk4
    rw [hfk] at EG
    obtain ⟨pk, hpk⟩ : ∃ y, [p0, p1, p2, p3].getD k 0 = y := ⟨_, rfl⟩
    rw [hpk] at hin hwl EP
    obtain ⟨sz, hsz⟩ : ∃ y : Nat, size S U gq = (y : Int) := ⟨(size S U gq).toNat, by have := (size_bd S U gq).1; omega⟩
    have HSZ := hid hsz
    rw [hsz] at hin
    have hszb := (size_bd S U gq).2
    rw [hsz] at hszb
    have JG : Hid (I64 gq) := by show I64 gq; unfold I64; omega
    have HW1 : Hid (wthn ds M [v0, v1, v2, v3] [x0, x1, x2, x3] k gq [] = false) := hid (wthn_at hr hkd hwl hin.1 (by simp))
    have HWM : Hid (∀ m : Nat, wthn ds M [v0, v1, v2, v3] [x0, x1, x2, x3] k gq [(m : Int)] = (pk == (m : Int))) := hid fun m => wthn_at hr hkd hwl hin.1 (by simp [Bool.beq_eq_decide_eq])
    have HWA : Hid (wthn ds M [v0, v1, v2, v3] [x0, x1, x2, x3] k gq (upto sz) = true) := hid (wthn_at hr hkd hwl hin.1 (decide_eq_true (mem_upto.mpr hin)))
    have wpk : IntKind.i64.wrap pk = pk := IntWalk.i64_in _ (by omega)
    have wgq64 : IntKind.i64.wrap gq = gq := IntWalk.i64_in _ (by omega)
    clear hr hg hnv hk hgd hlv hlo hlve hdf hq hgq hfr hfj hfk hbel hng hpp hp0 hp1 hp2 hp3 hwl hpk hsz hvk d1 d2 hgl
    go_enter Try.func6, Try.ntmps6
    go_upto_region 5 with (go_at_call 19; refine (rright_n _ _ _ _ _ _ _ _ _ _ _ _ _ _ _ (HC.out.below S0.out.1) HM.out HV.out HX.out HR).mono ?_; rintro e w1 ⟨rfl, hb1⟩; have S1 := hid (S0.out.step hb1); obtain ⟨⟨ac0, ac1⟩, _, ⟨av0, av1, av2, av3⟩, _, _⟩ := way_cells (S1.out.2 0 _ rfl); have lta := heap_lt (S1.out.2 0 _ rfl))
    obtain ⟨LW, hLW⟩ : ∃ LW : List (Nat × Array Value × TypeId), [(w.heap.size, way (some ⟨b, off, none⟩) n c M u0 u1 u2 u3 v0 v1 v2 v3 z0 z1 z2 z3 x0 x1 x2 x3, 48)] = LW := ⟨_, rfl⟩
    have HLW := hid hLW
    have S2 : Hid (St w (w1.alloc (.cells #[.int .u8 v0, .int .u8 v1, .int .u8 v2, .int .u8 v3] 26)) LW) := hid (by rw [← hLW]; exact S1.out.step ((Below.refl _ _).alloc (Nat.le_refl _) _))
    have HP2 := hid (heap_alloc_new w1 (.cells #[.int .u8 v0, .int .u8 v1, .int .u8 v2, .int .u8 v3] 26))
    have KS : Hid (∀ x, St w x LW → St w x LW ∧ x.cell? ⟨w.heap.size, 0, none⟩ = some (.slice (some ⟨b, off, none⟩) n c) ∧ x.cell? ⟨w.heap.size, 1, none⟩ = some (.int .i64 M) ∧ x.cell? ⟨w.heap.size, 6 + k, none⟩ = some (.int .u8 vk)) := hid (by
      intro x h
      have h' := h
      rw [← hLW] at h'
      obtain ⟨⟨k0, k1⟩, _⟩ := way_cells (h'.2 0 _ rfl)
      exact ⟨h, k0, k1, EW.out x _ (h'.2 0 _ rfl)⟩)
    have LTL : Hid (∀ (i : Nat) p, LW[i]? = some p → p.1 < w1.heap.size) := hid (by
      intro i p hp
      rw [← hLW] at hp
      exact heap_lt (S1.out.2 i p hp))
    have STP : Hid (∀ x y, Below x.heap.size x y → St w x LW → St w y LW) := hid fun x y hb h => h.step hb
    have LEW : Hid (w.heap.size ≤ w1.heap.size) := hid S1.out.1.size
    have cv := EV.out (w1.alloc (.cells #[.int .u8 v0, .int .u8 v1, .int .u8 v2, .int .u8 v3] 26)) w1.heap.size 26 HP2.out
    have fv := frozen_of_row (w1.alloc (.cells #[.int .u8 v0, .int .u8 v1, .int .u8 v2, .int .u8 v3] 26)) w1.heap.size k _ _ HP2.out
    have ltP : w1.heap.size < (w1.alloc (.cells #[.int .u8 v0, .int .u8 v1, .int .u8 v2, .int .u8 v3] 26)).heap.size := by simp
    generalize (w1.alloc (.cells #[.int .u8 v0, .int .u8 v1, .int .u8 v2, .int .u8 v3] 26)) = W1 at S2 HP2 cv fv ltP ⊢
    generalize w1.heap.size = P at HP2 cv fv LTL LEW ltP ⊢
    clear hLW S1
    go_cut [47] (fun p wx => ∃ x, p = .int .u8 x ∧ Hid (St w wx [(P, #[.int .u8 g0, .int .u8 g1, .int .u8 g2, .int .u8 g3], 26), (w.heap.size, way (some ⟨b, off, none⟩) n c M u0 u1 u2 u3 v0 v1 v2 v3 z0 z1 z2 z3 x0 x1 x2 x3, 48)]))
    case first =>
      refine wp_region_noPanic ?_
      refine wp_region_held_drew (S := fun x => St w x LW ∧ x.cell? ⟨w.heap.size, 0, none⟩ = some (.slice (some ⟨b, off, none⟩) n c) ∧ x.cell? ⟨w.heap.size, 1, none⟩ = some (.int .i64 M) ∧ x.cell? ⟨w.heap.size, 6 + k, none⟩ = some (.int .u8 vk)) (by kernel_rfl) (kq_drew S2 STP KS) (fun hHeld => ?_)
      refine wpAnyH_take (i := 0) (v := ?_) (by simp only [List.getElem?_toArray, List.getElem?_cons_succ, List.getElem?_cons_zero]; exact rfl) (by kernel_rfl) (by kernel_rfl) (by kernel_rfl) (fun _ _ _ h => h) (Or.inl ⟨by rfl, ?_⟩) (by assumption) ?_
      rotate_left
      · intro w hSw
        try dsimp only at hSw
        go_simp
        try with_reducible rfl
      try simp only [Act.put, List.setIfInBounds_toArray, List.set_cons_zero, List.set_cons_succ]
      refine wpAnyH_take (i := 1) (v := ?_) (by simp only [List.getElem?_toArray, List.getElem?_cons_succ, List.getElem?_cons_zero]; exact rfl) (by kernel_rfl) (by kernel_rfl) (by kernel_rfl) (fun _ _ _ h => h) (Or.inl ⟨by rfl, ?_⟩) (by assumption) ?_
      rotate_left
      · intro w hSw
        try dsimp only at hSw
        go_simp
        try with_reducible rfl
      try simp only [Act.put, List.setIfInBounds_toArray, List.set_cons_zero, List.set_cons_succ]
      refine wpAnyH_take (i := 3) (v := ?_) (by simp only [List.getElem?_toArray, List.getElem?_cons_succ, List.getElem?_cons_zero]; exact rfl) (by kernel_rfl) (by kernel_rfl) (by kernel_rfl) (fun _ _ _ h => h) (Or.inl ⟨by rfl, ?_⟩) (by assumption) ?_
      rotate_left
      · intro w hSw
        try dsimp only at hSw
        go_simp
        try with_reducible rfl
      try simp only [Act.put, List.setIfInBounds_toArray, List.set_cons_zero, List.set_cons_succ]
      refine wpAnyH_take (i := 4) (v := ?_) (by simp only [List.getElem?_toArray, List.getElem?_cons_succ, List.getElem?_cons_zero]; exact rfl) (by kernel_rfl) (by kernel_rfl) (by kernel_rfl) (fun _ _ _ h => h) (Or.inl ⟨by rfl, ?_⟩) (by assumption) ?_
      rotate_left
      · intro w hSw
        try dsimp only at hSw
        go_simp
        try with_reducible rfl
      try simp only [Act.put, List.setIfInBounds_toArray, List.set_cons_zero, List.set_cons_succ]
      refine wpAnyH_take (i := 5) (v := ?_) (by simp only [List.getElem?_toArray, List.getElem?_cons_succ, List.getElem?_cons_zero]; exact rfl) (by kernel_rfl) (by kernel_rfl) (by kernel_rfl) (fun _ _ _ h => h) (Or.inl ⟨by rfl, ?_⟩) (by assumption) ?_
      rotate_left
      · intro w hSw
        try dsimp only at hSw
        go_simp
        try with_reducible rfl
      try simp only [Act.put, List.setIfInBounds_toArray, List.set_cons_zero, List.set_cons_succ]
      refine wpAnyH_take (i := 6) (v := ?_) (by simp only [List.getElem?_toArray, List.getElem?_cons_succ, List.getElem?_cons_zero]; exact rfl) (by kernel_rfl) (by kernel_rfl) (by kernel_rfl) (fun _ _ _ h => h) (Or.inl ⟨by rfl, ?_⟩) (by assumption) ?_
      rotate_left
      · intro w hSw
        try dsimp only at hSw
        go_simp
        try with_reducible rfl
      try simp only [Act.put, List.setIfInBounds_toArray, List.set_cons_zero, List.set_cons_succ]
      refine wpAnyH_take (i := 8) (v := ?_) (by simp only [List.getElem?_toArray, List.getElem?_cons_succ, List.getElem?_cons_zero]; exact rfl) (by kernel_rfl) (by kernel_rfl) (by kernel_rfl) (fun _ _ _ h => h) (Or.inl ⟨by rfl, ?_⟩) (by assumption) ?_
      rotate_left
      · intro w hSw
        try dsimp only at hSw
        go_simp
        try with_reducible rfl
      try simp only [Act.put, List.setIfInBounds_toArray, List.set_cons_zero, List.set_cons_succ]
      refine wpAnyH_take (i := 9) (v := ?_) (by simp only [List.getElem?_toArray, List.getElem?_cons_succ, List.getElem?_cons_zero]; exact rfl) (by kernel_rfl) (by kernel_rfl) (by kernel_rfl) (fun _ _ _ h => h) (Or.inl ⟨by rfl, ?_⟩) (by assumption) ?_
      rotate_left
      · intro w hSw
        try dsimp only at hSw
        go_simp
        try with_reducible rfl
      try simp only [Act.put, List.setIfInBounds_toArray, List.set_cons_zero, List.set_cons_succ]
      refine wpAnyH_take (i := 10) (v := ?_) (by simp only [List.getElem?_toArray, List.getElem?_cons_succ, List.getElem?_cons_zero]; exact rfl) (by kernel_rfl) (by kernel_rfl) (by kernel_rfl) (fun _ _ _ h => h) (Or.inl ⟨by rfl, ?_⟩) (by assumption) ?_
      rotate_left
      · intro w hSw
        try dsimp only at hSw
        go_simp
        try with_reducible rfl
      try simp only [Act.put, List.setIfInBounds_toArray, List.set_cons_zero, List.set_cons_succ]
      refine wpAnyH_take (i := 11) (v := ?_) (by simp only [List.getElem?_toArray, List.getElem?_cons_succ, List.getElem?_cons_zero]; exact rfl) (by kernel_rfl) (by kernel_rfl) (by kernel_rfl) (fun _ _ _ h => h) (Or.inl ⟨by rfl, ?_⟩) (by assumption) ?_
      rotate_left
      · intro w hSw
        try dsimp only at hSw
        go_simp
        try with_reducible rfl
      try simp only [Act.put, List.setIfInBounds_toArray, List.set_cons_zero, List.set_cons_succ]
      refine wpAnyH_take (i := 12) (v := ?_) (by simp only [List.getElem?_toArray, List.getElem?_cons_succ, List.getElem?_cons_zero]; exact rfl) (by kernel_rfl) (by kernel_rfl) (by kernel_rfl) (fun _ _ _ h => h) (Or.inl ⟨by rfl, ?_⟩) (by assumption) ?_
      rotate_left
      · intro w hSw
        try dsimp only at hSw
        go_simp
        try with_reducible rfl
      try simp only [Act.put, List.setIfInBounds_toArray, List.set_cons_zero, List.set_cons_succ]
      refine wpAnyH_ready (rs := [2, 7]) (by kernel_rfl) (by simp) ?_
      refine (AllReadyH.cons (by simp only [List.getElem?_toArray, List.getElem?_cons_succ, List.getElem?_cons_zero]; exact rfl) (fun K hK => ?_) (AllReadyH.cons (by simp only [List.getElem?_toArray, List.getElem?_cons_succ, List.getElem?_cons_zero]; exact rfl) (fun K hK => ?_) AllReadyH.nil))
      · go_simp
        refine hK.out _ _ hHeld (fun hHeld2 => ?_)
        clear hK K hHeld
        have hHeld := hHeld2
        clear hHeld2
        try simp only [Act.put, List.setIfInBounds_toArray, List.set_cons_zero, List.set_cons_succ]
        refine wpAnyH_ready (rs := [7]) (by kernel_rfl) (by simp) ?_
        refine (AllReadyH.cons (by simp only [List.getElem?_toArray, List.getElem?_cons_succ, List.getElem?_cons_zero]; exact rfl) (fun K hK => ?_) AllReadyH.nil)
        go_simp
        go_at_call 24; refine (rlevels_m _ _ _ _ _ _ lv _ (HC.out.below hHeld.1.1) HM.out JK.out HLV.out).mono ?_; rintro e w5 ⟨rfl, hb5⟩
        refine hK.out _ _ (kq_step hb5 hHeld STP KS) (fun hHeld2 => ?_)
        clear hK K hHeld
        have hHeld := hHeld2
        clear hHeld2
        have HP5 := hid (keep_blk HP2.out (undrew hb5))
        have cv5 := EV.out w5 P _ HP5.out
        have fv5 := frozen_of_row w5 P k _ _ HP5.out
        have ltP5 := heap_lt HP5.out
        clear hb5
        try simp only [Act.put, List.setIfInBounds_toArray, List.set_cons_zero, List.set_cons_succ]
        refine wpAnyH_take (i := 13) (v := ?_) (by simp only [List.getElem?_toArray, List.getElem?_cons_succ, List.getElem?_cons_zero]; exact rfl) (by kernel_rfl) (by kernel_rfl) (by kernel_rfl) (fun _ _ _ h => h) (Or.inl ⟨by rfl, ?_⟩) (by assumption) ?_
        rotate_left
        · intro w hSw
          try dsimp only at hSw
          go_simp
          try with_reducible rfl
        try simp only [Act.put, List.setIfInBounds_toArray, List.set_cons_zero, List.set_cons_succ]
        refine wpAnyH_take (i := 14) (v := ?_) (by simp only [List.getElem?_toArray, List.getElem?_cons_succ, List.getElem?_cons_zero]; exact rfl) (by kernel_rfl) (by kernel_rfl) (by kernel_rfl) (fun _ _ _ h => h) (Or.inl ⟨by rfl, ?_⟩) (by assumption) ?_
        rotate_left
        · intro w hSw
          try dsimp only at hSw
          go_simp
          try with_reducible rfl
        try simp only [Act.put, List.setIfInBounds_toArray, List.set_cons_zero, List.set_cons_succ]
        refine wpAnyH_take (i := 15) (v := ?_) (by simp only [List.getElem?_toArray, List.getElem?_cons_succ, List.getElem?_cons_zero]; exact rfl) (by kernel_rfl) (by kernel_rfl) (by kernel_rfl) (fun _ _ _ h => h) (Or.inl ⟨by rfl, ?_⟩) (by assumption) ?_
        rotate_left
        · intro w hSw
          try dsimp only at hSw
          go_simp
          try with_reducible rfl
        try simp only [Act.put, List.setIfInBounds_toArray, List.set_cons_zero, List.set_cons_succ]
        refine wpAnyH_take (i := 16) (v := ?_) (by simp only [List.getElem?_toArray, List.getElem?_cons_succ, List.getElem?_cons_zero]; exact rfl) (by kernel_rfl) (by kernel_rfl) (by kernel_rfl) (fun _ _ _ h => h) (Or.inl ⟨by rfl, ?_⟩) (by assumption) ?_
        rotate_left
        · intro w hSw
          try dsimp only at hSw
          go_simp
          try with_reducible rfl
        try simp only [Act.put, List.setIfInBounds_toArray, List.set_cons_zero, List.set_cons_succ]
        refine wpAnyH_take (i := 17) (v := ?_) (by simp only [List.getElem?_toArray, List.getElem?_cons_succ, List.getElem?_cons_zero]; exact rfl) (by kernel_rfl) (by kernel_rfl) (by kernel_rfl) (fun _ _ _ h => h) (Or.inl ⟨by rfl, ?_⟩) (by assumption) ?_
        rotate_left
        · intro w hSw
          try dsimp only at hSw
          go_simp
          try with_reducible rfl
        try simp only [Act.put, List.setIfInBounds_toArray, List.set_cons_zero, List.set_cons_succ]
        refine wpAnyH_ready (rs := [18]) (by kernel_rfl) (by simp) ?_
        refine (AllReadyH.cons (by simp only [List.getElem?_toArray, List.getElem?_cons_succ, List.getElem?_cons_zero]; exact rfl) (fun K hK => ?_) AllReadyH.nil)
        go_simp
        refine hK.out _ _ (KS.out _ (hHeld.1.set LTL.out LEW.out)) (fun hHeld2 => ?_)
        clear hK K hHeld
        have hHeld := hHeld2
        clear hHeld2
        try simp only [Act.put, List.setIfInBounds_toArray, List.set_cons_zero, List.set_cons_succ]
        refine wpAnyH_done (by kernel_rfl) ?_ _
        refine NoPanic.normal ?_
        have HP6 : (w5.setCell ⟨P, k, none⟩ (.int .u8 gq)).heap[P]? = some (.cells #[.int .u8 g0, .int .u8 g1, .int .u8 g2, .int .u8 g3] 26) := by
          rw [heap_setCell_same w5 P k _ _ (.int .u8 gq) HP5.out]
          have e := set4_pt v0 v1 v2 v3 gq hk4
          rw [HFR.out] at e
          simp only [List.setIfInBounds_toArray]
          rw [e]; rfl
        have SS := hid hHeld.1
        have SF : Hid (St w (w5.setCell ⟨P, k, none⟩ (.int .u8 gq)) [(P, #[.int .u8 g0, .int .u8 g1, .int .u8 g2, .int .u8 g3], 26), (w.heap.size, way (some ⟨b, off, none⟩) n c M u0 u1 u2 u3 v0 v1 v2 v3 z0 z1 z2 z3 x0 x1 x2 x3, 48)]) := by
          refine hid ⟨SS.out.1, fun i p hp => ?_⟩
          cases i with
          | zero => simp at hp; subst hp; exact HP6
          | succ i => exact SS.out.2 i p (by rw [← HLW.out]; simpa using hp)
        go_wp2_with fail
        go_meet
        exact ⟨gq, rfl, SF⟩
      · go_simp
        go_at_call 24; refine (rlevels_m _ _ _ _ _ _ lv _ (HC.out.below hHeld.1.1) HM.out JK.out HLV.out).mono ?_; rintro e w5 ⟨rfl, hb5⟩
        refine hK.out _ _ (kq_step hb5 hHeld STP KS) (fun hHeld2 => ?_)
        clear hK K hHeld
        have hHeld := hHeld2
        clear hHeld2
        have HP5 := hid (keep_blk HP2.out (undrew hb5))
        have cv5 := EV.out w5 P _ HP5.out
        have fv5 := frozen_of_row w5 P k _ _ HP5.out
        have ltP5 := heap_lt HP5.out
        clear hb5
        try simp only [Act.put, List.setIfInBounds_toArray, List.set_cons_zero, List.set_cons_succ]
        refine wpAnyH_take (i := 13) (v := ?_) (by simp only [List.getElem?_toArray, List.getElem?_cons_succ, List.getElem?_cons_zero]; exact rfl) (by kernel_rfl) (by kernel_rfl) (by kernel_rfl) (fun _ _ _ h => h) (Or.inl ⟨by rfl, ?_⟩) (by assumption) ?_
        rotate_left
        · intro w hSw
          try dsimp only at hSw
          go_simp
          try with_reducible rfl
        try simp only [Act.put, List.setIfInBounds_toArray, List.set_cons_zero, List.set_cons_succ]
        refine wpAnyH_take (i := 14) (v := ?_) (by simp only [List.getElem?_toArray, List.getElem?_cons_succ, List.getElem?_cons_zero]; exact rfl) (by kernel_rfl) (by kernel_rfl) (by kernel_rfl) (fun _ _ _ h => h) (Or.inl ⟨by rfl, ?_⟩) (by assumption) ?_
        rotate_left
        · intro w hSw
          try dsimp only at hSw
          go_simp
          try with_reducible rfl
        try simp only [Act.put, List.setIfInBounds_toArray, List.set_cons_zero, List.set_cons_succ]
        refine wpAnyH_take (i := 15) (v := ?_) (by simp only [List.getElem?_toArray, List.getElem?_cons_succ, List.getElem?_cons_zero]; exact rfl) (by kernel_rfl) (by kernel_rfl) (by kernel_rfl) (fun _ _ _ h => h) (Or.inl ⟨by rfl, ?_⟩) (by assumption) ?_
        rotate_left
        · intro w hSw
          try dsimp only at hSw
          go_simp
          try with_reducible rfl
        try simp only [Act.put, List.setIfInBounds_toArray, List.set_cons_zero, List.set_cons_succ]
        refine wpAnyH_ready (rs := [2]) (by kernel_rfl) (by simp) ?_
        refine (AllReadyH.cons (by simp only [List.getElem?_toArray, List.getElem?_cons_succ, List.getElem?_cons_zero]; exact rfl) (fun K hK => ?_) AllReadyH.nil)
        go_simp
        refine hK.out _ _ hHeld (fun hHeld2 => ?_)
        clear hK K hHeld
        have hHeld := hHeld2
        clear hHeld2
        try simp only [Act.put, List.setIfInBounds_toArray, List.set_cons_zero, List.set_cons_succ]
        refine wpAnyH_take (i := 16) (v := ?_) (by simp only [List.getElem?_toArray, List.getElem?_cons_succ, List.getElem?_cons_zero]; exact rfl) (by kernel_rfl) (by kernel_rfl) (by kernel_rfl) (fun _ _ _ h => h) (Or.inl ⟨by rfl, ?_⟩) (by assumption) ?_
        rotate_left
        · intro w hSw
          try dsimp only at hSw
          go_simp
          try with_reducible rfl
        try simp only [Act.put, List.setIfInBounds_toArray, List.set_cons_zero, List.set_cons_succ]
        refine wpAnyH_take (i := 17) (v := ?_) (by simp only [List.getElem?_toArray, List.getElem?_cons_succ, List.getElem?_cons_zero]; exact rfl) (by kernel_rfl) (by kernel_rfl) (by kernel_rfl) (fun _ _ _ h => h) (Or.inl ⟨by rfl, ?_⟩) (by assumption) ?_
        rotate_left
        · intro w hSw
          try dsimp only at hSw
          go_simp
          try with_reducible rfl
        try simp only [Act.put, List.setIfInBounds_toArray, List.set_cons_zero, List.set_cons_succ]
        refine wpAnyH_ready (rs := [18]) (by kernel_rfl) (by simp) ?_
        refine (AllReadyH.cons (by simp only [List.getElem?_toArray, List.getElem?_cons_succ, List.getElem?_cons_zero]; exact rfl) (fun K hK => ?_) AllReadyH.nil)
        go_simp
        refine hK.out _ _ (KS.out _ (hHeld.1.set LTL.out LEW.out)) (fun hHeld2 => ?_)
        clear hK K hHeld
        have hHeld := hHeld2
        clear hHeld2
        try simp only [Act.put, List.setIfInBounds_toArray, List.set_cons_zero, List.set_cons_succ]
        refine wpAnyH_done (by kernel_rfl) ?_ _
        refine NoPanic.normal ?_
        have HP6 : (w5.setCell ⟨P, k, none⟩ (.int .u8 gq)).heap[P]? = some (.cells #[.int .u8 g0, .int .u8 g1, .int .u8 g2, .int .u8 g3] 26) := by
          rw [heap_setCell_same w5 P k _ _ (.int .u8 gq) HP5.out]
          have e := set4_pt v0 v1 v2 v3 gq hk4
          rw [HFR.out] at e
          simp only [List.setIfInBounds_toArray]
          rw [e]; rfl
        have SS := hid hHeld.1
        have SF : Hid (St w (w5.setCell ⟨P, k, none⟩ (.int .u8 gq)) [(P, #[.int .u8 g0, .int .u8 g1, .int .u8 g2, .int .u8 g3], 26), (w.heap.size, way (some ⟨b, off, none⟩) n c M u0 u1 u2 u3 v0 v1 v2 v3 z0 z1 z2 z3 x0 x1 x2 x3, 48)]) := by
          refine hid ⟨SS.out.1, fun i p hp => ?_⟩
          cases i with
          | zero => simp at hp; subst hp; exact HP6
          | succ i => exact SS.out.2 i p (by rw [← HLW.out]; simpa using hp)
        go_wp2_with fail
        go_meet
        exact ⟨gq, rfl, SF⟩
    case rest =>
      obtain ⟨xx, rfl, SF⟩ := hcut
      clear S2 HP2 KS LTL cv fv ltP
      rename World => W5
      obtain ⟨⟨bc0, bc1⟩, _, ⟨bv0, bv1, bv2, bv3⟩, _, ⟨bx0, bx1, bx2, bx3⟩⟩ := way_cells (SF.out.2 1 _ rfl)
      obtain ⟨bg0, bg1, bg2, bg3⟩ := box4 (SF.out.2 0 _ rfl)
      go_upto_region 10 with (go_at_call 11; refine (lto_m _ _ _ _ _ _ _ _ _ _ _ _ _ _ _ _ _ p0 p1 p2 p3 _ (HC.out.below SF.out.1) HM.out HV.out UG.out HX.out Q1).mono ?_; rintro e w6 ⟨rfl, hb6⟩; have T6 := hid (SF.out.step hb6); have S6 := hid (T6.out.new #[.int .u8 p0, .int .u8 p1, .int .u8 p2, .int .u8 p3] 27); have cg := EG.out w6 P _ (T6.out.2 0 _ rfl); obtain ⟨⟨dc0, dc1⟩, _, ⟨dv0, dv1, dv2, dv3⟩, _, ⟨dx0, dx1, dx2, dx3⟩⟩ := way_cells (T6.out.2 1 _ rfl); have ltd1 := heap_lt (T6.out.2 1 _ rfl); have ltd0 := heap_lt (T6.out.2 0 _ rfl))
      obtain ⟨PP, hPP⟩ : ∃ y, w6.heap.size = y := ⟨_, rfl⟩
      have S7 : Hid (St w ((w6.alloc (.cells #[.int .u8 p0, .int .u8 p1, .int .u8 p2, .int .u8 p3] 27)).alloc (.cells #[.int .i64 k, .int .i64 gq, .slice none 0 0] 30)) [(PP + 1, #[.int .i64 k, .int .i64 gq, .slice none 0 0], 30), (PP, #[.int .u8 p0, .int .u8 p1, .int .u8 p2, .int .u8 p3], 27), (P, #[.int .u8 g0, .int .u8 g1, .int .u8 g2, .int .u8 g3], 26), (w.heap.size, way (some ⟨b, off, none⟩) n c M u0 u1 u2 u3 v0 v1 v2 v3 z0 z1 z2 z3 x0 x1 x2 x3, 48)]) := hid (by
        have := S6.out.new #[.int .i64 k, .int .i64 gq, .slice none 0 0] 30
        rw [World.size_alloc, hPP] at this
        exact this)
      have LTP : Hid (P < PP ∧ w.heap.size < PP) := hid (by rw [← hPP]; exact ⟨ltd0, ltd1⟩)
      rw [hPP]
      generalize ((w6.alloc (.cells #[.int .u8 p0, .int .u8 p1, .int .u8 p2, .int .u8 p3] 27)).alloc (.cells #[.int .i64 k, .int .i64 gq, .slice none 0 0] 30)) = W7 at S7 ⊢
      clear hPP S6 T6 cg dc0 dc1 dv0 dv1 dv2 dv3 dx0 dx1 dx2 dx3 ltd0 ltd1 hb6
      obtain ⟨⟨fc0, fc1⟩, _, ⟨fv0, fv1, fv2, fv3⟩, _, ⟨fx0, fx1, fx2, fx3⟩⟩ := way_cells (S7.out.2 3 _ rfl)
      obtain ⟨ff0, ff1, ff2⟩ := box3 (S7.out.2 0 _ rfl)
      go_wp2_with (go_at_call 13; clear tk1; refine (within_m _ _ _ _ _ _ _ _ _ _ _ _ _ _ _ none 0 0 [] _ _ (HC.out.below S7.out.1) HM.out HV.out HX.out JK.out JG.out (row_nil _ _) HW1).mono ?_; rintro e w7 ⟨rfl, hb7⟩; have S8 := hid (S7.out.step hb7))
      have LTF : Hid (PP + 1 < w7.heap.size) := hid (heap_lt (S8.out.2 0 _ rfl))
      obtain ⟨L, hL⟩ : ∃ L : List (Nat × Array Value × TypeId), [(PP, #[.int .u8 p0, .int .u8 p1, .int .u8 p2, .int .u8 p3], 27), (P, #[.int .u8 g0, .int .u8 g1, .int .u8 g2, .int .u8 g3], 26), (w.heap.size, way (some ⟨b, off, none⟩) n c M u0 u1 u2 u3 v0 v1 v2 v3 z0 z1 z2 z3 x0 x1 x2 x3, 48)] = L := ⟨_, rfl⟩
      have FS0 : Hid (FibS w w7 L (PP + 1) w7.heap.size (.int .i64 k) (.int .i64 gq) (.slice none 0 0) 0) := hid (by
        refine ⟨⟨S8.out.1, fun i p hp => S8.out.2 (i + 1) p (by rw [← hL] at hp; simpa using hp)⟩, S8.out.2 0 _ rfl, World.ownsRow_nil _ _ _ _, Nat.le_refl _, LTF.out, fun i p hp => ?_, by have := LTP.out.2; omega⟩
        have h1 := LTP.out
        rw [← hL] at hp
        match i, hp with
        | 0, hp => simp at hp; subst hp; simp
        | 1, hp => simp at hp; subst hp; simp; omega
        | 2, hp => simp at hp; subst hp; simp; omega
        | i + 3, hp => simp at hp)
      have GL : Hid (∀ x, St w x L → (x.cell? ⟨w.heap.size, 0, none⟩ = some (.slice (some ⟨b, off, none⟩) n c) ∧ x.cell? ⟨w.heap.size, 1, none⟩ = some (.int .i64 M)) ∧ (x.cell? ⟨w.heap.size, 6, none⟩ = some (.int .u8 v0) ∧ x.cell? ⟨w.heap.size, 7, none⟩ = some (.int .u8 v1) ∧ x.cell? ⟨w.heap.size, 8, none⟩ = some (.int .u8 v2) ∧ x.cell? ⟨w.heap.size, 9, none⟩ = some (.int .u8 v3)) ∧ (x.cell? ⟨w.heap.size, 14, none⟩ = some (.int .u8 x0) ∧ x.cell? ⟨w.heap.size, 15, none⟩ = some (.int .u8 x1) ∧ x.cell? ⟨w.heap.size, 16, none⟩ = some (.int .u8 x2) ∧ x.cell? ⟨w.heap.size, 17, none⟩ = some (.int .u8 x3)) ∧ x.cell? ⟨PP, k, none⟩ = some (.int .u8 pk)) := hid (by
        intro x h
        rw [← hL] at h
        obtain ⟨h1, _, h2, _, h3⟩ := way_cells (h.2 2 _ rfl)
        exact ⟨h1, h2, h3, EP.out x PP _ (h.2 0 _ rfl)⟩)
      have tk3 : True := trivial
      clear hL S7 S8 SF HLW STP
      generalize w7.heap.size = base at FS0
      go_loopg [12] sz (fun g i wr => ∃ (m : Nat) (v : Value), i = .int .i64 m ∧ Hid (g + m = sz) ∧ Hid (FibS w wr L (PP + 1) base (.int .i64 k) (.int .i64 gq) v m))
      case atStart => exact ⟨0, _, rfl, hid (by omega), FS0⟩
      case round =>
        obtain ⟨m, v, rfl, HG, F8⟩ := hrel
        rename World => W8
        have hgm := HG.out
        have hltm : m < sz + 1 := by omega
        obtain ⟨⟨c0, c1⟩, _, _, cp⟩ := GL.out _ F8.out.1
        obtain ⟨fx0, fx1, fx2⟩ := box3 F8.out.2.1
        have hz8 := heap_lt F8.out.2.1
        have hw8 : w.heap.size < W8.heap.size := by have := LTP.out.2; omega
        have hbw : b < W8.heap.size := Nat.lt_of_lt_of_le HB0.out F8.out.1.1.size
        have d1 := ((bcell F8.out.1.1).1 _ _ HB0.out).trans HD1.out
        have d2 := ((bcell F8.out.1.1).1 _ _ HB0.out).trans HD2.out
        have KS : Hid (∀ x', Below W8.heap.size W8 x' → Below W8.heap.size W8 x' ∧ x'.cell? ⟨w.heap.size, 0, none⟩ = some (.slice (some ⟨b, off, none⟩) n c) ∧ x'.cell? ⟨b, off + k * 2, none⟩ = some (.slice sa sl sc) ∧ x'.cell? ⟨b, off + k * 2 + 1, none⟩ = some (.slice ua ul uc) ∧ x'.cell? ⟨PP + 1, 1, none⟩ = some (.int .i64 gq)) :=
          hid fun x' hB => ⟨hB, ((bcell hB).1 _ _ hw8).trans c0, ((bcell hB).1 _ _ hbw).trans d1, ((bcell hB).1 _ _ hbw).trans d2, ((bcell hB).1 _ _ hz8).trans fx1⟩
        have HD8 := hid (HDm.out.below F8.out.1.1)
        by_cases hms : m < sz
        · have hmi : (m : Int) < (sz : Int) := by omega
          have hmn : decide (m < sz) = true := decide_eq_true hms
          go_wp2
          go_region_held3 (fun x' => Below W8.heap.size W8 x' ∧ x'.cell? ⟨w.heap.size, 0, none⟩ = some (.slice (some ⟨b, off, none⟩) n c) ∧ x'.cell? ⟨b, off + k * 2, none⟩ = some (.slice sa sl sc) ∧ x'.cell? ⟨b, off + k * 2 + 1, none⟩ = some (.slice ua ul uc) ∧ x'.cell? ⟨PP + 1, 1, none⟩ = some (.int .i64 gq))
            (first | assumption | exact keep_drew KS | exact keep_step (by assumption) (by assumption) KS)
            (first
              | (go_at_call 25; refine (rsize_m _ _ _ _ _ _ S U _ (sz : Int) _ (HD8.out.below (And.left (by assumption))) JG.out HSZ).mono ?_; rintro e w9 ⟨rfl, hb9⟩))
          have B9 : Below W8.heap.size W8 w9 := undrew hb9
          have F9 := hid (F8.out.step B9)
          clear hb9 B9 KS c0 c1 cp fx0 fx1 fx2 d1 d2
          have bm : Hid (wthn ds M [v0, v1, v2, v3] [x0, x1, x2, x3] k gq [(m : Int)] = (pk == (m : Int))) := hid (HWM.out m)
          obtain ⟨bb, hbb⟩ : ∃ y, (pk == (m : Int)) = y := ⟨_, rfl⟩
          rw [hbb] at bm
          have KT : Hid (∀ x, FibS w x L (PP + 1) base (.int .i64 k) (.int .i64 gq) v m → FibS w x L (PP + 1) base (.int .i64 k) (.int .i64 gq) v m ∧ x.cell? ⟨w.heap.size, 0, none⟩ = some (.slice (some ⟨b, off, none⟩) n c) ∧ x.cell? ⟨w.heap.size, 1, none⟩ = some (.int .i64 M) ∧ x.cell? ⟨w.heap.size, 6, none⟩ = some (.int .u8 v0) ∧ x.cell? ⟨w.heap.size, 7, none⟩ = some (.int .u8 v1) ∧ x.cell? ⟨w.heap.size, 8, none⟩ = some (.int .u8 v2) ∧ x.cell? ⟨w.heap.size, 9, none⟩ = some (.int .u8 v3) ∧ x.cell? ⟨w.heap.size, 14, none⟩ = some (.int .u8 x0) ∧ x.cell? ⟨w.heap.size, 15, none⟩ = some (.int .u8 x1) ∧ x.cell? ⟨w.heap.size, 16, none⟩ = some (.int .u8 x2) ∧ x.cell? ⟨w.heap.size, 17, none⟩ = some (.int .u8 x3) ∧ x.cell? ⟨PP + 1, 1, none⟩ = some (.int .i64 gq) ∧ x.cell? ⟨PP, k, none⟩ = some (.int .u8 pk)) := hid (by
            intro x h
            obtain ⟨⟨k0, k1⟩, ⟨k2, k3, k4, k5⟩, ⟨k6, k7, k8, k9⟩, ka⟩ := GL.out _ h.1
            exact ⟨h, k0, k1, k2, k3, k4, k5, k6, k7, k8, k9, (box3 h.2.1).2.1, ka⟩)
          have FTP : Hid (∀ x y, Below x.heap.size x y → FibS w x L (PP + 1) base (.int .i64 k) (.int .i64 gq) v m → FibS w y L (PP + 1) base (.int .i64 k) (.int .i64 gq) v m) := hid fun x y hb h => h.step hb
          go_wp2
          refine wp_region_noPanic ?_
          refine wp_region_held_drew (S := fun x => FibS w x L (PP + 1) base (.int .i64 k) (.int .i64 gq) v m ∧ x.cell? ⟨w.heap.size, 0, none⟩ = some (.slice (some ⟨b, off, none⟩) n c) ∧ x.cell? ⟨w.heap.size, 1, none⟩ = some (.int .i64 M) ∧ x.cell? ⟨w.heap.size, 6, none⟩ = some (.int .u8 v0) ∧ x.cell? ⟨w.heap.size, 7, none⟩ = some (.int .u8 v1) ∧ x.cell? ⟨w.heap.size, 8, none⟩ = some (.int .u8 v2) ∧ x.cell? ⟨w.heap.size, 9, none⟩ = some (.int .u8 v3) ∧ x.cell? ⟨w.heap.size, 14, none⟩ = some (.int .u8 x0) ∧ x.cell? ⟨w.heap.size, 15, none⟩ = some (.int .u8 x1) ∧ x.cell? ⟨w.heap.size, 16, none⟩ = some (.int .u8 x2) ∧ x.cell? ⟨w.heap.size, 17, none⟩ = some (.int .u8 x3) ∧ x.cell? ⟨PP + 1, 1, none⟩ = some (.int .i64 gq) ∧ x.cell? ⟨PP, k, none⟩ = some (.int .u8 pk)) (by kernel_rfl) (kq_drew F9 FTP KT) (fun hHeld => ?_)
          refine wpAnyH_take (i := 0) (v := ?_) (by simp only [List.getElem?_toArray, List.getElem?_cons_succ, List.getElem?_cons_zero]; exact rfl) (by kernel_rfl) (by kernel_rfl) (by kernel_rfl) (fun _ _ _ h => h) (Or.inl ⟨by rfl, ?_⟩) (by assumption) ?_
          rotate_left
          · intro w hSw
            try dsimp only at hSw
            go_simp
            try with_reducible rfl
          try simp only [Act.put, List.setIfInBounds_toArray, List.set_cons_zero, List.set_cons_succ]
          refine wpAnyH_take (i := 1) (v := ?_) (by simp only [List.getElem?_toArray, List.getElem?_cons_succ, List.getElem?_cons_zero]; exact rfl) (by kernel_rfl) (by kernel_rfl) (by kernel_rfl) (fun _ _ _ h => h) (Or.inl ⟨by rfl, ?_⟩) (by assumption) ?_
          rotate_left
          · intro w hSw
            try dsimp only at hSw
            go_simp
            try with_reducible rfl
          try simp only [Act.put, List.setIfInBounds_toArray, List.set_cons_zero, List.set_cons_succ]
          refine wpAnyH_take (i := 2) (v := ?_) (by simp only [List.getElem?_toArray, List.getElem?_cons_succ, List.getElem?_cons_zero]; exact rfl) (by kernel_rfl) (by kernel_rfl) (by kernel_rfl) (fun _ _ _ h => h) (Or.inl ⟨by rfl, ?_⟩) (by assumption) ?_
          rotate_left
          · intro w hSw
            try dsimp only at hSw
            go_simp
            try with_reducible rfl
          try simp only [Act.put, List.setIfInBounds_toArray, List.set_cons_zero, List.set_cons_succ]
          refine wpAnyH_take (i := 3) (v := ?_) (by simp only [List.getElem?_toArray, List.getElem?_cons_succ, List.getElem?_cons_zero]; exact rfl) (by kernel_rfl) (by kernel_rfl) (by kernel_rfl) (fun _ _ _ h => h) (Or.inl ⟨by rfl, ?_⟩) (by assumption) ?_
          rotate_left
          · intro w hSw
            try dsimp only at hSw
            go_simp
            try with_reducible rfl
          try simp only [Act.put, List.setIfInBounds_toArray, List.set_cons_zero, List.set_cons_succ]
          refine wpAnyH_take (i := 4) (v := ?_) (by simp only [List.getElem?_toArray, List.getElem?_cons_succ, List.getElem?_cons_zero]; exact rfl) (by kernel_rfl) (by kernel_rfl) (by kernel_rfl) (fun _ _ _ h => h) (Or.inl ⟨by rfl, ?_⟩) (by assumption) ?_
          rotate_left
          · intro w hSw
            try dsimp only at hSw
            go_simp
            try with_reducible rfl
          try simp only [Act.put, List.setIfInBounds_toArray, List.set_cons_zero, List.set_cons_succ]
          refine wpAnyH_take (i := 5) (v := ?_) (by simp only [List.getElem?_toArray, List.getElem?_cons_succ, List.getElem?_cons_zero]; exact rfl) (by kernel_rfl) (by kernel_rfl) (by kernel_rfl) (fun _ _ _ h => h) (Or.inl ⟨by rfl, ?_⟩) (by assumption) ?_
          rotate_left
          · intro w hSw
            try dsimp only at hSw
            go_simp
            try with_reducible rfl
          try simp only [Act.put, List.setIfInBounds_toArray, List.set_cons_zero, List.set_cons_succ]
          refine wpAnyH_take (i := 6) (v := ?_) (by simp only [List.getElem?_toArray, List.getElem?_cons_succ, List.getElem?_cons_zero]; exact rfl) (by kernel_rfl) (by kernel_rfl) (by kernel_rfl) (fun _ _ _ h => h) (Or.inl ⟨by rfl, ?_⟩) (by assumption) ?_
          rotate_left
          · intro w hSw
            try dsimp only at hSw
            go_simp
            try with_reducible rfl
          try simp only [Act.put, List.setIfInBounds_toArray, List.set_cons_zero, List.set_cons_succ]
          refine wpAnyH_take (i := 7) (v := ?_) (by simp only [List.getElem?_toArray, List.getElem?_cons_succ, List.getElem?_cons_zero]; exact rfl) (by kernel_rfl) (by kernel_rfl) (by kernel_rfl) (fun _ _ _ h => h) (Or.inl ⟨by rfl, ?_⟩) (by assumption) ?_
          rotate_left
          · intro w hSw
            try dsimp only at hSw
            go_simp
            try with_reducible rfl
          try simp only [Act.put, List.setIfInBounds_toArray, List.set_cons_zero, List.set_cons_succ]
          refine wpAnyH_take (i := 8) (v := ?_) (by simp only [List.getElem?_toArray, List.getElem?_cons_succ, List.getElem?_cons_zero]; exact rfl) (by kernel_rfl) (by kernel_rfl) (by kernel_rfl) (fun _ _ _ h => h) (Or.inl ⟨by rfl, ?_⟩) (by assumption) ?_
          rotate_left
          · intro w hSw
            try dsimp only at hSw
            go_simp
            try with_reducible rfl
          try simp only [Act.put, List.setIfInBounds_toArray, List.set_cons_zero, List.set_cons_succ]
          refine wpAnyH_take (i := 9) (v := ?_) (by simp only [List.getElem?_toArray, List.getElem?_cons_succ, List.getElem?_cons_zero]; exact rfl) (by kernel_rfl) (by kernel_rfl) (by kernel_rfl) (fun _ _ _ h => h) (Or.inl ⟨by rfl, ?_⟩) (by assumption) ?_
          rotate_left
          · intro w hSw
            try dsimp only at hSw
            go_simp
            try with_reducible rfl
          try simp only [Act.put, List.setIfInBounds_toArray, List.set_cons_zero, List.set_cons_succ]
          refine wpAnyH_take (i := 13) (v := ?_) (by simp only [List.getElem?_toArray, List.getElem?_cons_succ, List.getElem?_cons_zero]; exact rfl) (by kernel_rfl) (by kernel_rfl) (by kernel_rfl) (fun _ _ _ h => h) (Or.inl ⟨by rfl, ?_⟩) (by assumption) ?_
          rotate_left
          · intro w hSw
            try dsimp only at hSw
            go_simp
            try with_reducible rfl
          try simp only [Act.put, List.setIfInBounds_toArray, List.set_cons_zero, List.set_cons_succ]
          refine wpAnyH_take (i := 14) (v := ?_) (by simp only [List.getElem?_toArray, List.getElem?_cons_succ, List.getElem?_cons_zero]; exact rfl) (by kernel_rfl) (by kernel_rfl) (by kernel_rfl) (fun _ _ _ h => h) (Or.inl ⟨by rfl, ?_⟩) (by assumption) ?_
          rotate_left
          · intro w hSw
            try dsimp only at hSw
            go_simp
            try with_reducible rfl
          try simp only [Act.put, List.setIfInBounds_toArray, List.set_cons_zero, List.set_cons_succ]
          refine wpAnyH_take (i := 15) (v := ?_) (by simp only [List.getElem?_toArray, List.getElem?_cons_succ, List.getElem?_cons_zero]; exact rfl) (by kernel_rfl) (by kernel_rfl) (by kernel_rfl) (fun _ _ _ h => h) (Or.inl ⟨by rfl, ?_⟩) (by assumption) ?_
          rotate_left
          · intro w hSw
            try dsimp only at hSw
            go_simp
            try with_reducible rfl
          try simp only [Act.put, List.setIfInBounds_toArray, List.set_cons_zero, List.set_cons_succ]
          refine wpAnyH_take (i := 16) (v := ?_) (by simp only [List.getElem?_toArray, List.getElem?_cons_succ, List.getElem?_cons_zero]; exact rfl) (by kernel_rfl) (by kernel_rfl) (by kernel_rfl) (fun _ _ _ h => h) (Or.inl ⟨by rfl, ?_⟩) (by assumption) ?_
          rotate_left
          · intro w hSw
            try dsimp only at hSw
            go_simp
            try with_reducible rfl
          try simp only [Act.put, List.setIfInBounds_toArray, List.set_cons_zero, List.set_cons_succ]
          refine wpAnyH_take (i := 17) (v := ?_) (by simp only [List.getElem?_toArray, List.getElem?_cons_succ, List.getElem?_cons_zero]; exact rfl) (by kernel_rfl) (by kernel_rfl) (by kernel_rfl) (fun _ _ _ h => h) (Or.inl ⟨by rfl, ?_⟩) (by assumption) ?_
          rotate_left
          · intro w hSw
            try dsimp only at hSw
            go_simp
            try with_reducible rfl
          try simp only [Act.put, List.setIfInBounds_toArray, List.set_cons_zero, List.set_cons_succ]
          refine wpAnyH_take (i := 18) (v := ?_) (by simp only [List.getElem?_toArray, List.getElem?_cons_succ, List.getElem?_cons_zero]; exact rfl) (by kernel_rfl) (by kernel_rfl) (by kernel_rfl) (fun _ _ _ h => h) (Or.inl ⟨by rfl, ?_⟩) (by assumption) ?_
          rotate_left
          · intro w hSw
            try dsimp only at hSw
            go_simp
            try with_reducible rfl
          try simp only [Act.put, List.setIfInBounds_toArray, List.set_cons_zero, List.set_cons_succ]
          refine wpAnyH_ready (rs := [10]) (by kernel_rfl) (by simp) ?_
          refine (AllReadyH.cons (by simp only [List.getElem?_toArray, List.getElem?_cons_succ, List.getElem?_cons_zero]; exact rfl) (fun K hK => ?_) AllReadyH.nil)
          go_simp
          refine hK.out _ _ (KT.out _ (F9.out.step (((Below.refl _ _).alloc (Nat.le_refl _) _).drew))) (fun hHeld2 => ?_)
          clear hK K hHeld
          have hHeld := hHeld2
          clear hHeld2
          try simp only [Act.put, List.setIfInBounds_toArray, List.set_cons_zero, List.set_cons_succ]
          refine wpAnyH_take (i := 11) (v := ?_) (by simp only [List.getElem?_toArray, List.getElem?_cons_succ, List.getElem?_cons_zero]; exact rfl) (by kernel_rfl) (by kernel_rfl) (by kernel_rfl) (fun _ _ _ h => h) (Or.inl ⟨by rfl, ?_⟩) (by assumption) ?_
          rotate_left
          · intro w hSw
            try dsimp only at hSw
            go_simp
            try with_reducible rfl
          try simp only [Act.put, List.setIfInBounds_toArray, List.set_cons_zero, List.set_cons_succ]
          refine wpAnyH_ready (rs := [12]) (by kernel_rfl) (by simp) ?_
          refine (AllReadyH.cons (by simp only [List.getElem?_toArray, List.getElem?_cons_succ, List.getElem?_cons_zero]; exact rfl) (fun K hK => ?_) AllReadyH.nil)
          go_simp
          go_at_call 13; refine (within_m _ _ _ _ _ _ _ _ _ _ _ _ _ _ _ _ 1 1 [(m : Int)] bb _ (HC.out.below hHeld.1.1.1) HM.out HV.out HX.out JK.out JG.out ((row_one w9 (m : Int) 3).below (Below.refl _ _).drew) bm).mono ?_; rintro e wA ⟨rfl, hbA⟩
          refine hK.out _ _ (kq_step hbA hHeld FTP KT) (fun hHeld2 => ?_)
          clear hK K hHeld
          have hHeld := hHeld2
          clear hHeld2
          try simp only [Act.put, List.setIfInBounds_toArray, List.set_cons_zero, List.set_cons_succ]
          refine wpAnyH_take (i := 19) (v := ?_) (by simp only [List.getElem?_toArray, List.getElem?_cons_succ, List.getElem?_cons_zero]; exact rfl) (by kernel_rfl) (by kernel_rfl) (by kernel_rfl) (fun _ _ _ h => h) (Or.inl ⟨by rfl, ?_⟩) (by assumption) ?_
          rotate_left
          · intro w hSw
            try dsimp only at hSw
            go_simp
            try with_reducible rfl
          try simp only [Act.put, List.setIfInBounds_toArray, List.set_cons_zero, List.set_cons_succ]
          refine wpAnyH_done (by kernel_rfl) ?_ _
          refine NoPanic.normal ?_
          have FA := hid hHeld.1
          clear hHeld hbA
          obtain ⟨fy0, fy1, fy2⟩ := box3 FA.out.2.1
          have hzA := heap_lt FA.out.2.1
          go_wp2_with (at_builtin; refine append_one Try.underlying28 info_int (by decide) rfl (.tmp 110) (.tmp 112) rfl base m v (m : Int) (upto m) _ rfl rfl FA.out.2.2.1 rfl (by omega) FA.out.2.2.2.1 ?_; rintro v5 w5 ho5 ⟨g5, c5, rfl⟩ hb5; have HO5 := hid ho5; have HB5 := hid hb5; have hf5 := (hb5.block (PP + 1) FA.out.2.2.2.2.1).trans FA.out.2.1; obtain ⟨fz0, fz1, fz2⟩ := box3 hf5; have fr5 := frozen_of_row w5 (PP + 1) 2 _ _ hf5; have hz5 := heap_lt hf5; clear ho5 hb5 hf5)
          go_roundg (sz - (m + 1))
          case measure => have := HG.out; omega
          case rel => exact ⟨m + 1, _, by go_num, hid (by have := HG.out; omega), hid (FA.out.more HO5.out HB5.out)⟩
        · obtain rfl : m = sz := by omega
          have hmn : decide (m < m) = false := decide_eq_false (by omega)
          go_wp2
          go_region_held3 (fun x' => Below W8.heap.size W8 x' ∧ x'.cell? ⟨w.heap.size, 0, none⟩ = some (.slice (some ⟨b, off, none⟩) n c) ∧ x'.cell? ⟨b, off + k * 2, none⟩ = some (.slice sa sl sc) ∧ x'.cell? ⟨b, off + k * 2 + 1, none⟩ = some (.slice ua ul uc) ∧ x'.cell? ⟨PP + 1, 1, none⟩ = some (.int .i64 gq))
            (first | assumption | exact keep_drew KS | exact keep_step (by assumption) (by assumption) KS)
            (first
              | (go_at_call 25; refine (rsize_m _ _ _ _ _ _ S U _ (m : Int) _ (HD8.out.below (And.left (by assumption))) JG.out HSZ).mono ?_; rintro e w9 ⟨rfl, hb9⟩))
          have B9 : Below W8.heap.size W8 w9 := undrew hb9
          have F9 := F8.out.step B9
          clear hb9 B9 KS c0 c1 cp fx0 fx1 fx2 d1 d2
          obtain ⟨ra, rc, e5, hr5⟩ := own_irow F9.2.2.1
          subst e5
          have HR5 := hid hr5
          have F9 := hid F9
          clear hr5
          obtain ⟨⟨c0, c1⟩, ⟨k2, k3, k4, k5⟩, ⟨k6, k7, k8, k9⟩, cp⟩ := GL.out _ F9.out.1
          obtain ⟨fx0, fx1, fx2⟩ := box3 F9.out.2.1
          go_wp2_with (first
            | (go_at_call 13; refine (within_m _ _ _ _ _ _ _ _ _ _ _ _ _ _ _ ra _ rc (upto m) _ _ (HC.out.below F9.out.1.1) HM.out HV.out HX.out JK.out JG.out HR5.out HWA).mono ?_; rintro e wA ⟨rfl, hbA⟩)
            | (go_at_call 9; refine (wakes6 _).mono ?_; rintro e wB ⟨rfl, hbB⟩))
          go_ret
          exact ⟨rfl, bt (bt F9.out.1.1 hbA) hbB⟩

end Go.Proofs.Ytfgphphaopcolaa

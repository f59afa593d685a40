/-
  What a bag comes to, less what another one does: what bag.Net and bag.Sum return.
  Conditions: as each theorem states them.
-/
import Derived.Test.YtjkkajhjcinalaaG2
import Derived.Test.YtjkkajhjcinalaaG1
namespace Go.Proofs.Ytjkkajhjcinalaa
open Go.ChangeShapes Go.WideShapes Go.ChangeAt Go.RowKit
set_option linter.unusedVariables false
set_option linter.unusedSimpArgs false
set_option maxRecDepth 100000

/-- What all come to, or 0; does it fit? -/
def sv (l : List Rn) : Int := if gd l then calc.fitV (wsum l) else 0
def sb (l : List Rn) : Bool := gd l && calc.fitB (wsum l)
theorem sv_no {l : List Rn} (h : gd l = false) : sv l = 0 ∧ sb l = false := by unfold sv sb; rw [h]; exact ⟨rfl, rfl⟩
theorem sv_yes {l : List Rn} (h : gd l = true) : sv l = calc.fitV (wsum l) ∧ sb l = calc.fitB (wsum l) := by unfold sv sb; rw [h]; exact ⟨rfl, rfl⟩
/-- What one comes to less what another one does, or 0; does it fit? -/
def nv (l u : List Rn) : Int := if gd l && gd u then calc.fitV (wsum l - wsum u) else 0
def nb (l u : List Rn) : Bool := gd l && gd u && calc.fitB (wsum l - wsum u)
theorem nv_no {l u : List Rn} (h : gd l = false ∨ gd u = false) : nv l u = 0 ∧ nb l u = false := by
  have : (gd l && gd u) = false := by rcases h with h | h <;> rw [h] <;> simp
  unfold nv nb; rw [this]; exact ⟨rfl, rfl⟩
theorem nv_yes {l u : List Rn} (h : gd l = true) (h' : gd u = true) : nv l u = calc.fitV (wsum l - wsum u) ∧ nb l u = calc.fitB (wsum l - wsum u) := by
  unfold nv nb; rw [h, h']; exact ⟨rfl, rfl⟩
theorem gd_nil : gd [] = true := gd_yes bag_nil
theorem nv_nil (l : List Rn) : nv l [] = sv l ∧ nb l [] = sb l := by
  cases h : gd l with
  | false => rw [(nv_no (.inl h)).1, (nv_no (.inl h)).2, (sv_no h).1, (sv_no h).2]; exact ⟨rfl, rfl⟩
  | true =>
    rw [(nv_yes h gd_nil).1, (nv_yes h gd_nil).2, (sv_yes h).1, (sv_yes h).2]
    simp [wsum]
theorem hS_step {l : List Rn} {k : Nat} {x0 x1 : Int} (h : l[k]? = some (x0, x1)) : hS (l.take (k + 1)) = hS (l.take k) + x0 / 17592186044416 * x1 := by
  rw [take_one h, hS_app]; simp [hS]
theorem mS_step {l : List Rn} {k : Nat} {x0 x1 : Int} (h : l[k]? = some (x0, x1)) : mS (l.take (k + 1)) = mS (l.take k) + x0 / 4194304 % 4194304 * x1 := by
  rw [take_one h, mS_app]; simp [mS]
theorem lS_step {l : List Rn} {k : Nat} {x0 x1 : Int} (h : l[k]? = some (x0, x1)) : lS (l.take (k + 1)) = lS (l.take k) + x0 % 4194304 * x1 := by
  rw [take_one h, lS_app]; simp [lS]
/-- The way of Net: so many of the first one's runs, so many of the other's. -/
def SI (l u : List Rn) (k q : Nat) (h m lo : Int) : Prop := h = hS (l.take k) - hS (u.take q) ∧ m = mS (l.take k) - mS (u.take q) ∧ lo = lS (l.take k) - lS (u.take q)
theorem si_bd {l u : List Rn} {k q : Nat} {h m lo : Int} (hs : SI l u k q h m lo) (hb : Bag l) (hk : ∀ r ∈ l, nok r) (hb' : Bag u) (hk' : ∀ r ∈ u, nok r) : -1152921504606846976 ≤ h ∧ h ≤ 1152921504606846976 ∧ -4611686018427387904 ≤ m ∧ m ≤ 4611686018427387904 ∧ -4611686018427387904 ≤ lo ∧ lo ≤ 4611686018427387904 := by
  obtain ⟨e1, e2, e3⟩ := hs
  have h1 := bag_take hb k
  have h2 := bag_take hb' q
  have s1 := sum_bds (l := l.take k) (fun r hr => (hk r (List.mem_of_mem_take hr)).1) h1.2.1
  have s2 := sum_bds (l := u.take q) (fun r hr => (hk' r (List.mem_of_mem_take hr)).1) h2.2.1
  have t1 := h1.2.2
  have t2 := h2.2.2
  have t3 := tot_nn h1.2.1
  have t4 := tot_nn h2.2.1
  omega
theorem si_end {l u : List Rn} {k q : Nat} {h m lo : Int} (hs : SI l u k q h m lo) (hb : Bag l) (hk : ∀ r ∈ l, nok r) (hb' : Bag u) (hk' : ∀ r ∈ u, nok r) (hl : l.length ≤ k) (hu : u.length ≤ q) : h * 17592186044416 + m * 4194304 + lo = wsum l - wsum u := by
  obtain ⟨e1, e2, e3⟩ := hs
  rw [List.take_of_length_le hl, List.take_of_length_le hu] at e1 e2 e3
  have s1 := sum_bds (l := l) (fun r hr => (hk r hr).1) hb.2.1
  have s2 := sum_bds (l := u) (fun r hr => (hk' r hr).1) hb'.2.1
  rw [e1, e2, e3]; omega
theorem mul_negR {a n p : Int} (h : a * n = p) : a * -n = -p := by rw [Int.mul_neg, h]
theorem kp_set3 {w wr : World} {N : Nat} {t : TypeId} {a b c : Value} (x y z : Value) (h : Kp w wr N (.cells #[a, b, c] t)) : Kp w (((wr.setCell ⟨N, 0, none⟩ x).setCell ⟨N, 1, none⟩ y).setCell ⟨N, 2, none⟩ z) N (.cells #[x, y, z] t) := by
  refine ⟨((h.1.setCell h.2.1 _).setCell h.2.1 _).setCell h.2.1 _, h.2.1, ?_⟩
  have h0 := heap_setCell_same wr N 0 _ t x h.2.2
  have h1 := heap_setCell_same _ N 1 _ t y h0
  have h2 := heap_setCell_same _ N 2 _ t z h1
  exact h2
theorem froz3 {w : World} {D : Nat} {t : TypeId} {cs : Array Value} (hD : w.heap[D]? = some (.cells cs t)) : w.frozen? ⟨D, 0, none⟩ = false ∧ w.frozen? ⟨D, 1, none⟩ = false ∧ w.frozen? ⟨D, 2, none⟩ = false :=
  ⟨frozen_of_row w D 0 _ _ hD, frozen_of_row w D 1 _ _ hD, frozen_of_row w D 2 _ _ hD⟩


set_option maxHeartbeats 8000000 in
theorem bnet_any (a1 a2 : Option Addr) (n c m d : Nat) (l u : List Rn) (w : World) (hl : NRun w a1 n c l) (hk : ∀ r ∈ l, nok r) (hu : NRun w a2 m d u) (hk' : ∀ r ∈ u, nok r) :
    Calls Try.prog 109 #[.slice a1 n c, .slice a2 m d] w fun e w' => e = .returned (.tuple #[.int .i64 (nv l u), .bool (nb l u)]) ∧ Below w.heap.size w w' := by
  have HL := hid hl
  have HK := hid hk
  have HU := hid hu
  have HV := hid hk'
  have EL := hid hl.lens.1
  have EU := hid hu.lens.1
  have l2 := hl.lens.2
  have u2 := hu.lens.2
  have tkA : True := trivial
  clear hl hk hu hk'
  cases hg : gd l with
  | false =>
    rw [(nv_no (.inl hg)).1, (nv_no (.inl hg)).2]
    have HG := hid hg
    clear hg
    go_enter Try.func109, Try.ntmps109
    go_wp2_with (go_at_call 100; refine (good_m a1 n c l false _ HL.out HK.out HG).mono ?_; rintro e w1 ⟨rfl, hb1⟩)
    go_ret2
    exact ⟨rfl, hb1⟩
  | true =>
  have HG := hid hg
  cases hg' : gd u with
  | false =>
    rw [(nv_no (.inr hg')).1, (nv_no (.inr hg')).2]
    have HG' := hid hg'
    clear hg hg'
    go_enter Try.func109, Try.ntmps109
    go_wp2_with (first
      | (go_at_call 100; clear tkA; refine (good_m a1 n c l true _ HL.out HK.out HG).mono ?_; rintro e w1 ⟨rfl, hb1⟩; have B1 := hid hb1; clear hb1)
      | (go_at_call 100; refine (good_m a2 m d u false _ (HU.out.below B1.out) HV.out HG').mono ?_; rintro e w2 ⟨rfl, hb2⟩; have B2 := hid (bt B1.out hb2); clear hb2))
    go_ret2
    exact ⟨rfl, B2.out⟩
  | true =>
    have HB := hid (gd_iff.1 hg)
    have HB' := hid (gd_iff.1 hg')
    have HS := hid (nv_yes hg hg')
    have HG' := hid hg'
    clear hg hg'
    go_enter Try.func109, Try.ntmps109
    go_upto_region 3 with (first
      | (go_at_call 100; clear tkA; refine (good_m a1 n c l true _ HL.out HK.out HG).mono ?_; rintro e w1 ⟨rfl, hb1⟩; have B1 := hid hb1; clear hb1)
      | (go_at_call 100; refine (good_m a2 m d u true _ (HU.out.below B1.out) HV.out HG').mono ?_; rintro e w2 ⟨rfl, hb2⟩; have B2 := hid (bt B1.out hb2); clear hb2))
    have K0 : Hid (Kp w (w2.alloc (.cells #[.int .i64 0, .int .i64 0, .int .i64 0] 192)) w2.heap.size (.cells #[.int .i64 0, .int .i64 0, .int .i64 0] 192)) := hid ⟨B2.out.alloc B2.out.size _, B2.out.size, heap_alloc_new _ _⟩
    go_upto_region 4 with fail
    generalize w2.alloc (.cells #[.int .i64 0, .int .i64 0, .int .i64 0] 192) = W0 at K0 ⊢
    generalize w2.heap.size = N at K0 ⊢
    clear B1 B2
    go_wp2
    go_loopw [21] (fun i wr => ∃ (k : Nat) (h mi lo : Int), k ≤ n ∧ i = .int .i64 k ∧ Hid (SI l u k 0 h mi lo) ∧ Hid (Kp w wr N (.cells #[.int .i64 h, .int .i64 mi, .int .i64 lo] 192))) (fun i _ => n - (intOf i).toNat)
    case atStart => exact ⟨0, 0, 0, 0, by omega, rfl, hid ⟨rfl, rfl, rfl⟩, K0⟩
    case round =>
      obtain ⟨k, h, mi, lo, hkn, rfl, HI, KW⟩ := hrel
      have hk0 : (0 : Int) ≤ (k : Int) := by omega
      by_cases hlt : k < n
      · have hki : (k : Int) < (n : Int) := by omega
        obtain ⟨b, off, x0, x1, rfl, hb, hr, p0, p1⟩ := HL.out.pick KW.out.1 hlt
        have HR := hid hr
        have hbd := si_bd HI.out HB.out HK.out HB'.out HV.out
        have hnx : SI l u (k + 1) 0 (h + x0 / 17592186044416 * x1) (mi + x0 / 4194304 % 4194304 * x1) (lo + x0 % 4194304 * x1) := ⟨by rw [HI.out.1, hS_step hr]; omega, by rw [HI.out.2.1, mS_step hr]; omega, by rw [HI.out.2.2, lS_step hr]; omega⟩
        have hbd2 := si_bd hnx HB.out HK.out HB'.out HV.out
        have hx1 : 1 ≤ x1 := HB.out.2.1 _ (List.mem_of_getElem? hr)
        have hx0 := (HK.out _ (List.mem_of_getElem? hr)).1
        have hpd := part_bd hx0 (n := x1) (by omega)
        have hx1m : x1 ≤ 1099511627776 := by have := (bag_at HB.out hr).2.2; omega
        obtain ⟨A, hA⟩ : ∃ y, x0 / 17592186044416 = y := ⟨_, rfl⟩
        obtain ⟨B, hB⟩ : ∃ y, x0 / 4194304 % 4194304 = y := ⟨_, rfl⟩
        obtain ⟨C, hC⟩ : ∃ y, x0 % 4194304 = y := ⟨_, rfl⟩
        rw [hA, hB, hC] at hnx hbd2 hpd
        obtain ⟨P, hP⟩ : ∃ y, A * x1 = y := ⟨_, rfl⟩
        obtain ⟨Q, hQ⟩ : ∃ y, B * x1 = y := ⟨_, rfl⟩
        obtain ⟨R, hR⟩ : ∃ y, C * x1 = y := ⟨_, rfl⟩
        rw [hP, hQ, hR] at hnx hbd2 hpd
        have HN := hid hnx
        have HPl : Hid (∀ W, Calls Try.prog 123 #[.agg #[.int .i64 h, .int .i64 mi, .int .i64 lo], .int .i64 x0, .int .i64 x1] W fun e w' => e = .returned (.agg #[.int .i64 (h + P), .int .i64 (mi + Q), .int .i64 (lo + R)]) ∧ Below W.heap.size W w') := hid (fun W => pplus_raw h mi lo x0 x1 A B C P Q R W hA hB hC hP hQ hR (by omega) (by omega) (by omega) (by omega) (by omega) (by omega) (by omega) (by omega) (by omega) (by omega) (by omega) (by omega))
        clear hnx hbd hbd2 hpd hx0 hx1 hx1m hA hB hC hP hQ hR hr
        obtain ⟨d0, d1, d2⟩ := box_three KW.out.2.2
        have KX := hid (KW.out.step (b1alloc wr (.cells #[.int .i64 x0, .int .i64 x1] 65)))
        obtain ⟨c0, c1, c2⟩ := box_three KX.out.2.2
        go_wp2_with (go_at_call 123; refine (HPl.out _).mono ?_; rintro e w5 ⟨rfl, hb5⟩; have K5 := hid (KX.out.step hb5); obtain ⟨e0, e1, e2⟩ := box_three K5.out.2.2; obtain ⟨f0, f1, f2⟩ := froz3 K5.out.2.2; clear hb5)
        go_roundw
        case rel => exact ⟨k + 1, h + P, mi + Q, lo + R, by omega, by go_num, HN, hid (kp_set3 _ _ _ K5.out)⟩
        case measure => simp [intOf]; omega
      · obtain rfl : k = n := by omega
        have hkf : decide ((k : Int) < (k : Int)) = false := decide_eq_false (by omega)
        have K1 : Hid (SI l u k 0 h mi lo) := HI
        clear HI hlt hkn
        go_wp2
        go_loopw [34] (fun i wr => ∃ (q : Nat) (h mi lo : Int), q ≤ m ∧ i = .int .i64 q ∧ Hid (SI l u k q h mi lo) ∧ Hid (Kp w wr N (.cells #[.int .i64 h, .int .i64 mi, .int .i64 lo] 192))) (fun i _ => m - (intOf i).toNat)
        case atStart => exact ⟨0, h, mi, lo, by omega, rfl, K1, KW⟩
        case round =>
          clear K1 KW
          obtain ⟨q, h, mi, lo, hqn, rfl, HI, KW⟩ := hrel
          have hq0 : (0 : Int) ≤ (q : Int) := by omega
          by_cases hlt : q < m
          · have hqi : (q : Int) < (m : Int) := by omega
            obtain ⟨b, off, x0, x1, rfl, hb, hr, p0, p1⟩ := HU.out.pick KW.out.1 hlt
            have hbd := si_bd HI.out HB.out HK.out HB'.out HV.out
            have hnx : SI l u k (q + 1) (h + -(x0 / 17592186044416 * x1)) (mi + -(x0 / 4194304 % 4194304 * x1)) (lo + -(x0 % 4194304 * x1)) := ⟨by rw [HI.out.1, hS_step hr]; omega, by rw [HI.out.2.1, mS_step hr]; omega, by rw [HI.out.2.2, lS_step hr]; omega⟩
            have hbd2 := si_bd hnx HB.out HK.out HB'.out HV.out
            have hx1 : 1 ≤ x1 := HB'.out.2.1 _ (List.mem_of_getElem? hr)
            have hx0 := (HV.out _ (List.mem_of_getElem? hr)).1
            have hx1i := (HV.out _ (List.mem_of_getElem? hr)).2
            have hpd := part_bd hx0 (n := x1) (by omega)
            have hx1m : x1 ≤ 1099511627776 := by have := (bag_at HB'.out hr).2.2; omega
            obtain ⟨A, hA⟩ : ∃ y, x0 / 17592186044416 = y := ⟨_, rfl⟩
            obtain ⟨B, hB⟩ : ∃ y, x0 / 4194304 % 4194304 = y := ⟨_, rfl⟩
            obtain ⟨C, hC⟩ : ∃ y, x0 % 4194304 = y := ⟨_, rfl⟩
            rw [hA, hB, hC] at hnx hbd2 hpd
            obtain ⟨P, hP⟩ : ∃ y, A * x1 = y := ⟨_, rfl⟩
            obtain ⟨Q, hQ⟩ : ∃ y, B * x1 = y := ⟨_, rfl⟩
            obtain ⟨R, hR⟩ : ∃ y, C * x1 = y := ⟨_, rfl⟩
            rw [hP, hQ, hR] at hnx hbd2 hpd
            have HN := hid hnx
            have wng : IntKind.i64.wrap (-x1) = -x1 := IntWalk.i64_in _ (by omega)
            have HPl : Hid (∀ W, Calls Try.prog 123 #[.agg #[.int .i64 h, .int .i64 mi, .int .i64 lo], .int .i64 x0, .int .i64 (-x1)] W fun e w' => e = .returned (.agg #[.int .i64 (h + -P), .int .i64 (mi + -Q), .int .i64 (lo + -R)]) ∧ Below W.heap.size W w') := hid (fun W => pplus_raw h mi lo x0 (-x1) A B C (-P) (-Q) (-R) W hA hB hC (mul_negR hP) (mul_negR hQ) (mul_negR hR) (by omega) (by omega) (by omega) (by omega) (by omega) (by omega) (by omega) (by omega) (by omega) (by omega) (by omega) (by omega))
            clear hnx hbd hbd2 hpd hx0 hx1 hx1i hx1m hA hB hC hP hQ hR hr
            obtain ⟨d0, d1, d2⟩ := box_three KW.out.2.2
            have KX := hid (KW.out.step (b1alloc wr (.cells #[.int .i64 x0, .int .i64 x1] 65)))
            obtain ⟨c0, c1, c2⟩ := box_three KX.out.2.2
            go_wp2_with (go_at_call 123; refine (HPl.out _).mono ?_; rintro e w5 ⟨rfl, hb5⟩; have K5 := hid (KX.out.step hb5); obtain ⟨e0, e1, e2⟩ := box_three K5.out.2.2; obtain ⟨f0, f1, f2⟩ := froz3 K5.out.2.2; clear hb5)
            go_roundw
            case rel => exact ⟨q + 1, h + -P, mi + -Q, lo + -R, by omega, by go_num, HN, hid (kp_set3 _ _ _ K5.out)⟩
            case measure => simp [intOf]; omega
          · have hqf : decide ((q : Int) < (m : Int)) = false := decide_eq_false (by omega)
            obtain ⟨b1, b2, b3, b4, b5, b6⟩ := si_bd HI.out HB.out HK.out HB'.out HV.out
            have HE := hid (si_end HI.out HB.out HK.out HB'.out HV.out (by have := EL.out; omega) (by have := EU.out; omega))
            obtain ⟨c0, c1, c2⟩ := box_three KW.out.2.2
            go_wp2_with (go_at_call 124; refine (narrow_m h mi lo _ (by omega) (by omega) b3 b4 b5 b6).mono ?_; rintro e w5 ⟨rfl, hb5⟩; have B5 := hid (bt KW.out.1 hb5); clear hb5)
            go_ret2
            exact ⟨by rw [HS.out.1, HS.out.2, ← HE.out]; rfl, B5.out⟩
set_option maxHeartbeats 1000000 in
theorem bsum_any (a : Option Addr) (n c : Nat) (l : List Rn) (w : World) (hl : NRun w a n c l) (hk : ∀ r ∈ l, nok r) :
    Calls Try.prog 97 #[.slice a n c] w fun e w' => e = .returned (.tuple #[.int .i64 (sv l), .bool (sb l)]) ∧ Below w.heap.size w w' := by
  have HL := hid hl
  have HK := hid hk
  have HE := hid (nv_nil l)
  clear hl hk
  go_enter Try.func97, Try.ntmps97
  go_wp2_with (go_at_call 109; refine (bnet_any a none n c 0 0 l [] _ HL.out HK.out (nrun_nil _) (fun r hr => by cases hr)).mono ?_; rw [HE.out.1, HE.out.2]; rintro e w1 ⟨rfl, hb1⟩)
  go_ret2
  exact ⟨rfl, hb1⟩

end Go.Proofs.Ytjkkajhjcinalaa

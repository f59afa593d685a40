/-
  Of any runs, and of bags of values: the walk of the law BagTells.
  Conditions: as each theorem states them.
-/
import Derived.Test.YtgmnnpecihcdhabCB8
namespace Go.Proofs.Ytgmnnpecihcdhab
open Go.ChangeShapes Go.WideShapes Go.ChangeAt Go.RowKit
set_option linter.unusedVariables false
set_option linter.unusedSimpArgs false
set_option maxRecDepth 100000

theorem box_four {w : World} {D : Nat} {t : TypeId} {a b c d : Value} (hD : w.heap[D]? = some (.cells #[a, b, c, d] t)) : w.cell? ⟨D, 0, none⟩ = some a ∧ w.cell? ⟨D, 1, none⟩ = some b ∧ w.cell? ⟨D, 2, none⟩ = some c ∧ w.cell? ⟨D, 3, none⟩ = some d := by
  refine ⟨?_, ?_, ?_, ?_⟩ <;> simp [World.cell?, hD]
/-- Four slices of runs, in a block. -/
def Four (W : World) (g : Nat) : Prop := g < W.heap.size ∧ ∀ i, i < 4 → ∃ A p c L, W.cell? ⟨g, i, none⟩ = some (.slice A p c) ∧ NRun W A p c L ∧ (∀ r ∈ L, nok r) ∧ p ≤ 1000
theorem Four.below {W w' : World} {g : Nat} (h : Four W g) (hb : Below W.heap.size W w') : Four w' g := by
  refine ⟨Nat.lt_of_lt_of_le h.1 hb.size, fun i hi => ?_⟩
  obtain ⟨A, p, c, L, h1, h2, h3, h4⟩ := h.2 i hi
  exact ⟨A, p, c, L, ((bcell hb).1 g i h.1).trans h1, h2.below hb, h3, h4⟩
theorem four_new {W : World} {g : Nat} {t : TypeId} {a0 a1 a2 a3 : Option Addr} {p0 p1 p2 p3 c0 c1 c2 c3 : Nat} {l0 l1 l2 l3 : List Rn} (h : W.heap[g]? = some (.cells #[.slice a0 p0 c0, .slice a1 p1 c1, .slice a2 p2 c2, .slice a3 p3 c3] t))
    (n0 : NRun W a0 p0 c0 l0 ∧ (∀ r ∈ l0, nok r) ∧ p0 ≤ 1000) (n1 : NRun W a1 p1 c1 l1 ∧ (∀ r ∈ l1, nok r) ∧ p1 ≤ 1000) (n2 : NRun W a2 p2 c2 l2 ∧ (∀ r ∈ l2, nok r) ∧ p2 ≤ 1000) (n3 : NRun W a3 p3 c3 l3 ∧ (∀ r ∈ l3, nok r) ∧ p3 ≤ 1000) : Four W g := by
  refine ⟨heap_lt h, fun i hi => ?_⟩
  have : i = 0 ∨ i = 1 ∨ i = 2 ∨ i = 3 := by omega
  rcases this with rfl | rfl | rfl | rfl
  · exact ⟨a0, p0, c0, l0, by simp [World.cell?, h], n0⟩
  · exact ⟨a1, p1, c1, l1, by simp [World.cell?, h], n1⟩
  · exact ⟨a2, p2, c2, l2, by simp [World.cell?, h], n2⟩
  · exact ⟨a3, p3, c3, l3, by simp [World.cell?, h], n3⟩

set_option maxHeartbeats 32000000 in
theorem tells_walk (a b s : Option Addr) (n c m d z e : Nat) (l u : List Rn) (x : List Int) (w : World) (hl : NRun w a n c l) (hu : NRun w b m d u) (hx : IRow .i64 w s z e x) (hkl : ∀ r ∈ l, nok r) (hku : ∀ r ∈ u, nok r) (hkx : ∀ v ∈ x, I64 v) :
    Calls Try.prog 3 #[.slice a n c, .slice b m d, .slice s z e] w fun e w' => e = .returned (.bool true) ∧ Below w.heap.size w w' := by
  have HL := hid hl
  have HU := hid hu
  have HX := hid hx
  have KL := hid hkl
  have KU := hid hku
  have KX := hid hkx
  obtain ⟨l1, l2⟩ := hl.lens
  obtain ⟨u1, u2⟩ := hu.lens
  obtain ⟨x1, x2⟩ := hx.len
  have EX := hid x1
  clear hl hu hx hkl hku hkx l1 u1 x1
  by_cases hbig : 60 < n ∨ 60 < m ∨ 60 < z
  · by_cases h1 : 60 < n
    · have hd1 : decide ((60 : Int) < (n : Int)) = true := decide_eq_true (by omega)
      have hi1 : (60 : Int) < (n : Int) := by omega
      clear hbig
      go_enter Try.func3, Try.ntmps3
      go_wp2_with (go_at_call 8; refine (wakes_any _).mono ?_; rintro e wa ⟨rfl, hba⟩)
      go_ret
      exact ⟨rfl, hba⟩
    · have hd1 : decide ((60 : Int) < (n : Int)) = false := decide_eq_false (by omega)
      by_cases h2 : 60 < m
      · have hd2 : decide ((60 : Int) < (m : Int)) = true := decide_eq_true (by omega)
        have hi2 : (60 : Int) < (m : Int) := by omega
        clear hbig
        go_enter Try.func3, Try.ntmps3
        go_wp2_with (go_at_call 8; refine (wakes_any _).mono ?_; rintro e wa ⟨rfl, hba⟩)
        go_ret
        exact ⟨rfl, hba⟩
      · have hd2 : decide ((60 : Int) < (m : Int)) = false := decide_eq_false (by omega)
        have h3 : 60 < z := by omega
        have hd3 : decide ((60 : Int) < (z : Int)) = true := decide_eq_true (by omega)
        have hi3 : (60 : Int) < (z : Int) := by omega
        clear hbig
        go_enter Try.func3, Try.ntmps3
        go_wp2_with (go_at_call 8; refine (wakes_any _).mono ?_; rintro e wa ⟨rfl, hba⟩)
        go_ret
        exact ⟨rfl, hba⟩
  · have hd1 : decide ((60 : Int) < (n : Int)) = false := decide_eq_false (by omega)
    have hd2 : decide ((60 : Int) < (m : Int)) = false := decide_eq_false (by omega)
    have hd3 : decide ((60 : Int) < (z : Int)) = false := decide_eq_false (by omega)
    have n1 : n ≤ 1000 := by omega
    have m1 : m ≤ 1000 := by omega
    have z1 : z ≤ 1000 := by omega
    obtain ⟨k, hk⟩ : ∃ k, z / 2 = k := ⟨_, rfl⟩
    have hkz : k ≤ z := by omega
    have hkz' : (k : Int) ≤ (z : Int) := by omega
    have hk0 : (0 : Int) ≤ (k : Int) := by omega
    have hki : ((z : Int) / 2) = (k : Int) := by omega
    have hkt : ((z : Int).tdiv 2) = (k : Int) := by rw [Int.tdiv_eq_ediv_of_nonneg (by omega)]; exact hki
    have k1 : k ≤ 1000 := by omega
    obtain ⟨X2, hX2⟩ : ∃ X, bagOf x = X := ⟨_, rfl⟩
    obtain ⟨X3, hX3⟩ : ∃ X, bagOf (x.take k) = X := ⟨_, rfl⟩
    obtain ⟨p2, hp2⟩ : ∃ p, X2.length = p := ⟨_, rfl⟩
    obtain ⟨p3, hp3⟩ : ∃ p, X3.length = p := ⟨_, rfl⟩
    have p2b : p2 ≤ 1000 := by rw [← hp2, ← hX2]; have := bagOf_len x; have := EX.out; omega
    have p3b : p3 ≤ 1000 := by rw [← hp3, ← hX3]; have := bagOf_len (x.take k); rw [List.length_take] at this; omega
    have K2 : Hid (∀ r ∈ X2, nok r) := hid (by rw [← hX2]; exact bagOf_ok KX.out (by have := EX.out; omega))
    have K3 : Hid (∀ r ∈ X3, nok r) := hid (by rw [← hX3]; exact bagOf_ok (fun v hv => KX.out v (List.mem_of_mem_take hv)) (by rw [List.length_take]; omega))
    have FX2 := hid hX2
    have FX3 := hid hX3
    have FP2 := hid hp2
    have FP3 := hid hp3
    obtain ⟨hsH, hrH⟩ := firstI HX.out k hkz
    have RH := hid hrH
    clear hbig hk hX2 hX3 hp2 hp3 hrH
    have t1 : True := trivial
    have KS : Hid (∀ y, Below w.heap.size w y → Below w.heap.size w y ∧ True) := hid (fun y h => ⟨h, trivial⟩)
    go_enter Try.func3, Try.ntmps3
    go_upto_region 4 with fail
    go_region_held3 (fun y => Below w.heap.size w y ∧ True)
      (first | assumption | exact keep_drew KS | exact keep_step (by assumption) (by assumption) KS | exact KS.out _ (Hid.out (by assumption)) | exact kr_alloc (by assumption) KS)
      (first
        | (go_at_call 9; clear t1; refine (rof_m s z e p2 x X2 _ (HX.out.below (And.left (by assumption))) z1 FX2 FP2).mono ?_; rintro e w3 ⟨⟨A2, c2, rfl, hn2⟩, hb3⟩)
        | (go_at_call 9; refine (rof_m s k e p3 (x.take k) X3 _ (RH.out.below (And.left (by assumption))) k1 FX3 FP3).mono ?_; rintro e w4 ⟨⟨A3, c3, rfl, hn3⟩, hb4⟩))
    have H3 : Hid (Below w.heap.size w w3) := hid (undrew hb3)
    have H4 : Hid (Below w.heap.size w w4) := hid (bt H3.out hb4)
    have hG := hnew (w := w4) (o := (.cells #[.slice a n c, .slice b m d, .slice A2 p2 c2, .slice A3 p3 c3] 22)) rfl
    have HF : Hid (Four (w4.alloc (.cells #[.slice a n c, .slice b m d, .slice A2 p2 c2, .slice A3 p3 c3] 22)) w4.heap.size) := hid (four_new hG ⟨HL.out.below (bt H4.out (b1alloc _ _)), KL.out, n1⟩ ⟨HU.out.below (bt H4.out (b1alloc _ _)), KU.out, m1⟩ ⟨(hn2.below hb4).below (b1alloc _ _), K2.out, p2b⟩ ⟨hn3.below (b1alloc _ _), K3.out, p3b⟩)
    have HG2 : Hid ((w4.alloc (.cells #[.slice a n c, .slice b m d, .slice A2 p2 c2, .slice A3 p3 c3] 22)).cell? ⟨w4.heap.size, 2, none⟩ = some (.slice A2 p2 c2) ∧ NRun (w4.alloc (.cells #[.slice a n c, .slice b m d, .slice A2 p2 c2, .slice A3 p3 c3] 22)) A2 p2 c2 X2) := hid ⟨(box_four hG).2.2.1, (hn2.below hb4).below (b1alloc _ _)⟩
    have B0 : Hid (Below w.heap.size w (w4.alloc (.cells #[.slice a n c, .slice b m d, .slice A2 p2 c2, .slice A3 p3 c3] 22))) := hid (bt H4.out (b1alloc _ _))
    have hgl : Hid (w4.heap.size < (w4.alloc (.cells #[.slice a n c, .slice b m d, .slice A2 p2 c2, .slice A3 p3 c3] 22)).heap.size) := hid HF.out.1
    clear hb3 hb4 hn2 hn3 H3 H4 hG KS RH hsH hki hkt hkz' hk0 hd1 hd2 hd3
    generalize w4.heap.size = g at HF HG2 hgl ⊢
    generalize w4.alloc (.cells #[.slice a n c, .slice b m d, .slice A2 p2 c2, .slice A3 p3 c3] 22) = W at HF HG2 B0 hgl ⊢
    go_wp2
    go_loopw [48] (fun i wr => ∃ (q : Nat), q ≤ 4 ∧ i = .int .i64 q ∧ Hid (Below W.heap.size W wr)) (fun i _ => 4 - (intOf i).toNat)
    case atStart => exact ⟨0, by omega, rfl, hid (Below.refl _ _)⟩
    case round =>
      obtain ⟨q, hq4, rfl, BW⟩ := hrel
      have hq0 : (0 : Int) ≤ (q : Int) := by omega
      by_cases hlt : q < 4
      · have hqi : (q : Int) < 4 := by omega
        have hqd : decide ((q : Int) < 4) = true := decide_eq_true hqi
        obtain ⟨A, p, f, L, hcell0, hN, hOK, hp⟩ := HF.out.2 q hlt
        have hcell := ((bcell BW.out).1 g q hgl.out).trans hcell0
        have NW := hid hN
        have N0 := hid (hN.below BW.out)
        have OK := hid hOK
        obtain ⟨G0, eG⟩ : ∃ y, gd L = y := ⟨_, rfl⟩
        obtain ⟨T0, eT⟩ : ∃ y, tl L = y := ⟨_, rfl⟩
        have EG := hid eG
        have ET := hid eT
        have hgg : (G0 == G0) = true := by simp
        have htt : (T0 == T0) = true := by simp
        clear hN hOK eG eT
        go_upto_region 10 with (first
          | (go_at_call 10; refine (good_m A p f L G0 _ N0.out OK.out EG).mono ?_; rintro e w5 ⟨rfl, hb5⟩; have N5 := hid (N0.out.below hb5); have B5 := hid (bt BW.out hb5); clear hb5)
          | (go_at_call 11; refine (rgood_m A p f L G0 _ N5.out OK.out EG).mono ?_; rintro e w6 ⟨rfl, hb6⟩; have N6 := hid (N5.out.below hb6); have B6 := hid (bt B5.out hb6); clear hb6)
          | (go_at_call 12; refine (count_m A p f L T0 _ N6.out OK.out ET).mono ?_; rintro e w7 ⟨rfl, hb7⟩; have N7 := hid (N6.out.below hb7); have B7 := hid (bt B6.out hb7); clear hb7)
          | (go_at_call 13; refine (rcount_m A p f L T0 _ N7.out OK.out ET).mono ?_; rintro e w8 ⟨rfl, hb8⟩; have N8 := hid (N7.out.below hb8); have B8 := hid (bt B7.out hb8); clear hb8)
          | (go_at_call 14; refine (lsum_m A p f L _ N8.out OK.out).mono ?_; rintro e w9 ⟨rfl, hb9⟩; have N9 := hid (N8.out.below hb9); have B9 := hid (bt B8.out hb9); clear hb9)
          | (go_at_call 15; refine (lends_m A p f L _ N9.out OK.out).mono ?_; rintro e w10 ⟨rfl, hb10⟩; have N10 := hid (N9.out.below hb10); have B10 := hid (bt B9.out hb10); clear hb10))
        clear N0 N5 N6 N7 N8 N9 B5 B6 B7 B8 B9 EG ET hgg htt hcell hcell0
        go_wp2
        go_loopw [11] (fun i wj => ∃ (t : Nat), t ≤ z ∧ i = .int .i64 t ∧ Hid (Below w10.heap.size w10 wj)) (fun i _ => z - (intOf i).toNat)
        case atStart => exact ⟨0, by omega, rfl, hid (Below.refl _ _)⟩
        case round =>
          obtain ⟨t, htz, rfl, BJ⟩ := hrel
          have ht0 : (0 : Int) ≤ (t : Int) := by omega
          by_cases htl : t < z ∧ t < 3
          · obtain ⟨htl1, htl2⟩ := htl
            have hti : (t : Int) < (z : Int) := by omega
            have ht3 : (t : Int) < 3 := by omega
            have ht3d : decide ((t : Int) < 3) = true := decide_eq_true ht3
            obtain ⟨bx, ox, v, rfl, hbx, hrx, q0⟩ := HX.out.pick (bt B0.out (bt B10.out BJ.out)) htl1
            obtain ⟨C, eC⟩ : ∃ y, hs v L = y := ⟨_, rfl⟩
            have EC := hid eC
            have hcc : (C == C) = true := by simp
            have hbxw : bx < wr.heap.size := Nat.lt_of_lt_of_le hbx (bt B0.out (bt B10.out BJ.out)).size
            have KS : Hid (∀ y, Below wr.heap.size wr y → Below wr.heap.size wr y ∧ y.cell? ⟨bx, ox + t, none⟩ = some (.int .i64 v)) := hid (fun y h => ⟨h, ((bcell h).1 _ _ hbxw).trans q0⟩)
            have NJ := hid (N10.out.below BJ.out)
            clear hrx eC q0
            go_wp2
            go_region_held3 (fun y => Below wr.heap.size wr y ∧ y.cell? ⟨bx, ox + t, none⟩ = some (.int .i64 v))
              (first | assumption | exact keep_drew KS | exact keep_step (by assumption) (by assumption) KS)
              (first
                | (go_at_call 16; refine (has_m A p f L v C _ (NJ.out.below (And.left (by assumption))) OK.out hp EC).mono ?_; rintro e w11 ⟨rfl, hb11⟩)
                | (go_at_call 17; refine (rhas_m A p f L v C _ (NJ.out.below (And.left (by assumption))) OK.out EC).mono ?_; rintro e w12 ⟨rfl, hb12⟩))
            have B12 : Hid (Below wr.heap.size wr w12) := hid (bt (undrew hb11) hb12)
            clear hb11 hb12 KS
            go_wp2
            exact ⟨⟨t + 1, by omega, by go_num, hid (bt BJ.out B12.out)⟩, by simp [intOf]; omega⟩
          · have hend : (¬ t < z ∧ decide ((t : Int) < (z : Int)) = false ∧ decide (t < z) = false) ∨ ((t < z ∧ (t : Int) < (z : Int) ∧ decide ((t : Int) < (z : Int)) = true ∧ decide (t < z) = true) ∧ ¬ t < 3 ∧ decide ((t : Int) < 3) = false ∧ decide (t < 3) = false) := by
              by_cases h : t < z
              · exact .inr ⟨⟨h, by omega, decide_eq_true (by omega), decide_eq_true h⟩, by omega, decide_eq_false (by omega), decide_eq_false (by omega)⟩
              · exact .inl ⟨h, decide_eq_false (by omega), decide_eq_false h⟩
            have B13 := hid (bt B10.out BJ.out)
            clear N10 BJ B10
            rcases hend with ⟨hA1, hA2, hA3⟩ | ⟨⟨hA1, hA2, hA3, hA4⟩, hB1, hB2, hB3⟩
            all_goals
              go_wp2
              go_loopw [99] (fun i wj => ∃ (r : Nat), r ≤ 4 ∧ i = .int .i64 r ∧ Hid (Below W.heap.size W wj)) (fun i _ => 4 - (intOf i).toNat)
              case atStart => exact ⟨0, by omega, rfl, B13⟩
              case round =>
                obtain ⟨r, hr4, rfl, BY⟩ := hrel
                have hr0 : (0 : Int) ≤ (r : Int) := by omega
                by_cases hrl : r < 4
                · have hri : (r : Int) < 4 := by omega
                  have hrd : decide ((r : Int) < 4) = true := decide_eq_true hri
                  obtain ⟨A', p', f', L', hcell0', hN', hOK', hp'⟩ := HF.out.2 r hrl
                  have hcell' := ((bcell BY.out).1 g r hgl.out).trans hcell0'
                  have NX := hid (NW.out.below BY.out)
                  have NY := hid (hN'.below BY.out)
                  have OK' := hid hOK'
                  obtain ⟨M1, eM1⟩ : ∃ y, Jl L L' = y := ⟨_, rfl⟩
                  obtain ⟨v1, ev1⟩ : ∃ y, Jn L L' = y := ⟨_, rfl⟩
                  obtain ⟨k1, ek1⟩ : ∃ y, M1.length = y := ⟨_, rfl⟩
                  obtain ⟨M2, eM2⟩ : ∃ y, Ml L L' = y := ⟨_, rfl⟩
                  obtain ⟨v2, ev2⟩ : ∃ y, Mn L L' = y := ⟨_, rfl⟩
                  obtain ⟨k2, ek2⟩ : ∃ y, M2.length = y := ⟨_, rfl⟩
                  obtain ⟨V, eV⟩ : ∃ y, sm L L' = y := ⟨_, rfl⟩
                  have E1 := hid eM1
                  have E2 := hid ev1
                  have E3 := hid ek1
                  have E4 := hid eM2
                  have E5 := hid ev2
                  have E6 := hid ek2
                  have E7 := hid eV
                  have hv1 : (v1 == v1) = true := by simp
                  have hv2 : (v2 == v2) = true := by simp
                  have hV : (V == V) = true := by simp
                  clear hN' hOK' hcell0' eM1 ev1 ek1 eM2 ev2 ek2 eV
                  have t1 : True := trivial
                  have t2 : True := trivial
                  go_upto_region 21 with (first
                    | (go_at_call 18; refine (join_m A A' p f p' f' k1 L L' M1 v1 _ NX.out NY.out OK.out OK'.out hp hp' E1 E2 E3).mono ?_; rintro e w14 ⟨⟨A4, c4, rfl, hn4⟩, hb4⟩; have J14 := hid hn4; have NX1 := hid (NX.out.below hb4); have NY1 := hid (NY.out.below hb4); have B14 := hid (bt BY.out hb4); clear hn4 hb4)
                    | (go_at_call 19; refine (minus_m A A' p f p' f' k2 L L' M2 v2 _ NX1.out NY1.out OK.out OK'.out hp hp' E4 E5 E6).mono ?_; rintro e w15 ⟨⟨A5, c5, rfl, hn5⟩, hb5⟩; have M15 := hid hn5; have J15 := hid (J14.out.below hb5); have NX2 := hid (NX1.out.below hb5); have NY2 := hid (NY1.out.below hb5); have B15 := hid (bt B14.out hb5); clear hn5 hb5)
                    | (go_at_call 20; refine (rjoin_m A A' p f p' f' k1 L L' M1 v1 _ NX2.out NY2.out OK.out OK'.out hp hp' E1 E2 E3).mono ?_; rintro e w16 ⟨⟨A6, c6, rfl, hn6⟩, hb6⟩; have R16 := hid hn6; have M16 := hid (M15.out.below hb6); have J16 := hid (J15.out.below hb6); have NX3 := hid (NX2.out.below hb6); have NY3 := hid (NY2.out.below hb6); have B16 := hid (bt B15.out hb6); clear hn6 hb6)
                    | (go_at_call 21; refine (rminus_m A A' p f p' f' k2 L L' M2 v2 _ NX3.out NY3.out OK.out OK'.out hp hp' E4 E5 E6).mono ?_; rintro e w17 ⟨⟨A7, c7, rfl, hn7⟩, hb7⟩; have S17 := hid hn7; have R17 := hid (R16.out.below hb7); have M17 := hid (M16.out.below hb7); have J17 := hid (J16.out.below hb7); have NX4 := hid (NX3.out.below hb7); have NY4 := hid (NY3.out.below hb7); have B17 := hid (bt B16.out hb7); clear hn7 hb7))
                  have D1 : Hid (((w17.alloc (.cells #[.slice A6 k1 c6, .bool v1] 33)).alloc (.cells #[.slice A7 k2 c7, .bool v2] 33)).heap[w17.heap.size]? = some (.cells #[.slice A6 k1 c6, .bool v1] 33)) := hid (keep_blk (hnew rfl) (b1alloc _ _))
                  have D2 : Hid (((w17.alloc (.cells #[.slice A6 k1 c6, .bool v1] 33)).alloc (.cells #[.slice A7 k2 c7, .bool v2] 33)).heap[w17.heap.size + 1]? = some (.cells #[.slice A7 k2 c7, .bool v2] 33)) := hid (hnew (by simp))
                  have b18 : Below w17.heap.size w17 ((w17.alloc (.cells #[.slice A6 k1 c6, .bool v1] 33)).alloc (.cells #[.slice A7 k2 c7, .bool v2] 33)) := bt (b1alloc _ _) (b1alloc _ _)
                  have J18 := hid (J17.out.below b18)
                  have M18 := hid (M17.out.below b18)
                  have R18 := hid (R17.out.below b18)
                  have S18 := hid (S17.out.below b18)
                  have X18 := hid (NX4.out.below b18)
                  have Y18 := hid (NY4.out.below b18)
                  have B18 := hid (bt B17.out b18)
                  clear b18 J14 J15 J16 J17 M15 M16 M17 R16 R17 S17 NX NX1 NX2 NX3 NX4 NY NY1 NY2 NY3 NY4 B14 B15 B16 B17 E1 E2 E3 E4 E5 E6
                  generalize w17.heap.size = N18 at D1 D2 ⊢
                  generalize ((w17.alloc (.cells #[.slice A6 k1 c6, .bool v1] 33)).alloc (.cells #[.slice A7 k2 c7, .bool v2] 33)) = W18 at D1 D2 J18 M18 R18 S18 X18 Y18 B18 ⊢
                  obtain ⟨x0, x1⟩ := box_two D1.out
                  obtain ⟨y0, y1⟩ := box_two D2.out
                  go_wp2_with (first
                    | (go_at_call 22; clear t1; refine (rsame_m A4 A6 k1 c4 k1 c6 M1 M1 true _ J18.out R18.out (hid (sm_yes rfl))).mono ?_; rintro e w19 ⟨rfl, hb9⟩; have M19 := hid (M18.out.below hb9); have S19 := hid (S18.out.below hb9); have X19 := hid (X18.out.below hb9); have Y19 := hid (Y18.out.below hb9); have B19 := hid (bt B18.out hb9); obtain ⟨z0', z1'⟩ := box_two (keep_blk D2.out hb9); clear hb9)
                    | (go_at_call 22; clear t2; refine (rsame_m A5 A7 k2 c5 k2 c7 M2 M2 true _ M19.out S19.out (hid (sm_yes rfl))).mono ?_; rintro e w20 ⟨rfl, hb10⟩; have X20 := hid (X19.out.below hb10); have Y20 := hid (Y19.out.below hb10); have B20 := hid (bt B19.out hb10); clear hb10)
                    | (go_at_call 23; refine (same_m A A' p f p' f' L L' V _ X20.out Y20.out E7).mono ?_; rintro e w21 ⟨rfl, hb11⟩; have X21 := hid (X20.out.below hb11); have Y21 := hid (Y20.out.below hb11); have B21 := hid (bt B20.out hb11); clear hb11)
                    | (go_at_call 22; refine (rsame_m A A' p f p' f' L L' V _ X21.out Y21.out E7).mono ?_; rintro e w22 ⟨rfl, hb12⟩; have B22 := hid (bt B21.out hb12); clear hb12))
                  exact ⟨⟨r + 1, by omega, by go_num, B22⟩, by simp [intOf]; omega⟩
                · have hrf : decide ((r : Int) < 4) = false := decide_eq_false (by omega)
                  have hrf2 : decide (r < 4) = false := decide_eq_false hrl
                  go_wp2
                  exact ⟨⟨q + 1, by omega, by go_num, BY⟩, by simp [intOf]; omega⟩
      · have hqf : decide ((q : Int) < 4) = false := decide_eq_false (by omega)
        have hqf2 : decide (q < 4) = false := decide_eq_false hlt
        have HB := hid (bt B0.out BW.out)
        have hc2 := ((bcell BW.out).1 g 2 hgl.out).trans HG2.out.1
        have hgw : g < wr.heap.size := Nat.lt_of_lt_of_le hgl.out BW.out.size
        have HX2 := hid (HG2.out.2.below BW.out)
        have KS : Hid (∀ y, Below wr.heap.size wr y → Below wr.heap.size wr y ∧ y.cell? ⟨g, 2, none⟩ = some (.slice A2 p2 c2)) := hid (fun y h => ⟨h, ((bcell h).1 _ _ hgw).trans hc2⟩)
        clear hc2 HG2 HF
        go_upto_region 25 with fail
        go_region_held3 (fun y => Below wr.heap.size wr y ∧ y.cell? ⟨g, 2, none⟩ = some (.slice A2 p2 c2))
          (first | assumption | exact keep_drew KS | exact keep_step (by assumption) (by assumption) KS)
          (first
            | (go_at_call 24; refine (of_m s z e p2 x X2 _ (HX.out.below (bt HB.out (And.left (by assumption)))) z1 FX2 FP2).mono ?_; rintro e w3 ⟨⟨A9, c9, rfl, hn9⟩, hb3⟩)
            | (go_at_call 22; refine (rsame_m A9 A2 p2 c9 p2 c2 X2 X2 true _ hn9 (HX2.out.below (And.left (by assumption))) (hid (sm_yes rfl))).mono ?_; rintro e w4 ⟨rfl, hb4⟩)
            | (go_at_call 8; refine (wakes_any _).mono ?_; rintro e wa ⟨rfl, hba⟩))
        have B9 : Hid (Below wr.heap.size wr wa) := hid (bt (bt (undrew hb3) hb4) hba)
        clear hb3 hb4 hba hn9
        go_wp2
        go_ret
        exact ⟨rfl, bt HB.out B9.out⟩

end Go.Proofs.Ytgmnnpecihcdhab

/-
  The members of a level are parted by those of each coarser one: the walk of the law HierParts.
  Conditions: as each theorem states them.
-/
import Derived.Test.YtffhjmldijbolaaO
import Derived.Laws.OwnMore
namespace Go.Proofs.Ytffhjmldijbolaa
open Go.ChangeShapes Go.WideShapes Go.ChangeAt Go.RowKit
set_option linter.unusedVariables false
set_option linter.unusedSimpArgs false

/-! What is borne. -/
theorem Bx.grown {w wr w' : World} {s u : Value} {G : Nat} (h : Bx w wr s u) (hg : wr.grownBy w' (some G)) (hG : w.heap.size < G) : Bx w w' s u := by
  obtain ⟨h0, h1, h2, h3⟩ := h
  have hne : (some G : Option Nat) ≠ some w.heap.size := by simp; omega
  exact ⟨Nat.lt_of_lt_of_le h0 hg.size, h1.grown hg (Nat.le_of_lt h0) (fun k hk => by cases hk; omega), (grown_cell hg h0 hne).trans h2, (grown_cell hg h0 hne).trans h3⟩
theorem IRow.grown {w w' : World} {a : Option Addr} {n c G : Nat} {l : List Int} (h : IRow .i64 w a n c l) (hg : w.grownBy w' (some G)) (hne : ∀ b off, a = some ⟨b, off, none⟩ → ¬ b = G) : IRow .i64 w' a n c l := by
  obtain ⟨h1, h2, h3, h5, h6⟩ := h
  refine ⟨h1, h2, h3, h5, fun h0 => ?_⟩
  obtain ⟨b, off, e, hlt, hl⟩ := h6 h0
  exact ⟨b, off, e, Nat.lt_of_lt_of_le hlt hg.size, grown_lies hg hlt (fun e' => hne b off e (by cases e'; rfl)) hl⟩
theorem vals_set (l : List Int) (j : Nat) (y : Int) : (vals .i64 l).set j (.int .i64 y) = vals .i64 (l.set j y) := by
  unfold vals; rw [List.map_set]
theorem made40 : (madeCells (Value.int .i64 0).cells (40 * 1)).toList = vals .i64 (List.replicate 40 0) := by kernel_rfl
/-- The row of what was seen. -/
def Seen (wr : World) (base G : Nat) (l : List Int) : Prop := wr.ownsRow base 3 1 (.slice (some ⟨G, 0, none⟩) 40 40) 40 (vals .i64 l)
theorem seen_cell {wr : World} {base G : Nat} {l : List Int} (h : Seen wr base G l) {k : Nat} (hk : k < 40) : G < wr.heap.size ∧ wr.cell? ⟨G, k, none⟩ = some (.int .i64 (l.getD k 0)) ∧ wr.frozen? ⟨G, k, none⟩ = false := by
  obtain ⟨e1, h1, h2⟩ := owns_lies h
  have := h2 k (by omega)
  rw [Nat.zero_add] at this
  exact ⟨h1, this, h.frozenAt k⟩
theorem seen_set {wr : World} {base G : Nat} {l : List Int} (h : Seen wr base G l) (k : Nat) (y : Int) : Seen (wr.setCell ⟨G, k, none⟩ (.int .i64 y)) base G (l.set k y) ∧ wr.grownBy (wr.setCell ⟨G, k, none⟩ (.int .i64 y)) (some G) := by
  have := World.ownsRow.stored h k (.int .i64 y)
  rw [vals_set] at this
  exact this
/-- A dimension's cells and two cells more. -/
def Cur2 (w w' : World) (s u : Value) (b o : Nat) (y : Int) (b2 o2 : Nat) (y2 : Int) : Prop :=
  w.heap.size < w'.heap.size ∧ Below w.heap.size w w' ∧ w'.cell? ⟨w.heap.size, 0, none⟩ = some s ∧ w'.cell? ⟨w.heap.size, 1, none⟩ = some u ∧ b < w'.heap.size ∧ w'.cell? ⟨b, o, none⟩ = some (.int .i64 y) ∧ b2 < w'.heap.size ∧ w'.cell? ⟨b2, o2, none⟩ = some (.int .i64 y2)
theorem cur2_mk {w w' : World} {s u : Value} {b o : Nat} {y : Int} {b2 o2 : Nat} {y2 : Int} (h : Bx w w' s u) (hb : b < w'.heap.size) (hc : w'.cell? ⟨b, o, none⟩ = some (.int .i64 y)) (hb2 : b2 < w'.heap.size) (hc2 : w'.cell? ⟨b2, o2, none⟩ = some (.int .i64 y2)) : Cur2 w w'.drew s u b o y b2 o2 y2 :=
  ⟨h.1, h.2.1.drew, h.2.2.1, h.2.2.2, hb, hc, hb2, hc2⟩
theorem cur2_bx {w w' : World} {s u : Value} {b o : Nat} {y : Int} {b2 o2 : Nat} {y2 : Int} (h : Cur2 w w' s u b o y b2 o2 y2) : Bx w w' s u := ⟨h.1, h.2.1, h.2.2.1, h.2.2.2.1⟩
theorem cur2_step {w w' w1 : World} {s u : Value} {b o : Nat} {y : Int} {b2 o2 : Nat} {y2 : Int} (hb : Below w'.heap.size w' w1) (h : Cur2 w w' s u b o y b2 o2 y2) : Cur2 w w1 s u b o y b2 o2 y2 := by
  have k := (cur2_bx h).step hb
  obtain ⟨_, _, _, _, p1, p2, p3, p4⟩ := h
  exact ⟨k.1, k.2.1, k.2.2.1, k.2.2.2, Nat.lt_of_lt_of_le p1 hb.size, ((bcell hb).1 _ _ p1).trans p2, Nat.lt_of_lt_of_le p3 hb.size, ((bcell hb).1 _ _ p3).trans p4⟩
/-- .. and three. -/
def Cur3 (w w' : World) (s u : Value) (b o : Nat) (y : Int) (b2 o2 : Nat) (y2 : Int) (o3 : Nat) (y3 : Int) : Prop :=
  w.heap.size < w'.heap.size ∧ Below w.heap.size w w' ∧ w'.cell? ⟨w.heap.size, 0, none⟩ = some s ∧ w'.cell? ⟨w.heap.size, 1, none⟩ = some u ∧ b < w'.heap.size ∧ w'.cell? ⟨b, o, none⟩ = some (.int .i64 y) ∧ b2 < w'.heap.size ∧ w'.cell? ⟨b2, o2, none⟩ = some (.int .i64 y2) ∧ w'.cell? ⟨b, o3, none⟩ = some (.int .i64 y3)
theorem cur3_mk {w w' : World} {s u : Value} {b o : Nat} {y : Int} {b2 o2 : Nat} {y2 : Int} {o3 : Nat} {y3 : Int} (h : Bx w w' s u) (hb : b < w'.heap.size) (hc : w'.cell? ⟨b, o, none⟩ = some (.int .i64 y)) (hb2 : b2 < w'.heap.size) (hc2 : w'.cell? ⟨b2, o2, none⟩ = some (.int .i64 y2)) (hc3 : w'.cell? ⟨b, o3, none⟩ = some (.int .i64 y3)) : Cur3 w w'.drew s u b o y b2 o2 y2 o3 y3 :=
  ⟨h.1, h.2.1.drew, h.2.2.1, h.2.2.2, hb, hc, hb2, hc2, hc3⟩
theorem cur3_bx {w w' : World} {s u : Value} {b o : Nat} {y : Int} {b2 o2 : Nat} {y2 : Int} {o3 : Nat} {y3 : Int} (h : Cur3 w w' s u b o y b2 o2 y2 o3 y3) : Bx w w' s u := ⟨h.1, h.2.1, h.2.2.1, h.2.2.2.1⟩
theorem cur3_step {w w' w1 : World} {s u : Value} {b o : Nat} {y : Int} {b2 o2 : Nat} {y2 : Int} {o3 : Nat} {y3 : Int} (hb : Below w'.heap.size w' w1) (h : Cur3 w w' s u b o y b2 o2 y2 o3 y3) : Cur3 w w1 s u b o y b2 o2 y2 o3 y3 := by
  have k := (cur3_bx h).step hb
  obtain ⟨_, _, _, _, p1, p2, p3, p4, p5⟩ := h
  exact ⟨k.1, k.2.1, k.2.2.1, k.2.2.2, Nat.lt_of_lt_of_le p1 hb.size, ((bcell hb).1 _ _ p1).trans p2, Nat.lt_of_lt_of_le p3 hb.size, ((bcell hb).1 _ _ p3).trans p4, ((bcell hb).1 _ _ p1).trans p5⟩
theorem lifted_le (S : List Int) (U : List (List Int)) (f t m : Int) : lifted S U f t m ≤ 40 := by
  have h1 : lifted S U f t m ≤ (upto (size S U f).toNat).length := List.countP_le_length
  rw [upto_len] at h1
  have := size_bd S U f
  omega

set_option maxHeartbeats 4000000 in
set_option maxRecDepth 100000 in
theorem parts_walk (sa : Option Addr) (sl sc : Nat) (ua : Option Addr) (ul uc : Nat) (S : List Int) (U : List (List Int)) (p0 p1 : Int) (w : World) (hd : Dim w sa sl sc ua ul uc S U) (h0 : U8 p0) (h1 : U8 p1) :
    Calls Try.prog 5 #[.agg #[.slice sa sl sc, .slice ua ul uc], .int .u8 p0, .int .u8 p1] w fun e w' => e = .returned (.bool true) ∧ Below w.heap.size w w' := by
  obtain ⟨e1, e2, e3, e4⟩ := hd.lens
  have E1 : Hid (sl = S.length) := e1
  have HD : Hid (Dim w sa sl sc ua ul uc S U) := hd
  have H0 : Hid (U8 p0) := h0
  have H1 : Hid (U8 p1) := h1
  have BX : Hid (Bx w (w.alloc (.cells #[.slice sa sl sc, .slice ua ul uc] 25)) (.slice sa sl sc) (.slice ua ul uc)) := bx_new _ _ _ _
  clear e1 e2 e4 hd h0 h1
  cases hg : good S U with
  | false =>
    go_enter Try.func5, Try.ntmps5
    go_wp2_with (first
      | (go_at_call 12; refine (rgood_any _ _ _ _ _ _ S U _ (HD.out.below BX.out.2.1)).mono ?_; rintro e w1 ⟨rfl, hb1⟩)
      | (go_at_call 9; refine (wakes_any _).mono ?_; rintro e w9 ⟨rfl, hb9⟩))
    go_ret
    exact ⟨rfl, bt (BX.out.step hb1).2.1 hb9⟩
  | true =>
    have HG : Hid (good S U = true) := hg
    have hs4 : sl ≤ 4 := by rw [E1.out]; exact (good_p hg).2.1
    have hs1 : 1 ≤ sl := by rw [E1.out]; exact (good_p hg).1
    obtain ⟨p, hp, hp2, hp3⟩ := hld_in (n := p0) (k := sl + 1) H0.out (by omega)
    obtain ⟨q, hq, hq2, hq3⟩ := hld_in (n := p1) (k := sl + 1) H1.out (by omega)
    rw [show ((sl + 1 : Nat) : Int) = (sl : Int) + 1 by omega] at hp hq
    have hI : Hid (I64 ((sl : Int) + 1)) := by show I64 _; unfold I64; omega
    clear hg
    have t1 : True := trivial
    go_enter Try.func5, Try.ntmps5
    go_upto_region 5 with (first
      | (go_at_call 12; refine (rgood_any _ _ _ _ _ _ S U _ (HD.out.below BX.out.2.1)).mono ?_; rintro e w1 ⟨rfl, hb1⟩; have BX1 : Hid (Bx w w1 (.slice sa sl sc) (.slice ua ul uc)) := BX.out.step hb1; clear hb1; obtain ⟨_, _, c0, c1⟩ := BX1.out; rw [HG.out])
      | (go_at_call 13; clear t1; refine (held_any _ _ _ H0.out hI.out).mono ?_; rintro e w' ⟨rfl, hw'⟩; have hw2 := hw'.symm; clear hw'; subst hw2)
      | (go_at_call 13; refine (held_any _ _ _ H1.out hI.out).mono ?_; rintro e w' ⟨rfl, hw'⟩; have hw2 := hw'.symm; clear hw'; subst hw2))
    clear hp hq
    go_cut [8, 9] (fun x y wx => ∃ a b : Nat, x = .int .i64 a ∧ y = .int .i64 b ∧ a ≤ b ∧ b ≤ sl ∧ Hid (Bx w wx (.slice sa sl sc) (.slice ua ul uc)))
    case first =>
      rcases Nat.lt_or_ge p q with h1 | h1
      all_goals go_wp2_with fail
      all_goals (go_meet; exact ⟨_, _, rfl, rfl, by omega, by omega, BX1⟩)
    case rest =>
      obtain ⟨a, b, rfl, rfl, hab, hbs, BX2⟩ := hcut
      clear BX1 BX c0 c1
      obtain ⟨g0, g1, c0, c1⟩ := BX2.out
      obtain ⟨i0, hi0, hz0, hz1, hz2⟩ := info_parts info_int
      go_upto_region 7 with (at_make; refine wpList_make_full _ rfl _ _ 22 rfl (w.heap.size + 1) 3 i0 (.int .i64 0) 1 Try.underlying22 hi0 hz0 hz1 .i64 .i64 40 40 40 rfl rfl rfl rfl (by rw [hz2]; decide) (by decide) (by omega) ?_; intro w2 hown2 hgrow2)
      have hG : w.heap.size < wc.heap.size := g0
      obtain ⟨G, hGe⟩ : ∃ G, wc.heap.size = G := ⟨_, rfl⟩
      have bel2 : Below wc.heap.size wc w2 := (Below.refl _ _).grown hgrow2 (Nat.le_refl _) (fun k hk => by cases hk)
      have BX3 : Hid (Bx w w2 (.slice sa sl sc) (.slice ua ul uc)) := BX2.out.step bel2
      have l0 : List.replicate 40 0 = sn S U a b 0 [] := (sn_0 HG.out (by omega) (by omega) (by rw [← E1.out]; omega)).symm
      rw [made40, l0, hGe] at hown2
      have SN0 : Hid (Seen w2 (w.heap.size + 1) G (sn S U a b 0 [])) := hown2
      rw [hGe] at hG ⊢
      clear hown2 hgrow2 bel2 hGe l0 BX2 g0 g1 c0 c1 i0 hi0 hz0 hz1 hz2
      have za := size_bd S U a
      have zb := size_bd S U b
      obtain ⟨ZA, hZA⟩ : ∃ Z : Nat, size S U a = Z := ⟨(size S U a).toNat, by omega⟩
      obtain ⟨ZB, hZB⟩ : ∃ Z : Nat, size S U b = Z := ⟨(size S U b).toNat, by omega⟩
      have HZA : Hid (size S U a = ZA) := hZA
      have HZB : Hid (size S U b = ZB) := hZB
      rw [hZA] at za
      rw [hZB] at zb
      have J1 : Hid (I64 a) := by show I64 _; unfold I64; omega
      have J2 : Hid (I64 b) := by show I64 _; unfold I64; omega
      have la : Hid (lifted S U a b ZB = ZA) := by
        show _ = _
        have := lifted_all (S := S) (U := U) (f := a) (t := b) HG.out (by omega) (by omega) (by rw [← E1.out]; omega)
        rw [HZA.out, HZB.out] at this
        omega
      have lz : Hid (lifted S U a b 0 = 0) := lifted_0 HG.out (by omega) (by omega) (by rw [← E1.out]; omega)
      go_wp2
      go_loopw [11, 12] (fun av mv wr => ∃ M A : Nat, M ≤ ZB ∧ mv = .int .i64 M ∧ av = .int .i64 A ∧ A ≤ 40 ∧ Hid (A = lifted S U a b M) ∧ Hid (Bx w wr (.slice sa sl sc) (.slice ua ul uc)) ∧ Hid (Seen wr (w.heap.size + 1) G (sn S U a b M []))) (fun _ mv _ => ZB - (intOf mv).toNat)
      case atStart => exact ⟨0, 0, Nat.zero_le _, rfl, rfl, by omega, hid lz.out.symm, BX3, SN0⟩
      case round =>
        obtain ⟨M, A, hM, rfl, rfl, hA40, HA, BX4, SN4⟩ := hrel
        obtain ⟨_, _, c0, c1⟩ := BX4.out
        have JM : Hid (I64 M) := by show I64 _; unfold I64; omega
        by_cases hlt : M < ZB
        · have hM2 : Hid ((M : Int) < size S U b) := by show (M : Int) < size S U b; rw [HZB.out]; omega
          go_wp2_with (first
            | (go_at_call 14; refine (rsize_any _ _ _ _ _ _ S U _ _ (HD.out.below BX4.out.2.1) J2.out).mono ?_; rintro e w5 ⟨rfl, hb5⟩; have BX5 : Hid (Bx w w5 (.slice sa sl sc) (.slice ua ul uc)) := BX4.out.step hb5; have SN5 : Hid (Seen w5 (w.heap.size + 1) G (sn S U a b M [])) := own_below SN4.out hb5; obtain ⟨_, _, d0, d1⟩ := BX5.out)
            | (go_at_call 16; refine (under_new _ _ _ _ _ _ S U _ _ _ _ (HD.out.below BX5.out.2.1) J2.out JM.out J1.out).mono ?_; rintro e w6 ⟨⟨a13, c13, rfl, hr13, hnew⟩, hb6⟩))
          have BX6 : Hid (Bx w w6 (.slice sa sl sc) (.slice ua ul uc)) := BX5.out.step hb6
          have SN6 : Hid (Seen w6 (w.heap.size + 1) G (sn S U a b M [])) := own_below SN5.out hb6
          have gl5 : G < w5.heap.size := (seen_cell SN5.out (k := 0) (by omega)).1
          have hne : Hid (∀ bb off, a13 = some ⟨bb, off, none⟩ → ¬ bb = G) := hid fun bb off e e2 => by have := hnew bb off e; omega
          have L13 := under_len S U b M a
          obtain ⟨UL, hUL⟩ : ∃ UL, under S U b M a = UL := ⟨_, rfl⟩
          rw [hUL] at hr13 L13 ⊢
          have HUL : Hid (under S U b M a = UL) := hUL
          clear hUL
          obtain ⟨n13, hn13⟩ : ∃ n13, UL.length = n13 := ⟨_, rfl⟩
          rw [hn13] at hr13 L13 ⊢
          have HN13 : Hid (UL.length = n13) := hn13
          have HR13 : Hid (IRow .i64 w6 a13 n13 c13 UL) := hr13
          have hAn : Hid (lifted S U a b ((M : Int) + 1) = A + n13) := by
            show _ = _
            rw [lifted_step (by omega) hM2.out, HUL.out, HN13.out, HA.out]
          have hAle : A + n13 ≤ 40 := by rw [← hAn.out]; exact lifted_le _ _ _ _ _
          clear hn13 hr13 hnew hb5 hb6 c0 c1 d0 d1 gl5 BX5 SN5 BX4 SN4
          go_wp2
          go_loopw [11, 14] (fun av iv wr => ∃ i : Nat, i ≤ n13 ∧ iv = .int .i64 i ∧ av = .int .i64 (A + i : Nat) ∧ Hid (Bx w wr (.slice sa sl sc) (.slice ua ul uc)) ∧ Hid (Seen wr (w.heap.size + 1) G (sn S U a b M (UL.take i))) ∧ Hid (IRow .i64 wr a13 n13 c13 UL)) (fun _ iv _ => n13 - (intOf iv).toNat)
          case atStart => exact ⟨0, Nat.zero_le _, rfl, rfl, BX6, SN6, HR13⟩
          case round =>
            obtain ⟨i, hi, rfl, rfl, BX7, SN7, HR7⟩ := hrel
            by_cases hil : i < n13
            · obtain ⟨v, hv, hv40, hvs, hv0, hvl⟩ := sn_new (S := S) (U := U) (f := a) (t := b) (m := M) (i := i) (by rw [HUL.out, HN13.out]; exact hil)
              rw [HUL.out] at hv hv0
              obtain ⟨b7, off7, rfl, hb7, hcell7⟩ := HR7.out.cell hil
              have d7 := hcell7 i hil
              rw [hv] at d7
              obtain ⟨gl7, s7, fz7⟩ := seen_cell SN7.out hv40
              rw [hv0] at s7
              have HV0 : Hid (UL.getD i 0 = v) := hv
              have SV : Hid ((sn S U a b M (UL.take i)).getD v 0 = 0) := hv0
              have HVL : Hid (lift S U a b v = M) := hvl
              have JV : Hid (I64 v) := by show I64 _; unfold I64; omega
              have q1 : decide ((v : Int) < 0) = false := decide_eq_false (by omega)
              have q2 : decide (size S U a ≤ (v : Int)) = false := decide_eq_false (by omega)
              have q3 : (v : Int) < 40 := by omega
              have q4 : (i : Int) < (n13 : Int) := by omega
              have hset : Hid ((sn S U a b M (UL.take i)).set v 1 = sn S U a b M (UL.take (i + 1))) := by
                show _ = _
                rw [sn_set hv40, take_snoc _ _ (by rw [HN13.out]; exact hil), HV0.out]
              have bx7 := BX7.out
              obtain ⟨_, _, c0, c1⟩ := BX7.out
              rw [HZA.out] at hvs
              have q2a : decide ((ZA : Int) ≤ (v : Int)) = false := decide_eq_false (by omega)
              have q2b : decide (ZA ≤ v) = false := decide_eq_false (by omega)
              have q2c : v < ZA := by omega
              clear hv hv0 hvl
              by_cases hi0 : i = 0
              · subst hi0
                rw [Nat.add_zero] at d7
                go_wp2
                refine wp_region_noPanic ?_
                refine wp_region_held_drew (S := fun w' => w.heap.size < w'.heap.size ∧ Below w.heap.size w w' ∧ w'.cell? ⟨w.heap.size, 0, none⟩ = some (.slice sa sl sc) ∧ w'.cell? ⟨w.heap.size, 1, none⟩ = some (.slice ua ul uc) ∧ b7 < w'.heap.size ∧ w'.cell? ⟨b7, off7, none⟩ = some (.int .i64 v) ∧ G < w'.heap.size ∧ w'.cell? ⟨G, v, none⟩ = some (.int .i64 0)) (by kernel_rfl) (cur2_mk bx7 hb7 d7 gl7 s7) (fun hHeld => ?_)
                refine wpAnyH_take (i := 0) (v := ?_) (by simp only [List.getElem?_toArray, List.getElem?_cons_succ, List.getElem?_cons_zero]; exact rfl) (by kernel_rfl) (by kernel_rfl) (by kernel_rfl) (fun _ _ _ h => h) (Or.inl ⟨by rfl, ?_⟩) (by assumption) ?_
                rotate_left
                · intro w hSw
                  try dsimp only at hSw
                  go_simp
                  try with_reducible rfl
                try simp only [Act.put, List.setIfInBounds_toArray, List.set_cons_zero, List.set_cons_succ]
                refine wpAnyH_take (i := 1) (v := ?_) (by simp only [List.getElem?_toArray, List.getElem?_cons_succ, List.getElem?_cons_zero]; exact rfl) (by kernel_rfl) (by kernel_rfl) (by kernel_rfl) (fun _ _ _ h => h) (Or.inl ⟨by rfl, ?_⟩) (by assumption) ?_
                rotate_left
                · intro w hSw
                  try dsimp only at hSw
                  go_simp
                  try with_reducible rfl
                try simp only [Act.put, List.setIfInBounds_toArray, List.set_cons_zero, List.set_cons_succ]
                refine wpAnyH_take (i := 2) (v := ?_) (by simp only [List.getElem?_toArray, List.getElem?_cons_succ, List.getElem?_cons_zero]; exact rfl) (by kernel_rfl) (by kernel_rfl) (by kernel_rfl) (fun _ _ _ h => h) (Or.inl ⟨by rfl, ?_⟩) (by assumption) ?_
                rotate_left
                · intro w hSw
                  try dsimp only at hSw
                  go_simp
                  try with_reducible rfl
                try simp only [Act.put, List.setIfInBounds_toArray, List.set_cons_zero, List.set_cons_succ]
                refine wpAnyH_take (i := 3) (v := ?_) (by simp only [List.getElem?_toArray, List.getElem?_cons_succ, List.getElem?_cons_zero]; exact rfl) (by kernel_rfl) (by kernel_rfl) (by kernel_rfl) (fun _ _ _ h => h) (Or.inl ⟨by rfl, ?_⟩) (by assumption) ?_
                rotate_left
                · intro w hSw
                  try dsimp only at hSw
                  go_simp
                  try with_reducible rfl
                try simp only [Act.put, List.setIfInBounds_toArray, List.set_cons_zero, List.set_cons_succ]
                refine wpAnyH_take (i := 4) (v := ?_) (by simp only [List.getElem?_toArray, List.getElem?_cons_succ, List.getElem?_cons_zero]; exact rfl) (by kernel_rfl) (by kernel_rfl) (by kernel_rfl) (fun _ _ _ h => h) (Or.inl ⟨by rfl, ?_⟩) (by assumption) ?_
                rotate_left
                · intro w hSw
                  try dsimp only at hSw
                  go_simp
                  try with_reducible rfl
                try simp only [Act.put, List.setIfInBounds_toArray, List.set_cons_zero, List.set_cons_succ]
                refine wpAnyH_take (i := 5) (v := ?_) (by simp only [List.getElem?_toArray, List.getElem?_cons_succ, List.getElem?_cons_zero]; exact rfl) (by kernel_rfl) (by kernel_rfl) (by kernel_rfl) (fun _ _ _ h => h) (Or.inl ⟨by rfl, ?_⟩) (by assumption) ?_
                rotate_left
                · intro w hSw
                  try dsimp only at hSw
                  go_simp
                  try with_reducible rfl
                try simp only [Act.put, List.setIfInBounds_toArray, List.set_cons_zero, List.set_cons_succ]
                refine wpAnyH_take (i := 6) (v := ?_) (by simp only [List.getElem?_toArray, List.getElem?_cons_succ, List.getElem?_cons_zero]; exact rfl) (by kernel_rfl) (by kernel_rfl) (by kernel_rfl) (fun _ _ _ h => h) (Or.inl ⟨by rfl, ?_⟩) (by assumption) ?_
                rotate_left
                · intro w hSw
                  try dsimp only at hSw
                  go_simp
                  try with_reducible rfl
                try simp only [Act.put, List.setIfInBounds_toArray, List.set_cons_zero, List.set_cons_succ]
                refine wpAnyH_take (i := 7) (v := ?_) (by simp only [List.getElem?_toArray, List.getElem?_cons_succ, List.getElem?_cons_zero]; exact rfl) (by kernel_rfl) (by kernel_rfl) (by kernel_rfl) (fun _ _ _ h => h) (Or.inl ⟨by rfl, ?_⟩) (by assumption) ?_
                rotate_left
                · intro w hSw
                  try dsimp only at hSw
                  go_simp
                  try with_reducible rfl
                try simp only [Act.put, List.setIfInBounds_toArray, List.set_cons_zero, List.set_cons_succ]
                refine wpAnyH_take (i := 8) (v := ?_) (by simp only [List.getElem?_toArray, List.getElem?_cons_succ, List.getElem?_cons_zero]; exact rfl) (by kernel_rfl) (by kernel_rfl) (by kernel_rfl) (fun _ _ _ h => h) (Or.inl ⟨by rfl, ?_⟩) (by assumption) ?_
                rotate_left
                · intro w hSw
                  try dsimp only at hSw
                  go_simp
                  try with_reducible rfl
                try simp only [Act.put, List.setIfInBounds_toArray, List.set_cons_zero, List.set_cons_succ]
                refine wpAnyH_take (i := 9) (v := ?_) (by simp only [List.getElem?_toArray, List.getElem?_cons_succ, List.getElem?_cons_zero]; exact rfl) (by kernel_rfl) (by kernel_rfl) (by kernel_rfl) (fun _ _ _ h => h) (Or.inl ⟨by rfl, ?_⟩) (by assumption) ?_
                rotate_left
                · intro w hSw
                  try dsimp only at hSw
                  go_simp
                  try with_reducible rfl
                try simp only [Act.put, List.setIfInBounds_toArray, List.set_cons_zero, List.set_cons_succ]
                refine wpAnyH_take (i := 10) (v := ?_) (by simp only [List.getElem?_toArray, List.getElem?_cons_succ, List.getElem?_cons_zero]; exact rfl) (by kernel_rfl) (by kernel_rfl) (by kernel_rfl) (fun _ _ _ h => h) (Or.inl ⟨by rfl, ?_⟩) (by assumption) ?_
                rotate_left
                · intro w hSw
                  try dsimp only at hSw
                  go_simp
                  try with_reducible rfl
                try simp only [Act.put, List.setIfInBounds_toArray, List.set_cons_zero, List.set_cons_succ]
                refine wpAnyH_take (i := 11) (v := ?_) (by simp only [List.getElem?_toArray, List.getElem?_cons_succ, List.getElem?_cons_zero]; exact rfl) (by kernel_rfl) (by kernel_rfl) (by kernel_rfl) (fun _ _ _ h => h) (Or.inl ⟨by rfl, ?_⟩) (by assumption) ?_
                rotate_left
                · intro w hSw
                  try dsimp only at hSw
                  go_simp
                  try with_reducible rfl
                try simp only [Act.put, List.setIfInBounds_toArray, List.set_cons_zero, List.set_cons_succ]
                refine wpAnyH_ready (rs := [12]) (by kernel_rfl) (by simp) ?_
                refine AllReadyH.cons (by simp only [List.getElem?_toArray, List.getElem?_cons_succ, List.getElem?_cons_zero]; exact rfl) (fun K hK => ?_) AllReadyH.nil
                go_simp
                go_at_call 14; refine (rsize_any _ _ _ _ _ _ S U _ _ (HD.out.below (cur2_bx (by assumption)).2.1) J1.out).mono ?_; rintro e w8 ⟨rfl, hb8⟩
                refine hK.out _ _ (cur2_step hb8 hHeld) (fun hHeld2 => ?_)
                clear hK K hHeld
                try simp only [Act.put, List.setIfInBounds_toArray, List.set_cons_zero, List.set_cons_succ]
                refine wpAnyH_take (i := 13) (v := ?_) (by simp only [List.getElem?_toArray, List.getElem?_cons_succ, List.getElem?_cons_zero]; exact rfl) (by kernel_rfl) (by kernel_rfl) (by kernel_rfl) (fun _ _ _ h => h) (Or.inl ⟨by rfl, ?_⟩) (by assumption) ?_
                rotate_left
                · intro w hSw
                  try dsimp only at hSw
                  go_simp
                  try with_reducible rfl
                try simp only [Act.put, List.setIfInBounds_toArray, List.set_cons_zero, List.set_cons_succ]
                refine wpAnyH_take (i := 14) (v := ?_) (by simp only [List.getElem?_toArray, List.getElem?_cons_succ, List.getElem?_cons_zero]; exact rfl) (by kernel_rfl) (by kernel_rfl) (by kernel_rfl) (fun _ _ _ h => h) (Or.inl ⟨by rfl, ?_⟩) (by assumption) ?_
                rotate_left
                · intro w hSw
                  try dsimp only at hSw
                  go_simp
                  try with_reducible rfl
                try simp only [Act.put, List.setIfInBounds_toArray, List.set_cons_zero, List.set_cons_succ]
                refine wpAnyH_take (i := 15) (v := ?_) (by simp only [List.getElem?_toArray, List.getElem?_cons_succ, List.getElem?_cons_zero]; exact rfl) (by kernel_rfl) (by kernel_rfl) (by kernel_rfl) (fun _ _ _ h => h) (Or.inl ⟨by rfl, ?_⟩) (by assumption) ?_
                rotate_left
                · intro w hSw
                  try dsimp only at hSw
                  go_simp
                  try with_reducible rfl
                try simp only [Act.put, List.setIfInBounds_toArray, List.set_cons_zero, List.set_cons_succ]
                refine wpAnyH_take (i := 16) (v := ?_) (by simp only [List.getElem?_toArray, List.getElem?_cons_succ, List.getElem?_cons_zero]; exact rfl) (by kernel_rfl) (by kernel_rfl) (by kernel_rfl) (fun _ _ _ h => h) (Or.inl ⟨by rfl, ?_⟩) (by assumption) ?_
                rotate_left
                · intro w hSw
                  try dsimp only at hSw
                  go_simp
                  try with_reducible rfl
                try simp only [Act.put, List.setIfInBounds_toArray, List.set_cons_zero, List.set_cons_succ]
                refine wpAnyH_take (i := 17) (v := ?_) (by simp only [List.getElem?_toArray, List.getElem?_cons_succ, List.getElem?_cons_zero]; exact rfl) (by kernel_rfl) (by kernel_rfl) (by kernel_rfl) (fun _ _ _ h => h) (Or.inl ⟨by rfl, ?_⟩) (by assumption) ?_
                rotate_left
                · intro w hSw
                  try dsimp only at hSw
                  go_simp
                  try with_reducible rfl
                try simp only [Act.put, List.setIfInBounds_toArray, List.set_cons_zero, List.set_cons_succ]
                refine wpAnyH_take (i := 18) (v := ?_) (by simp only [List.getElem?_toArray, List.getElem?_cons_succ, List.getElem?_cons_zero]; exact rfl) (by kernel_rfl) (by kernel_rfl) (by kernel_rfl) (fun _ _ _ h => h) (Or.inl ⟨by rfl, ?_⟩) (by assumption) ?_
                rotate_left
                · intro w hSw
                  try dsimp only at hSw
                  go_simp
                  try with_reducible rfl
                try simp only [Act.put, List.setIfInBounds_toArray, List.set_cons_zero, List.set_cons_succ]
                refine wpAnyH_take (i := 19) (v := ?_) (by simp only [List.getElem?_toArray, List.getElem?_cons_succ, List.getElem?_cons_zero]; exact rfl) (by kernel_rfl) (by kernel_rfl) (by kernel_rfl) (fun _ _ _ h => h) (Or.inl ⟨by rfl, ?_⟩) (by assumption) ?_
                rotate_left
                · intro w hSw
                  try dsimp only at hSw
                  go_simp
                  try with_reducible rfl
                try simp only [Act.put, List.setIfInBounds_toArray, List.set_cons_zero, List.set_cons_succ]
                refine wpAnyH_take (i := 20) (v := ?_) (by simp only [List.getElem?_toArray, List.getElem?_cons_succ, List.getElem?_cons_zero]; exact rfl) (by kernel_rfl) (by kernel_rfl) (by kernel_rfl) (fun _ _ _ h => h) (Or.inl ⟨by rfl, ?_⟩) (by assumption) ?_
                rotate_left
                · intro w hSw
                  try dsimp only at hSw
                  go_simp
                  try with_reducible rfl
                try simp only [Act.put, List.setIfInBounds_toArray, List.set_cons_zero, List.set_cons_succ]
                refine wpAnyH_take (i := 21) (v := ?_) (by simp only [List.getElem?_toArray, List.getElem?_cons_succ, List.getElem?_cons_zero]; exact rfl) (by kernel_rfl) (by kernel_rfl) (by kernel_rfl) (fun _ _ _ h => h) (Or.inl ⟨by rfl, ?_⟩) (by assumption) ?_
                rotate_left
                · intro w hSw
                  try dsimp only at hSw
                  go_simp
                  try with_reducible rfl
                try simp only [Act.put, List.setIfInBounds_toArray, List.set_cons_zero, List.set_cons_succ]
                refine wpAnyH_take (i := 22) (v := ?_) (by simp only [List.getElem?_toArray, List.getElem?_cons_succ, List.getElem?_cons_zero]; exact rfl) (by kernel_rfl) (by kernel_rfl) (by kernel_rfl) (fun _ _ _ h => h) (Or.inl ⟨by rfl, ?_⟩) (by assumption) ?_
                rotate_left
                · intro w hSw
                  try dsimp only at hSw
                  go_simp
                  try with_reducible rfl
                try simp only [Act.put, List.setIfInBounds_toArray, List.set_cons_zero, List.set_cons_succ]
                refine wpAnyH_take (i := 23) (v := ?_) (by simp only [List.getElem?_toArray, List.getElem?_cons_succ, List.getElem?_cons_zero]; exact rfl) (by kernel_rfl) (by kernel_rfl) (by kernel_rfl) (fun _ _ _ h => h) (Or.inl ⟨by rfl, ?_⟩) (by assumption) ?_
                rotate_left
                · intro w hSw
                  try dsimp only at hSw
                  go_simp
                  try with_reducible rfl
                try simp only [Act.put, List.setIfInBounds_toArray, List.set_cons_zero, List.set_cons_succ]
                refine wpAnyH_take (i := 24) (v := ?_) (by simp only [List.getElem?_toArray, List.getElem?_cons_succ, List.getElem?_cons_zero]; exact rfl) (by kernel_rfl) (by kernel_rfl) (by kernel_rfl) (fun _ _ _ h => h) (Or.inl ⟨by rfl, ?_⟩) (by assumption) ?_
                rotate_left
                · intro w hSw
                  try dsimp only at hSw
                  go_simp
                  try with_reducible rfl
                try simp only [Act.put, List.setIfInBounds_toArray, List.set_cons_zero, List.set_cons_succ]
                refine wpAnyH_take (i := 25) (v := ?_) (by simp only [List.getElem?_toArray, List.getElem?_cons_succ, List.getElem?_cons_zero]; exact rfl) (by kernel_rfl) (by kernel_rfl) (by kernel_rfl) (fun _ _ _ h => h) (Or.inl ⟨by rfl, ?_⟩) (by assumption) ?_
                rotate_left
                · intro w hSw
                  try dsimp only at hSw
                  go_simp
                  try with_reducible rfl
                try simp only [Act.put, List.setIfInBounds_toArray, List.set_cons_zero, List.set_cons_succ]
                refine wpAnyH_take (i := 26) (v := ?_) (by simp only [List.getElem?_toArray, List.getElem?_cons_succ, List.getElem?_cons_zero]; exact rfl) (by kernel_rfl) (by kernel_rfl) (by kernel_rfl) (fun _ _ _ h => h) (Or.inl ⟨by rfl, ?_⟩) (by assumption) ?_
                rotate_left
                · intro w hSw
                  try dsimp only at hSw
                  go_simp
                  try with_reducible rfl
                try simp only [Act.put, List.setIfInBounds_toArray, List.set_cons_zero, List.set_cons_succ]
                refine wpAnyH_take (i := 27) (v := ?_) (by simp only [List.getElem?_toArray, List.getElem?_cons_succ, List.getElem?_cons_zero]; exact rfl) (by kernel_rfl) (by kernel_rfl) (by kernel_rfl) (fun _ _ _ h => h) (Or.inl ⟨by rfl, ?_⟩) (by assumption) ?_
                rotate_left
                · intro w hSw
                  try dsimp only at hSw
                  go_simp
                  try with_reducible rfl
                try simp only [Act.put, List.setIfInBounds_toArray, List.set_cons_zero, List.set_cons_succ]
                refine wpAnyH_take (i := 28) (v := ?_) (by simp only [List.getElem?_toArray, List.getElem?_cons_succ, List.getElem?_cons_zero]; exact rfl) (by kernel_rfl) (by kernel_rfl) (by kernel_rfl) (fun _ _ _ h => h) (Or.inl ⟨by rfl, ?_⟩) (by assumption) ?_
                rotate_left
                · intro w hSw
                  try dsimp only at hSw
                  go_simp
                  try with_reducible rfl
                try simp only [Act.put, List.setIfInBounds_toArray, List.set_cons_zero, List.set_cons_succ]
                refine wpAnyH_take (i := 29) (v := undef) (by simp only [List.getElem?_toArray, List.getElem?_cons_succ, List.getElem?_cons_zero]; exact rfl) (by kernel_rfl) (by kernel_rfl) (by kernel_rfl) (fun _ _ _ h => h) (Or.inr ⟨by rfl, rfl⟩) (by assumption) ?_
                try simp only [Act.put, List.setIfInBounds_toArray, List.set_cons_zero, List.set_cons_succ]
                refine wpAnyH_take (i := 30) (v := undef) (by simp only [List.getElem?_toArray, List.getElem?_cons_succ, List.getElem?_cons_zero]; exact rfl) (by kernel_rfl) (by kernel_rfl) (by kernel_rfl) (fun _ _ _ h => h) (Or.inr ⟨by rfl, rfl⟩) (by assumption) ?_
                try simp only [Act.put, List.setIfInBounds_toArray, List.set_cons_zero, List.set_cons_succ]
                refine wpAnyH_take (i := 31) (v := undef) (by simp only [List.getElem?_toArray, List.getElem?_cons_succ, List.getElem?_cons_zero]; exact rfl) (by kernel_rfl) (by kernel_rfl) (by kernel_rfl) (fun _ _ _ h => h) (Or.inr ⟨by rfl, rfl⟩) (by assumption) ?_
                try simp only [Act.put, List.setIfInBounds_toArray, List.set_cons_zero, List.set_cons_succ]
                refine wpAnyH_take (i := 32) (v := undef) (by simp only [List.getElem?_toArray, List.getElem?_cons_succ, List.getElem?_cons_zero]; exact rfl) (by kernel_rfl) (by kernel_rfl) (by kernel_rfl) (fun _ _ _ h => h) (Or.inr ⟨by rfl, rfl⟩) (by assumption) ?_
                try simp only [Act.put, List.setIfInBounds_toArray, List.set_cons_zero, List.set_cons_succ]
                refine wpAnyH_take (i := 33) (v := undef) (by simp only [List.getElem?_toArray, List.getElem?_cons_succ, List.getElem?_cons_zero]; exact rfl) (by kernel_rfl) (by kernel_rfl) (by kernel_rfl) (fun _ _ _ h => h) (Or.inr ⟨by rfl, rfl⟩) (by assumption) ?_
                try simp only [Act.put, List.setIfInBounds_toArray, List.set_cons_zero, List.set_cons_succ]
                refine wpAnyH_take (i := 34) (v := undef) (by simp only [List.getElem?_toArray, List.getElem?_cons_succ, List.getElem?_cons_zero]; exact rfl) (by kernel_rfl) (by kernel_rfl) (by kernel_rfl) (fun _ _ _ h => h) (Or.inr ⟨by rfl, rfl⟩) (by assumption) ?_
                try simp only [Act.put, List.setIfInBounds_toArray, List.set_cons_zero, List.set_cons_succ]
                refine wpAnyH_take (i := 35) (v := undef) (by simp only [List.getElem?_toArray, List.getElem?_cons_succ, List.getElem?_cons_zero]; exact rfl) (by kernel_rfl) (by kernel_rfl) (by kernel_rfl) (fun _ _ _ h => h) (Or.inr ⟨by rfl, rfl⟩) (by assumption) ?_
                try simp only [Act.put, List.setIfInBounds_toArray, List.set_cons_zero, List.set_cons_succ]
                refine wpAnyH_take (i := 36) (v := undef) (by simp only [List.getElem?_toArray, List.getElem?_cons_succ, List.getElem?_cons_zero]; exact rfl) (by kernel_rfl) (by kernel_rfl) (by kernel_rfl) (fun _ _ _ h => h) (Or.inr ⟨by rfl, rfl⟩) (by assumption) ?_
                try simp only [Act.put, List.setIfInBounds_toArray, List.set_cons_zero, List.set_cons_succ]
                refine wpAnyH_take (i := 37) (v := undef) (by simp only [List.getElem?_toArray, List.getElem?_cons_succ, List.getElem?_cons_zero]; exact rfl) (by kernel_rfl) (by kernel_rfl) (by kernel_rfl) (fun _ _ _ h => h) (Or.inr ⟨by rfl, rfl⟩) (by assumption) ?_
                try simp only [Act.put, List.setIfInBounds_toArray, List.set_cons_zero, List.set_cons_succ]
                refine wpAnyH_take (i := 38) (v := undef) (by simp only [List.getElem?_toArray, List.getElem?_cons_succ, List.getElem?_cons_zero]; exact rfl) (by kernel_rfl) (by kernel_rfl) (by kernel_rfl) (fun _ _ _ h => h) (Or.inr ⟨by rfl, rfl⟩) (by assumption) ?_
                try simp only [Act.put, List.setIfInBounds_toArray, List.set_cons_zero, List.set_cons_succ]
                refine wpAnyH_take (i := 39) (v := ?_) (by simp only [List.getElem?_toArray, List.getElem?_cons_succ, List.getElem?_cons_zero]; exact rfl) (by kernel_rfl) (by kernel_rfl) (by kernel_rfl) (fun _ _ _ h => h) (Or.inl ⟨by rfl, ?_⟩) (by assumption) ?_
                rotate_left
                · intro w hSw
                  try dsimp only at hSw
                  go_simp
                  try with_reducible rfl
                try simp only [Act.put, List.setIfInBounds_toArray, List.set_cons_zero, List.set_cons_succ]
                refine wpAnyH_take (i := 40) (v := ?_) (by simp only [List.getElem?_toArray, List.getElem?_cons_succ, List.getElem?_cons_zero]; exact rfl) (by kernel_rfl) (by kernel_rfl) (by kernel_rfl) (fun _ _ _ h => h) (Or.inl ⟨by rfl, ?_⟩) (by assumption) ?_
                rotate_left
                · intro w hSw
                  try dsimp only at hSw
                  go_simp
                  try with_reducible rfl
                try simp only [Act.put, List.setIfInBounds_toArray, List.set_cons_zero, List.set_cons_succ]
                refine wpAnyH_done (by kernel_rfl) ?_ _
                refine NoPanic.normal ?_
                have b8 := undrew hb8
                have BX8 : Hid (Bx w w8 (.slice sa sl sc) (.slice ua ul uc)) := BX7.out.step b8
                have SN8 : Hid (Seen w8 (w.heap.size + 1) G (sn S U a b M (UL.take 0))) := own_below SN7.out b8
                have HR8 : Hid (IRow .i64 w8 (some ⟨b7, off7, none⟩) n13 c13 UL) := HR7.out.below b8
                have d8 := ((bcell b8).1 _ _ hb7).trans d7
                have hb78 : b7 < w8.heap.size := Nat.lt_of_lt_of_le hb7 b8.size
                have bx8 := BX8.out
                obtain ⟨_, _, e0, e1⟩ := BX8.out
                clear bx7 c0 c1 d7 s7 fz7 b8 hb8 gl7 hb7 SN7 HR7 BX7
                go_wp2
                go_region_held3 (fun w' => w.heap.size < w'.heap.size ∧ Below w.heap.size w w' ∧ w'.cell? ⟨w.heap.size, 0, none⟩ = some (.slice sa sl sc) ∧ w'.cell? ⟨w.heap.size, 1, none⟩ = some (.slice ua ul uc) ∧ b7 < w'.heap.size ∧ w'.cell? ⟨b7, off7, none⟩ = some (.int .i64 v))
                  (first | assumption | exact cur_mk (by assumption) (by assumption) (by assumption) | exact cur_step (by assumption) (by assumption))
                  (first
                    | (go_at_call 15; refine (lift_ok _ _ _ _ _ _ S U _ _ _ _ _ (HD.out.below (cur_bx (by assumption)).2.1) J1.out J2.out JV.out HVL (by omega)).mono ?_; rintro e w9 ⟨rfl, hb9⟩))
                have b9 := undrew hb9
                have BX9 : Hid (Bx w w9 (.slice sa sl sc) (.slice ua ul uc)) := BX8.out.step b9
                have SN9 : Hid (Seen w9 (w.heap.size + 1) G (sn S U a b M (UL.take 0))) := own_below SN8.out b9
                have HR9 : Hid (IRow .i64 w9 (some ⟨b7, off7, none⟩) n13 c13 UL) := HR8.out.below b9
                have d9 := ((bcell b9).1 _ _ hb78).trans d8
                obtain ⟨gl9, s9, fz9⟩ := seen_cell SN9.out hv40
                rw [SV.out] at s9
                clear bx8 e0 e1 d8 b9 hb9 hb78 SN8 HR8 BX8
                go_wp2
                go_roundw
                case rel =>
                  obtain ⟨sn10, gr10⟩ := seen_set SN9.out v 1
                  rw [hset.out] at sn10
                  exact ⟨0 + 1, by omega, by go_num, by go_num, BX9.out.grown gr10 hG, sn10, HR9.out.grown gr10 hne.out⟩
                case measure => simp [intOf]; omega
              · obtain ⟨j, rfl⟩ : ∃ j, i = j + 1 := ⟨i - 1, by omega⟩
                have dj := hcell7 j (by omega)
                have hsr : Hid (UL.getD j 0 < UL.getD (j + 1) 0) := by
                  have := under_sorted S U b M a
                  rw [HUL.out] at this
                  exact sorted_lt this (by omega) (by rw [HN13.out]; exact hil)
                obtain ⟨x, hx⟩ : ∃ x, UL.getD j 0 = x := ⟨_, rfl⟩
                rw [hx] at dj hsr
                rw [HV0.out] at hsr
                have q5 : decide ((v : Int) ≤ x) = false := decide_eq_false (by have := hsr.out; omega)
                have q6 : (0 : Int) < (j : Int) + 1 := by omega
                have q7 : (j : Int) < (n13 : Int) := by omega
                have q8 : IntKind.i64.wrap ((j : Int) + 1 - 1) = j := by rw [IntWalk.i64_in _ (by omega)]; omega
                have q9 : (j : Int) + 1 < (n13 : Int) := by omega
                have q11 : (0 : Int) ≤ (j : Int) + 1 := by omega
                have q10 : IntKind.i64.wrap (j : Int) = j := IntWalk.i64_in _ (by omega)
                clear hx hcell7
                go_wp2
                go_region_held3 (fun w' => w.heap.size < w'.heap.size ∧ Below w.heap.size w w' ∧ w'.cell? ⟨w.heap.size, 0, none⟩ = some (.slice sa sl sc) ∧ w'.cell? ⟨w.heap.size, 1, none⟩ = some (.slice ua ul uc) ∧ b7 < w'.heap.size ∧ w'.cell? ⟨b7, off7 + (j + 1), none⟩ = some (.int .i64 v) ∧ G < w'.heap.size ∧ w'.cell? ⟨G, v, none⟩ = some (.int .i64 0) ∧ w'.cell? ⟨b7, off7 + j, none⟩ = some (.int .i64 x))
                  (first | assumption | exact cur3_mk (by assumption) (by assumption) (by assumption) (by assumption) (by assumption) (by assumption) | exact cur3_step (by assumption) (by assumption))
                  (first
                    | (go_at_call 14; refine (rsize_any _ _ _ _ _ _ S U _ _ (HD.out.below (cur3_bx (by assumption)).2.1) J1.out).mono ?_; rintro e w8 ⟨rfl, hb8⟩))
                have b8 := undrew hb8
                have BX8 : Hid (Bx w w8 (.slice sa sl sc) (.slice ua ul uc)) := BX7.out.step b8
                have SN8 : Hid (Seen w8 (w.heap.size + 1) G (sn S U a b M (UL.take (j + 1)))) := own_below SN7.out b8
                have HR8 : Hid (IRow .i64 w8 (some ⟨b7, off7, none⟩) n13 c13 UL) := HR7.out.below b8
                have d8 := ((bcell b8).1 _ _ hb7).trans d7
                have hb78 : b7 < w8.heap.size := Nat.lt_of_lt_of_le hb7 b8.size
                have bx8 := BX8.out
                obtain ⟨_, _, e0, e1⟩ := BX8.out
                clear dj bx7 c0 c1 d7 s7 fz7 b8 hb8 gl7 hb7 SN7 HR7 BX7
                go_wp2
                go_region_held3 (fun w' => w.heap.size < w'.heap.size ∧ Below w.heap.size w w' ∧ w'.cell? ⟨w.heap.size, 0, none⟩ = some (.slice sa sl sc) ∧ w'.cell? ⟨w.heap.size, 1, none⟩ = some (.slice ua ul uc) ∧ b7 < w'.heap.size ∧ w'.cell? ⟨b7, off7 + (j + 1), none⟩ = some (.int .i64 v))
                  (first | assumption | exact cur_mk (by assumption) (by assumption) (by assumption) | exact cur_step (by assumption) (by assumption))
                  (first
                    | (go_at_call 15; refine (lift_ok _ _ _ _ _ _ S U _ _ _ _ _ (HD.out.below (cur_bx (by assumption)).2.1) J1.out J2.out JV.out HVL (by omega)).mono ?_; rintro e w9 ⟨rfl, hb9⟩))
                have b9 := undrew hb9
                have BX9 : Hid (Bx w w9 (.slice sa sl sc) (.slice ua ul uc)) := BX8.out.step b9
                have SN9 : Hid (Seen w9 (w.heap.size + 1) G (sn S U a b M (UL.take (j + 1)))) := own_below SN8.out b9
                have HR9 : Hid (IRow .i64 w9 (some ⟨b7, off7, none⟩) n13 c13 UL) := HR8.out.below b9
                have d9 := ((bcell b9).1 _ _ hb78).trans d8
                obtain ⟨gl9, s9, fz9⟩ := seen_cell SN9.out hv40
                rw [SV.out] at s9
                clear bx8 e0 e1 d8 b9 hb9 hb78 SN8 HR8 BX8
                go_wp2
                go_roundw
                case rel =>
                  obtain ⟨sn10, gr10⟩ := seen_set SN9.out v 1
                  rw [hset.out] at sn10
                  exact ⟨(j + 1) + 1, by omega, by go_num, by go_num, BX9.out.grown gr10 hG, sn10, HR9.out.grown gr10 hne.out⟩
                case measure => simp [intOf]; omega
            · obtain rfl : i = n13 := by omega
              go_wp2
              go_roundw
              case rel =>
                refine ⟨M + 1, A + i, by omega, by go_num, by go_num, hAle, hid hAn.out.symm, BX7, ?_⟩
                have := SN7.out
                rw [← HN13.out, List.take_length, ← HUL.out, sn_next (by omega) hM2.out] at this
                exact this
              case measure => simp [intOf]; omega
        · obtain rfl : M = ZB := by omega
          have hAf : A = ZA := by rw [HA.out, la.out]
          subst hAf
          have t1 : True := trivial
          go_wp2_with (first
            | (go_at_call 14; clear t1; refine (rsize_any _ _ _ _ _ _ S U _ _ (HD.out.below BX4.out.2.1) J2.out).mono ?_; rintro e w5 ⟨rfl, hb5⟩; have BX5 : Hid (Bx w w5 (.slice sa sl sc) (.slice ua ul uc)) := BX4.out.step hb5; obtain ⟨_, _, d0, d1⟩ := BX5.out)
            | (go_at_call 14; refine (rsize_any _ _ _ _ _ _ S U _ _ (HD.out.below BX5.out.2.1) J1.out).mono ?_; rintro e w6 ⟨rfl, hb6⟩)
            | (go_at_call 9; refine (wakes_any _).mono ?_; rintro e w9 ⟨rfl, hb9⟩))
          go_ret
          exact ⟨rfl, bt (bt BX5.out.2.1 hb6) hb9⟩

end Go.Proofs.Ytffhjmldijbolaa

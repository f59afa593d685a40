/-
  -
  -
  -
  Conditions: as each theorem states them.
-/
import Derived.Test.YtjkkajhjcinalaaQAC
import Derived.Test.YtjkkajhjcinalaaQAD
import Derived.Test.YtjkkajhjcinalaaQAE
import Derived.Test.YtjkkajhjcinalaaQAN
import Derived.Test.YtjkkajhjcinalaaQAO
import Derived.Test.YtjkkajhjcinalaaQAP
namespace Go.Proofs.Ytjkkajhjcinalaa
open Go.ChangeShapes Go.WideShapes Go.ChangeAt Go.RowKit
set_option linter.unusedVariables false
set_option linter.unusedSimpArgs false
set_option maxRecDepth 100000

abbrev Ch := Bool × Rw
def ccs : Ch → List Value | (d, r) => .bool d :: rcs r
def cok : Ch → Prop | (_, r) => rok r
/-- A slice of changes, in a world. -/
def CRow (w : World) (a : Option Addr) (n c : Nat) (l : List Ch) : Prop :=
  n = l.length ∧ n ≤ c ∧ c ≤ maxLen ∧ (a = none → c = 0) ∧ (0 < n → ∃ b off, a = some ⟨b, off, none⟩ ∧ b < w.heap.size ∧ ∀ j r, l[j]? = some r → ∀ i v, (ccs r)[i]? = some v → w.cell? ⟨b, off + j * 7 + i, none⟩ = some v)
theorem CRow.below {w w' : World} {a : Option Addr} {n c : Nat} {l : List Ch} (h : CRow w a n c l) (hb : Below w.heap.size w w') : CRow w' a n c l := by
  obtain ⟨h1, h2, h3, h4, h5⟩ := h
  refine ⟨h1, h2, h3, h4, fun h0 => ?_⟩
  obtain ⟨b, off, e, hlt, hl⟩ := h5 h0
  exact ⟨b, off, e, Nat.lt_of_lt_of_le hlt hb.size, fun j r hj i v hi => ((bcell hb).1 b _ hlt).trans (hl j r hj i v hi)⟩
theorem crow_nil (w : World) : CRow w none 0 0 [] := ⟨rfl, Nat.le_refl _, by decide, fun _ => rfl, fun h => by cases h⟩
theorem CRow.lens {w : World} {a : Option Addr} {n c : Nat} {l : List Ch} (h : CRow w a n c l) : n = l.length ∧ n ≤ 9223372036854775807 := by
  obtain ⟨h1, h2, h3, _⟩ := h
  unfold maxLen at h3
  exact ⟨h1, by omega⟩
/-- One change of it, read. -/
theorem CRow.pick {w w' : World} {a : Option Addr} {n c : Nat} {l : List Ch} (h : CRow w a n c l) (hb : Below w.heap.size w w') {k : Nat} (hk : k < n) :
    ∃ b off x d0 x0 x1 x2 x3 m0 m1, a = some ⟨b, off, none⟩ ∧ x = (d0, (x0, x1, x2, x3, m0, m1)) ∧ l[k]? = some x ∧ w'.cell? ⟨b, off + k * 7, none⟩ = some (.bool d0) ∧ w'.cell? ⟨b, off + k * 7 + 1, none⟩ = some (.int .u8 x0) ∧ w'.cell? ⟨b, off + k * 7 + 2, none⟩ = some (.int .u8 x1) ∧ w'.cell? ⟨b, off + k * 7 + 3, none⟩ = some (.int .u8 x2) ∧ w'.cell? ⟨b, off + k * 7 + 4, none⟩ = some (.int .u8 x3) ∧ w'.cell? ⟨b, off + k * 7 + 5, none⟩ = some (.int .i64 m0) ∧ w'.cell? ⟨b, off + k * 7 + 6, none⟩ = some (.int .i64 m1) := by
  obtain ⟨h1, h2, h3, h4, h5⟩ := h.below hb
  obtain ⟨b, off, e, hlt, hl⟩ := h5 (by omega)
  obtain ⟨r, hr⟩ : ∃ r, l[k]? = some r := ⟨l[k]'(by omega), List.getElem?_eq_getElem (by omega)⟩
  obtain ⟨d0, x0, x1, x2, x3, m0, m1⟩ := r
  have := hl k _ hr
  exact ⟨b, off, _, d0, x0, x1, x2, x3, m0, m1, e, rfl, hr, this 0 _ rfl, this 1 _ rfl, this 2 _ rfl, this 3 _ rfl, this 4 _ rfl, this 5 _ rfl, this 6 _ rfl⟩

theorem cells_ch : Try.prog.cellsOf 76 = 7 := by kernel_rfl
theorem open_change_cells {H : Type} {enc : TypeId × Value → H} {W : World} {base fuel : Nat} {spare : Nat → Bool} {held : Bool} {c0 c1 c2 c3 c4 c5 c6 : Value} {x : DataW H × List MemPlace}
    (hf : DataW.trod enc Try.prog W base spare held fuel 76 [c0, c1, c2, c3, c4, c5, c6] = some x) : ∃ (d0 : Bool) (x0 x1 x2 x3 m0 m1 : Int), [c0, c1, c2, c3, c4, c5, c6] = ccs (d0, (x0, x1, x2, x3, m0, m1)) ∧ cok (d0, (x0, x1, x2, x3, m0, m1)) := by
  have hO : Try.prog.cellsOf 4 = 1 := by kernel_rfl
  have hM : Try.prog.cellsOf 53 = 6 := by kernel_rfl
  obtain ⟨xs, m, _, _, _, hl, hg⟩ := DataW.trod_struct Try.underlying76 hf
  have g0 := hg 0
  have g1 := hg 1
  simp [hO, hM] at g0 g1
  match xs, hl with
  | [y0, y1], _ =>
    obtain ⟨d0, e0, _⟩ := DataW.trod_bool Try.underlying4 g0
    simp at e0
    subst e0
    obtain ⟨x0, x1, x2, x3, m0, m1, e, hr⟩ := open_row_cells (c0 := c1) (c1 := c2) (c2 := c3) (c3 := c4) (c4 := c5) (c5 := c6) g1
    exact ⟨d0, x0, x1, x2, x3, m0, m1, by rw [e]; rfl, hr⟩
theorem open_changes {H : Type} {enc : TypeId × Value → H} {W : World} {base b0 : Nat} {r : Reach} {v : Value} {d : DataW H} {p : List MemPlace}
    (hv : Value.okWide Try.prog W r b0 71 v) (h : DataW.Trod enc Try.prog W base (fun _ => true) true 71 v d p) :
    ∃ a n c l, v = .slice a n c ∧ CRow W a n c l ∧ ∀ r ∈ l, cok r := by
  obtain ⟨a, len, cap, rfl⟩ := okWide_slice Try.underlying71 hv
  obtain ⟨fuel, hf⟩ := h
  rcases Go.Deep.open_slice Try.underlying71 hf with ⟨hcs, _⟩ | ⟨ad, len', cap', m, n', D, Pl, hcs, hb, hl, hm, hmm, _, hx⟩
  · simp [Value.cells] at hcs
    obtain ⟨rfl, rfl, rfl⟩ := hcs
    exact ⟨none, 0, 0, [], rfl, crow_nil W, fun r hr => by cases hr⟩
  · simp [Value.cells] at hcs
    obtain ⟨rfl, rfl, rfl⟩ := hcs
    simp only [if_true] at hmm
    have each : ∀ i, i < len → ∃ q : Ch, cok q ∧ ∀ k v, (ccs q)[k]? = some v → W.cell? (ad.add (i * 7 + k)) = some v := by
      intro i hi
      obtain ⟨cs', h1, h2⟩ := hx i (by omega)
      rw [cells_ch] at h1
      obtain ⟨_, hlen, hcell⟩ := World.cells?_some h1
      match cs', hlen with
      | [c0, c1, c2, c3, c4, c5, c6], _ =>
        obtain ⟨d0, x0, x1, x2, x3, m0, m1, e, hr⟩ := open_change_cells h2
        refine ⟨_, hr, fun k v hk => ?_⟩
        rw [← e] at hk
        have hk6 : k < 7 := by
          have := (List.getElem?_eq_some_iff.1 hk).1
          simpa using this
        have := hcell k (by simpa using hk6)
        rw [Go.Deep.add_add] at this
        rw [this]
        exact hk
    obtain ⟨q, hq⟩ := Go.Deep.choose_lt each
    refine ⟨some ad, len, cap, (List.range len).map q, rfl, ⟨by simp, hl, hm, (fun h => by cases h), fun h0 => ?_⟩, ?_⟩
    · obtain ⟨b, off, spot⟩ := ad
      have hc0 := (hq 0 (by omega)).2 0
      obtain ⟨⟨d0, x0, x1, x2, x3, m0, m1⟩, hq0⟩ : ∃ y, q 0 = y := ⟨_, rfl⟩
      have hc := hc0 (.bool d0) (by rw [hq0]; rfl)
      have hspot : spot = none := by simpa [Addr.add] using World.cell?_spot hc
      subst hspot
      have hb' := World.block_lt_of_cell? _ _ hc
      refine ⟨b, off, rfl, by simpa [Addr.add] using hb', fun j r hj i v hi => ?_⟩
      have hjl : j < len := by
        have := (List.getElem?_eq_some_iff.1 hj).1
        simpa using this
      rw [List.getElem?_map, List.getElem?_range hjl] at hj
      simp at hj
      subst hj
      have := (hq j hjl).2 i v hi
      rw [add_at, ← Nat.add_assoc] at this
      exact this
    · intro r hr
      simp only [List.mem_map, List.mem_range] at hr
      obtain ⟨i, hi, rfl⟩ := hr
      exact (hq i hi).1

theorem box_oct {w : World} {D : Nat} {t : TypeId} {c0 c1 c2 c3 c4 c5 c6 c7 : Value} (hD : w.heap[D]? = some (.cells #[c0, c1, c2, c3, c4, c5, c6, c7] t)) : w.cell? ⟨D, 0, none⟩ = some c0 ∧ w.cell? ⟨D, 1, none⟩ = some c1 ∧ w.cell? ⟨D, 2, none⟩ = some c2 ∧ w.cell? ⟨D, 3, none⟩ = some c3 ∧ w.cell? ⟨D, 4, none⟩ = some c4 ∧ w.cell? ⟨D, 5, none⟩ = some c5 ∧ w.cell? ⟨D, 6, none⟩ = some c6 ∧ w.cell? ⟨D, 7, none⟩ = some c7 := by
  refine ⟨?_, ?_, ?_, ?_, ?_, ?_, ?_, ?_⟩ <;> simp [World.cell?, hD]
theorem ofdC_ok {m m0 m1 : Int} {del : Bool} (h0 : I64 m0) (h1 : I64 m1) : okd (ofdC m m0 m1 del) := by
  by_cases hm : m = 1 ∨ m = 2
  · cases del with
    | false => rw [(ofd_come hm).2]; exact of1_ok h0 h1
    | true => rw [← (ofd_go hm).2]; exact dnC_ok (of1_ok h0 h1)
  · have e : ofdB m m0 m1 del = false := ofd_no (by simp only [Bool.or_eq_false_iff, decide_eq_false_iff_not]; omega)
    rw [ofdC_no e]; exact dl0_ok
theorem ofdC_sh {m m0 m1 : Int} {del : Bool} : shn 1 (ofdC m m0 m1 del) := by
  have k0 : ∀ k, shn k dl0 := fun k => ⟨⟨Nat.zero_le _, Nat.zero_le _⟩, Nat.zero_le _, Nat.zero_le _⟩
  have k1 : shn 1 (of1 m m0 m1) := by
    unfold shn of1
    refine ⟨⟨Nat.le_refl _, ?_⟩, Nat.zero_le _, Nat.zero_le _⟩
    show (if m = 2 then [(m1, (1 : Int))] else []).length ≤ 1
    split <;> simp
  by_cases hm : m = 1 ∨ m = 2
  · cases del with
    | false => rw [(ofd_come hm).2]; exact k1
    | true => rw [← (ofd_go hm).2]; exact dnC_sh k1
  · have e : ofdB m m0 m1 del = false := ofd_no (by simp only [Bool.or_eq_false_iff, decide_eq_false_iff_not]; omega)
    rw [ofdC_no e]; exact k0 1
theorem shn_0 (k : Nat) : shn k dl0 := ⟨⟨Nat.zero_le _, Nat.zero_le _⟩, Nat.zero_le _, Nat.zero_le _⟩

set_option maxHeartbeats 64000000 in
theorem dsum_m (m : Int) (a : Option Addr) (n c : Nat) (l : List Ch) (w : World) (hl : CRow w a n c l) (hk : ∀ r ∈ l, cok r) (hn : n ≤ 400) :
    Calls Try.prog 35 #[.int .i64 m, .slice a n c] w fun e w' => (∃ (D : Dl) (v : Bool) (r0 : Option Addr) (r1 r2 : Nat) (r3 : Option Addr) (r4 r5 : Nat) (r6 : Option Addr) (r7 r8 : Nat) (r9 : Option Addr) (r10 r11 : Nat), e = .returned (.agg #[.int .i64 D.n, .int .i64 D.s0, .int .i64 D.s1, .slice r0 r1 r2, .slice r3 r4 r5, .slice r6 r7 r8, .slice r9 r10 r11, .bool v]) ∧ DW w' r0 r1 r2 r3 r4 r5 r6 r7 r8 r9 r10 r11 D ∧ okd D ∧ shn n D) ∧ Below w.heap.size w w' := by
  have HL := hid hl
  have HK := hid hk
  have KR := hid (kp_new w (.cells #[.int .i64 0, .int .i64 0, .int .i64 0, .slice none 0 0, .slice none 0 0, .slice none 0 0, .slice none 0 0, .bool false] 78))
  clear hl hk
  go_enter Try.func35, Try.ntmps35
  go_upto_region 1 with fail
  generalize w.alloc (.cells #[.int .i64 0, .int .i64 0, .int .i64 0, .slice none 0 0, .slice none 0 0, .slice none 0 0, .slice none 0 0, .bool false] 78) = W at KR ⊢
  obtain ⟨N0, hN0⟩ : ∃ y, w.heap.size = y := ⟨_, rfl⟩
  rw [hN0] at KR ⊢
  have HN0 := hid hN0
  clear hN0
  have L0 := heap_lt KR.out.2.2
  have KD : Hid (Kp w (W.alloc (.cells #[.int .i64 0, .int .i64 0, .int .i64 0, .slice none 0 0, .slice none 0 0, .slice none 0 0, .slice none 0 0, .bool true] 78)) W.heap.size (.cells #[.int .i64 dl0.n, .int .i64 dl0.s0, .int .i64 dl0.s1, .slice none 0 0, .slice none 0 0, .slice none 0 0, .slice none 0 0, .bool true] 78)) := hid (kp_new2 KR.out.1 _ _ rfl)
  replace KR := hid (kp_alloc KR.out (.cells #[.int .i64 0, .int .i64 0, .int .i64 0, .slice none 0 0, .slice none 0 0, .slice none 0 0, .slice none 0 0, .bool true] 78))
  go_upto_region 2 with fail
  generalize W.alloc (.cells #[.int .i64 0, .int .i64 0, .int .i64 0, .slice none 0 0, .slice none 0 0, .slice none 0 0, .slice none 0 0, .bool true] 78) = W1 at KD KR ⊢
  obtain ⟨N1, hN1⟩ : ∃ y, W.heap.size = y := ⟨_, rfl⟩
  rw [hN1] at KD L0 ⊢
  have HN := hid L0
  clear hN1 L0
  go_upto_region 3 with fail
  go_loopw [6] (fun i wr => ∃ (k : Nat) (D : Dl) (ok : Bool) (a0 : Option Addr) (a1 a2 : Nat) (a3 : Option Addr) (a4 a5 : Nat) (a6 : Option Addr) (a7 a8 : Nat) (a9 : Option Addr) (a10 a11 : Nat), k ≤ n ∧ i = .int .i64 k ∧ Hid (Kp w wr N0 (.cells #[.int .i64 0, .int .i64 0, .int .i64 0, .slice none 0 0, .slice none 0 0, .slice none 0 0, .slice none 0 0, .bool false] 78)) ∧ Hid (Kp w wr N1 (.cells #[.int .i64 D.n, .int .i64 D.s0, .int .i64 D.s1, .slice a0 a1 a2, .slice a3 a4 a5, .slice a6 a7 a8, .slice a9 a10 a11, .bool ok] 78)) ∧ Hid (DW wr a0 a1 a2 a3 a4 a5 a6 a7 a8 a9 a10 a11 D) ∧ Hid (okd D) ∧ Hid (shn k D) ∧ Hid (∃ wf : World, N1 < wf.heap.size ∧ FD wf a0 a1 a3 a4 a6 a7 a9 a10)) (fun i _ => n - (intOf i).toNat)
  case atStart => exact ⟨0, dl0, true, none, 0, 0, none, 0, 0, none, 0, 0, none, 0, 0, by omega, rfl, KR, KD, hid (dw_0 _), hid dl0_ok, hid (shn_0 0), hid ⟨W1, heap_lt KD.out.2.2, fd_0 _⟩⟩
  case round =>
    obtain ⟨k, D, ok, d0, d1, d2, d3, d4, d5, d6, d7, d8, d9, d10, d11, hkn, rfl, KR, KD, DD, OD, SD, FF⟩ := hrel
    have hk0 : (0 : Int) ≤ (k : Int) := by omega
    obtain ⟨g0, g1, g2, g3, g4, g5, g6, g7⟩ := box_oct KD.out.2.2
    by_cases hlt : k < n
    · have hki : (k : Int) < (n : Int) := by omega
      have hkd : decide ((k : Int) < (n : Int)) = true := decide_eq_true hki
      cases ok with
      | true =>
        obtain ⟨b, off, xr, del, x0, x1, x2, x3, m0, m1, rfl, ex, hr, p0, p1, p2, p3, p4, p5, p6⟩ := HL.out.pick KR.out.1 hlt
        have HR := HK.out xr (List.mem_of_getElem? hr)
        subst ex
        have H0 := hid HR.2.1
        have H1 := hid HR.2.2
        clear hr HR
        obtain ⟨X, hX⟩ : ∃ y, ofdC m m0 m1 del = y := ⟨_, rfl⟩
        obtain ⟨vx, hvx⟩ : ∃ y, ofdB m m0 m1 del = y := ⟨_, rfl⟩
        have FX := hid hX
        have FV := hid hvx
        have OX : Hid (okd X) := hid (by rw [← hX]; exact ofdC_ok H0.out H1.out)
        have SX : Hid (shn 1 X) := hid (by rw [← hX]; exact ofdC_sh)
        clear hX hvx
        go_upto_region 6 with (first
          | (go_at_call 33; refine (rdof_m m m0 m1 x0 x1 x2 x3 del X vx _ H0.out H1.out FX FV).mono ?_; rintro e v1 ⟨⟨y0, y1, y2, y3, y4, y5, y6, y7, y8, y9, y10, y11, rfl, hd, hf⟩, hb⟩; have DX := hid hd; replace KR := hid (KR.out.step hb); replace KD := hid (KD.out.step hb); replace DD := hid (DD.out.below hb); clear hd hf hb g0 g1 g2 g3 g4 g5 g6 g7 p0 p1 p2 p3 p4 p5 p6)
          | (have KZ : Hid (Kp w (v1.alloc (.cells #[.int .i64 0, .int .i64 0, .int .i64 0, .slice none 0 0, .slice none 0 0, .slice none 0 0, .slice none 0 0, .bool false] 78)) v1.heap.size (.cells #[.int .i64 0, .int .i64 0, .int .i64 0, .slice none 0 0, .slice none 0 0, .slice none 0 0, .slice none 0 0, .bool false] 78)) := hid (kp_new2 KR.out.1 _ _ rfl); refine wpList_store_whole rfl 78 (.tmp 7) (.tmp 24) rfl v1.heap.size (rdC X.n X.s0 X.s1 y0 y1 y2 y3 y4 y5 y6 y7 y8 y9 y10 y11 vx) rfl rfl 78 _ KZ.out.2.2 rfl (by show _ = some 8; exact size_rd) (rdC_one _ _ _ _ _ _ _ _ _ _ _ _ _ _ _ _) ?_; intro w9 hp9 hg9; have KX := hid (kp_at KZ.out hg9 hp9); replace KR := hid (kp_new_gr KR.out hg9); replace KD := hid (kp_new_gr KD.out hg9); replace DD := hid (dw_new_gr DD.out hg9); replace DX := hid (dw_new_gr DX.out hg9); clear KZ; clear hp9 hg9))
        rename World => v2
        generalize v1.heap.size = NX at KX ⊢
        obtain ⟨h0, h1, h2, h3, h4, h5, h6, h7⟩ := box_oct KX.out.2.2
        cases vx with
        | false =>
          go_wp2_with (refine wpList_store_whole rfl 78 (.tmp 4) (.tmp 28) rfl N0 (rdC 0 0 0 none 0 0 none 0 0 none 0 0 none 0 0 false) rfl rfl 78 _ KR.out.2.2 rfl (by show _ = some 8; exact size_rd) (rdC_one _ _ _ _ _ _ _ _ _ _ _ _ _ _ _ _) ?_; intro w9 hp9 hg9; have KR9 := hid (kp_at KR.out hg9 hp9); clear hp9 hg9)
          (try simp only [Exit.inBlock, Exit.then])
          show bodyPost Try.prog Try.f35 _ _ _ _
          refine bodyPost_ret (results_cell_row (p := 4) rfl _ _ N0 _ (rdC 0 0 0 none 0 0 none 0 0 none 0 0 none 0 0 false) (0, 0) _ rfl KR9.out.2.2 Try.underlying78 rfl (by kernel_rfl)) rfl ?_
          exact ⟨⟨dl0, false, none, 0, 0, none, 0, 0, none, 0, 0, none, 0, 0, rfl, dw_0 _, dl0_ok, shn_0 _⟩, KR9.out.1⟩
        | true =>
          obtain ⟨J, hJ⟩ : ∃ y, djC m D X = y := ⟨_, rfl⟩
          obtain ⟨vj, hvj⟩ : ∃ y, djB m D X = y := ⟨_, rfl⟩
          have FJ := hid hJ
          have FVJ := hid hvj
          have OJ : Hid (okd J) := hid (by rw [← hJ]; exact djC_ok OD.out OX.out)
          have SJ : Hid (shn (k + 1) J) := hid (by rw [← hJ]; exact djC_sh SD.out SX.out)
          clear hJ hvj
          obtain ⟨g0, g1, g2, g3, g4, g5, g6, g7⟩ := box_oct KD.out.2.2
          have LT := hid (heap_lt KD.out.2.2)
          go_upto_region 4 with (first
            | (go_at_call 43; refine (rdjoin_m m D X d0 d1 d2 d3 d4 d5 d6 d7 d8 d9 d10 d11 y0 y1 y2 y3 y4 y5 y6 y7 y8 y9 y10 y11 J vj _ DD.out DX.out OD.out OX.out (shn_5 SD.out (by omega)) (shn_5 SX.out (by omega)) FJ FVJ).mono ?_; rintro e v3 ⟨⟨z0, z1, z2, z3, z4, z5, z6, z7, z8, z9, z10, z11, rfl, hd, hf⟩, hb⟩; have DJ := hid hd; have FDJ := hid hf; replace KR := hid (KR.out.step hb); replace KD := hid (KD.out.step hb); clear hd hf hb g0 g1 g2 g3 g4 g5 g6 g7 h0 h1 h2 h3 h4 h5 h6 h7)
            | (refine wpList_store_whole rfl 78 (.tmp 5) (.tmp 34) rfl N1 (rdC J.n J.s0 J.s1 z0 z1 z2 z3 z4 z5 z6 z7 z8 z9 z10 z11 vj) rfl rfl 78 _ KD.out.2.2 rfl (by show _ = some 8; exact size_rd) (rdC_one _ _ _ _ _ _ _ _ _ _ _ _ _ _ _ _) ?_; intro w9 hp9 hg9; replace DJ := hid (dw_apart DJ.out FDJ.out hg9 LT.out); replace KR := hid (kp_gr KR.out hg9 (by have := HN.out; omega) (by have := HN.out; have := HN0.out; omega)); replace KD := hid (kp_at KD.out hg9 hp9); clear hp9 hg9))
          go_wp2
          go_roundw
          case rel => exact ⟨k + 1, J, vj, z0, z1, z2, z3, z4, z5, z6, z7, z8, z9, z10, z11, by omega, by go_num, KR, KD, DJ, OJ, SJ, hid ⟨_, LT.out, FDJ.out⟩⟩
          case measure => simp [intOf]; omega
      | false =>
        obtain ⟨wf, hwf, hfd⟩ := FF.out
        have FFD := hid hfd
        have SK : Hid (shn n D) := hid (by obtain ⟨⟨h1, h2⟩, h3, h4⟩ := SD.out; exact ⟨⟨by omega, by omega⟩, by omega, by omega⟩)
        clear hfd FF
        go_wp2_with (refine wpList_store_whole rfl 78 (.tmp 4) (.tmp 35) rfl N0 (rdC D.n D.s0 D.s1 d0 d1 d2 d3 d4 d5 d6 d7 d8 d9 d10 d11 false) rfl rfl 78 _ KR.out.2.2 rfl (by show _ = some 8; exact size_rd) (rdC_one _ _ _ _ _ _ _ _ _ _ _ _ _ _ _ _) ?_; intro w9 hp9 hg9; have KR9 := hid (kp_at KR.out hg9 hp9); have D9 := hid (dw_apart DD.out FFD.out hg9 (by have := HN.out; omega)); clear hp9 hg9)
        (try simp only [Exit.inBlock, Exit.then])
        show bodyPost Try.prog Try.f35 _ _ _ _
        refine bodyPost_ret (results_cell_row (p := 4) rfl _ _ N0 _ (rdC D.n D.s0 D.s1 d0 d1 d2 d3 d4 d5 d6 d7 d8 d9 d10 d11 false) (0, 0) _ rfl KR9.out.2.2 Try.underlying78 rfl (by kernel_rfl)) rfl ?_
        exact ⟨⟨D, false, d0, d1, d2, d3, d4, d5, d6, d7, d8, d9, d10, d11, rfl, D9.out, OD.out, SK.out⟩, KR9.out.1⟩
    · have hkf : decide ((k : Int) < (n : Int)) = false := decide_eq_false (by omega)
      obtain ⟨wf, hwf, hfd⟩ := FF.out
      have FFD := hid hfd
      have SK : Hid (shn n D) := hid (by obtain ⟨⟨h1, h2⟩, h3, h4⟩ := SD.out; exact ⟨⟨by omega, by omega⟩, by omega, by omega⟩)
      clear hfd FF
      go_wp2_with (refine wpList_store_whole rfl 78 (.tmp 4) (.tmp 35) rfl N0 (rdC D.n D.s0 D.s1 d0 d1 d2 d3 d4 d5 d6 d7 d8 d9 d10 d11 ok) rfl rfl 78 _ KR.out.2.2 rfl (by show _ = some 8; exact size_rd) (rdC_one _ _ _ _ _ _ _ _ _ _ _ _ _ _ _ _) ?_; intro w9 hp9 hg9; have KR9 := hid (kp_at KR.out hg9 hp9); have D9 := hid (dw_apart DD.out FFD.out hg9 (by have := HN.out; omega)); clear hp9 hg9)
      (try simp only [Exit.inBlock, Exit.then])
      show bodyPost Try.prog Try.f35 _ _ _ _
      refine bodyPost_ret (results_cell_row (p := 4) rfl _ _ N0 _ (rdC D.n D.s0 D.s1 d0 d1 d2 d3 d4 d5 d6 d7 d8 d9 d10 d11 ok) (0, 0) _ rfl KR9.out.2.2 Try.underlying78 rfl (by kernel_rfl)) rfl ?_
      exact ⟨⟨D, ok, d0, d1, d2, d3, d4, d5, d6, d7, d8, d9, d10, d11, rfl, D9.out, OD.out, SK.out⟩, KR9.out.1⟩

end Go.Proofs.Ytjkkajhjcinalaa

namespace Go.Proofs.Ytjkkajhjcinalaa
open Go.RowKit
set_option linter.unusedVariables false
set_option linter.unusedSimpArgs false
set_option maxRecDepth 100000

theorem da_open {m : Int} {c : Cl} {is : Bool} {d : Dl} (h : daB m c is d = true) : (DG m d ∧ stB m c is = true) ∧ (Fits c.b0 d.o0 ∧ Fits c.b1 d.o1) ∧ (tot c.b0 - tot d.o0 + tot d.i0 ≤ 1099511627776 ∧ tot c.b1 - tot d.o1 + tot d.i1 ≤ 1099511627776) ∧ calc.fitB (c.s0 + d.s0) = true ∧ calc.fitB (c.s1 + d.s1) = true := by
  unfold daB at h
  simp only [Bool.and_eq_true, decide_eq_true_iff] at h
  obtain ⟨⟨g, s⟩, ⟨f1, f2⟩, ⟨t1, t2⟩, e1, e2⟩ := h
  exact ⟨⟨dg_iff.1 g, s⟩, ⟨fits_iff.1 f1, fits_iff.1 f2⟩, ⟨t1, t2⟩, e1, e2⟩
/-- What stands is reckoned; it is there just if it has rows. -/
def RkC (m : Int) (c : Cl) : Prop := Rk1 c.n c.s0 c.b0 ∧ ((m = 1 ∧ c.s1 = 0 ∧ c.b1 = []) ∨ (m = 2 ∧ Rk1 c.n c.s1 c.b1))
theorem st_open {m : Int} {c : Cl} {is : Bool} (h : stB m c is = true) : RkC m c ∧ (0 ≤ c.n ∧ c.n ≤ 1099511627776) ∧ is = !decide (c.n = 0) := by
  cases is with
  | true =>
    have g := cg_iff.1 (show cg m c = true from h)
    refine ⟨g.2, ⟨by have := g.1; omega, g.1.2⟩, ?_⟩
    rw [decide_eq_false (by have := g.1.1; omega)]
    rfl
  | false =>
    have h' : ((decide (m = 1) || decide (m = 2)) && csm c cl0) = true := h
    simp only [Bool.and_eq_true, Bool.or_eq_true, decide_eq_true_iff] at h'
    have e := csm_iff.1 h'.2
    subst e
    refine ⟨⟨⟨bag_nil, rfl, rfl⟩, ?_⟩, ⟨by show (0 : Int) ≤ 0; decide, by show (0 : Int) ≤ 1099511627776; decide⟩, rfl⟩
    rcases h'.1 with rfl | rfl
    · exact .inl ⟨rfl, rfl, rfl⟩
    · exact .inr ⟨rfl, bag_nil, rfl, rfl⟩
theorem tot_zero {l : List Rn} (h : Pos l) (e : tot l = 0) : l = [] := by
  cases l with
  | nil => rfl
  | cons x l =>
    have h1 := h x (by simp)
    have h2 := tot_nn (l := l) (fun r hr => h r (by simp [hr]))
    simp only [tot] at e
    omega
theorem rk_zero {s : Int} {b : List Rn} (h : Rk1 0 s b) : b = [] ∧ s = 0 := by
  have e := tot_zero h.1.2.1 h.2.1
  subst e
  exact ⟨rfl, h.2.2.symm⟩
theorem rkc_zero {m : Int} {c : Cl} (h : RkC m c) (e : c.n = 0) : c = cl0 := by
  obtain ⟨n, s0, s1, b0, b1⟩ := c
  simp only at e
  subst e
  obtain ⟨h0, h1⟩ := h
  obtain ⟨e1, e2⟩ := rk_zero h0
  simp only at e1 e2
  subst e1 e2
  rcases h1 with ⟨_, e3, e4⟩ | ⟨_, k⟩
  · simp only at e3 e4
    subst e3 e4
    rfl
  · obtain ⟨e3, e4⟩ := rk_zero k
    simp only at e3 e4
    subst e3 e4
    rfl
theorem st_made {m : Int} {c : Cl} (h : RkC m c) (h0 : 0 ≤ c.n) (h1 : c.n ≤ 1099511627776) : stB m c (!decide (c.n = 0)) = true := by
  by_cases e : c.n = 0
  · have e2 := rkc_zero h e
    rw [decide_eq_true e]
    show ((decide (m = 1) || decide (m = 2)) && csm c cl0) = true
    rw [e2, csm_self]
    rcases h.2 with ⟨rfl, _⟩ | ⟨rfl, _⟩ <;> rfl
  · rw [decide_eq_false e]
    show cg m c = true
    exact cg_yes ⟨⟨by omega, h1⟩, h⟩
theorem rk_da {n s k t : Int} {b o i : List Rn} (h : Rk1 n s b) (g : Nt k t i o) (f : Fits b o) (ht : tot b - tot o + tot i ≤ 1099511627776) : Rk1 (n + k) (s + t) (jnl (mnl b o) i) := by
  obtain ⟨h1, h2, h3⟩ := h
  obtain ⟨g1, g2, g3, g4, _⟩ := g
  have mb := mnl_bg h1 g2 f
  refine ⟨jnl_bg mb g1 (by rw [mnl_tot]; exact ht), ?_, ?_⟩
  · rw [jnl_tot, mnl_tot]; omega
  · rw [wsum_jnl, wsum_mnl]; omega
theorem da_rkc {m : Int} {c : Cl} {is : Bool} {d : Dl} (h : daB m c is d = true) : RkC m (daR c d) ∧ 0 ≤ c.n + d.n ∧ c.n + d.n ≤ 1099511627776 := by
  obtain ⟨⟨g, s⟩, ⟨f0, f1⟩, ⟨t0, t1⟩, _⟩ := da_open h
  obtain ⟨⟨r0, r1⟩, _, _⟩ := st_open s
  have k0 := rk_da r0 g.1 f0 t0
  have b0 := k0.2.1
  have nn := tot_nn k0.1.2.1
  refine ⟨⟨k0, ?_⟩, by omega, by have := k0.1.2.2; omega⟩
  rcases g.2 with ⟨e, e1, e2, e3⟩ | ⟨e, n1⟩
  · rcases r1 with ⟨_, q1, q2⟩ | ⟨q, _⟩
    · refine .inl ⟨e, ?_, ?_⟩
      · show c.s1 + d.s1 = 0; omega
      · show jnl (mnl c.b1 d.o1) d.i1 = []; rw [q2, e2, e3]; rfl
    · omega
  · rcases r1 with ⟨q, _⟩ | ⟨_, q1⟩
    · omega
    · exact .inr ⟨e, rk_da q1 n1 f1 t1⟩
theorem da_is {m : Int} {c : Cl} {is : Bool} {d : Dl} (h : daB m c is d = true) : daI m c is d = !decide (c.n + d.n = 0) := by
  unfold daI; rw [h]; rfl
/-- What a cell becomes, where it becomes something: as reckoned, and it stands. -/
theorem da_c {m : Int} {c : Cl} {is : Bool} {d : Dl} (h : daB m c is d = true) : daC m c is d = daR c d ∧ stB m (daR c d) (daI m c is d) = true := by
  obtain ⟨k, n0, n1⟩ := da_rkc h
  have e := da_is h
  refine ⟨?_, by rw [e]; exact st_made k n0 n1⟩
  unfold daC
  rw [e]
  by_cases z : c.n + d.n = 0
  · rw [decide_eq_true z]
    exact (rkc_zero k z).symm
  · rw [decide_eq_false z]; rfl
theorem bag_back {b o i : List Rn} (hb : Bag b) (ho : Bag o) (hi : Bag i) (f : Fits b o) (ht : tot b - tot o + tot i ≤ 1099511627776) :
    Fits (jnl (mnl b o) i) i ∧ tot (jnl (mnl b o) i) - tot i + tot o = tot b ∧ jnl (mnl (jnl (mnl b o) i) i) o = b := by
  have mb := mnl_bg hb ho f
  have jb := jnl_bg mb hi (by rw [mnl_tot]; exact ht)
  have ff : Fits (jnl (mnl b o) i) i := fun r hr => by
    have h1 := cn_srt_eq hi.1 hr
    have h2 := cn_nn (v := r.1) mb.2.1
    rw [jnl_cn]
    omega
  refine ⟨ff, by rw [jnl_tot, mnl_tot]; omega, ?_⟩
  have m2 := mnl_bg jb hi ff
  refine runs_ext (jnl_srt m2.1 o) (pos_nz (jnl_pos m2.2.1 ho.2.1)) hb.1 (pos_nz hb.2.1) (fun v => ?_)
  rw [jnl_cn, mnl_cn, jnl_cn, mnl_cn]
  omega
/-- P10.5, as numbers and bags. -/
theorem da_back {m : Int} {c : Cl} {is : Bool} {d : Dl} (h : daB m c is d = true) (hn : dnB m d = true) (kc : okc c) :
    daB m (daC m c is d) (daI m c is d) (dnC m d) = true ∧ daI m (daC m c is d) (daI m c is d) (dnC m d) = is ∧ daC m (daC m c is d) (daI m c is d) (dnC m d) = c := by
  obtain ⟨⟨g, s⟩, ⟨f0, f1⟩, ⟨t0, t1⟩, _⟩ := da_open h
  obtain ⟨⟨g1, g2⟩, g3, g4⟩ := dg_bags g
  obtain ⟨⟨c0, c1⟩, n0, n1, _⟩ := st_bags s
  obtain ⟨rk, _, ei⟩ := st_open s
  obtain ⟨x1, x2, x3⟩ := bag_back c0 g2 g1 f0 t0
  obtain ⟨y1, y2, y3⟩ := bag_back c1 g4 g3 f1 t1
  obtain ⟨e1, e2⟩ := da_c h
  rw [e1, dnC_yes hn]
  have B : daB m (daR c d) (daI m c is d) (dnR d) = true := by
    unfold daB
    rw [dg_yes (dnR_good g), e2]
    have q1 : fits (daR c d).b0 (dnR d).o0 = true := fits_yes x1
    have q2 : fits (daR c d).b1 (dnR d).o1 = true := fits_yes y1
    have q3 : decide (tot (daR c d).b0 - tot (dnR d).o0 + tot (dnR d).i0 ≤ 1099511627776) = true := decide_eq_true (by
      show tot (jnl (mnl c.b0 d.o0) d.i0) - tot d.i0 + tot d.o0 ≤ 1099511627776
      rw [x2]; exact c0.2.2)
    have q4 : decide (tot (daR c d).b1 - tot (dnR d).o1 + tot (dnR d).i1 ≤ 1099511627776) = true := decide_eq_true (by
      show tot (jnl (mnl c.b1 d.o1) d.i1) - tot d.i1 + tot d.o1 ≤ 1099511627776
      rw [y2]; exact c1.2.2)
    have q5 : calc.fitB ((daR c d).s0 + (dnR d).s0) = true := by
      have e : (daR c d).s0 + (dnR d).s0 = c.s0 := by show c.s0 + d.s0 + -d.s0 = c.s0; omega
      rw [e]; exact fitB_i64 kc.2.1
    have q6 : calc.fitB ((daR c d).s1 + (dnR d).s1) = true := by
      have e : (daR c d).s1 + (dnR d).s1 = c.s1 := by show c.s1 + d.s1 + -d.s1 = c.s1; omega
      rw [e]; exact fitB_i64 kc.2.2.1
    rw [q1, q2, q3, q4, q5, q6]
    rfl
  have R : daR (daR c d) (dnR d) = c := by
    obtain ⟨n, s0, s1, b0, b1⟩ := c
    have e0 : n + d.n + -d.n = n := by omega
    have e3 : s0 + d.s0 + -d.s0 = s0 := by omega
    have e4 : s1 + d.s1 + -d.s1 = s1 := by omega
    show Cl.mk (n + d.n + -d.n) (s0 + d.s0 + -d.s0) (s1 + d.s1 + -d.s1) (jnl (mnl (jnl (mnl b0 d.o0) d.i0) d.i0) d.o0) (jnl (mnl (jnl (mnl b1 d.o1) d.i1) d.i1) d.o1) = ⟨n, s0, s1, b0, b1⟩
    rw [e0, e3, e4]
    simp only at x3 y3
    rw [x3, y3]
  refine ⟨B, ?_, by rw [(da_c B).1, R]⟩
  rw [da_is B, ei]
  have e0 : (daR c d).n + (dnR d).n = c.n := by show c.n + d.n + -d.n = c.n; omega
  rw [e0]

end Go.Proofs.Ytjkkajhjcinalaa

namespace Go.Proofs.Ytjkkajhjcinalaa
open Go.ChangeShapes Go.WideShapes Go.ChangeAt Go.RowKit
set_option linter.unusedVariables false
set_option linter.unusedSimpArgs false
set_option maxRecDepth 100000

theorem eqW (p q : Bool) (a b x y : Int) (w : World) (n : Nat) : (Op.equalIn (n + 2) 121 (.agg #[.bool p, .int .u64 a, .int .u64 b]) (.agg #[.bool q, .int .u64 x, .int .u64 y])).run Try.prog w = .ok (p == q && (a == x && b == y)) w := by
  have u3 := Try.underlying119
  have a3 := Try.isAgg119
  have z3 := Try.sizeOf119
  have u4 := Try.underlying4
  have a4 := Try.isAgg4
  have z4 := Try.sizeOf4
  rw [show n + 2 = (n + 1) + 1 from rfl, Op.equalIn]
  simp only [Sem.run_bind, run_underlying Try.underlying121, Result.andThen_ok]
  have hs : Try.prog.stoodInHeld 121 = false := by kernel_rfl
  have hp : Sem.run Try.prog program w = .ok Try.prog w := rfl
  simp only [hp, Result.andThen_ok, hs, Bool.false_eq_true, if_false, Sem.run_bind]
  simp only [← Array.forIn_toList, List.forIn_cons, List.forIn_nil]
  go_simp
  by_cases h0 : p = q <;> by_cases h1 : a = x <;> by_cases h2 : b = y <;> simp [h0, h1, h2]
def qw (p q : Bool) (a b x y : Int) : Bool := p == q && (a == x && b == y)
theorem eqW2 (p q : Bool) (a b x y : Int) (w : World) : (Op.equalIn 10000 121 (.agg #[.bool p, .int .u64 a, .int .u64 b]) (.agg #[.bool q, .int .u64 x, .int .u64 y])).run Try.prog w = .ok (qw p q a b x y) w := eqW p q a b x y w 9998
theorem qw_dec (X s : Int) : qw (calc.ng X) (calc.ng s) (calc.hi (calc.sz X)) (calc.lo (calc.sz X)) (calc.hi (calc.sz s)) (calc.lo (calc.sz s)) = decide (X = s) := by
  by_cases h : X = s
  · subst h; unfold qw; simp
  · rw [decide_eq_false h]
    cases e : qw (calc.ng X) (calc.ng s) (calc.hi (calc.sz X)) (calc.lo (calc.sz X)) (calc.hi (calc.sz s)) (calc.lo (calc.sz s)) with
    | false => rfl
    | true =>
      unfold qw at e
      simp only [Bool.and_eq_true, beq_iff_eq] at e
      exact absurd (calc.sz_inj e.1 e.2.1 e.2.2) h
theorem rk_gd {n s : Int} {l : List Rn} (h : gd l = false) : rk n s l = false := rk_no (fun g => by rw [gd_yes g.1] at h; cases h)
theorem rk_full {n s : Int} {l : List Rn} (h : gd l = true) (ht : tl l = n) : rk n s l = decide (wsum l = s) := by
  have hb := gd_iff.1 h
  unfold rk
  rw [h, decide_eq_true ((tl_yes hb).symm.trans ht)]
  rfl
theorem cg_r1 {c : Cl} (h : rk c.n c.s1 c.b1 = false) : cg 2 c = false := cg_no (fun g => by
  rcases g.2.2 with ⟨e, _⟩ | ⟨_, k⟩
  · cases e
  · rw [rk_yes k] at h; cases h)
/-- The document's number of a bag that may be, by names. -/
theorem wide_m (a : Option Addr) (n c : Nat) (l : List Rn) (p : Bool) (x y : Int) (w : World) (hl : NRun w a n c l) (hk : ∀ r ∈ l, nok r) (hb : Hid (Bag l)) (hp : Hid (calc.ng (wsum l) = p)) (hx : Hid (calc.hi (calc.sz (wsum l)) = x)) (hy : Hid (calc.lo (calc.sz (wsum l)) = y)) :
    Calls Try.prog 61 #[.slice a n c] w fun e w' => e = .returned (.agg #[.bool p, .int .u64 x, .int .u64 y]) ∧ Below w.heap.size w w' := by
  have := wide_good a n c l w hl hk hb.out
  rw [hp.out, hx.out, hy.out] at this
  exact this
theorem wof_m (a : Int) (p : Bool) (x y : Int) (w : World) (ha : I64 a) (hp : Hid (calc.ng a = p)) (hx : Hid (calc.hi (calc.sz a) = x)) (hy : Hid (calc.lo (calc.sz a) = y)) :
    Calls Try.prog 62 #[.int .i64 a] w fun e w' => e = .returned (.agg #[.bool p, .int .u64 x, .int .u64 y]) ∧ Below w.heap.size w w' := by
  have := calc.of_any a w ha
  rw [hp.out, hx.out, hy.out] at this
  exact this

set_option maxHeartbeats 32000000 in
theorem crgood_m (m : Int) (c : Cl) (a0 : Option Addr) (p0 k0 : Nat) (a1 : Option Addr) (p1 k1 : Nat) (v : Bool) (w : World) (hw : CW w a0 p0 k0 a1 p1 k1 c) (hk : okc c) (hv : Hid (cg m c = v)) :
    Calls Try.prog 20 #[.int .i64 m, .agg #[.int .i64 c.n, .int .i64 c.s0, .int .i64 c.s1, .slice a0 p0 k0, .slice a1 p1 k1]] w fun e w' => e = .returned (.bool v) ∧ Below w.heap.size w w' := by
  have h := hv.out
  subst h
  clear hv
  obtain ⟨l1, l2⟩ := hw.1.lens
  obtain ⟨u1, u2⟩ := hw.2.lens
  obtain ⟨o1, o2, o3, o4, o5⟩ := hk
  have HW := hid hw
  have O2 := hid o2
  have O3 := hid o3
  have K4 := hid o4
  have K5 := hid o5
  have EU := hid u1
  have eqw := eqW2
  have hlen : (p1 : Int) ≤ 9223372036854775807 := by omega
  clear hw l1 u1 o1 o2 o3 o4 o5
  by_cases hm : m = 1 ∨ m = 2
  · by_cases hn : 1 ≤ c.n ∧ c.n ≤ 1099511627776
    · have hn1 : decide (c.n < 1) = false := decide_eq_false (by omega)
      have hn2 : decide (1099511627776 < c.n) = false := decide_eq_false (by omega)
      have q1 : decide (m < 1) = false := decide_eq_false (by omega)
      have q2 : decide (2 < m) = false := decide_eq_false (by omega)
      have HN := hid hn
      have HM := hid hm
      have m0f : decide (m ≤ (0 : Int)) = false := decide_eq_false (by omega)
      have K0 := hid (kp_new w (.cells #[.int .i64 c.n, .int .i64 c.s0, .int .i64 c.s1, .slice a0 p0 k0, .slice a1 p1 k1] 26))
      clear hn hm
      go_enter Try.func20, Try.ntmps20
      go_upto_region 4 with fail
      generalize w.alloc (.cells #[.int .i64 c.n, .int .i64 c.s0, .int .i64 c.s1, .slice a0 p0 k0, .slice a1 p1 k1] 26) = W at K0 ⊢
      go_loopw [5] (fun i wr => Hid (Kp w wr w.heap.size (.cells #[.int .i64 c.n, .int .i64 c.s0, .int .i64 c.s1, .slice a0 p0 k0, .slice a1 p1 k1] 26)) ∧ (i = .int .i64 0 ∨ (i = .int .i64 1 ∧ Hid (rk c.n c.s0 c.b0 = true)) ∨ (i = .int .i64 2 ∧ Hid (cg m c = true)))) (fun i _ => 2 - (intOf i).toNat)
      case atStart => exact ⟨K0, .inl rfl⟩
      case round =>
        obtain ⟨KW, hi⟩ := hrel
        obtain ⟨d0, d1, d2, d3, d4⟩ := box_five KW.out.2.2
        rcases hi with rfl | ⟨rfl, R0⟩ | ⟨rfl, CT⟩
        · obtain ⟨gv, eg⟩ : ∃ x, gd c.b0 = x := ⟨_, rfl⟩
          have GD := hid eg
          cases gv with
          | false =>
            clear eg
            have KS : Hid (∀ y, Below wr.heap.size wr y → Below wr.heap.size wr y ∧ y.cell? ⟨w.heap.size, 0, none⟩ = some (.int .i64 c.n) ∧ y.cell? ⟨w.heap.size, 1, none⟩ = some (.int .i64 c.s0) ∧ y.cell? ⟨w.heap.size, 2, none⟩ = some (.int .i64 c.s1) ∧ y.cell? ⟨w.heap.size, 3, none⟩ = some (.slice a0 p0 k0) ∧ y.cell? ⟨w.heap.size, 4, none⟩ = some (.slice a1 p1 k1)) := hid (fun y hb => KW.out.five hb)
            clear d0 d1 d2 d3 d4
            go_wp2
            refine wp_region_noPanic ?_
            refine wp_region_held_drew (S := fun y => Below wr.heap.size wr y ∧ y.cell? ⟨w.heap.size, 0, none⟩ = some (.int .i64 c.n) ∧ y.cell? ⟨w.heap.size, 1, none⟩ = some (.int .i64 c.s0) ∧ y.cell? ⟨w.heap.size, 2, none⟩ = some (.int .i64 c.s1) ∧ y.cell? ⟨w.heap.size, 3, none⟩ = some (.slice a0 p0 k0) ∧ y.cell? ⟨w.heap.size, 4, none⟩ = some (.slice a1 p1 k1)) (by kernel_rfl) (keep_drew KS) (fun hHeld => ?_)
            refine tk 0 (v := ?_) ?_ ?_
            rotate_left
            · intro w hSw; (try dsimp only at hSw); go_simp; (try with_reducible rfl)
            try simp only [Act.put, List.setIfInBounds_toArray, List.set_cons_zero, List.set_cons_succ]
            refine tk 1 (v := ?_) ?_ ?_
            rotate_left
            · intro w hSw; (try dsimp only at hSw); go_simp; (try with_reducible rfl)
            try simp only [Act.put, List.setIfInBounds_toArray, List.set_cons_zero, List.set_cons_succ]
            refine tk 2 (v := ?_) ?_ ?_
            rotate_left
            · intro w hSw; (try dsimp only at hSw); go_simp; (try with_reducible rfl)
            try simp only [Act.put, List.setIfInBounds_toArray, List.set_cons_zero, List.set_cons_succ]
            refine tk 3 (v := ?_) ?_ ?_
            rotate_left
            · intro w hSw; (try dsimp only at hSw); go_simp; (try with_reducible rfl)
            try simp only [Act.put, List.setIfInBounds_toArray, List.set_cons_zero, List.set_cons_succ]
            refine rd1 4 (fun K hK => ?_)
            go_simp
            (go_at_call 59; refine (rgood_m _ _ _ _ _ _ (HW.out.1.below (bt KW.out.1 hHeld.1)) K4.out GD).mono ?_; rintro e w1 ⟨rfl, hb1⟩)
            refine hK.out _ _ (keep_step (by assumption) hHeld KS) (fun hHeld2 => ?_)
            clear hK K hHeld; have hHeld := hHeld2; clear hHeld2
            try simp only [Act.put, List.setIfInBounds_toArray, List.set_cons_zero, List.set_cons_succ]
            refine tk 5 (v := ?_) ?_ ?_
            rotate_left
            · intro w hSw; (try dsimp only at hSw); go_simp; (try with_reducible rfl)
            try simp only [Act.put, List.setIfInBounds_toArray, List.set_cons_zero, List.set_cons_succ]
            refine tk 6 (v := ?_) ?_ ?_
            rotate_left
            · intro w hSw; (try dsimp only at hSw); go_simp; (try with_reducible rfl)
            try simp only [Act.put, List.setIfInBounds_toArray, List.set_cons_zero, List.set_cons_succ]
            refine tks 7 ?_
            try simp only [Act.put, List.setIfInBounds_toArray, List.set_cons_zero, List.set_cons_succ]
            refine tks 8 ?_
            try simp only [Act.put, List.setIfInBounds_toArray, List.set_cons_zero, List.set_cons_succ]
            refine tks 9 ?_
            try simp only [Act.put, List.setIfInBounds_toArray, List.set_cons_zero, List.set_cons_succ]
            refine tks 10 ?_
            try simp only [Act.put, List.setIfInBounds_toArray, List.set_cons_zero, List.set_cons_succ]
            refine tks 11 ?_
            try simp only [Act.put, List.setIfInBounds_toArray, List.set_cons_zero, List.set_cons_succ]
            refine tks 12 ?_
            try simp only [Act.put, List.setIfInBounds_toArray, List.set_cons_zero, List.set_cons_succ]
            refine tks 13 ?_
            try simp only [Act.put, List.setIfInBounds_toArray, List.set_cons_zero, List.set_cons_succ]
            refine tks 14 ?_
            try simp only [Act.put, List.setIfInBounds_toArray, List.set_cons_zero, List.set_cons_succ]
            refine tk 15 (v := ?_) ?_ ?_
            rotate_left
            · intro w hSw; (try dsimp only at hSw); go_simp; (try with_reducible rfl)
            try simp only [Act.put, List.setIfInBounds_toArray, List.set_cons_zero, List.set_cons_succ]
            refine tk 16 (v := ?_) ?_ ?_
            rotate_left
            · intro w hSw; (try dsimp only at hSw); go_simp; (try with_reducible rfl)
            try simp only [Act.put, List.setIfInBounds_toArray, List.set_cons_zero, List.set_cons_succ]
            refine tks 17 ?_
            try simp only [Act.put, List.setIfInBounds_toArray, List.set_cons_zero, List.set_cons_succ]
            refine tks 18 ?_
            try simp only [Act.put, List.setIfInBounds_toArray, List.set_cons_zero, List.set_cons_succ]
            refine tks 19 ?_
            try simp only [Act.put, List.setIfInBounds_toArray, List.set_cons_zero, List.set_cons_succ]
            refine tks 20 ?_
            try simp only [Act.put, List.setIfInBounds_toArray, List.set_cons_zero, List.set_cons_succ]
            refine tks 21 ?_
            try simp only [Act.put, List.setIfInBounds_toArray, List.set_cons_zero, List.set_cons_succ]
            refine tks 22 ?_
            try simp only [Act.put, List.setIfInBounds_toArray, List.set_cons_zero, List.set_cons_succ]
            refine tks 23 ?_
            try simp only [Act.put, List.setIfInBounds_toArray, List.set_cons_zero, List.set_cons_succ]
            refine tks 24 ?_
            try simp only [Act.put, List.setIfInBounds_toArray, List.set_cons_zero, List.set_cons_succ]
            refine tks 25 ?_
            try simp only [Act.put, List.setIfInBounds_toArray, List.set_cons_zero, List.set_cons_succ]
            refine tks 26 ?_
            try simp only [Act.put, List.setIfInBounds_toArray, List.set_cons_zero, List.set_cons_succ]
            refine tks 27 ?_
            try simp only [Act.put, List.setIfInBounds_toArray, List.set_cons_zero, List.set_cons_succ]
            refine tk 28 (v := ?_) ?_ ?_
            rotate_left
            · intro w hSw; (try dsimp only at hSw); go_simp; (try with_reducible rfl)
            try simp only [Act.put, List.setIfInBounds_toArray, List.set_cons_zero, List.set_cons_succ]
            refine wpAnyH_done (by kernel_rfl) ?_ _
            refine NoPanic.normal ?_
            go_wp2
            go_ret
            exact ⟨ret_bool (cg_r0 (rk_gd GD.out)).symm, bt KW.out.1 (undrew hb1)⟩
          | true =>
            obtain ⟨T, et⟩ : ∃ x, tl c.b0 = x := ⟨_, rfl⟩
            have GT := hid et
            by_cases htn : T = c.n
            · have ttn : (T != c.n) = false := by simp [htn]
              have HTN := hid htn
              have HB := hid (gd_iff.1 eg)
              obtain ⟨xp, ex1⟩ : ∃ y, calc.ng (wsum c.b0) = y := ⟨_, rfl⟩
              obtain ⟨xh, ex2⟩ : ∃ y, calc.hi (calc.sz (wsum c.b0)) = y := ⟨_, rfl⟩
              obtain ⟨xl, ex3⟩ : ∃ y, calc.lo (calc.sz (wsum c.b0)) = y := ⟨_, rfl⟩
              obtain ⟨yp, ey1⟩ : ∃ y, calc.ng c.s0 = y := ⟨_, rfl⟩
              obtain ⟨yh, ey2⟩ : ∃ y, calc.hi (calc.sz c.s0) = y := ⟨_, rfl⟩
              obtain ⟨yl, ey3⟩ : ∃ y, calc.lo (calc.sz c.s0) = y := ⟨_, rfl⟩
              obtain ⟨Q, hq⟩ : ∃ y, qw xp yp xh xl yh yl = y := ⟨_, rfl⟩
              have EQ : Hid (rk c.n c.s0 c.b0 = Q) := hid (by rw [rk_full eg (et.trans htn), ← qw_dec, ex1, ex2, ex3, ey1, ey2, ey3, hq])
              have X1 := hid ex1
              have X2 := hid ex2
              have X3 := hid ex3
              have Y1 := hid ey1
              have Y2 := hid ey2
              have Y3 := hid ey3
              clear eg et htn ex1 ex2 ex3 ey1 ey2 ey3
              have KS : Hid (∀ y, Below wr.heap.size wr y → Below wr.heap.size wr y ∧ y.cell? ⟨w.heap.size, 0, none⟩ = some (.int .i64 c.n) ∧ y.cell? ⟨w.heap.size, 1, none⟩ = some (.int .i64 c.s0) ∧ y.cell? ⟨w.heap.size, 2, none⟩ = some (.int .i64 c.s1) ∧ y.cell? ⟨w.heap.size, 3, none⟩ = some (.slice a0 p0 k0) ∧ y.cell? ⟨w.heap.size, 4, none⟩ = some (.slice a1 p1 k1)) := hid (fun y hb => KW.out.five hb)
              clear d0 d1 d2 d3 d4
              go_wp2
              refine wp_region_noPanic ?_
              refine wp_region_held_drew (S := fun y => Below wr.heap.size wr y ∧ y.cell? ⟨w.heap.size, 0, none⟩ = some (.int .i64 c.n) ∧ y.cell? ⟨w.heap.size, 1, none⟩ = some (.int .i64 c.s0) ∧ y.cell? ⟨w.heap.size, 2, none⟩ = some (.int .i64 c.s1) ∧ y.cell? ⟨w.heap.size, 3, none⟩ = some (.slice a0 p0 k0) ∧ y.cell? ⟨w.heap.size, 4, none⟩ = some (.slice a1 p1 k1)) (by kernel_rfl) (keep_drew KS) (fun hHeld => ?_)
              refine tk 0 (v := ?_) ?_ ?_
              rotate_left
              · intro w hSw; (try dsimp only at hSw); go_simp; (try with_reducible rfl)
              try simp only [Act.put, List.setIfInBounds_toArray, List.set_cons_zero, List.set_cons_succ]
              refine tk 1 (v := ?_) ?_ ?_
              rotate_left
              · intro w hSw; (try dsimp only at hSw); go_simp; (try with_reducible rfl)
              try simp only [Act.put, List.setIfInBounds_toArray, List.set_cons_zero, List.set_cons_succ]
              refine tk 2 (v := ?_) ?_ ?_
              rotate_left
              · intro w hSw; (try dsimp only at hSw); go_simp; (try with_reducible rfl)
              try simp only [Act.put, List.setIfInBounds_toArray, List.set_cons_zero, List.set_cons_succ]
              refine tk 3 (v := ?_) ?_ ?_
              rotate_left
              · intro w hSw; (try dsimp only at hSw); go_simp; (try with_reducible rfl)
              try simp only [Act.put, List.setIfInBounds_toArray, List.set_cons_zero, List.set_cons_succ]
              refine rd1 4 (fun K hK => ?_)
              go_simp
              (go_at_call 59; refine (rgood_m _ _ _ _ _ _ (HW.out.1.below (bt KW.out.1 hHeld.1)) K4.out GD).mono ?_; rintro e w1 ⟨rfl, hb1⟩)
              refine hK.out _ _ (keep_step (by assumption) hHeld KS) (fun hHeld2 => ?_)
              clear hK K hHeld; have hHeld := hHeld2; clear hHeld2
              try simp only [Act.put, List.setIfInBounds_toArray, List.set_cons_zero, List.set_cons_succ]
              refine tk 5 (v := ?_) ?_ ?_
              rotate_left
              · intro w hSw; (try dsimp only at hSw); go_simp; (try with_reducible rfl)
              try simp only [Act.put, List.setIfInBounds_toArray, List.set_cons_zero, List.set_cons_succ]
              refine tk 6 (v := ?_) ?_ ?_
              rotate_left
              · intro w hSw; (try dsimp only at hSw); go_simp; (try with_reducible rfl)
              try simp only [Act.put, List.setIfInBounds_toArray, List.set_cons_zero, List.set_cons_succ]
              refine tk 7 (v := ?_) ?_ ?_
              rotate_left
              · intro w hSw; (try dsimp only at hSw); go_simp; (try with_reducible rfl)
              try simp only [Act.put, List.setIfInBounds_toArray, List.set_cons_zero, List.set_cons_succ]
              refine tk 8 (v := ?_) ?_ ?_
              rotate_left
              · intro w hSw; (try dsimp only at hSw); go_simp; (try with_reducible rfl)
              try simp only [Act.put, List.setIfInBounds_toArray, List.set_cons_zero, List.set_cons_succ]
              refine tk 9 (v := ?_) ?_ ?_
              rotate_left
              · intro w hSw; (try dsimp only at hSw); go_simp; (try with_reducible rfl)
              try simp only [Act.put, List.setIfInBounds_toArray, List.set_cons_zero, List.set_cons_succ]
              refine tk 10 (v := ?_) ?_ ?_
              rotate_left
              · intro w hSw; (try dsimp only at hSw); go_simp; (try with_reducible rfl)
              try simp only [Act.put, List.setIfInBounds_toArray, List.set_cons_zero, List.set_cons_succ]
              refine tk 12 (v := ?_) ?_ ?_
              rotate_left
              · intro w hSw; (try dsimp only at hSw); go_simp; (try with_reducible rfl)
              try simp only [Act.put, List.setIfInBounds_toArray, List.set_cons_zero, List.set_cons_succ]
              refine tk 13 (v := ?_) ?_ ?_
              rotate_left
              · intro w hSw; (try dsimp only at hSw); go_simp; (try with_reducible rfl)
              try simp only [Act.put, List.setIfInBounds_toArray, List.set_cons_zero, List.set_cons_succ]
              refine rd1 11 (fun K hK => ?_)
              go_simp
              (go_at_call 60; refine (rcount_m _ _ _ _ _ _ (HW.out.1.below (bt KW.out.1 hHeld.1)) K4.out GT).mono ?_; rintro e w2 ⟨rfl, hb2⟩)
              refine hK.out _ _ (keep_step (by assumption) hHeld KS) (fun hHeld2 => ?_)
              clear hK K hHeld; have hHeld := hHeld2; clear hHeld2
              try simp only [Act.put, List.setIfInBounds_toArray, List.set_cons_zero, List.set_cons_succ]
              refine tk 14 (v := ?_) ?_ ?_
              rotate_left
              · intro w hSw; (try dsimp only at hSw); go_simp; (try with_reducible rfl)
              try simp only [Act.put, List.setIfInBounds_toArray, List.set_cons_zero, List.set_cons_succ]
              refine tk 15 (v := ?_) ?_ ?_
              rotate_left
              · intro w hSw; (try dsimp only at hSw); go_simp; (try with_reducible rfl)
              try simp only [Act.put, List.setIfInBounds_toArray, List.set_cons_zero, List.set_cons_succ]
              refine tk 16 (v := ?_) ?_ ?_
              rotate_left
              · intro w hSw; (try dsimp only at hSw); go_simp; (try with_reducible rfl)
              try simp only [Act.put, List.setIfInBounds_toArray, List.set_cons_zero, List.set_cons_succ]
              refine tk 17 (v := ?_) ?_ ?_
              rotate_left
              · intro w hSw; (try dsimp only at hSw); go_simp; (try with_reducible rfl)
              try simp only [Act.put, List.setIfInBounds_toArray, List.set_cons_zero, List.set_cons_succ]
              refine tk 18 (v := ?_) ?_ ?_
              rotate_left
              · intro w hSw; (try dsimp only at hSw); go_simp; (try with_reducible rfl)
              try simp only [Act.put, List.setIfInBounds_toArray, List.set_cons_zero, List.set_cons_succ]
              refine tk 19 (v := ?_) ?_ ?_
              rotate_left
              · intro w hSw; (try dsimp only at hSw); go_simp; (try with_reducible rfl)
              try simp only [Act.put, List.setIfInBounds_toArray, List.set_cons_zero, List.set_cons_succ]
              refine tk 20 (v := ?_) ?_ ?_
              rotate_left
              · intro w hSw; (try dsimp only at hSw); go_simp; (try with_reducible rfl)
              try simp only [Act.put, List.setIfInBounds_toArray, List.set_cons_zero, List.set_cons_succ]
              refine tk 22 (v := ?_) ?_ ?_
              rotate_left
              · intro w hSw; (try dsimp only at hSw); go_simp; (try with_reducible rfl)
              try simp only [Act.put, List.setIfInBounds_toArray, List.set_cons_zero, List.set_cons_succ]
              refine tk 23 (v := ?_) ?_ ?_
              rotate_left
              · intro w hSw; (try dsimp only at hSw); go_simp; (try with_reducible rfl)
              try simp only [Act.put, List.setIfInBounds_toArray, List.set_cons_zero, List.set_cons_succ]
              refine tk 24 (v := ?_) ?_ ?_
              rotate_left
              · intro w hSw; (try dsimp only at hSw); go_simp; (try with_reducible rfl)
              try simp only [Act.put, List.setIfInBounds_toArray, List.set_cons_zero, List.set_cons_succ]
              refine tk 25 (v := ?_) ?_ ?_
              rotate_left
              · intro w hSw; (try dsimp only at hSw); go_simp; (try with_reducible rfl)
              try simp only [Act.put, List.setIfInBounds_toArray, List.set_cons_zero, List.set_cons_succ]
              refine rd1 21 (fun K hK => ?_)
              go_simp
              (go_at_call 61; refine (wide_m _ _ _ _ _ _ _ _ (HW.out.1.below (bt KW.out.1 hHeld.1)) K4.out HB X1 X2 X3).mono ?_; rintro e w3 ⟨rfl, hb3⟩)
              refine hK.out _ _ (keep_step (by assumption) hHeld KS) (fun hHeld2 => ?_)
              clear hK K hHeld; have hHeld := hHeld2; clear hHeld2
              try simp only [Act.put, List.setIfInBounds_toArray, List.set_cons_zero, List.set_cons_succ]
              refine rd1 26 (fun K hK => ?_)
              go_simp
              (go_at_call 62; refine (wof_m _ _ _ _ _ O2.out Y1 Y2 Y3).mono ?_; rintro e w4 ⟨rfl, hb4⟩)
              refine hK.out _ _ (keep_step (by assumption) hHeld KS) (fun hHeld2 => ?_)
              clear hK K hHeld; have hHeld := hHeld2; clear hHeld2
              try simp only [Act.put, List.setIfInBounds_toArray, List.set_cons_zero, List.set_cons_succ]
              refine tk 27 (v := ?_) ?_ ?_
              rotate_left
              · intro w hSw; (try dsimp only at hSw); go_simp; (try with_reducible rfl)
              try simp only [Act.put, List.setIfInBounds_toArray, List.set_cons_zero, List.set_cons_succ]
              refine tk 28 (v := ?_) ?_ ?_
              rotate_left
              · intro w hSw; (try dsimp only at hSw); go_simp; (try with_reducible rfl)
              try simp only [Act.put, List.setIfInBounds_toArray, List.set_cons_zero, List.set_cons_succ]
              refine wpAnyH_done (by kernel_rfl) ?_ _
              refine NoPanic.normal ?_
              have K2 := hid (KW.out.step (bt (bt (bt (undrew hb1) hb2) hb3) hb4))
              clear hb1 hb2 hb3 hb4 hHeld KS
              obtain ⟨d0, d1, d2, d3, d4⟩ := box_five K2.out.2.2
              cases Q with
              | false =>
                go_wp2
                go_ret
                exact ⟨ret_bool (cg_r0 (EQ.out)).symm, K2.out.1⟩
              | true =>
                go_wp2
                go_roundw
                case rel => exact ⟨K2, .inr (.inl ⟨by go_num, EQ⟩)⟩
                case measure => simp [intOf]
            · have ttn : (T != c.n) = true := by simp [htn]
              have HRF : Hid (rk c.n c.s0 c.b0 = false) := hid (tl_rk (by rw [et]; exact htn))
              clear eg et htn
              have KS : Hid (∀ y, Below wr.heap.size wr y → Below wr.heap.size wr y ∧ y.cell? ⟨w.heap.size, 0, none⟩ = some (.int .i64 c.n) ∧ y.cell? ⟨w.heap.size, 1, none⟩ = some (.int .i64 c.s0) ∧ y.cell? ⟨w.heap.size, 2, none⟩ = some (.int .i64 c.s1) ∧ y.cell? ⟨w.heap.size, 3, none⟩ = some (.slice a0 p0 k0) ∧ y.cell? ⟨w.heap.size, 4, none⟩ = some (.slice a1 p1 k1)) := hid (fun y hb => KW.out.five hb)
              clear d0 d1 d2 d3 d4
              go_wp2
              refine wp_region_noPanic ?_
              refine wp_region_held_drew (S := fun y => Below wr.heap.size wr y ∧ y.cell? ⟨w.heap.size, 0, none⟩ = some (.int .i64 c.n) ∧ y.cell? ⟨w.heap.size, 1, none⟩ = some (.int .i64 c.s0) ∧ y.cell? ⟨w.heap.size, 2, none⟩ = some (.int .i64 c.s1) ∧ y.cell? ⟨w.heap.size, 3, none⟩ = some (.slice a0 p0 k0) ∧ y.cell? ⟨w.heap.size, 4, none⟩ = some (.slice a1 p1 k1)) (by kernel_rfl) (keep_drew KS) (fun hHeld => ?_)
              refine tk 0 (v := ?_) ?_ ?_
              rotate_left
              · intro w hSw; (try dsimp only at hSw); go_simp; (try with_reducible rfl)
              try simp only [Act.put, List.setIfInBounds_toArray, List.set_cons_zero, List.set_cons_succ]
              refine tk 1 (v := ?_) ?_ ?_
              rotate_left
              · intro w hSw; (try dsimp only at hSw); go_simp; (try with_reducible rfl)
              try simp only [Act.put, List.setIfInBounds_toArray, List.set_cons_zero, List.set_cons_succ]
              refine tk 2 (v := ?_) ?_ ?_
              rotate_left
              · intro w hSw; (try dsimp only at hSw); go_simp; (try with_reducible rfl)
              try simp only [Act.put, List.setIfInBounds_toArray, List.set_cons_zero, List.set_cons_succ]
              refine tk 3 (v := ?_) ?_ ?_
              rotate_left
              · intro w hSw; (try dsimp only at hSw); go_simp; (try with_reducible rfl)
              try simp only [Act.put, List.setIfInBounds_toArray, List.set_cons_zero, List.set_cons_succ]
              refine rd1 4 (fun K hK => ?_)
              go_simp
              (go_at_call 59; refine (rgood_m _ _ _ _ _ _ (HW.out.1.below (bt KW.out.1 hHeld.1)) K4.out GD).mono ?_; rintro e w1 ⟨rfl, hb1⟩)
              refine hK.out _ _ (keep_step (by assumption) hHeld KS) (fun hHeld2 => ?_)
              clear hK K hHeld; have hHeld := hHeld2; clear hHeld2
              try simp only [Act.put, List.setIfInBounds_toArray, List.set_cons_zero, List.set_cons_succ]
              refine tk 5 (v := ?_) ?_ ?_
              rotate_left
              · intro w hSw; (try dsimp only at hSw); go_simp; (try with_reducible rfl)
              try simp only [Act.put, List.setIfInBounds_toArray, List.set_cons_zero, List.set_cons_succ]
              refine tk 6 (v := ?_) ?_ ?_
              rotate_left
              · intro w hSw; (try dsimp only at hSw); go_simp; (try with_reducible rfl)
              try simp only [Act.put, List.setIfInBounds_toArray, List.set_cons_zero, List.set_cons_succ]
              refine tk 7 (v := ?_) ?_ ?_
              rotate_left
              · intro w hSw; (try dsimp only at hSw); go_simp; (try with_reducible rfl)
              try simp only [Act.put, List.setIfInBounds_toArray, List.set_cons_zero, List.set_cons_succ]
              refine tk 8 (v := ?_) ?_ ?_
              rotate_left
              · intro w hSw; (try dsimp only at hSw); go_simp; (try with_reducible rfl)
              try simp only [Act.put, List.setIfInBounds_toArray, List.set_cons_zero, List.set_cons_succ]
              refine tk 9 (v := ?_) ?_ ?_
              rotate_left
              · intro w hSw; (try dsimp only at hSw); go_simp; (try with_reducible rfl)
              try simp only [Act.put, List.setIfInBounds_toArray, List.set_cons_zero, List.set_cons_succ]
              refine tk 10 (v := ?_) ?_ ?_
              rotate_left
              · intro w hSw; (try dsimp only at hSw); go_simp; (try with_reducible rfl)
              try simp only [Act.put, List.setIfInBounds_toArray, List.set_cons_zero, List.set_cons_succ]
              refine tk 12 (v := ?_) ?_ ?_
              rotate_left
              · intro w hSw; (try dsimp only at hSw); go_simp; (try with_reducible rfl)
              try simp only [Act.put, List.setIfInBounds_toArray, List.set_cons_zero, List.set_cons_succ]
              refine tk 13 (v := ?_) ?_ ?_
              rotate_left
              · intro w hSw; (try dsimp only at hSw); go_simp; (try with_reducible rfl)
              try simp only [Act.put, List.setIfInBounds_toArray, List.set_cons_zero, List.set_cons_succ]
              refine rd1 11 (fun K hK => ?_)
              go_simp
              (go_at_call 60; refine (rcount_m _ _ _ _ _ _ (HW.out.1.below (bt KW.out.1 hHeld.1)) K4.out GT).mono ?_; rintro e w2 ⟨rfl, hb2⟩)
              refine hK.out _ _ (keep_step (by assumption) hHeld KS) (fun hHeld2 => ?_)
              clear hK K hHeld; have hHeld := hHeld2; clear hHeld2
              try simp only [Act.put, List.setIfInBounds_toArray, List.set_cons_zero, List.set_cons_succ]
              refine tk 14 (v := ?_) ?_ ?_
              rotate_left
              · intro w hSw; (try dsimp only at hSw); go_simp; (try with_reducible rfl)
              try simp only [Act.put, List.setIfInBounds_toArray, List.set_cons_zero, List.set_cons_succ]
              refine tk 15 (v := ?_) ?_ ?_
              rotate_left
              · intro w hSw; (try dsimp only at hSw); go_simp; (try with_reducible rfl)
              try simp only [Act.put, List.setIfInBounds_toArray, List.set_cons_zero, List.set_cons_succ]
              refine tk 16 (v := ?_) ?_ ?_
              rotate_left
              · intro w hSw; (try dsimp only at hSw); go_simp; (try with_reducible rfl)
              try simp only [Act.put, List.setIfInBounds_toArray, List.set_cons_zero, List.set_cons_succ]
              refine tks 17 ?_
              try simp only [Act.put, List.setIfInBounds_toArray, List.set_cons_zero, List.set_cons_succ]
              refine tks 18 ?_
              try simp only [Act.put, List.setIfInBounds_toArray, List.set_cons_zero, List.set_cons_succ]
              refine tks 19 ?_
              try simp only [Act.put, List.setIfInBounds_toArray, List.set_cons_zero, List.set_cons_succ]
              refine tks 20 ?_
              try simp only [Act.put, List.setIfInBounds_toArray, List.set_cons_zero, List.set_cons_succ]
              refine tks 21 ?_
              try simp only [Act.put, List.setIfInBounds_toArray, List.set_cons_zero, List.set_cons_succ]
              refine tks 22 ?_
              try simp only [Act.put, List.setIfInBounds_toArray, List.set_cons_zero, List.set_cons_succ]
              refine tks 23 ?_
              try simp only [Act.put, List.setIfInBounds_toArray, List.set_cons_zero, List.set_cons_succ]
              refine tks 24 ?_
              try simp only [Act.put, List.setIfInBounds_toArray, List.set_cons_zero, List.set_cons_succ]
              refine tks 25 ?_
              try simp only [Act.put, List.setIfInBounds_toArray, List.set_cons_zero, List.set_cons_succ]
              refine tks 26 ?_
              try simp only [Act.put, List.setIfInBounds_toArray, List.set_cons_zero, List.set_cons_succ]
              refine tks 27 ?_
              try simp only [Act.put, List.setIfInBounds_toArray, List.set_cons_zero, List.set_cons_succ]
              refine tk 28 (v := ?_) ?_ ?_
              rotate_left
              · intro w hSw; (try dsimp only at hSw); go_simp; (try with_reducible rfl)
              try simp only [Act.put, List.setIfInBounds_toArray, List.set_cons_zero, List.set_cons_succ]
              refine wpAnyH_done (by kernel_rfl) ?_ _
              refine NoPanic.normal ?_
              go_wp2
              go_ret
              exact ⟨ret_bool (cg_r0 (HRF.out)).symm, bt KW.out.1 (bt (undrew hb1) hb2)⟩

        · rcases HM.out with hm | hm
          · subst hm
            have ECG := hid (cg_one HN.out R0.out)
            by_cases hs : c.s1 = 0
            · have hsd : (c.s1 != 0) = false := by simp [hs]
              by_cases hp : p1 = 0
              · have hpd : decide ((0 : Int) < (p1 : Int)) = false := decide_eq_false (by omega)
                have hpe : decide (0 < p1) = false := decide_eq_false (by omega)
                have ECT : Hid (cg 1 c = true) := hid (by rw [ECG.out, len_emp EU.out, decide_eq_true hs, decide_eq_true hp]; rfl)
                clear hs hp
                go_wp2
                go_roundw
                case rel => exact ⟨KW, .inr (.inr ⟨by go_num, ECT⟩)⟩
                case measure => simp [intOf]
              · have hpd : decide ((0 : Int) < (p1 : Int)) = true := decide_eq_true (by omega)
                have hpe : decide (0 < p1) = true := decide_eq_true (by omega)
                have ECT : Hid (cg 1 c = false) := hid (by rw [ECG.out, len_emp EU.out, decide_eq_false hp]; simp)
                clear hs hp
                go_wp2
                go_ret
                exact ⟨ret_bool ECT.out.symm, KW.out.1⟩
            · have hsd : (c.s1 != 0) = true := by simp [hs]
              have ECT : Hid (cg 1 c = false) := hid (by rw [ECG.out, decide_eq_false hs]; rfl)
              clear hs
              go_wp2
              go_ret
              exact ⟨ret_bool ECT.out.symm, KW.out.1⟩
          · subst hm
            obtain ⟨gv, eg⟩ : ∃ x, gd c.b1 = x := ⟨_, rfl⟩
            have GD := hid eg
            cases gv with
            | false =>
              clear eg
              have KS : Hid (∀ y, Below wr.heap.size wr y → Below wr.heap.size wr y ∧ y.cell? ⟨w.heap.size, 0, none⟩ = some (.int .i64 c.n) ∧ y.cell? ⟨w.heap.size, 1, none⟩ = some (.int .i64 c.s0) ∧ y.cell? ⟨w.heap.size, 2, none⟩ = some (.int .i64 c.s1) ∧ y.cell? ⟨w.heap.size, 3, none⟩ = some (.slice a0 p0 k0) ∧ y.cell? ⟨w.heap.size, 4, none⟩ = some (.slice a1 p1 k1)) := hid (fun y hb => KW.out.five hb)
              clear d0 d1 d2 d3 d4
              go_wp2
              refine wp_region_noPanic ?_
              refine wp_region_held_drew (S := fun y => Below wr.heap.size wr y ∧ y.cell? ⟨w.heap.size, 0, none⟩ = some (.int .i64 c.n) ∧ y.cell? ⟨w.heap.size, 1, none⟩ = some (.int .i64 c.s0) ∧ y.cell? ⟨w.heap.size, 2, none⟩ = some (.int .i64 c.s1) ∧ y.cell? ⟨w.heap.size, 3, none⟩ = some (.slice a0 p0 k0) ∧ y.cell? ⟨w.heap.size, 4, none⟩ = some (.slice a1 p1 k1)) (by kernel_rfl) (keep_drew KS) (fun hHeld => ?_)
              refine tk 0 (v := ?_) ?_ ?_
              rotate_left
              · intro w hSw; (try dsimp only at hSw); go_simp; (try with_reducible rfl)
              try simp only [Act.put, List.setIfInBounds_toArray, List.set_cons_zero, List.set_cons_succ]
              refine tk 1 (v := ?_) ?_ ?_
              rotate_left
              · intro w hSw; (try dsimp only at hSw); go_simp; (try with_reducible rfl)
              try simp only [Act.put, List.setIfInBounds_toArray, List.set_cons_zero, List.set_cons_succ]
              refine tk 2 (v := ?_) ?_ ?_
              rotate_left
              · intro w hSw; (try dsimp only at hSw); go_simp; (try with_reducible rfl)
              try simp only [Act.put, List.setIfInBounds_toArray, List.set_cons_zero, List.set_cons_succ]
              refine tk 3 (v := ?_) ?_ ?_
              rotate_left
              · intro w hSw; (try dsimp only at hSw); go_simp; (try with_reducible rfl)
              try simp only [Act.put, List.setIfInBounds_toArray, List.set_cons_zero, List.set_cons_succ]
              refine rd1 4 (fun K hK => ?_)
              go_simp
              (go_at_call 59; refine (rgood_m _ _ _ _ _ _ (HW.out.2.below (bt KW.out.1 hHeld.1)) K5.out GD).mono ?_; rintro e w1 ⟨rfl, hb1⟩)
              refine hK.out _ _ (keep_step (by assumption) hHeld KS) (fun hHeld2 => ?_)
              clear hK K hHeld; have hHeld := hHeld2; clear hHeld2
              try simp only [Act.put, List.setIfInBounds_toArray, List.set_cons_zero, List.set_cons_succ]
              refine tk 5 (v := ?_) ?_ ?_
              rotate_left
              · intro w hSw; (try dsimp only at hSw); go_simp; (try with_reducible rfl)
              try simp only [Act.put, List.setIfInBounds_toArray, List.set_cons_zero, List.set_cons_succ]
              refine tk 6 (v := ?_) ?_ ?_
              rotate_left
              · intro w hSw; (try dsimp only at hSw); go_simp; (try with_reducible rfl)
              try simp only [Act.put, List.setIfInBounds_toArray, List.set_cons_zero, List.set_cons_succ]
              refine tks 7 ?_
              try simp only [Act.put, List.setIfInBounds_toArray, List.set_cons_zero, List.set_cons_succ]
              refine tks 8 ?_
              try simp only [Act.put, List.setIfInBounds_toArray, List.set_cons_zero, List.set_cons_succ]
              refine tks 9 ?_
              try simp only [Act.put, List.setIfInBounds_toArray, List.set_cons_zero, List.set_cons_succ]
              refine tks 10 ?_
              try simp only [Act.put, List.setIfInBounds_toArray, List.set_cons_zero, List.set_cons_succ]
              refine tks 11 ?_
              try simp only [Act.put, List.setIfInBounds_toArray, List.set_cons_zero, List.set_cons_succ]
              refine tks 12 ?_
              try simp only [Act.put, List.setIfInBounds_toArray, List.set_cons_zero, List.set_cons_succ]
              refine tks 13 ?_
              try simp only [Act.put, List.setIfInBounds_toArray, List.set_cons_zero, List.set_cons_succ]
              refine tks 14 ?_
              try simp only [Act.put, List.setIfInBounds_toArray, List.set_cons_zero, List.set_cons_succ]
              refine tk 15 (v := ?_) ?_ ?_
              rotate_left
              · intro w hSw; (try dsimp only at hSw); go_simp; (try with_reducible rfl)
              try simp only [Act.put, List.setIfInBounds_toArray, List.set_cons_zero, List.set_cons_succ]
              refine tk 16 (v := ?_) ?_ ?_
              rotate_left
              · intro w hSw; (try dsimp only at hSw); go_simp; (try with_reducible rfl)
              try simp only [Act.put, List.setIfInBounds_toArray, List.set_cons_zero, List.set_cons_succ]
              refine tks 17 ?_
              try simp only [Act.put, List.setIfInBounds_toArray, List.set_cons_zero, List.set_cons_succ]
              refine tks 18 ?_
              try simp only [Act.put, List.setIfInBounds_toArray, List.set_cons_zero, List.set_cons_succ]
              refine tks 19 ?_
              try simp only [Act.put, List.setIfInBounds_toArray, List.set_cons_zero, List.set_cons_succ]
              refine tks 20 ?_
              try simp only [Act.put, List.setIfInBounds_toArray, List.set_cons_zero, List.set_cons_succ]
              refine tks 21 ?_
              try simp only [Act.put, List.setIfInBounds_toArray, List.set_cons_zero, List.set_cons_succ]
              refine tks 22 ?_
              try simp only [Act.put, List.setIfInBounds_toArray, List.set_cons_zero, List.set_cons_succ]
              refine tks 23 ?_
              try simp only [Act.put, List.setIfInBounds_toArray, List.set_cons_zero, List.set_cons_succ]
              refine tks 24 ?_
              try simp only [Act.put, List.setIfInBounds_toArray, List.set_cons_zero, List.set_cons_succ]
              refine tks 25 ?_
              try simp only [Act.put, List.setIfInBounds_toArray, List.set_cons_zero, List.set_cons_succ]
              refine tks 26 ?_
              try simp only [Act.put, List.setIfInBounds_toArray, List.set_cons_zero, List.set_cons_succ]
              refine tks 27 ?_
              try simp only [Act.put, List.setIfInBounds_toArray, List.set_cons_zero, List.set_cons_succ]
              refine tk 28 (v := ?_) ?_ ?_
              rotate_left
              · intro w hSw; (try dsimp only at hSw); go_simp; (try with_reducible rfl)
              try simp only [Act.put, List.setIfInBounds_toArray, List.set_cons_zero, List.set_cons_succ]
              refine wpAnyH_done (by kernel_rfl) ?_ _
              refine NoPanic.normal ?_
              go_wp2
              go_ret
              exact ⟨ret_bool (cg_r1 (rk_gd GD.out)).symm, bt KW.out.1 (undrew hb1)⟩
            | true =>
              obtain ⟨T, et⟩ : ∃ x, tl c.b1 = x := ⟨_, rfl⟩
              have GT := hid et
              by_cases htn : T = c.n
              · have ttn : (T != c.n) = false := by simp [htn]
                have HTN := hid htn
                have HB := hid (gd_iff.1 eg)
                obtain ⟨xp, ex1⟩ : ∃ y, calc.ng (wsum c.b1) = y := ⟨_, rfl⟩
                obtain ⟨xh, ex2⟩ : ∃ y, calc.hi (calc.sz (wsum c.b1)) = y := ⟨_, rfl⟩
                obtain ⟨xl, ex3⟩ : ∃ y, calc.lo (calc.sz (wsum c.b1)) = y := ⟨_, rfl⟩
                obtain ⟨yp, ey1⟩ : ∃ y, calc.ng c.s1 = y := ⟨_, rfl⟩
                obtain ⟨yh, ey2⟩ : ∃ y, calc.hi (calc.sz c.s1) = y := ⟨_, rfl⟩
                obtain ⟨yl, ey3⟩ : ∃ y, calc.lo (calc.sz c.s1) = y := ⟨_, rfl⟩
                obtain ⟨Q, hq⟩ : ∃ y, qw xp yp xh xl yh yl = y := ⟨_, rfl⟩
                have EQ : Hid (rk c.n c.s1 c.b1 = Q) := hid (by rw [rk_full eg (et.trans htn), ← qw_dec, ex1, ex2, ex3, ey1, ey2, ey3, hq])
                have X1 := hid ex1
                have X2 := hid ex2
                have X3 := hid ex3
                have Y1 := hid ey1
                have Y2 := hid ey2
                have Y3 := hid ey3
                clear eg et htn ex1 ex2 ex3 ey1 ey2 ey3
                have KS : Hid (∀ y, Below wr.heap.size wr y → Below wr.heap.size wr y ∧ y.cell? ⟨w.heap.size, 0, none⟩ = some (.int .i64 c.n) ∧ y.cell? ⟨w.heap.size, 1, none⟩ = some (.int .i64 c.s0) ∧ y.cell? ⟨w.heap.size, 2, none⟩ = some (.int .i64 c.s1) ∧ y.cell? ⟨w.heap.size, 3, none⟩ = some (.slice a0 p0 k0) ∧ y.cell? ⟨w.heap.size, 4, none⟩ = some (.slice a1 p1 k1)) := hid (fun y hb => KW.out.five hb)
                clear d0 d1 d2 d3 d4
                go_wp2
                refine wp_region_noPanic ?_
                refine wp_region_held_drew (S := fun y => Below wr.heap.size wr y ∧ y.cell? ⟨w.heap.size, 0, none⟩ = some (.int .i64 c.n) ∧ y.cell? ⟨w.heap.size, 1, none⟩ = some (.int .i64 c.s0) ∧ y.cell? ⟨w.heap.size, 2, none⟩ = some (.int .i64 c.s1) ∧ y.cell? ⟨w.heap.size, 3, none⟩ = some (.slice a0 p0 k0) ∧ y.cell? ⟨w.heap.size, 4, none⟩ = some (.slice a1 p1 k1)) (by kernel_rfl) (keep_drew KS) (fun hHeld => ?_)
                refine tk 0 (v := ?_) ?_ ?_
                rotate_left
                · intro w hSw; (try dsimp only at hSw); go_simp; (try with_reducible rfl)
                try simp only [Act.put, List.setIfInBounds_toArray, List.set_cons_zero, List.set_cons_succ]
                refine tk 1 (v := ?_) ?_ ?_
                rotate_left
                · intro w hSw; (try dsimp only at hSw); go_simp; (try with_reducible rfl)
                try simp only [Act.put, List.setIfInBounds_toArray, List.set_cons_zero, List.set_cons_succ]
                refine tk 2 (v := ?_) ?_ ?_
                rotate_left
                · intro w hSw; (try dsimp only at hSw); go_simp; (try with_reducible rfl)
                try simp only [Act.put, List.setIfInBounds_toArray, List.set_cons_zero, List.set_cons_succ]
                refine tk 3 (v := ?_) ?_ ?_
                rotate_left
                · intro w hSw; (try dsimp only at hSw); go_simp; (try with_reducible rfl)
                try simp only [Act.put, List.setIfInBounds_toArray, List.set_cons_zero, List.set_cons_succ]
                refine rd1 4 (fun K hK => ?_)
                go_simp
                (go_at_call 59; refine (rgood_m _ _ _ _ _ _ (HW.out.2.below (bt KW.out.1 hHeld.1)) K5.out GD).mono ?_; rintro e w1 ⟨rfl, hb1⟩)
                refine hK.out _ _ (keep_step (by assumption) hHeld KS) (fun hHeld2 => ?_)
                clear hK K hHeld; have hHeld := hHeld2; clear hHeld2
                try simp only [Act.put, List.setIfInBounds_toArray, List.set_cons_zero, List.set_cons_succ]
                refine tk 5 (v := ?_) ?_ ?_
                rotate_left
                · intro w hSw; (try dsimp only at hSw); go_simp; (try with_reducible rfl)
                try simp only [Act.put, List.setIfInBounds_toArray, List.set_cons_zero, List.set_cons_succ]
                refine tk 6 (v := ?_) ?_ ?_
                rotate_left
                · intro w hSw; (try dsimp only at hSw); go_simp; (try with_reducible rfl)
                try simp only [Act.put, List.setIfInBounds_toArray, List.set_cons_zero, List.set_cons_succ]
                refine tk 7 (v := ?_) ?_ ?_
                rotate_left
                · intro w hSw; (try dsimp only at hSw); go_simp; (try with_reducible rfl)
                try simp only [Act.put, List.setIfInBounds_toArray, List.set_cons_zero, List.set_cons_succ]
                refine tk 8 (v := ?_) ?_ ?_
                rotate_left
                · intro w hSw; (try dsimp only at hSw); go_simp; (try with_reducible rfl)
                try simp only [Act.put, List.setIfInBounds_toArray, List.set_cons_zero, List.set_cons_succ]
                refine tk 9 (v := ?_) ?_ ?_
                rotate_left
                · intro w hSw; (try dsimp only at hSw); go_simp; (try with_reducible rfl)
                try simp only [Act.put, List.setIfInBounds_toArray, List.set_cons_zero, List.set_cons_succ]
                refine tk 10 (v := ?_) ?_ ?_
                rotate_left
                · intro w hSw; (try dsimp only at hSw); go_simp; (try with_reducible rfl)
                try simp only [Act.put, List.setIfInBounds_toArray, List.set_cons_zero, List.set_cons_succ]
                refine tk 12 (v := ?_) ?_ ?_
                rotate_left
                · intro w hSw; (try dsimp only at hSw); go_simp; (try with_reducible rfl)
                try simp only [Act.put, List.setIfInBounds_toArray, List.set_cons_zero, List.set_cons_succ]
                refine tk 13 (v := ?_) ?_ ?_
                rotate_left
                · intro w hSw; (try dsimp only at hSw); go_simp; (try with_reducible rfl)
                try simp only [Act.put, List.setIfInBounds_toArray, List.set_cons_zero, List.set_cons_succ]
                refine rd1 11 (fun K hK => ?_)
                go_simp
                (go_at_call 60; refine (rcount_m _ _ _ _ _ _ (HW.out.2.below (bt KW.out.1 hHeld.1)) K5.out GT).mono ?_; rintro e w2 ⟨rfl, hb2⟩)
                refine hK.out _ _ (keep_step (by assumption) hHeld KS) (fun hHeld2 => ?_)
                clear hK K hHeld; have hHeld := hHeld2; clear hHeld2
                try simp only [Act.put, List.setIfInBounds_toArray, List.set_cons_zero, List.set_cons_succ]
                refine tk 14 (v := ?_) ?_ ?_
                rotate_left
                · intro w hSw; (try dsimp only at hSw); go_simp; (try with_reducible rfl)
                try simp only [Act.put, List.setIfInBounds_toArray, List.set_cons_zero, List.set_cons_succ]
                refine tk 15 (v := ?_) ?_ ?_
                rotate_left
                · intro w hSw; (try dsimp only at hSw); go_simp; (try with_reducible rfl)
                try simp only [Act.put, List.setIfInBounds_toArray, List.set_cons_zero, List.set_cons_succ]
                refine tk 16 (v := ?_) ?_ ?_
                rotate_left
                · intro w hSw; (try dsimp only at hSw); go_simp; (try with_reducible rfl)
                try simp only [Act.put, List.setIfInBounds_toArray, List.set_cons_zero, List.set_cons_succ]
                refine tk 17 (v := ?_) ?_ ?_
                rotate_left
                · intro w hSw; (try dsimp only at hSw); go_simp; (try with_reducible rfl)
                try simp only [Act.put, List.setIfInBounds_toArray, List.set_cons_zero, List.set_cons_succ]
                refine tk 18 (v := ?_) ?_ ?_
                rotate_left
                · intro w hSw; (try dsimp only at hSw); go_simp; (try with_reducible rfl)
                try simp only [Act.put, List.setIfInBounds_toArray, List.set_cons_zero, List.set_cons_succ]
                refine tk 19 (v := ?_) ?_ ?_
                rotate_left
                · intro w hSw; (try dsimp only at hSw); go_simp; (try with_reducible rfl)
                try simp only [Act.put, List.setIfInBounds_toArray, List.set_cons_zero, List.set_cons_succ]
                refine tk 20 (v := ?_) ?_ ?_
                rotate_left
                · intro w hSw; (try dsimp only at hSw); go_simp; (try with_reducible rfl)
                try simp only [Act.put, List.setIfInBounds_toArray, List.set_cons_zero, List.set_cons_succ]
                refine tk 22 (v := ?_) ?_ ?_
                rotate_left
                · intro w hSw; (try dsimp only at hSw); go_simp; (try with_reducible rfl)
                try simp only [Act.put, List.setIfInBounds_toArray, List.set_cons_zero, List.set_cons_succ]
                refine tk 23 (v := ?_) ?_ ?_
                rotate_left
                · intro w hSw; (try dsimp only at hSw); go_simp; (try with_reducible rfl)
                try simp only [Act.put, List.setIfInBounds_toArray, List.set_cons_zero, List.set_cons_succ]
                refine tk 24 (v := ?_) ?_ ?_
                rotate_left
                · intro w hSw; (try dsimp only at hSw); go_simp; (try with_reducible rfl)
                try simp only [Act.put, List.setIfInBounds_toArray, List.set_cons_zero, List.set_cons_succ]
                refine tk 25 (v := ?_) ?_ ?_
                rotate_left
                · intro w hSw; (try dsimp only at hSw); go_simp; (try with_reducible rfl)
                try simp only [Act.put, List.setIfInBounds_toArray, List.set_cons_zero, List.set_cons_succ]
                refine rd1 21 (fun K hK => ?_)
                go_simp
                (go_at_call 61; refine (wide_m _ _ _ _ _ _ _ _ (HW.out.2.below (bt KW.out.1 hHeld.1)) K5.out HB X1 X2 X3).mono ?_; rintro e w3 ⟨rfl, hb3⟩)
                refine hK.out _ _ (keep_step (by assumption) hHeld KS) (fun hHeld2 => ?_)
                clear hK K hHeld; have hHeld := hHeld2; clear hHeld2
                try simp only [Act.put, List.setIfInBounds_toArray, List.set_cons_zero, List.set_cons_succ]
                refine rd1 26 (fun K hK => ?_)
                go_simp
                (go_at_call 62; refine (wof_m _ _ _ _ _ O3.out Y1 Y2 Y3).mono ?_; rintro e w4 ⟨rfl, hb4⟩)
                refine hK.out _ _ (keep_step (by assumption) hHeld KS) (fun hHeld2 => ?_)
                clear hK K hHeld; have hHeld := hHeld2; clear hHeld2
                try simp only [Act.put, List.setIfInBounds_toArray, List.set_cons_zero, List.set_cons_succ]
                refine tk 27 (v := ?_) ?_ ?_
                rotate_left
                · intro w hSw; (try dsimp only at hSw); go_simp; (try with_reducible rfl)
                try simp only [Act.put, List.setIfInBounds_toArray, List.set_cons_zero, List.set_cons_succ]
                refine tk 28 (v := ?_) ?_ ?_
                rotate_left
                · intro w hSw; (try dsimp only at hSw); go_simp; (try with_reducible rfl)
                try simp only [Act.put, List.setIfInBounds_toArray, List.set_cons_zero, List.set_cons_succ]
                refine wpAnyH_done (by kernel_rfl) ?_ _
                refine NoPanic.normal ?_
                have K2 := hid (KW.out.step (bt (bt (bt (undrew hb1) hb2) hb3) hb4))
                clear hb1 hb2 hb3 hb4 hHeld KS
                obtain ⟨d0, d1, d2, d3, d4⟩ := box_five K2.out.2.2
                cases Q with
                | false =>
                  go_wp2
                  go_ret
                  exact ⟨ret_bool (cg_r1 (EQ.out)).symm, K2.out.1⟩
                | true =>
                  go_wp2
                  go_roundw
                  case rel => exact ⟨K2, .inr (.inr ⟨by go_num, hid (by rw [cg_two HN.out R0.out]; exact EQ.out)⟩)⟩
                  case measure => simp [intOf]
              · have ttn : (T != c.n) = true := by simp [htn]
                have HRF : Hid (rk c.n c.s1 c.b1 = false) := hid (tl_rk (by rw [et]; exact htn))
                clear eg et htn
                have KS : Hid (∀ y, Below wr.heap.size wr y → Below wr.heap.size wr y ∧ y.cell? ⟨w.heap.size, 0, none⟩ = some (.int .i64 c.n) ∧ y.cell? ⟨w.heap.size, 1, none⟩ = some (.int .i64 c.s0) ∧ y.cell? ⟨w.heap.size, 2, none⟩ = some (.int .i64 c.s1) ∧ y.cell? ⟨w.heap.size, 3, none⟩ = some (.slice a0 p0 k0) ∧ y.cell? ⟨w.heap.size, 4, none⟩ = some (.slice a1 p1 k1)) := hid (fun y hb => KW.out.five hb)
                clear d0 d1 d2 d3 d4
                go_wp2
                refine wp_region_noPanic ?_
                refine wp_region_held_drew (S := fun y => Below wr.heap.size wr y ∧ y.cell? ⟨w.heap.size, 0, none⟩ = some (.int .i64 c.n) ∧ y.cell? ⟨w.heap.size, 1, none⟩ = some (.int .i64 c.s0) ∧ y.cell? ⟨w.heap.size, 2, none⟩ = some (.int .i64 c.s1) ∧ y.cell? ⟨w.heap.size, 3, none⟩ = some (.slice a0 p0 k0) ∧ y.cell? ⟨w.heap.size, 4, none⟩ = some (.slice a1 p1 k1)) (by kernel_rfl) (keep_drew KS) (fun hHeld => ?_)
                refine tk 0 (v := ?_) ?_ ?_
                rotate_left
                · intro w hSw; (try dsimp only at hSw); go_simp; (try with_reducible rfl)
                try simp only [Act.put, List.setIfInBounds_toArray, List.set_cons_zero, List.set_cons_succ]
                refine tk 1 (v := ?_) ?_ ?_
                rotate_left
                · intro w hSw; (try dsimp only at hSw); go_simp; (try with_reducible rfl)
                try simp only [Act.put, List.setIfInBounds_toArray, List.set_cons_zero, List.set_cons_succ]
                refine tk 2 (v := ?_) ?_ ?_
                rotate_left
                · intro w hSw; (try dsimp only at hSw); go_simp; (try with_reducible rfl)
                try simp only [Act.put, List.setIfInBounds_toArray, List.set_cons_zero, List.set_cons_succ]
                refine tk 3 (v := ?_) ?_ ?_
                rotate_left
                · intro w hSw; (try dsimp only at hSw); go_simp; (try with_reducible rfl)
                try simp only [Act.put, List.setIfInBounds_toArray, List.set_cons_zero, List.set_cons_succ]
                refine rd1 4 (fun K hK => ?_)
                go_simp
                (go_at_call 59; refine (rgood_m _ _ _ _ _ _ (HW.out.2.below (bt KW.out.1 hHeld.1)) K5.out GD).mono ?_; rintro e w1 ⟨rfl, hb1⟩)
                refine hK.out _ _ (keep_step (by assumption) hHeld KS) (fun hHeld2 => ?_)
                clear hK K hHeld; have hHeld := hHeld2; clear hHeld2
                try simp only [Act.put, List.setIfInBounds_toArray, List.set_cons_zero, List.set_cons_succ]
                refine tk 5 (v := ?_) ?_ ?_
                rotate_left
                · intro w hSw; (try dsimp only at hSw); go_simp; (try with_reducible rfl)
                try simp only [Act.put, List.setIfInBounds_toArray, List.set_cons_zero, List.set_cons_succ]
                refine tk 6 (v := ?_) ?_ ?_
                rotate_left
                · intro w hSw; (try dsimp only at hSw); go_simp; (try with_reducible rfl)
                try simp only [Act.put, List.setIfInBounds_toArray, List.set_cons_zero, List.set_cons_succ]
                refine tk 7 (v := ?_) ?_ ?_
                rotate_left
                · intro w hSw; (try dsimp only at hSw); go_simp; (try with_reducible rfl)
                try simp only [Act.put, List.setIfInBounds_toArray, List.set_cons_zero, List.set_cons_succ]
                refine tk 8 (v := ?_) ?_ ?_
                rotate_left
                · intro w hSw; (try dsimp only at hSw); go_simp; (try with_reducible rfl)
                try simp only [Act.put, List.setIfInBounds_toArray, List.set_cons_zero, List.set_cons_succ]
                refine tk 9 (v := ?_) ?_ ?_
                rotate_left
                · intro w hSw; (try dsimp only at hSw); go_simp; (try with_reducible rfl)
                try simp only [Act.put, List.setIfInBounds_toArray, List.set_cons_zero, List.set_cons_succ]
                refine tk 10 (v := ?_) ?_ ?_
                rotate_left
                · intro w hSw; (try dsimp only at hSw); go_simp; (try with_reducible rfl)
                try simp only [Act.put, List.setIfInBounds_toArray, List.set_cons_zero, List.set_cons_succ]
                refine tk 12 (v := ?_) ?_ ?_
                rotate_left
                · intro w hSw; (try dsimp only at hSw); go_simp; (try with_reducible rfl)
                try simp only [Act.put, List.setIfInBounds_toArray, List.set_cons_zero, List.set_cons_succ]
                refine tk 13 (v := ?_) ?_ ?_
                rotate_left
                · intro w hSw; (try dsimp only at hSw); go_simp; (try with_reducible rfl)
                try simp only [Act.put, List.setIfInBounds_toArray, List.set_cons_zero, List.set_cons_succ]
                refine rd1 11 (fun K hK => ?_)
                go_simp
                (go_at_call 60; refine (rcount_m _ _ _ _ _ _ (HW.out.2.below (bt KW.out.1 hHeld.1)) K5.out GT).mono ?_; rintro e w2 ⟨rfl, hb2⟩)
                refine hK.out _ _ (keep_step (by assumption) hHeld KS) (fun hHeld2 => ?_)
                clear hK K hHeld; have hHeld := hHeld2; clear hHeld2
                try simp only [Act.put, List.setIfInBounds_toArray, List.set_cons_zero, List.set_cons_succ]
                refine tk 14 (v := ?_) ?_ ?_
                rotate_left
                · intro w hSw; (try dsimp only at hSw); go_simp; (try with_reducible rfl)
                try simp only [Act.put, List.setIfInBounds_toArray, List.set_cons_zero, List.set_cons_succ]
                refine tk 15 (v := ?_) ?_ ?_
                rotate_left
                · intro w hSw; (try dsimp only at hSw); go_simp; (try with_reducible rfl)
                try simp only [Act.put, List.setIfInBounds_toArray, List.set_cons_zero, List.set_cons_succ]
                refine tk 16 (v := ?_) ?_ ?_
                rotate_left
                · intro w hSw; (try dsimp only at hSw); go_simp; (try with_reducible rfl)
                try simp only [Act.put, List.setIfInBounds_toArray, List.set_cons_zero, List.set_cons_succ]
                refine tks 17 ?_
                try simp only [Act.put, List.setIfInBounds_toArray, List.set_cons_zero, List.set_cons_succ]
                refine tks 18 ?_
                try simp only [Act.put, List.setIfInBounds_toArray, List.set_cons_zero, List.set_cons_succ]
                refine tks 19 ?_
                try simp only [Act.put, List.setIfInBounds_toArray, List.set_cons_zero, List.set_cons_succ]
                refine tks 20 ?_
                try simp only [Act.put, List.setIfInBounds_toArray, List.set_cons_zero, List.set_cons_succ]
                refine tks 21 ?_
                try simp only [Act.put, List.setIfInBounds_toArray, List.set_cons_zero, List.set_cons_succ]
                refine tks 22 ?_
                try simp only [Act.put, List.setIfInBounds_toArray, List.set_cons_zero, List.set_cons_succ]
                refine tks 23 ?_
                try simp only [Act.put, List.setIfInBounds_toArray, List.set_cons_zero, List.set_cons_succ]
                refine tks 24 ?_
                try simp only [Act.put, List.setIfInBounds_toArray, List.set_cons_zero, List.set_cons_succ]
                refine tks 25 ?_
                try simp only [Act.put, List.setIfInBounds_toArray, List.set_cons_zero, List.set_cons_succ]
                refine tks 26 ?_
                try simp only [Act.put, List.setIfInBounds_toArray, List.set_cons_zero, List.set_cons_succ]
                refine tks 27 ?_
                try simp only [Act.put, List.setIfInBounds_toArray, List.set_cons_zero, List.set_cons_succ]
                refine tk 28 (v := ?_) ?_ ?_
                rotate_left
                · intro w hSw; (try dsimp only at hSw); go_simp; (try with_reducible rfl)
                try simp only [Act.put, List.setIfInBounds_toArray, List.set_cons_zero, List.set_cons_succ]
                refine wpAnyH_done (by kernel_rfl) ?_ _
                refine NoPanic.normal ?_
                go_wp2
                go_ret
                exact ⟨ret_bool (cg_r1 (HRF.out)).symm, bt KW.out.1 (bt (undrew hb1) hb2)⟩

        · go_wp2
          go_ret
          exact ⟨ret_bool CT.out.symm, KW.out.1⟩
    · rw [cg_n0 hn]
      have q1 : decide (m < 1) = false := decide_eq_false (by omega)
      have q2 : decide (2 < m) = false := decide_eq_false (by omega)
      have K0 := hid (kp_new w (.cells #[.int .i64 c.n, .int .i64 c.s0, .int .i64 c.s1, .slice a0 p0 k0, .slice a1 p1 k1] 26))
      by_cases h1 : c.n < 1
      · have hn1 : decide (c.n < 1) = true := decide_eq_true h1
        go_enter Try.func20, Try.ntmps20
        go_wp2
        go_ret
        exact ⟨rfl, K0.out.1⟩
      · have hn1 : decide (c.n < 1) = false := decide_eq_false h1
        have hn2 : decide (1099511627776 < c.n) = true := decide_eq_true (by omega)
        go_enter Try.func20, Try.ntmps20
        go_wp2
        go_ret
        exact ⟨rfl, K0.out.1⟩
  · rw [cg_not c hm]
    have K0 := hid (kp_new w (.cells #[.int .i64 c.n, .int .i64 c.s0, .int .i64 c.s1, .slice a0 p0 k0, .slice a1 p1 k1] 26))
    by_cases h1 : m < 1
    · have q1 : decide (m < 1) = true := decide_eq_true h1
      go_enter Try.func20, Try.ntmps20
      go_wp2
      go_ret
      exact ⟨rfl, K0.out.1⟩
    · have q1 : decide (m < 1) = false := decide_eq_false h1
      have q2 : decide (2 < m) = true := decide_eq_true (by omega)
      go_enter Try.func20, Try.ntmps20
      go_wp2
      go_ret
      exact ⟨rfl, K0.out.1⟩

end Go.Proofs.Ytjkkajhjcinalaa

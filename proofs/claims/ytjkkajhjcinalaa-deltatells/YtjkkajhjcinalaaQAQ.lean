/-
  -
  -
  -
  Conditions: as each theorem states them.
-/
import Derived.Laws.Cover1
import Derived.Test.YtjkkajhjcinalaaQAC
import Derived.Test.YtjkkajhjcinalaaQAD
import Derived.Test.YtjkkajhjcinalaaQAE
import Derived.Test.YtjkkajhjcinalaaQAJ
import Derived.Test.YtjkkajhjcinalaaQAN
import Derived.Test.YtjkkajhjcinalaaQAO
import Derived.Test.YtjkkajhjcinalaaQAP
namespace Go.Proofs.Ytjkkajhjcinalaa
open Go.ChangeShapes Go.WideShapes Go.ChangeAt Go.RowKit
set_option linter.unusedVariables false
set_option linter.unusedSimpArgs false
set_option maxRecDepth 100000

abbrev Ch := Bool × Rw
def ccs : Ch → List Value | (d, r) => .bool d :: rcs r
def cok : Ch → Prop | (_, r) => rok r
/-- A slice of changes, in a world. -/
def CRow (w : World) (a : Option Addr) (n c : Nat) (l : List Ch) : Prop :=
  n = l.length ∧ n ≤ c ∧ c ≤ maxLen ∧ (a = none → c = 0) ∧ (0 < n → ∃ b off, a = some ⟨b, off, none⟩ ∧ b < w.heap.size ∧ ∀ j r, l[j]? = some r → ∀ i v, (ccs r)[i]? = some v → w.cell? ⟨b, off + j * 7 + i, none⟩ = some v)
theorem CRow.below {w w' : World} {a : Option Addr} {n c : Nat} {l : List Ch} (h : CRow w a n c l) (hb : Below w.heap.size w w') : CRow w' a n c l := by
  obtain ⟨h1, h2, h3, h4, h5⟩ := h
  refine ⟨h1, h2, h3, h4, fun h0 => ?_⟩
  obtain ⟨b, off, e, hlt, hl⟩ := h5 h0
  exact ⟨b, off, e, Nat.lt_of_lt_of_le hlt hb.size, fun j r hj i v hi => ((bcell hb).1 b _ hlt).trans (hl j r hj i v hi)⟩
theorem crow_nil (w : World) : CRow w none 0 0 [] := ⟨rfl, Nat.le_refl _, by decide, fun _ => rfl, fun h => by cases h⟩
theorem CRow.lens {w : World} {a : Option Addr} {n c : Nat} {l : List Ch} (h : CRow w a n c l) : n = l.length ∧ n ≤ 9223372036854775807 := by
  obtain ⟨h1, h2, h3, _⟩ := h
  unfold maxLen at h3
  exact ⟨h1, by omega⟩
/-- One change of it, read. -/
theorem CRow.pick {w w' : World} {a : Option Addr} {n c : Nat} {l : List Ch} (h : CRow w a n c l) (hb : Below w.heap.size w w') {k : Nat} (hk : k < n) :
    ∃ b off x d0 x0 x1 x2 x3 m0 m1, a = some ⟨b, off, none⟩ ∧ x = (d0, (x0, x1, x2, x3, m0, m1)) ∧ l[k]? = some x ∧ w'.cell? ⟨b, off + k * 7, none⟩ = some (.bool d0) ∧ w'.cell? ⟨b, off + k * 7 + 1, none⟩ = some (.int .u8 x0) ∧ w'.cell? ⟨b, off + k * 7 + 2, none⟩ = some (.int .u8 x1) ∧ w'.cell? ⟨b, off + k * 7 + 3, none⟩ = some (.int .u8 x2) ∧ w'.cell? ⟨b, off + k * 7 + 4, none⟩ = some (.int .u8 x3) ∧ w'.cell? ⟨b, off + k * 7 + 5, none⟩ = some (.int .i64 m0) ∧ w'.cell? ⟨b, off + k * 7 + 6, none⟩ = some (.int .i64 m1) := by
  obtain ⟨h1, h2, h3, h4, h5⟩ := h.below hb
  obtain ⟨b, off, e, hlt, hl⟩ := h5 (by omega)
  obtain ⟨r, hr⟩ : ∃ r, l[k]? = some r := ⟨l[k]'(by omega), List.getElem?_eq_getElem (by omega)⟩
  obtain ⟨d0, x0, x1, x2, x3, m0, m1⟩ := r
  have := hl k _ hr
  exact ⟨b, off, _, d0, x0, x1, x2, x3, m0, m1, e, rfl, hr, this 0 _ rfl, this 1 _ rfl, this 2 _ rfl, this 3 _ rfl, this 4 _ rfl, this 5 _ rfl, this 6 _ rfl⟩

theorem cells_ch : Try.prog.cellsOf 76 = 7 := by kernel_rfl
theorem open_change_cells {H : Type} {enc : TypeId × Value → H} {W : World} {base fuel : Nat} {spare : Nat → Bool} {held : Bool} {c0 c1 c2 c3 c4 c5 c6 : Value} {x : DataW H × List MemPlace}
    (hf : DataW.trod enc Try.prog W base spare held fuel 76 [c0, c1, c2, c3, c4, c5, c6] = some x) : ∃ (d0 : Bool) (x0 x1 x2 x3 m0 m1 : Int), [c0, c1, c2, c3, c4, c5, c6] = ccs (d0, (x0, x1, x2, x3, m0, m1)) ∧ cok (d0, (x0, x1, x2, x3, m0, m1)) := by
  have hO : Try.prog.cellsOf 4 = 1 := by kernel_rfl
  have hM : Try.prog.cellsOf 53 = 6 := by kernel_rfl
  obtain ⟨xs, m, _, _, _, hl, hg⟩ := DataW.trod_struct Try.underlying76 hf
  have g0 := hg 0
  have g1 := hg 1
  simp [hO, hM] at g0 g1
  match xs, hl with
  | [y0, y1], _ =>
    obtain ⟨d0, e0, _⟩ := DataW.trod_bool Try.underlying4 g0
    simp at e0
    subst e0
    obtain ⟨x0, x1, x2, x3, m0, m1, e, hr⟩ := open_row_cells (c0 := c1) (c1 := c2) (c2 := c3) (c3 := c4) (c4 := c5) (c5 := c6) g1
    exact ⟨d0, x0, x1, x2, x3, m0, m1, by rw [e]; rfl, hr⟩
theorem open_changes {H : Type} {enc : TypeId × Value → H} {W : World} {base b0 : Nat} {r : Reach} {v : Value} {d : DataW H} {p : List MemPlace}
    (hv : Value.okWide Try.prog W r b0 71 v) (h : DataW.Trod enc Try.prog W base (fun _ => true) true 71 v d p) :
    ∃ a n c l, v = .slice a n c ∧ CRow W a n c l ∧ ∀ r ∈ l, cok r := by
  obtain ⟨a, len, cap, rfl⟩ := okWide_slice Try.underlying71 hv
  obtain ⟨fuel, hf⟩ := h
  rcases Go.Deep.open_slice Try.underlying71 hf with ⟨hcs, _⟩ | ⟨ad, len', cap', m, n', D, Pl, hcs, hb, hl, hm, hmm, _, hx⟩
  · simp [Value.cells] at hcs
    obtain ⟨rfl, rfl, rfl⟩ := hcs
    exact ⟨none, 0, 0, [], rfl, crow_nil W, fun r hr => by cases hr⟩
  · simp [Value.cells] at hcs
    obtain ⟨rfl, rfl, rfl⟩ := hcs
    simp only [if_true] at hmm
    have each : ∀ i, i < len → ∃ q : Ch, cok q ∧ ∀ k v, (ccs q)[k]? = some v → W.cell? (ad.add (i * 7 + k)) = some v := by
      intro i hi
      obtain ⟨cs', h1, h2⟩ := hx i (by omega)
      rw [cells_ch] at h1
      obtain ⟨_, hlen, hcell⟩ := World.cells?_some h1
      match cs', hlen with
      | [c0, c1, c2, c3, c4, c5, c6], _ =>
        obtain ⟨d0, x0, x1, x2, x3, m0, m1, e, hr⟩ := open_change_cells h2
        refine ⟨_, hr, fun k v hk => ?_⟩
        rw [← e] at hk
        have hk6 : k < 7 := by
          have := (List.getElem?_eq_some_iff.1 hk).1
          simpa using this
        have := hcell k (by simpa using hk6)
        rw [Go.Deep.add_add] at this
        rw [this]
        exact hk
    obtain ⟨q, hq⟩ := Go.Deep.choose_lt each
    refine ⟨some ad, len, cap, (List.range len).map q, rfl, ⟨by simp, hl, hm, (fun h => by cases h), fun h0 => ?_⟩, ?_⟩
    · obtain ⟨b, off, spot⟩ := ad
      have hc0 := (hq 0 (by omega)).2 0
      obtain ⟨⟨d0, x0, x1, x2, x3, m0, m1⟩, hq0⟩ : ∃ y, q 0 = y := ⟨_, rfl⟩
      have hc := hc0 (.bool d0) (by rw [hq0]; rfl)
      have hspot : spot = none := by simpa [Addr.add] using World.cell?_spot hc
      subst hspot
      have hb' := World.block_lt_of_cell? _ _ hc
      refine ⟨b, off, rfl, by simpa [Addr.add] using hb', fun j r hj i v hi => ?_⟩
      have hjl : j < len := by
        have := (List.getElem?_eq_some_iff.1 hj).1
        simpa using this
      rw [List.getElem?_map, List.getElem?_range hjl] at hj
      simp at hj
      subst hj
      have := (hq j hjl).2 i v hi
      rw [add_at, ← Nat.add_assoc] at this
      exact this
    · intro r hr
      simp only [List.mem_map, List.mem_range] at hr
      obtain ⟨i, hi, rfl⟩ := hr
      exact (hq i hi).1

theorem box_oct {w : World} {D : Nat} {t : TypeId} {c0 c1 c2 c3 c4 c5 c6 c7 : Value} (hD : w.heap[D]? = some (.cells #[c0, c1, c2, c3, c4, c5, c6, c7] t)) : w.cell? ⟨D, 0, none⟩ = some c0 ∧ w.cell? ⟨D, 1, none⟩ = some c1 ∧ w.cell? ⟨D, 2, none⟩ = some c2 ∧ w.cell? ⟨D, 3, none⟩ = some c3 ∧ w.cell? ⟨D, 4, none⟩ = some c4 ∧ w.cell? ⟨D, 5, none⟩ = some c5 ∧ w.cell? ⟨D, 6, none⟩ = some c6 ∧ w.cell? ⟨D, 7, none⟩ = some c7 := by
  refine ⟨?_, ?_, ?_, ?_, ?_, ?_, ?_, ?_⟩ <;> simp [World.cell?, hD]
theorem ofdC_ok {m m0 m1 : Int} {del : Bool} (h0 : I64 m0) (h1 : I64 m1) : okd (ofdC m m0 m1 del) := by
  by_cases hm : m = 1 ∨ m = 2
  · cases del with
    | false => rw [(ofd_come hm).2]; exact of1_ok h0 h1
    | true => rw [← (ofd_go hm).2]; exact dnC_ok (of1_ok h0 h1)
  · have e : ofdB m m0 m1 del = false := ofd_no (by simp only [Bool.or_eq_false_iff, decide_eq_false_iff_not]; omega)
    rw [ofdC_no e]; exact dl0_ok
theorem ofdC_sh {m m0 m1 : Int} {del : Bool} : shn 1 (ofdC m m0 m1 del) := by
  have k0 : ∀ k, shn k dl0 := fun k => ⟨⟨Nat.zero_le _, Nat.zero_le _⟩, Nat.zero_le _, Nat.zero_le _⟩
  have k1 : shn 1 (of1 m m0 m1) := by
    unfold shn of1
    refine ⟨⟨Nat.le_refl _, ?_⟩, Nat.zero_le _, Nat.zero_le _⟩
    show (if m = 2 then [(m1, (1 : Int))] else []).length ≤ 1
    split <;> simp
  by_cases hm : m = 1 ∨ m = 2
  · cases del with
    | false => rw [(ofd_come hm).2]; exact k1
    | true => rw [← (ofd_go hm).2]; exact dnC_sh k1
  · have e : ofdB m m0 m1 del = false := ofd_no (by simp only [Bool.or_eq_false_iff, decide_eq_false_iff_not]; omega)
    rw [ofdC_no e]; exact k0 1
theorem shn_0 (k : Nat) : shn k dl0 := ⟨⟨Nat.zero_le _, Nat.zero_le _⟩, Nat.zero_le _, Nat.zero_le _⟩

set_option maxHeartbeats 64000000 in
theorem dsum_m (m : Int) (a : Option Addr) (n c : Nat) (l : List Ch) (w : World) (hl : CRow w a n c l) (hk : ∀ r ∈ l, cok r) (hn : n ≤ 400) :
    Calls Try.prog 35 #[.int .i64 m, .slice a n c] w fun e w' => (∃ (D : Dl) (v : Bool) (r0 : Option Addr) (r1 r2 : Nat) (r3 : Option Addr) (r4 r5 : Nat) (r6 : Option Addr) (r7 r8 : Nat) (r9 : Option Addr) (r10 r11 : Nat), e = .returned (.agg #[.int .i64 D.n, .int .i64 D.s0, .int .i64 D.s1, .slice r0 r1 r2, .slice r3 r4 r5, .slice r6 r7 r8, .slice r9 r10 r11, .bool v]) ∧ DW w' r0 r1 r2 r3 r4 r5 r6 r7 r8 r9 r10 r11 D ∧ okd D ∧ shn n D) ∧ Below w.heap.size w w' := by
  have HL := hid hl
  have HK := hid hk
  have KR := hid (kp_new w (.cells #[.int .i64 0, .int .i64 0, .int .i64 0, .slice none 0 0, .slice none 0 0, .slice none 0 0, .slice none 0 0, .bool false] 78))
  clear hl hk
  go_enter Try.func35, Try.ntmps35
  go_upto_region 1 with fail
  generalize w.alloc (.cells #[.int .i64 0, .int .i64 0, .int .i64 0, .slice none 0 0, .slice none 0 0, .slice none 0 0, .slice none 0 0, .bool false] 78) = W at KR ⊢
  obtain ⟨N0, hN0⟩ : ∃ y, w.heap.size = y := ⟨_, rfl⟩
  rw [hN0] at KR ⊢
  have HN0 := hid hN0
  clear hN0
  have L0 := heap_lt KR.out.2.2
  have KD : Hid (Kp w (W.alloc (.cells #[.int .i64 0, .int .i64 0, .int .i64 0, .slice none 0 0, .slice none 0 0, .slice none 0 0, .slice none 0 0, .bool true] 78)) W.heap.size (.cells #[.int .i64 dl0.n, .int .i64 dl0.s0, .int .i64 dl0.s1, .slice none 0 0, .slice none 0 0, .slice none 0 0, .slice none 0 0, .bool true] 78)) := hid (kp_new2 KR.out.1 _ _ rfl)
  replace KR := hid (kp_alloc KR.out (.cells #[.int .i64 0, .int .i64 0, .int .i64 0, .slice none 0 0, .slice none 0 0, .slice none 0 0, .slice none 0 0, .bool true] 78))
  go_upto_region 2 with fail
  generalize W.alloc (.cells #[.int .i64 0, .int .i64 0, .int .i64 0, .slice none 0 0, .slice none 0 0, .slice none 0 0, .slice none 0 0, .bool true] 78) = W1 at KD KR ⊢
  obtain ⟨N1, hN1⟩ : ∃ y, W.heap.size = y := ⟨_, rfl⟩
  rw [hN1] at KD L0 ⊢
  have HN := hid L0
  clear hN1 L0
  go_upto_region 3 with fail
  go_loopw [6] (fun i wr => ∃ (k : Nat) (D : Dl) (ok : Bool) (a0 : Option Addr) (a1 a2 : Nat) (a3 : Option Addr) (a4 a5 : Nat) (a6 : Option Addr) (a7 a8 : Nat) (a9 : Option Addr) (a10 a11 : Nat), k ≤ n ∧ i = .int .i64 k ∧ Hid (Kp w wr N0 (.cells #[.int .i64 0, .int .i64 0, .int .i64 0, .slice none 0 0, .slice none 0 0, .slice none 0 0, .slice none 0 0, .bool false] 78)) ∧ Hid (Kp w wr N1 (.cells #[.int .i64 D.n, .int .i64 D.s0, .int .i64 D.s1, .slice a0 a1 a2, .slice a3 a4 a5, .slice a6 a7 a8, .slice a9 a10 a11, .bool ok] 78)) ∧ Hid (DW wr a0 a1 a2 a3 a4 a5 a6 a7 a8 a9 a10 a11 D) ∧ Hid (okd D) ∧ Hid (shn k D) ∧ Hid (∃ wf : World, N1 < wf.heap.size ∧ FD wf a0 a1 a3 a4 a6 a7 a9 a10)) (fun i _ => n - (intOf i).toNat)
  case atStart => exact ⟨0, dl0, true, none, 0, 0, none, 0, 0, none, 0, 0, none, 0, 0, by omega, rfl, KR, KD, hid (dw_0 _), hid dl0_ok, hid (shn_0 0), hid ⟨W1, heap_lt KD.out.2.2, fd_0 _⟩⟩
  case round =>
    obtain ⟨k, D, ok, d0, d1, d2, d3, d4, d5, d6, d7, d8, d9, d10, d11, hkn, rfl, KR, KD, DD, OD, SD, FF⟩ := hrel
    have hk0 : (0 : Int) ≤ (k : Int) := by omega
    obtain ⟨g0, g1, g2, g3, g4, g5, g6, g7⟩ := box_oct KD.out.2.2
    by_cases hlt : k < n
    · have hki : (k : Int) < (n : Int) := by omega
      have hkd : decide ((k : Int) < (n : Int)) = true := decide_eq_true hki
      cases ok with
      | true =>
        obtain ⟨b, off, xr, del, x0, x1, x2, x3, m0, m1, rfl, ex, hr, p0, p1, p2, p3, p4, p5, p6⟩ := HL.out.pick KR.out.1 hlt
        have HR := HK.out xr (List.mem_of_getElem? hr)
        subst ex
        have H0 := hid HR.2.1
        have H1 := hid HR.2.2
        clear hr HR
        obtain ⟨X, hX⟩ : ∃ y, ofdC m m0 m1 del = y := ⟨_, rfl⟩
        obtain ⟨vx, hvx⟩ : ∃ y, ofdB m m0 m1 del = y := ⟨_, rfl⟩
        have FX := hid hX
        have FV := hid hvx
        have OX : Hid (okd X) := hid (by rw [← hX]; exact ofdC_ok H0.out H1.out)
        have SX : Hid (shn 1 X) := hid (by rw [← hX]; exact ofdC_sh)
        clear hX hvx
        go_upto_region 6 with (first
          | (go_at_call 33; refine (rdof_m m m0 m1 x0 x1 x2 x3 del X vx _ H0.out H1.out FX FV).mono ?_; rintro e v1 ⟨⟨y0, y1, y2, y3, y4, y5, y6, y7, y8, y9, y10, y11, rfl, hd, hf⟩, hb⟩; have DX := hid hd; replace KR := hid (KR.out.step hb); replace KD := hid (KD.out.step hb); replace DD := hid (DD.out.below hb); clear hd hf hb g0 g1 g2 g3 g4 g5 g6 g7 p0 p1 p2 p3 p4 p5 p6)
          | (have KZ : Hid (Kp w (v1.alloc (.cells #[.int .i64 0, .int .i64 0, .int .i64 0, .slice none 0 0, .slice none 0 0, .slice none 0 0, .slice none 0 0, .bool false] 78)) v1.heap.size (.cells #[.int .i64 0, .int .i64 0, .int .i64 0, .slice none 0 0, .slice none 0 0, .slice none 0 0, .slice none 0 0, .bool false] 78)) := hid (kp_new2 KR.out.1 _ _ rfl); refine wpList_store_whole rfl 78 (.tmp 7) (.tmp 24) rfl v1.heap.size (rdC X.n X.s0 X.s1 y0 y1 y2 y3 y4 y5 y6 y7 y8 y9 y10 y11 vx) rfl rfl 78 _ KZ.out.2.2 rfl (by show _ = some 8; exact size_rd) (rdC_one _ _ _ _ _ _ _ _ _ _ _ _ _ _ _ _) ?_; intro w9 hp9 hg9; have KX := hid (kp_at KZ.out hg9 hp9); replace KR := hid (kp_new_gr KR.out hg9); replace KD := hid (kp_new_gr KD.out hg9); replace DD := hid (dw_new_gr DD.out hg9); replace DX := hid (dw_new_gr DX.out hg9); clear KZ; clear hp9 hg9))
        rename World => v2
        generalize v1.heap.size = NX at KX ⊢
        obtain ⟨h0, h1, h2, h3, h4, h5, h6, h7⟩ := box_oct KX.out.2.2
        cases vx with
        | false =>
          go_wp2_with (refine wpList_store_whole rfl 78 (.tmp 4) (.tmp 28) rfl N0 (rdC 0 0 0 none 0 0 none 0 0 none 0 0 none 0 0 false) rfl rfl 78 _ KR.out.2.2 rfl (by show _ = some 8; exact size_rd) (rdC_one _ _ _ _ _ _ _ _ _ _ _ _ _ _ _ _) ?_; intro w9 hp9 hg9; have KR9 := hid (kp_at KR.out hg9 hp9); clear hp9 hg9)
          (try simp only [Exit.inBlock, Exit.then])
          show bodyPost Try.prog Try.f35 _ _ _ _
          refine bodyPost_ret (results_cell_row (p := 4) rfl _ _ N0 _ (rdC 0 0 0 none 0 0 none 0 0 none 0 0 none 0 0 false) (0, 0) _ rfl KR9.out.2.2 Try.underlying78 rfl (by kernel_rfl)) rfl ?_
          exact ⟨⟨dl0, false, none, 0, 0, none, 0, 0, none, 0, 0, none, 0, 0, rfl, dw_0 _, dl0_ok, shn_0 _⟩, KR9.out.1⟩
        | true =>
          obtain ⟨J, hJ⟩ : ∃ y, djC m D X = y := ⟨_, rfl⟩
          obtain ⟨vj, hvj⟩ : ∃ y, djB m D X = y := ⟨_, rfl⟩
          have FJ := hid hJ
          have FVJ := hid hvj
          have OJ : Hid (okd J) := hid (by rw [← hJ]; exact djC_ok OD.out OX.out)
          have SJ : Hid (shn (k + 1) J) := hid (by rw [← hJ]; exact djC_sh SD.out SX.out)
          clear hJ hvj
          obtain ⟨g0, g1, g2, g3, g4, g5, g6, g7⟩ := box_oct KD.out.2.2
          have LT := hid (heap_lt KD.out.2.2)
          go_upto_region 4 with (first
            | (go_at_call 43; refine (rdjoin_m m D X d0 d1 d2 d3 d4 d5 d6 d7 d8 d9 d10 d11 y0 y1 y2 y3 y4 y5 y6 y7 y8 y9 y10 y11 J vj _ DD.out DX.out OD.out OX.out (shn_5 SD.out (by omega)) (shn_5 SX.out (by omega)) FJ FVJ).mono ?_; rintro e v3 ⟨⟨z0, z1, z2, z3, z4, z5, z6, z7, z8, z9, z10, z11, rfl, hd, hf⟩, hb⟩; have DJ := hid hd; have FDJ := hid hf; replace KR := hid (KR.out.step hb); replace KD := hid (KD.out.step hb); clear hd hf hb g0 g1 g2 g3 g4 g5 g6 g7 h0 h1 h2 h3 h4 h5 h6 h7)
            | (refine wpList_store_whole rfl 78 (.tmp 5) (.tmp 34) rfl N1 (rdC J.n J.s0 J.s1 z0 z1 z2 z3 z4 z5 z6 z7 z8 z9 z10 z11 vj) rfl rfl 78 _ KD.out.2.2 rfl (by show _ = some 8; exact size_rd) (rdC_one _ _ _ _ _ _ _ _ _ _ _ _ _ _ _ _) ?_; intro w9 hp9 hg9; replace DJ := hid (dw_apart DJ.out FDJ.out hg9 LT.out); replace KR := hid (kp_gr KR.out hg9 (by have := HN.out; omega) (by have := HN.out; have := HN0.out; omega)); replace KD := hid (kp_at KD.out hg9 hp9); clear hp9 hg9))
          go_wp2
          go_roundw
          case rel => exact ⟨k + 1, J, vj, z0, z1, z2, z3, z4, z5, z6, z7, z8, z9, z10, z11, by omega, by go_num, KR, KD, DJ, OJ, SJ, hid ⟨_, LT.out, FDJ.out⟩⟩
          case measure => simp [intOf]; omega
      | false =>
        obtain ⟨wf, hwf, hfd⟩ := FF.out
        have FFD := hid hfd
        have SK : Hid (shn n D) := hid (by obtain ⟨⟨h1, h2⟩, h3, h4⟩ := SD.out; exact ⟨⟨by omega, by omega⟩, by omega, by omega⟩)
        clear hfd FF
        go_wp2_with (refine wpList_store_whole rfl 78 (.tmp 4) (.tmp 35) rfl N0 (rdC D.n D.s0 D.s1 d0 d1 d2 d3 d4 d5 d6 d7 d8 d9 d10 d11 false) rfl rfl 78 _ KR.out.2.2 rfl (by show _ = some 8; exact size_rd) (rdC_one _ _ _ _ _ _ _ _ _ _ _ _ _ _ _ _) ?_; intro w9 hp9 hg9; have KR9 := hid (kp_at KR.out hg9 hp9); have D9 := hid (dw_apart DD.out FFD.out hg9 (by have := HN.out; omega)); clear hp9 hg9)
        (try simp only [Exit.inBlock, Exit.then])
        show bodyPost Try.prog Try.f35 _ _ _ _
        refine bodyPost_ret (results_cell_row (p := 4) rfl _ _ N0 _ (rdC D.n D.s0 D.s1 d0 d1 d2 d3 d4 d5 d6 d7 d8 d9 d10 d11 false) (0, 0) _ rfl KR9.out.2.2 Try.underlying78 rfl (by kernel_rfl)) rfl ?_
        exact ⟨⟨D, false, d0, d1, d2, d3, d4, d5, d6, d7, d8, d9, d10, d11, rfl, D9.out, OD.out, SK.out⟩, KR9.out.1⟩
    · have hkf : decide ((k : Int) < (n : Int)) = false := decide_eq_false (by omega)
      obtain ⟨wf, hwf, hfd⟩ := FF.out
      have FFD := hid hfd
      have SK : Hid (shn n D) := hid (by obtain ⟨⟨h1, h2⟩, h3, h4⟩ := SD.out; exact ⟨⟨by omega, by omega⟩, by omega, by omega⟩)
      clear hfd FF
      go_wp2_with (refine wpList_store_whole rfl 78 (.tmp 4) (.tmp 35) rfl N0 (rdC D.n D.s0 D.s1 d0 d1 d2 d3 d4 d5 d6 d7 d8 d9 d10 d11 ok) rfl rfl 78 _ KR.out.2.2 rfl (by show _ = some 8; exact size_rd) (rdC_one _ _ _ _ _ _ _ _ _ _ _ _ _ _ _ _) ?_; intro w9 hp9 hg9; have KR9 := hid (kp_at KR.out hg9 hp9); have D9 := hid (dw_apart DD.out FFD.out hg9 (by have := HN.out; omega)); clear hp9 hg9)
      (try simp only [Exit.inBlock, Exit.then])
      show bodyPost Try.prog Try.f35 _ _ _ _
      refine bodyPost_ret (results_cell_row (p := 4) rfl _ _ N0 _ (rdC D.n D.s0 D.s1 d0 d1 d2 d3 d4 d5 d6 d7 d8 d9 d10 d11 ok) (0, 0) _ rfl KR9.out.2.2 Try.underlying78 rfl (by kernel_rfl)) rfl ?_
      exact ⟨⟨D, ok, d0, d1, d2, d3, d4, d5, d6, d7, d8, d9, d10, d11, rfl, D9.out, OD.out, SK.out⟩, KR9.out.1⟩

end Go.Proofs.Ytjkkajhjcinalaa

namespace Go.Proofs.Ytjkkajhjcinalaa
open Go.ChangeShapes Go.WideShapes Go.ChangeAt Go.RowKit
set_option linter.unusedVariables false
set_option linter.unusedSimpArgs false
set_option maxRecDepth 100000

theorem three_pick_d {w : World} {N : Nat} {t : TypeId} {a b c : Int} (h : w.heap[N]? = some (.cells #[.int .i64 a, .int .i64 b, .int .i64 c] t)) {q : Nat} (hq : q < 3) : ∃ x, w.cell? ⟨N, q, none⟩ = some (.int .i64 x) := by
  rw [cell_of_row _ _ _ _ t (0, 0) h]
  match q, hq with
  | 0, _ => exact ⟨a, rfl⟩
  | 1, _ => exact ⟨b, rfl⟩
  | 2, _ => exact ⟨c, rfl⟩

end Go.Proofs.Ytjkkajhjcinalaa

namespace Go.Proofs.Ytjkkajhjcinalaa
open Go.ChangeShapes Go.WideShapes Go.ChangeAt Go.RowKit
set_option linter.unusedVariables false
set_option linter.unusedSimpArgs false
set_option maxRecDepth 100000

theorem field_rd (n s0 s1 : Int) (x0 : Option Addr) (x1 x2 : Nat) (x3 : Option Addr) (x4 x5 : Nat) (x6 : Option Addr) (x7 x8 : Nat) (x9 : Option Addr) (x10 x11 : Nat) (v : Bool) : ∀ w, (Instr.field 78 (.agg #[.int .i64 n, .int .i64 s0, .int .i64 s1, .slice x0 x1 x2, .slice x3 x4 x5, .slice x6 x7 x8, .slice x9 x10 x11, .bool v]) 0).run Try.prog w = .ok (.agg #[.int .i64 n, .int .i64 s0, .int .i64 s1, .slice x0 x1 x2, .slice x3 x4 x5, .slice x6 x7 x8, .slice x9 x10 x11]) w := fun w => by kernel_rfl
end Go.Proofs.Ytjkkajhjcinalaa

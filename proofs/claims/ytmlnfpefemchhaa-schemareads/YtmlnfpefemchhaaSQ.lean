/-
  What schema's Read returns.
  Conditions: as each theorem states them.
-/
import Derived.Test.YtmlnfpefemchhaaSO
namespace Go.Proofs.Ytmlnfpefemchhaa
open Go.ChangeShapes Go.WideShapes Go.ChangeAt Go.RowKit
set_option linter.unusedVariables false
set_option linter.unusedSimpArgs false

theorem info_dim : (Try.prog.info? 59).map (fun i => (i.zero, i.size, i.bytes)) = some (some (.agg #[.slice none 0 0, .slice none 0 0]), 2, 48) := by kernel_rfl
def rdD (b : List Int) : Dims := match pread b with | some x => x.1 | none => []
def rdM (b : List Int) : Int := match pread b with | some x => x.2 | none => 0
def rdB (b : List Int) : Bool := (pread b).isSome
theorem rd_none {b : List Int} (h : pread b = none) : rdD b = [] ∧ rdM b = 0 ∧ rdB b = false := by unfold rdD rdM rdB; rw [h]; exact ⟨rfl, rfl, rfl⟩
theorem rd_some {b : List Int} {ds : Dims} {M : Int} (h : pread b = some (ds, M)) : rdD b = ds ∧ rdM b = M ∧ rdB b = true := by unfold rdD rdM rdB; rw [h]; exact ⟨rfl, rfl, rfl⟩
theorem pread_no1 {b : List Int} (h : ¬ (pall b).2 = some []) : pread b = none := by unfold pread; rw [if_neg (fun e => h e.1)]
theorem pread_no2 {b : List Int} (h : goodC (pall b).1 (pnum (some b)).1 = false) : pread b = none := by unfold pread; rw [if_neg (fun e => by rw [h] at e; cases e.2)]
theorem pread_yes {b : List Int} (h : (pall b).2 = some []) (h2 : goodC (pall b).1 (pnum (some b)).1 = true) : pread b = some ((pall b).1, (pnum (some b)).1) := by unfold pread; rw [if_pos ⟨h, h2⟩]
/-- A catalog that is being read. -/
def CSt (t : TypeId) (w wr : World) (B R C : Nat) (M : Int) (s2 : St) (k : Nat) (dv : Value) (ps : List (Value × Value)) : Prop :=
  Rdr t w wr B (pdims k s2).2 ∧ (w.heap.size ≤ R ∧ ¬ R = B ∧ ¬ R = C ∧ w.heap.size ≤ C ∧ ¬ C = B) ∧ wr.heap[R]? = some (.cells #[.slice none 0 0, .int .i64 0] 25) ∧ wr.heap[C]? = some (.cells #[dv, .int .i64 M] 25) ∧
    wr.ownsRow w.heap.size 59 2 dv k (flat2 ps) ∧ Pairs (only wr [3, 56]) ps (pdims k s2).1
/-- One dimension more. -/
theorem CSt.step {t : TypeId} {w wr w3 w4 : World} {B R C k sl sc ul uc g cap : Nat} {sa ua : Option Addr} {M : Int} {d : List Int × List (List Int)} {s2 : St} {dv : Value} {ps : List (Value × Value)} (h : CSt t w wr B R C M s2 k dv ps)
    (ht : ¬ t = 3 ∧ ¬ t = 59 ∧ ¬ t = 56) (hL : (pdims (k + 1) s2).1 = (pdims k s2).1 ++ [d])
    (hr3 : Rdr t w w3 B (pdims (k + 1) s2).2) (hg3 : wr.grownBy w3 (some B)) (hi : Dim (only w3 [3, 56]) sa sl sc ua ul uc d.1 d.2)
    (ho : w4.ownsRow w.heap.size 59 2 (.slice (some ⟨g, 0, none⟩) (k + 1) cap) (k + 1) (flat2 ps ++ [.slice sa sl sc, .slice ua ul uc])) (hg4 : (w3.alloc (.cells #[.slice sa sl sc, .slice ua ul uc] 59)).grownBy w4 dv.ownBlock) :
    CSt t w (w4.setCell ⟨C, 0, none⟩ (.slice (some ⟨g, 0, none⟩) (k + 1) cap)) B R C M s2 (k + 1) (.slice (some ⟨g, 0, none⟩) (k + 1) cap) (ps ++ [(.slice sa sl sc, .slice ua ul uc)]) := by
  obtain ⟨h1, ⟨h3, h4, h5, h3', h4'⟩, h6, h7, h9, h10⟩ := h
  obtain ⟨cB, kB⟩ := h1.kind
  have hown3 : w3.ownsRow w.heap.size 59 2 dv k (flat2 ps) := h9.kept hg3 (.inr (fun e => by obtain ⟨c', hc'⟩ := own_kind h9 e; exact kinds_apart hc' kB (fun e => ht.2.1 e.symm) rfl))
  have hown3' := hown3.alloc (.cells #[.slice sa sl sc, .slice ua ul uc] 59)
  have ga : w3.grownBy (w3.alloc (.cells #[.slice sa sl sc, .slice ua ul uc] 59)) none := World.grownBy_alloc _ _ _
  have R3 := grown_keeps hg3 h6 (fun j hj => by cases hj; exact fun e => h4 e.symm)
  have D3 := grown_keeps hg3 h7 (fun j hj => by cases hj; exact fun e => h4' e.symm)
  have R3a := grown_keeps ga R3 (fun j hj => by cases hj)
  have D3a := grown_keeps ga D3 (fun j hj => by cases hj)
  have R4 := grown_keeps hg4 R3a (fun j hj => by obtain ⟨c', hc'⟩ := own_kind hown3' hj; exact kinds_apart hc' R3a (by decide))
  have D4 := grown_keeps hg4 D3a (fun j hj => by obtain ⟨c', hc'⟩ := own_kind hown3' hj; exact kinds_apart hc' D3a (by decide))
  have gs := set_grown w4 C 0 (.slice (some ⟨g, 0, none⟩) (k + 1) cap)
  have B3a := hr3.grow ga (fun j hj => by cases hj)
  obtain ⟨cB3a, kB3a⟩ := B3a.kind
  have B4 := B3a.grow hg4 (fun j hj => by
    obtain ⟨c', hc'⟩ := own_kind hown3' hj
    exact ⟨(hown3'.lt j hj).1, kinds_apart hc' kB3a (fun e => ht.2.1 e.symm)⟩)
  have B5 := B4.grow gs (fun j hj => by cases hj; exact ⟨h3', h4'⟩)
  have i3 : Incl (only wr [3, 56]) (only w3 [3, 56]) := only_grow hg3 (fun j c' t' f hj hh => by cases hj; rw [kB] at hh; simp at hh; obtain ⟨_, rfl, _⟩ := hh; simp; exact ⟨ht.1, ht.2.2⟩)
  have i4 : Incl (only w3 [3, 56]) (only (w4.setCell ⟨C, 0, none⟩ (.slice (some ⟨g, 0, none⟩) (k + 1) cap)) [3, 56]) :=
    ((only_grow ga (fun j c' t' f hj hh => by cases hj)).trans (only_grow hg4 (fun j c' t' f hj hh => by
      obtain ⟨c'', hc''⟩ := own_kind hown3' hj; rw [hc''] at hh; simp at hh; obtain ⟨_, rfl, _⟩ := hh; decide))).trans (only_grow gs (fun j c' t' f hj hh => by cases hj; rw [D4] at hh; simp at hh; obtain ⟨_, rfl, _⟩ := hh; decide))
  refine ⟨B5, ⟨h3, h4, h5, h3', h4'⟩, ?_, ?_, ?_, ?_⟩
  · exact grown_keeps gs R4 (fun j hj => by cases hj; exact fun e => h5 e.symm)
  · exact heap_setCell_same w4 C 0 _ _ _ D4
  · rw [flat2_app]
    exact ho.kept gs (.inr (fun e => by obtain ⟨c', hc'⟩ := own_kind ho e; exact kinds_apart hc' D4 (by decide) rfl))
  · rw [hL]
    obtain ⟨S, U⟩ := d
    exact (h10.incl (i3.trans i4)).snoc (hi.incl i4)
theorem CSt.drew {t : TypeId} {w wr : World} {B R C k : Nat} {M : Int} {s2 : St} {dv : Value} {ps : List (Value × Value)} (h : CSt t w wr B R C M s2 k dv ps) : CSt t w wr.drew B R C M s2 k dv ps := by
  obtain ⟨h1, h2, h3, h6, h7, h8⟩ := h
  exact ⟨⟨h1.1, h1.2.1, h1.2.2.1.drew, h1.2.2.2⟩, h2, h3, h6, h7, h8⟩
theorem CSt.cat {t : TypeId} {w wr : World} {B R C k : Nat} {M : Int} {s2 : St} {dv : Value} {ps : List (Value × Value)} (h : CSt t w wr B R C M s2 k dv ps) : ∃ a c, dv = .slice a k c ∧ Cat wr a k c (pdims k s2).1 := by
  obtain ⟨h1, h2, h3, h6, h7, h8⟩ := h
  exact cat_own h7 (h8.incl (only_incl _ _))
theorem CSt.grow0 {t : TypeId} {w wr w' : World} {B R C k : Nat} {M : Int} {s2 : St} {dv : Value} {ps : List (Value × Value)} (h : CSt t w wr B R C M s2 k dv ps) (hb : Below wr.heap.size wr w') : CSt t w w' B R C M s2 k dv ps := by
  obtain ⟨h1, h2, h3, h6, h7, h8⟩ := h
  have g := below_grow hb none
  exact ⟨h1.below hb, h2, grown_keeps g h3 (fun j hj => by cases hj), grown_keeps g h6 (fun j hj => by cases hj), h7.kept g (by cases hv : dv.ownBlock <;> simp), h8.incl (only_grow g (fun j c' t' f hj hh => by cases hj))⟩
/-- The last word: what is told lies in a block of the call's own. -/
theorem CSt.fin {t : TypeId} {w wr W5 : World} {B R C k : Nat} {M : Int} {s2 : St} {dv : Value} {ps : List (Value × Value)} (h : CSt t w wr B R C M s2 k dv ps) {x y : Value} (hW : W5 = (wr.setCell ⟨R, 0, none⟩ x).setCell ⟨R, 1, none⟩ y) :
    Below w.heap.size w W5 ∧ W5.heap[R]? = some (.cells #[x, y] 25) ∧ ∃ a c, dv = .slice a k c ∧ Cat W5 a k c (pdims k s2).1 := by
  obtain ⟨h1, ⟨h2, _⟩, h3, h6, h7, h8⟩ := h
  have H4 := heap_setCell_same wr R 0 _ _ x h3
  have H5 := heap_setCell_same _ R 1 _ _ y H4
  have g0 := set_grown wr R 0 x
  have g1 := set_grown (wr.setCell ⟨R, 0, none⟩ x) R 1 y
  have o4 := h7.kept g0 (.inr (fun e => by obtain ⟨c', hc'⟩ := own_kind h7 e; exact kinds_apart hc' h3 (by decide) rfl))
  have o5 := o4.kept g1 (.inr (fun e => by obtain ⟨c', hc'⟩ := own_kind o4 e; exact kinds_apart hc' H4 (by decide) rfl))
  have ii := (only_grow (T := [3, 56]) g0 (by intro j c' t' f hj hh; cases hj; rw [h3] at hh; simp at hh; obtain ⟨_, rfl, _⟩ := hh; decide)).trans (only_grow g1 (by intro j c' t' f hj hh; cases hj; rw [H4] at hh; simp at hh; obtain ⟨_, rfl, _⟩ := hh; decide))
  rw [← hW] at H5 o5 ii
  have hb : Below w.heap.size w W5 := by rw [hW]; exact (h1.2.2.1.setCell h2 _).setCell h2 _
  exact ⟨hb, H5, cat_own o5 ((h8.incl ii).incl (only_incl _ _))⟩
theorem rdr_new {t : TypeId} {w wA : World} {a : Option Addr} {n c : Nat} {l : List Int} (hb : Below w.heap.size w wA) (h : code.Row8 w a n c l) : Rdr t w (wA.alloc (.cells #[.slice a n c, .bool false] t)) wA.heap.size (some l) :=
  ⟨hb.size, by simp, hb.alloc hb.size _, a, n, c, l, false, heap_alloc_new _ _, h, .inl ⟨rfl, rfl⟩⟩

set_option maxHeartbeats 4000000 in
set_option maxRecDepth 100000 in
theorem sread_any (a : Option Addr) (n c : Nat) (b : List Int) (w : World) (h : code.Row8 w a n c b) :
    Calls Try.prog 12 #[.slice a n c] w fun e w' => (∃ a' n' c', e = .returned (.tuple #[.agg #[.slice a' n' c', .int .i64 (rdM b)], .bool (rdB b)]) ∧ Cat w' a' n' c' (rdD b)) ∧ Below w.heap.size w w' := by
  obtain ⟨i0, hi, hz0, hz1, hz2⟩ := info_parts info_dim
  have HA : Hid (Below w.heap.size w (w.alloc (.cells #[.slice none 0 0, .int .i64 0] 25))) := (Below.refl _ _).alloc (Nat.le_refl _) _
  have H0 : Hid (Rdr 65 w ((w.alloc (.cells #[.slice none 0 0, .int .i64 0] 25)).alloc (.cells #[.slice a n c, .bool false] 65)) (w.heap.size + 1) (some b)) := by
    have := rdr_new (t := 65) HA.out h
    rw [World.size_alloc] at this
    exact this
  have NS : Hid (NN (some b)) := H0.out.nn
  obtain ⟨M, hM⟩ : ∃ M, (pnum (some b)).1 = M := ⟨_, rfl⟩
  obtain ⟨s1, hs1⟩ : ∃ s1, (pnum (some b)).2 = s1 := ⟨_, rfl⟩
  obtain ⟨s2, hs2⟩ : ∃ s2, (pnum s1).2 = s2 := ⟨_, rfl⟩
  have N1 : Hid (NN s1) := by rw [← hs1]; exact pnum_nn NS.out
  have N2 : Hid (NN s2) := by rw [← hs2]; exact pnum_nn N1.out
  obtain ⟨nd, hnd⟩ : ∃ nd : Nat, (pnum s1).1 = (nd : Int) := ⟨(pnum s1).1.toNat, by have := (pnum_bd N1.out).1; omega⟩
  have nd40 : nd ≤ 40 := by have := (pnum_bd N1.out).2; omega
  have HM : Hid ((pnum (some b)).1 = M) := hM
  have HS1 : Hid ((pnum (some b)).2 = s1) := hs1
  have HND : Hid ((pnum s1).1 = (nd : Int)) := hnd
  have HS2 : Hid ((pnum s1).2 = s2) := hs2
  have HPA : Hid (pall b = pdims nd s2) := by
    show _ = _
    unfold pall; rw [hs1, hnd, hs2, Int.toNat_natCast]
  have HMB : Hid (I64 M) := by have := pnum_bd NS.out; rw [hM] at this; show I64 M; unfold I64; omega
  clear hM hs1 hs2 hnd h
  have t1 : True := trivial
  go_enter Try.func12, Try.ntmps12
  go_wp2_with (first
    | (go_at_call 48; clear t1; refine (snum_any w (w.heap.size + 1) (some b) _ H0.out).mono ?_; rintro e w1 ⟨rfl, hr1, hg1⟩; rw [HM.out]; have HR1 : Hid (Rdr 65 w (w1.alloc (.cells #[.slice none 0 0, .int .i64 M] 25)) (w.heap.size + 1) s1) := (by rw [HS1.out] at hr1; exact hr1.grow (World.grownBy_alloc _ _ none) (fun j hj => by cases hj)); have HG1 : Hid (((w.alloc (.cells #[.slice none 0 0, .int .i64 0] 25)).alloc (.cells #[.slice a n c, .bool false] 65)).grownBy w1 (some (w.heap.size + 1))) := hg1; clear hr1 hg1)
    | (go_at_call 48; refine (snum_any w (w.heap.size + 1) s1 _ HR1.out).mono ?_; rintro e w2 ⟨rfl, hr2, hg2⟩; rw [HND.out]; have HR2 : Hid (Rdr 65 w w2 (w.heap.size + 1) s2) := (by rw [HS2.out] at hr2; exact hr2); have HG2 : Hid ((w1.alloc (.cells #[.slice none 0 0, .int .i64 M] 25)).grownBy w2 (some (w.heap.size + 1))) := hg2; clear hr2 hg2))
  have CS0 : Hid (CSt 65 w w2 (w.heap.size + 1) w.heap.size w1.heap.size M s2 0 (.slice none 0 0) []) := by
    have ra : ((w.alloc (.cells #[.slice none 0 0, .int .i64 0] 25)).alloc (.cells #[.slice a n c, .bool false] 65)).heap[w.heap.size]? = some (.cells #[.slice none 0 0, .int .i64 0] 25) :=
      grown_keeps (World.grownBy_alloc _ _ none) (heap_alloc_new w _) (fun j hj => by cases hj)
    have r1 := grown_keeps HG1.out ra (fun j hj => by cases hj; omega)
    have z1 : w.heap.size + 2 ≤ w1.heap.size := by have := HG1.out.size; simp at this; omega
    have r2 := grown_keeps HG2.out (grown_keeps (World.grownBy_alloc w1 (.cells #[.slice none 0 0, .int .i64 M] 25) none) r1 (fun j hj => by cases hj)) (fun j hj => by cases hj; omega)
    have c2 := grown_keeps HG2.out (heap_alloc_new w1 (.cells #[.slice none 0 0, .int .i64 M] 25)) (fun j hj => by cases hj; omega)
    exact ⟨HR2.out, ⟨Nat.le_refl _, by omega, by omega, by omega, by omega⟩, r2, c2, World.ownsRow_nil _ _ _ _, pairs_nil _⟩
  clear HR1 HR2 HG1 HG2 H0 HA
  obtain ⟨C, hC⟩ : ∃ C, w1.heap.size = C := ⟨_, rfl⟩
  rw [hC] at CS0 ⊢
  go_loopw [11] (fun i wr => ∃ k : Nat, k ≤ nd ∧ i = .int .i64 k ∧ ∃ dv ps, Hid (CSt 65 w wr (w.heap.size + 1) w.heap.size C M s2 k dv ps)) (fun i _ => nd - (intOf i).toNat)
  case atStart => exact ⟨0, Nat.zero_le _, rfl, _, _, CS0⟩
  case round =>
    obtain ⟨k, hk, rfl, dv, ps, CS⟩ := hrel
    obtain ⟨e1, ⟨e2, e3, e4, e5, e5'⟩, e6, e7, e8, e9⟩ := CS.out
    obtain ⟨d0, d1⟩ := box_two e7
    by_cases hlt : k < nd
    · have hkn : (k : Int) < (nd : Int) := by omega
      have HO : Hid (wr.ownsRow w.heap.size 59 2 dv k (flat2 ps)) := e8
      have HR : Hid (Rdr 65 w wr.drew (w.heap.size + 1) (pdims k s2).2) := CS.out.drew.1
      have HC7 : Hid (wr.heap[C]? = some (.cells #[dv, .int .i64 M] 25)) := e7
      have HRW : Hid (Rdr 65 w wr (w.heap.size + 1) (pdims k s2).2) := e1
      have HKB : Hid (∀ w3, wr.drew.grownBy w3 (some (w.heap.size + 1)) → w3.heap[C]? = some (.cells #[dv, .int .i64 M] 25)) := hid fun w3 hg => grown_keeps hg HC7.out (fun j hj => by cases hj; exact fun e => e5' e.symm)
      have HOB : Hid (∀ w3, wr.drew.grownBy w3 (some (w.heap.size + 1)) → w3.ownsRow w.heap.size 59 2 dv k (flat2 ps)) := hid fun w3 hg => (HO.out.drew).kept hg (.inr (fun e => by obtain ⟨c', hc'⟩ := own_kind HO.out e; obtain ⟨cs, hcs⟩ := HRW.out.kind; exact kinds_apart hc' hcs (by decide) rfl))
      have hb2 : w.heap.size ≤ wr.heap.size := e1.2.2.1.size
      clear e1 e2 e3 e4 e5 e5' e6 e7 e8 e9
      go_wp2
      go_region_law (first
        | (refine step_append_lies _ (by rfl) _ _ _ (by rfl) w.heap.size 59 i0 _ 2 48 Try.underlying23 hi hz0 hz1 hz2 rfl (by decide) dv k (flat2 ps) (by rfl) ((HOB.out _ HG3.out).alloc _) ⟨w3.heap.size, 0, none⟩ 1 1 [.slice sa sl sc, .slice ua ul uc] (by rfl) (by rfl) (two_cells _ _ _ _) (by intro u hu; simp at hu; rcases hu with rfl | rfl <;> rfl) (by decide) (by unfold maxLen; omega) (by omega) (by simp; have := HG3.out.size; simp at this; omega) (w3.heap.size + 1) (by simp) ?_; intro g4 cap4 w4 ho4 hg4 _ _; have HO4 : Hid (w4.ownsRow w.heap.size 59 2 (.slice (some ⟨g4, 0, none⟩) (k + 1) cap4) (k + 1) (flat2 ps ++ [.slice sa sl sc, .slice ua ul uc])) := ho4; have HG4 : Hid ((w3.alloc (.cells #[.slice sa sl sc, .slice ua ul uc] 59)).grownBy w4 dv.ownBlock) := hg4; have hd4 := grown_keeps hg4 (grown_keeps (World.grownBy_alloc w3 (.cells #[.slice sa sl sc, .slice ua ul uc] 59) none) (HKB.out _ HG3.out) (fun j hj => by cases hj)) (fun j hj => by obtain ⟨c', hc'⟩ := own_kind ((HOB.out _ HG3.out).alloc (.cells #[.slice sa sl sc, .slice ua ul uc] 59)) hj; exact kinds_apart hc' (grown_keeps (World.grownBy_alloc w3 (.cells #[.slice sa sl sc, .slice ua ul uc] 59) none) (HKB.out _ HG3.out) (fun j hj => by cases hj)) (by decide)); have q1 := (box_two hd4).1; have q2 := frozen_of_row w4 C 0 _ _ hd4; clear ho4 hg4 hd4)
        | (go_simp; go_at_call 49; refine (sdim_any w (w.heap.size + 1) (pdims k s2).2 _ HR.out).mono ?_; rintro e w3 ⟨⟨sa, sl, sc, ua, ul, uc, rfl, hi3⟩, hr3, hg3⟩; have HR3 : Hid (Rdr 65 w w3 (w.heap.size + 1) (pdim (pdims k s2).2).2) := hr3; have HG3 : Hid (wr.drew.grownBy w3 (some (w.heap.size + 1))) := hg3; have HI3 : Hid (Dim (only w3 [3, 56]) sa sl sc ua ul uc (pdim (pdims k s2).2).1.1 (pdim (pdims k s2).2).1.2) := hi3; clear hr3 hg3 hi3; have q3 := (box_two (HKB.out _ HG3.out)).1; have q4 : (w3.alloc (.cells #[.slice sa sl sc, .slice ua ul uc] 59)).cell? ⟨C, 0, none⟩ = some dv := (box_two (grown_keeps (World.grownBy_alloc w3 _ none) (HKB.out _ HG3.out) (fun j hj => by cases hj))).1; go_wp2_with fail))
      all_goals
        go_wp2
        go_roundw
        case rel => exact ⟨k + 1, by omega, by go_num, _, _, hid (CS.out.drew.step (by decide) (d := (pdim (pdims k s2).2).1) rfl HR3.out HG3.out HI3.out HO4.out HG4.out)⟩
        case measure => simp [intOf]; omega
    · obtain rfl : k = nd := by omega
      obtain ⟨r0, r1⟩ := box_two e6
      have f0 := frozen_of_row wr w.heap.size 0 _ _ e6
      have f1 := frozen_of_row wr w.heap.size 1 _ _ e6
      have hkk : decide ((k : Int) < (k : Int)) = false := decide_eq_false (by omega)
      obtain ⟨da, dc, rfl, hcat⟩ := CS.out.cat
      have HCat : Hid (Cat wr da k dc (pdims k s2).1) := hcat
      obtain ⟨g1, g2, g3, a8, n8, c8, l8, st, hcs, hr8, hs⟩ := e1
      obtain ⟨b0, b1⟩ := box_two hcs
      have hn8 : n8 = l8.length := hr8.1
      have HR8 : Hid (code.Row8 w a8 n8 c8 l8) := hr8
      have hn8b : n8 ≤ 9223372036854775807 := by have h2 := hr8.2.1; have := hr8.2.2.1; unfold maxLen at this; omega
      clear hcat e6 e7 e8 e9 hcs hr8 g1 g2 g3
      rcases hs with ⟨rfl, hs⟩ | ⟨rfl, hs⟩
      · by_cases hz : n8 = 0
        · have HZ : Hid ((pall b).2 = some []) := by
            show _ = _
            rw [HPA.out, hs, List.length_eq_zero_iff.mp (by omega : l8.length = 0)]
          subst hz
          clear hs hn8
          cases hg : goodC (pdims k s2).1 M with
          | false =>
            have HG : Hid (goodC (pdims k s2).1 M = false) := hg
            have HP : Hid (pread b = none) := pread_no2 (by rw [HPA.out, HM.out]; exact HG.out)
            go_wp2_with (go_at_call 42; refine (sgood_any _ _ _ (pdims k s2).1 M _ HCat.out HMB.out).mono ?_; rintro e w6 ⟨rfl, hb6⟩; have CS6 : Hid (CSt 65 w w6 (w.heap.size + 1) w.heap.size C M s2 k (.slice da k dc) ps) := CS.out.grow0 hb6; have y6 := CS6.out.2.2.1; obtain ⟨z0, z1⟩ := box_two y6; have z2 := frozen_of_row w6 w.heap.size 0 _ _ y6; have z3 := frozen_of_row w6 w.heap.size 1 _ _ y6; have y7 := CS6.out.2.2.2.1; obtain ⟨z4, z5⟩ := box_two y7; clear y6 y7)
            obtain ⟨W5, hW5⟩ : ∃ W, W = (w6.setCell ⟨w.heap.size, 0, none⟩ (.slice none 0 0)).setCell ⟨w.heap.size, 1, none⟩ (.int .i64 0) := ⟨_, rfl⟩
            rw [← hW5]
            obtain ⟨hb5, H5, _⟩ := CS6.out.fin hW5
            obtain ⟨x0, x1⟩ := box_two H5
            obtain ⟨p1, p2, p3⟩ := rd_none HP.out
            exact bodyPost_ret (v := .tuple #[.agg #[.slice none 0 0, .int .i64 0], .bool false]) (by simp [results, Try.results12, go_sem, x0, x1]) rfl ⟨⟨none, 0, 0, by rw [p2, p3], by rw [p1]; exact cat_nil _⟩, hb5⟩
          | true =>
            have HG : Hid (goodC (pdims k s2).1 M = true) := hg
            have HP : Hid (pread b = some ((pall b).1, (pnum (some b)).1)) := pread_yes HZ.out (by rw [HPA.out, HM.out]; exact HG.out)
            go_wp2_with (go_at_call 42; refine (sgood_any _ _ _ (pdims k s2).1 M _ HCat.out HMB.out).mono ?_; rintro e w6 ⟨rfl, hb6⟩; have CS6 : Hid (CSt 65 w w6 (w.heap.size + 1) w.heap.size C M s2 k (.slice da k dc) ps) := CS.out.grow0 hb6; have y6 := CS6.out.2.2.1; obtain ⟨z0, z1⟩ := box_two y6; have z2 := frozen_of_row w6 w.heap.size 0 _ _ y6; have z3 := frozen_of_row w6 w.heap.size 1 _ _ y6; have y7 := CS6.out.2.2.2.1; obtain ⟨z4, z5⟩ := box_two y7; clear y6 y7)
            obtain ⟨W5, hW5⟩ : ∃ W, W = (w6.setCell ⟨w.heap.size, 0, none⟩ (.slice da k dc)).setCell ⟨w.heap.size, 1, none⟩ (.int .i64 M) := ⟨_, rfl⟩
            rw [← hW5]
            obtain ⟨hb5, H5, a9, c9, he9, hc9⟩ := CS6.out.fin hW5
            cases he9
            obtain ⟨x0, x1⟩ := box_two H5
            obtain ⟨p1, p2, p3⟩ := rd_some HP.out
            refine bodyPost_ret (v := .tuple #[.agg #[.slice da k dc, .int .i64 M], .bool true]) (by simp [results, Try.results12, go_sem, x0, x1]) rfl ⟨⟨_, _, _, by rw [p2, p3, HM.out], ?_⟩, hb5⟩
            rw [p1, HPA.out]; exact hc9
        · have HP : Hid (pread b = none) := pread_no1 (by rw [HPA.out, hs]; intro e; cases e; exact hz (by rw [hn8]; rfl))
          have hz3 : 0 < n8 := by omega
          clear hs hn8 hz
          go_wp2
          obtain ⟨W5, hW5⟩ : ∃ W, W = (wr.setCell ⟨w.heap.size, 0, none⟩ (.slice none 0 0)).setCell ⟨w.heap.size, 1, none⟩ (.int .i64 0) := ⟨_, rfl⟩
          rw [← hW5]
          obtain ⟨hb5, H5, _⟩ := CS.out.fin hW5
          obtain ⟨x0, x1⟩ := box_two H5
          obtain ⟨p1, p2, p3⟩ := rd_none HP.out
          exact bodyPost_ret (v := .tuple #[.agg #[.slice none 0 0, .int .i64 0], .bool false]) (by simp [results, Try.results12, go_sem, x0, x1]) rfl ⟨⟨none, 0, 0, by rw [p2, p3], by rw [p1]; exact cat_nil _⟩, hb5⟩
      · have HP : Hid (pread b = none) := pread_no1 (by rw [HPA.out, hs]; intro e; cases e)
        clear hs hn8
        go_wp2
        obtain ⟨W5, hW5⟩ : ∃ W, W = (wr.setCell ⟨w.heap.size, 0, none⟩ (.slice none 0 0)).setCell ⟨w.heap.size, 1, none⟩ (.int .i64 0) := ⟨_, rfl⟩
        rw [← hW5]
        obtain ⟨hb5, H5, _⟩ := CS.out.fin hW5
        obtain ⟨x0, x1⟩ := box_two H5
        obtain ⟨p1, p2, p3⟩ := rd_none HP.out
        exact bodyPost_ret (v := .tuple #[.agg #[.slice none 0 0, .int .i64 0], .bool false]) (by simp [results, Try.results12, go_sem, x0, x1]) rfl ⟨⟨none, 0, 0, by rw [p2, p3], by rw [p1]; exact cat_nil _⟩, hb5⟩

end Go.Proofs.Ytmlnfpefemchhaa

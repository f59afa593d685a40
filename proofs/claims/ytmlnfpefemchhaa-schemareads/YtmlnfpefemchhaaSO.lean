/-
  What schema's dim returns.
  Conditions: as each theorem states them.
-/
import Derived.Test.YtmlnfpefemchhaaLib6
import Derived.Test.YtmlnfpefemchhaaSN
import Derived.Deep.RegionLaw
import Derived.Deep.AppendLies
import Derived.Deep.Cut
import Derived.Deep.DeepCutAuto
import Derived.Deep.CutRange
namespace Go.Proofs.Ytmlnfpefemchhaa
open Go.ChangeShapes Go.WideShapes Go.ChangeAt Go.RowKit
set_option linter.unusedVariables false
set_option linter.unusedSimpArgs false

theorem info_row : (Try.prog.info? 56).map (fun i => (i.zero, i.size, i.bytes)) = some (some (.slice none 0 0), 1, 24) := by kernel_rfl
/-- A dimension that is being read. -/
def DSt (t : TypeId) (w0 w wr : World) (B R D : Nat) (a : Option Addr) (n c : Nat) (S : List Int) (s2 : St) (k : Nat) (uv : Value) (us : List Value) : Prop :=
  Rdr t w0 wr B (pups S k s2).2 ∧ w.grownBy wr (some B) ∧ (w.heap.size ≤ R ∧ R < D ∧ D < wr.heap.size) ∧ wr.heap[R]? = some (.cells #[.slice none 0 0, .slice none 0 0] 59) ∧ wr.heap[D]? = some (.cells #[.slice a n c, uv] 59) ∧
    IRow .i64 (only wr [3]) a n c S ∧ wr.ownsRow w.heap.size 56 1 uv k us ∧ Rows (only wr [3]) us (pups S k s2).1
/-- One list more. -/
theorem DSt.step {t : TypeId} {w0 w wr w3 w4 : World} {B R D n c k m mc g cap : Nat} {a a' : Option Addr} {S L : List Int} {s2 : St} {uv : Value} {us : List Value} (h : DSt t w0 w wr B R D a n c S s2 k uv us)
    (ht : ¬ t = 3 ∧ ¬ t = 59 ∧ ¬ t = 56) (hB : B < w.heap.size) (hL : (pups S (k + 1) s2).1 = (pups S k s2).1 ++ [L])
    (hr3 : Rdr t w0 w3 B (pups S (k + 1) s2).2) (hg3 : wr.grownBy w3 (some B)) (hi : IRow .i64 (only w3 [3]) a' m mc L)
    (ho : w4.ownsRow w.heap.size 56 1 (.slice (some ⟨g, 0, none⟩) (k + 1) cap) (k + 1) (us ++ [.slice a' m mc])) (hg4 : (w3.alloc (.cells #[.slice a' m mc] 56)).grownBy w4 uv.ownBlock) :
    DSt t w0 w (w4.setCell ⟨D, 1, none⟩ (.slice (some ⟨g, 0, none⟩) (k + 1) cap)) B R D a n c S s2 (k + 1) (.slice (some ⟨g, 0, none⟩) (k + 1) cap) (us ++ [.slice a' m mc]) := by
  obtain ⟨h1, h2, ⟨h3, h4, h5⟩, h6, h7, h8, h9, h10⟩ := h
  obtain ⟨cB, kB⟩ := h1.kind
  have hown3 : w3.ownsRow w.heap.size 56 1 uv k us := h9.kept hg3 (.inr (fun e => by obtain ⟨c', hc'⟩ := own_kind h9 e; exact kinds_apart hc' kB (fun e => ht.2.2 e.symm) rfl))
  have hown3' := hown3.alloc (.cells #[.slice a' m mc] 56)
  have ga : w3.grownBy (w3.alloc (.cells #[.slice a' m mc] 56)) none := World.grownBy_alloc _ _ _
  have R3 := grown_keeps hg3 h6 (fun j hj => by cases hj; omega)
  have D3 := grown_keeps hg3 h7 (fun j hj => by cases hj; omega)
  have R3a := grown_keeps ga R3 (fun j hj => by cases hj)
  have D3a := grown_keeps ga D3 (fun j hj => by cases hj)
  have R4 := grown_keeps hg4 R3a (fun j hj => by obtain ⟨c', hc'⟩ := own_kind hown3' hj; exact kinds_apart hc' R3a (by decide))
  have D4 := grown_keeps hg4 D3a (fun j hj => by obtain ⟨c', hc'⟩ := own_kind hown3' hj; exact kinds_apart hc' D3a (by decide))
  have gs := set_grown w4 D 1 (.slice (some ⟨g, 0, none⟩) (k + 1) cap)
  obtain ⟨cB3, kB3⟩ := hr3.kind
  have lB : w0.heap.size ≤ B := hr3.1
  have B3a := hr3.grow ga (fun j hj => by cases hj)
  obtain ⟨cB3a, kB3a⟩ := B3a.kind
  have B4 := B3a.grow hg4 (fun j hj => by
    obtain ⟨c', hc'⟩ := own_kind hown3' hj
    exact ⟨by have := (hown3'.lt j hj).1; omega, kinds_apart hc' kB3a (fun e => ht.2.2 e.symm)⟩)
  obtain ⟨cB4, kB4⟩ := B4.kind
  have B5 := B4.grow gs (fun j hj => by cases hj; exact ⟨by omega, by omega⟩)
  have i3 : Incl (only wr [3]) (only w3 [3]) := only_grow hg3 (fun j c' t' f hj hh => by cases hj; rw [kB] at hh; simp at hh; obtain ⟨_, rfl, _⟩ := hh; simp; exact ht.1)
  have i4 : Incl (only w3 [3]) (only (w4.setCell ⟨D, 1, none⟩ (.slice (some ⟨g, 0, none⟩) (k + 1) cap)) [3]) :=
    ((only_grow ga (fun j c' t' f hj hh => by cases hj)).trans (only_grow hg4 (fun j c' t' f hj hh => by
      obtain ⟨c'', hc''⟩ := own_kind hown3' hj; rw [hc''] at hh; simp at hh; obtain ⟨_, rfl, _⟩ := hh; decide))).trans (only_grow gs (fun j c' t' f hj hh => by cases hj; rw [D4] at hh; simp at hh; obtain ⟨_, rfl, _⟩ := hh; decide))
  refine ⟨B5, ?_, ⟨h3, h4, ?_⟩, ?_, ?_, h8.incl (i3.trans i4), ?_, ?_⟩
  · exact (((h2.trans hg3).andThen ga (fun j hj => by cases hj)).andThen hg4 (fun j hj => .inl (hown3'.lt j hj).1)).andThen gs (fun j hj => by cases hj; exact .inl (by omega))
  · simpa using heap_lt D4
  · exact grown_keeps gs R4 (fun j hj => by cases hj; omega)
  · exact heap_setCell_same w4 D 1 _ _ _ D4
  · exact ho.kept gs (.inr (fun e => by obtain ⟨c', hc'⟩ := own_kind ho e; exact kinds_apart hc' D4 (by decide) rfl))
  · rw [hL]
    exact (h10.incl (i3.trans i4)).app (rows_one (hi.incl i4))
theorem dst_new {t : TypeId} {w0 w w1 w2 : World} {B n c : Nat} {a : Option Addr} {S : List Int} {s2 : St} (hB : B < w.heap.size) (hr : Rdr t w0 w2 B s2) (hg1 : (w.alloc (.cells #[.slice none 0 0, .slice none 0 0] 59)).grownBy w1 (some B)) (hg2 : w1.grownBy w2 (some B)) (hi : IRow .i64 (only w2 [3]) a n c S) :
    DSt t w0 w (w2.alloc (.cells #[.slice a n c, .slice none 0 0] 59)) B w.heap.size w2.heap.size a n c S s2 0 (.slice none 0 0) [] := by
  have ga := World.grownBy_alloc w2 (.cells #[.slice a n c, .slice none 0 0] 59) none
  have g12 := hg1.trans hg2
  have R2 := grown_keeps g12 (heap_alloc_new w (.cells #[.slice none 0 0, .slice none 0 0] 59)) (fun j hj => by cases hj; omega)
  have hlt := heap_lt R2
  refine ⟨hr.grow ga (fun j hj => by cases hj), ?_, ⟨Nat.le_refl _, hlt, by simp⟩, grown_keeps ga R2 (fun j hj => by cases hj), heap_alloc_new _ _, hi.incl (only_grow ga (fun j c' t' f hj hh => by cases hj)), World.ownsRow_nil _ _ _ _, rows_nil0 _⟩
  exact ((World.grownBy_alloc w _ (some B)).trans g12).andThen ga (fun j hj => by cases hj)
theorem DSt.drew {t : TypeId} {w0 w wr : World} {B R D n c k : Nat} {a : Option Addr} {S : List Int} {s2 : St} {uv : Value} {us : List Value} (h : DSt t w0 w wr B R D a n c S s2 k uv us) : DSt t w0 w wr.drew B R D a n c S s2 k uv us := by
  obtain ⟨h1, h2, h3, h6, h7, h8, h9, h10⟩ := h
  exact ⟨⟨h1.1, h1.2.1, h1.2.2.1.drew, h1.2.2.2⟩, ⟨h2.os, h2.tape, h2.output, h2.size, h2.block⟩, h3, h6, h7, h8, h9, h10⟩
/-- A dimension that has been read. -/
theorem DSt.dim {t : TypeId} {w0 w wr : World} {B R D n c k : Nat} {a : Option Addr} {S : List Int} {s2 : St} {uv : Value} {us : List Value} (h : DSt t w0 w wr B R D a n c S s2 k uv us) (hS : ∀ x ∈ S, 0 ≤ x ∧ x ≤ 40) (hn : NN s2) :
    ∃ ua ul uc, uv = .slice ua ul uc ∧ Dim (only wr [3, 56]) a n c ua ul uc S (pups S k s2).1 := by
  obtain ⟨h1, h2, h3, h6, h7, h8, h9, h10⟩ := h
  obtain ⟨ua, uc, rfl, hu⟩ := irows_only (T' := [3, 56]) h9 (by simp) (by intro t ht; simp at ht; subst ht; simp) h10
  refine ⟨ua, k, uc, rfl, h8.incl (only_more wr (by intro t ht; simp at ht; subst ht; simp)), hu, fun x hx => ?_, fun l hl x hx => ?_⟩
  · have := hS x hx; unfold I64; omega
  · have := pups_bd hn S k l hl x hx; unfold I64; omega

set_option maxHeartbeats 4000000 in
set_option maxRecDepth 100000 in
theorem sdim_any (w0 : World) (B : Nat) (s : St) (w : World) (h : Rdr 65 w0 w B s) :
    Calls Try.prog 49 #[.pointer (some ⟨B, 0, none⟩)] w fun e w' => (∃ sa sl sc ua ul uc, e = .returned (.agg #[.slice sa sl sc, .slice ua ul uc]) ∧ Dim (only w' [3, 56]) sa sl sc ua ul uc (pdim s).1.1 (pdim s).1.2) ∧ Rdr 65 w0 w' B (pdim s).2 ∧ w.grownBy w' (some B) := by
  obtain ⟨i0, hi, hz0, hz1, hz2⟩ := info_parts info_row
  have hB := h.2.1
  have NS : Hid (NN s) := h.nn
  have H0 : Hid (Rdr 65 w0 (w.alloc (.cells #[.slice none 0 0, .slice none 0 0] 59)) B s) := h.grow (World.grownBy_alloc _ _ none) (fun j hj => by cases hj)
  clear h
  obtain ⟨n, hn⟩ : ∃ n : Nat, (pnum s).1 = (n : Int) := ⟨(pnum s).1.toNat, by have := (pnum_bd NS.out).1; omega⟩
  have hn40 : n ≤ 40 := by have := (pnum_bd NS.out).2; omega
  have HN : Hid ((pnum s).1 = (n : Int)) := hn
  have HNt : Hid ((pnum s).1.toNat = n) := by show _ = _; omega
  clear hn
  go_enter Try.func49, Try.ntmps49
  go_wp2_with (first
    | (go_at_call 48; refine (snum_any w0 B s _ H0.out).mono ?_; rintro e w1 ⟨rfl, hr1, hg1⟩; rw [HN.out]; have HR1 : Hid (Rdr 65 w0 w1 B (pnum s).2) := hr1; have HG1 : Hid ((w.alloc (.cells #[.slice none 0 0, .slice none 0 0] 59)).grownBy w1 (some B)) := hg1; clear hr1 hg1)
    | (go_at_call 64; refine (slist_any w0 B (pnum s).2 n _ HR1.out hn40).mono ?_; rintro e w2 ⟨⟨a, rfl, hi2⟩, hr2, hg2⟩; have HR2 : Hid (Rdr 65 w0 w2 B (plist n (pnum s).2).2) := hr2; have HG2 : Hid (w1.grownBy w2 (some B)) := hg2; have HI2 : Hid (IRow .i64 (only w2 [3]) a n n (plist n (pnum s).2).1) := hi2; clear hr2 hg2 hi2))
  obtain ⟨S, hS⟩ : ∃ S, (psz s).1 = S := ⟨_, rfl⟩
  obtain ⟨s2, hs2⟩ : ∃ s2, (psz s).2 = s2 := ⟨_, rfl⟩
  have eP : plist n (pnum s).2 = psz s := by unfold psz; rw [HNt.out]
  have HS : Hid ((psz s).1 = S) := hS
  have HS2 : Hid ((psz s).2 = s2) := hs2
  rw [eP, hS] at HI2
  rw [eP, hs2] at HR2
  have HSL : Hid (S.length = n) := by show _ = _; rw [← hS, ← eP]; exact plist_len _ _
  have HSB : Hid (∀ x ∈ S, 0 ≤ x ∧ x ≤ 40) := by rw [← hS, ← eP]; exact plist_bd (pnum_nn NS.out) _
  have N2 : Hid (NN s2) := by rw [← hs2]; exact psz_nn NS.out
  have DS0 : Hid (DSt 65 w0 w (w2.alloc (.cells #[.slice a n n, .slice none 0 0] 59)) B w.heap.size w2.heap.size a n n S s2 0 (.slice none 0 0) []) := dst_new hB HR2.out HG1.out HG2.out HI2.out
  have wn : IntKind.i64.wrap ((n : Int) - 1) = (n : Int) - 1 := IntWalk.i64_in _ (by omega)
  clear eP hS hs2 HR1 HR2 HG1 HG2 HI2 H0
  obtain ⟨D, hD⟩ : ∃ D, w2.heap.size = D := ⟨_, rfl⟩
  rw [hD] at DS0 ⊢
  go_loopw [14] (fun i wr => ∃ k : Nat, k ≤ n - 1 ∧ i = .int .i64 k ∧ ∃ uv us, Hid (DSt 65 w0 w wr B w.heap.size D a n n S s2 k uv us)) (fun i _ => n - (intOf i).toNat)
  case atStart => exact ⟨0, Nat.zero_le _, rfl, _, _, DS0⟩
  case round =>
    obtain ⟨k, hk, rfl, uv, us, DS⟩ := hrel
    obtain ⟨e1, e2, ⟨e3, e4, e5⟩, e6, e7, e8, e9, e10⟩ := DS.out
    obtain ⟨d0, d1⟩ := box_two e7
    by_cases hlt : k + 1 < n
    · have hm1 : decide ((k : Int) < (n : Int) - 1) = true := decide_eq_true (by omega)
      have hkn : (k : Int) < (n : Int) := by omega
      obtain ⟨b, off, rfl, hb, hcell⟩ := (e8.incl (only_incl _ _)).cell (k := k) (by omega)
      have c0 := hcell k (by omega)
      have bd := getD_of HSB.out k (by rw [HSL.out]; omega)
      obtain ⟨m, hm⟩ : ∃ m : Nat, S.getD k 0 = (m : Int) := ⟨(S.getD k 0).toNat, by omega⟩
      rw [hm] at c0 bd
      have m40 : m ≤ 40 := by omega
      have HMt : Hid ((S.getD k 0).toNat = m) := by show _ = _; omega
      have HO : Hid (wr.ownsRow w.heap.size 56 1 uv k us) := e9
      have HR : Hid (Rdr 65 w0 wr.drew B (pups S k s2).2) := DS.out.drew.1
      have HD7 : Hid (wr.heap[D]? = some (.cells #[.slice (some ⟨b, off, none⟩) n n, uv] 59)) := e7
      have HRW : Hid (Rdr 65 w0 wr B (pups S k s2).2) := e1
      have hB5 : ¬ B = D := by omega
      have HKB : Hid (∀ w3, wr.drew.grownBy w3 (some B) → w3.heap[D]? = some (.cells #[.slice (some ⟨b, off, none⟩) n n, uv] 59)) := hid fun w3 hg => grown_keeps hg HD7.out (fun j hj => by cases hj; exact hB5)
      have HOB : Hid (∀ w3, wr.drew.grownBy w3 (some B) → w3.ownsRow w.heap.size 56 1 uv k us) := hid fun w3 hg => (HO.out.drew).kept hg (.inr (fun e => by obtain ⟨c', hc'⟩ := own_kind HO.out e; obtain ⟨cs, hcs⟩ := HRW.out.kind; exact kinds_apart hc' hcs (by decide) rfl))
      have hb2 : w.heap.size ≤ wr.heap.size := e2.size
      clear e1 e2 e3 e4 e5 e6 e7 e8 e9 e10 hcell hm
      go_wp2
      go_region_law (first
        | (refine step_append_lies _ (by rfl) _ _ _ (by rfl) w.heap.size 56 i0 _ 1 24 Try.underlying57 hi hz0 hz1 hz2 rfl (by decide) uv k us (by rfl) ((HOB.out _ HG3.out).alloc _) ⟨w3.heap.size, 0, none⟩ 1 1 [.slice a3 m m] (by rfl) (by rfl) (cell_one_new _ _ _) (by intro u hu; simp at hu; subst hu; rfl) (by decide) (by unfold maxLen; omega) (by omega) (by simp; have := HG3.out.size; simp at this; omega) (w3.heap.size + 1) (by simp) ?_; intro g4 cap4 w4 ho4 hg4 _ _; have HO4 : Hid (w4.ownsRow w.heap.size 56 1 (.slice (some ⟨g4, 0, none⟩) (k + 1) cap4) (k + 1) (us ++ [.slice a3 m m])) := ho4; have HG4 : Hid ((w3.alloc (.cells #[.slice a3 m m] 56)).grownBy w4 uv.ownBlock) := hg4; have hd4 := grown_keeps hg4 (grown_keeps (World.grownBy_alloc w3 (.cells #[.slice a3 m m] 56) none) (HKB.out _ HG3.out) (fun j hj => by cases hj)) (fun j hj => by obtain ⟨c', hc'⟩ := own_kind ((HOB.out _ HG3.out).alloc (.cells #[.slice a3 m m] 56)) hj; exact kinds_apart hc' (grown_keeps (World.grownBy_alloc w3 (.cells #[.slice a3 m m] 56) none) (HKB.out _ HG3.out) (fun j hj => by cases hj)) (by decide)); have q1 := (box_two hd4).2; have q2 := frozen_of_row w4 D 1 _ _ hd4; clear ho4 hg4 hd4)
        | (go_simp; go_at_call 64; refine (slist_any w0 B (pups S k s2).2 m _ HR.out m40).mono ?_; rintro e w3 ⟨⟨a3, rfl, hi3⟩, hr3, hg3⟩; have HR3 : Hid (Rdr 65 w0 w3 B (plist m (pups S k s2).2).2) := hr3; have HG3 : Hid (wr.drew.grownBy w3 (some B)) := hg3; have HI3 : Hid (IRow .i64 (only w3 [3]) a3 m m (plist m (pups S k s2).2).1) := hi3; clear hr3 hg3 hi3; have q3 := (box_two (HKB.out _ HG3.out)).2; have q4 : (w3.alloc (.cells #[.slice a3 m m] 56)).cell? ⟨D, 1, none⟩ = some uv := (box_two (grown_keeps (World.grownBy_alloc w3 _ none) (HKB.out _ HG3.out) (fun j hj => by cases hj))).2; go_wp2_with fail))
      all_goals
        go_wp2
        go_roundw
        case rel =>
          refine ⟨k + 1, by omega, by go_num, _, _, hid (DS.out.drew.step (by decide) hB (L := (plist m (pups S k s2).2).1) ?_ ?_ HG3.out HI3.out HO4.out HG4.out)⟩
          · show (pups S k s2).1 ++ [(plist (S.getD k 0).toNat (pups S k s2).2).1] = _
            rw [HMt.out]
          · show Rdr _ w0 w3 B (plist (S.getD k 0).toNat (pups S k s2).2).2
            rw [HMt.out]; exact HR3.out
        case measure => simp [intOf]; omega
    · have hm1 : decide ((k : Int) < (n : Int) - 1) = false := decide_eq_false (by omega)
      obtain rfl : k = n - 1 := by omega
      obtain ⟨ua, ul, uc, rfl, HDM⟩ := DS.out.dim HSB.out N2.out
      obtain ⟨r0, r1⟩ := box_two e6
      have f0 := frozen_of_row wr w.heap.size 0 _ _ e6
      have f1 := frozen_of_row wr w.heap.size 1 _ _ e6
      have HDD : Hid (Dim (only wr [3, 56]) a n n ua ul uc S (pups S (n - 1) s2).1) := HDM
      have HE6 : Hid (wr.heap[w.heap.size]? = some (.cells #[.slice none 0 0, .slice none 0 0] 59)) := e6
      have HBW : Hid (w0.heap.size ≤ w.heap.size) := Nat.le_trans e1.1 (Nat.le_of_lt hB)
      clear e8 e9 e10 HDM e6
      go_wp2
      obtain ⟨W5, hW5⟩ : ∃ W, W = (wr.setCell ⟨w.heap.size, 0, none⟩ (.slice a n n)).setCell ⟨w.heap.size, 1, none⟩ (.slice ua ul uc) := ⟨_, rfl⟩
      rw [← hW5]
      have H4 := heap_setCell_same wr w.heap.size 0 _ _ (.slice a n n) HE6.out
      have H5 := heap_setCell_same _ w.heap.size 1 _ _ (.slice ua ul uc) H4
      have g0 := set_grown wr w.heap.size 0 (.slice a n n)
      have g1 := set_grown (wr.setCell ⟨w.heap.size, 0, none⟩ (.slice a n n)) w.heap.size 1 (.slice ua ul uc)
      rw [← hW5] at H5 g1
      have H5' : W5.heap[w.heap.size]? = some (.cells #[.slice a n n, .slice ua ul uc] 59) := H5
      obtain ⟨x0, x1⟩ := box_two H5'
      refine bodyPost_ret (v := .agg #[.slice a n n, .slice ua ul uc]) (by simp [results, Try.results49, go_sem, x0, x1]) rfl ⟨⟨_, _, _, _, _, _, rfl, ?_⟩, ?_, ?_⟩
      · have e1 : (pdim s).1.1 = S := HS.out
        have e2 : (pdim s).1.2 = (pups S (n - 1) s2).1 := by
          show (pups (psz s).1 ((psz s).1.length - 1) (psz s).2).1 = _
          rw [HS.out, HS2.out, HSL.out]
        rw [e1, e2]
        refine HDD.out.incl ((only_grow g0 ?_).trans (only_grow g1 ?_))
        · intro j c' t' f hj hh; cases hj; rw [HE6.out] at hh; simp at hh; obtain ⟨_, rfl, _⟩ := hh; decide
        · intro j c' t' f hj hh; cases hj; rw [H4] at hh; simp at hh; obtain ⟨_, rfl, _⟩ := hh; decide
      · have e3 : (pdim s).2 = (pups S (n - 1) s2).2 := by
          show (pups (psz s).1 ((psz s).1.length - 1) (psz s).2).2 = _
          rw [HS.out, HS2.out, HSL.out]
        rw [e3]
        have hB' : ¬ w.heap.size = B := by omega
        exact (e1.grow g0 (fun j hj => by cases hj; exact ⟨HBW.out, hB'⟩)).grow g1 (fun j hj => by cases hj; exact ⟨HBW.out, hB'⟩)
      · exact (e2.andThen g0 (fun j hj => by cases hj; exact .inl (Nat.le_refl _))).andThen g1 (fun j hj => by cases hj; exact .inl (Nat.le_refl _))

end Go.Proofs.Ytmlnfpefemchhaa

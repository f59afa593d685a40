/-
  The document's own Read: a catalog that is being read, whatever has been read; where one is stuck there is none.
  Conditions: as each theorem states them.
-/
import Derived.Test.YtmlnfpefemchhaaRP
namespace Go.Proofs.Ytmlnfpefemchhaa
open Go.ChangeShapes Go.WideShapes Go.ChangeAt Go.RowKit
set_option linter.unusedVariables false
set_option linter.unusedSimpArgs false

/-! Where one is stuck. -/
/-- What stands behind the first two numbers. -/
def pst2 (b : List Int) : St := (pnum (pnum (some b)).2).2
def pnd (b : List Int) : Nat := (pnum (pnum (some b)).2).1.toNat
theorem pall_eq (b : List Int) : pall b = pdims (pnd b) (pst2 b) := rfl
theorem fail_all {b : List Int} {i : Nat} (hi : i ≤ pnd b) (h : (pdims i (pst2 b)).2 = none) : pread b = none :=
  pread_no1 (by rw [pall_eq, pdims_stuck hi h]; simp)
theorem fail_dim {b : List Int} {i : Nat} {s : St} (hi : i < pnd b) (hs : s = (pdims i (pst2 b)).2) (h : (pdim s).2 = none) : pread b = none := by
  refine fail_all (i := i + 1) hi ?_
  show (pdim (pdims i (pst2 b)).2).2 = none
  rw [← hs]; exact h
theorem fail_sz {b : List Int} {i k : Nat} {s : St} (hi : i < pnd b) (hs : s = (pdims i (pst2 b)).2) (hk : k ≤ (pnum s).1.toNat) (h : (plist k (pnum s).2).2 = none) : pread b = none := by
  refine fail_dim hi hs ?_
  show (pups _ _ (psz s).2).2 = none
  have : (psz s).2 = none := plist_stuck hk h
  rw [this]; exact pups_none _ _
theorem fail_up {b : List Int} {i k : Nat} {s : St} (hi : i < pnd b) (hs : s = (pdims i (pst2 b)).2) (hk : k ≤ (psz s).1.length - 1) (h : (pups (psz s).1 k (psz s).2).2 = none) : pread b = none :=
  fail_dim hi hs (pups_stuck hk h)
theorem fail_in {b : List Int} {i k j : Nat} {s : St} (hi : i < pnd b) (hs : s = (pdims i (pst2 b)).2) (hk : k < (psz s).1.length - 1) (hj : j ≤ ((psz s).1.getD k 0).toNat) (h : (plist j (pups (psz s).1 k (psz s).2).2).2 = none) : pread b = none := by
  refine fail_up (k := k + 1) hi hs (by omega) ?_
  show (plist _ _).2 = none
  exact plist_stuck hj h

/-- A catalog that is being read. -/
def CS5 (t : TypeId) (w wr : World) (B R C : Nat) (M : Int) (s : St) (ds : Dims) (k : Nat) (dv : Value) (ps : List (Value × Value)) : Prop :=
  Rdr t w wr B s ∧ (w.heap.size ≤ R ∧ ¬ R = B ∧ ¬ R = C ∧ w.heap.size ≤ C ∧ ¬ C = B) ∧ wr.heap[R]? = some (.cells #[.slice none 0 0, .int .i64 0] 25) ∧ wr.heap[C]? = some (.cells #[dv, .int .i64 M] 25) ∧
    wr.ownsRow w.heap.size 59 2 dv k (flat2 ps) ∧ Pairs (only wr [3, 56]) ps ds
theorem CS5.num {t : TypeId} {w W0 wr : World} {B R C k : Nat} {M : Int} {s s' : St} {ds : Dims} {dv : Value} {ps : List (Value × Value)} (h : CS5 t w W0 B R C M s ds k dv ps)
    (ht : ¬ t = 3 ∧ ¬ t = 59 ∧ ¬ t = 56) (hr : Rdr t w wr B s') (hg : W0.grownBy wr (some B)) : CS5 t w wr B R C M s' ds k dv ps := by
  obtain ⟨h1, ⟨h3, h4, h5, h3', h4'⟩, h6, h7, h9, h10⟩ := h
  obtain ⟨cB, kB⟩ := h1.kind
  exact ⟨hr, ⟨h3, h4, h5, h3', h4'⟩, grown_keeps hg h6 (fun j hj => by cases hj; exact fun e => h4 e.symm), grown_keeps hg h7 (fun j hj => by cases hj; exact fun e => h4' e.symm),
    h9.kept hg (.inr (fun e => by obtain ⟨c', hc'⟩ := own_kind h9 e; exact kinds_apart hc' kB (fun e => ht.2.1 e.symm) rfl)),
    h10.incl (only_grow hg (fun j c' t' f hj hh => by cases hj; rw [kB] at hh; simp at hh; obtain ⟨_, rfl, _⟩ := hh; simp; exact ⟨ht.1, ht.2.2⟩))⟩
theorem CS5.put {t : TypeId} {w w3 w4 : World} {B R C k sl sc ul uc g cap : Nat} {sa ua : Option Addr} {M : Int} {S : List Int} {U : List (List Int)} {s : St} {ds : Dims} {dv : Value} {ps : List (Value × Value)} (h : CS5 t w w3 B R C M s ds k dv ps)
    (ht : ¬ t = 3 ∧ ¬ t = 59 ∧ ¬ t = 56) (hi : Dim (only w3 [3, 56]) sa sl sc ua ul uc S U)
    (ho : w4.ownsRow w.heap.size 59 2 (.slice (some ⟨g, 0, none⟩) (k + 1) cap) (k + 1) (flat2 ps ++ [.slice sa sl sc, .slice ua ul uc])) (hg4 : (w3.alloc (.cells #[.slice sa sl sc, .slice ua ul uc] 59)).grownBy w4 dv.ownBlock) :
    CS5 t w (w4.setCell ⟨C, 0, none⟩ (.slice (some ⟨g, 0, none⟩) (k + 1) cap)) B R C M s (ds ++ [(S, U)]) (k + 1) (.slice (some ⟨g, 0, none⟩) (k + 1) cap) (ps ++ [(.slice sa sl sc, .slice ua ul uc)]) ∧ w4.heap[C]? = some (.cells #[dv, .int .i64 M] 25) := by
  obtain ⟨h1, ⟨h3, h4, h5, h3', h4'⟩, R3, D3, hown3, h10⟩ := h
  have hown3' := hown3.alloc (.cells #[.slice sa sl sc, .slice ua ul uc] 59)
  have ga : w3.grownBy (w3.alloc (.cells #[.slice sa sl sc, .slice ua ul uc] 59)) none := World.grownBy_alloc _ _ _
  have R3a := grown_keeps ga R3 (fun j hj => by cases hj)
  have D3a := grown_keeps ga D3 (fun j hj => by cases hj)
  have R4 := grown_keeps hg4 R3a (fun j hj => by obtain ⟨c', hc'⟩ := own_kind hown3' hj; exact kinds_apart hc' R3a (by decide))
  have D4 := grown_keeps hg4 D3a (fun j hj => by obtain ⟨c', hc'⟩ := own_kind hown3' hj; exact kinds_apart hc' D3a (by decide))
  have gs := set_grown w4 C 0 (.slice (some ⟨g, 0, none⟩) (k + 1) cap)
  have B3a := h1.grow ga (fun j hj => by cases hj)
  obtain ⟨cB3a, kB3a⟩ := B3a.kind
  have B4 := B3a.grow hg4 (fun j hj => by
    obtain ⟨c', hc'⟩ := own_kind hown3' hj
    exact ⟨(hown3'.lt j hj).1, kinds_apart hc' kB3a (fun e => ht.2.1 e.symm)⟩)
  have B5 := B4.grow gs (fun j hj => by cases hj; exact ⟨h3', h4'⟩)
  have i4 : Incl (only w3 [3, 56]) (only (w4.setCell ⟨C, 0, none⟩ (.slice (some ⟨g, 0, none⟩) (k + 1) cap)) [3, 56]) :=
    ((only_grow ga (fun j c' t' f hj hh => by cases hj)).trans (only_grow hg4 (fun j c' t' f hj hh => by
      obtain ⟨c'', hc''⟩ := own_kind hown3' hj; rw [hc''] at hh; simp at hh; obtain ⟨_, rfl, _⟩ := hh; decide))).trans (only_grow gs (fun j c' t' f hj hh => by cases hj; rw [D4] at hh; simp at hh; obtain ⟨_, rfl, _⟩ := hh; decide))
  refine ⟨⟨B5, ⟨h3, h4, h5, h3', h4'⟩, ?_, ?_, ?_, ?_⟩, D4⟩
  · exact grown_keeps gs R4 (fun j hj => by cases hj; exact fun e => h5 e.symm)
  · exact heap_setCell_same w4 C 0 _ _ _ D4
  · rw [flat2_app]
    exact ho.kept gs (.inr (fun e => by obtain ⟨c', hc'⟩ := own_kind ho e; exact kinds_apart hc' D4 (by decide) rfl))
  · exact (h10.incl i4).snoc (hi.incl i4)
theorem CS5.drew {t : TypeId} {w wr : World} {B R C k : Nat} {M : Int} {s : St} {ds : Dims} {dv : Value} {ps : List (Value × Value)} (h : CS5 t w wr B R C M s ds k dv ps) : CS5 t w wr.drew B R C M s ds k dv ps := by
  obtain ⟨h1, h2, h3, h6, h7, h8⟩ := h
  exact ⟨⟨h1.1, h1.2.1, h1.2.2.1.drew, h1.2.2.2⟩, h2, h3, h6, h7, h8⟩
theorem CS5.cat {t : TypeId} {w wr : World} {B R C k : Nat} {M : Int} {s : St} {ds : Dims} {dv : Value} {ps : List (Value × Value)} (h : CS5 t w wr B R C M s ds k dv ps) : ∃ a c, dv = .slice a k c ∧ Cat wr a k c ds := by
  obtain ⟨h1, h2, h3, h6, h7, h8⟩ := h
  exact cat_own h7 (h8.incl (only_incl _ _))
theorem CS5.grow0 {t : TypeId} {w wr w' : World} {B R C k : Nat} {M : Int} {s : St} {ds : Dims} {dv : Value} {ps : List (Value × Value)} (h : CS5 t w wr B R C M s ds k dv ps) (hb : Below wr.heap.size wr w') : CS5 t w w' B R C M s ds k dv ps := by
  obtain ⟨h1, h2, h3, h6, h7, h8⟩ := h
  have g := below_grow hb none
  exact ⟨h1.below hb, h2, grown_keeps g h3 (fun j hj => by cases hj), grown_keeps g h6 (fun j hj => by cases hj), h7.kept g (by cases hv : dv.ownBlock <;> simp), h8.incl (only_grow g (fun j c' t' f hj hh => by cases hj))⟩
/-- The last word: what is told lies in a block of the call's own. -/
theorem CS5.fin {t : TypeId} {w wr W5 : World} {B R C k : Nat} {M : Int} {s : St} {ds : Dims} {dv : Value} {ps : List (Value × Value)} (h : CS5 t w wr B R C M s ds k dv ps) {x y : Value} (hW : W5 = (wr.setCell ⟨R, 0, none⟩ x).setCell ⟨R, 1, none⟩ y) :
    Below w.heap.size w W5 ∧ W5.heap[R]? = some (.cells #[x, y] 25) ∧ ∃ a c, dv = .slice a k c ∧ Cat W5 a k c ds := by
  obtain ⟨h1, ⟨h2, _⟩, h3, h6, h7, h8⟩ := h
  have H4 := heap_setCell_same wr R 0 _ _ x h3
  have H5 := heap_setCell_same _ R 1 _ _ y H4
  have g0 := set_grown wr R 0 x
  have g1 := set_grown (wr.setCell ⟨R, 0, none⟩ x) R 1 y
  have o4 := h7.kept g0 (.inr (fun e => by obtain ⟨c', hc'⟩ := own_kind h7 e; exact kinds_apart hc' h3 (by decide) rfl))
  have o5 := o4.kept g1 (.inr (fun e => by obtain ⟨c', hc'⟩ := own_kind o4 e; exact kinds_apart hc' H4 (by decide) rfl))
  have ii := (only_grow (T := [3, 56]) g0 (by intro j c' t' f hj hh; cases hj; rw [h3] at hh; simp at hh; obtain ⟨_, rfl, _⟩ := hh; decide)).trans (only_grow g1 (by intro j c' t' f hj hh; cases hj; rw [H4] at hh; simp at hh; obtain ⟨_, rfl, _⟩ := hh; decide))
  rw [← hW] at H5 o5 ii
  have hb : Below w.heap.size w W5 := by rw [hW]; exact (h1.2.2.1.setCell h2 _).setCell h2 _
  exact ⟨hb, H5, cat_own o5 ((h8.incl ii).incl (only_incl _ _))⟩
/-- What is said of what has been read: just that, where one is not stuck; else there is no catalog. -/
def Said (b : List Int) (s : St) (p : Prop) : Prop := (¬ s = none → p) ∧ (s = none → pread b = none)
theorem pdims_next {b : List Int} {i : Nat} {s sL : St} {ds : Dims} {S : List Int} {U : List (List Int)} (hd : ds = (pdims i (pst2 b)).1) (hs : s = (pdims i (pst2 b)).2) (hS : S = (psz s).1) (hU : U = (pups (psz s).1 ((psz s).1.length - 1) (psz s).2).1) (hL : sL = (pups (psz s).1 ((psz s).1.length - 1) (psz s).2).2) :
    ds ++ [(S, U)] = (pdims (i + 1) (pst2 b)).1 ∧ sL = (pdims (i + 1) (pst2 b)).2 := by
  have e1 : (pdims (i + 1) (pst2 b)).1 = (pdims i (pst2 b)).1 ++ [(pdim (pdims i (pst2 b)).2).1] := rfl
  have e2 : (pdims (i + 1) (pst2 b)).2 = (pdim (pdims i (pst2 b)).2).2 := rfl
  rw [e1, e2, ← hs, ← hd, hS, hU, hL]
  exact ⟨rfl, rfl⟩
/-- A reader's two cells. -/
theorem Rdr.cells {t : TypeId} {w0 w : World} {B : Nat} {s : St} (h : Rdr t w0 w B s) : ∃ a n c l st, w.cell? ⟨B, 0, none⟩ = some (.slice a n c) ∧ w.cell? ⟨B, 1, none⟩ = some (.bool st) ∧ code.Row8 w0 a n c l ∧ (st = false ∧ s = some l ∨ st = true ∧ s = none) := by
  obtain ⟨_, _, _, a, n, c, l, st, hc, hr, hs⟩ := h
  obtain ⟨c0, c1⟩ := box_two hc
  exact ⟨a, n, c, l, st, c0, c1, hr, hs⟩

end Go.Proofs.Ytmlnfpefemchhaa

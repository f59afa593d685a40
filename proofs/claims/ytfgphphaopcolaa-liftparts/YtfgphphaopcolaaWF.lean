/-
  Places made wider by a dimension: as lists.
  Conditions: as each theorem states them.
-/
import Derived.Test.YtfgphphaopcolaaWA
import Derived.Test.YtfgphphaopcolaaLib7
namespace Go.Proofs.Ytfgphphaopcolaa
open Go.ChangeShapes Go.WideShapes Go.ChangeAt Go.RowKit
set_option linter.unusedVariables false
set_option linter.unusedSimpArgs false

/-- Four numbers, as a node; a node's numbers. -/
def nd (f : Nat → Int) : Nd := (f 0, f 1, f 2, f 3)
def nf (x : Nd) (j : Nat) : Int := [x.1, x.2.1, x.2.2.1, x.2.2.2].getD j 0
theorem nf_nd (f : Nat → Int) {j : Nat} (h : j < 4) : nf (nd f) j = f j := by
  have : j = 0 ∨ j = 1 ∨ j = 2 ∨ j = 3 := by omega
  rcases this with rfl | rfl | rfl | rfl <;> rfl
theorem nd_nf (x : Nd) : nd (nf x) = x := rfl
theorem nd_same {f g : Nat → Int} (h : ∀ j, j < 4 → f j = g j) : nd f = nd g := by
  unfold nd; rw [h 0 (by omega), h 1 (by omega), h 2 (by omega), h 3 (by omega)]
/-- A place with another number in a dimension. -/
def pt (x : Nd) (m : Int) (d : Nat) : Nd := nd (fun j => if j = d then m else nf x j)
theorem nf_pt (x : Nd) (m : Int) (d : Nat) {j : Nat} (h : j < 4) : nf (pt x m d) j = if j = d then m else nf x j := nf_nd _ h
/-- Each of the places with each of the members. -/
def wid (l : List Nd) (d : Nat) (ms : List Int) : List Nd := l.flatMap (fun x => ms.map (fun m => pt x m d))
theorem wid_len (l : List Nd) (d : Nat) (ms : List Int) : (wid l d ms).length = l.length * ms.length := by
  induction l with
  | nil => simp [wid]
  | cons x r ih => simp only [wid, List.flatMap_cons, List.length_append, List.length_map] at ih ⊢; rw [ih, List.length_cons, Nat.add_mul, Nat.one_mul, Nat.add_comm]
theorem wid_snoc (l : List Nd) (x : Nd) (d : Nat) (ms : List Int) : wid (l ++ [x]) d ms = wid l d ms ++ ms.map (fun m => pt x m d) := by
  unfold wid; rw [List.flatMap_append]; simp
theorem mem_wid {l : List Nd} {d : Nat} {ms : List Int} {y : Nd} : y ∈ wid l d ms ↔ ∃ x ∈ l, ∃ m ∈ ms, pt x m d = y := by
  unfold wid; simp only [List.mem_flatMap, List.mem_map]
theorem take_more {α : Type} {l : List α} {k : Nat} {x : α} (h : l[k]? = some x) : l.take (k + 1) = l.take k ++ [x] := by
  rw [List.take_add_one, h]; rfl
theorem take_full {α : Type} {l : List α} {k : Nat} (h : k = l.length) : l.take k = l := by rw [h, List.take_length]

/-- The members under a place's, dimension by dimension. -/
def uL (ds : Dims) (T A F : List Int) (k : Nat) : List Int := under (ds.getD k ([], [])).1 (ds.getD k ([], [])).2 (T.getD k 0) (A.getD k 0) (F.getD k 0)
theorem uL_at {ds : Dims} {T A F : List Int} {k : Nat} {S : List Int} {U : List (List Int)} (h : ds.getD k ([], []) = (S, U)) : uL ds T A F k = under S U (T.getD k 0) (A.getD k 0) (F.getD k 0) := by
  unfold uL; rw [h]
theorem under_bd {S : List Int} {U : List (List Int)} {t m f x : Int} (h : x ∈ under S U t m f) : 0 ≤ x ∧ x < size S U f := by
  have := mem_under.mp h; exact ⟨this.2.2.1, this.2.2.2.1⟩
theorem under_len (S : List Int) (U : List (List Int)) (t m f : Int) : (under S U t m f).length ≤ 40 := by
  by_cases h : 0 ≤ m ∧ m < size S U t
  · rw [under_yes h.1 h.2]
    have := und_len S U t m f (size S U f).toNat
    have := (size_bd S U f).2
    omega
  · rw [under_no (by omega)]; simp
theorem uL_len (ds : Dims) (T A F : List Int) (k : Nat) : (uL ds T A F k).length ≤ 40 := under_len _ _ _ _ _
theorem uL_bd {ds : Dims} {T A F : List Int} {k : Nat} {x : Int} (h : x ∈ uL ds T A F k) : 0 ≤ x ∧ x ≤ 39 := by
  have h1 := under_bd h
  have h2 := (size_bd (ds.getD k ([], [])).1 (ds.getD k ([], [])).2 (F.getD k 0)).2
  omega
/-- The places so far, the first so many dimensions gone through. -/
def fibs (ds : Dims) (T A F : List Int) : Nat → List Nd
  | 0 => [(0, 0, 0, 0)]
  | k + 1 => wid (fibs ds T A F k) k (uL ds T A F k)
theorem fibs_len (ds : Dims) (T A F : List Int) (k : Nat) : (fibs ds T A F (k + 1)).length = (fibs ds T A F k).length * (uL ds T A F k).length := wid_len _ _ _
theorem fibs_le (ds : Dims) (T A F : List Int) (k : Nat) : (fibs ds T A F k).length ≤ 40 ^ k := by
  induction k with
  | zero => simp [fibs]
  | succ k ih =>
    rw [fibs_len, Nat.pow_succ]
    exact Nat.mul_le_mul ih (uL_len _ _ _ _ _)
theorem npow40 {k : Nat} (h : k ≤ 4) : (40 : Nat) ^ k ≤ 2560000 := by
  have : k = 0 ∨ k = 1 ∨ k = 2 ∨ k = 3 ∨ k = 4 := by omega
  rcases this with rfl | rfl | rfl | rfl | rfl <;> decide
/-- Where there is one at the end, there are no more at any time. -/
theorem fibs_mono {ds : Dims} {T A F : List Int} {k n : Nat} (hk : k ≤ n) (h : 0 < (fibs ds T A F n).length) : (fibs ds T A F k).length ≤ (fibs ds T A F n).length ∧ 0 < (fibs ds T A F k).length := by
  induction n with
  | zero => obtain rfl : k = 0 := by omega
            exact ⟨Nat.le_refl _, h⟩
  | succ n ih =>
    by_cases e : k = n + 1
    · subst e; exact ⟨Nat.le_refl _, h⟩
    · rw [fibs_len] at h
      have h1 : 0 < (fibs ds T A F n).length := Nat.pos_of_mul_pos_right h
      have h2 : 0 < (uL ds T A F n).length := Nat.pos_of_mul_pos_left h
      obtain ⟨i1, i2⟩ := ih (by omega) h1
      refine ⟨?_, i2⟩
      rw [fibs_len]
      exact Nat.le_trans i1 (Nat.le_mul_of_pos_right _ h2)
/-- What Fiber tells. -/
def fib (ds : Dims) (M t0 t1 t2 t3 x0 x1 x2 x3 f0 f1 f2 f3 : Int) : List Nd :=
  if rightC ds M [t0, t1, t2, t3] [x0, x1, x2, x3] && bel f0 f1 f2 f3 t0 t1 t2 t3 then (if (fibs ds [t0, t1, t2, t3] [x0, x1, x2, x3] [f0, f1, f2, f3] ds.length).length ≤ 5000 then fibs ds [t0, t1, t2, t3] [x0, x1, x2, x3] [f0, f1, f2, f3] ds.length else []) else []
theorem fib_1 {ds : Dims} {M t0 t1 t2 t3 x0 x1 x2 x3 f0 f1 f2 f3 : Int} (h : rightC ds M [t0, t1, t2, t3] [x0, x1, x2, x3] = false) : fib ds M t0 t1 t2 t3 x0 x1 x2 x3 f0 f1 f2 f3 = [] := by unfold fib; rw [h]; rfl
theorem fib_2 {ds : Dims} {M t0 t1 t2 t3 x0 x1 x2 x3 f0 f1 f2 f3 : Int} (h : bel f0 f1 f2 f3 t0 t1 t2 t3 = false) : fib ds M t0 t1 t2 t3 x0 x1 x2 x3 f0 f1 f2 f3 = [] := by unfold fib; rw [h, Bool.and_false]; rfl
theorem fib_3 {ds : Dims} {M t0 t1 t2 t3 x0 x1 x2 x3 f0 f1 f2 f3 : Int} (h : 5000 < (fibs ds [t0, t1, t2, t3] [x0, x1, x2, x3] [f0, f1, f2, f3] ds.length).length) : fib ds M t0 t1 t2 t3 x0 x1 x2 x3 f0 f1 f2 f3 = [] := by
  unfold fib; rw [if_neg (show ¬ (fibs ds [t0, t1, t2, t3] [x0, x1, x2, x3] [f0, f1, f2, f3] ds.length).length ≤ 5000 by omega)]; simp
theorem fib_4 {ds : Dims} {M t0 t1 t2 t3 x0 x1 x2 x3 f0 f1 f2 f3 : Int} (h : rightC ds M [t0, t1, t2, t3] [x0, x1, x2, x3] = true) (h2 : bel f0 f1 f2 f3 t0 t1 t2 t3 = true) (h3 : (fibs ds [t0, t1, t2, t3] [x0, x1, x2, x3] [f0, f1, f2, f3] ds.length).length ≤ 5000) : fib ds M t0 t1 t2 t3 x0 x1 x2 x3 f0 f1 f2 f3 = fibs ds [t0, t1, t2, t3] [x0, x1, x2, x3] [f0, f1, f2, f3] ds.length := by
  unfold fib; rw [h, h2, if_pos h3]; rfl
theorem fib_0 {ds : Dims} {M t0 t1 t2 t3 x0 x1 x2 x3 f0 f1 f2 f3 : Int} (h : (fibs ds [t0, t1, t2, t3] [x0, x1, x2, x3] [f0, f1, f2, f3] ds.length).length = 0) : fib ds M t0 t1 t2 t3 x0 x1 x2 x3 f0 f1 f2 f3 = [] := by
  unfold fib; rw [List.length_eq_zero_iff.mp h]; simp
theorem fib_len (ds : Dims) (M t0 t1 t2 t3 x0 x1 x2 x3 f0 f1 f2 f3 : Int) : (fib ds M t0 t1 t2 t3 x0 x1 x2 x3 f0 f1 f2 f3).length ≤ 5000 := by
  unfold fib
  split
  · split
    · assumption
    · simp
  · simp

/-! Rows of places of one's own. -/
theorem info_coord : (Try.prog.info? 27).map (fun i => (i.zero, i.size, i.bytes)) = some (some (.agg #[.int .u8 0, .int .u8 0, .int .u8 0, .int .u8 0]), 4, 4) := by kernel_rfl
/-- A row of places of one's own behind a world, not in a block. -/
def PlSt (W wr : World) (v : Value) (l : List Nd) : Prop := Below W.heap.size W wr ∧ wr.ownsRow W.heap.size 27 4 v l.length (ncells l)
theorem PlSt.step {W wr w' : World} {v : Value} {l : List Nd} (h : PlSt W wr v l) (hb : Below wr.heap.size wr w') : PlSt W w' v l := by
  refine ⟨bt h.1 hb, h.2.kept (below_grow hb none) ?_⟩
  cases hv : v.ownBlock with
  | none => exact .inl rfl
  | some j => exact .inr (by simp)
theorem PlSt.set {W wr : World} {v : Value} {l : List Nd} (h : PlSt W wr v l) {B j : Nat} {u : Value} (hB : W.heap.size ≤ B) (hv : ¬ v.ownBlock = some B) : PlSt W (wr.setCell ⟨B, j, none⟩ u) v l :=
  ⟨h.1.setCell hB _, h.2.kept (set_grown wr B j u) (.inr hv)⟩
theorem pl_step {W wr w3 : World} {g cap : Nat} {x : Nd} {v : Value} {l : List Nd} (h : PlSt W wr v l)
    (ho : w3.ownsRow W.heap.size 27 4 (.slice (some ⟨g, 0, none⟩) (l.length + 1) cap) (l.length + 1) (ncells (l ++ [x]))) (hg : wr.grownBy w3 v.ownBlock) : PlSt W w3 (.slice (some ⟨g, 0, none⟩) (l.length + 1) cap) (l ++ [x]) := by
  refine ⟨h.1.grown hg h.1.size (fun j hj => (h.2.lt j hj).1), ?_⟩
  rw [show (l ++ [x]).length = l.length + 1 by simp]
  exact ho
/-- A row of places in a world, a slice of a new block of one place. -/
theorem nrow_one (w : World) (x0 x1 x2 x3 : Int) (t : TypeId) : NRow (w.alloc (.cells #[.int .u8 x0, .int .u8 x1, .int .u8 x2, .int .u8 x3] t)) (some ⟨w.heap.size, 0, none⟩) 1 1 [(x0, x1, x2, x3)] := by
  refine ⟨rfl, Nat.le_refl _, by decide, (fun h => by cases h), fun _ => ⟨w.heap.size, 0, rfl, by simp, fun j y0 y1 y2 y3 hj => ?_⟩⟩
  cases j with
  | zero =>
    simp at hj
    obtain ⟨rfl, rfl, rfl, rfl⟩ := hj
    obtain ⟨c0, c1, c2, c3⟩ := box4 (heap_alloc_new w (.cells #[.int .u8 x0, .int .u8 x1, .int .u8 x2, .int .u8 x3] t))
    exact ⟨c0, c1, c2, c3⟩
  | succ j => simp at hj

end Go.Proofs.Ytfgphphaopcolaa

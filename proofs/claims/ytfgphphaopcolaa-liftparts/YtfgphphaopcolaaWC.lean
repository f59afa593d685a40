/-
  What the document's own To returns.
  Conditions: as each theorem states them.
-/
import Derived.Test.YtfgphphaopcolaaWB
namespace Go.Proofs.Ytfgphphaopcolaa
open Go.ChangeShapes Go.WideShapes Go.ChangeAt Go.RowKit
set_option linter.unusedVariables false
set_option linter.unusedSimpArgs false

/-- Four numbers and a Boolean. -/
def n5 (f : Nat → Int) (b : Bool) : Array Value := #[.int .u8 (f 0), .int .u8 (f 1), .int .u8 (f 2), .int .u8 (f 3), .bool b]
theorem n5_all {w : World} {D : Nat} {t : TypeId} {f : Nat → Int} {b : Bool} (hD : w.heap[D]? = some (.cells (n5 f b) t)) : w.cell? ⟨D, 0, none⟩ = some (.int .u8 (f 0)) ∧ w.cell? ⟨D, 1, none⟩ = some (.int .u8 (f 1)) ∧ w.cell? ⟨D, 2, none⟩ = some (.int .u8 (f 2)) ∧ w.cell? ⟨D, 3, none⟩ = some (.int .u8 (f 3)) ∧ w.cell? ⟨D, 4, none⟩ = some (.bool b) := by
  refine ⟨?_, ?_, ?_, ?_, ?_⟩ <;> simp [World.cell?, hD, n5]
theorem n5_at {w : World} {D : Nat} {t : TypeId} {f : Nat → Int} {b : Bool} (hD : w.heap[D]? = some (.cells (n5 f b) t)) {k : Nat} (hk : k < 4) : w.cell? ⟨D, k, none⟩ = some (.int .u8 (f k)) := by
  obtain ⟨h0, h1, h2, h3, h4⟩ := n5_all hD
  have : k = 0 ∨ k = 1 ∨ k = 2 ∨ k = 3 := by omega
  rcases this with rfl | rfl | rfl | rfl <;> assumption
theorem n5_put {f g : Nat → Int} {b : Bool} {k : Nat} (hk : k < 4) {x : Int} (h : ∀ j, j < 4 → g j = if j = k then x else f j) : (n5 f b).setIfInBounds k (.int .u8 x) = n5 g b := by
  have h0 := h 0 (by omega)
  have h1 := h 1 (by omega)
  have h2 := h 2 (by omega)
  have h3 := h 3 (by omega)
  have : k = 0 ∨ k = 1 ∨ k = 2 ∨ k = 3 := by omega
  rcases this with rfl | rfl | rfl | rfl <;> simp [n5, h0, h1, h2, h3]
theorem froz5 {w : World} {D : Nat} {t : TypeId} {cs : Array Value} (hD : w.heap[D]? = some (.cells cs t)) : w.frozen? ⟨D, 0, none⟩ = false ∧ w.frozen? ⟨D, 1, none⟩ = false ∧ w.frozen? ⟨D, 2, none⟩ = false ∧ w.frozen? ⟨D, 3, none⟩ = false ∧ w.frozen? ⟨D, 4, none⟩ = false :=
  ⟨frozen_of_row w D 0 _ _ hD, frozen_of_row w D 1 _ _ hD, frozen_of_row w D 2 _ _ hD, frozen_of_row w D 3 _ _ hD, frozen_of_row w D 4 _ _ hD⟩
theorem n5_store {w : World} {B : Nat} {t : TypeId} {f : Nat → Int} {b0 : Bool} (h : w.heap[B]? = some (.cells (n5 f b0) t)) (a b c d e : Value) :
    (((((w.setCell ⟨B, 0, none⟩ a).setCell ⟨B, 1, none⟩ b).setCell ⟨B, 2, none⟩ c).setCell ⟨B, 3, none⟩ d).setCell ⟨B, 4, none⟩ e).heap[B]? = some (.cells #[a, b, c, d, e] t) := by
  have h0 := heap_setCell_same w B 0 _ t a h
  have h1 := heap_setCell_same _ B 1 _ t b h0
  have h2 := heap_setCell_same _ B 2 _ t c h1
  have h3 := heap_setCell_same _ B 3 _ t d h2
  have h4 := heap_setCell_same _ B 4 _ t e h3
  exact h4
theorem below5 {w wr : World} {B : Nat} (h : Below w.heap.size w wr) (hB : w.heap.size ≤ B) (a b c d e : Value) :
    Below w.heap.size w (((((wr.setCell ⟨B, 0, none⟩ a).setCell ⟨B, 1, none⟩ b).setCell ⟨B, 2, none⟩ c).setCell ⟨B, 3, none⟩ d).setCell ⟨B, 4, none⟩ e) :=
  ((((h.setCell hB _).setCell hB _).setCell hB _).setCell hB _).setCell hB _

/-- A catalog, two nodes and a place, in blocks behind a world. -/
def To4 (w wr : World) (s u : Value) (F T A : Nat → Int) : Prop :=
  Below w.heap.size w wr ∧ wr.heap[w.heap.size]? = some (.cells #[s, u] 24) ∧ wr.heap[w.heap.size + 1]? = some (.cells (n4 F) 26) ∧ wr.heap[w.heap.size + 2]? = some (.cells (n4 T) 26) ∧ wr.heap[w.heap.size + 3]? = some (.cells (n4 A) 27)
theorem To4.step {w wr w' : World} {s u : Value} {F T A : Nat → Int} (h : To4 w wr s u F T A) (hb : Below wr.heap.size wr w') : To4 w w' s u F T A :=
  ⟨bt h.1 hb, keep_blk h.2.1 hb, keep_blk h.2.2.1 hb, keep_blk h.2.2.2.1 hb, keep_blk h.2.2.2.2 hb⟩
theorem To4.set {w wr : World} {s u : Value} {F T A : Nat → Int} (h : To4 w wr s u F T A) {B j : Nat} (hB : w.heap.size + 4 ≤ B) (v : Value) : To4 w (wr.setCell ⟨B, j, none⟩ v) s u F T A := by
  obtain ⟨h1, h2, h3, h4, h5⟩ := h
  refine ⟨h1.setCell (by simp; omega) _, ?_, ?_, ?_, ?_⟩
  · rw [Below.heap_setCell _ _ _ _ (by simp; omega)]; exact h2
  · rw [Below.heap_setCell _ _ _ _ (by simp; omega)]; exact h3
  · rw [Below.heap_setCell _ _ _ _ (by simp; omega)]; exact h4
  · rw [Below.heap_setCell _ _ _ _ (by simp; omega)]; exact h5
/-- .. and the result's block. -/
def To6 (w wr : World) (s u : Value) (F T A R : Nat → Int) (b : Bool) : Prop := To4 w wr s u F T A ∧ wr.heap[w.heap.size + 4]? = some (.cells (n5 R b) 40)
theorem To6.step {w wr w' : World} {s u : Value} {F T A R : Nat → Int} {b : Bool} (h : To6 w wr s u F T A R b) (hb : Below wr.heap.size wr w') : To6 w w' s u F T A R b := ⟨h.1.step hb, keep_blk h.2 hb⟩
theorem to6_new (w : World) (s u : Value) (f0 f1 f2 f3 t0 t1 t2 t3 x0 x1 x2 x3 : Int) : To6 w (((((w.alloc (.cells #[s, u] 24)).alloc (.cells #[.int .u8 f0, .int .u8 f1, .int .u8 f2, .int .u8 f3] 26)).alloc (.cells #[.int .u8 t0, .int .u8 t1, .int .u8 t2, .int .u8 t3] 26)).alloc (.cells #[.int .u8 x0, .int .u8 x1, .int .u8 x2, .int .u8 x3] 27)).alloc (.cells #[.int .u8 0, .int .u8 0, .int .u8 0, .int .u8 0, .bool false] 40)) s u (fun j => [f0, f1, f2, f3].getD j 0) (fun j => [t0, t1, t2, t3].getD j 0) (fun j => [x0, x1, x2, x3].getD j 0) (fun _ => 0) false := by
  refine ⟨⟨(((((Below.refl _ _).alloc (Nat.le_refl _) _).alloc (by simp) _).alloc (by simp; omega) _).alloc (by simp; omega) _).alloc (by simp; omega) _, ?_, ?_, ?_, ?_⟩, ?_⟩ <;> simp only [heap_alloc2, World.size_alloc]
  · rw [if_neg (by omega), if_neg (by omega), if_neg (by omega), if_neg (by omega)]; simp
  · rw [if_neg (by omega), if_neg (by omega), if_neg (by omega)]; simp [n4]
  · rw [if_neg (by omega), if_neg (by omega)]; simp [n4]
  · rw [if_neg (by omega)]; simp [n4]
  · simp [n5]
theorem To4.all {w wr : World} {s u : Value} {F T A : Nat → Int} (h : To4 w wr s u F T A) :
    (wr.cell? ⟨w.heap.size, 0, none⟩ = some s ∧ wr.cell? ⟨w.heap.size, 1, none⟩ = some u) ∧
    (wr.cell? ⟨w.heap.size + 1, 0, none⟩ = some (.int .u8 (F 0)) ∧ wr.cell? ⟨w.heap.size + 1, 1, none⟩ = some (.int .u8 (F 1)) ∧ wr.cell? ⟨w.heap.size + 1, 2, none⟩ = some (.int .u8 (F 2)) ∧ wr.cell? ⟨w.heap.size + 1, 3, none⟩ = some (.int .u8 (F 3))) ∧
    (wr.cell? ⟨w.heap.size + 2, 0, none⟩ = some (.int .u8 (T 0)) ∧ wr.cell? ⟨w.heap.size + 2, 1, none⟩ = some (.int .u8 (T 1)) ∧ wr.cell? ⟨w.heap.size + 2, 2, none⟩ = some (.int .u8 (T 2)) ∧ wr.cell? ⟨w.heap.size + 2, 3, none⟩ = some (.int .u8 (T 3))) ∧
    (wr.cell? ⟨w.heap.size + 3, 0, none⟩ = some (.int .u8 (A 0)) ∧ wr.cell? ⟨w.heap.size + 3, 1, none⟩ = some (.int .u8 (A 1)) ∧ wr.cell? ⟨w.heap.size + 3, 2, none⟩ = some (.int .u8 (A 2)) ∧ wr.cell? ⟨w.heap.size + 3, 3, none⟩ = some (.int .u8 (A 3))) :=
  ⟨box_two h.2.1, n4_all h.2.2.1, n4_all h.2.2.2.1, n4_all h.2.2.2.2⟩
theorem kq_drew {T Q : World → Prop} {w' : World} (h : Hid (T w')) (S : Hid (∀ x y, Below x.heap.size x y → T x → T y)) (K : Hid (∀ x, T x → Q x)) : Q w'.drew := K.out _ (S.out _ _ (Below.refl _ _).drew h.out)
theorem kq_step {T Q : World → Prop} {R : Prop} {w' w'' : World} (hb : Below w'.heap.size w' w'') (h : T w' ∧ R) (S : Hid (∀ x y, Below x.heap.size x y → T x → T y)) (K : Hid (∀ x, T x → Q x)) : Q w'' := K.out _ (S.out _ _ hb h.1)
theorem kq_set {T Q : World → Prop} {R : Prop} {w' : World} {B j : Nat} {v : Value} (h : T w' ∧ R) (S : Hid (∀ x j v, T x → T (x.setCell ⟨B, j, none⟩ v))) (K : Hid (∀ x, T x → Q x)) : Q (w'.setCell ⟨B, j, none⟩ v) := K.out _ (S.out _ _ _ h.1)
/-- The first so many are carried, of the others nothing. -/
def toZ (ds : Dims) (F T A : List Int) (k j : Nat) : Int := if j < k then toX ds F T A j else 0
theorem toZ_put (ds : Dims) (F T A : List Int) (k : Nat) : ∀ j, j < 4 → toZ ds F T A (k + 1) j = if j = k then toX ds F T A k else toZ ds F T A k j := by
  intro j hj
  unfold toZ
  by_cases ejk : j = k
  · subst ejk; rw [if_pos (by omega), if_pos rfl]
  · rw [if_neg ejk]
    by_cases hjk : j < k
    · rw [if_pos (by omega), if_pos hjk]
    · rw [if_neg (by omega), if_neg hjk]
/-- The blocks, and that of the place that is made. -/
def To7 (w wr : World) (s u : Value) (F T A R : Nat → Int) (P : Nat) (G : Nat → Int) : Prop := To6 w wr s u F T A R false ∧ w.heap.size + 5 ≤ P ∧ wr.heap[P]? = some (.cells (n5 G true) 40)
theorem To7.step {w wr w' : World} {s u : Value} {F T A R : Nat → Int} {P : Nat} {G : Nat → Int} (h : To7 w wr s u F T A R P G) (hb : Below wr.heap.size wr w') : To7 w w' s u F T A R P G := ⟨h.1.step hb, h.2.1, keep_blk h.2.2 hb⟩
theorem To7.put {w wr : World} {s u : Value} {F T A R : Nat → Int} {P : Nat} {G G' : Nat → Int} (h : To7 w wr s u F T A R P G) {k : Nat} (hk : k < 4) {x : Int} (e : ∀ j, j < 4 → G' j = if j = k then x else G j) : To7 w (wr.setCell ⟨P, k, none⟩ (.int .u8 x)) s u F T A R P G' := by
  refine ⟨⟨h.1.1.set (by have := h.2.1; omega) _, ?_⟩, h.2.1, ?_⟩
  · rw [Below.heap_setCell _ _ _ _ (by have := h.2.1; simp; omega)]; exact h.1.2
  · rw [← n5_put hk e]; exact heap_setCell_same wr P k _ _ _ h.2.2
/-- What a region bears. -/
def TQ (w : World) (b : Nat) (s u : Value) (F T A : Nat → Int) (off : Nat) (d1 d2 : Value) (x : World) : Prop := To4 w x s u F T A ∧ x.cell? ⟨b, off, none⟩ = some d1 ∧ x.cell? ⟨b, off + 1, none⟩ = some d2 ∧ b < w.heap.size
theorem tq_step {w : World} {b : Nat} {s u : Value} {F T A : Nat → Int} {off : Nat} {d1 d2 : Value} : Hid (∀ x y, Below x.heap.size x y → TQ w b s u F T A off d1 d2 x → TQ w b s u F T A off d1 d2 y) :=
  hid fun x y hb h => ⟨h.1.step hb, ((bcell hb).1 _ _ (Nat.lt_of_lt_of_le h.2.2.2 h.1.1.size)).trans h.2.1, ((bcell hb).1 _ _ (Nat.lt_of_lt_of_le h.2.2.2 h.1.1.size)).trans h.2.2.1, h.2.2.2⟩
theorem cell_other {w : World} {B b j o : Nat} {v : Value} (h : ¬ b = B) : (w.setCell ⟨B, j, none⟩ v).cell? ⟨b, o, none⟩ = w.cell? ⟨b, o, none⟩ :=
  World.cell?_of_block (w := w) (a := ⟨b, o, none⟩) (Below.heap_setCell _ _ _ _ (by simpa using h))
theorem tq_set {w : World} {b : Nat} {s u : Value} {F T A : Nat → Int} {off : Nat} {d1 d2 : Value} {P : Nat} (hP : w.heap.size + 5 ≤ P) : Hid (∀ x j v, TQ w b s u F T A off d1 d2 x → TQ w b s u F T A off d1 d2 (x.setCell ⟨P, j, none⟩ v)) :=
  hid fun x j v h => ⟨h.1.set (by omega) _, (cell_other (by have := h.2.2.2; omega)).trans h.2.1, (cell_other (by have := h.2.2.2; omega)).trans h.2.2.1, h.2.2.2⟩

set_option maxHeartbeats 8000000 in
theorem rto_any (a : Option Addr) (n c : Nat) (ds : Dims) (M f0 f1 f2 f3 t0 t1 t2 t3 x0 x1 x2 x3 : Int) (w : World) (hc : Cat w a n c ds) (hM : I64 M) (hF : ∀ x ∈ [f0, f1, f2, f3], U8 x) (hT : ∀ x ∈ [t0, t1, t2, t3], U8 x) (hA : ∀ x ∈ [x0, x1, x2, x3], U8 x) :
    Calls Try.prog 12 #[.agg #[.slice a n c, .int .i64 M], .agg #[.int .u8 f0, .int .u8 f1, .int .u8 f2, .int .u8 f3], .agg #[.int .u8 t0, .int .u8 t1, .int .u8 t2, .int .u8 t3], .agg #[.int .u8 x0, .int .u8 x1, .int .u8 x2, .int .u8 x3]] w
      fun e w' => e = .returned (.agg (n5 (toR ds M f0 f1 f2 f3 t0 t1 t2 t3 x0 x1 x2 x3) (toB ds M f0 f1 f2 f3 t0 t1 t2 t3 x0 x1 x2 x3))) ∧ Below w.heap.size w w' := by
  obtain ⟨e1, e2⟩ := hc.lens
  have E1 : Hid (n = ds.length) := e1
  have HC : Hid (Cat w a n c ds) := hc
  have HM : Hid (I64 M) := hM
  have HF : Hid (∀ x ∈ [f0, f1, f2, f3], U8 x) := hF
  have HT : Hid (∀ x ∈ [t0, t1, t2, t3], U8 x) := hT
  have HA : Hid (∀ x ∈ [x0, x1, x2, x3], U8 x) := hA
  have TX : Hid (To6 w _ (.slice a n c) (.int .i64 M) _ _ _ _ _) := to6_new w (.slice a n c) (.int .i64 M) f0 f1 f2 f3 t0 t1 t2 t3 x0 x1 x2 x3
  clear e1 hc hM hF hT hA
  cases hr : rightC ds M [f0, f1, f2, f3] [x0, x1, x2, x3] with
  | false =>
    have HR := hid hr
    have hB := toB_1 (t0 := t0) (t1 := t1) (t2 := t2) (t3 := t3) hr
    have hz : n5 (toR ds M f0 f1 f2 f3 t0 t1 t2 t3 x0 x1 x2 x3) (toB ds M f0 f1 f2 f3 t0 t1 t2 t3 x0 x1 x2 x3) = n5 (fun _ => 0) false := by unfold n5; rw [hB]; simp only [toR_no hB]
    rw [hz]
    clear hr hB hz
    go_enter Try.func12, Try.ntmps12
    go_wp2_with (go_at_call 19; refine (rright_n _ _ _ _ _ _ _ _ _ _ _ _ _ _ _ (HC.out.below TX.out.1.1) HM.out HF.out HA.out HR).mono ?_; rintro e w1 ⟨rfl, hb⟩; have TX1 := TX.out.step hb; obtain ⟨d0, d1, d2, d3, d4⟩ := n5_all TX1.2; obtain ⟨g0, g1, g2, g3, g4⟩ := froz5 TX1.2; have TX1 := hid TX1)
    obtain ⟨r0, r1, r2, r3, r4⟩ := n5_all (f := fun _ => 0) (n5_store TX1.out.2 (.int .u8 0) (.int .u8 0) (.int .u8 0) (.int .u8 0) (.bool false))
    exact bodyPost_ret (v := .agg (n5 (fun _ => 0) false)) (by simp [results, Try.results12, go_sem, r0, r1, r2, r3, r4, n5]) rfl ⟨rfl, below5 TX1.out.1.1 (by omega) _ _ _ _ _⟩
  | true =>
    have HR := hid hr
    cases hn : nodeC ds M t0 t1 t2 t3 with
    | false =>
      have HN := hid hn
      have hB := toB_2 (f0 := f0) (f1 := f1) (f2 := f2) (f3 := f3) (x0 := x0) (x1 := x1) (x2 := x2) (x3 := x3) hn
      have hz : n5 (toR ds M f0 f1 f2 f3 t0 t1 t2 t3 x0 x1 x2 x3) (toB ds M f0 f1 f2 f3 t0 t1 t2 t3 x0 x1 x2 x3) = n5 (fun _ => 0) false := by unfold n5; rw [hB]; simp only [toR_no hB]
      rw [hz]
      clear hr hB hn hz
      go_enter Try.func12, Try.ntmps12
      go_wp2_with (first
        | (go_at_call 19; refine (rright_n _ _ _ _ _ _ _ _ _ _ _ _ _ _ _ (HC.out.below TX.out.1.1) HM.out HF.out HA.out HR).mono ?_; rintro e w1 ⟨rfl, hb⟩; have TX1 := TX.out.step hb; obtain ⟨⟨b0, b1⟩, b2, ⟨b3, b4, b5, b6⟩, b7⟩ := TX1.1.all; have TX1 := hid TX1)
        | (go_at_call 18; refine (rlgood_m _ _ _ _ _ _ _ _ _ _ _ (HC.out.below TX1.out.1.1) HM.out HT.out HN).mono ?_; rintro e w2 ⟨rfl, hb2⟩; have TX2 := TX1.out.step hb2; obtain ⟨d0, d1, d2, d3, d4⟩ := n5_all TX2.2; obtain ⟨g0, g1, g2, g3, g4⟩ := froz5 TX2.2; have TX2 := hid TX2))
      obtain ⟨r0, r1, r2, r3, r4⟩ := n5_all (f := fun _ => 0) (n5_store TX2.out.2 (.int .u8 0) (.int .u8 0) (.int .u8 0) (.int .u8 0) (.bool false))
      exact bodyPost_ret (v := .agg (n5 (fun _ => 0) false)) (by simp [results, Try.results12, go_sem, r0, r1, r2, r3, r4, n5]) rfl ⟨rfl, below5 TX2.out.1.1 (by omega) _ _ _ _ _⟩
    | true =>
      have HN := hid hn
      cases hl : bel f0 f1 f2 f3 t0 t1 t2 t3 with
      | false =>
        have HL := hid hl
        have hB := toB_3 (ds := ds) (M := M) (x0 := x0) (x1 := x1) (x2 := x2) (x3 := x3) hl
        have hz : n5 (toR ds M f0 f1 f2 f3 t0 t1 t2 t3 x0 x1 x2 x3) (toB ds M f0 f1 f2 f3 t0 t1 t2 t3 x0 x1 x2 x3) = n5 (fun _ => 0) false := by unfold n5; rw [hB]; simp only [toR_no hB]
        rw [hz]
        clear hr hB hn hl hz
        go_enter Try.func12, Try.ntmps12
        go_wp2_with (first
          | (go_at_call 19; refine (rright_n _ _ _ _ _ _ _ _ _ _ _ _ _ _ _ (HC.out.below TX.out.1.1) HM.out HF.out HA.out HR).mono ?_; rintro e w1 ⟨rfl, hb⟩; have TX1 := TX.out.step hb; obtain ⟨⟨b0, b1⟩, b2, ⟨b3, b4, b5, b6⟩, b7⟩ := TX1.1.all; have TX1 := hid TX1)
          | (go_at_call 18; refine (rlgood_m _ _ _ _ _ _ _ _ _ _ _ (HC.out.below TX1.out.1.1) HM.out HT.out HN).mono ?_; rintro e w2 ⟨rfl, hb2⟩; have TX2 := TX1.out.step hb2; obtain ⟨p1, ⟨p2, p3, p4, p5⟩, ⟨p6, p7, p8, p9⟩, pa⟩ := TX2.1.all; have TX2 := hid TX2)
          | (go_at_call 32; refine (rbelow_m _ _ _ _ _ _ _ _ _ _ HL).mono ?_; rintro e w3 ⟨rfl, hb3⟩; have TX3 := TX2.out.step hb3; obtain ⟨d0, d1, d2, d3, d4⟩ := n5_all TX3.2; obtain ⟨g0, g1, g2, g3, g4⟩ := froz5 TX3.2; have TX3 := hid TX3))
        obtain ⟨r0, r1, r2, r3, r4⟩ := n5_all (f := fun _ => 0) (n5_store TX3.out.2 (.int .u8 0) (.int .u8 0) (.int .u8 0) (.int .u8 0) (.bool false))
        exact bodyPost_ret (v := .agg (n5 (fun _ => 0) false)) (by simp [results, Try.results12, go_sem, r0, r1, r2, r3, r4, n5]) rfl ⟨rfl, below5 TX3.out.1.1 (by omega) _ _ _ _ _⟩
      | true =>
        have HL := hid hl
        have hB := toB_4 hr hn hl
        have HX : Hid (∀ k, k < 4 → 0 ≤ toX ds [f0, f1, f2, f3] [t0, t1, t2, t3] [x0, x1, x2, x3] k ∧ toX ds [f0, f1, f2, f3] [t0, t1, t2, t3] [x0, x1, x2, x3] k < memC ds k ([t0, t1, t2, t3].getD k 0)) := hid fun k hk => toX_in hr hn hl HF.out HT.out HA.out hk
        have hz : n5 (toR ds M f0 f1 f2 f3 t0 t1 t2 t3 x0 x1 x2 x3) (toB ds M f0 f1 f2 f3 t0 t1 t2 t3 x0 x1 x2 x3) = n5 (toX ds [f0, f1, f2, f3] [t0, t1, t2, t3] [x0, x1, x2, x3]) true := by unfold n5; rw [hB]; simp only [toR_yes hB]
        rw [hz]
        have hgp := goodC_p (nodeC_good hn)
        rw [← E1.out] at hgp
        obtain ⟨n1, n4', _, _, _⟩ := hgp
        clear hr hB hn hl hz
        go_enter Try.func12, Try.ntmps12
        go_wp2_with (first
          | (go_at_call 19; refine (rright_n _ _ _ _ _ _ _ _ _ _ _ _ _ _ _ (HC.out.below TX.out.1.1) HM.out HF.out HA.out HR).mono ?_; rintro e w1 ⟨rfl, hb⟩; have TX1 := TX.out.step hb; obtain ⟨⟨b0, b1⟩, b2, ⟨b3, b4, b5, b6⟩, b7⟩ := TX1.1.all; have TX1 := hid TX1)
          | (go_at_call 18; refine (rlgood_m _ _ _ _ _ _ _ _ _ _ _ (HC.out.below TX1.out.1.1) HM.out HT.out HN).mono ?_; rintro e w2 ⟨rfl, hb2⟩; have TX2 := TX1.out.step hb2; obtain ⟨p1, ⟨p2, p3, p4, p5⟩, ⟨p6, p7, p8, p9⟩, pa⟩ := TX2.1.all; have TX2 := hid TX2)
          | (go_at_call 32; refine (rbelow_m _ _ _ _ _ _ _ _ _ _ HL).mono ?_; rintro e w3 ⟨rfl, hb3⟩; have TX3 := TX2.out.step hb3; have TX3 := hid TX3))
        have TX4 : Hid (To7 w (w3.alloc (.cells #[.int .u8 0, .int .u8 0, .int .u8 0, .int .u8 0, .bool true] 40)) (.slice a n c) (.int .i64 M) (fun j => [f0, f1, f2, f3].getD j 0) (fun j => [t0, t1, t2, t3].getD j 0) (fun j => [x0, x1, x2, x3].getD j 0) (fun _ => 0) w3.heap.size (toZ ds [f0, f1, f2, f3] [t0, t1, t2, t3] [x0, x1, x2, x3] 0)) :=
          hid ⟨TX3.out.step ((Below.refl _ _).alloc (Nat.le_refl _) _), heap_lt TX3.out.2, heap_alloc_new _ _⟩
        obtain ⟨F, hFe⟩ : ∃ F, [f0, f1, f2, f3] = F := ⟨_, rfl⟩
        obtain ⟨T, hTe⟩ : ∃ T, [t0, t1, t2, t3] = T := ⟨_, rfl⟩
        obtain ⟨A, hAe⟩ : ∃ A, [x0, x1, x2, x3] = A := ⟨_, rfl⟩
        have HFE := hid hFe
        have HTE := hid hTe
        have HAE := hid hAe
        rw [hFe, hTe, hAe] at TX4 HX
        rw [hFe] at HF
        rw [hTe] at HT
        rw [hAe] at HA
        generalize hP : w3.heap.size = P at TX4 ⊢
        clear TX TX1 TX2 TX3 HR HN HL hFe hTe hAe hP
        go_loopw [10] (fun i wr => ∃ k : Nat, k ≤ n ∧ i = .int .i64 k ∧ Hid (To7 w wr (.slice a n c) (.int .i64 M) (fun j => F.getD j 0) (fun j => T.getD j 0) (fun j => A.getD j 0) (fun _ => 0) P (toZ ds F T A k))) (fun i _ => n - (intOf i).toNat)
        case atStart => exact ⟨0, by omega, rfl, TX4⟩
        case round =>
          obtain ⟨k, hk, rfl, TX5⟩ := hrel
          have hsz := heap_lt TX5.out.1.2
          have bel2 := TX5.out.1.1.1
          obtain ⟨c0, c1⟩ := (box_two TX5.out.1.1.2.1)
          by_cases hlt : k < n
          · have hkn : (k : Int) < (n : Int) := by omega
            have hk4 : (k : Int) < 4 := by omega
            have hk4' : k < 4 := by omega
            obtain ⟨b, off, rfl, hb0, sa, sl, sc, ua, ul, uc, S, U, d1, d2, HDm, HSU⟩ := HC.out.get bel2 hlt
            have hbw : b < wr.heap.size := Nat.lt_of_lt_of_le hb0 bel2.size
            have q1 := n4_at TX5.out.1.1.2.2.1 hk4'
            have q2 := n4_at TX5.out.1.1.2.2.2.1 hk4'
            have q3 := n4_at TX5.out.1.1.2.2.2.2 hk4'
            have hx := HX.out k (by omega)
            have hx40 := (memC_bd ds k (T.getD k 0)).2
            have ex := toX_at (F := F) (T := T) (A := A) (by rw [← E1.out]; exact hlt) HSU.out
            have g1 := u8_at HF.out k
            have g2 := u8_at HT.out k
            have g3 := u8_at HA.out k
            have HP := hid (toZ_put ds F T A k)
            have TQ0 : Hid (TQ w b (.slice (some ⟨b, off, none⟩) n c) (.int .i64 M) (fun j => F.getD j 0) (fun j => T.getD j 0) (fun j => A.getD j 0) (off + k * 2) (.slice sa sl sc) (.slice ua ul uc) wr) := hid ⟨TX5.out.1.1, d1, d2, hb0⟩
            have FK : Hid (∀ x, TQ w b (.slice (some ⟨b, off, none⟩) n c) (.int .i64 M) (fun j => F.getD j 0) (fun j => T.getD j 0) (fun j => A.getD j 0) (off + k * 2) (.slice sa sl sc) (.slice ua ul uc) x → x.cell? ⟨w.heap.size + 1, k, none⟩ = some (.int .u8 (F.getD k 0)) ∧ x.cell? ⟨w.heap.size + 2, k, none⟩ = some (.int .u8 (T.getD k 0)) ∧ x.cell? ⟨w.heap.size + 3, k, none⟩ = some (.int .u8 (A.getD k 0))) :=
              hid fun x h => ⟨n4_at h.1.2.2.1 hk4', n4_at h.1.2.2.2.1 hk4', n4_at h.1.2.2.2.2 hk4'⟩
            have TW := hid TX5.out.2.1
            obtain ⟨vf, hvf⟩ : ∃ v, F.getD k 0 = v := ⟨_, rfl⟩
            obtain ⟨vt, hvt⟩ : ∃ v, T.getD k 0 = v := ⟨_, rfl⟩
            obtain ⟨va, hva⟩ : ∃ v, A.getD k 0 = v := ⟨_, rfl⟩
            obtain ⟨X, hX⟩ : ∃ v, toX ds F T A k = v := ⟨_, rfl⟩
            rw [hX] at hx ex HP
            rw [hvf, hvt, hva] at ex FK
            simp only [hvf] at q1 g1
            simp only [hvt] at q2 g2 hx hx40
            simp only [hva] at q3 g3
            have HL : Hid (lift S U vf vt va = X) := hid ex.symm
            have JF : Hid (I64 vf) := by show I64 vf; unfold I64; omega
            have JT : Hid (I64 vt) := by show I64 vt; unfold I64; omega
            have JA : Hid (I64 va) := by show I64 va; unfold I64; omega
            have wf : IntKind.i64.wrap vf = vf := IntWalk.i64_in _ (by omega)
            have wt : IntKind.i64.wrap vt = vt := IntWalk.i64_in _ (by omega)
            have wa : IntKind.i64.wrap va = va := IntWalk.i64_in _ (by omega)
            have wx : IntKind.u8.wrap X = X := IntWalk.u8_in _ (by omega)
            clear hvf hvt hva hX ex
            have KS : Hid (∀ x', TQ w b (.slice (some ⟨b, off, none⟩) n c) (.int .i64 M) (fun j => F.getD j 0) (fun j => T.getD j 0) (fun j => A.getD j 0) (off + k * 2) (.slice sa sl sc) (.slice ua ul uc) x' → TQ w b (.slice (some ⟨b, off, none⟩) n c) (.int .i64 M) (fun j => F.getD j 0) (fun j => T.getD j 0) (fun j => A.getD j 0) (off + k * 2) (.slice sa sl sc) (.slice ua ul uc) x' ∧ x'.cell? ⟨w.heap.size, 0, none⟩ = some (.slice (some ⟨b, off, none⟩) n c) ∧ x'.cell? ⟨b, off + k * 2, none⟩ = some (.slice sa sl sc) ∧ x'.cell? ⟨b, off + k * 2 + 1, none⟩ = some (.slice ua ul uc) ∧ x'.cell? ⟨w.heap.size + 1, k, none⟩ = some (.int .u8 vf) ∧ x'.cell? ⟨w.heap.size + 2, k, none⟩ = some (.int .u8 vt) ∧ x'.cell? ⟨w.heap.size + 3, k, none⟩ = some (.int .u8 va)) :=
              hid fun x' h => ⟨h, (box_two h.1.2.1).1, h.2.1, h.2.2.1, (FK.out _ h).1, (FK.out _ h).2.1, (FK.out _ h).2.2⟩
            go_wp2
            go_region_held3 (fun x' => TQ w b (.slice (some ⟨b, off, none⟩) n c) (.int .i64 M) (fun j => F.getD j 0) (fun j => T.getD j 0) (fun j => A.getD j 0) (off + k * 2) (.slice sa sl sc) (.slice ua ul uc) x' ∧ x'.cell? ⟨w.heap.size, 0, none⟩ = some (.slice (some ⟨b, off, none⟩) n c) ∧ x'.cell? ⟨b, off + k * 2, none⟩ = some (.slice sa sl sc) ∧ x'.cell? ⟨b, off + k * 2 + 1, none⟩ = some (.slice ua ul uc) ∧ x'.cell? ⟨w.heap.size + 1, k, none⟩ = some (.int .u8 vf) ∧ x'.cell? ⟨w.heap.size + 2, k, none⟩ = some (.int .u8 vt) ∧ x'.cell? ⟨w.heap.size + 3, k, none⟩ = some (.int .u8 va))
              (first | assumption | exact kq_drew TQ0 tq_step KS | exact kq_step (by assumption) (by assumption) tq_step KS | exact kq_set (by assumption) (tq_set TW.out) KS)
              (first
                | (go_at_call 33; refine (rlift_m _ _ _ _ _ _ S U _ _ _ X _ (HDm.out.below ((Below.refl _ _).drew)) JF.out JT.out JA.out HL).mono ?_; rintro e w5 ⟨rfl, hb5⟩; have TX6 := hid (TX5.out.step (undrew hb5)); obtain ⟨qv, q4⟩ : ∃ v, w5.cell? ⟨P, k, none⟩ = some v := ⟨_, n5_at TX6.out.2.2 hk4'⟩; have f4 := frozen_of_row w5 P k _ _ TX6.out.2.2))
            clear KS FK TQ0
            go_wp2
            go_roundw
            case rel => exact ⟨k + 1, by omega, by go_num, hid (TX6.out.put (by omega) HP.out)⟩
            case measure => simp [intOf]; omega
          · obtain rfl : k = n := by omega
            obtain ⟨q0, q1, q2, q3, q4⟩ := n5_all TX5.out.2.2
            obtain ⟨r0, r1, r2, r3, r4⟩ := n5_all TX5.out.1.2
            obtain ⟨g0, g1, g2, g3, g4⟩ := froz5 TX5.out.1.2
            go_wp2
            obtain ⟨s0, s1, s2, s3, s4⟩ := n5_all (f := toZ ds F T A k) (n5_store TX5.out.1.2 (.int .u8 (toZ ds F T A k 0)) (.int .u8 (toZ ds F T A k 1)) (.int .u8 (toZ ds F T A k 2)) (.int .u8 (toZ ds F T A k 3)) (.bool true))
            refine bodyPost_ret (v := .agg (n5 (toZ ds F T A k) true)) (by simp [results, Try.results12, go_sem, s0, s1, s2, s3, s4, n5]) rfl ⟨?_, below5 TX5.out.1.1.1 (by omega) _ _ _ _ _⟩
            have hz : ∀ j, toZ ds F T A k j = toX ds F T A j := fun j => by
              unfold toZ
              by_cases hjk : j < k
              · rw [if_pos hjk]
              · rw [if_neg hjk, toX_out (by rw [← E1.out]; omega)]
            rw [HFE.out, HTE.out, HAE.out]
            unfold n5
            simp only [hz]

end Go.Proofs.Ytfgphphaopcolaa

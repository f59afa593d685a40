/-
  A catalog as lists: may it be, its numbers, and that they tell it: what is written is read in one way alone.
  Conditions: as each theorem states them.
-/
import Derived.Test.YtikgbcdmeikjfaaB
import Derived.Test.YtikgbcdmeikjfaaCC
namespace Go.Proofs.Ytikgbcdmeikjfaa
open Go.RowKit
set_option linter.unusedVariables false
set_option linter.unusedSimpArgs false
set_option maxRecDepth 100000

/-- A catalog's dimensions: each one's sizes and lists. -/
abbrev Dims := List (List Int × List (List Int))
def goodD (ds : Dims) : Bool := ds.all (fun d => good d.1 d.2)
/-- A catalog of these dimensions and so many measures may be. -/
def goodC (ds : Dims) (M : Int) : Bool := decide (1 ≤ ds.length ∧ ds.length ≤ 4 ∧ 1 ≤ M ∧ M ≤ 2) && goodD ds
/-- The numbers of a dimension, of a catalog. -/
def numsD (d : List Int × List (List Int)) : List Int := (d.1.length : Int) :: (d.1 ++ d.2.flatten)
def nums (ds : Dims) (M : Int) : List Int := M :: (ds.length : Int) :: ds.flatMap numsD
/-- The bytes of a catalog. -/
def bytesC (ds : Dims) (M : Int) : List Int := if goodC ds M then (nums ds M).flatMap code.digs else []

theorem goodC_p {ds : Dims} {M : Int} (h : goodC ds M = true) : 1 ≤ ds.length ∧ ds.length ≤ 4 ∧ 1 ≤ M ∧ M ≤ 2 ∧ ∀ d ∈ ds, good d.1 d.2 = true := by
  unfold goodC at h
  rw [Bool.and_eq_true] at h
  obtain ⟨a, b, c, d⟩ := of_decide_eq_true h.1
  exact ⟨a, b, c, d, List.all_eq_true.mp h.2⟩

/-! One way alone. -/
theorem app_len {α : Type} {a b r s : List α} (h : a ++ r = b ++ s) (hl : a.length = b.length) : a = b ∧ r = s := List.append_inj h hl
theorem flatten_inj {U V : List (List Int)} {r s : List Int} (hl : U.length = V.length) (hr : ∀ k, k < U.length → (U.getD k []).length = (V.getD k []).length) (h : U.flatten ++ r = V.flatten ++ s) : U = V ∧ r = s := by
  induction U generalizing V with
  | nil =>
    cases V with
    | nil => exact ⟨rfl, by simpa using h⟩
    | cons v V => simp at hl
  | cons u U ih =>
    cases V with
    | nil => simp at hl
    | cons v V =>
      have h0 := hr 0 (by simp)
      simp only [List.getD_cons_zero] at h0
      rw [List.flatten_cons, List.flatten_cons, List.append_assoc, List.append_assoc] at h
      obtain ⟨rfl, h'⟩ := app_len h h0
      obtain ⟨rfl, e⟩ := ih (by simpa using hl) (fun k hk => by have := hr (k + 1) (by simpa using hk); simpa using this) h'
      exact ⟨rfl, e⟩
theorem numsD_inj {d e : List Int × List (List Int)} {r s : List Int} (hd : good d.1 d.2 = true) (he : good e.1 e.2 = true) (h : numsD d ++ r = numsD e ++ s) : d = e ∧ r = s := by
  obtain ⟨S, U⟩ := d
  obtain ⟨T, V⟩ := e
  simp only at hd he
  unfold numsD at h
  simp only [List.cons_append, List.cons.injEq] at h
  obtain ⟨h0, h1⟩ := h
  rw [List.append_assoc, List.append_assoc] at h1
  obtain ⟨rfl, h2⟩ := app_len h1 (by omega)
  have g1 := good_p hd
  have g2 := good_p he
  have hl : U.length = V.length := by have := g1.2.2.1; have := g2.2.2.1; omega
  obtain ⟨rfl, h3⟩ := flatten_inj hl (fun k hk => by have a := (g1.2.2.2.2 k hk).1; have b := (g2.2.2.2.2 k (by omega)).1; omega) h2
  exact ⟨rfl, h3⟩
theorem dims_inj {ds es : Dims} {r s : List Int} (hl : ds.length = es.length) (hd : ∀ d ∈ ds, good d.1 d.2 = true) (he : ∀ d ∈ es, good d.1 d.2 = true) (h : ds.flatMap numsD ++ r = es.flatMap numsD ++ s) : ds = es ∧ r = s := by
  induction ds generalizing es with
  | nil =>
    cases es with
    | nil => exact ⟨rfl, by simpa using h⟩
    | cons e es => simp at hl
  | cons d ds ih =>
    cases es with
    | nil => simp at hl
    | cons e es =>
      rw [List.flatMap_cons, List.flatMap_cons, List.append_assoc, List.append_assoc] at h
      obtain ⟨rfl, h'⟩ := numsD_inj (hd d (by simp)) (he e (by simp)) h
      obtain ⟨rfl, e'⟩ := ih (by simpa using hl) (fun x hx => hd x (by simp [hx])) (fun x hx => he x (by simp [hx])) h'
      exact ⟨rfl, e'⟩
theorem nums_inj {ds es : Dims} {M N : Int} {r s : List Int} (hd : goodC ds M = true) (he : goodC es N = true) (h : nums ds M ++ r = nums es N ++ s) : ds = es ∧ M = N ∧ r = s := by
  unfold nums at h
  simp only [List.cons_append, List.cons.injEq] at h
  obtain ⟨h0, h1, h2⟩ := h
  obtain ⟨rfl, e⟩ := dims_inj (by omega) (goodC_p hd).2.2.2.2 (goodC_p he).2.2.2.2 h2
  exact ⟨rfl, h0, e⟩

/-! Numbers that are small. -/
theorem getD_le {l : List Int} {c : Int} (h : ∀ x ∈ l, 0 ≤ x ∧ x ≤ c) : ∀ x ∈ l, 0 ≤ x ∧ x ≤ c := h
theorem numsD_small {d : List Int × List (List Int)} (h : good d.1 d.2 = true) : ∀ x ∈ numsD d, 0 ≤ x ∧ x ≤ 40 := by
  obtain ⟨S, U⟩ := d
  replace h : good S U = true := h
  have g := good_p h
  intro x hx
  unfold numsD at hx
  simp only [List.mem_cons, List.mem_append, List.mem_flatten] at hx
  rcases hx with rfl | hx | ⟨l, hl, hx⟩
  · have := g.1; have := g.2.1; omega
  · have := g.2.2.2.1 x hx; omega
  · obtain ⟨k, hk, rfl⟩ := List.getElem_of_mem hl
    have e : U.getD k [] = U[k] := by simp [List.getD_eq_getElem?_getD, List.getElem?_eq_getElem hk]
    have b := (g.2.2.2.2 k hk).2 x (by rw [e]; exact hx)
    have c := sizes_bd h (k := k + 1) (by have := g.2.2.1; omega)
    omega
theorem nums_small {ds : Dims} {M : Int} (h : goodC ds M = true) : ∀ x ∈ nums ds M, 0 ≤ x ∧ x ≤ 40 := by
  have g := goodC_p h
  intro x hx
  unfold nums at hx
  simp only [List.mem_cons, List.mem_flatMap] at hx
  rcases hx with rfl | rfl | ⟨d, hd, hx⟩
  · omega
  · omega
  · exact numsD_small (g.2.2.2.2 d hd) x hx
/-- A small number is one byte. -/
theorem digs_small {u : Int} (h : u < 128) : code.digs u = [u] := code.digF_stop h
theorem flat_small {l : List Int} (h : ∀ x ∈ l, 0 ≤ x ∧ x ≤ 40) : l.flatMap code.digs = l := by
  induction l with
  | nil => rfl
  | cons x r ih =>
    rw [List.flatMap_cons, ih (fun y hy => h y (by simp [hy])), digs_small (by have := h x (by simp); omega)]
    rfl
/-- So a catalog's bytes are its numbers. -/
theorem bytesC_nums {ds : Dims} {M : Int} (h : goodC ds M = true) : bytesC ds M = nums ds M := by
  unfold bytesC; rw [if_pos h, flat_small (nums_small h)]
theorem bytesC_bad {ds : Dims} {M : Int} (h : goodC ds M = false) : bytesC ds M = [] := by
  unfold bytesC; rw [h]; rfl
theorem bytesC_inj {ds es : Dims} {M N : Int} {r s : List Int} (hd : goodC ds M = true) (he : goodC es N = true) (h : bytesC ds M ++ r = bytesC es N ++ s) : ds = es ∧ M = N ∧ r = s := by
  rw [bytesC_nums hd, bytesC_nums he] at h
  exact nums_inj hd he h
/-- Bytes are those of a catalog that may be. -/
def IsCat (b : List Int) : Prop := ∃ ds M, goodC ds M = true ∧ nums ds M = b
theorem more_none {ds : Dims} {M : Int} (hd : goodC ds M = true) (x : Int) : ¬ IsCat (nums ds M ++ [x]) := by
  rintro ⟨es, N, he, h⟩
  have := nums_inj (r := [x]) (s := []) hd he (by rw [List.append_nil]; exact h.symm)
  simp at this
theorem less_none {ds : Dims} {M : Int} (hd : goodC ds M = true) : ¬ IsCat ((nums ds M).take ((nums ds M).length - 1)) := by
  rintro ⟨es, N, he, h⟩
  have hne : nums ds M ≠ [] := by unfold nums; simp
  have e : nums es N ++ (nums ds M).drop ((nums ds M).length - 1) = nums ds M := by rw [h]; exact List.take_append_drop _ _
  have := nums_inj (r := (nums ds M).drop ((nums ds M).length - 1)) (s := []) he hd (by rw [e, List.append_nil])
  have h3 := congrArg List.length this.2.2
  rw [List.length_drop] at h3
  have : 0 < (nums ds M).length := List.length_pos_iff.mpr hne
  simp at h3
  omega
/-- The first number of nobody: bytes that are none have none. -/
theorem nil_none : ¬ IsCat [] := by
  rintro ⟨ds, M, _, h⟩
  unfold nums at h
  cases h
theorem flatten_len {U : List (List Int)} (h : ∀ l ∈ U, l.length ≤ 40) : U.flatten.length ≤ 40 * U.length := by
  induction U with
  | nil => simp
  | cons u U ih =>
    have h0 := h u (by simp)
    have h1 := ih (fun l hl => h l (by simp [hl]))
    rw [List.flatten_cons, List.length_append, List.length_cons]
    omega
theorem numsD_len {d : List Int × List (List Int)} (h : good d.1 d.2 = true) : (numsD d).length ≤ 125 := by
  obtain ⟨S, U⟩ := d
  replace h : good S U = true := h
  have g := good_p h
  have h1 : U.flatten.length ≤ 40 * U.length := flatten_len (fun l hl => by
    obtain ⟨k, hk, rfl⟩ := List.getElem_of_mem hl
    have e : U.getD k [] = U[k] := by simp [List.getD_eq_getElem?_getD, List.getElem?_eq_getElem hk]
    have a := (g.2.2.2.2 k hk).1
    rw [e] at a
    have c := sizes_bd h (k := k) (by have := g.2.2.1; omega)
    omega)
  show ((S.length : Int) :: (S ++ U.flatten)).length ≤ 125
  rw [List.length_cons, List.length_append]
  have := g.2.1; have := g.2.2.1
  omega
theorem nums_len {ds : Dims} {M : Int} (h : goodC ds M = true) : 2 ≤ (nums ds M).length ∧ (nums ds M).length ≤ 502 := by
  have g := goodC_p h
  have key : ∀ es : Dims, (∀ d ∈ es, good d.1 d.2 = true) → (es.flatMap numsD).length ≤ 125 * es.length := by
    intro es
    induction es with
    | nil => intro _; simp
    | cons e es ih =>
      intro he
      have h0 := numsD_len (he e (by simp))
      have h1 := ih (fun d hd => he d (by simp [hd]))
      rw [List.flatMap_cons, List.length_append, List.length_cons]
      omega
  have := key ds g.2.2.2.2
  unfold nums
  rw [List.length_cons, List.length_cons]
  omega

end Go.Proofs.Ytikgbcdmeikjfaa

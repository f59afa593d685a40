/-
  -
  -
  -
  -
  -
  -
  -
  -
  Conditions: as each theorem states them.
-/
import Derived.Laws.Bits128
import Derived.Test.YtjkkajhjcinalaaRows
import Derived.Test.YtjkkajhjcinalaaQAB
namespace Go.Proofs.Ytjkkajhjcinalaa
open Go.RowKit
set_option linter.unusedVariables false
set_option linter.unusedSimpArgs false
set_option maxRecDepth 100000

/-- A run: a value, how often. -/
abbrev Rn := Int × Int
def tot : List Rn → Int | [] => 0 | r :: l => r.2 + tot l
def ltR (a b : Rn) : Prop := a.1 < b.1
def Srt (l : List Rn) : Prop := l.Pairwise ltR
def Pos (l : List Rn) : Prop := ∀ r ∈ l, 1 ≤ r.2
/-- May it be a bag? -/
def Bag (l : List Rn) : Prop := Srt l ∧ Pos l ∧ tot l ≤ 1099511627776
/-- .. as a truth. -/
def gd (l : List Rn) : Bool := decide (l.Pairwise (fun a b => a.1 < b.1) ∧ (∀ r ∈ l, 1 ≤ r.2) ∧ tot l ≤ 1099511627776)
theorem gd_yes {l : List Rn} (h : Bag l) : gd l = true := by unfold gd; rw [decide_eq_true_iff]; exact h
theorem gd_no {l : List Rn} (h : ¬ Bag l) : gd l = false := by unfold gd; rw [decide_eq_false_iff_not]; exact h
theorem gd_iff {l : List Rn} : gd l = true ↔ Bag l := ⟨fun h => by unfold gd at h; rw [decide_eq_true_iff] at h; exact h, gd_yes⟩
theorem tot_app (l m : List Rn) : tot (l ++ m) = tot l + tot m := by
  induction l with
  | nil => simp [tot]
  | cons r l ih => simp only [List.cons_append, tot, ih]; omega
theorem tot_nn {l : List Rn} (h : Pos l) : 0 ≤ tot l := by
  induction l with
  | nil => exact Int.le_refl _
  | cons r l ih =>
    have := h r (by simp)
    have := ih (fun q hq => h q (by simp [hq]))
    simp only [tot]; omega
theorem tot_take {l : List Rn} (h : Pos l) (k : Nat) : tot (l.take k) ≤ tot l := by
  have := tot_app (l.take k) (l.drop k); rw [List.take_append_drop] at this
  have := tot_nn (l := l.drop k) (fun q hq => h q (List.mem_of_mem_drop hq)); omega
theorem take_one {α : Type} {l : List α} {k : Nat} {r : α} (h : l[k]? = some r) : l.take (k + 1) = l.take k ++ [r] := by
  rw [List.take_add_one, h]; rfl
theorem tot_step {l : List Rn} {k : Nat} {r : Rn} (h : l[k]? = some r) : tot (l.take (k + 1)) = tot (l.take k) + r.2 := by
  rw [take_one h, tot_app]; simp [tot]
theorem bag_nil : Bag [] := ⟨List.Pairwise.nil, fun r hr => by simp at hr, by decide⟩
theorem bag_take {l : List Rn} (h : Bag l) (k : Nat) : Bag (l.take k) :=
  ⟨List.Pairwise.sublist (List.take_sublist k l) h.1, fun r hr => h.2.1 r (List.mem_of_mem_take hr), Int.le_trans (tot_take h.2.1 k) h.2.2⟩
theorem bag_drop {l : List Rn} (h : Bag l) (k : Nat) : Bag (l.drop k) := by
  refine ⟨List.Pairwise.sublist (List.drop_sublist k l) h.1, fun r hr => h.2.1 r (List.mem_of_mem_drop hr), ?_⟩
  have := tot_app (l.take k) (l.drop k); rw [List.take_append_drop] at this
  have := tot_nn (l := l.take k) (fun q hq => h.2.1 q (List.mem_of_mem_take hq))
  have := h.2.2
  omega
theorem srt_get {l : List Rn} (h : Srt l) {i j : Nat} {a b : Rn} (hi : l[i]? = some a) (hj : l[j]? = some b) (hij : i < j) : a.1 < b.1 := by
  obtain ⟨h1, rfl⟩ := List.getElem?_eq_some_iff.1 hi
  obtain ⟨h2, rfl⟩ := List.getElem?_eq_some_iff.1 hj
  exact List.pairwise_iff_getElem.mp h i j h1 h2 hij
theorem srt_snoc {l : List Rn} {r : Rn} (h : Srt l) (hr : ∀ x ∈ l, x.1 < r.1) : Srt (l ++ [r]) := by
  refine List.pairwise_append.2 ⟨h, List.pairwise_singleton _ _, fun x hx y hy => ?_⟩
  simp at hy; subst hy
  exact hr x hx
/-- One run more. -/
theorem bag_step {l : List Rn} {k : Nat} {r : Rn} (h : Bag (l.take k)) (hr : l[k]? = some r) (h1 : ∀ q, l[k - 1]? = some q → 0 < k → q.1 < r.1) (h2 : 1 ≤ r.2) (h3 : r.2 ≤ 1099511627776 - tot (l.take k)) : Bag (l.take (k + 1)) := by
  refine ⟨?_, ?_, ?_⟩
  · rw [take_one hr]
    refine srt_snoc h.1 (fun x hx => ?_)
    obtain ⟨i, hi⟩ := List.mem_iff_getElem?.1 hx
    rw [List.getElem?_take] at hi
    by_cases hik : i < k
    · rw [if_pos hik] at hi
      have hlt : k - 1 < l.length := by have := (List.getElem?_eq_some_iff.1 hr).1; omega
      have hq := List.getElem?_eq_getElem hlt
      have hqr := h1 _ hq (by omega)
      by_cases he : i = k - 1
      · subst he; rw [hi] at hq; cases hq; exact hqr
      · have : x.1 < (l[k - 1]).1 := srt_get h.1 (i := i) (j := k - 1) (by rw [List.getElem?_take, if_pos hik]; exact hi) (by rw [List.getElem?_take, if_pos (by omega)]; exact hq) (by omega)
        exact Int.lt_trans this hqr
    · rw [if_neg hik] at hi; cases hi
  · rw [take_one hr]
    intro x hx
    rcases List.mem_append.1 hx with hx | hx
    · exact h.2.1 x hx
    · simp at hx; subst hx; exact h2
  · rw [tot_step hr]; omega
/-- What a bag asks of each run. -/
theorem bag_at {l : List Rn} {k : Nat} {r : Rn} (h : Bag l) (hr : l[k]? = some r) : (∀ q, l[k - 1]? = some q → 0 < k → q.1 < r.1) ∧ 1 ≤ r.2 ∧ r.2 ≤ 1099511627776 - tot (l.take k) ∧ 0 ≤ tot (l.take k) ∧ tot (l.take k) ≤ 1099511627776 := by
  have hb := bag_take h (k + 1)
  have h0 := bag_take h k
  refine ⟨fun q hq hk => srt_get h.1 hq hr (by omega), h.2.1 r (List.mem_of_getElem? hr), ?_, tot_nn h0.2.1, h0.2.2⟩
  have := hb.2.2
  rw [tot_step hr] at this; omega

/-- How often. -/
def cn (v : Int) : List Rn → Int | [] => 0 | r :: l => (if r.1 = v then r.2 else 0) + cn v l
theorem cn_app (v : Int) (l m : List Rn) : cn v (l ++ m) = cn v l + cn v m := by
  induction l with
  | nil => simp [cn]
  | cons r l ih => simp only [List.cons_append, cn, ih]; omega
theorem cn_none {v : Int} {l : List Rn} (h : ∀ r ∈ l, ¬ r.1 = v) : cn v l = 0 := by
  induction l with
  | nil => rfl
  | cons r l ih =>
    simp only [cn, if_neg (h r (by simp)), ih (fun q hq => h q (by simp [hq]))]; omega
theorem cn_nn {v : Int} {l : List Rn} (h : Pos l) : 0 ≤ cn v l := by
  induction l with
  | nil => exact Int.le_refl _
  | cons r l ih =>
    have := h r (by simp)
    have := ih (fun q hq => h q (by simp [hq]))
    simp only [cn]; split <;> omega
theorem cn_le {v : Int} {l : List Rn} (h : Pos l) : cn v l ≤ tot l := by
  induction l with
  | nil => exact Int.le_refl _
  | cons r l ih =>
    have := h r (by simp)
    have := ih (fun q hq => h q (by simp [hq]))
    simp only [cn, tot]; split <;> omega
theorem cn_at {l : List Rn} (h : Srt l) {k : Nat} {r : Rn} (hr : l[k]? = some r) : cn r.1 l = r.2 := by
  induction l generalizing k with
  | nil => simp at hr
  | cons q l ih =>
    rw [Srt, List.pairwise_cons] at h
    cases k with
    | zero =>
      simp at hr; subst hr
      simp only [cn, if_pos]
      rw [cn_none (fun x hx e => by have := h.1 x hx; unfold ltR at this; omega)]; omega
    | succ k =>
      simp at hr
      have := h.1 r (List.mem_of_getElem? hr)
      unfold ltR at this
      simp only [cn]
      rw [if_neg (by omega), ih h.2 hr]; omega
theorem cn_gt {l : List Rn} {v : Int} (h : ∀ r ∈ l, v < r.1) : cn v l = 0 := cn_none (fun r hr e => by have := h r hr; omega)
theorem cn_pos_mem {v : Int} {l : List Rn} (h : cn v l ≠ 0) : ∃ r ∈ l, r.1 = v := by
  by_cases hh : ∃ r ∈ l, r.1 = v
  · exact hh
  · exact absurd (cn_none (fun r hr e => hh ⟨r, hr, e⟩)) h
/-- Two rising lists of runs, none of none, are alike if each value is there as often. -/
def Nz (l : List Rn) : Prop := ∀ r ∈ l, ¬ r.2 = 0
theorem pos_nz {l : List Rn} (h : Pos l) : Nz l := fun r hr e => by have := h r hr; omega
theorem runs_ext {l m : List Rn} (hl : Srt l) (zl : Nz l) (hm : Srt m) (zm : Nz m) (h : ∀ v, cn v l = cn v m) : l = m := by
  induction l generalizing m with
  | nil =>
    cases m with
    | nil => rfl
    | cons y m =>
      exfalso
      have := cn_at hm (k := 0) (r := y) rfl
      rw [← h] at this
      exact zm y (by simp) this.symm
  | cons x l ih =>
    cases m with
    | nil =>
      exfalso
      have := cn_at hl (k := 0) (r := x) rfl
      rw [h] at this
      exact zl x (by simp) this.symm
    | cons y m =>
      have hl' := hl
      have hm' := hm
      rw [Srt, List.pairwise_cons] at hl' hm'
      have ex := cn_at hl (k := 0) (r := x) rfl
      have ey := cn_at hm (k := 0) (r := y) rfl
      have nx := zl x (by simp)
      have ny := zm y (by simp)
      have e1 : x.1 = y.1 := by
        by_cases h1 : x.1 < y.1
        · exfalso
          have h2 := h x.1
          have h3 : cn x.1 (y :: m) = 0 := cn_gt (fun r hr => by
            rcases List.mem_cons.1 hr with rfl | hr
            · exact h1
            · have := hm'.1 r hr; unfold ltR at this; omega)
          rw [ex, h3] at h2
          exact nx h2
        · by_cases h2 : y.1 < x.1
          · exfalso
            have h4 := h y.1
            have h3 : cn y.1 (x :: l) = 0 := cn_gt (fun r hr => by
              rcases List.mem_cons.1 hr with rfl | hr
              · exact h2
              · have := hl'.1 r hr; unfold ltR at this; omega)
            rw [ey, h3] at h4
            exact ny h4.symm
          · omega
      have e2 : x.2 = y.2 := by
        have := h x.1
        rw [ex, e1, ey] at this
        exact this
      have exy : x = y := Prod.ext e1 e2
      subst exy
      congr 1
      refine ih hl'.2 (fun r hr => zl r (by simp [hr])) hm'.2 (fun r hr => zm r (by simp [hr])) (fun v => ?_)
      have := h v
      simp only [cn] at this
      omega

/-- A value, so often more (or less), in its order. -/
def lay (v n : Int) : List Rn → List Rn
  | [] => [(v, n)]
  | x :: l => if x.1 < v then x :: lay v n l else if v < x.1 then (v, n) :: x :: l else if x.2 + n = 0 then l else (x.1, x.2 + n) :: l
theorem lay_cn (v n : Int) (l : List Rn) (u : Int) : cn u (lay v n l) = cn u l + (if u = v then n else 0) := by
  induction l with
  | nil => simp only [lay, cn]; split <;> split <;> omega
  | cons x l ih =>
    simp only [lay]
    split
    · simp only [cn, ih]; omega
    · split
      · simp only [cn]; split <;> split <;> split <;> omega
      · split
        · simp only [cn]; split <;> split <;> omega
        · simp only [cn]; split <;> split <;> omega
theorem lay_mem {v n : Int} {l : List Rn} {r : Rn} (h : r ∈ lay v n l) : r.1 = v ∨ r ∈ l := by
  induction l with
  | nil => simp [lay] at h; left; rw [h]
  | cons x l ih =>
    simp only [lay] at h
    split at h
    · rcases List.mem_cons.1 h with rfl | h
      · right; simp
      · rcases ih h with h | h
        · left; exact h
        · right; simp [h]
    · split at h
      · rcases List.mem_cons.1 h with rfl | h
        · left; rfl
        · right; exact h
      · split at h
        · right; simp [h]
        · rcases List.mem_cons.1 h with rfl | h
          · left; show x.1 = v; omega
          · right; simp [h]
theorem lay_srt {v n : Int} {l : List Rn} (h : Srt l) : Srt (lay v n l) := by
  induction l with
  | nil => exact List.pairwise_singleton _ _
  | cons x l ih =>
    have h' := h
    rw [Srt, List.pairwise_cons] at h'
    simp only [lay]
    split
    · rename_i hx
      rw [Srt, List.pairwise_cons]
      refine ⟨fun r hr => ?_, ih h'.2⟩
      rcases lay_mem hr with e | hr
      · unfold ltR; omega
      · exact h'.1 r hr
    · split
      · rename_i hx
        rw [Srt, List.pairwise_cons]
        refine ⟨fun r hr => ?_, h⟩
        rcases List.mem_cons.1 hr with rfl | hr
        · exact hx
        · have := h'.1 r hr; unfold ltR at *; exact Int.lt_trans hx this
      · split
        · exact h'.2
        · rw [Srt, List.pairwise_cons]
          exact ⟨fun r hr => h'.1 r hr, h'.2⟩
theorem lay_nz {v n : Int} {l : List Rn} (h : Nz l) (hn : ¬ n = 0) : Nz (lay v n l) := by
  induction l with
  | nil => intro r hr; simp [lay] at hr; subst hr; exact hn
  | cons x l ih =>
    have h0 := h x (by simp)
    have h1 : Nz l := fun r hr => h r (by simp [hr])
    simp only [lay]
    split
    · intro r hr
      rcases List.mem_cons.1 hr with rfl | hr
      · exact h0
      · exact ih h1 r hr
    · split
      · intro r hr
        rcases List.mem_cons.1 hr with rfl | hr
        · exact hn
        · exact h r hr
      · split
        · exact h1
        · rename_i hz
          intro r hr
          rcases List.mem_cons.1 hr with rfl | hr
          · exact hz
          · exact h1 r hr
/-- .. and as the document's loop goes on. -/
theorem lay_low {v n : Int} {l : List Rn} (h : ∀ r ∈ l, r.1 < v) : lay v n l = l ++ [(v, n)] := by
  induction l with
  | nil => rfl
  | cons x l ih =>
    simp only [lay, if_pos (h x (by simp)), ih (fun r hr => h r (by simp [hr])), List.cons_append]
theorem lay_snoc {v n : Int} {l : List Rn} {x : Rn} (h : ∃ r ∈ l, v ≤ r.1) : lay v n (l ++ [x]) = lay v n l ++ [x] := by
  induction l with
  | nil => obtain ⟨r, hr, _⟩ := h; cases hr
  | cons y l ih =>
    simp only [List.cons_append, lay]
    split
    · rename_i hy
      rw [ih (by
        obtain ⟨r, hr, hv⟩ := h
        rcases List.mem_cons.1 hr with rfl | hr
        · omega
        · exact ⟨r, hr, hv⟩)]
      rfl
    · split
      · rfl
      · split <;> rfl
theorem lay_above {v n : Int} {l : List Rn} {x : Rn} (h : ∀ r ∈ l, r.1 < v) (hx : v < x.1) : lay v n (l ++ [x]) = l ++ [(v, n)] ++ [x] := by
  induction l with
  | nil => simp only [List.nil_append, lay]; rw [if_neg (by omega), if_pos hx]; rfl
  | cons y l ih =>
    simp only [List.cons_append, lay, if_pos (h y (by simp)), ih (fun r hr => h r (by simp [hr]))]
theorem lay_here {v n : Int} {l : List Rn} {x : Rn} (h : ∀ r ∈ l, r.1 < v) (hx : x.1 = v) : lay v n (l ++ [x]) = if x.2 + n = 0 then l else l ++ [(x.1, x.2 + n)] := by
  induction l with
  | nil => simp only [List.nil_append, lay]; rw [if_neg (by omega), if_neg (by omega)]
  | cons y l ih =>
    simp only [List.cons_append, lay, if_pos (h y (by simp)), ih (fun r hr => h r (by simp [hr]))]
    split <;> rfl
theorem lay_len {v n : Int} {l : List Rn} : (lay v n l).length ≤ l.length + 1 := by
  induction l with
  | nil => exact Nat.le_refl _
  | cons x l ih =>
    simp only [lay]
    split
    · simp; omega
    · split
      · simp
      · split
        · simp; omega
        · simp

/-- What all come to. -/
def wsum : List Rn → Int | [] => 0 | r :: l => r.1 * r.2 + wsum l
theorem wsum_app (l m : List Rn) : wsum (l ++ m) = wsum l + wsum m := by
  induction l with
  | nil => simp [wsum]
  | cons r l ih => simp only [List.cons_append, wsum, ih]; omega
theorem wsum_step {l : List Rn} {k : Nat} {r : Rn} (h : l[k]? = some r) : wsum (l.take (k + 1)) = wsum (l.take k) + r.1 * r.2 := by
  rw [take_one h, wsum_app]; simp [wsum]
theorem mul_bdd {a b : Int} (ha : -9223372036854775808 ≤ a ∧ a ≤ 9223372036854775807) (hb : 0 ≤ b) : -9223372036854775808 * b ≤ a * b ∧ a * b ≤ 9223372036854775808 * b :=
  ⟨Int.mul_le_mul_of_nonneg_right ha.1 hb, Int.mul_le_mul_of_nonneg_right (by omega) hb⟩
theorem wsum_bd {l : List Rn} (h : ∀ r ∈ l, I64 r.1) (hp : Pos l) : -9223372036854775808 * tot l ≤ wsum l ∧ wsum l ≤ 9223372036854775808 * tot l := by
  induction l with
  | nil => simp [wsum, tot]
  | cons r l ih =>
    have h1 := ih (fun q hq => h q (by simp [hq])) (fun q hq => hp q (by simp [hq]))
    have h2 := mul_bdd (h r (by simp)) (b := r.2) (by have := hp r (by simp); omega)
    simp only [wsum, tot]
    omega
theorem wsum_lay (v n : Int) (l : List Rn) : wsum (lay v n l) = wsum l + v * n := by
  induction l with
  | nil => simp [lay, wsum]
  | cons x l ih =>
    simp only [lay]
    split
    · simp only [wsum, ih]; omega
    · split
      · simp only [wsum]; omega
      · have e : x.1 = v := by omega
        split
        · rename_i hz
          have : x.1 * x.2 + v * n = 0 := by rw [e, ← Int.mul_add, hz, Int.mul_zero]
          simp only [wsum]; omega
        · have : x.1 * (x.2 + n) = x.1 * x.2 + v * n := by rw [Int.mul_add, e]
          simp only [wsum]; omega

/-- The bag of values, as the document has it: one laid behind the other. -/
def ofl : List Rn → List Int → List Rn | b, [] => b | b, x :: l => ofl (lay x 1 b) l
def bagOf (l : List Int) : List Rn := ofl [] l
theorem ofl_app (b : List Rn) (l m : List Int) : ofl b (l ++ m) = ofl (ofl b l) m := by
  induction l generalizing b with
  | nil => rfl
  | cons x l ih => exact ih _
theorem bagOf_step {l : List Int} {k : Nat} {x : Int} (h : l[k]? = some x) : bagOf (l.take (k + 1)) = lay x 1 (bagOf (l.take k)) := by
  unfold bagOf; rw [take_one h, ofl_app]; rfl
/-- How often a value stands in a list. -/
def oc (v : Int) : List Int → Int | [] => 0 | x :: l => (if x = v then 1 else 0) + oc v l
theorem oc_perm (v : Int) {l m : List Int} (h : l.Perm m) : oc v l = oc v m := by
  induction h with
  | nil => rfl
  | cons a _ ih => simp only [oc, ih]
  | swap a b l => simp only [oc]; omega
  | trans _ _ h1 h2 => exact h1.trans h2
theorem ofl_cn (b : List Rn) (l : List Int) (v : Int) : cn v (ofl b l) = cn v b + oc v l := by
  induction l generalizing b with
  | nil => simp [ofl, oc]
  | cons x l ih => simp only [ofl, ih, lay_cn, oc]; split <;> split <;> omega
theorem lay_pos {v n : Int} {l : List Rn} (h : Pos l) (hn : 1 ≤ n) : Pos (lay v n l) := by
  induction l with
  | nil => intro r hr; simp [lay] at hr; subst hr; exact hn
  | cons x l ih =>
    have h0 := h x (by simp)
    have h1 : Pos l := fun r hr => h r (by simp [hr])
    simp only [lay]
    split
    · intro r hr
      rcases List.mem_cons.1 hr with rfl | hr
      · exact h0
      · exact ih h1 r hr
    · split
      · intro r hr
        rcases List.mem_cons.1 hr with rfl | hr
        · exact hn
        · exact h r hr
      · split
        · exact h1
        · intro r hr
          rcases List.mem_cons.1 hr with rfl | hr
          · show 1 ≤ x.2 + n; omega
          · exact h1 r hr
theorem lay_tot {v n : Int} {l : List Rn} : tot (lay v n l) = tot l + n := by
  induction l with
  | nil => simp [lay, tot]
  | cons x l ih =>
    simp only [lay]
    split
    · simp only [tot, ih]; omega
    · split
      · simp only [tot]; omega
      · split
        · simp only [tot]; omega
        · simp only [tot]; omega
theorem ofl_srt {b : List Rn} (h : Srt b) (l : List Int) : Srt (ofl b l) := by
  induction l generalizing b with
  | nil => exact h
  | cons x l ih => exact ih (lay_srt h)
theorem ofl_pos {b : List Rn} (h : Pos b) (l : List Int) : Pos (ofl b l) := by
  induction l generalizing b with
  | nil => exact h
  | cons x l ih => exact ih (lay_pos h (by omega))
theorem ofl_tot (b : List Rn) (l : List Int) : tot (ofl b l) = tot b + l.length := by
  induction l generalizing b with
  | nil => simp [ofl]
  | cons x l ih => simp only [ofl, ih, lay_tot, List.length_cons]; omega
theorem ofl_len (b : List Rn) (l : List Int) : (ofl b l).length ≤ b.length + l.length := by
  induction l generalizing b with
  | nil => simp [ofl]
  | cons x l ih => have := ih (lay x 1 b); have := lay_len (v := x) (n := 1) (l := b); simp only [ofl, List.length_cons]; omega
theorem pos_nil : Pos [] := fun r hr => by simp at hr
theorem srt_nil : Srt [] := List.Pairwise.nil
theorem bagOf_srt (l : List Int) : Srt (bagOf l) := ofl_srt srt_nil l
theorem bagOf_pos (l : List Int) : Pos (bagOf l) := ofl_pos pos_nil l
theorem bagOf_cn (l : List Int) (v : Int) : cn v (bagOf l) = oc v l := by unfold bagOf; rw [ofl_cn]; simp [cn]
theorem bagOf_tot (l : List Int) : tot (bagOf l) = l.length := by unfold bagOf; rw [ofl_tot]; simp [tot]
theorem bagOf_len (l : List Int) : (bagOf l).length ≤ l.length := by have := ofl_len [] l; simpa [bagOf] using this
theorem ofl_mem {b : List Rn} {l : List Int} {r : Rn} (h : r ∈ ofl b l) : (∃ q ∈ b, q.1 = r.1) ∨ r.1 ∈ l := by
  induction l generalizing b with
  | nil => left; exact ⟨r, h, rfl⟩
  | cons x l ih =>
    rcases ih h with ⟨q, hq, e⟩ | h
    · rcases lay_mem hq with e' | hq
      · right; rw [← e, e']; simp
      · left; exact ⟨q, hq, e⟩
    · right; simp [h]
theorem bagOf_mem {l : List Int} {r : Rn} (h : r ∈ bagOf l) : r.1 ∈ l := by
  rcases ofl_mem h with ⟨q, hq, _⟩ | h
  · cases hq
  · exact h
/-- Whatever list of runs rises, has none of none, and each value as often: it is the bag of the values. -/
theorem bagOf_is {l : List Int} {m : List Rn} (hs : Srt m) (hz : Nz m) (h : ∀ v, cn v m = oc v l) : m = bagOf l :=
  runs_ext hs hz (bagOf_srt l) (pos_nz (bagOf_pos l)) (fun v => by rw [h, bagOf_cn])
theorem bagOf_perm {l m : List Int} (h : l.Perm m) : bagOf l = bagOf m :=
  bagOf_is (bagOf_srt l) (pos_nz (bagOf_pos l)) (fun v => by rw [bagOf_cn, oc_perm v h])

/-- Both together, as the document has it. -/
def jnl : List Rn → List Rn → List Rn | a, [] => a | a, r :: b => jnl (lay r.1 r.2 a) b
theorem jnl_app (a b c : List Rn) : jnl a (b ++ c) = jnl (jnl a b) c := by
  induction b generalizing a with
  | nil => rfl
  | cons x l ih => exact ih _
theorem jnl_step {a b : List Rn} {k : Nat} {r : Rn} (h : b[k]? = some r) : jnl a (b.take (k + 1)) = lay r.1 r.2 (jnl a (b.take k)) := by
  rw [take_one h, jnl_app]; rfl
theorem jnl_cn (a b : List Rn) (v : Int) : cn v (jnl a b) = cn v a + cn v b := by
  induction b generalizing a with
  | nil => simp [jnl, cn]
  | cons x l ih => simp only [jnl, ih, lay_cn, cn]; split <;> split <;> omega
theorem jnl_srt {a : List Rn} (h : Srt a) (b : List Rn) : Srt (jnl a b) := by
  induction b generalizing a with
  | nil => exact h
  | cons x l ih => exact ih (lay_srt h)
theorem jnl_pos {a b : List Rn} (h : Pos a) (hb : Pos b) : Pos (jnl a b) := by
  induction b generalizing a with
  | nil => exact h
  | cons x l ih => exact ih (lay_pos h (hb x (by simp))) (fun r hr => hb r (by simp [hr]))
theorem jnl_tot (a b : List Rn) : tot (jnl a b) = tot a + tot b := by
  induction b generalizing a with
  | nil => simp [jnl, tot]
  | cons x l ih => simp only [jnl, ih, lay_tot, tot]; omega
theorem jnl_len (a b : List Rn) : (jnl a b).length ≤ a.length + b.length := by
  induction b generalizing a with
  | nil => simp [jnl]
  | cons x l ih => have := ih (lay x.1 x.2 a); have := lay_len (v := x.1) (n := x.2) (l := a); simp only [jnl, List.length_cons]; omega
theorem jnl_mem {a b : List Rn} {r : Rn} (h : r ∈ jnl a b) : (∃ q ∈ a, q.1 = r.1) ∨ ∃ q ∈ b, q.1 = r.1 := by
  induction b generalizing a with
  | nil => left; exact ⟨r, h, rfl⟩
  | cons x l ih =>
    rcases ih h with ⟨q, hq, e⟩ | ⟨q, hq, e⟩
    · rcases lay_mem hq with e' | hq
      · right; exact ⟨x, by simp, by omega⟩
      · left; exact ⟨q, hq, e⟩
    · right; exact ⟨q, by simp [hq], e⟩
theorem jnl_is {a b m : List Rn} (ha : Srt a) (pa : Pos a) (pb : Pos b) (hs : Srt m) (hz : Nz m) (h : ∀ v, cn v m = cn v a + cn v b) : m = jnl a b :=
  runs_ext hs hz (jnl_srt ha b) (pos_nz (jnl_pos pa pb)) (fun v => by rw [h, jnl_cn])
/-- One without the other, as the document has it. -/
def mnl : List Rn → List Rn → List Rn | a, [] => a | a, r :: b => mnl (lay r.1 (-r.2) a) b
theorem mnl_cn (a b : List Rn) (v : Int) : cn v (mnl a b) = cn v a - cn v b := by
  induction b generalizing a with
  | nil => simp [mnl, cn]
  | cons x l ih => simp only [mnl, ih, lay_cn, cn]; split <;> split <;> omega
theorem mnl_srt {a : List Rn} (h : Srt a) (b : List Rn) : Srt (mnl a b) := by
  induction b generalizing a with
  | nil => exact h
  | cons x l ih => exact ih (lay_srt h)
theorem mnl_nz {a b : List Rn} (h : Nz a) (hb : Pos b) : Nz (mnl a b) := by
  induction b generalizing a with
  | nil => exact h
  | cons x l ih => exact ih (lay_nz h (by have := hb x (by simp); omega)) (fun r hr => hb r (by simp [hr]))
theorem mnl_len (a b : List Rn) : (mnl a b).length ≤ a.length + b.length := by
  induction b generalizing a with
  | nil => simp [mnl]
  | cons x l ih => have := ih (lay x.1 (-x.2) a); have := lay_len (v := x.1) (n := -x.2) (l := a); simp only [mnl, List.length_cons]; omega
theorem mnl_mem {a b : List Rn} {r : Rn} (h : r ∈ mnl a b) : (∃ q ∈ a, q.1 = r.1) ∨ ∃ q ∈ b, q.1 = r.1 := by
  induction b generalizing a with
  | nil => left; exact ⟨r, h, rfl⟩
  | cons x l ih =>
    rcases ih h with ⟨q, hq, e⟩ | ⟨q, hq, e⟩
    · rcases lay_mem hq with e' | hq
      · right; exact ⟨x, by simp, by omega⟩
      · left; exact ⟨q, hq, e⟩
    · right; exact ⟨q, by simp [hq], e⟩
theorem mnl_is {a b m : List Rn} (ha : Srt a) (za : Nz a) (pb : Pos b) (hs : Srt m) (hz : Nz m) (h : ∀ v, cn v m = cn v a - cn v b) : m = mnl a b :=
  runs_ext hs hz (mnl_srt ha b) (mnl_nz za pb) (fun v => by rw [h, mnl_cn])
/-- Is each value of b in a as often? -/
def Fits (a b : List Rn) : Prop := ∀ r ∈ b, r.2 ≤ cn r.1 a
def fits (a b : List Rn) : Bool := decide (∀ r ∈ b, r.2 ≤ cn r.1 a)
theorem fits_yes {a b : List Rn} (h : Fits a b) : fits a b = true := by unfold fits; rw [decide_eq_true_iff]; exact h
theorem fits_no {a b : List Rn} (h : ¬ Fits a b) : fits a b = false := by unfold fits; rw [decide_eq_false_iff_not]; exact h
theorem fits_cn {a b : List Rn} (h : Fits a b) (hb : Srt b) (pa : Pos a) (v : Int) : cn v b ≤ cn v a := by
  by_cases hv : cn v b = 0
  · rw [hv]; exact cn_nn pa
  · obtain ⟨r, hr, e⟩ := cn_pos_mem hv
    obtain ⟨k, hk⟩ := List.mem_iff_getElem?.1 hr
    have := cn_at hb hk
    have := h r hr
    rw [e] at *
    omega
theorem cn_srt_eq {m : List Rn} (hs : Srt m) {r : Rn} (hr : r ∈ m) : cn r.1 m = r.2 := by
  obtain ⟨k, hk⟩ := List.mem_iff_getElem?.1 hr
  exact cn_at hs hk
theorem mnl_pos {a b : List Rn} (ha : Srt a) (pa : Pos a) (hb : Srt b) (pb : Pos b) (h : Fits a b) : Pos (mnl a b) := by
  intro r hr
  have h1 := cn_srt_eq (mnl_srt ha b) hr
  have h2 := mnl_nz (pos_nz pa) pb r hr
  have h3 := fits_cn h hb pa r.1
  rw [mnl_cn] at h1
  omega
theorem mnl_tot (a b : List Rn) : tot (mnl a b) = tot a - tot b := by
  induction b generalizing a with
  | nil => simp [mnl, tot]
  | cons x l ih => simp only [mnl, ih, lay_tot, tot]; omega
/-- What the numbers are on the way. -/
theorem jnl_bd {a b : List Rn} (ha : Srt a) (pa : Pos a) (pb : Pos b) (ht : tot a + tot b ≤ 1099511627776) : ∀ r ∈ jnl a b, 0 ≤ r.2 ∧ r.2 ≤ 1099511627776 := by
  intro r hr
  have h1 := jnl_pos pa pb r hr
  have h2 := cn_srt_eq (jnl_srt ha b) hr
  have h3 := cn_le (v := r.1) (jnl_pos pa pb)
  rw [jnl_tot] at h3
  omega
theorem mnl_bd {a b : List Rn} (ha : Srt a) (pa : Pos a) (pb : Pos b) (h1 : tot a ≤ 1099511627776) (h2 : tot b ≤ 1099511627776) : ∀ r ∈ mnl a b, -1099511627776 ≤ r.2 ∧ r.2 ≤ 1099511627776 := by
  intro r hr
  have e := cn_srt_eq (mnl_srt ha b) hr
  rw [mnl_cn] at e
  have := cn_nn (v := r.1) pa
  have := cn_le (v := r.1) pa
  have := cn_nn (v := r.1) pb
  have := cn_le (v := r.1) pb
  omega
theorem pos_take {l : List Rn} (h : Pos l) (k : Nat) : Pos (l.take k) := fun r hr => h r (List.mem_of_mem_take hr)
end Go.Proofs.Ytjkkajhjcinalaa

namespace Go.Proofs.Ytjkkajhjcinalaa.calc
open Go.RowKit
set_option linter.unusedVariables false
set_option linter.unusedSimpArgs false
set_option maxRecDepth 100000

set_option maxHeartbeats 400000 in
theorem mul_any (a b : Int) (w : World) (ha : I64 a) (hb : I64 b) :
    Calls Try.prog 142 #[.int .i64 a, .int .i64 b] w fun e w' => e = .returned (.tuple #[.int .i64 (fitV (a * b)), .bool (fitB (a * b))]) ∧ Below w.heap.size w w' := by
  go_enter Try.func142, Try.ntmps142
  go_wp2_with (first | (go_at_call 106; refine (product_any _ _ _ ha hb).mono ?_; rintro e w1 ⟨rfl, hb1⟩) | (go_at_call 70; refine (narrow_any _ _).mono ?_; rintro e w2 ⟨rfl, hb2⟩))
  go_ret2
  exact ⟨rfl, hb1.trans (hb2.mono hb1.size)⟩
/-- The sum of a list. -/
def sumI : List Int → Int
  | [] => 0
  | x :: l => x + sumI l
theorem sumI_snoc (l : List Int) (x : Int) : sumI (l ++ [x]) = sumI l + x := by
  induction l with
  | nil => simp [sumI]
  | cons y l ih => simp only [List.cons_append, sumI, ih]; omega
theorem sumI_bd (l : List Int) (h : ∀ x ∈ l, I64 x) : -(9223372036854775808 * l.length) ≤ sumI l ∧ sumI l ≤ 9223372036854775808 * l.length := by
  induction l with
  | nil => simp [sumI]
  | cons y l ih =>
    have h1 := h y (by simp)
    have h2 := ih (fun x hx => h x (by simp [hx]))
    obtain ⟨a1, a2⟩ := h1
    simp only [sumI, List.length_cons]
    omega
theorem take_snoc (l : List Int) (k : Nat) (h : k < l.length) : l.take (k + 1) = l.take k ++ [l.getD k 0] := by
  rw [List.take_succ_eq_append_getElem h]
  simp [List.getD, h]
theorem two_store {w wr w1 : World} {v0 v1 u0 u1 : Value} (hbel : Below w.heap.size w wr) (hsz : w.heap.size < wr.heap.size)
    (hc0 : wr.cell? ⟨w.heap.size, 0, none⟩ = some u0) (hc1 : wr.cell? ⟨w.heap.size, 1, none⟩ = some u1) (hf0 : wr.frozen? ⟨w.heap.size, 0, none⟩ = false) (hf1 : wr.frozen? ⟨w.heap.size, 1, none⟩ = false) (hb1 : Below wr.heap.size wr w1) :
    Below w.heap.size w ((w1.setCell ⟨w.heap.size, 0, none⟩ v0).setCell ⟨w.heap.size, 1, none⟩ v1) ∧ w.heap.size < ((w1.setCell ⟨w.heap.size, 0, none⟩ v0).setCell ⟨w.heap.size, 1, none⟩ v1).heap.size ∧
    ((w1.setCell ⟨w.heap.size, 0, none⟩ v0).setCell ⟨w.heap.size, 1, none⟩ v1).cell? ⟨w.heap.size, 0, none⟩ = some v0 ∧ ((w1.setCell ⟨w.heap.size, 0, none⟩ v0).setCell ⟨w.heap.size, 1, none⟩ v1).cell? ⟨w.heap.size, 1, none⟩ = some v1 ∧
    ((w1.setCell ⟨w.heap.size, 0, none⟩ v0).setCell ⟨w.heap.size, 1, none⟩ v1).frozen? ⟨w.heap.size, 0, none⟩ = false ∧ ((w1.setCell ⟨w.heap.size, 0, none⟩ v0).setCell ⟨w.heap.size, 1, none⟩ v1).frozen? ⟨w.heap.size, 1, none⟩ = false := by
  obtain ⟨hc, hf⟩ := bcell hb1
  have g0 := (hc _ 0 hsz).trans hc0
  have g1 := (hc _ 1 hsz).trans hc1
  refine ⟨((hbel.trans (hb1.mono hbel.size)).setCell (Nat.le_refl _) _).setCell (Nat.le_refl _) _, ?_, ?_, ?_, ?_, ?_⟩
  · rw [World.size_setCell, World.size_setCell]; exact Nat.lt_of_lt_of_le hsz hb1.size
  · simp [go_sem, g0, g1]
  · simp [go_sem, g0, g1]
  · simp [go_sem, hf _ _ hsz, hf0]
  · simp [go_sem, hf _ _ hsz, hf1]
theorem getD_mem (zs : List Int) (k : Nat) (h : k < zs.length) : zs.getD k 0 ∈ zs := by
  have : zs.getD k 0 = zs[k] := by simp [List.getD, h]
  rw [this]; exact List.getElem_mem h
theorem sum_step (zs : List Int) (k : Nat) (h : k < zs.length) : sumI (zs.take (k + 1)) = sumI (zs.take k) + zs[k]?.getD 0 := by
  rw [take_snoc _ _ h, sumI_snoc]; rfl
theorem sum_bd (zs : List Int) (k : Nat) (h : k ≤ zs.length) (hz : ∀ x ∈ zs, I64 x) (hk : k ≤ 1000000000000) : -9223372036854775808000000000000 ≤ sumI (zs.take k) ∧ sumI (zs.take k) ≤ 9223372036854775808000000000000 := by
  have h1 := sumI_bd (zs.take k) (fun x hx => hz x (List.mem_of_mem_take hx))
  have h2 : (zs.take k).length = k := by simp; omega
  rw [h2] at h1
  omega
set_option maxHeartbeats 1000000 in
theorem total_any (b off len cap : Nat) (zs : List Int) (w : World) (hl : len ≤ zs.length) (hm : len ≤ 1000000000000) (hb : b < w.heap.size)
    (hc : ∀ k, k < len → w.cell? ⟨b, off + k, none⟩ = some (.int .i64 (zs.getD k 0))) (hz : ∀ x ∈ zs, I64 x) :
    Calls Try.prog 27 #[.slice (some ⟨b, off, none⟩) len cap] w fun e w' => e = .returned (.tuple #[.int .i64 (fitV (sumI (zs.take len))), .bool (fitB (sumI (zs.take len)))]) ∧ Below w.heap.size w w' := by
  go_enter Try.func27, Try.ntmps27
  go_wp2
  go_loopw [9] (fun i wr => ∃ k : Nat, k ≤ len ∧ i = .int .i64 k ∧ Below w.heap.size w wr ∧ w.heap.size < wr.heap.size ∧ wr.cell? ⟨w.heap.size, 0, none⟩ = some (.int .i64 (hi (sumI (zs.take k)))) ∧ wr.cell? ⟨w.heap.size, 1, none⟩ = some (.int .u64 (lo (sumI (zs.take k)))) ∧ wr.frozen? ⟨w.heap.size, 0, none⟩ = false ∧ wr.frozen? ⟨w.heap.size, 1, none⟩ = false)
    (fun i _ => len - (intOf i).toNat)
  case atStart =>
    refine ⟨0, Nat.zero_le _, rfl, (Below.refl _ _).alloc (Nat.le_refl _) _, by simp, ?_, ?_, ?_, ?_⟩ <;> simp [go_sem, sumI, hi, lo]
  case round =>
    obtain ⟨k, hk, rfl, hbel, hsz, hc0, hc1, hf0, hf1⟩ := hrel
    by_cases hlt : k < len
    · have hcx : wr.cell? ⟨b, off + k, none⟩ = some (.int .i64 (zs.getD k 0)) := (hbel.cell (by exact hb)).trans (hc k hlt)
      have hv : I64 (zs.getD k 0) := hz _ (getD_mem zs k (by omega))
      have hs := sum_bd zs k (by omega) hz (by omega)
      have hv2 : -9223372036854775808 ≤ zs.getD k 0 ∧ zs.getD k 0 ≤ 9223372036854775807 := hv
      have HS : Hid (sumI (zs.take (k + 1)) = sumI (zs.take k) + zs[k]?.getD 0) := sum_step zs k (by omega)
      go_wp2_with (go_at_call 69; refine (plus_any _ _ _ hv (by omega) (by omega)).mono ?_; rintro e w1 ⟨rfl, hb1⟩; obtain ⟨hc', hf'⟩ := bcell hb1)
      go_roundw
      case rel =>
        refine ⟨k + 1, by omega, by go_num, ?_⟩
        rw [HS.out]
        exact two_store hbel hsz hc0 hc1 hf0 hf1 hb1
      case measure => simp [intOf]; omega
    · go_wp2_with (go_at_call 70; refine (narrow_any _ _).mono ?_; rintro e w2 ⟨rfl, hb2⟩)
      go_ret2
      have : k = len := by omega
      subst this
      exact ⟨rfl, bt hbel hb2⟩

end Go.Proofs.Ytjkkajhjcinalaa.calc

namespace Go.Proofs.Ytjkkajhjcinalaa
open Go.ChangeShapes Go.WideShapes Go.ChangeAt Go.RowKit
set_option linter.unusedVariables false
set_option linter.unusedSimpArgs false
set_option maxRecDepth 100000

theorem box_three {w : World} {D : Nat} {t : TypeId} {a b c : Value} (hD : w.heap[D]? = some (.cells #[a, b, c] t)) : w.cell? ⟨D, 0, none⟩ = some a ∧ w.cell? ⟨D, 1, none⟩ = some b ∧ w.cell? ⟨D, 2, none⟩ = some c := by
  refine ⟨?_, ?_, ?_⟩ <;> simp [World.cell?, hD]
theorem mask22 (n : Int) : bits .and .i64 n 4194303 = n % 4194304 := by
  have h127 : (BitVec.ofInt 64 4194303).toNat = 2 ^ 22 - 1 := by decide
  have key : (BitVec.ofInt 64 n &&& BitVec.ofInt 64 4194303).toNat = (n % ((2 ^ 64 : Nat) : Int)).toNat % 2 ^ 22 := by
    rw [BitVec.toNat_and, BitVec.toNat_ofInt, h127, Nat.and_two_pow_sub_one_eq_mod]
  show IntKind.i64.wrap ((BitVec.ofInt 64 n &&& BitVec.ofInt 64 4194303).toNat : Nat) = n % 4194304
  rw [key, IntKind.wrap_i64]
  omega
set_option maxHeartbeats 1000000 in
theorem pplus_raw (h m lo v n A B C P Q R : Int) (w : World) (hA : v / 17592186044416 = A) (hB : v / 4194304 % 4194304 = B) (hC : v % 4194304 = C) (hP : A * n = P) (hQ : B * n = Q) (hR : C * n = R)
    (h1 : -9223372036854775808 ≤ P) (h2 : P ≤ 9223372036854775807) (h3 : -9223372036854775808 ≤ Q) (h4 : Q ≤ 9223372036854775807) (h5 : -9223372036854775808 ≤ R) (h6 : R ≤ 9223372036854775807) (h7 : -9223372036854775808 ≤ h + P) (h8 : h + P ≤ 9223372036854775807) (h9 : -9223372036854775808 ≤ m + Q) (g0 : m + Q ≤ 9223372036854775807) (g1 : -9223372036854775808 ≤ lo + R) (g2 : lo + R ≤ 9223372036854775807) :
    Calls Try.prog 123 #[.agg #[.int .i64 h, .int .i64 m, .int .i64 lo], .int .i64 v, .int .i64 n] w fun e w' => e = .returned (.agg #[.int .i64 (h + P), .int .i64 (m + Q), .int .i64 (lo + R)]) ∧ Below w.heap.size w w' := by
  have mk := mask22
  go_enter Try.func123, Try.ntmps123
  go_wp2
  exact bodyPost_ret (v := .agg #[.int .i64 (h + P), .int .i64 (m + Q), .int .i64 (lo + R)]) (by simp [results, Try.results123, go_sem]) rfl ⟨rfl, ((Below.refl _ _).alloc (Nat.le_refl _) _).alloc (by simp) _⟩
/-- The sums of the three parts. -/
def hS : List Rn → Int | [] => 0 | r :: l => r.1 / 17592186044416 * r.2 + hS l
def mS : List Rn → Int | [] => 0 | r :: l => r.1 / 4194304 % 4194304 * r.2 + mS l
def lS : List Rn → Int | [] => 0 | r :: l => r.1 % 4194304 * r.2 + lS l
theorem hS_app (l m : List Rn) : hS (l ++ m) = hS l + hS m := by
  induction l with
  | nil => simp [hS]
  | cons r l ih => simp only [List.cons_append, hS, ih]; omega
theorem mS_app (l m : List Rn) : mS (l ++ m) = mS l + mS m := by
  induction l with
  | nil => simp [mS]
  | cons r l ih => simp only [List.cons_append, mS, ih]; omega
theorem lS_app (l m : List Rn) : lS (l ++ m) = lS l + lS m := by
  induction l with
  | nil => simp [lS]
  | cons r l ih => simp only [List.cons_append, lS, ih]; omega
theorem mul_le {a b c d n : Int} (ha : a ≤ b) (hb : b ≤ c) (hn : 0 ≤ n) : a * n ≤ b * n ∧ b * n ≤ c * n := ⟨Int.mul_le_mul_of_nonneg_right ha hn, Int.mul_le_mul_of_nonneg_right hb hn⟩
theorem part_bd {v n : Int} (hv : I64 v) (hn : 0 ≤ n) : -524288 * n ≤ v / 17592186044416 * n ∧ v / 17592186044416 * n ≤ 524288 * n ∧ 0 ≤ v / 4194304 % 4194304 * n ∧ v / 4194304 % 4194304 * n ≤ 4194304 * n ∧ 0 ≤ v % 4194304 * n ∧ v % 4194304 * n ≤ 4194304 * n ∧ v * n = v / 17592186044416 * n * 17592186044416 + v / 4194304 % 4194304 * n * 4194304 + v % 4194304 * n := by
  obtain ⟨h1, h2⟩ := hv
  have a1 : -524288 ≤ v / 17592186044416 := by omega
  have a2 : v / 17592186044416 ≤ 524288 := by omega
  have b1 : 0 ≤ v / 4194304 % 4194304 := by omega
  have b2 : v / 4194304 % 4194304 ≤ 4194304 := by omega
  have c1 : 0 ≤ v % 4194304 := by omega
  have c2 : v % 4194304 ≤ 4194304 := by omega
  have e : v = v / 17592186044416 * 17592186044416 + v / 4194304 % 4194304 * 4194304 + v % 4194304 := by omega
  obtain ⟨p1, p2⟩ := mul_le (d := 0) a1 a2 hn
  obtain ⟨q1, q2⟩ := mul_le (d := 0) b1 b2 hn
  obtain ⟨r1, r2⟩ := mul_le (d := 0) c1 c2 hn
  refine ⟨p1, p2, by omega, q2, by omega, r2, ?_⟩
  generalize v / 17592186044416 = A at e ⊢
  generalize v / 4194304 % 4194304 = B at e ⊢
  generalize v % 4194304 = C at e ⊢
  subst e
  rw [Int.add_mul, Int.add_mul, Int.mul_right_comm A, Int.mul_right_comm B]
theorem sum_bds {l : List Rn} (hv : ∀ r ∈ l, I64 r.1) (hp : Pos l) : -524288 * tot l ≤ hS l ∧ hS l ≤ 524288 * tot l ∧ 0 ≤ mS l ∧ mS l ≤ 4194304 * tot l ∧ 0 ≤ lS l ∧ lS l ≤ 4194304 * tot l ∧ wsum l = hS l * 17592186044416 + mS l * 4194304 + lS l := by
  induction l with
  | nil => simp [hS, mS, lS, tot, wsum]
  | cons r l ih =>
    have h1 := ih (fun q hq => hv q (by simp [hq])) (fun q hq => hp q (by simp [hq]))
    have h2 := part_bd (hv r (by simp)) (n := r.2) (by have := hp r (by simp); omega)
    simp only [hS, mS, lS, tot, wsum]
    omega
theorem narrow_fit {h m lo : Int} (h1 : -1152921504606846976 ≤ h) (h2 : h ≤ 1152921504606846976) (m1 : -4611686018427387904 ≤ m) (m2 : m ≤ 4611686018427387904) (l1 : -4611686018427387904 ≤ lo) (l2 : lo ≤ 4611686018427387904) {M H r1 r2 : Int} (hM : m + lo / 4194304 = M) (hH : h + M / 4194304 = H) (hr1 : M % 4194304 = r1) (hr2 : lo % 4194304 = r2) :
    h * 17592186044416 + m * 4194304 + lo = H * 17592186044416 + (r1 * 4194304 + r2) ∧ 0 ≤ r1 * 4194304 + r2 ∧ r1 * 4194304 + r2 < 17592186044416 := by omega
set_option maxHeartbeats 1000000 in
theorem narrow_m (h m lo : Int) (w : World) (h1 : -1152921504606846976 ≤ h) (h2 : h ≤ 1152921504606846976) (m1 : -4611686018427387904 ≤ m) (m2 : m ≤ 4611686018427387904) (l1 : -4611686018427387904 ≤ lo) (l2 : lo ≤ 4611686018427387904) :
    Calls Try.prog 124 #[.agg #[.int .i64 h, .int .i64 m, .int .i64 lo]] w fun e w' => e = .returned (.tuple #[.int .i64 (calc.fitV (h * 17592186044416 + m * 4194304 + lo)), .bool (calc.fitB (h * 17592186044416 + m * 4194304 + lo))]) ∧ Below w.heap.size w w' := by
  have mk := mask22
  obtain ⟨L, hL⟩ : ∃ x, lo / 4194304 = x := ⟨_, rfl⟩
  obtain ⟨M, hM⟩ : ∃ x, m + L = x := ⟨_, rfl⟩
  obtain ⟨K, hK⟩ : ∃ x, M / 4194304 = x := ⟨_, rfl⟩
  obtain ⟨H, hH⟩ : ∃ x, h + K = x := ⟨_, rfl⟩
  obtain ⟨r1, hr1⟩ : ∃ x, M % 4194304 = x := ⟨_, rfl⟩
  obtain ⟨r2, hr2⟩ : ∃ x, lo % 4194304 = x := ⟨_, rfl⟩
  obtain ⟨s1, hs1⟩ : ∃ x, r1 * 4194304 = x := ⟨_, rfl⟩
  obtain ⟨r, hr⟩ : ∃ x, s1 + r2 = x := ⟨_, rfl⟩
  obtain ⟨P, hP⟩ : ∃ x, H * 17592186044416 = x := ⟨_, rfl⟩
  have hf := narrow_fit h1 h2 m1 m2 l1 l2 (M := M) (H := H) (r1 := r1) (r2 := r2) (by rw [hL, hM]) (by rw [hK, hH]) hr1 hr2
  rw [hs1, hr, hP] at hf
  have b1 : -1099511627776 ≤ L ∧ L ≤ 1099511627776 := by omega
  have b2 : -4611687117939015680 ≤ M ∧ M ≤ 4611687117939015680 := by omega
  have b3 : -1099511889921 ≤ K ∧ K ≤ 1099511889920 := by omega
  have b4 : -1152922604118736897 ≤ H ∧ H ≤ 1152922604118736896 := by omega
  have b5 : 0 ≤ s1 ∧ s1 ≤ 17592181850112 := by omega
  have b6 : 0 ≤ r ∧ r ≤ 17592186044415 := by omega
  obtain ⟨b1a, b1b⟩ := b1
  obtain ⟨b2a, b2b⟩ := b2
  obtain ⟨b3a, b3b⟩ := b3
  obtain ⟨b4a, b4b⟩ := b4
  obtain ⟨b5a, b5b⟩ := b5
  obtain ⟨b6a, b6b⟩ := b6
  have b7 : 0 ≤ r1 := by omega
  have b8 : r1 ≤ 4194303 := by omega
  have b9 : 0 ≤ r2 := by omega
  have b10 : r2 ≤ 4194303 := by omega
  have HF := hid hf
  have HH : Hid (I64 H) := hid (by unfold I64; omega)
  have HR : Hid (I64 r) := hid (by unfold I64; omega)
  have HP := hid hP
  have H44 : Hid (I64 17592186044416) := hid (by unfold I64; decide)
  obtain ⟨X, hX⟩ : ∃ x, h * 17592186044416 + m * 4194304 + lo = x := ⟨_, rfl⟩
  rw [hX] at hf HF ⊢
  clear hX
  by_cases hfit : -9223372036854775808 ≤ P ∧ P ≤ 9223372036854775807
  · have HFP := hid (calc.fit_yes hfit)
    have HPI : Hid (I64 P) := hid hfit
    have C2 : Hid ((w.alloc (.cells #[.int .i64 h, .int .i64 m, .int .i64 lo] 192)).cell? ⟨w.heap.size, 2, none⟩ = some (.int .i64 lo)) := hid (box_three (heap_alloc_new w _)).2.2
    clear hfit hf hP
    go_enter Try.func124, Try.ntmps124
    go_wp2_with (first
      | (go_at_call 142; refine (calc.mul_any H 17592186044416 _ HH.out H44.out).mono ?_; rintro e w1 ⟨rfl, hb1⟩; rw [HP.out, HFP.out.1, HFP.out.2]; have B1 := hid (bt (b1alloc _ _) hb1); have c2 := ((bcell hb1).1 w.heap.size 2 (by simp)).trans C2.out; clear hb1)
      | (go_at_call 65; refine (calc.add_any P r _ HPI.out HR.out).mono ?_; rintro e w2 ⟨rfl, rfl⟩))
    go_ret2
    exact ⟨by rw [HF.out.1]; rfl, B1.out⟩
  · have HFP := hid (calc.fit_no hfit)
    have HNX : Hid (¬ (-9223372036854775808 ≤ X ∧ X ≤ 9223372036854775807)) := hid (by rw [← hP] at hfit hf; omega)
    clear hfit hf hP
    go_enter Try.func124, Try.ntmps124
    go_wp2_with (first
      | (go_at_call 142; refine (calc.mul_any H 17592186044416 _ HH.out H44.out).mono ?_; rintro e w1 ⟨rfl, hb1⟩; rw [HP.out, HFP.out.1, HFP.out.2]; have B1 := hid (bt (b1alloc _ _) hb1); clear hb1))
    go_ret2
    exact ⟨calc.ret_fit_no HNX.out, B1.out⟩

end Go.Proofs.Ytjkkajhjcinalaa

namespace Go.Proofs.Ytjkkajhjcinalaa
open Go.ChangeShapes Go.WideShapes Go.ChangeAt Go.RowKit
set_option linter.unusedVariables false
set_option linter.unusedSimpArgs false
set_option maxRecDepth 100000

def ncs (r : Rn) : List Value := [.int .i64 r.1, .int .i64 r.2]
def nok (r : Rn) : Prop := I64 r.1 ∧ I64 r.2
/-- A slice of runs, in a world. -/
def NRun (w : World) (a : Option Addr) (n c : Nat) (l : List Rn) : Prop :=
  n = l.length ∧ n ≤ c ∧ c ≤ maxLen ∧ (a = none → c = 0) ∧ (0 < n → ∃ b off, a = some ⟨b, off, none⟩ ∧ b < w.heap.size ∧ ∀ j r, l[j]? = some r → ∀ i v, (ncs r)[i]? = some v → w.cell? ⟨b, off + j * 2 + i, none⟩ = some v)
theorem NRun.below {w w' : World} {a : Option Addr} {n c : Nat} {l : List Rn} (h : NRun w a n c l) (hb : Below w.heap.size w w') : NRun w' a n c l := by
  obtain ⟨h1, h2, h3, h4, h5⟩ := h
  refine ⟨h1, h2, h3, h4, fun h0 => ?_⟩
  obtain ⟨b, off, e, hlt, hl⟩ := h5 h0
  exact ⟨b, off, e, Nat.lt_of_lt_of_le hlt hb.size, fun j r hj i v hi => ((bcell hb).1 b _ hlt).trans (hl j r hj i v hi)⟩
theorem nrun_nil (w : World) : NRun w none 0 0 [] := ⟨rfl, Nat.le_refl _, by decide, fun _ => rfl, fun h => by cases h⟩
theorem NRun.lens {w : World} {a : Option Addr} {n c : Nat} {l : List Rn} (h : NRun w a n c l) : n = l.length ∧ n ≤ 9223372036854775807 := by
  obtain ⟨h1, h2, h3, _⟩ := h
  unfold maxLen at h3
  exact ⟨h1, by omega⟩
/-- One run of it, read. -/
theorem NRun.pick {w w' : World} {a : Option Addr} {n c : Nat} {l : List Rn} (h : NRun w a n c l) (hb : Below w.heap.size w w') {k : Nat} (hk : k < n) :
    ∃ b off x0 x1, a = some ⟨b, off, none⟩ ∧ b < w.heap.size ∧ l[k]? = some (x0, x1) ∧ w'.cell? ⟨b, off + k * 2, none⟩ = some (.int .i64 x0) ∧ w'.cell? ⟨b, off + k * 2 + 1, none⟩ = some (.int .i64 x1) := by
  obtain ⟨h1, h2, h3, h4, h5⟩ := h.below hb
  obtain ⟨h1', _, _, _, h5'⟩ := h
  obtain ⟨b, off, e, hlt, hl⟩ := h5 (by omega)
  obtain ⟨b', off', e', hlt', _⟩ := h5' (by omega)
  rw [e] at e'
  cases e'
  obtain ⟨r, hr⟩ : ∃ r, l[k]? = some r := ⟨l[k]'(by omega), List.getElem?_eq_getElem (by omega)⟩
  obtain ⟨x0, x1⟩ := r
  have := hl k _ hr
  exact ⟨b, off, x0, x1, e, hlt', hr, this 0 _ rfl, this 1 _ rfl⟩
def ncells : List Rn → List Value
  | [] => []
  | r :: l => ncs r ++ ncells l
theorem ncs_len (r : Rn) : (ncs r).length = 2 := rfl
theorem ncells_len (l : List Rn) : (ncells l).length = l.length * 2 := by
  induction l with
  | nil => rfl
  | cons r l ih => simp only [ncells, List.length_append, ncs_len, List.length_cons, ih]; omega
theorem ncells_app (l m : List Rn) : ncells (l ++ m) = ncells l ++ ncells m := by
  induction l with
  | nil => rfl
  | cons r l ih => simp [ncells, ih]
theorem ncs_one (r : Rn) : ∀ u ∈ ncs r, u.oneCell' = true := by
  obtain ⟨a, b⟩ := r
  intro u hu
  simp only [ncs, List.mem_cons, List.not_mem_nil, or_false] at hu
  rcases hu with rfl | rfl <;> rfl
theorem ncells_one (l : List Rn) : ∀ u ∈ ncells l, u.oneCell' = true := by
  induction l with
  | nil => intro u hu; cases hu
  | cons r l ih =>
    intro u hu
    rcases List.mem_append.mp hu with hu | hu
    · exact ncs_one r u hu
    · exact ih u hu
theorem ncells_get {l : List Rn} {j : Nat} {r : Rn} (h : l[j]? = some r) {i : Nat} {v : Value} (hi : (ncs r)[i]? = some v) : (ncells l)[j * 2 + i]? = some v := by
  have hi6 : i < 2 := by have := (List.getElem?_eq_some_iff.1 hi).1; rw [ncs_len] at this; exact this
  induction l generalizing j with
  | nil => simp at h
  | cons q l ih =>
    cases j with
    | zero =>
      simp at h; subst h
      rw [ncells, List.getElem?_append_left (by rw [ncs_len]; omega), Nat.zero_mul, Nat.zero_add]; exact hi
    | succ j =>
      rw [ncells, List.getElem?_append_right (by rw [ncs_len]; omega), ncs_len, show (j + 1) * 2 + i - 2 = j * 2 + i by omega]
      exact ih (by simpa using h)
theorem ncells_inv {l : List Rn} {t : Nat} {v : Value} (h : (ncells l)[t]? = some v) : ∃ r, l[t / 2]? = some r ∧ (ncs r)[t % 2]? = some v := by
  induction l generalizing t with
  | nil => simp [ncells] at h
  | cons q l ih =>
    by_cases ht : t < 2
    · rw [ncells, List.getElem?_append_left (by rw [ncs_len]; omega)] at h
      exact ⟨q, by rw [Nat.div_eq_of_lt ht]; rfl, by rw [Nat.mod_eq_of_lt ht]; exact h⟩
    · rw [ncells, List.getElem?_append_right (by rw [ncs_len]; omega), ncs_len] at h
      obtain ⟨r, h1, h2⟩ := ih h
      refine ⟨r, ?_, ?_⟩
      · rw [show t / 2 = (t - 2) / 2 + 1 by omega]; simpa using h1
      · rw [show t % 2 = (t - 2) % 2 by omega]; exact h2
theorem info_nr : (Try.prog.info? 65).map (fun i => (i.zero, i.size, i.bytes)) = some (some (.agg #[.int .i64 0, .int .i64 0]), 2, 16) := by kernel_rfl
/-- A row of runs of one's own, nil or not. -/
abbrev OwnN (w : World) (base : Nat) (v : Value) (l : List Rn) : Prop := w.ownsRow base 65 2 v l.length (ncells l)
theorem own_nrun {w : World} {base g n cap : Nat} {l : List Rn} (h : w.ownsRow base 65 2 (.slice (some ⟨g, 0, none⟩) n cap) n (ncells l)) : NRun w (some ⟨g, 0, none⟩) n cap l := by
  have hn : n = l.length := by have := h.1; rw [ncells_len] at this; omega
  have hlt := (h.lt g rfl).2
  rcases h.2 with ⟨h', _⟩ | ⟨g', cap', cur, h', _, hg, hnc, hm, hcs, htake⟩
  · cases h'
  · cases h'
    refine ⟨hn, hnc, hm, (fun e => by cases e), fun _ => ⟨g, 0, rfl, hlt, fun j r hj i v hi => ?_⟩⟩
    have := h.cells (g := g) rfl (j * 2 + i) _ (ncells_get hj hi)
    rw [add_at] at this
    rw [Nat.add_assoc]; exact this
theorem nown_form {w : World} {base n : Nat} {v : Value} {xs : List Value} (h : w.ownsRow base 65 2 v n xs) (hne : ¬ v = .slice none 0 0) : ∃ g cap, v = .slice (some ⟨g, 0, none⟩) n cap := by
  rcases h.2 with ⟨h', _⟩ | ⟨g, cap, cur, h', _⟩
  · exact absurd h' hne
  · exact ⟨g, cap, h'⟩
/-- .. as the slice that it is. -/
theorem own_any {w : World} {base : Nat} {v : Value} {l : List Rn} (h : OwnN w base v l) : ∃ a cap, v = .slice a l.length cap ∧ NRun w a l.length cap l := by
  rcases h.2 with ⟨h', hn⟩ | ⟨g, cap, cur, h', _⟩
  · have hl : l = [] := List.length_eq_zero_iff.mp hn
    subst hl
    exact ⟨none, 0, h', nrun_nil w⟩
  · subst h'
    exact ⟨_, cap, rfl, own_nrun h⟩
theorem own_nil (w : World) (base : Nat) : OwnN w base (.slice none 0 0) [] := ⟨rfl, .inl ⟨rfl, rfl⟩⟩
theorem nrun_src {w : World} {ad : Addr} {m c : Nat} {l : List Rn} (h : NRun w (some ad) m c l) : ∀ j u, (ncells l)[j]? = some u → w.cell? (ad.add j) = some u := by
  intro j u hu
  obtain ⟨h1, h2, h3, h4, h5⟩ := h
  obtain ⟨r, hr, hi⟩ := ncells_inv hu
  have hlt : j / 2 < l.length := (List.getElem?_eq_some_iff.1 hr).1
  obtain ⟨b', off', e, hb, hl⟩ := h5 (by omega)
  cases e
  have := hl _ r hr _ u hi
  rw [add_at]
  rw [Nat.add_assoc, show j / 2 * 2 + j % 2 = j by omega] at this
  exact this
theorem nown_made (w : World) (base : Nat) (hb : base ≤ w.heap.size) : (w.alloc (.cells #[] 65)).ownsRow base 65 2 (.slice (some ⟨w.heap.size, 0, none⟩) 0 0) 0 (ncells []) :=
  World.ownsRow_made w #[] 0 hb (by decide) rfl
/-- One run more behind a row of one's own, nil or not: the run lies in a new block. -/
theorem append_run {w : World} {ops : Array Oper} {rest : List Oper} {o : Oper} {a : Act} {Q : Exit → Act → World → Prop} (hgd : o.guard = none) (s x : Operand)
    (ho : o.op = .call { callee := .builtin .append, args := #[s, x], argTypes := #[23, 23] }) (base : Nat) (v : Value) (xs : List Rn) (N : Nat) (p q : Int)
    (hs : a.eval s = v) (hown : OwnN w base v xs) (hx : a.eval x = .slice (some ⟨N, 0, none⟩) 1 1) (hN : w.heap[N]? = some (.cells #[.int .i64 p, .int .i64 q] 65)) (hn : xs.length ≤ 10000000000) (hbase : base ≤ w.heap.size)
    (h : ∀ v' w', OwnN w' base v' (xs ++ [(p, q)]) → w.grownBy w' v.ownBlock → wpList Try.prog ops Q rest (a.put o.dst v') w') : wpList Try.prog ops Q (o :: rest) a w := by
  obtain ⟨i0, hi, hz0, hz1, hz2⟩ := info_parts info_nr
  refine wpList_append_own w hgd s x 23 ho base 65 i0 _ 2 16 Try.underlying23 hi hz0 hz1 hz2 rfl (by decide) v xs.length (ncells xs) hs hown ⟨N, 0, none⟩ 1 1 [.int .i64 p, .int .i64 q] hx rfl ?_ ?_ (by unfold maxLen; omega) (by omega) hbase ?_
  · intro j u hu
    obtain ⟨c0, c1⟩ := box_two hN
    match j, hu with
    | 0, hu => simp at hu; subst hu; exact c0
    | 1, hu => simp at hu; subst hu; exact c1
  · intro u hu
    simp at hu
    rcases hu with rfl | rfl <;> rfl
  intro v' w' hown' hgrow' hiff
  refine h v' w' ?_ hgrow'
  have e1 : ncells xs ++ [.int .i64 p, .int .i64 q] = ncells (xs ++ [(p, q)]) := by rw [ncells_app]; rfl
  rw [e1] at hown'
  unfold OwnN
  rw [List.length_append]
  exact hown'
/-- The first so many of a slice of runs; the rest. -/
theorem restN {w : World} {a : Option Addr} {n c : Nat} {l : List Rn} (h : NRun w a n c l) (k : Nat) (hk : k ≤ n) :
    ∃ A, (∀ w', (Instr.slice 23 (.slice a n c) (some (.int .i64 k)) none none).run Try.prog w' = .ok (.slice A (n - k) (c - k)) w') ∧ NRun w A (n - k) (c - k) (l.drop k) := by
  obtain ⟨h1, h2, h3, h4, h5⟩ := h
  refine ⟨if c = k then a else a.map (·.add (k * 2)), fun w' => ?_, ?_⟩
  · rw [run_slice_l w' 23 a n c Try.underlying23 .i64 k (by omega) (by omega)]
    have hs : (sizeOf (Try.prog.elem 23)).run Try.prog w' = .ok 2 w' := Try.sizeOf65 w'
    rw [hs]
    simp [Result.andThen, sliced]
  · refine ⟨by rw [List.length_drop]; omega, by omega, by omega, ?_, fun h0 => ?_⟩
    · intro e
      by_cases hck : c = k
      · omega
      · rw [if_neg hck] at e
        cases a with
        | none => have := h4 rfl; omega
        | some ad => cases e
    · obtain ⟨b, off, rfl, hb, hl⟩ := h5 (by omega)
      have hck : ¬ c = k := by omega
      rw [if_neg hck]
      refine ⟨b, off + k * 2, ?_, hb, fun j r hj i v hi => ?_⟩
      · simp only [Option.map_some, add_at]
      · rw [List.getElem?_drop] at hj
        have := hl (k + j) r hj i v hi
        rw [show off + (k + j) * 2 + i = off + k * 2 + j * 2 + i by omega] at this
        exact this
/-- The same runs, from a block of one's own that nothing else writes into. -/
theorem NRun.grown {w w' : World} {a : Option Addr} {n c G : Nat} {l : List Rn} (h : NRun w a n c l) (hg : w.grownBy w' (some G)) (hne : ∀ b off, a = some ⟨b, off, none⟩ → ¬ b = G) : NRun w' a n c l := by
  obtain ⟨h1, h2, h3, h4, h5⟩ := h
  refine ⟨h1, h2, h3, h4, fun h0 => ?_⟩
  obtain ⟨b, off, e, hlt, hl⟩ := h5 h0
  exact ⟨b, off, e, Nat.lt_of_lt_of_le hlt hg.size, fun j r hj i v hi => (grown_cell hg hlt (fun e' => hne b off e (by cases e'; rfl))).trans (hl j r hj i v hi)⟩
/-- Runs written out, in a new block. -/
theorem nrun_heap {w : World} {N : Nat} {l : List Rn} {t : TypeId} (h : w.heap[N]? = some (.cells (ncells l).toArray t)) (hl : l.length ≤ 1000000) : NRun w (some ⟨N, 0, none⟩) l.length l.length l := by
  refine ⟨rfl, Nat.le_refl _, by unfold maxLen; omega, (fun e => by cases e), fun _ => ⟨N, 0, rfl, heap_lt h, fun j q hj i v hi => ?_⟩⟩
  rw [cell_of_row _ _ _ _ t (0, 0) h]
  have := ncells_get hj hi
  simpa using this
theorem eqN (a b x y : Int) (w : World) (n : Nat) : (Op.equalIn (n + 2) 65 (.agg #[.int .i64 a, .int .i64 b]) (.agg #[.int .i64 x, .int .i64 y])).run Try.prog w = .ok (a == x && b == y) w := by
  have u3 := Try.underlying2
  have a3 := Try.isAgg2
  have z3 := Try.sizeOf2
  rw [show n + 2 = (n + 1) + 1 from rfl, Op.equalIn]
  simp only [Sem.run_bind, run_underlying Try.underlying65, Result.andThen_ok]
  have hs : Try.prog.stoodInHeld 65 = false := by kernel_rfl
  have hp : Sem.run Try.prog program w = .ok Try.prog w := rfl
  simp only [hp, Result.andThen_ok, hs, Bool.false_eq_true, if_false, Sem.run_bind]
  simp only [← Array.forIn_toList, List.forIn_cons, List.forIn_nil]
  go_simp
  by_cases h1 : a = x <;> by_cases h2 : b = y <;> simp [h1, h2]
def qn (a b x y : Int) : Bool := a == x && b == y
theorem qn_iff {a b x y : Int} : qn a b x y = true ↔ a = x ∧ b = y := by unfold qn; simp
theorem eqN2 (a b x y : Int) (w : World) : (Op.equalIn 10000 65 (.agg #[.int .i64 a, .int .i64 b]) (.agg #[.int .i64 x, .int .i64 y])).run Try.prog w = .ok (qn a b x y) w := eqN a b x y w 9998

end Go.Proofs.Ytjkkajhjcinalaa

namespace Go.Proofs.Ytjkkajhjcinalaa
open Go.ChangeShapes Go.WideShapes Go.ChangeAt Go.RowKit
set_option linter.unusedVariables false
set_option linter.unusedSimpArgs false
set_option maxRecDepth 100000

/-- All together, or 0 of what may not be. -/
def tl (l : List Rn) : Int := if gd l then tot l else 0
theorem tl_yes {l : List Rn} (h : Bag l) : tl l = tot l := by unfold tl; rw [gd_yes h]; rfl
theorem tl_no {l : List Rn} (h : ¬ Bag l) : tl l = 0 := by unfold tl; rw [gd_no h]; rfl
theorem ret_no {l : List Rn} (h : ¬ Bag l) : Ending.returned (.tuple #[.int .i64 0, .bool false]) = .returned (.tuple #[.int .i64 (tl l), .bool (gd l)]) := by rw [tl_no h, gd_no h]
theorem ret_yes {l : List Rn} {T : Int} (h : Bag l) (e : tot l = T) : Ending.returned (.tuple #[.int .i64 T, .bool true]) = .returned (.tuple #[.int .i64 (tl l), .bool (gd l)]) := by rw [tl_yes h, gd_yes h, e]
theorem bag_no1 {l : List Rn} {k : Nat} {x0 x1 y0 y1 : Int} (hr : l[k]? = some (x0, x1)) (hq : l[k - 1]? = some (y0, y1)) (hk : 0 < k) (h : x0 ≤ y0) : ¬ Bag l := by
  intro hb
  have := (bag_at hb hr).1 _ hq hk
  simp at this
  omega
theorem bag_no2 {l : List Rn} {k : Nat} {x0 x1 : Int} (hr : l[k]? = some (x0, x1)) (h : x1 < 1) : ¬ Bag l := by
  intro hb
  have := (bag_at hb hr).2.1
  simp at this
  omega
theorem bag_no3 {l : List Rn} {k : Nat} {x0 x1 T : Int} (hr : l[k]? = some (x0, x1)) (hT : tot (l.take k) = T) (h : 1099511627776 - T < x1) : ¬ Bag l := by
  intro hb
  have := (bag_at hb hr).2.2.1
  simp at this
  omega
/-- The way of a loop through a bag. -/
def Bgn (l : List Rn) (k : Nat) (T : Int) : Prop := Bag (l.take k) ∧ tot (l.take k) = T ∧ 0 ≤ T ∧ T ≤ 1099511627776
theorem bgn_0 (l : List Rn) : Bgn l 0 0 := ⟨bag_nil, rfl, Int.le_refl _, by decide⟩
theorem bgn_step {l : List Rn} {k : Nat} {T x0 x1 : Int} (h : Bgn l k T) (hr : l[k]? = some (x0, x1)) (h1 : ∀ y0 y1, l[k - 1]? = some (y0, y1) → 0 < k → y0 < x0) (h2 : 1 ≤ x1) (h3 : x1 ≤ 1099511627776 - T) : Bgn l (k + 1) (T + x1) := by
  obtain ⟨hb, ht, h4, h5⟩ := h
  refine ⟨bag_step hb hr (fun q hq hk => ?_) h2 (by rw [ht]; exact h3), ?_, by omega, by omega⟩
  · obtain ⟨y0, y1⟩ := q; exact h1 y0 y1 hq hk
  · rw [tot_step hr, ht]
theorem bgn_all {l : List Rn} {k : Nat} {T : Int} (h : Bgn l k T) (hk : l.length ≤ k) : Bag l ∧ tot l = T := by
  have h1 := h.1; have h2 := h.2.1
  rw [List.take_of_length_le hk] at h1 h2
  exact ⟨h1, h2⟩

set_option maxHeartbeats 4000000 in
theorem tally_any (a : Option Addr) (n c : Nat) (l : List Rn) (w : World) (hl : NRun w a n c l) (hk : ∀ r ∈ l, nok r) :
    Calls Try.prog 101 #[.slice a n c] w fun e w' => e = .returned (.tuple #[.int .i64 (tl l), .bool (gd l)]) ∧ Below w.heap.size w w' := by
  have HL := hid hl
  have HK := hid hk
  obtain ⟨l1, l2⟩ := hl.lens
  have EL := hid l1
  have B0 := hid (bgn_0 l)
  clear hl hk l1
  go_enter Try.func101, Try.ntmps101
  go_wp2
  go_loopw [4, 9] (fun s i wr => ∃ (k : Nat) (T : Int), k ≤ n ∧ i = .int .i64 k ∧ s = .int .i64 T ∧ Hid (Bgn l k T) ∧ Hid (Below w.heap.size w wr)) (fun _ i _ => n - (intOf i).toNat)
  case atStart => exact ⟨0, 0, by omega, rfl, rfl, B0, hid (Below.refl _ _)⟩
  case round =>
    obtain ⟨k, T, hkn, rfl, rfl, BG, BW⟩ := hrel
    have hk0 : (0 : Int) ≤ (k : Int) := by omega
    have T0 := BG.out.2.2.1
    have T1 := BG.out.2.2.2
    by_cases hlt : k < n
    · have hki : (k : Int) < (n : Int) := by omega
      obtain ⟨b, off, x0, x1, rfl, hb, hr, p0, p1⟩ := HL.out.pick BW.out hlt
      have HR := hid hr
      have hn := HK.out _ (List.mem_of_getElem? hr)
      have X1a := hn.2.1
      have X1b := hn.2.2
      have hbw : b < wr.heap.size := Nat.lt_of_lt_of_le hb BW.out.size
      clear hr hn
      simp only at X1a X1b
      by_cases hkp : 0 < k
      · have hg : decide ((0 : Int) < (k : Int)) = true := decide_eq_true (by omega)
        have hgi : (0 : Int) < (k : Int) := by omega
        obtain ⟨j, hj⟩ : ∃ j, k - 1 = j := ⟨_, rfl⟩
        have hjk : (k : Int) - 1 = (j : Int) := by omega
        have hj0 : (0 : Int) ≤ (j : Int) := by omega
        have hjn : (j : Int) < (n : Int) := by omega
        obtain ⟨b', off', y0, y1, e', hb', hq, q0, q1⟩ := HL.out.pick BW.out (k := j) (by omega)
        cases e'
        have HQ := hid hq
        have HJ := hid hj
        have hwj : IntKind.i64.wrap ((k : Int) - 1) = (j : Int) := by rw [hjk]; exact IntWalk.i64_in _ (by omega)
        clear hq hj q1
        have n0 := ((bcell (b1alloc wr (.cells #[.int .i64 x0, .int .i64 x1] 65))).1 b (off + j * 2) hbw).trans q0
        by_cases hA : x0 ≤ y0
        · have hAd : decide (x0 ≤ y0) = true := decide_eq_true hA
          go_wp2
          all_goals (try go_quiet (fail))
          all_goals (try go_wp2)
          go_ret2
          exact ⟨ret_no (bag_no1 HR.out (HJ.out ▸ HQ.out) hkp hA), bdrewN (bt BW.out (b1alloc _ _))⟩
        · have hAd : decide (x0 ≤ y0) = false := decide_eq_false hA
          by_cases hB : x1 < 1
          · have hBd : decide (x1 < 1) = true := decide_eq_true hB
            go_wp2
            all_goals (try go_quiet (fail))
            all_goals (try go_wp2)
            go_ret2
            exact ⟨ret_no (bag_no2 HR.out hB), bdrewN (bt BW.out (b1alloc _ _))⟩
          · have hBd : decide (x1 < 1) = false := decide_eq_false hB
            by_cases hC : 1099511627776 - T < x1
            · have hCd : decide (1099511627776 - T < x1) = true := decide_eq_true hC
              go_wp2
              all_goals (try go_quiet (fail))
              all_goals (try go_wp2)
              go_ret2
              exact ⟨ret_no (bag_no3 HR.out BG.out.2.1 hC), bdrewN (bt BW.out (b1alloc _ _))⟩
            · have hCd : decide (1099511627776 - T < x1) = false := decide_eq_false hC
              go_wp2
              all_goals (try go_quiet (fail))
              all_goals (try go_wp2)
              go_roundw
              case rel => exact ⟨k + 1, T + x1, by omega, by go_num, rfl, hid (bgn_step BG.out HR.out (fun z0 z1 hz _ => by rw [HJ.out, HQ.out] at hz; cases hz; omega) (by omega) (by omega)), hid (bdrewN (bt BW.out (b1alloc _ _)))⟩
              case measure => simp [intOf]; omega
      · have hg : decide ((0 : Int) < (k : Int)) = false := decide_eq_false (by omega)
        by_cases hB : x1 < 1
        · have hBd : decide (x1 < 1) = true := decide_eq_true hB
          go_wp2
          all_goals (try go_quiet (fail))
          all_goals (try go_wp2)
          go_ret2
          exact ⟨ret_no (bag_no2 HR.out hB), bdrewN (bt BW.out (b1alloc _ _))⟩
        · have hBd : decide (x1 < 1) = false := decide_eq_false hB
          by_cases hC : 1099511627776 - T < x1
          · have hCd : decide (1099511627776 - T < x1) = true := decide_eq_true hC
            go_wp2
            all_goals (try go_quiet (fail))
            all_goals (try go_wp2)
            go_ret2
            exact ⟨ret_no (bag_no3 HR.out BG.out.2.1 hC), bdrewN (bt BW.out (b1alloc _ _))⟩
          · have hCd : decide (1099511627776 - T < x1) = false := decide_eq_false hC
            go_wp2
            all_goals (try go_quiet (fail))
            all_goals (try go_wp2)
            go_roundw
            case rel => exact ⟨k + 1, T + x1, by omega, by go_num, rfl, hid (bgn_step BG.out HR.out (fun z0 z1 hz hp => absurd hp hkp) (by omega) (by omega)), hid (bdrewN (bt BW.out (b1alloc _ _)))⟩
            case measure => simp [intOf]; omega
    · have hkf : decide ((k : Int) < (n : Int)) = false := decide_eq_false (by omega)
      obtain ⟨hbag, htot⟩ := bgn_all BG.out (by have := EL.out; omega)
      have HB := hid hbag
      have HT := hid htot
      clear hbag htot
      go_wp2
      go_ret2
      exact ⟨ret_yes HB.out HT.out, BW.out⟩

end Go.Proofs.Ytjkkajhjcinalaa

namespace Go.Proofs.Ytjkkajhjcinalaa
open Go.ChangeShapes Go.WideShapes Go.ChangeAt Go.RowKit
set_option linter.unusedVariables false
set_option linter.unusedSimpArgs false
set_option maxRecDepth 100000

theorem tally_m (a : Option Addr) (n c : Nat) (l : List Rn) (T : Int) (v : Bool) (w : World) (hl : NRun w a n c l) (hk : ∀ r ∈ l, nok r) (hT : Hid (tl l = T)) (hv : Hid (gd l = v)) :
    Calls Try.prog 101 #[.slice a n c] w fun e w' => e = .returned (.tuple #[.int .i64 T, .bool v]) ∧ Below w.heap.size w w' := by
  have := tally_any a n c l w hl hk
  rw [hT.out, hv.out] at this
  exact this
set_option maxHeartbeats 1000000 in
theorem good_m (a : Option Addr) (n c : Nat) (l : List Rn) (v : Bool) (w : World) (hl : NRun w a n c l) (hk : ∀ r ∈ l, nok r) (hv : Hid (gd l = v)) :
    Calls Try.prog 100 #[.slice a n c] w fun e w' => e = .returned (.bool v) ∧ Below w.heap.size w w' := by
  have HL := hid hl
  have HK := hid hk
  have hT : Hid (tl l = tl l) := rfl
  generalize tl l = T at hT
  clear hl hk
  go_enter Try.func100, Try.ntmps100
  go_wp2_with (go_at_call 101; refine (tally_m a n c l _ v _ HL.out HK.out (hid rfl) hv).mono ?_; rintro e w1 ⟨rfl, hb1⟩)
  go_ret
  exact ⟨rfl, hb1⟩
set_option maxHeartbeats 1000000 in
theorem count_m (a : Option Addr) (n c : Nat) (l : List Rn) (T : Int) (w : World) (hl : NRun w a n c l) (hk : ∀ r ∈ l, nok r) (hT : Hid (tl l = T)) :
    Calls Try.prog 96 #[.slice a n c] w fun e w' => e = .returned (.int .i64 T) ∧ Below w.heap.size w w' := by
  have HL := hid hl
  have HK := hid hk
  clear hl hk
  go_enter Try.func96, Try.ntmps96
  go_wp2_with (go_at_call 101; refine (tally_m a n c l T _ _ HL.out HK.out hT (hid rfl)).mono ?_; rintro e w1 ⟨rfl, hb1⟩)
  go_ret
  exact ⟨rfl, hb1⟩
end Go.Proofs.Ytjkkajhjcinalaa

namespace Go.Proofs.Ytjkkajhjcinalaa
open Go.ChangeShapes Go.WideShapes Go.ChangeAt Go.RowKit
set_option linter.unusedVariables false
set_option linter.unusedSimpArgs false
set_option maxRecDepth 100000

set_option maxHeartbeats 4000000 in
theorem rgood_any (a : Option Addr) (n c : Nat) (l : List Rn) (w : World) (hl : NRun w a n c l) (hk : ∀ r ∈ l, nok r) :
    Calls Try.prog 59 #[.slice a n c] w fun e w' => e = .returned (.bool (gd l)) ∧ Below w.heap.size w w' := by
  have HL := hid hl
  have HK := hid hk
  obtain ⟨l1, l2⟩ := hl.lens
  have EL := hid l1
  have B0 := hid (bgn_0 l)
  clear hl hk l1
  go_enter Try.func59, Try.ntmps59
  go_wp2
  go_loopw [3, 4] (fun s i wr => ∃ (k : Nat) (T : Int), k ≤ n ∧ i = .int .i64 k ∧ s = .int .i64 T ∧ Hid (Bgn l k T) ∧ Hid (Below w.heap.size w wr)) (fun _ i _ => n - (intOf i).toNat)
  case atStart => exact ⟨0, 0, by omega, rfl, rfl, B0, hid (Below.refl _ _)⟩
  case round =>
    obtain ⟨k, T, hkn, rfl, rfl, BG, BW⟩ := hrel
    have hk0 : (0 : Int) ≤ (k : Int) := by omega
    have T0 := BG.out.2.2.1
    have T1 := BG.out.2.2.2
    by_cases hlt : k < n
    · have hki : (k : Int) < (n : Int) := by omega
      obtain ⟨b, off, x0, x1, rfl, hb, hr, p0, p1⟩ := HL.out.pick BW.out hlt
      have HR := hid hr
      have hn := HK.out _ (List.mem_of_getElem? hr)
      have X1a := hn.2.1
      have X1b := hn.2.2
      have hbw : b < wr.heap.size := Nat.lt_of_lt_of_le hb BW.out.size
      clear hr hn
      simp only at X1a X1b
      by_cases hkp : 0 < k
      · have hg : decide ((0 : Int) < (k : Int)) = true := decide_eq_true (by omega)
        have hgi : (0 : Int) < (k : Int) := by omega
        obtain ⟨j, hj⟩ : ∃ j, k - 1 = j := ⟨_, rfl⟩
        have hjk : (k : Int) - 1 = (j : Int) := by omega
        have hj0 : (0 : Int) ≤ (j : Int) := by omega
        have hjn : (j : Int) < (n : Int) := by omega
        obtain ⟨b', off', y0, y1, e', hb', hq, q0, q1⟩ := HL.out.pick BW.out (k := j) (by omega)
        cases e'
        have HQ := hid hq
        have HJ := hid hj
        have hwj : IntKind.i64.wrap ((k : Int) - 1) = (j : Int) := by rw [hjk]; exact IntWalk.i64_in _ (by omega)
        clear hq hj q1
        by_cases hA : x0 ≤ y0
        · have hAd : decide (x0 ≤ y0) = true := decide_eq_true hA
          go_wp2
          all_goals (try go_quiet (fail))
          all_goals (try go_wp2)
          go_ret
          exact ⟨ret_bool (gd_no (bag_no1 HR.out (HJ.out ▸ HQ.out) hkp hA)).symm, bdrewN BW.out⟩
        · have hAd : decide (x0 ≤ y0) = false := decide_eq_false hA
          by_cases hB : x1 < 1
          · have hBd : decide (x1 < 1) = true := decide_eq_true hB
            go_wp2
            all_goals (try go_quiet (fail))
            all_goals (try go_wp2)
            go_ret
            exact ⟨ret_bool (gd_no (bag_no2 HR.out hB)).symm, bdrewN BW.out⟩
          · have hBd : decide (x1 < 1) = false := decide_eq_false hB
            by_cases hC : 1099511627776 - T < x1
            · have hCd : decide (1099511627776 - T < x1) = true := decide_eq_true hC
              go_wp2
              all_goals (try go_quiet (fail))
              all_goals (try go_wp2)
              go_ret
              exact ⟨ret_bool (gd_no (bag_no3 HR.out BG.out.2.1 hC)).symm, bdrewN BW.out⟩
            · have hCd : decide (1099511627776 - T < x1) = false := decide_eq_false hC
              go_wp2
              all_goals (try go_quiet (fail))
              all_goals (try go_wp2)
              go_roundw
              case rel => exact ⟨k + 1, T + x1, by omega, by go_num, rfl, hid (bgn_step BG.out HR.out (fun z0 z1 hz _ => by rw [HJ.out, HQ.out] at hz; cases hz; omega) (by omega) (by omega)), hid (bdrewN BW.out)⟩
              case measure => simp [intOf]; omega
      · have hg : decide ((0 : Int) < (k : Int)) = false := decide_eq_false (by omega)
        by_cases hB : x1 < 1
        · have hBd : decide (x1 < 1) = true := decide_eq_true hB
          go_wp2
          all_goals (try go_quiet (fail))
          all_goals (try go_wp2)
          go_ret
          exact ⟨ret_bool (gd_no (bag_no2 HR.out hB)).symm, bdrewN BW.out⟩
        · have hBd : decide (x1 < 1) = false := decide_eq_false hB
          by_cases hC : 1099511627776 - T < x1
          · have hCd : decide (1099511627776 - T < x1) = true := decide_eq_true hC
            go_wp2
            all_goals (try go_quiet (fail))
            all_goals (try go_wp2)
            go_ret
            exact ⟨ret_bool (gd_no (bag_no3 HR.out BG.out.2.1 hC)).symm, bdrewN BW.out⟩
          · have hCd : decide (1099511627776 - T < x1) = false := decide_eq_false hC
            go_wp2
            all_goals (try go_quiet (fail))
            all_goals (try go_wp2)
            go_roundw
            case rel => exact ⟨k + 1, T + x1, by omega, by go_num, rfl, hid (bgn_step BG.out HR.out (fun z0 z1 hz hp => absurd hp hkp) (by omega) (by omega)), hid (bdrewN BW.out)⟩
            case measure => simp [intOf]; omega
    · have hkf : decide ((k : Int) < (n : Int)) = false := decide_eq_false (by omega)
      obtain ⟨hbag, htot⟩ := bgn_all BG.out (by have := EL.out; omega)
      have HB := hid hbag
      clear hbag htot
      go_wp2
      go_ret
      exact ⟨ret_bool (gd_yes HB.out).symm, BW.out⟩
theorem rgood_m (a : Option Addr) (n c : Nat) (l : List Rn) (v : Bool) (w : World) (hl : NRun w a n c l) (hk : ∀ r ∈ l, nok r) (hv : Hid (gd l = v)) :
    Calls Try.prog 59 #[.slice a n c] w fun e w' => e = .returned (.bool v) ∧ Below w.heap.size w w' := by
  have := rgood_any a n c l w hl hk
  rw [hv.out] at this
  exact this

set_option maxHeartbeats 2000000 in
theorem rcount_any (a : Option Addr) (n c : Nat) (l : List Rn) (w : World) (hl : NRun w a n c l) (hk : ∀ r ∈ l, nok r) :
    Calls Try.prog 60 #[.slice a n c] w fun e w' => e = .returned (.int .i64 (tl l)) ∧ Below w.heap.size w w' := by
  have HL := hid hl
  have HK := hid hk
  obtain ⟨l1, l2⟩ := hl.lens
  have EL := hid l1
  clear hl hk l1
  cases hg : gd l with
  | false =>
    have e1 : tl l = 0 := by unfold tl; rw [hg]; rfl
    rw [e1]
    have HG := hid hg
    clear hg e1
    go_enter Try.func60, Try.ntmps60
    go_wp2
    refine wp_loop_rounds 1 ?_
    rw [rounds_succ]
    go_wp2_with (go_at_call 59; refine (rgood_m a n c l false _ HL.out HK.out HG).mono ?_; rintro e w1 ⟨rfl, hb1⟩)
    go_ret
    exact ⟨rfl, hb1⟩
  | true =>
    have hbag := gd_iff.1 hg
    have HB := hid hbag
    have e1 := hid (tl_yes hbag)
    have HG := hid hg
    clear hg hbag
    go_enter Try.func60, Try.ntmps60
    go_wp2
    go_loopw [3, 4] (fun s i wr => ∃ (k : Nat) (T : Int), k ≤ n ∧ i = .int .i64 k ∧ s = .int .i64 T ∧ Hid (tot (l.take k) = T) ∧ Hid (Below w.heap.size w wr)) (fun _ i _ => n - (intOf i).toNat)
    case atStart => exact ⟨0, 0, by omega, rfl, rfl, hid rfl, hid (Below.refl _ _)⟩
    case round =>
      obtain ⟨k, T, hkn, rfl, rfl, HT, BW⟩ := hrel
      have hk0 : (0 : Int) ≤ (k : Int) := by omega
      by_cases hlt : k < n
      · have hki : (k : Int) < (n : Int) := by omega
        obtain ⟨b, off, x0, x1, rfl, hb, hr, p0, p1⟩ := HL.out.pick BW.out hlt
        have HR := hid hr
        have hat := bag_at HB.out hr
        rw [HT.out] at hat
        have X1 := hat.2.1
        have X2 := hat.2.2.1
        have X3 := hat.2.2.2.1
        have hbw : b < wr.heap.size := Nat.lt_of_lt_of_le hb BW.out.size
        clear hr hat
        simp only at X1 X2
        go_wp2_with (go_at_call 59; refine (rgood_m _ n c l true _ (HL.out.below BW.out) HK.out HG).mono ?_; rintro e w1 ⟨rfl, hb1⟩; have B1 := hid (bt BW.out hb1); have q1 := ((bcell hb1).1 _ _ hbw).trans p1; clear hb1)
        go_roundw
        case rel => exact ⟨k + 1, T + x1, by omega, by go_num, rfl, hid (by rw [tot_step HR.out, HT.out]), B1⟩
        case measure => simp [intOf]; omega
      · have hkf : decide ((k : Int) < (n : Int)) = false := decide_eq_false (by omega)
        have HE : Hid (T = tl l) := hid (by rw [e1.out, ← HT.out, List.take_of_length_le (by have := EL.out; omega)])
        go_wp2_with (go_at_call 59; refine (rgood_m _ n c l true _ (HL.out.below BW.out) HK.out HG).mono ?_; rintro e w1 ⟨rfl, hb1⟩; have B1 := hid (bt BW.out hb1); clear hb1)
        go_ret
        exact ⟨ret_int HE.out, B1.out⟩
/-- How often, or 0 of what may not be. -/
def hs (v : Int) (l : List Rn) : Int := if gd l then cn v l else 0
theorem hs_yes {v : Int} {l : List Rn} (h : gd l = true) : hs v l = cn v l := by unfold hs; rw [h]; rfl
theorem hs_no {v : Int} {l : List Rn} (h : gd l = false) : hs v l = 0 := by unfold hs; rw [h]; rfl
theorem cn_absent {v : Int} {l : List Rn} (h : ∀ (j : Nat) (x0 x1 : Int), l[j]? = some (x0, x1) → ¬ x0 = v) : cn v l = 0 :=
  cn_none (fun r hr e => by
    obtain ⟨j, hj⟩ := List.mem_iff_getElem?.1 hr
    exact h j r.1 r.2 hj e)
set_option maxHeartbeats 2000000 in
theorem rhas_any (a : Option Addr) (n c : Nat) (l : List Rn) (v : Int) (w : World) (hl : NRun w a n c l) (hk : ∀ r ∈ l, nok r) :
    Calls Try.prog 81 #[.slice a n c, .int .i64 v] w fun e w' => e = .returned (.int .i64 (hs v l)) ∧ Below w.heap.size w w' := by
  have HL := hid hl
  have HK := hid hk
  obtain ⟨l1, l2⟩ := hl.lens
  have EL := hid l1
  clear hl hk l1
  cases hg : gd l with
  | false =>
    rw [hs_no hg]
    have HG := hid hg
    clear hg
    go_enter Try.func81, Try.ntmps81
    go_wp2
    refine wp_loop_rounds 1 ?_
    rw [rounds_succ]
    go_wp2_with (go_at_call 59; refine (rgood_m a n c l false _ HL.out HK.out HG).mono ?_; rintro e w1 ⟨rfl, hb1⟩)
    go_ret
    exact ⟨rfl, hb1⟩
  | true =>
    have hbag := gd_iff.1 hg
    have HB := hid hbag
    have e1 := hid (hs_yes (v := v) hg)
    have HG := hid hg
    clear hg hbag
    go_enter Try.func81, Try.ntmps81
    go_wp2
    go_loopw [5] (fun i wr => ∃ (k : Nat), k ≤ n ∧ i = .int .i64 k ∧ Hid (∀ j x0 x1, j < k → l[j]? = some (x0, x1) → ¬ x0 = v) ∧ Hid (Below w.heap.size w wr)) (fun i _ => n - (intOf i).toNat)
    case atStart => exact ⟨0, by omega, rfl, hid (fun j _ _ hj => by omega), hid (Below.refl _ _)⟩
    case round =>
      obtain ⟨k, hkn, rfl, HT, BW⟩ := hrel
      have hk0 : (0 : Int) ≤ (k : Int) := by omega
      by_cases hlt : k < n
      · have hki : (k : Int) < (n : Int) := by omega
        obtain ⟨b, off, x0, x1, rfl, hb, hr, p0, p1⟩ := HL.out.pick BW.out hlt
        have HR := hid hr
        have hbw : b < wr.heap.size := Nat.lt_of_lt_of_le hb BW.out.size
        clear hr
        by_cases hv : x0 = v
        · have hvd : (x0 == v) = true := by simpa using hv
          have HV := hid hv
          clear hv
          go_wp2_with (go_at_call 59; refine (rgood_m _ n c l true _ (HL.out.below BW.out) HK.out HG).mono ?_; rintro e w1 ⟨rfl, hb1⟩; have B1 := hid (bt BW.out hb1); have q0 := ((bcell hb1).1 _ _ hbw).trans p0; have q1 := ((bcell hb1).1 _ _ hbw).trans p1; clear hb1)
          go_ret
          exact ⟨ret_int (by have := cn_at HB.out.1 HR.out; simp only at this; rw [e1.out, ← HV.out, this]), B1.out⟩
        · have hvd : (x0 == v) = false := by simpa using hv
          have HV := hid hv
          clear hv
          go_wp2_with (go_at_call 59; refine (rgood_m _ n c l true _ (HL.out.below BW.out) HK.out HG).mono ?_; rintro e w1 ⟨rfl, hb1⟩; have B1 := hid (bt BW.out hb1); have q0 := ((bcell hb1).1 _ _ hbw).trans p0; clear hb1)
          go_roundw
          case rel =>
            refine ⟨k + 1, by omega, by go_num, hid (fun j z0 z1 hj hz => ?_), B1⟩
            by_cases hjk : j = k
            · subst hjk; rw [HR.out] at hz; cases hz; exact HV.out
            · exact HT.out j z0 z1 (by omega) hz
          case measure => simp [intOf]; omega
      · have hkf : decide ((k : Int) < (n : Int)) = false := decide_eq_false (by omega)
        have HE : Hid (0 = hs v l) := hid (by rw [e1.out, cn_absent (fun j x0 x1 hj => HT.out j x0 x1 (by have := (List.getElem?_eq_some_iff.1 hj).1; have := EL.out; omega) hj)])
        go_wp2_with (go_at_call 59; refine (rgood_m _ n c l true _ (HL.out.below BW.out) HK.out HG).mono ?_; rintro e w1 ⟨rfl, hb1⟩; have B1 := hid (bt BW.out hb1); clear hb1)
        go_ret
        exact ⟨ret_int HE.out, B1.out⟩

end Go.Proofs.Ytjkkajhjcinalaa

namespace Go.Proofs.Ytjkkajhjcinalaa
open Go.ChangeShapes Go.WideShapes Go.ChangeAt Go.RowKit
set_option linter.unusedVariables false
set_option linter.unusedSimpArgs false
set_option maxRecDepth 100000

def sm (l u : List Rn) : Bool := decide (l = u)
theorem sm_yes {l u : List Rn} (h : l = u) : sm l u = true := by unfold sm; rw [decide_eq_true_iff]; exact h
theorem sm_no {l u : List Rn} (h : ¬ l = u) : sm l u = false := by unfold sm; rw [decide_eq_false_iff_not]; exact h
theorem sm_at {l u : List Rn} {k : Nat} {x0 x1 y0 y1 : Int} (hr : l[k]? = some (x0, x1)) (hr' : u[k]? = some (y0, y1)) (h : ¬ (x0 = y0 ∧ x1 = y1)) : sm l u = false :=
  sm_no (fun e => by rw [e, hr'] at hr; cases hr; exact h ⟨rfl, rfl⟩)
set_option maxHeartbeats 2000000 in
theorem rsame_any (a1 a2 : Option Addr) (n c m d : Nat) (l u : List Rn) (w : World) (hl : NRun w a1 n c l) (hu : NRun w a2 m d u) :
    Calls Try.prog 57 #[.slice a1 n c, .slice a2 m d] w fun e w' => e = .returned (.bool (sm l u)) ∧ Below w.heap.size w w' := by
  have HL := hid hl
  have HU := hid hu
  obtain ⟨l1, l2⟩ := hl.lens
  obtain ⟨u1, u2⟩ := hu.lens
  have EL := hid l1
  have EU := hid u1
  have eqn := eqN2
  clear hl hu l1 u1
  by_cases hnm : n = m
  · subst hnm
    go_enter Try.func57, Try.ntmps57
    go_wp2
    go_loopw [5] (fun i wr => ∃ (k : Nat), k ≤ n ∧ i = .int .i64 k ∧ Hid (l.take k = u.take k) ∧ Hid (Below w.heap.size w wr)) (fun i _ => n - (intOf i).toNat)
    case atStart => exact ⟨0, by omega, rfl, hid rfl, hid (Below.refl _ _)⟩
    case round =>
      obtain ⟨k, hkn, rfl, HS, BW⟩ := hrel
      have hk0 : (0 : Int) ≤ (k : Int) := by omega
      by_cases hlt : k < n
      · have hki : (k : Int) < (n : Int) := by omega
        obtain ⟨b, off, x0, x1, rfl, hb, hr, p0, p1⟩ := HL.out.pick BW.out hlt
        obtain ⟨b', off', y0, y1, rfl, hb', hr', q0, q1⟩ := HU.out.pick BW.out hlt
        have HR := hid hr
        have HR' := hid hr'
        clear hr hr'
        by_cases he : x0 = y0 ∧ x1 = y1
        · obtain ⟨rfl, rfl⟩ := he
          have qxx : qn x0 x1 x0 x1 = true := qn_iff.2 ⟨rfl, rfl⟩
          go_wp2
          go_quiet (fail)
          go_wp2
          go_roundw
          case rel => exact ⟨k + 1, by omega, by go_num, hid (by rw [take_one HR.out, take_one HR'.out, HS.out]), hid (bdrewN BW.out)⟩
          case measure => simp [intOf]; omega
        · have qxx : qn x0 x1 y0 y1 = false := by
            cases h : qn x0 x1 y0 y1 with
            | false => rfl
            | true => exact absurd (qn_iff.1 h) he
          have HE := hid he
          clear he
          go_wp2
          go_quiet (fail)
          go_wp2
          go_ret
          exact ⟨ret_bool (sm_at HR.out HR'.out HE.out).symm, bdrewN BW.out⟩
      · have hkf : decide ((k : Int) < (n : Int)) = false := decide_eq_false (by omega)
        have HF : Hid (sm l u = true) := hid (sm_yes (by have h := HS.out; rw [List.take_of_length_le (by have := EL.out; omega), List.take_of_length_le (by have := EU.out; omega)] at h; exact h))
        go_wp2
        go_ret
        exact ⟨ret_bool HF.out.symm, BW.out⟩
  · have hnm' : ((n : Int) == (m : Int)) = false := by simp; omega
    have HF : Hid (sm l u = false) := hid (sm_no (fun e => hnm (by rw [EL.out, EU.out, e])))
    go_enter Try.func57, Try.ntmps57
    go_wp2
    go_ret
    exact ⟨ret_bool HF.out.symm, Below.refl _ _⟩
set_option maxHeartbeats 2000000 in
theorem equal_any (a1 a2 : Option Addr) (n c m d : Nat) (l u : List Rn) (w : World) (hl : NRun w a1 n c l) (hu : NRun w a2 m d u) :
    Calls Try.prog 102 #[.slice a1 n c, .slice a2 m d] w fun e w' => e = .returned (.bool (sm l u)) ∧ Below w.heap.size w w' := by
  have HL := hid hl
  have HU := hid hu
  obtain ⟨l1, l2⟩ := hl.lens
  obtain ⟨u1, u2⟩ := hu.lens
  have EL := hid l1
  have EU := hid u1
  have eqn := eqN2
  clear hl hu l1 u1
  by_cases hnm : n = m
  · subst hnm
    go_enter Try.func102, Try.ntmps102
    go_wp2
    go_loopw [13] (fun i wr => ∃ (k : Nat), k ≤ n ∧ i = .int .i64 k ∧ Hid (l.take k = u.take k) ∧ Hid (Below w.heap.size w wr)) (fun i _ => n - (intOf i).toNat)
    case atStart => exact ⟨0, by omega, rfl, hid rfl, hid (Below.refl _ _)⟩
    case round =>
      obtain ⟨k, hkn, rfl, HS, BW⟩ := hrel
      have hk0 : (0 : Int) ≤ (k : Int) := by omega
      by_cases hlt : k < n
      · have hki : (k : Int) < (n : Int) := by omega
        obtain ⟨b, off, x0, x1, rfl, hb, hr, p0, p1⟩ := HL.out.pick BW.out hlt
        obtain ⟨b', off', y0, y1, rfl, hb', hr', q0, q1⟩ := HU.out.pick BW.out hlt
        have HR := hid hr
        have HR' := hid hr'
        clear hr hr'
        by_cases he : x0 = y0 ∧ x1 = y1
        · obtain ⟨rfl, rfl⟩ := he
          have qxx : qn x0 x1 x0 x1 = true := qn_iff.2 ⟨rfl, rfl⟩
          go_wp2
          go_quiet (fail)
          go_wp2
          go_roundw
          case rel => exact ⟨k + 1, by omega, by go_num, hid (by rw [take_one HR.out, take_one HR'.out, HS.out]), hid (bdrewN BW.out)⟩
          case measure => simp [intOf]; omega
        · have qxx : qn x0 x1 y0 y1 = false := by
            cases h : qn x0 x1 y0 y1 with
            | false => rfl
            | true => exact absurd (qn_iff.1 h) he
          have HE := hid he
          clear he
          go_wp2
          go_quiet (fail)
          go_wp2
          go_ret
          exact ⟨ret_bool (sm_at HR.out HR'.out HE.out).symm, bdrewN BW.out⟩
      · have hkf : decide ((k : Int) < (n : Int)) = false := decide_eq_false (by omega)
        have HF : Hid (sm l u = true) := hid (sm_yes (by have h := HS.out; rw [List.take_of_length_le (by have := EL.out; omega), List.take_of_length_le (by have := EU.out; omega)] at h; exact h))
        go_wp2
        go_ret
        exact ⟨ret_bool HF.out.symm, BW.out⟩
  · have hnm' : ((n : Int) == (m : Int)) = false := by simp; omega
    have HF : Hid (sm l u = false) := hid (sm_no (fun e => hnm (by rw [EL.out, EU.out, e])))
    go_enter Try.func102, Try.ntmps102
    go_wp2
    go_ret
    exact ⟨ret_bool HF.out.symm, Below.refl _ _⟩
theorem rsame_m (a1 a2 : Option Addr) (n c m d : Nat) (l u : List Rn) (v : Bool) (w : World) (hl : NRun w a1 n c l) (hu : NRun w a2 m d u) (hv : Hid (sm l u = v)) :
    Calls Try.prog 57 #[.slice a1 n c, .slice a2 m d] w fun e w' => e = .returned (.bool v) ∧ Below w.heap.size w w' := by
  have := rsame_any a1 a2 n c m d l u w hl hu
  rw [hv.out] at this
  exact this
set_option maxHeartbeats 1000000 in
theorem same_m (a1 a2 : Option Addr) (n c m d : Nat) (l u : List Rn) (v : Bool) (w : World) (hl : NRun w a1 n c l) (hu : NRun w a2 m d u) (hv : Hid (sm l u = v)) :
    Calls Try.prog 68 #[.slice a1 n c, .slice a2 m d] w fun e w' => e = .returned (.bool v) ∧ Below w.heap.size w w' := by
  have h := equal_any a1 a2 n c m d l u w hl hu
  rw [hv.out] at h
  go_enter Try.func68, Try.ntmps68
  go_wp2_with (go_at_call 102; refine h.mono ?_; rintro e w1 ⟨rfl, hb1⟩)
  go_ret
  exact ⟨rfl, hb1⟩

end Go.Proofs.Ytjkkajhjcinalaa

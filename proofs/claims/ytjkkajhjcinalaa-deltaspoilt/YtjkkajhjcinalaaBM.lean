/-
  Bags as lists of runs: may they be, how often, both together, one without the other, what they come to.
  Conditions: as each theorem states them.
-/
import Derived.Test.YtjkkajhjcinalaaBL
namespace Go.Proofs.Ytjkkajhjcinalaa
open Go.RowKit
set_option linter.unusedVariables false
set_option linter.unusedSimpArgs false
set_option maxRecDepth 100000

/-- A run: a value, how often. -/
abbrev Rn := Int × Int
def tot : List Rn → Int | [] => 0 | r :: l => r.2 + tot l
def ltR (a b : Rn) : Prop := a.1 < b.1
def Srt (l : List Rn) : Prop := l.Pairwise ltR
def Pos (l : List Rn) : Prop := ∀ r ∈ l, 1 ≤ r.2
/-- May it be a bag? -/
def Bag (l : List Rn) : Prop := Srt l ∧ Pos l ∧ tot l ≤ 1099511627776
/-- .. as a truth. -/
def gd (l : List Rn) : Bool := decide (l.Pairwise (fun a b => a.1 < b.1) ∧ (∀ r ∈ l, 1 ≤ r.2) ∧ tot l ≤ 1099511627776)
theorem gd_yes {l : List Rn} (h : Bag l) : gd l = true := by unfold gd; rw [decide_eq_true_iff]; exact h
theorem gd_no {l : List Rn} (h : ¬ Bag l) : gd l = false := by unfold gd; rw [decide_eq_false_iff_not]; exact h
theorem gd_iff {l : List Rn} : gd l = true ↔ Bag l := ⟨fun h => by unfold gd at h; rw [decide_eq_true_iff] at h; exact h, gd_yes⟩
theorem tot_app (l m : List Rn) : tot (l ++ m) = tot l + tot m := by
  induction l with
  | nil => simp [tot]
  | cons r l ih => simp only [List.cons_append, tot, ih]; omega
theorem tot_nn {l : List Rn} (h : Pos l) : 0 ≤ tot l := by
  induction l with
  | nil => exact Int.le_refl _
  | cons r l ih =>
    have := h r (by simp)
    have := ih (fun q hq => h q (by simp [hq]))
    simp only [tot]; omega
theorem tot_take {l : List Rn} (h : Pos l) (k : Nat) : tot (l.take k) ≤ tot l := by
  have := tot_app (l.take k) (l.drop k); rw [List.take_append_drop] at this
  have := tot_nn (l := l.drop k) (fun q hq => h q (List.mem_of_mem_drop hq)); omega
theorem take_one {α : Type} {l : List α} {k : Nat} {r : α} (h : l[k]? = some r) : l.take (k + 1) = l.take k ++ [r] := by
  rw [List.take_add_one, h]; rfl
theorem tot_step {l : List Rn} {k : Nat} {r : Rn} (h : l[k]? = some r) : tot (l.take (k + 1)) = tot (l.take k) + r.2 := by
  rw [take_one h, tot_app]; simp [tot]
theorem bag_nil : Bag [] := ⟨List.Pairwise.nil, fun r hr => by simp at hr, by decide⟩
theorem bag_take {l : List Rn} (h : Bag l) (k : Nat) : Bag (l.take k) :=
  ⟨List.Pairwise.sublist (List.take_sublist k l) h.1, fun r hr => h.2.1 r (List.mem_of_mem_take hr), Int.le_trans (tot_take h.2.1 k) h.2.2⟩
theorem bag_drop {l : List Rn} (h : Bag l) (k : Nat) : Bag (l.drop k) := by
  refine ⟨List.Pairwise.sublist (List.drop_sublist k l) h.1, fun r hr => h.2.1 r (List.mem_of_mem_drop hr), ?_⟩
  have := tot_app (l.take k) (l.drop k); rw [List.take_append_drop] at this
  have := tot_nn (l := l.take k) (fun q hq => h.2.1 q (List.mem_of_mem_take hq))
  have := h.2.2
  omega
theorem srt_get {l : List Rn} (h : Srt l) {i j : Nat} {a b : Rn} (hi : l[i]? = some a) (hj : l[j]? = some b) (hij : i < j) : a.1 < b.1 := by
  obtain ⟨h1, rfl⟩ := List.getElem?_eq_some_iff.1 hi
  obtain ⟨h2, rfl⟩ := List.getElem?_eq_some_iff.1 hj
  exact List.pairwise_iff_getElem.mp h i j h1 h2 hij
theorem srt_snoc {l : List Rn} {r : Rn} (h : Srt l) (hr : ∀ x ∈ l, x.1 < r.1) : Srt (l ++ [r]) := by
  refine List.pairwise_append.2 ⟨h, List.pairwise_singleton _ _, fun x hx y hy => ?_⟩
  simp at hy; subst hy
  exact hr x hx
/-- One run more. -/
theorem bag_step {l : List Rn} {k : Nat} {r : Rn} (h : Bag (l.take k)) (hr : l[k]? = some r) (h1 : ∀ q, l[k - 1]? = some q → 0 < k → q.1 < r.1) (h2 : 1 ≤ r.2) (h3 : r.2 ≤ 1099511627776 - tot (l.take k)) : Bag (l.take (k + 1)) := by
  refine ⟨?_, ?_, ?_⟩
  · rw [take_one hr]
    refine srt_snoc h.1 (fun x hx => ?_)
    obtain ⟨i, hi⟩ := List.mem_iff_getElem?.1 hx
    rw [List.getElem?_take] at hi
    by_cases hik : i < k
    · rw [if_pos hik] at hi
      have hlt : k - 1 < l.length := by have := (List.getElem?_eq_some_iff.1 hr).1; omega
      have hq := List.getElem?_eq_getElem hlt
      have hqr := h1 _ hq (by omega)
      by_cases he : i = k - 1
      · subst he; rw [hi] at hq; cases hq; exact hqr
      · have : x.1 < (l[k - 1]).1 := srt_get h.1 (i := i) (j := k - 1) (by rw [List.getElem?_take, if_pos hik]; exact hi) (by rw [List.getElem?_take, if_pos (by omega)]; exact hq) (by omega)
        exact Int.lt_trans this hqr
    · rw [if_neg hik] at hi; cases hi
  · rw [take_one hr]
    intro x hx
    rcases List.mem_append.1 hx with hx | hx
    · exact h.2.1 x hx
    · simp at hx; subst hx; exact h2
  · rw [tot_step hr]; omega
/-- What a bag asks of each run. -/
theorem bag_at {l : List Rn} {k : Nat} {r : Rn} (h : Bag l) (hr : l[k]? = some r) : (∀ q, l[k - 1]? = some q → 0 < k → q.1 < r.1) ∧ 1 ≤ r.2 ∧ r.2 ≤ 1099511627776 - tot (l.take k) ∧ 0 ≤ tot (l.take k) ∧ tot (l.take k) ≤ 1099511627776 := by
  have hb := bag_take h (k + 1)
  have h0 := bag_take h k
  refine ⟨fun q hq hk => srt_get h.1 hq hr (by omega), h.2.1 r (List.mem_of_getElem? hr), ?_, tot_nn h0.2.1, h0.2.2⟩
  have := hb.2.2
  rw [tot_step hr] at this; omega

/-- How often. -/
def cn (v : Int) : List Rn → Int | [] => 0 | r :: l => (if r.1 = v then r.2 else 0) + cn v l
theorem cn_app (v : Int) (l m : List Rn) : cn v (l ++ m) = cn v l + cn v m := by
  induction l with
  | nil => simp [cn]
  | cons r l ih => simp only [List.cons_append, cn, ih]; omega
theorem cn_none {v : Int} {l : List Rn} (h : ∀ r ∈ l, ¬ r.1 = v) : cn v l = 0 := by
  induction l with
  | nil => rfl
  | cons r l ih =>
    simp only [cn, if_neg (h r (by simp)), ih (fun q hq => h q (by simp [hq]))]; omega
theorem cn_nn {v : Int} {l : List Rn} (h : Pos l) : 0 ≤ cn v l := by
  induction l with
  | nil => exact Int.le_refl _
  | cons r l ih =>
    have := h r (by simp)
    have := ih (fun q hq => h q (by simp [hq]))
    simp only [cn]; split <;> omega
theorem cn_le {v : Int} {l : List Rn} (h : Pos l) : cn v l ≤ tot l := by
  induction l with
  | nil => exact Int.le_refl _
  | cons r l ih =>
    have := h r (by simp)
    have := ih (fun q hq => h q (by simp [hq]))
    simp only [cn, tot]; split <;> omega
theorem cn_at {l : List Rn} (h : Srt l) {k : Nat} {r : Rn} (hr : l[k]? = some r) : cn r.1 l = r.2 := by
  induction l generalizing k with
  | nil => simp at hr
  | cons q l ih =>
    rw [Srt, List.pairwise_cons] at h
    cases k with
    | zero =>
      simp at hr; subst hr
      simp only [cn, if_pos]
      rw [cn_none (fun x hx e => by have := h.1 x hx; unfold ltR at this; omega)]; omega
    | succ k =>
      simp at hr
      have := h.1 r (List.mem_of_getElem? hr)
      unfold ltR at this
      simp only [cn]
      rw [if_neg (by omega), ih h.2 hr]; omega
theorem cn_lt {l : List Rn} {v : Int} (h : ∀ r ∈ l, r.1 < v) : cn v l = 0 := cn_none (fun r hr e => by have := h r hr; omega)
theorem cn_gt {l : List Rn} {v : Int} (h : ∀ r ∈ l, v < r.1) : cn v l = 0 := cn_none (fun r hr e => by have := h r hr; omega)
theorem cn_pos_mem {v : Int} {l : List Rn} (h : cn v l ≠ 0) : ∃ r ∈ l, r.1 = v := by
  by_cases hh : ∃ r ∈ l, r.1 = v
  · exact hh
  · exact absurd (cn_none (fun r hr e => hh ⟨r, hr, e⟩)) h
/-- Two rising lists of runs, none of none, are alike if each value is there as often. -/
def Nz (l : List Rn) : Prop := ∀ r ∈ l, ¬ r.2 = 0
theorem pos_nz {l : List Rn} (h : Pos l) : Nz l := fun r hr e => by have := h r hr; omega
theorem runs_ext {l m : List Rn} (hl : Srt l) (zl : Nz l) (hm : Srt m) (zm : Nz m) (h : ∀ v, cn v l = cn v m) : l = m := by
  induction l generalizing m with
  | nil =>
    cases m with
    | nil => rfl
    | cons y m =>
      exfalso
      have := cn_at hm (k := 0) (r := y) rfl
      rw [← h] at this
      exact zm y (by simp) this.symm
  | cons x l ih =>
    cases m with
    | nil =>
      exfalso
      have := cn_at hl (k := 0) (r := x) rfl
      rw [h] at this
      exact zl x (by simp) this.symm
    | cons y m =>
      have hl' := hl
      have hm' := hm
      rw [Srt, List.pairwise_cons] at hl' hm'
      have ex := cn_at hl (k := 0) (r := x) rfl
      have ey := cn_at hm (k := 0) (r := y) rfl
      have nx := zl x (by simp)
      have ny := zm y (by simp)
      have e1 : x.1 = y.1 := by
        by_cases h1 : x.1 < y.1
        · exfalso
          have h2 := h x.1
          have h3 : cn x.1 (y :: m) = 0 := cn_gt (fun r hr => by
            rcases List.mem_cons.1 hr with rfl | hr
            · exact h1
            · have := hm'.1 r hr; unfold ltR at this; omega)
          rw [ex, h3] at h2
          exact nx h2
        · by_cases h2 : y.1 < x.1
          · exfalso
            have h4 := h y.1
            have h3 : cn y.1 (x :: l) = 0 := cn_gt (fun r hr => by
              rcases List.mem_cons.1 hr with rfl | hr
              · exact h2
              · have := hl'.1 r hr; unfold ltR at this; omega)
            rw [ey, h3] at h4
            exact ny h4.symm
          · omega
      have e2 : x.2 = y.2 := by
        have := h x.1
        rw [ex, e1, ey] at this
        exact this
      have exy : x = y := Prod.ext e1 e2
      subst exy
      congr 1
      refine ih hl'.2 (fun r hr => zl r (by simp [hr])) hm'.2 (fun r hr => zm r (by simp [hr])) (fun v => ?_)
      have := h v
      simp only [cn] at this
      omega

/-- A value, so often more (or less), in its order. -/
def lay (v n : Int) : List Rn → List Rn
  | [] => [(v, n)]
  | x :: l => if x.1 < v then x :: lay v n l else if v < x.1 then (v, n) :: x :: l else if x.2 + n = 0 then l else (x.1, x.2 + n) :: l
theorem lay_cn (v n : Int) (l : List Rn) (u : Int) : cn u (lay v n l) = cn u l + (if u = v then n else 0) := by
  induction l with
  | nil => simp only [lay, cn]; split <;> split <;> omega
  | cons x l ih =>
    simp only [lay]
    split
    · simp only [cn, ih]; omega
    · split
      · simp only [cn]; split <;> split <;> split <;> omega
      · split
        · simp only [cn]; split <;> split <;> omega
        · simp only [cn]; split <;> split <;> omega
theorem lay_mem {v n : Int} {l : List Rn} {r : Rn} (h : r ∈ lay v n l) : r.1 = v ∨ r ∈ l := by
  induction l with
  | nil => simp [lay] at h; left; rw [h]
  | cons x l ih =>
    simp only [lay] at h
    split at h
    · rcases List.mem_cons.1 h with rfl | h
      · right; simp
      · rcases ih h with h | h
        · left; exact h
        · right; simp [h]
    · split at h
      · rcases List.mem_cons.1 h with rfl | h
        · left; rfl
        · right; exact h
      · split at h
        · right; simp [h]
        · rcases List.mem_cons.1 h with rfl | h
          · left; show x.1 = v; omega
          · right; simp [h]
theorem lay_srt {v n : Int} {l : List Rn} (h : Srt l) : Srt (lay v n l) := by
  induction l with
  | nil => exact List.pairwise_singleton _ _
  | cons x l ih =>
    have h' := h
    rw [Srt, List.pairwise_cons] at h'
    simp only [lay]
    split
    · rename_i hx
      rw [Srt, List.pairwise_cons]
      refine ⟨fun r hr => ?_, ih h'.2⟩
      rcases lay_mem hr with e | hr
      · unfold ltR; omega
      · exact h'.1 r hr
    · split
      · rename_i hx
        rw [Srt, List.pairwise_cons]
        refine ⟨fun r hr => ?_, h⟩
        rcases List.mem_cons.1 hr with rfl | hr
        · exact hx
        · have := h'.1 r hr; unfold ltR at *; exact Int.lt_trans hx this
      · split
        · exact h'.2
        · rw [Srt, List.pairwise_cons]
          exact ⟨fun r hr => h'.1 r hr, h'.2⟩
theorem lay_nz {v n : Int} {l : List Rn} (h : Nz l) (hn : ¬ n = 0) : Nz (lay v n l) := by
  induction l with
  | nil => intro r hr; simp [lay] at hr; subst hr; exact hn
  | cons x l ih =>
    have h0 := h x (by simp)
    have h1 : Nz l := fun r hr => h r (by simp [hr])
    simp only [lay]
    split
    · intro r hr
      rcases List.mem_cons.1 hr with rfl | hr
      · exact h0
      · exact ih h1 r hr
    · split
      · intro r hr
        rcases List.mem_cons.1 hr with rfl | hr
        · exact hn
        · exact h r hr
      · split
        · exact h1
        · rename_i hz
          intro r hr
          rcases List.mem_cons.1 hr with rfl | hr
          · exact hz
          · exact h1 r hr
/-- .. and as the document's loop goes on. -/
theorem lay_low {v n : Int} {l : List Rn} (h : ∀ r ∈ l, r.1 < v) : lay v n l = l ++ [(v, n)] := by
  induction l with
  | nil => rfl
  | cons x l ih =>
    simp only [lay, if_pos (h x (by simp)), ih (fun r hr => h r (by simp [hr])), List.cons_append]
theorem lay_snoc {v n : Int} {l : List Rn} {x : Rn} (h : ∃ r ∈ l, v ≤ r.1) : lay v n (l ++ [x]) = lay v n l ++ [x] := by
  induction l with
  | nil => obtain ⟨r, hr, _⟩ := h; cases hr
  | cons y l ih =>
    simp only [List.cons_append, lay]
    split
    · rename_i hy
      rw [ih (by
        obtain ⟨r, hr, hv⟩ := h
        rcases List.mem_cons.1 hr with rfl | hr
        · omega
        · exact ⟨r, hr, hv⟩)]
      rfl
    · split
      · rfl
      · split <;> rfl
theorem lay_above {v n : Int} {l : List Rn} {x : Rn} (h : ∀ r ∈ l, r.1 < v) (hx : v < x.1) : lay v n (l ++ [x]) = l ++ [(v, n)] ++ [x] := by
  induction l with
  | nil => simp only [List.nil_append, lay]; rw [if_neg (by omega), if_pos hx]; rfl
  | cons y l ih =>
    simp only [List.cons_append, lay, if_pos (h y (by simp)), ih (fun r hr => h r (by simp [hr]))]
theorem lay_here {v n : Int} {l : List Rn} {x : Rn} (h : ∀ r ∈ l, r.1 < v) (hx : x.1 = v) : lay v n (l ++ [x]) = if x.2 + n = 0 then l else l ++ [(x.1, x.2 + n)] := by
  induction l with
  | nil => simp only [List.nil_append, lay]; rw [if_neg (by omega), if_neg (by omega)]
  | cons y l ih =>
    simp only [List.cons_append, lay, if_pos (h y (by simp)), ih (fun r hr => h r (by simp [hr]))]
    split <;> rfl
theorem lay_len {v n : Int} {l : List Rn} : (lay v n l).length ≤ l.length + 1 := by
  induction l with
  | nil => exact Nat.le_refl _
  | cons x l ih =>
    simp only [lay]
    split
    · simp; omega
    · split
      · simp
      · split
        · simp; omega
        · simp

/-- What all come to. -/
def wsum : List Rn → Int | [] => 0 | r :: l => r.1 * r.2 + wsum l
theorem wsum_app (l m : List Rn) : wsum (l ++ m) = wsum l + wsum m := by
  induction l with
  | nil => simp [wsum]
  | cons r l ih => simp only [List.cons_append, wsum, ih]; omega
theorem wsum_step {l : List Rn} {k : Nat} {r : Rn} (h : l[k]? = some r) : wsum (l.take (k + 1)) = wsum (l.take k) + r.1 * r.2 := by
  rw [take_one h, wsum_app]; simp [wsum]
theorem mul_bdd {a b : Int} (ha : -9223372036854775808 ≤ a ∧ a ≤ 9223372036854775807) (hb : 0 ≤ b) : -9223372036854775808 * b ≤ a * b ∧ a * b ≤ 9223372036854775808 * b :=
  ⟨Int.mul_le_mul_of_nonneg_right ha.1 hb, Int.mul_le_mul_of_nonneg_right (by omega) hb⟩
theorem wsum_bd {l : List Rn} (h : ∀ r ∈ l, I64 r.1) (hp : Pos l) : -9223372036854775808 * tot l ≤ wsum l ∧ wsum l ≤ 9223372036854775808 * tot l := by
  induction l with
  | nil => simp [wsum, tot]
  | cons r l ih =>
    have h1 := ih (fun q hq => h q (by simp [hq])) (fun q hq => hp q (by simp [hq]))
    have h2 := mul_bdd (h r (by simp)) (b := r.2) (by have := hp r (by simp); omega)
    simp only [wsum, tot]
    omega
theorem wsum_lay (v n : Int) (l : List Rn) : wsum (lay v n l) = wsum l + v * n := by
  induction l with
  | nil => simp [lay, wsum]
  | cons x l ih =>
    simp only [lay]
    split
    · simp only [wsum, ih]; omega
    · split
      · simp only [wsum]; omega
      · have e : x.1 = v := by omega
        split
        · rename_i hz
          have : x.1 * x.2 + v * n = 0 := by rw [e, ← Int.mul_add, hz, Int.mul_zero]
          simp only [wsum]; omega
        · have : x.1 * (x.2 + n) = x.1 * x.2 + v * n := by rw [Int.mul_add, e]
          simp only [wsum]; omega

/-- The bag of values, as the document has it: one laid behind the other. -/
def ofl : List Rn → List Int → List Rn | b, [] => b | b, x :: l => ofl (lay x 1 b) l
def bagOf (l : List Int) : List Rn := ofl [] l
theorem ofl_app (b : List Rn) (l m : List Int) : ofl b (l ++ m) = ofl (ofl b l) m := by
  induction l generalizing b with
  | nil => rfl
  | cons x l ih => exact ih _
theorem bagOf_step {l : List Int} {k : Nat} {x : Int} (h : l[k]? = some x) : bagOf (l.take (k + 1)) = lay x 1 (bagOf (l.take k)) := by
  unfold bagOf; rw [take_one h, ofl_app]; rfl
/-- How often a value stands in a list. -/
def oc (v : Int) : List Int → Int | [] => 0 | x :: l => (if x = v then 1 else 0) + oc v l
theorem oc_app (v : Int) (l m : List Int) : oc v (l ++ m) = oc v l + oc v m := by
  induction l with
  | nil => simp [oc]
  | cons r l ih => simp only [List.cons_append, oc, ih]; omega
theorem oc_perm (v : Int) {l m : List Int} (h : l.Perm m) : oc v l = oc v m := by
  induction h with
  | nil => rfl
  | cons a _ ih => simp only [oc, ih]
  | swap a b l => simp only [oc]; omega
  | trans _ _ h1 h2 => exact h1.trans h2
theorem oc_bd (v : Int) (l : List Int) : 0 ≤ oc v l ∧ oc v l ≤ l.length := by
  induction l with
  | nil => exact ⟨Int.le_refl _, Int.le_refl _⟩
  | cons x l ih => simp only [oc, List.length_cons]; split <;> omega
theorem ofl_cn (b : List Rn) (l : List Int) (v : Int) : cn v (ofl b l) = cn v b + oc v l := by
  induction l generalizing b with
  | nil => simp [ofl, oc]
  | cons x l ih => simp only [ofl, ih, lay_cn, oc]; split <;> split <;> omega
theorem lay_pos {v n : Int} {l : List Rn} (h : Pos l) (hn : 1 ≤ n) : Pos (lay v n l) := by
  induction l with
  | nil => intro r hr; simp [lay] at hr; subst hr; exact hn
  | cons x l ih =>
    have h0 := h x (by simp)
    have h1 : Pos l := fun r hr => h r (by simp [hr])
    simp only [lay]
    split
    · intro r hr
      rcases List.mem_cons.1 hr with rfl | hr
      · exact h0
      · exact ih h1 r hr
    · split
      · intro r hr
        rcases List.mem_cons.1 hr with rfl | hr
        · exact hn
        · exact h r hr
      · split
        · exact h1
        · intro r hr
          rcases List.mem_cons.1 hr with rfl | hr
          · show 1 ≤ x.2 + n; omega
          · exact h1 r hr
theorem lay_tot {v n : Int} {l : List Rn} : tot (lay v n l) = tot l + n := by
  induction l with
  | nil => simp [lay, tot]
  | cons x l ih =>
    simp only [lay]
    split
    · simp only [tot, ih]; omega
    · split
      · simp only [tot]; omega
      · split
        · simp only [tot]; omega
        · simp only [tot]; omega
theorem ofl_srt {b : List Rn} (h : Srt b) (l : List Int) : Srt (ofl b l) := by
  induction l generalizing b with
  | nil => exact h
  | cons x l ih => exact ih (lay_srt h)
theorem ofl_pos {b : List Rn} (h : Pos b) (l : List Int) : Pos (ofl b l) := by
  induction l generalizing b with
  | nil => exact h
  | cons x l ih => exact ih (lay_pos h (by omega))
theorem ofl_tot (b : List Rn) (l : List Int) : tot (ofl b l) = tot b + l.length := by
  induction l generalizing b with
  | nil => simp [ofl]
  | cons x l ih => simp only [ofl, ih, lay_tot, List.length_cons]; omega
theorem ofl_len (b : List Rn) (l : List Int) : (ofl b l).length ≤ b.length + l.length := by
  induction l generalizing b with
  | nil => simp [ofl]
  | cons x l ih => have := ih (lay x 1 b); have := lay_len (v := x) (n := 1) (l := b); simp only [ofl, List.length_cons]; omega
theorem pos_nil : Pos [] := fun r hr => by simp at hr
theorem srt_nil : Srt [] := List.Pairwise.nil
theorem bagOf_srt (l : List Int) : Srt (bagOf l) := ofl_srt srt_nil l
theorem bagOf_pos (l : List Int) : Pos (bagOf l) := ofl_pos pos_nil l
theorem bagOf_cn (l : List Int) (v : Int) : cn v (bagOf l) = oc v l := by unfold bagOf; rw [ofl_cn]; simp [cn]
theorem bagOf_tot (l : List Int) : tot (bagOf l) = l.length := by unfold bagOf; rw [ofl_tot]; simp [tot]
theorem bagOf_len (l : List Int) : (bagOf l).length ≤ l.length := by have := ofl_len [] l; simpa [bagOf] using this
theorem bagOf_bag {l : List Int} (h : l.length ≤ 1000000) : Bag (bagOf l) := ⟨bagOf_srt l, bagOf_pos l, by rw [bagOf_tot]; omega⟩
theorem ofl_wsum (b : List Rn) (l : List Int) : wsum (ofl b l) = wsum b + l.foldr (· + ·) 0 := by
  induction l generalizing b with
  | nil => simp [ofl]
  | cons x l ih => simp only [ofl, ih, wsum_lay, List.foldr_cons]; omega
theorem ofl_mem {b : List Rn} {l : List Int} {r : Rn} (h : r ∈ ofl b l) : (∃ q ∈ b, q.1 = r.1) ∨ r.1 ∈ l := by
  induction l generalizing b with
  | nil => left; exact ⟨r, h, rfl⟩
  | cons x l ih =>
    rcases ih h with ⟨q, hq, e⟩ | h
    · rcases lay_mem hq with e' | hq
      · right; rw [← e, e']; simp
      · left; exact ⟨q, hq, e⟩
    · right; simp [h]
theorem bagOf_mem {l : List Int} {r : Rn} (h : r ∈ bagOf l) : r.1 ∈ l := by
  rcases ofl_mem h with ⟨q, hq, _⟩ | h
  · cases hq
  · exact h
/-- Whatever list of runs rises, has none of none, and each value as often: it is the bag of the values. -/
theorem bagOf_is {l : List Int} {m : List Rn} (hs : Srt m) (hz : Nz m) (h : ∀ v, cn v m = oc v l) : m = bagOf l :=
  runs_ext hs hz (bagOf_srt l) (pos_nz (bagOf_pos l)) (fun v => by rw [h, bagOf_cn])
theorem bagOf_perm {l m : List Int} (h : l.Perm m) : bagOf l = bagOf m :=
  bagOf_is (bagOf_srt l) (pos_nz (bagOf_pos l)) (fun v => by rw [bagOf_cn, oc_perm v h])

/-- Both together, as the document has it. -/
def jnl : List Rn → List Rn → List Rn | a, [] => a | a, r :: b => jnl (lay r.1 r.2 a) b
theorem jnl_app (a b c : List Rn) : jnl a (b ++ c) = jnl (jnl a b) c := by
  induction b generalizing a with
  | nil => rfl
  | cons x l ih => exact ih _
theorem jnl_step {a b : List Rn} {k : Nat} {r : Rn} (h : b[k]? = some r) : jnl a (b.take (k + 1)) = lay r.1 r.2 (jnl a (b.take k)) := by
  rw [take_one h, jnl_app]; rfl
theorem jnl_cn (a b : List Rn) (v : Int) : cn v (jnl a b) = cn v a + cn v b := by
  induction b generalizing a with
  | nil => simp [jnl, cn]
  | cons x l ih => simp only [jnl, ih, lay_cn, cn]; split <;> split <;> omega
theorem jnl_srt {a : List Rn} (h : Srt a) (b : List Rn) : Srt (jnl a b) := by
  induction b generalizing a with
  | nil => exact h
  | cons x l ih => exact ih (lay_srt h)
theorem jnl_pos {a b : List Rn} (h : Pos a) (hb : Pos b) : Pos (jnl a b) := by
  induction b generalizing a with
  | nil => exact h
  | cons x l ih => exact ih (lay_pos h (hb x (by simp))) (fun r hr => hb r (by simp [hr]))
theorem jnl_tot (a b : List Rn) : tot (jnl a b) = tot a + tot b := by
  induction b generalizing a with
  | nil => simp [jnl, tot]
  | cons x l ih => simp only [jnl, ih, lay_tot, tot]; omega
theorem jnl_len (a b : List Rn) : (jnl a b).length ≤ a.length + b.length := by
  induction b generalizing a with
  | nil => simp [jnl]
  | cons x l ih => have := ih (lay x.1 x.2 a); have := lay_len (v := x.1) (n := x.2) (l := a); simp only [jnl, List.length_cons]; omega
theorem jnl_mem {a b : List Rn} {r : Rn} (h : r ∈ jnl a b) : (∃ q ∈ a, q.1 = r.1) ∨ ∃ q ∈ b, q.1 = r.1 := by
  induction b generalizing a with
  | nil => left; exact ⟨r, h, rfl⟩
  | cons x l ih =>
    rcases ih h with ⟨q, hq, e⟩ | ⟨q, hq, e⟩
    · rcases lay_mem hq with e' | hq
      · right; exact ⟨x, by simp, by omega⟩
      · left; exact ⟨q, hq, e⟩
    · right; exact ⟨q, by simp [hq], e⟩
theorem jnl_is {a b m : List Rn} (ha : Srt a) (pa : Pos a) (pb : Pos b) (hs : Srt m) (hz : Nz m) (h : ∀ v, cn v m = cn v a + cn v b) : m = jnl a b :=
  runs_ext hs hz (jnl_srt ha b) (pos_nz (jnl_pos pa pb)) (fun v => by rw [h, jnl_cn])
theorem jnl_comm {a b : List Rn} (ha : Srt a) (pa : Pos a) (hb : Srt b) (pb : Pos b) : jnl a b = jnl b a :=
  jnl_is hb pb pa (jnl_srt ha b) (pos_nz (jnl_pos pa pb)) (fun v => by rw [jnl_cn]; omega)

/-- One without the other, as the document has it. -/
def mnl : List Rn → List Rn → List Rn | a, [] => a | a, r :: b => mnl (lay r.1 (-r.2) a) b
theorem mnl_app (a b c : List Rn) : mnl a (b ++ c) = mnl (mnl a b) c := by
  induction b generalizing a with
  | nil => rfl
  | cons x l ih => exact ih _
theorem mnl_step {a b : List Rn} {k : Nat} {r : Rn} (h : b[k]? = some r) : mnl a (b.take (k + 1)) = lay r.1 (-r.2) (mnl a (b.take k)) := by
  rw [take_one h, mnl_app]; rfl
theorem mnl_cn (a b : List Rn) (v : Int) : cn v (mnl a b) = cn v a - cn v b := by
  induction b generalizing a with
  | nil => simp [mnl, cn]
  | cons x l ih => simp only [mnl, ih, lay_cn, cn]; split <;> split <;> omega
theorem mnl_srt {a : List Rn} (h : Srt a) (b : List Rn) : Srt (mnl a b) := by
  induction b generalizing a with
  | nil => exact h
  | cons x l ih => exact ih (lay_srt h)
theorem mnl_nz {a b : List Rn} (h : Nz a) (hb : Pos b) : Nz (mnl a b) := by
  induction b generalizing a with
  | nil => exact h
  | cons x l ih => exact ih (lay_nz h (by have := hb x (by simp); omega)) (fun r hr => hb r (by simp [hr]))
theorem mnl_len (a b : List Rn) : (mnl a b).length ≤ a.length + b.length := by
  induction b generalizing a with
  | nil => simp [mnl]
  | cons x l ih => have := ih (lay x.1 (-x.2) a); have := lay_len (v := x.1) (n := -x.2) (l := a); simp only [mnl, List.length_cons]; omega
theorem mnl_mem {a b : List Rn} {r : Rn} (h : r ∈ mnl a b) : (∃ q ∈ a, q.1 = r.1) ∨ ∃ q ∈ b, q.1 = r.1 := by
  induction b generalizing a with
  | nil => left; exact ⟨r, h, rfl⟩
  | cons x l ih =>
    rcases ih h with ⟨q, hq, e⟩ | ⟨q, hq, e⟩
    · rcases lay_mem hq with e' | hq
      · right; exact ⟨x, by simp, by omega⟩
      · left; exact ⟨q, hq, e⟩
    · right; exact ⟨q, by simp [hq], e⟩
theorem mnl_is {a b m : List Rn} (ha : Srt a) (za : Nz a) (pb : Pos b) (hs : Srt m) (hz : Nz m) (h : ∀ v, cn v m = cn v a - cn v b) : m = mnl a b :=
  runs_ext hs hz (mnl_srt ha b) (mnl_nz za pb) (fun v => by rw [h, mnl_cn])
/-- Is each value of b in a as often? -/
def Fits (a b : List Rn) : Prop := ∀ r ∈ b, r.2 ≤ cn r.1 a
def fits (a b : List Rn) : Bool := decide (∀ r ∈ b, r.2 ≤ cn r.1 a)
theorem fits_yes {a b : List Rn} (h : Fits a b) : fits a b = true := by unfold fits; rw [decide_eq_true_iff]; exact h
theorem fits_no {a b : List Rn} (h : ¬ Fits a b) : fits a b = false := by unfold fits; rw [decide_eq_false_iff_not]; exact h
theorem fits_cn {a b : List Rn} (h : Fits a b) (hb : Srt b) (pa : Pos a) (v : Int) : cn v b ≤ cn v a := by
  by_cases hv : cn v b = 0
  · rw [hv]; exact cn_nn pa
  · obtain ⟨r, hr, e⟩ := cn_pos_mem hv
    obtain ⟨k, hk⟩ := List.mem_iff_getElem?.1 hr
    have := cn_at hb hk
    have := h r hr
    rw [e] at *
    omega
theorem cn_srt_eq {m : List Rn} (hs : Srt m) {r : Rn} (hr : r ∈ m) : cn r.1 m = r.2 := by
  obtain ⟨k, hk⟩ := List.mem_iff_getElem?.1 hr
  exact cn_at hs hk
theorem mnl_pos {a b : List Rn} (ha : Srt a) (pa : Pos a) (hb : Srt b) (pb : Pos b) (h : Fits a b) : Pos (mnl a b) := by
  intro r hr
  have h1 := cn_srt_eq (mnl_srt ha b) hr
  have h2 := mnl_nz (pos_nz pa) pb r hr
  have h3 := fits_cn h hb pa r.1
  rw [mnl_cn] at h1
  omega
theorem mnl_tot (a b : List Rn) : tot (mnl a b) = tot a - tot b := by
  induction b generalizing a with
  | nil => simp [mnl, tot]
  | cons x l ih => simp only [mnl, ih, lay_tot, tot]; omega
/-- What the numbers are on the way. -/
theorem jnl_bd {a b : List Rn} (ha : Srt a) (pa : Pos a) (pb : Pos b) (ht : tot a + tot b ≤ 1099511627776) : ∀ r ∈ jnl a b, 0 ≤ r.2 ∧ r.2 ≤ 1099511627776 := by
  intro r hr
  have h1 := jnl_pos pa pb r hr
  have h2 := cn_srt_eq (jnl_srt ha b) hr
  have h3 := cn_le (v := r.1) (jnl_pos pa pb)
  rw [jnl_tot] at h3
  omega
theorem mnl_bd {a b : List Rn} (ha : Srt a) (pa : Pos a) (pb : Pos b) (h1 : tot a ≤ 1099511627776) (h2 : tot b ≤ 1099511627776) : ∀ r ∈ mnl a b, -1099511627776 ≤ r.2 ∧ r.2 ≤ 1099511627776 := by
  intro r hr
  have e := cn_srt_eq (mnl_srt ha b) hr
  rw [mnl_cn] at e
  have := cn_nn (v := r.1) pa
  have := cn_le (v := r.1) pa
  have := cn_nn (v := r.1) pb
  have := cn_le (v := r.1) pb
  omega
theorem pos_take {l : List Rn} (h : Pos l) (k : Nat) : Pos (l.take k) := fun r hr => h r (List.mem_of_mem_take hr)
theorem srt_take {l : List Rn} (h : Srt l) (k : Nat) : Srt (l.take k) := List.Pairwise.sublist (List.take_sublist k l) h

end Go.Proofs.Ytjkkajhjcinalaa

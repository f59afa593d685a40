/-
  Deltas as numbers and bags: may they be, what is common, both together, the other way round, what a cell becomes, what parts two.
  Conditions: as each theorem states them.
-/
import Derived.Test.YtjkkajhjcinalaaM9
namespace Go.Proofs.Ytjkkajhjcinalaa
open Go.RowKit
set_option linter.unusedVariables false
set_option linter.unusedSimpArgs false
set_option maxRecDepth 100000

theorem imin (a b : Int) : (a ≤ b ∧ min a b = a) ∨ (b ≤ a ∧ min a b = b) := by omega
/-- What both have, each as often as both have it. -/
def com (a b : List Rn) : List Rn := (a.map (fun r => (r.1, min r.2 (cn r.1 b)))).filter (fun r => decide (0 < r.2))
theorem com_cons (x : Rn) (a b : List Rn) : com (x :: a) b = (if 0 < min x.2 (cn x.1 b) then [(x.1, min x.2 (cn x.1 b))] else []) ++ com a b := by
  unfold com
  simp only [List.map_cons, List.filter_cons]
  by_cases h : 0 < min x.2 (cn x.1 b)
  · rw [if_pos (by simpa using h), if_pos h]; rfl
  · rw [if_neg (by simpa using h), if_neg h]; rfl
theorem com_nil (b : List Rn) : com [] b = [] := rfl
theorem com_mem {a b : List Rn} {r : Rn} (h : r ∈ com a b) : 0 < r.2 ∧ ∃ q ∈ a, q.1 = r.1 ∧ r.2 = min q.2 (cn r.1 b) := by
  unfold com at h
  obtain ⟨h1, h2⟩ := List.mem_filter.1 h
  obtain ⟨q, hq, rfl⟩ := List.mem_map.1 h1
  exact ⟨by simpa using h2, q, hq, rfl, rfl⟩
theorem com_srt {a : List Rn} (h : Srt a) (b : List Rn) : Srt (com a b) := by
  unfold com Srt
  refine List.Pairwise.filter _ (List.Pairwise.map _ ?_ h)
  intro x y hxy
  exact hxy
theorem com_pos (a b : List Rn) : Pos (com a b) := fun r hr => by have := (com_mem hr).1; omega
theorem com_cn {a b : List Rn} (ha : Srt a) (pa : Pos a) (pb : Pos b) (v : Int) : cn v (com a b) = min (cn v a) (cn v b) := by
  induction a with
  | nil =>
    have := cn_nn (v := v) pb
    have := imin (cn v []) (cn v b)
    simp only [com_nil, cn] at *
    omega
  | cons x a ih =>
    have ha' := ha
    rw [Srt, List.pairwise_cons] at ha'
    have ih' := ih ha'.2 (fun r hr => pa r (by simp [hr]))
    have px := pa x (by simp)
    have pv := cn_nn (v := v) pb
    rw [com_cons, cn_app, ih']
    by_cases h : x.1 = v
    · subst h
      have z : cn x.1 a = 0 := cn_none (fun r hr e => by have := ha'.1 r hr; unfold ltR at this; omega)
      have k1 := imin x.2 (cn x.1 b)
      have k2 := imin (cn x.1 a) (cn x.1 b)
      have k3 := imin (cn x.1 (x :: a)) (cn x.1 b)
      split
      · simp only [cn, if_pos] at *
        omega
      · simp only [cn, if_pos] at *
        omega
    · have e : cn v (x :: a) = cn v a := by simp only [cn, if_neg h]; omega
      rw [e]
      split
      · simp only [cn, if_neg h]; omega
      · simp only [cn]; omega
theorem bag_nz {a : List Rn} (h : Bag a) : Nz a := pos_nz h.2.1
theorem com_comm {a b : List Rn} (ha : Srt a) (pa : Pos a) (hb : Srt b) (pb : Pos b) : com a b = com b a := by
  refine runs_ext (com_srt ha b) (pos_nz (com_pos a b)) (com_srt hb a) (pos_nz (com_pos b a)) (fun v => ?_)
  rw [com_cn ha pa pb, com_cn hb pb pa]
  have := imin (cn v a) (cn v b)
  have := imin (cn v b) (cn v a)
  omega
theorem com_len (a b : List Rn) : (com a b).length ≤ a.length := by
  unfold com
  have := List.length_filter_le (fun r : Rn => decide (0 < r.2)) (a.map (fun r => (r.1, min r.2 (cn r.1 b))))
  rw [List.length_map] at this
  exact this
theorem com_fits {a b : List Rn} (ha : Srt a) (pa : Pos a) : Fits a (com a b) := by
  intro r hr
  obtain ⟨h0, q, hq, e, h1⟩ := com_mem hr
  have h2 := cn_srt_eq ha hq
  rw [e] at h2
  have := imin q.2 (cn r.1 b)
  omega
theorem com_fits2 {a b : List Rn} : Fits b (com a b) := by
  intro r hr
  obtain ⟨h0, q, hq, e, h1⟩ := com_mem hr
  have := imin q.2 (cn r.1 b)
  omega
theorem com_nok {a b : List Rn} (ka : ∀ r ∈ a, I64 r.1 ∧ I64 r.2) : ∀ r ∈ com a b, I64 r.1 ∧ I64 r.2 := by
  intro r hr
  obtain ⟨h0, q, hq, e, h1⟩ := com_mem hr
  have := ka q hq
  have := imin q.2 (cn r.1 b)
  unfold I64 at *
  omega
theorem tot_filter_le {l : List Rn} (h : ∀ r ∈ l, 0 ≤ r.2) : True := trivial
theorem com_tot {a : List Rn} (pa : Pos a) (b : List Rn) : tot (com a b) ≤ tot a := by
  induction a with
  | nil => exact Int.le_refl _
  | cons x a ih =>
    have ih' := ih (fun r hr => pa r (by simp [hr]))
    have px := pa x (by simp)
    have := imin x.2 (cn x.1 b)
    rw [com_cons, tot_app]
    split
    · simp only [tot]; omega
    · simp only [tot]; omega
theorem com_bag {a : List Rn} (h : Bag a) (b : List Rn) : Bag (com a b) := ⟨com_srt h.1 b, com_pos a b, Int.le_trans (com_tot h.2.1 b) h.2.2⟩
/-- Nothing is common. -/
theorem com_empty {a b : List Rn} : com a b = [] ↔ ∀ r ∈ a, min r.2 (cn r.1 b) ≤ 0 := by
  induction a with
  | nil => simp [com_nil]
  | cons x a ih =>
    rw [com_cons]
    constructor
    · intro h
      obtain ⟨h1, h2⟩ := List.append_eq_nil_iff.1 h
      intro r hr
      rcases List.mem_cons.1 hr with rfl | hr
      · by_cases k : 0 < min r.2 (cn r.1 b)
        · rw [if_pos k] at h1; cases h1
        · omega
      · exact ih.1 h2 r hr
    · intro h
      rw [if_neg (by have := h x (by simp); omega), ih.2 (fun r hr => h r (by simp [hr]))]
      rfl
/-- .. as a truth, as the document asks it: nothing of the one stands in the other. -/
def apt (a b : List Rn) : Bool := (com a b).isEmpty
theorem apt_iff {a b : List Rn} (pa : Pos a) : apt a b = true ↔ ∀ r ∈ a, cn r.1 b ≤ 0 := by
  unfold apt
  rw [List.isEmpty_iff, com_empty]
  constructor
  · intro h r hr
    have := h r hr
    have := pa r hr
    have := imin r.2 (cn r.1 b)
    omega
  · intro h r hr
    have := h r hr
    have := imin r.2 (cn r.1 b)
    omega
theorem apt_no {a b : List Rn} {r : Rn} (pa : Pos a) (hr : r ∈ a) (h : 0 < cn r.1 b) : apt a b = false := by
  cases e : apt a b with
  | false => rfl
  | true => have := (apt_iff pa).1 e r hr; omega

/-- What is left of the one. -/
def lef (a b : List Rn) : List Rn := mnl a (com a b)
theorem wsum_mnl (a b : List Rn) : wsum (mnl a b) = wsum a - wsum b := by
  induction b generalizing a with
  | nil => simp [mnl, wsum]
  | cons x l ih => simp only [mnl, ih, wsum_lay, wsum, Int.mul_neg]; omega
theorem lef_cn {a b : List Rn} (ha : Srt a) (pa : Pos a) (pb : Pos b) (v : Int) : cn v (lef a b) = cn v a - min (cn v a) (cn v b) := by
  unfold lef; rw [mnl_cn, com_cn ha pa pb]
theorem lef_srt {a : List Rn} (ha : Srt a) (b : List Rn) : Srt (lef a b) := mnl_srt ha _
theorem lef_pos {a : List Rn} (ha : Srt a) (pa : Pos a) (b : List Rn) : Pos (lef a b) := mnl_pos ha pa (com_srt ha b) (com_pos a b) (com_fits ha pa)
theorem lef_tot (a b : List Rn) : tot (lef a b) = tot a - tot (com a b) := mnl_tot _ _
theorem lef_wsum (a b : List Rn) : wsum (lef a b) = wsum a - wsum (com a b) := wsum_mnl _ _
theorem lef_bag {a : List Rn} (h : Bag a) (b : List Rn) : Bag (lef a b) := by
  refine ⟨lef_srt h.1 b, lef_pos h.1 h.2.1 b, ?_⟩
  rw [lef_tot]
  have := tot_nn (com_pos a b)
  have := h.2.2
  omega
/-- The document's way: run by run. -/
def lefd (a b : List Rn) : List Rn := (a.map (fun r => (r.1, r.2 - min r.2 (cn r.1 b)))).filter (fun r => decide (0 < r.2))
theorem lefd_step {a : List Rn} {k : Nat} {r : Rn} (h : a[k]? = some r) (b : List Rn) : lefd (a.take (k + 1)) b = lefd (a.take k) b ++ (if 0 < r.2 - min r.2 (cn r.1 b) then [(r.1, r.2 - min r.2 (cn r.1 b))] else []) := by
  rw [take_one h]
  unfold lefd
  rw [List.map_append, List.filter_append]
  congr 1
  simp only [List.map_cons, List.map_nil, List.filter_cons, List.filter_nil]
  by_cases k : 0 < r.2 - min r.2 (cn r.1 b)
  · rw [if_pos (by simpa using k), if_pos k]
  · rw [if_neg (by simpa using k), if_neg k]
theorem lefd_cons (x : Rn) (a b : List Rn) : lefd (x :: a) b = (if 0 < x.2 - min x.2 (cn x.1 b) then [(x.1, x.2 - min x.2 (cn x.1 b))] else []) ++ lefd a b := by
  unfold lefd
  simp only [List.map_cons, List.filter_cons]
  by_cases h : 0 < x.2 - min x.2 (cn x.1 b)
  · rw [if_pos (by simpa using h), if_pos h]; rfl
  · rw [if_neg (by simpa using h), if_neg h]; rfl
theorem lefd_mem {a b : List Rn} {r : Rn} (h : r ∈ lefd a b) : 0 < r.2 ∧ ∃ q ∈ a, q.1 = r.1 := by
  unfold lefd at h
  obtain ⟨h1, h2⟩ := List.mem_filter.1 h
  obtain ⟨q, hq, rfl⟩ := List.mem_map.1 h1
  exact ⟨by simpa using h2, q, hq, rfl⟩
theorem lefd_srt {a : List Rn} (h : Srt a) (b : List Rn) : Srt (lefd a b) := by
  unfold lefd Srt
  refine List.Pairwise.filter _ (List.Pairwise.map _ ?_ h)
  intro x y hxy
  exact hxy
theorem lefd_cn {a b : List Rn} (ha : Srt a) (pa : Pos a) (pb : Pos b) (v : Int) : cn v (lefd a b) = cn v a - min (cn v a) (cn v b) := by
  induction a with
  | nil =>
    have := cn_nn (v := v) pb
    have := imin (cn v []) (cn v b)
    simp only [lefd, List.map_nil, List.filter_nil, cn] at *
    omega
  | cons x a ih =>
    have ha' := ha
    rw [Srt, List.pairwise_cons] at ha'
    have ih' := ih ha'.2 (fun r hr => pa r (by simp [hr]))
    have px := pa x (by simp)
    have pv := cn_nn (v := v) pb
    rw [lefd_cons, cn_app, ih']
    by_cases h : x.1 = v
    · subst h
      have z : cn x.1 a = 0 := cn_none (fun r hr e => by have := ha'.1 r hr; unfold ltR at this; omega)
      have k1 := imin x.2 (cn x.1 b)
      have k2 := imin (cn x.1 a) (cn x.1 b)
      have k3 := imin (cn x.1 (x :: a)) (cn x.1 b)
      split
      · simp only [cn, if_pos] at *
        omega
      · simp only [cn, if_pos] at *
        omega
    · have e : cn v (x :: a) = cn v a := by simp only [cn, if_neg h]; omega
      rw [e]
      split
      · simp only [cn, if_neg h]; omega
      · simp only [cn]; omega
theorem lefd_is {a b : List Rn} (ha : Srt a) (pa : Pos a) (pb : Pos b) : lefd a b = lef a b :=
  runs_ext (lefd_srt ha b) (fun r hr e => by have := (lefd_mem hr).1; omega) (lef_srt ha b) (pos_nz (lef_pos ha pa b)) (fun v => by rw [lefd_cn ha pa pb, lef_cn ha pa pb])
theorem lefd_len (a b : List Rn) : (lefd a b).length ≤ a.length := by
  unfold lefd
  have := List.length_filter_le (fun r : Rn => decide (0 < r.2)) (a.map (fun r => (r.1, r.2 - min r.2 (cn r.1 b))))
  rw [List.length_map] at this
  exact this
theorem lefd_nok {a b : List Rn} (ka : ∀ r ∈ a, I64 r.1 ∧ I64 r.2) (pa : Pos a) (pb : Pos b) : ∀ r ∈ lefd a b, I64 r.1 ∧ I64 r.2 := by
  intro r hr
  unfold lefd at hr
  obtain ⟨h1, h2⟩ := List.mem_filter.1 hr
  obtain ⟨q, hq, rfl⟩ := List.mem_map.1 h1
  have := ka q hq
  have := pa q hq
  have := cn_nn (v := q.1) pb
  have := imin q.2 (cn q.1 b)
  unfold I64 at *
  simp only
  omega
theorem lef_len {a b : List Rn} (ha : Srt a) (pa : Pos a) (pb : Pos b) : (lef a b).length ≤ a.length := by rw [← lefd_is ha pa pb]; exact lefd_len a b
theorem lef_nok {a b : List Rn} (ka : ∀ r ∈ a, I64 r.1 ∧ I64 r.2) (ha : Srt a) (pa : Pos a) (pb : Pos b) : ∀ r ∈ lef a b, I64 r.1 ∧ I64 r.2 := by rw [← lefd_is ha pa pb]; exact lefd_nok ka pa pb
/-- What is left of both has nothing in common. -/
theorem lef_apt {a b : List Rn} (ha : Srt a) (pa : Pos a) (hb : Srt b) (pb : Pos b) : apt (lef a b) (lef b a) = true := by
  refine (apt_iff (lef_pos ha pa b)).2 (fun r hr => ?_)
  have h1 := cn_srt_eq (lef_srt ha b) hr
  have h2 := lef_pos ha pa b r hr
  rw [lef_cn ha pa pb] at h1
  rw [lef_cn hb pb pa]
  have := imin (cn r.1 a) (cn r.1 b)
  have := imin (cn r.1 b) (cn r.1 a)
  omega
theorem lef_diff {a b : List Rn} (ha : Srt a) (pa : Pos a) (hb : Srt b) (pb : Pos b) : wsum (lef a b) - wsum (lef b a) = wsum a - wsum b ∧ tot (lef a b) - tot (lef b a) = tot a - tot b := by
  rw [lef_wsum, lef_wsum, lef_tot, lef_tot, com_comm hb pb ha pa]
  omega
theorem lef_nil (a : List Rn) : lef a [] = a := by
  have : com a [] = [] := com_empty.2 (fun r hr => by have := imin r.2 (cn r.1 []); simp only [cn] at *; omega)
  unfold lef; rw [this]; rfl
theorem lef_nil2 (b : List Rn) : lef [] b = [] := rfl
/-- Two that have nothing in common are left as they are. -/
theorem lef_apart {a b : List Rn} (h : apt a b = true) : lef a b = a := by
  unfold apt at h
  rw [List.isEmpty_iff] at h
  unfold lef; rw [h]; rfl
theorem apt_comm {a b : List Rn} (ha : Srt a) (pa : Pos a) (hb : Srt b) (pb : Pos b) : apt a b = apt b a := by
  unfold apt; rw [com_comm ha pa hb pb]

/-- A delta: how many rows more; of two measures the sum, the values that come, those that go. -/
structure Dl where
  n : Int
  s0 : Int
  s1 : Int
  i0 : List Rn
  i1 : List Rn
  o0 : List Rn
  o1 : List Rn
def dl0 : Dl := ⟨0, 0, 0, [], [], [], []⟩
/-- One measure of it, reckoned. -/
def Nt (n s : Int) (i o : List Rn) : Prop := Bag i ∧ Bag o ∧ tot i - tot o = n ∧ wsum i - wsum o = s ∧ apt i o = true
def nt (n s : Int) (i o : List Rn) : Bool := (gd i && gd o) && (decide (tot i - tot o = n) && (decide (wsum i - wsum o = s) && apt i o))
theorem nt_iff {n s : Int} {i o : List Rn} : nt n s i o = true ↔ Nt n s i o := by
  unfold nt Nt; simp only [Bool.and_eq_true, decide_eq_true_iff, gd_iff, and_assoc]
theorem nt_yes {n s : Int} {i o : List Rn} (h : Nt n s i o) : nt n s i o = true := nt_iff.2 h
theorem nt_no {n s : Int} {i o : List Rn} (h : ¬ Nt n s i o) : nt n s i o = false := by
  cases e : nt n s i o with
  | false => rfl
  | true => exact absurd (nt_iff.1 e) h
/-- May it be, of so many measures? -/
def DG (m : Int) (d : Dl) : Prop := Nt d.n d.s0 d.i0 d.o0 ∧ ((m = 1 ∧ d.s1 = 0 ∧ d.i1 = [] ∧ d.o1 = []) ∨ (m = 2 ∧ Nt d.n d.s1 d.i1 d.o1))
def dg (m : Int) (d : Dl) : Bool := nt d.n d.s0 d.i0 d.o0 && ((decide (m = 1) && (decide (d.s1 = 0) && (d.i1.isEmpty && d.o1.isEmpty))) || (decide (m = 2) && nt d.n d.s1 d.i1 d.o1))
theorem dg_iff {m : Int} {d : Dl} : dg m d = true ↔ DG m d := by
  unfold dg DG
  simp only [Bool.and_eq_true, Bool.or_eq_true, decide_eq_true_iff, nt_iff, List.isEmpty_iff]
theorem dg_yes {m : Int} {d : Dl} (h : DG m d) : dg m d = true := dg_iff.2 h
theorem dg_no {m : Int} {d : Dl} (h : ¬ DG m d) : dg m d = false := by
  cases e : dg m d with
  | false => rfl
  | true => exact absurd (dg_iff.1 e) h
theorem dg_m {m : Int} {d : Dl} (h : dg m d = true) : m = 1 ∨ m = 2 := by
  rcases (dg_iff.1 h).2 with h | h
  · exact .inl h.1
  · exact .inr h.1
theorem dg_not {m : Int} (d : Dl) (h : ¬ (m = 1 ∨ m = 2)) : dg m d = false := dg_no (fun g => h (dg_m (dg_yes g)))
theorem dg_n {m : Int} {d : Dl} (h : DG m d) : -1099511627776 ≤ d.n ∧ d.n ≤ 1099511627776 := by
  obtain ⟨⟨h1, h2, h3, _⟩, _⟩ := h
  have := h1.2.2
  have := h2.2.2
  have := tot_nn h1.2.1
  have := tot_nn h2.2.1
  omega
/-- Both measures' bags are bags. -/
theorem dg_bags {m : Int} {d : Dl} (h : DG m d) : (Bag d.i0 ∧ Bag d.o0) ∧ Bag d.i1 ∧ Bag d.o1 := by
  obtain ⟨⟨h1, h2, _⟩, h3⟩ := h
  refine ⟨⟨h1, h2⟩, ?_⟩
  rcases h3 with ⟨_, _, e1, e2⟩ | ⟨_, k1, k2, _⟩
  · rw [e1, e2]; exact ⟨bag_nil, bag_nil⟩
  · exact ⟨k1, k2⟩
/-- .. and what they tell. -/
theorem dg_two {m : Int} {d : Dl} (h : DG m d) : Nt d.n d.s1 d.i1 d.o1 ∨ (m = 1 ∧ d.s1 = 0 ∧ d.i1 = [] ∧ d.o1 = []) := by
  rcases h.2 with h | h
  · exact .inr h
  · exact .inl h.2
theorem dg_s1 {m : Int} {d : Dl} (h : DG m d) : wsum d.i1 - wsum d.o1 = d.s1 := by
  rcases h.2 with ⟨_, e1, e2, e3⟩ | ⟨_, _, _, _, k, _⟩
  · rw [e1, e2, e3]; simp [wsum]
  · exact k
/-- Alike in all? -/
def dsm (a b : Dl) : Bool := decide (a.n = b.n) && ((decide (a.s0 = b.s0) && decide (a.s1 = b.s1)) && ((sm a.i0 b.i0 && sm a.o0 b.o0) && (sm a.i1 b.i1 && sm a.o1 b.o1)))
theorem dsm_iff {a b : Dl} : dsm a b = true ↔ a = b := by
  obtain ⟨n, s, t, x, y, p, q⟩ := a
  obtain ⟨n', s', t', x', y', p', q'⟩ := b
  unfold dsm
  simp only [Bool.and_eq_true, decide_eq_true_iff, sm_iff, Dl.mk.injEq]
  constructor
  · rintro ⟨h1, ⟨h2, h3⟩, ⟨h4, h5⟩, h6, h7⟩; exact ⟨h1, h2, h3, h4, h6, h5, h7⟩
  · rintro ⟨h1, h2, h3, h4, h6, h5, h7⟩; exact ⟨h1, ⟨h2, h3⟩, ⟨h4, h5⟩, h6, h7⟩
theorem dsm_self (a : Dl) : dsm a a = true := dsm_iff.2 rfl
theorem dsm_no {a b : Dl} (h : ¬ a = b) : dsm a b = false := by
  cases e : dsm a b with
  | false => rfl
  | true => exact absurd (dsm_iff.1 e) h
/-- Idle. -/
def did (m : Int) (d : Dl) : Bool := dg m d && dsm d dl0
/-- .. as the document asks it. -/
def idd (m : Int) (d : Dl) : Bool := decide (d.n = 0) && ((d.i0.isEmpty && d.o0.isEmpty) && (decide (m = 1) || (d.i1.isEmpty && d.o1.isEmpty)))
theorem did_is {m : Int} {d : Dl} (h : dg m d = true) : dsm d dl0 = idd m d := by
  have g := dg_iff.1 h
  obtain ⟨n, s0, s1, i0, i1, o0, o1⟩ := d
  by_cases k : idd m ⟨n, s0, s1, i0, i1, o0, o1⟩ = true
  · rw [k, dsm_iff]
    unfold idd at k
    simp only [Bool.and_eq_true, Bool.or_eq_true, decide_eq_true_iff, List.isEmpty_iff] at k
    obtain ⟨h1, ⟨h2, h3⟩, h4⟩ := k
    obtain ⟨⟨_, _, _, g4, _⟩, g2⟩ := g
    subst h1 h2 h3
    simp [wsum] at g4
    subst g4
    rcases g2 with ⟨rfl, e1, e2, e3⟩ | ⟨rfl, _, _, _, e1, _⟩
    · simp only at e1 e2 e3
      subst e1 e2 e3
      rfl
    · rcases h4 with h4 | ⟨h4, h5⟩
      · cases h4
      · subst h4 h5
        simp [wsum] at e1
        subst e1
        rfl
  · have k' : idd m ⟨n, s0, s1, i0, i1, o0, o1⟩ = false := by simpa using k
    rw [k']
    refine dsm_no (fun e => k ?_)
    unfold dl0 at e
    rw [Dl.mk.injEq] at e
    obtain ⟨rfl, rfl, rfl, rfl, rfl, rfl, rfl⟩ := e
    unfold idd
    simp

/-! Made of bags of what comes, and goes: as the document has it. -/
def xdR (m n : Int) (i0 i1 o0 o1 : List Rn) : Dl := ⟨n, wsum i0 - wsum o0, if m = 2 then wsum i1 - wsum o1 else 0, lef i0 o0, if m = 2 then lef i1 o1 else [], lef o0 i0, if m = 2 then lef o1 i1 else []⟩
def xdB (m n : Int) (i0 i1 o0 o1 : List Rn) : Bool := (calc.fitB (wsum i0 - wsum o0) && (decide (m = 1) || calc.fitB (wsum i1 - wsum o1))) && dg m (xdR m n i0 i1 o0 o1)
def xdC (m n : Int) (i0 i1 o0 o1 : List Rn) : Dl := if xdB m n i0 i1 o0 o1 then xdR m n i0 i1 o0 o1 else dl0
theorem xdC_yes {m n : Int} {i0 i1 o0 o1 : List Rn} (h : xdB m n i0 i1 o0 o1 = true) : xdC m n i0 i1 o0 o1 = xdR m n i0 i1 o0 o1 := by unfold xdC; rw [h]; rfl
theorem xdC_no {m n : Int} {i0 i1 o0 o1 : List Rn} (h : xdB m n i0 i1 o0 o1 = false) : xdC m n i0 i1 o0 o1 = dl0 := by unfold xdC; rw [h]; rfl
theorem nt_lef {a b : List Rn} (ha : Bag a) (hb : Bag b) : Nt (tot a - tot b) (wsum a - wsum b) (lef a b) (lef b a) :=
  ⟨lef_bag ha b, lef_bag hb a, (lef_diff ha.1 ha.2.1 hb.1 hb.2.1).2, (lef_diff ha.1 ha.2.1 hb.1 hb.2.1).1, lef_apt ha.1 ha.2.1 hb.1 hb.2.1⟩
/-- Of bags whose difference is right in number, it may be. -/
theorem xdR_good {m n : Int} {i0 i1 o0 o1 : List Rn} (hm : m = 1 ∨ m = 2) (a0 : Bag i0) (b0 : Bag o0) (e0 : tot i0 - tot o0 = n) (h2 : m = 2 → Bag i1 ∧ Bag o1 ∧ tot i1 - tot o1 = n) : DG m (xdR m n i0 i1 o0 o1) := by
  refine ⟨?_, ?_⟩
  · have := nt_lef a0 b0
    rw [e0] at this
    exact this
  · rcases hm with rfl | rfl
    · exact .inl ⟨rfl, rfl, rfl, rfl⟩
    · obtain ⟨a1, b1, e1⟩ := h2 rfl
      have := nt_lef a1 b1
      rw [e1] at this
      exact .inr ⟨rfl, this⟩
theorem xdB_is {m n : Int} {i0 i1 o0 o1 : List Rn} (hm : m = 1 ∨ m = 2) (a0 : Bag i0) (b0 : Bag o0) (e0 : tot i0 - tot o0 = n) (h2 : m = 2 → Bag i1 ∧ Bag o1 ∧ tot i1 - tot o1 = n) :
    xdB m n i0 i1 o0 o1 = (calc.fitB (wsum i0 - wsum o0) && (decide (m = 1) || calc.fitB (wsum i1 - wsum o1))) := by
  unfold xdB
  rw [dg_yes (xdR_good hm a0 b0 e0 h2), Bool.and_true]

/-! Of a change. -/
def ofdB (m m0 m1 : Int) (del : Bool) : Bool := (decide (m = 1) || decide (m = 2)) && (!del || (calc.fitB (-m0) && (decide (m = 1) || calc.fitB (-m1))))
def ofdR (m m0 m1 : Int) (del : Bool) : Dl := if del then ⟨-1, -m0, if m = 2 then -m1 else 0, [], [], [(m0, 1)], if m = 2 then [(m1, 1)] else []⟩ else ⟨1, m0, if m = 2 then m1 else 0, [(m0, 1)], if m = 2 then [(m1, 1)] else [], [], []⟩
def ofdC (m m0 m1 : Int) (del : Bool) : Dl := if ofdB m m0 m1 del then ofdR m m0 m1 del else dl0
/-! The other way round. -/
def dnB (m : Int) (d : Dl) : Bool := dg m d && (calc.fitB (-d.s0) && (decide (m = 1) || calc.fitB (-d.s1)))
def dnR (d : Dl) : Dl := ⟨-d.n, -d.s0, -d.s1, d.o0, d.o1, d.i0, d.i1⟩
def dnC (m : Int) (d : Dl) : Dl := if dnB m d then dnR d else dl0
theorem dnC_yes {m : Int} {d : Dl} (h : dnB m d = true) : dnC m d = dnR d := by unfold dnC; rw [h]; rfl
theorem dnC_no {m : Int} {d : Dl} (h : dnB m d = false) : dnC m d = dl0 := by unfold dnC; rw [h]; rfl
theorem nt_neg {n s : Int} {i o : List Rn} (h : Nt n s i o) : Nt (-n) (-s) o i := by
  obtain ⟨h1, h2, h3, h4, h5⟩ := h
  exact ⟨h2, h1, by omega, by omega, by rw [apt_comm h2.1 h2.2.1 h1.1 h1.2.1]; exact h5⟩
theorem dnR_good {m : Int} {d : Dl} (h : DG m d) : DG m (dnR d) := by
  refine ⟨nt_neg h.1, ?_⟩
  rcases h.2 with ⟨e, e1, e2, e3⟩ | ⟨e, k⟩
  · exact .inl ⟨e, by show -d.s1 = 0; omega, e3, e2⟩
  · exact .inr ⟨e, nt_neg k⟩
theorem dnR_two (d : Dl) : dnR (dnR d) = d := by
  obtain ⟨n, s, t, x, y, p, q⟩ := d
  simp [dnR]
/-! Both together. -/
def djB (m : Int) (a b : Dl) : Bool := (dg m a && dg m b) && ((decide (tot a.i0 + tot b.i0 ≤ 1099511627776) && decide (tot a.o0 + tot b.o0 ≤ 1099511627776)) && ((decide (tot a.i1 + tot b.i1 ≤ 1099511627776) && decide (tot a.o1 + tot b.o1 ≤ 1099511627776)) && (calc.fitB (a.s0 + b.s0) && calc.fitB (a.s1 + b.s1))))
def djR (a b : Dl) : Dl := ⟨a.n + b.n, a.s0 + b.s0, a.s1 + b.s1, lef (jnl a.i0 b.i0) (jnl a.o0 b.o0), lef (jnl a.i1 b.i1) (jnl a.o1 b.o1), lef (jnl a.o0 b.o0) (jnl a.i0 b.i0), lef (jnl a.o1 b.o1) (jnl a.i1 b.i1)⟩
def djC (m : Int) (a b : Dl) : Dl := if djB m a b then djR a b else dl0
theorem djC_yes {m : Int} {a b : Dl} (h : djB m a b = true) : djC m a b = djR a b := by unfold djC; rw [h]; rfl
theorem djC_no {m : Int} {a b : Dl} (h : djB m a b = false) : djC m a b = dl0 := by unfold djC; rw [h]; rfl
theorem djB_iff {m : Int} {a b : Dl} : djB m a b = true ↔ DG m a ∧ DG m b ∧ (tot a.i0 + tot b.i0 ≤ 1099511627776 ∧ tot a.o0 + tot b.o0 ≤ 1099511627776) ∧ (tot a.i1 + tot b.i1 ≤ 1099511627776 ∧ tot a.o1 + tot b.o1 ≤ 1099511627776) ∧ calc.fitB (a.s0 + b.s0) = true ∧ calc.fitB (a.s1 + b.s1) = true := by
  unfold djB
  simp only [Bool.and_eq_true, decide_eq_true_iff, dg_iff, and_assoc]
theorem djB_no {m : Int} {a b : Dl} (h : ¬ (DG m a ∧ DG m b ∧ (tot a.i0 + tot b.i0 ≤ 1099511627776 ∧ tot a.o0 + tot b.o0 ≤ 1099511627776) ∧ (tot a.i1 + tot b.i1 ≤ 1099511627776 ∧ tot a.o1 + tot b.o1 ≤ 1099511627776) ∧ calc.fitB (a.s0 + b.s0) = true ∧ calc.fitB (a.s1 + b.s1) = true)) : djB m a b = false := by
  cases e : djB m a b with
  | false => rfl
  | true => exact absurd (djB_iff.1 e) h
theorem jnl_bg {a b : List Rn} (ha : Bag a) (hb : Bag b) (h : tot a + tot b ≤ 1099511627776) : Bag (jnl a b) := ⟨jnl_srt ha.1 b, jnl_pos ha.2.1 hb.2.1, by rw [jnl_tot]; exact h⟩
theorem djR_good {m : Int} {a b : Dl} (h : djB m a b = true) : DG m (djR a b) := by
  obtain ⟨ga, gb, ⟨t1, t2⟩, ⟨t3, t4⟩, _, _⟩ := djB_iff.1 h
  obtain ⟨⟨a1, a2⟩, a3, a4⟩ := dg_bags ga
  obtain ⟨⟨b1, b2⟩, b3, b4⟩ := dg_bags gb
  have n0 := nt_lef (jnl_bg a1 b1 t1) (jnl_bg a2 b2 t2)
  rw [jnl_tot, jnl_tot, wsum_jnl, wsum_jnl] at n0
  obtain ⟨⟨_, _, x1, x2, _⟩, a5⟩ := ga
  obtain ⟨⟨_, _, y1, y2, _⟩, b5⟩ := gb
  refine ⟨?_, ?_⟩
  · have e1 : tot a.i0 + tot b.i0 - (tot a.o0 + tot b.o0) = a.n + b.n := by omega
    have e2 : wsum a.i0 + wsum b.i0 - (wsum a.o0 + wsum b.o0) = a.s0 + b.s0 := by omega
    rw [e1, e2] at n0
    exact n0
  · rcases a5 with ⟨rfl, e1, e2, e3⟩ | ⟨rfl, _, _, e1, e2, _⟩
    · rcases b5 with ⟨_, f1, f2, f3⟩ | ⟨k, _⟩
      · refine .inl ⟨rfl, ?_, ?_, ?_⟩
        · show a.s1 + b.s1 = 0; omega
        · show lef (jnl a.i1 b.i1) _ = []; rw [e2, f2]; rfl
        · show lef (jnl a.o1 b.o1) _ = []; rw [e3, f3]; rfl
      · cases k
    · rcases b5 with ⟨k, _⟩ | ⟨_, _, _, f1, f2, _⟩
      · cases k
      · have n1 := nt_lef (jnl_bg a3 b3 t3) (jnl_bg a4 b4 t4)
        rw [jnl_tot, jnl_tot, wsum_jnl, wsum_jnl] at n1
        have e3 : tot a.i1 + tot b.i1 - (tot a.o1 + tot b.o1) = a.n + b.n := by omega
        have e4 : wsum a.i1 + wsum b.i1 - (wsum a.o1 + wsum b.o1) = a.s1 + b.s1 := by omega
        rw [e3, e4] at n1
        exact .inr ⟨rfl, n1⟩
/-! What a cell becomes. -/
/-- Is there such a cell, or none? -/
def stB (m : Int) (c : Cl) (is : Bool) : Bool := if is then cg m c else (decide (m = 1) || decide (m = 2)) && csm c cl0
def daB (m : Int) (c : Cl) (is : Bool) (d : Dl) : Bool := (dg m d && stB m c is) && ((fits c.b0 d.o0 && fits c.b1 d.o1) && ((decide (tot c.b0 - tot d.o0 + tot d.i0 ≤ 1099511627776) && decide (tot c.b1 - tot d.o1 + tot d.i1 ≤ 1099511627776)) && (calc.fitB (c.s0 + d.s0) && calc.fitB (c.s1 + d.s1))))
def daR (c : Cl) (d : Dl) : Cl := ⟨c.n + d.n, c.s0 + d.s0, c.s1 + d.s1, jnl (mnl c.b0 d.o0) d.i0, jnl (mnl c.b1 d.o1) d.i1⟩
def daI (m : Int) (c : Cl) (is : Bool) (d : Dl) : Bool := daB m c is d && !decide (c.n + d.n = 0)
def daC (m : Int) (c : Cl) (is : Bool) (d : Dl) : Cl := if daI m c is d then daR c d else cl0
/-! What parts two. -/
def bwB (m : Int) (a : Cl) (was : Bool) (b : Cl) (is : Bool) : Bool := (stB m a was && stB m b is) && (calc.fitB (b.s0 - a.s0) && calc.fitB (b.s1 - a.s1))
def bwR (a b : Cl) : Dl := ⟨b.n - a.n, b.s0 - a.s0, b.s1 - a.s1, lef b.b0 a.b0, lef b.b1 a.b1, lef a.b0 b.b0, lef a.b1 b.b1⟩
def bwC (m : Int) (a : Cl) (was : Bool) (b : Cl) (is : Bool) : Dl := if bwB m a was b is then bwR a b else dl0

end Go.Proofs.Ytjkkajhjcinalaa

/-
  The ways of Join and of Minus, as lists; what bag.laid returns of a run that is none below the last one.
  Conditions: as each theorem states them.
-/
import Derived.Test.YtjkkajhjcinalaaBK
import Derived.Test.YtjkkajhjcinalaaBG
namespace Go.Proofs.Ytjkkajhjcinalaa
open Go.ChangeShapes Go.WideShapes Go.ChangeAt Go.RowKit
set_option linter.unusedVariables false
set_option linter.unusedSimpArgs false
set_option maxRecDepth 100000

theorem lay_more {l : List Rn} {x y q : Int} (hs : Srt (l ++ [(x, y)])) (hy : ¬ y + q = 0) : lay x q (l ++ [(x, y)]) = l ++ [(x, y + q)] := by
  have h : ∀ r ∈ l, r.1 < x := fun r hr => (List.pairwise_append.1 hs).2.2 r hr (x, y) (by simp)
  rw [lay_here h rfl, if_neg hy]
/-- bag.laid, as the document lays. -/
theorem laid_lay (base : Nat) (v : Value) (l M : List Rn) (x q : Int) (w : World) (ho : OwnN w base v l) (hb : base ≤ w.heap.size) (hn : l.length ≤ 1000000) (hs : Srt l) (hp : Pos l) (hx : ∀ r ∈ l, r.1 ≤ x) (ht : tot l ≤ 4611686018427387903) (hq : 1 ≤ q ∧ q ≤ 4611686018427387903) (hM : Hid (lay x q l = M)) :
    Calls Try.prog 95 #[v, .agg #[.int .i64 x, .int .i64 q]] w fun e w' => (∃ v', e = .returned v' ∧ OwnN w' base v' M) ∧ w.grownBy w' v.ownBlock := by
  by_cases hh : ∃ y, l[l.length - 1]? = some (x, y)
  · obtain ⟨y, hy⟩ := hh
    obtain ⟨l0, el⟩ := split_last hy
    have hyp := hp (x, y) (by rw [el]; simp)
    have hyb : y ≤ tot l := by
      have h1 := cn_srt_eq hs (r := (x, y)) (by rw [el]; simp)
      have h2 := cn_le (v := x) hp
      simp only at h1; omega
    simp only at hyp
    rw [el] at ho hs
    have hl0 : l0.length ≤ 1000000 := by rw [el, List.length_append] at hn; omega
    refine (laid_more base v l0 x y q w ho hb hl0 (by omega) (by omega)).mono ?_
    rintro e w' ⟨⟨rfl, ho'⟩, hg⟩
    refine ⟨⟨v, rfl, ?_⟩, hg⟩
    rw [← hM.out, el, lay_more hs (by omega)]
    exact ho'
  · have hne : ∀ p z, l[l.length - 1]? = some (p, z) → ¬ p = x := fun p z h e => hh ⟨z, by rw [← e]; exact h⟩
    refine (laid_new base v l x q w ho hb hn hne).mono ?_
    rintro e w' ⟨⟨v', rfl, ho'⟩, hg⟩
    refine ⟨⟨v', rfl, ?_⟩, hg⟩
    rw [← hM.out, lay_low (below_x hs hx hne)]
    exact ho'

/-- The way of Join. -/
def JI (A B la lb out : List Rn) : Prop :=
  (Srt la ∧ Pos la) ∧ (Srt lb ∧ Pos lb) ∧ (Srt out ∧ Pos out) ∧ (∀ r ∈ out, (∀ s ∈ la, r.1 ≤ s.1) ∧ ∀ s ∈ lb, r.1 ≤ s.1) ∧ (∀ v, cn v out + cn v la + cn v lb = cn v A + cn v B) ∧ tot out + tot la + tot lb = tot A + tot B ∧ out.length + la.length + lb.length ≤ A.length + B.length
theorem ji_0 {A B : List Rn} (ha : Bag A) (hb : Bag B) : JI A B A B [] :=
  ⟨⟨ha.1, ha.2.1⟩, ⟨hb.1, hb.2.1⟩, ⟨srt_nil, pos_nil⟩, (fun r hr => by simp at hr), (fun v => by simp [cn]), by simp [tot], by simp⟩
theorem ji_swap {A B la lb out : List Rn} (h : JI A B la lb out) : JI A B lb la out := by
  obtain ⟨h1, h2, h3, h4, h5, h6, h7⟩ := h
  exact ⟨h2, h1, h3, fun r hr => ⟨(h4 r hr).2, (h4 r hr).1⟩, fun v => by have := h5 v; omega, by omega, by omega⟩
theorem ji_step {A B la lb out : List Rn} {x0 x1 : Int} (h : JI A B ((x0, x1) :: la) lb out) (hx : ∀ y, lb[0]? = some y → x0 ≤ y.1) : JI A B la lb (lay x0 x1 out) := by
  obtain ⟨⟨a1, a2⟩, ⟨b1, b2⟩, ⟨o1, o2⟩, h4, h5, h6, h7⟩ := h
  have hl := a1
  rw [Srt, List.pairwise_cons] at hl
  have hx1 : 1 ≤ x1 := a2 (x0, x1) (by simp)
  have hlb : ∀ s ∈ lb, x0 ≤ s.1 := by
    intro s hs
    obtain ⟨i, hi⟩ := List.mem_iff_getElem?.1 hs
    have h0 : lb[0]? = some (lb[0]'(by have := (List.getElem?_eq_some_iff.1 hi).1; omega)) := List.getElem?_eq_getElem _
    have hy := hx _ h0
    by_cases hz : i = 0
    · subst hz; rw [h0] at hi; have e := Option.some.inj hi; rw [← e]; exact hy
    · have := srt_get b1 h0 hi (by omega); omega
  refine ⟨⟨hl.2, fun r hr => a2 r (by simp [hr])⟩, ⟨b1, b2⟩, ⟨lay_srt o1, lay_pos o2 hx1⟩, fun r hr => ?_, fun v => ?_, ?_, ?_⟩
  · rcases lay_mem hr with e | hr
    · refine ⟨fun s hs => ?_, fun s hs => by rw [e]; exact hlb s hs⟩
      have := hl.1 s hs
      unfold ltR at this
      simp only at this
      omega
    · exact ⟨fun s hs => (h4 r hr).1 s (by simp [hs]), (h4 r hr).2⟩
  · have := h5 v
    rw [lay_cn]
    simp only [cn] at this
    by_cases hv : x0 = v
    · subst hv; simp only [if_pos] at this ⊢; omega
    · rw [if_neg hv] at this; rw [if_neg (fun e => hv e.symm)]; omega
  · rw [lay_tot]; simp only [tot] at h6; omega
  · have := lay_len (v := x0) (n := x1) (l := out)
    simp only [List.length_cons] at h7
    omega
/-- What laid wants of the next run. -/
theorem ji_next {A B la lb out : List Rn} {x0 x1 : Int} (h : JI A B ((x0, x1) :: la) lb out) (ht : tot A + tot B ≤ 1099511627776) (hl : A.length + B.length ≤ 2000) : Srt out ∧ Pos out ∧ (∀ r ∈ out, r.1 ≤ x0) ∧ tot out ≤ 1099511627776 ∧ 1 ≤ x1 ∧ x1 ≤ 1099511627776 ∧ out.length ≤ 2000 := by
  obtain ⟨⟨a1, a2⟩, ⟨b1, b2⟩, ⟨o1, o2⟩, h4, h5, h6, h7⟩ := h
  have hx1 : 1 ≤ x1 := a2 (x0, x1) (by simp)
  have t1 := tot_nn o2
  have t2 := tot_nn b2
  have t3 := tot_nn (l := la) (fun r hr => a2 r (by simp [hr]))
  simp only [tot] at h6
  exact ⟨o1, o2, fun r hr => (h4 r hr).1 (x0, x1) (by simp), by omega, hx1, by omega, by omega⟩
theorem ji_end {A B out : List Rn} (h : JI A B [] [] out) (ha : Srt A) (pa : Pos A) (pb : Pos B) : out = jnl A B := by
  obtain ⟨_, _, ⟨o1, o2⟩, _, h5, _, _⟩ := h
  exact jnl_is ha pa pb o1 (pos_nz o2) (fun v => by have := h5 v; simp [cn] at this; omega)
theorem head_cons {l : List Rn} {x : Rn} (h : l[0]? = some x) : l = x :: l.drop 1 := by
  cases l with
  | nil => simp at h
  | cons y l => simp at h; subst h; rfl

/-- The way of Minus. -/
def MI (a b out : List Rn) (k j : Nat) : Prop :=
  Srt out ∧ Pos out ∧ (∀ r ∈ out, ∃ s ∈ a.take k, s.1 = r.1) ∧ (∀ v, cn v out = cn v (a.take k) - cn v (b.take j)) ∧ (∀ r ∈ b.take j, r.2 ≤ cn r.1 a) ∧ ∀ r ∈ a.take k, ∀ y, b[j]? = some y → ¬ r.1 = y.1
theorem mi_0 (a b : List Rn) : MI a b [] 0 0 :=
  ⟨srt_nil, pos_nil, (fun r hr => by simp at hr), (fun v => by simp [cn]), (fun r hr => by simp at hr), fun r hr => by simp at hr⟩
theorem take_lt {a : List Rn} (ha : Srt a) {k : Nat} {x : Rn} (hr : a[k]? = some x) : ∀ r ∈ a.take k, r.1 < x.1 := by
  intro r hr'
  obtain ⟨i, hi⟩ := List.mem_iff_getElem?.1 hr'
  rw [List.getElem?_take] at hi
  by_cases hik : i < k
  · rw [if_pos hik] at hi; exact srt_get ha hi hr hik
  · rw [if_neg hik] at hi; cases hi
theorem mi_snoc {a out : List Rn} (ha : Srt a) {k : Nat} {x0 x1 z : Int} (hr : a[k]? = some (x0, x1)) (ho : Srt out) (hp : Pos out) (hm : ∀ r ∈ out, ∃ s ∈ a.take k, s.1 = r.1) (hz : 1 ≤ z) : Srt (out ++ [(x0, z)]) ∧ Pos (out ++ [(x0, z)]) ∧ ∀ r ∈ out ++ [(x0, z)], ∃ s ∈ a.take (k + 1), s.1 = r.1 := by
  refine ⟨srt_snoc ho (fun r hr' => ?_), fun r hr' => ?_, fun r hr' => ?_⟩
  · obtain ⟨s, hs, e⟩ := hm r hr'
    have := take_lt ha hr s hs
    simp only at this ⊢; omega
  · rcases List.mem_append.1 hr' with hr' | hr'
    · exact hp r hr'
    · simp at hr'; subst hr'; exact hz
  · rw [take_one hr]
    rcases List.mem_append.1 hr' with hr' | hr'
    · obtain ⟨s, hs, e⟩ := hm r hr'
      exact ⟨s, List.mem_append_left _ hs, e⟩
    · simp at hr'; subst hr'; exact ⟨(x0, x1), by simp, rfl⟩
theorem mi_keep {a b out : List Rn} {k j : Nat} {x0 x1 : Int} (h : MI a b out k j) (ha : Srt a) (pa : Pos a) (hr : a[k]? = some (x0, x1)) (hne : ∀ y, b[j]? = some y → ¬ x0 = y.1) : MI a b (out ++ [(x0, x1)]) (k + 1) j := by
  obtain ⟨h1, h2, h3, h4, h5, h6⟩ := h
  obtain ⟨g1, g2, g3⟩ := mi_snoc (z := x1) ha hr h1 h2 h3 (pa (x0, x1) (List.mem_of_getElem? hr))
  refine ⟨g1, g2, g3, fun v => ?_, h5, fun r hr' y hy => ?_⟩
  · rw [take_one hr, cn_app, cn_app, h4]; simp only [cn]; omega
  · rw [take_one hr] at hr'
    rcases List.mem_append.1 hr' with hr' | hr'
    · exact h6 r hr' y hy
    · simp at hr'; subst hr'; exact hne y hy
theorem mi_next {a b : List Rn} {k j : Nat} {x0 x1 y1 : Int} (ha : Srt a) (hb : Srt b) (hr : a[k]? = some (x0, x1)) (hq : b[j]? = some (x0, y1)) (h5 : ∀ r ∈ b.take j, r.2 ≤ cn r.1 a) (hy : y1 ≤ x1) : (∀ r ∈ b.take (j + 1), r.2 ≤ cn r.1 a) ∧ ∀ r ∈ a.take (k + 1), ∀ y, b[j + 1]? = some y → ¬ r.1 = y.1 := by
  refine ⟨fun r hr' => ?_, fun r hr' y hy' => ?_⟩
  · rw [take_one hq] at hr'
    rcases List.mem_append.1 hr' with hr' | hr'
    · exact h5 r hr'
    · simp at hr'; subst hr'
      have := cn_at ha hr
      simp only at this ⊢; omega
  · have h1 : x0 < y.1 := srt_get hb hq hy' (by omega)
    rw [take_one hr] at hr'
    rcases List.mem_append.1 hr' with hr' | hr'
    · have := take_lt ha hr r hr'; simp only at this; omega
    · simp at hr'; subst hr'; simp only; omega
theorem mi_sub {a b out : List Rn} {k j : Nat} {x0 x1 y1 : Int} (h : MI a b out k j) (ha : Srt a) (hb : Srt b) (hr : a[k]? = some (x0, x1)) (hq : b[j]? = some (x0, y1)) (hy : y1 < x1) : MI a b (out ++ [(x0, x1 - y1)]) (k + 1) (j + 1) := by
  obtain ⟨h1, h2, h3, h4, h5, h6⟩ := h
  obtain ⟨g1, g2, g3⟩ := mi_snoc (z := x1 - y1) ha hr h1 h2 h3 (by omega)
  obtain ⟨e1, e2⟩ := mi_next ha hb hr hq h5 (by omega)
  refine ⟨g1, g2, g3, fun v => ?_, e1, e2⟩
  rw [take_one hr, take_one hq, cn_app, cn_app, cn_app, h4]
  simp only [cn]; split <;> omega
theorem mi_gone {a b out : List Rn} {k j : Nat} {x0 x1 y1 : Int} (h : MI a b out k j) (ha : Srt a) (hb : Srt b) (hr : a[k]? = some (x0, x1)) (hq : b[j]? = some (x0, y1)) (hy : y1 = x1) : MI a b out (k + 1) (j + 1) := by
  obtain ⟨h1, h2, h3, h4, h5, h6⟩ := h
  obtain ⟨e1, e2⟩ := mi_next ha hb hr hq h5 (by omega)
  refine ⟨h1, h2, fun r hr' => ?_, fun v => ?_, e1, e2⟩
  · obtain ⟨s, hs, e⟩ := h3 r hr'
    exact ⟨s, by rw [take_one hr]; exact List.mem_append_left _ hs, e⟩
  · rw [take_one hr, take_one hq, cn_app, cn_app, h4]
    simp only [cn]; split <;> omega
theorem mi_bad {a b : List Rn} {k j : Nat} {x0 x1 y1 : Int} (ha : Srt a) (hr : a[k]? = some (x0, x1)) (hq : b[j]? = some (x0, y1)) (hy : x1 < y1) : ¬ Fits a b := by
  intro hf
  have h1 := hf _ (List.mem_of_getElem? hq)
  have h2 := cn_at ha hr
  simp only at h1 h2; omega
theorem mi_end {a b out : List Rn} {k j : Nat} {y : Rn} (h : MI a b out k j) (pb : Pos b) (hk : a.length ≤ k) (hq : b[j]? = some y) : ¬ Fits a b := by
  intro hf
  obtain ⟨_, _, _, _, _, h6⟩ := h
  rw [List.take_of_length_le hk] at h6
  have h1 := hf y (List.mem_of_getElem? hq)
  have h2 := pb y (List.mem_of_getElem? hq)
  have h3 : cn y.1 a = 0 := cn_none (fun r hr => h6 r hr y hq)
  omega
theorem mi_done {a b out : List Rn} {k j : Nat} (h : MI a b out k j) (ha : Srt a) (pa : Pos a) (pb : Pos b) (hk : a.length ≤ k) (hj : b.length ≤ j) : Fits a b ∧ out = mnl a b := by
  obtain ⟨h1, h2, h3, h4, h5, h6⟩ := h
  rw [List.take_of_length_le hk] at h4
  rw [List.take_of_length_le hj] at h4 h5
  exact ⟨h5, mnl_is ha (pos_nz pa) pb h1 (pos_nz h2) h4⟩
/-- A row of one's own, while another block is written into. -/
theorem own_other {w w' : World} {base N : Nat} {v : Value} {l : List Rn} (h : OwnN w base v l) (hg : w.grownBy w' (some N)) (hN : ∀ g, v.ownBlock = some g → ¬ g = N) : OwnN w' base v l := by
  unfold OwnN at *
  refine ⟨h.1, ?_⟩
  rcases h.2 with h' | ⟨g, cap, cur, h', hb, hh, h1, h2, h3, h4⟩
  · exact .inl h'
  · refine .inr ⟨g, cap, cur, h', hb, ?_, h1, h2, h3, h4⟩
    rw [hg.block g (heap_lt hh) (fun e => hN g (by rw [h']; rfl) (by cases e; rfl))]
    exact hh

end Go.Proofs.Ytjkkajhjcinalaa

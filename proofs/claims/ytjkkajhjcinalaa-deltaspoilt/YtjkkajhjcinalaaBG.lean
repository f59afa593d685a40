/-
  What the document's Of, Join, Minus return.
  Conditions: as each theorem states them.
-/
import Derived.Test.YtjkkajhjcinalaaBF
namespace Go.Proofs.Ytjkkajhjcinalaa
open Go.ChangeShapes Go.WideShapes Go.ChangeAt Go.RowKit
set_option linter.unusedVariables false
set_option linter.unusedSimpArgs false
set_option maxRecDepth 100000

theorem lay_m (a : Option Addr) (m c : Nat) (l : List Rn) (v n : Int) (M : List Rn) (w : World) (hl : NRun w a m c l) (hz : Hid (Nz l)) (hb : Hid (∀ r ∈ l, -1099511627776 ≤ r.2 ∧ r.2 ≤ 1099511627776)) (hn : -1099511627776 ≤ n ∧ n ≤ 1099511627776) (hm : m ≤ 1000000) (hM : Hid (lay v n l = M)) :
    Calls Try.prog 52 #[.slice a m c, .int .i64 v, .int .i64 n] w fun e w' => (∃ A cap, e = .returned (.slice A M.length cap) ∧ NRun w' A M.length cap M ∧ ∀ b off, A = some ⟨b, off, none⟩ → w.heap.size ≤ b) ∧ Below w.heap.size w w' := by
  refine (lay_any a m c l v n w hl hz.out hb.out hn hm).mono ?_
  rintro e w' ⟨u, rfl, hb, ho⟩
  rw [hM.out] at ho
  obtain ⟨A, cap, rfl, hr⟩ := own_any ho
  exact ⟨⟨A, cap, rfl, hr, fun b off e => by subst e; exact (ho.lt b rfl).1⟩, hb⟩
/-- What is laid on the way is as small as Lay wants it. -/
def Sml (l : List Rn) : Prop := Nz l ∧ (∀ r ∈ l, -1099511627776 ≤ r.2 ∧ r.2 ≤ 1099511627776) ∧ l.length ≤ 1000000
theorem sml_of (l : List Int) (h : l.length ≤ 1000) : Sml (bagOf l) := by
  refine ⟨pos_nz (bagOf_pos l), fun r hr => ?_, by have := bagOf_len l; omega⟩
  have h1 := bagOf_pos l r hr
  have h2 := cn_srt_eq (bagOf_srt l) hr
  have h3 := cn_le (v := r.1) (bagOf_pos l)
  rw [bagOf_tot] at h3
  omega
theorem sml_jn {a b : List Rn} (ha : Bag a) (hb : Bag b) (ht : tot a + tot b ≤ 1099511627776) (la : a.length ≤ 1000) (lb : b.length ≤ 1000) (k : Nat) : Sml (jnl a (b.take k)) := by
  have h1 := jnl_bd ha.1 ha.2.1 (pos_take hb.2.1 k) (by have := tot_take hb.2.1 k; omega)
  refine ⟨pos_nz (jnl_pos ha.2.1 (pos_take hb.2.1 k)), fun r hr => ?_, ?_⟩
  · have := h1 r hr; omega
  · have := jnl_len a (b.take k); rw [List.length_take] at this; omega
theorem sml_mn {a b : List Rn} (ha : Bag a) (hb : Bag b) (la : a.length ≤ 1000) (lb : b.length ≤ 1000) (k : Nat) : Sml (mnl a (b.take k)) := by
  have h1 := mnl_bd ha.1 ha.2.1 (pos_take hb.2.1 k) ha.2.2 (by have := tot_take hb.2.1 k; have := hb.2.2; omega)
  refine ⟨mnl_nz (pos_nz ha.2.1) (pos_take hb.2.1 k), h1, ?_⟩
  have := mnl_len a (b.take k); rw [List.length_take] at this; omega

/-- A block that is kept behind a world. -/
def Kp (w wr : World) (N : Nat) (o : Obj) : Prop := Below w.heap.size w wr ∧ w.heap.size ≤ N ∧ wr.heap[N]? = some o
theorem Kp.step {w wr w' : World} {N : Nat} {o : Obj} (h : Kp w wr N o) (hb : Below wr.heap.size wr w') : Kp w w' N o := ⟨bt h.1 hb, h.2.1, keep_blk h.2.2 hb⟩
theorem kp_new (w : World) (o : Obj) : Kp w (w.alloc o) w.heap.size o := ⟨b1alloc w o, Nat.le_refl _, heap_alloc_new w o⟩
theorem set2_heap {w : World} {N : Nat} {t : TypeId} {p q : Value} (u v : Value) (h : w.heap[N]? = some (.cells #[p, q] t)) : ((w.setCell ⟨N, 0, none⟩ u).setCell ⟨N, 1, none⟩ v).heap[N]? = some (.cells #[u, v] t) := by
  have h0 := heap_setCell_same w N 0 _ t u h
  have h1 := heap_setCell_same _ N 1 _ t v h0
  exact h1
theorem set2_below {w wr : World} {N : Nat} {o : Obj} (u v : Value) (h : Kp w wr N o) : Below w.heap.size w ((wr.setCell ⟨N, 0, none⟩ u).setCell ⟨N, 1, none⟩ v) := (h.1.setCell h.2.1 _).setCell h.2.1 _
theorem set2_run {w : World} {N : Nat} {A : Option Addr} {n c : Nat} {l : List Rn} (u v : Value) (h : NRun w A n c l) (hne : 0 < n → ∀ b off, A = some ⟨b, off, none⟩ → ¬ b = N) : NRun ((w.setCell ⟨N, 0, none⟩ u).setCell ⟨N, 1, none⟩ v) A n c l := by
  obtain ⟨h1, h2, h3, h4, h5⟩ := h
  refine ⟨h1, h2, h3, h4, fun h0 => ?_⟩
  obtain ⟨b, off, e, hlt, hl⟩ := h5 h0
  have hb := hne h0 b off e
  refine ⟨b, off, e, by simpa using hlt, fun j r hj i x hi => ?_⟩
  have g1 := set_grown w N 0 u
  have g2 := set_grown (w.setCell ⟨N, 0, none⟩ u) N 1 v
  rw [grown_cell g2 (by simpa using hlt) (fun e' => hb (by cases e'; rfl)), grown_cell g1 hlt (fun e' => hb (by cases e'; rfl))]
  exact hl j r hj i x hi
/-- What the document's Join tells. -/
def Jn (a b : List Rn) : Bool := gd a && gd b && decide (tot a + tot b ≤ 1099511627776)
def Jl (a b : List Rn) : List Rn := if Jn a b then jnl a b else []
theorem jn_no1 {a b : List Rn} (h : gd a = false) : Jn a b = false := by unfold Jn; rw [h]; rfl
theorem jn_no2 {a b : List Rn} (h : gd b = false) : Jn a b = false := by unfold Jn; rw [h]; simp
theorem jn_no3 {a b : List Rn} (h : 1099511627776 < tot a + tot b) : Jn a b = false := by unfold Jn; rw [decide_eq_false (by omega)]; simp
theorem jn_yes {a b : List Rn} (h : Bag a) (h' : Bag b) (ht : tot a + tot b ≤ 1099511627776) : Jn a b = true := by unfold Jn; rw [gd_yes h, gd_yes h', decide_eq_true ht]; rfl
theorem jl_no {a b : List Rn} (h : Jn a b = false) : Jl a b = [] := by unfold Jl; rw [h]; rfl
theorem jl_yes {a b : List Rn} (h : Jn a b = true) : Jl a b = jnl a b := by unfold Jl; rw [h]; rfl
/-- What the document's Minus tells. -/
def Mn (a b : List Rn) : Bool := gd a && gd b && fits a b
def Ml (a b : List Rn) : List Rn := if Mn a b then mnl a b else []
theorem mn_no1 {a b : List Rn} (h : gd a = false) : Mn a b = false := by unfold Mn; rw [h]; rfl
theorem mn_no2 {a b : List Rn} (h : gd b = false) : Mn a b = false := by unfold Mn; rw [h]; simp
theorem mn_no3 {a b : List Rn} (h : ¬ Fits a b) : Mn a b = false := by unfold Mn; rw [fits_no h]; simp
theorem mn_yes {a b : List Rn} (h : Bag a) (h' : Bag b) (ht : Fits a b) : Mn a b = true := by unfold Mn; rw [gd_yes h, gd_yes h', fits_yes ht]; rfl
theorem ml_no {a b : List Rn} (h : Mn a b = false) : Ml a b = [] := by unfold Ml; rw [h]; rfl
theorem ml_yes {a b : List Rn} (h : Mn a b = true) : Ml a b = mnl a b := by unfold Ml; rw [h]; rfl
theorem rcount_m (a : Option Addr) (n c : Nat) (l : List Rn) (T : Int) (w : World) (hl : NRun w a n c l) (hk : ∀ r ∈ l, nok r) (hT : Hid (tl l = T)) :
    Calls Try.prog 60 #[.slice a n c] w fun e w' => e = .returned (.int .i64 T) ∧ Below w.heap.size w w' := by
  have := rcount_any a n c l w hl hk
  rw [hT.out] at this
  exact this
theorem rhas_m (a : Option Addr) (n c : Nat) (l : List Rn) (v C : Int) (w : World) (hl : NRun w a n c l) (hk : ∀ r ∈ l, nok r) (hC : Hid (hs v l = C)) :
    Calls Try.prog 81 #[.slice a n c, .int .i64 v] w fun e w' => e = .returned (.int .i64 C) ∧ Below w.heap.size w w' := by
  have := rhas_any a n c l v w hl hk
  rw [hC.out] at this
  exact this

end Go.Proofs.Ytjkkajhjcinalaa

/-
  A reader of numbers in a world; what schema's number returns.
  Conditions: as each theorem states them.
-/
import Derived.Test.YtmlnfpefemchhaaSP
import Derived.Test.YtmlnfpefemchhaaSK
import Derived.Test.YtmlnfpefemchhaaOn
namespace Go.Proofs.Ytmlnfpefemchhaa
open Go.ChangeShapes Go.WideShapes Go.ChangeAt Go.RowKit
set_option linter.unusedVariables false
set_option linter.unusedSimpArgs false

/-- A reader in a block of one's own: what is left of the bytes, or that it is stuck. -/
def Rdr (t : TypeId) (w0 w : World) (B : Nat) (s : St) : Prop :=
  w0.heap.size ≤ B ∧ B < w.heap.size ∧ Below w0.heap.size w0 w ∧
    ∃ a n c l st, w.heap[B]? = some (.cells #[.slice a n c, .bool st] t) ∧ code.Row8 w0 a n c l ∧ (st = false ∧ s = some l ∨ st = true ∧ s = none)
theorem Rdr.nn {t : TypeId} {w0 w : World} {B : Nat} {s : St} (h : Rdr t w0 w B s) : NN s := by
  obtain ⟨_, _, _, a, n, c, l, st, _, hr, hs⟩ := h
  intro l' hl x hx
  rcases hs with ⟨_, rfl⟩ | ⟨_, rfl⟩
  · cases hl; exact (hr.2.2.2.1 x hx).1
  · cases hl
theorem Rdr.grow {t : TypeId} {w0 w w' : World} {B : Nat} {s : St} {row : Option Nat} (h : Rdr t w0 w B s) (hg : w.grownBy w' row) (hr : ∀ j, row = some j → w0.heap.size ≤ j ∧ ¬ j = B) : Rdr t w0 w' B s := by
  obtain ⟨h1, h2, h3, a, n, c, l, st, hc, hr8, hs⟩ := h
  have hne : some B ≠ row := fun e => (hr B e.symm).2 rfl
  exact ⟨h1, Nat.lt_of_lt_of_le h2 hg.size, h3.grown hg h3.size (fun j hj => (hr j hj).1), a, n, c, l, st, (hg.block B h2 hne).trans hc, hr8, hs⟩
theorem Rdr.below {t : TypeId} {w0 w w' : World} {B : Nat} {s : St} (h : Rdr t w0 w B s) (hb : Below w.heap.size w w') : Rdr t w0 w' B s := h.grow (below_grow hb none) (fun j hj => by cases hj)
theorem Rdr.kind {t : TypeId} {w0 w : World} {B : Nat} {s : St} (h : Rdr t w0 w B s) : ∃ cs, w.heap[B]? = some (.cells cs t) := by
  obtain ⟨h1, h2, h3, a, n, c, l, st, hc, hr8, hs⟩ := h
  exact ⟨_, hc⟩
theorem rdr_stuck {t : TypeId} {w0 w : World} {B : Nat} {s : St} (h : Rdr t w0 w B s) : Rdr t w0 (w.setCell ⟨B, 1, none⟩ (.bool true)) B none := by
  obtain ⟨h1, h2, h3, a, n, c, l, st, hc, hr8, hs⟩ := h
  exact ⟨h1, by simpa using h2, h3.setCell h1 _, a, n, c, l, true, heap_setCell_same w B 1 _ t _ hc, hr8, .inr ⟨rfl, rfl⟩⟩
theorem rdr_left {t : TypeId} {w0 w : World} {B : Nat} {a a' : Option Addr} {n c n' c' : Nat} {r : List Int} (h1 : w0.heap.size ≤ B) (h2 : B < w.heap.size) (h3 : Below w0.heap.size w0 w)
    (hc : w.heap[B]? = some (.cells #[.slice a n c, .bool false] t)) (hr : code.Row8 w0 a' n' c' r) : Rdr t w0 (w.setCell ⟨B, 0, none⟩ (.slice a' n' c')) B (some r) :=
  ⟨h1, by simpa using h2, h3.setCell h1 _, a', n', c', r, false, heap_setCell_same w B 0 _ t _ hc, hr, .inl ⟨rfl, rfl⟩⟩
theorem row8_tail {w : World} {b off n c : Nat} {x : Int} {r : List Int} (h : code.Row8 w (some ⟨b, off, none⟩) n c (x :: r)) (hc : ¬ c = 1) : code.Row8 w (some ⟨b, off + 1, none⟩) (n - 1) (c - 1) r := by
  obtain ⟨h1, h2, h3, h4, h5, h6⟩ := h
  rw [List.length_cons] at h1
  refine ⟨by omega, by omega, by omega, fun y hy => h4 y (by simp [hy]), (fun e => by cases e), fun h0 => ?_⟩
  obtain ⟨b', off', e, hb, hl⟩ := h6 (by omega)
  cases e
  refine ⟨b, off + 1, rfl, hb, fun j hj => ?_⟩
  have := hl (j + 1) (by simpa using hj)
  rw [show off + 1 + j = off + (j + 1) by omega, this]
  simp
theorem row8_tail1 {w : World} {b off n c : Nat} {x : Int} {r : List Int} (h : code.Row8 w (some ⟨b, off, none⟩) n c (x :: r)) (hc : c = 1) : code.Row8 w (some ⟨b, off, none⟩) (n - 1) (c - 1) r := by
  obtain ⟨h1, h2, h3, h4, h5, h6⟩ := h
  rw [List.length_cons] at h1
  have hr : r = [] := List.length_eq_zero_iff.mp (by omega)
  subst hr
  exact ⟨by simp at h1 ⊢; omega, by omega, by omega, by simp, (fun e => by cases e), fun h0 => by simp at h1; omega⟩
/-- What Get tells of bytes at whose head no small number stands. -/
theorem get_not {l : List Int} (hu : ∀ x ∈ l, U8 x) (h : (pnum (some l)).2 = none) : code.getB l = false ∨ 40 < code.getV l := by
  cases hb : code.getB l with
  | false => exact .inl rfl
  | true =>
    right
    have hb0 := hb
    unfold code.getB at hb
    obtain ⟨h1, h2, h3, h4⟩ := of_decide_eq_true hb
    unfold code.getV
    rw [if_pos hb0]
    cases l with
    | nil => simp at h1
    | cons x r =>
      have hx : ¬ x ≤ 40 := fun hx => by rw [pnum_yes hx] at h; cases h
      by_cases hl : code.lead (x :: r) = 0
      · rw [hl, code.low_step _ _ (by simp)]
        have hx127 : x ≤ 127 := by
          by_cases hh : 127 < x
          · exfalso
            have : code.lead (x :: r) = code.lead r + 1 := by simp [code.lead, hh]
            omega
          · omega
        have u := hu x (by simp)
        have e : x % 128 = x := Int.emod_eq_of_lt u.1 (by omega)
        simp [code.low, code.top, e]
        omega
      · obtain ⟨k, hk⟩ : ∃ k, code.lead (x :: r) = k + 1 := ⟨code.lead (x :: r) - 1, by omega⟩
        rw [hk] at h1 h3 ⊢
        rw [code.low_step _ _ h1]
        have u := hu _ (by
          have : (x :: r).getD (k + 1) 0 ∈ (x :: r) := by
            rw [List.getD_eq_getElem?_getD, List.getElem?_eq_getElem h1]; exact List.getElem_mem h1
          exact this)
        have h5 : (x :: r).getD (k + 1) 0 ≤ 127 := by
          have key : ∀ (l : List Int), code.lead l < l.length → l.getD (code.lead l) 0 ≤ 127 := by
            intro l
            induction l with
            | nil => intro h; simp at h
            | cons y t ih =>
              intro hlt
              by_cases hy : 127 < y
              · have e : code.lead (y :: t) = code.lead t + 1 := by simp [code.lead, hy]
                rw [e] at hlt ⊢
                simpa using ih (by simpa using hlt)
              · have e : code.lead (y :: t) = 0 := by simp [code.lead, hy]
                rw [e]; simp; omega
          have := key (x :: r) (by rw [hk]; exact h1)
          rw [hk] at this; exact this
        have h6 : (x :: r).getD (k + 1) 0 ≠ 0 := fun e => h3 ⟨by omega, e⟩
        have e : (x :: r).getD (k + 1) 0 % 128 = (x :: r).getD (k + 1) 0 := Int.emod_eq_of_lt u.1 (by omega)
        rw [e]
        have l0 := code.low_nonneg (x :: r) (k + 1)
        have tk : 128 ≤ code.top (k + 1) := by
          have := code.top_pos k
          show 128 ≤ code.top (k + 1)
          simp only [code.top]
          omega
        have u1 : 1 ≤ (x :: r).getD (k + 1) 0 := by have := u.1; omega
        have m1 : code.top (k + 1) ≤ (x :: r).getD (k + 1) 0 * code.top (k + 1) := by
          have := Int.mul_le_mul_of_nonneg_right u1 (show 0 ≤ code.top (k + 1) by omega)
          omega
        omega

end Go.Proofs.Ytmlnfpefemchhaa

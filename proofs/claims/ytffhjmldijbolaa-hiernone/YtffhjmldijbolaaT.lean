/-
  A dimension that may not be: what is told of it; the last two lines of the law HierNone.
  Conditions: as each theorem states them.
-/
import Derived.Test.YtffhjmldijbolaaR
namespace Go.Proofs.Ytffhjmldijbolaa
open Go.ChangeShapes Go.WideShapes Go.ChangeAt Go.RowKit
set_option linter.unusedVariables false
set_option linter.unusedSimpArgs false

theorem good_is (sa : Option Addr) (sl sc : Nat) (ua : Option Addr) (ul uc : Nat) (S : List Int) (U : List (List Int)) (v : Bool) (w : World) (hd : Dim w sa sl sc ua ul uc S U) (hg : Hid (good S U = v)) :
    Calls Try.prog 18 #[.agg #[.slice sa sl sc, .slice ua ul uc]] w fun e w' => e = .returned (.bool v) ∧ Below w.heap.size w w' := by
  have := good_any _ _ _ _ _ _ _ _ _ hd
  rw [hg.out] at this; exact this
theorem lift_none (sa : Option Addr) (sl sc : Nat) (ua : Option Addr) (ul uc : Nat) (S : List Int) (U : List (List Int)) (f t m : Int) (w : World) (hd : Dim w sa sl sc ua ul uc S U) (hg : Hid (good S U = false)) (hf : I64 f) (ht : I64 t) (hm : I64 m) :
    Calls Try.prog 15 #[.agg #[.slice sa sl sc, .slice ua ul uc], .int .i64 f, .int .i64 t, .int .i64 m] w fun e w' => e = .returned (.tuple #[.int .i64 0, .bool false]) ∧ Below w.heap.size w w' := by
  have := lift_any sa sl sc ua ul uc S U f t m w hd hf ht hm
  rw [← ret_none (lift_bad hg.out f t m)] at this
  exact this
theorem size_none (sa : Option Addr) (sl sc : Nat) (ua : Option Addr) (ul uc : Nat) (S : List Int) (U : List (List Int)) (f : Int) (w : World) (hd : Dim w sa sl sc ua ul uc S U) (hg : Hid (good S U = false)) (hf : I64 f) :
    Calls Try.prog 19 #[.agg #[.slice sa sl sc, .slice ua ul uc], .int .i64 f] w fun e w' => e = .returned (.int .i64 0) ∧ Below w.heap.size w w' := by
  have := size_any sa sl sc ua ul uc S U f w hd hf
  rw [size_bad hg.out] at this
  exact this
theorem under_none (sa : Option Addr) (sl sc : Nat) (ua : Option Addr) (ul uc : Nat) (S : List Int) (U : List (List Int)) (t m f : Int) (w : World) (hd : Dim w sa sl sc ua ul uc S U) (hg : Hid (good S U = false)) (ht : I64 t) (hm : I64 m) (hf : I64 f) :
    Calls Try.prog 16 #[.agg #[.slice sa sl sc, .slice ua ul uc], .int .i64 t, .int .i64 m, .int .i64 f] w fun e w' => (∃ a c, e = .returned (.slice a 0 c)) ∧ Below w.heap.size w w' := by
  have := under_any sa sl sc ua ul uc S U t m f w hd ht hm hf
  rw [under_bad hg.out] at this
  exact this.mono fun e w' ⟨⟨a, c, h, _⟩, hb⟩ => ⟨⟨a, c, h⟩, hb⟩
theorem kids_none (sa : Option Addr) (sl sc : Nat) (ua : Option Addr) (ul uc : Nat) (S : List Int) (U : List (List Int)) (t m : Int) (w : World) (hd : Dim w sa sl sc ua ul uc S U) (hg : Hid (good S U = false)) (ht : I64 t) (hm : I64 m) :
    Calls Try.prog 17 #[.agg #[.slice sa sl sc, .slice ua ul uc], .int .i64 t, .int .i64 m] w fun e w' => (∃ a c, e = .returned (.slice a 0 c)) ∧ Below w.heap.size w w' := by
  have h := kids_any sa sl sc ua ul uc S U t m w hd ht hm
  have e : kids S U t m = [] := by unfold kids; rw [under_bad hg.out]; split <;> rfl
  rw [e] at h
  exact h.mono fun e w' ⟨⟨a, c, h, _⟩, hb⟩ => ⟨⟨a, c, h⟩, hb⟩
/-- Two dimensions' cells. -/
def Two (w wr : World) (X : Nat) (s u s' u' : Value) : Prop := Bx w wr s u ∧ X < wr.heap.size ∧ wr.cell? ⟨X, 0, none⟩ = some s' ∧ wr.cell? ⟨X, 1, none⟩ = some u'
theorem Two.step {w wr w' : World} {X : Nat} {s u s' u' : Value} (h : Two w wr X s u s' u') (hb : Below wr.heap.size wr w') : Two w w' X s u s' u' :=
  ⟨h.1.step hb, Nat.lt_of_lt_of_le h.2.1 hb.size, ((bcell hb).1 _ _ h.2.1).trans h.2.2.1, ((bcell hb).1 _ _ h.2.1).trans h.2.2.2⟩
/-- The second one's block was laid by oneself. -/
theorem two_new (w w1 : World) (s u : Value) (t : TypeId) (h : Bx w w1 s u) : Two w (w1.alloc (.cells #[s, u] t)) w1.heap.size s u s u ∧ (∀ o, (w1.alloc (.cells #[s, u] t)).frozen? ⟨w1.heap.size, o, none⟩ = false) ∧ (w1.alloc (.cells #[s, u] t)).heap.size = w1.heap.size + 1 ∧ w.heap.size < w1.heap.size := by
  have h2 := box_new w1 s u t
  exact ⟨⟨h.step ((Below.refl _ _).alloc (Nat.le_refl _) _), by simp, h2.2.1, h2.2.2⟩, fun o => by simp [go_sem], by simp, h.1⟩

theorem two_set0 {w wr : World} {X : Nat} {s u s' u' : Value} (h : Two w wr X s u s' u') (hX : w.heap.size < X) (v : Value) : Two w (wr.setCell ⟨X, 0, none⟩ v) X s u v u' := by
  obtain ⟨⟨b0, b1, b2, b3⟩, h1, h2, h3⟩ := h
  exact ⟨⟨by simpa using b0, b1.setCell (by exact Nat.le_of_lt hX) v, (World.cell?_setCell_other _ _ _ _ (by simp <;> omega)).trans b2, (World.cell?_setCell_other _ _ _ _ (by simp <;> omega)).trans b3⟩, by simpa using h1, World.cell?_setCell_same _ _ _ h2, (World.cell?_setCell_other _ _ _ _ (by simp)).trans h3⟩
theorem two_set1 {w wr : World} {X : Nat} {s u s' u' : Value} (h : Two w wr X s u s' u') (hX : w.heap.size < X) (v : Value) : Two w (wr.setCell ⟨X, 1, none⟩ v) X s u s' v := by
  obtain ⟨⟨b0, b1, b2, b3⟩, h1, h2, h3⟩ := h
  exact ⟨⟨by simpa using b0, b1.setCell (by exact Nat.le_of_lt hX) v, (World.cell?_setCell_other _ _ _ _ (by simp <;> omega)).trans b2, (World.cell?_setCell_other _ _ _ _ (by simp <;> omega)).trans b3⟩, by simpa using h1, (World.cell?_setCell_other _ _ _ _ (by simp)).trans h2, World.cell?_setCell_same _ _ _ h3⟩
/-- The sizes are exchanged. -/
theorem dim_sizes {w wx : World} {sa : Option Addr} {sl sc : Nat} {ua : Option Addr} {ul uc : Nat} {S : List Int} {U : List (List Int)} {base g n cap : Nat} {e : TypeId} {S' : List Int} (hd : Dim w sa sl sc ua ul uc S U) (hb : Below w.heap.size w wx) (ho : wx.ownsRow base e 1 (.slice (some ⟨g, 0, none⟩) n cap) n (vals .i64 S')) (hS : ∀ x ∈ S', I64 x) : Dim wx (some ⟨g, 0, none⟩) n cap ua ul uc S' U :=
  ⟨own_row ho, (hd.below hb).2.1, hS, hd.2.2.2⟩
/-- The lists are exchanged. -/
theorem dim_ups {w wx : World} {sa : Option Addr} {sl sc : Nat} {ua : Option Addr} {ul uc : Nat} {S : List Int} {U : List (List Int)} {base g n cap : Nat} {e : TypeId} {vs : List Value} {U' : List (List Int)} (hd : Dim w sa sl sc ua ul uc S U) (hb : Below w.heap.size w wx) (ho : wx.ownsRow base e 1 (.slice (some ⟨g, 0, none⟩) n cap) n vs) (hr : Rows wx vs U') (hU : ∀ l ∈ U', ∀ x ∈ l, I64 x) : Dim wx sa sl sc (some ⟨g, 0, none⟩) n cap S U' :=
  ⟨(hd.below hb).1, irows_own ho hr, hd.2.2.1, hU⟩

end Go.Proofs.Ytffhjmldijbolaa

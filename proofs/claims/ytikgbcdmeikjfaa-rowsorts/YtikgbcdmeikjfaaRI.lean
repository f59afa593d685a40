/-
  A row at the beginning of bytes, as lists; what row.Read returns.
  Conditions: as each theorem states them.
-/
import Derived.Test.YtikgbcdmeikjfaaRH
import Derived.Laws.CopyOwn
namespace Go.Proofs.Ytikgbcdmeikjfaa
open Go.ChangeShapes Go.WideShapes Go.ChangeAt Go.RowKit
set_option linter.unusedVariables false
set_option linter.unusedSimpArgs false
set_option maxRecDepth 100000

/-- Where the second number begins. -/
def rdP (l : List Int) : Nat := 4 + (code.getN (l.drop 4)).toNat
def rdB (l : List Int) : Bool := decide (4 ≤ l.length) && (code.getB (l.drop 4) && code.getB (l.drop (rdP l)))
def rdN (l : List Int) : Int := if rdB l then 4 + code.getN (l.drop 4) + code.getN (l.drop (rdP l)) else 0
def rdR (l : List Int) : Rw := if rdB l then (l.getD 0 0, l.getD 1 0, l.getD 2 0, l.getD 3 0, code.zag (code.getV (l.drop 4)), code.zag (code.getV (l.drop (rdP l)))) else (0, 0, 0, 0, 0, 0)
theorem getB_bd {l : List Int} (h : code.getB l = true) : 1 ≤ code.getN l ∧ code.getN l ≤ 10 ∧ (code.getN l).toNat ≤ l.length := by
  have h' := h
  unfold code.getB at h'
  rw [decide_eq_true_iff] at h'
  unfold code.getN
  rw [if_pos h]
  omega
theorem getV_u64 (l : List Int) (hu : ∀ x ∈ l, U8 x) : U64 (code.getV l) := by
  unfold code.getV
  by_cases h : code.getB l = true
  · have h' := h
    unfold code.getB at h'
    rw [decide_eq_true_iff] at h'
    obtain ⟨h1, h2, h3, h4⟩ := h'
    rw [if_pos h]
    have hd := code.getD_u8 hu (code.lead l) h1
    exact ⟨code.low_nonneg _ _, code.low_bd h2 h1 hd.1 (fun e => by omega)⟩
  · rw [if_neg h]; exact ⟨by decide, by decide⟩
theorem zag_i64 {u : Int} (h : U64 u) : I64 (code.zag u) := by
  obtain ⟨h1, h2⟩ := h
  unfold code.zag I64
  split <;> omega
theorem rdR_ok {l : List Int} (hu : ∀ x ∈ l, U8 x) : rok (rdR l) := by
  unfold rdR
  by_cases h : rdB l = true
  · rw [if_pos h]
    unfold rdB at h
    simp only [Bool.and_eq_true, decide_eq_true_iff] at h
    have g := fun k hk => code.getD_u8 hu k hk
    exact ⟨⟨g 0 (by omega), g 1 (by omega), g 2 (by omega), g 3 (by omega)⟩, zag_i64 (getV_u64 _ (fun x hx => hu x (List.mem_of_mem_drop hx))), zag_i64 (getV_u64 _ (fun x hx => hu x (List.mem_of_mem_drop hx)))⟩
  · rw [if_neg h]; exact ⟨⟨⟨by decide, by decide⟩, ⟨by decide, by decide⟩, ⟨by decide, by decide⟩, ⟨by decide, by decide⟩⟩, ⟨by decide, by decide⟩, ⟨by decide, by decide⟩⟩

/-- The rest of a slice of bytes. -/
theorem rest8 {w : World} {a : Option Addr} {n c : Nat} {l : List Int} (h : code.Row8 w a n c l) (k : Nat) (hk : k ≤ n) :
    ∃ A, (∀ w', (Instr.slice 52 (.slice a n c) (some (.int .i64 k)) none none).run Try.prog w' = .ok (.slice A (n - k) (c - k)) w') ∧ code.Row8 w A (n - k) (c - k) (l.drop k) := by
  obtain ⟨h1, h2, h3, h4, h5, h6⟩ := h
  refine ⟨if c = k then a else a.map (·.add (k * 1)), fun w' => ?_, ?_⟩
  · rw [run_slice_l w' 52 a n c Try.underlying52 .i64 k (by omega) (by omega)]
    have hs : (sizeOf (Try.prog.elem 52)).run Try.prog w' = .ok 1 w' := Try.sizeOf5 w'
    rw [hs]
    simp [Result.andThen, sliced]
  · refine ⟨by rw [List.length_drop]; omega, by omega, by omega, fun x hx => h4 x (List.mem_of_mem_drop hx), ?_, fun h0 => ?_⟩
    · intro e
      by_cases hck : c = k
      · omega
      · rw [if_neg hck] at e
        cases a with
        | none => have := h5 rfl; omega
        | some ad => cases e
    · obtain ⟨b, off, rfl, hb, hl⟩ := h6 (by omega)
      have hck : ¬ c = k := by omega
      rw [if_neg hck]
      refine ⟨b, off + k, ?_, hb, fun j hj => ?_⟩
      · by_cases hk0 : k = 0
        · subst hk0; simp [Addr.add]
        · simp [Addr.add, hk0]
      · rw [List.length_drop] at hj
        have := hl (k + j) (by omega)
        rw [Nat.add_assoc, this, List.getD_eq_getElem?_getD, List.getD_eq_getElem?_getD, List.getElem?_drop]
theorem get_m (a : Option Addr) (len cap : Nat) (l : List Int) (w : World) (V N : Int) (b : Bool) (h : code.Row8 w a len cap l) (hV : Hid (code.getV l = V)) (hN : Hid (code.getN l = N)) (hb : Hid (code.getB l = b)) :
    Calls Try.prog 46 #[.slice a len cap] w fun e w' => e = .returned (.tuple #[.int .u64 V, .int .i64 N, .bool b]) ∧ w' = w := by
  have := code.get_any a len cap l w h
  rw [hV.out, hN.out, hb.out] at this
  exact this
theorem rget_m (a : Option Addr) (len cap : Nat) (l : List Int) (w : World) (V N : Int) (h : code.Row8 w a len cap l) (hV : Hid (code.getV l = V)) (hN : Hid (code.getN l = N)) :
    Calls Try.prog 48 #[.slice a len cap] w fun e w' => e = .returned (.tuple #[.int .u64 V, .int .i64 N]) ∧ w' = w := by
  have := code.rget_any a len cap l w h
  rw [hV.out, hN.out] at this
  exact this
theorem zag_m (a Z : Int) (w : World) (ha : Hid (U64 a)) (hZ : Hid (code.zag a = Z)) : Calls Try.prog 47 #[.int .u64 a] w fun e w' => e = .returned (.int .i64 Z) ∧ w' = w := by
  have h := code.zag_any a w ha.out
  rw [hZ.out] at h
  exact h
theorem rzag_m (a Z : Int) (w : World) (ha : Hid (U64 a)) (hZ : Hid (code.zag a = Z)) : Calls Try.prog 49 #[.int .u64 a] w fun e w' => e = .returned (.int .i64 Z) ∧ w' = w := by
  have h := code.rzag_any a w ha.out
  rw [hZ.out] at h
  exact h

/-- The cells of a row of noughts. -/
abbrev z6 : Array Value := #[.int .u8 0, .int .u8 0, .int .u8 0, .int .u8 0, .int .i64 0, .int .i64 0]
/-- The result and the row, in blocks behind a world. -/
def R2 (w wr : World) (X : Array Value) : Prop :=
  Below w.heap.size w wr ∧ wr.heap[w.heap.size]? = some (.cells z6 33) ∧ wr.heap[w.heap.size + 1]? = some (.cells X 33)
theorem r2_new (w : World) : R2 w ((w.alloc (.cells z6 33)).alloc (.cells z6 33)) z6 := by
  refine ⟨((Below.refl _ _).alloc (Nat.le_refl _) _).alloc (by simp) _, ?_, ?_⟩
  · rw [Below.heap_alloc _ _ _ (by simp)]; exact heap_alloc_new _ _
  · have := heap_alloc_new (w.alloc (.cells z6 33)) (.cells z6 33); simpa using this
theorem R2.put {w wr : World} {X : Array Value} (h : R2 w wr X) (k : Nat) (x : Value) : R2 w (wr.setCell ⟨w.heap.size + 1, k, none⟩ x) (X.setIfInBounds k x) := by
  refine ⟨h.1.setCell (by simp) _, ?_, ?_⟩
  · rw [Below.heap_setCell _ _ _ _ (by simp)]; exact h.2.1
  · exact heap_setCell_same wr (w.heap.size + 1) k _ _ x h.2.2
theorem six_store {w : World} {B : Nat} {t : TypeId} {a b c d e f : Value} (h : w.heap[B]? = some (.cells #[a, b, c, d, e, f] t)) (u0 u1 u2 u3 u4 u5 : Value) :
    ((((((w.setCell ⟨B, 0, none⟩ u0).setCell ⟨B, 1, none⟩ u1).setCell ⟨B, 2, none⟩ u2).setCell ⟨B, 3, none⟩ u3).setCell ⟨B, 4, none⟩ u4).setCell ⟨B, 5, none⟩ u5).heap[B]? = some (.cells #[u0, u1, u2, u3, u4, u5] t) := by
  have h1 := heap_setCell_same w B 0 _ _ u0 h
  have h2 := heap_setCell_same _ B 1 _ _ u1 h1
  have h3 := heap_setCell_same _ B 2 _ _ u2 h2
  have h4 := heap_setCell_same _ B 3 _ _ u3 h3
  have h5 := heap_setCell_same _ B 4 _ _ u4 h4
  have h6 := heap_setCell_same _ B 5 _ _ u5 h5
  simpa using h6
theorem below6 {w wr : World} (h : Below w.heap.size w wr) {B : Nat} (hB : w.heap.size ≤ B) (u0 u1 u2 u3 u4 u5 : Value) :
    Below w.heap.size w ((((((wr.setCell ⟨B, 0, none⟩ u0).setCell ⟨B, 1, none⟩ u1).setCell ⟨B, 2, none⟩ u2).setCell ⟨B, 3, none⟩ u3).setCell ⟨B, 4, none⟩ u4).setCell ⟨B, 5, none⟩ u5) :=
  (((((h.setCell hB _).setCell hB _).setCell hB _).setCell hB _).setCell hB _).setCell hB _
theorem froz6 {w : World} {B : Nat} {X : Array Value} {t : TypeId} (h : w.heap[B]? = some (.cells X t)) : w.frozen? ⟨B, 0, none⟩ = false ∧ w.frozen? ⟨B, 1, none⟩ = false ∧ w.frozen? ⟨B, 2, none⟩ = false ∧ w.frozen? ⟨B, 3, none⟩ = false ∧ w.frozen? ⟨B, 4, none⟩ = false ∧ w.frozen? ⟨B, 5, none⟩ = false :=
  ⟨frozen_of_row w B 0 _ _ h, frozen_of_row w B 1 _ _ h, frozen_of_row w B 2 _ _ h, frozen_of_row w B 3 _ _ h, frozen_of_row w B 4 _ _ h, frozen_of_row w B 5 _ _ h⟩
theorem take_four {l : List Int} (h : 4 ≤ l.length) : l.take 4 = [l.getD 0 0, l.getD 1 0, l.getD 2 0, l.getD 3 0] := by
  match l, h with
  | a :: b :: c :: d :: r, _ => rfl

end Go.Proofs.Ytikgbcdmeikjfaa

/-
  What is picked of some rows, as lists; slices of truths that came in; the document's Total by names.
  Conditions: as each theorem states them.
-/
import Derived.Test.YtikgbcdmeikjfaaRM
import Derived.Test.YtikgbcdmeikjfaaTT
import Derived.Test.YtikgbcdmeikjfaaOP
import Derived.Deep.Slices
namespace Go.Proofs.Ytikgbcdmeikjfaa
open Go.ChangeShapes Go.WideShapes Go.ChangeAt Go.RowKit
set_option linter.unusedVariables false
set_option linter.unusedSimpArgs false
set_option maxRecDepth 100000

/-- A slice of truths, in a world. -/
def BRow (w : World) (a : Option Addr) (n c : Nat) (l : List Bool) : Prop :=
  n = l.length ∧ n ≤ c ∧ c ≤ maxLen ∧ (0 < n → ∃ b off, a = some ⟨b, off, none⟩ ∧ b < w.heap.size ∧ ∀ k, k < n → w.cell? ⟨b, off + k, none⟩ = some (.bool (l.getD k false)))
theorem BRow.pick {w w' : World} {a : Option Addr} {n c : Nat} {l : List Bool} (h : BRow w a n c l) (hb : Below w.heap.size w w') {k : Nat} (hk : k < n) :
    ∃ b off, a = some ⟨b, off, none⟩ ∧ w'.cell? ⟨b, off + k, none⟩ = some (.bool (l.getD k false)) := by
  obtain ⟨h1, h2, h3, h4⟩ := h
  obtain ⟨b, off, e, hlt, hl⟩ := h4 (by omega)
  exact ⟨b, off, e, ((bcell hb).1 b _ hlt).trans (hl k hk)⟩
theorem open_bools {H : Type} {enc : TypeId × Value → H} {W : World} {base b0 : Nat} {r : Reach} {v : Value} {d : DataW H} {p : List MemPlace}
    (hv : Value.okWide Try.prog W r b0 47 v) (h : DataW.Trod enc Try.prog W base (fun _ => true) true 47 v d p) : ∃ a n c l, v = .slice a n c ∧ BRow W a n c l := by
  have hC : Try.prog.cellsOf 4 = 1 := by kernel_rfl
  obtain ⟨a, len, cap, rfl⟩ := okWide_slice Try.underlying47 hv
  obtain ⟨fuel, hf⟩ := h
  rcases Go.Deep.open_slice1 Try.underlying47 hC hf with ⟨hcs, _⟩ | ⟨ad, len', cap', m, n', V, D, Pl, hcs, hb, hl, hm, hmm, _, hx⟩
  · simp [Value.cells] at hcs
    obtain ⟨rfl, rfl, rfl⟩ := hcs
    exact ⟨none, 0, 0, [], rfl, rfl, Nat.le_refl _, by decide, fun h => by cases h⟩
  · simp [Value.cells] at hcs
    obtain ⟨rfl, rfl, rfl⟩ := hcs
    simp only [if_true] at hmm
    have each : ∀ i, i < len → ∃ q : Bool, W.cell? (ad.add i) = some (.bool q) := by
      intro i hi
      obtain ⟨h1, h2⟩ := hx i (by omega)
      obtain ⟨q, e, _⟩ := DataW.trod_bool Try.underlying4 h2
      simp at e
      exact ⟨q, by rw [h1, e]⟩
    obtain ⟨q, hq⟩ := Go.Deep.choose_lt each
    refine ⟨some ad, len, cap, (List.range len).map q, rfl, by simp, hl, hm, fun h0 => ?_⟩
    obtain ⟨b, off, spot⟩ := ad
    have hc := hq 0 (by omega)
    have hspot : spot = none := by simpa [Addr.add] using World.cell?_spot hc
    subst hspot
    have hb' := World.block_lt_of_cell? _ _ hc
    refine ⟨b, off, rfl, by simpa [Addr.add] using hb', fun k hk => ?_⟩
    have := hq k hk
    rw [add_at] at this
    rw [this, List.getD_eq_getElem?_getD, List.getElem?_map, List.getElem?_range hk]
    rfl
/-- What is picked of the first so many rows: one measure of each. -/
def selk (f : Rw → Int) (l : List Rw) (p : List Bool) : Nat → List Int
  | 0 => []
  | i + 1 => selk f l p i ++ (match l[i]?, p.getD i false with | some r, true => [f r] | _, _ => [])
theorem selk_yes {f : Rw → Int} {l : List Rw} {p : List Bool} {i : Nat} {r : Rw} (h : l[i]? = some r) (hp : p.getD i false = true) : selk f l p (i + 1) = selk f l p i ++ [f r] := by
  simp only [selk, h, hp]
theorem selk_no {f : Rw → Int} {l : List Rw} {p : List Bool} {i : Nat} (hp : p.getD i false = false) : selk f l p (i + 1) = selk f l p i := by
  simp only [selk, hp]
  cases l[i]? <;> simp
theorem selk_i64 {f : Rw → Int} {l : List Rw} {p : List Bool} (hf : ∀ r ∈ l, I64 (f r)) (i : Nat) : ∀ x ∈ selk f l p i, I64 x := by
  induction i with
  | zero => intro x hx; cases hx
  | succ i ih =>
    intro x hx
    cases h : p.getD i false with
    | false => rw [selk_no h] at hx; exact ih x hx
    | true =>
      cases hr : l[i]? with
      | none => simp only [selk, hr, List.append_nil] at hx; exact ih x hx
      | some r =>
        rw [selk_yes hr h] at hx
        rcases List.mem_append.mp hx with hx | hx
        · exact ih x hx
        · simp at hx; subst hx; exact hf r (List.mem_of_getElem? hr)
theorem selk_len {f : Rw → Int} {l : List Rw} {p : List Bool} (i : Nat) : (selk f l p i).length ≤ i := by
  induction i with
  | zero => exact Nat.le_refl _
  | succ i ih =>
    cases h : p.getD i false with
    | false => rw [selk_no h]; omega
    | true =>
      cases hr : l[i]? with
      | none => simp only [selk, hr, List.append_nil]; omega
      | some r => rw [selk_yes hr h, List.length_append]; simp; omega
def sums (f : Rw → Int) : List Rw → Int | [] => 0 | r :: l => szi (f r) + sums f l
theorem sums_app (f : Rw → Int) (l m : List Rw) : sums f (l ++ m) = sums f l + sums f m := by induction l with | nil => simp [sums] | cons r l ih => simp only [List.cons_append, sums, ih]; omega
theorem sums_nn (f : Rw → Int) (l : List Rw) : 0 ≤ sums f l := by induction l with | nil => exact Int.le_refl _ | cons r l ih => have := szi_nn (f r); simp only [sums]; omega
theorem sums0 (l : List Rw) : sums rm0 l = sum0 l := by induction l with | nil => rfl | cons r l ih => simp only [sums, sum0, ih]
theorem sums1 (l : List Rw) : sums rm1 l = sum1 l := by induction l with | nil => rfl | cons r l ih => simp only [sums, sum1, ih]
theorem selk_bd (f : Rw → Int) (l : List Rw) (p : List Bool) (i : Nat) : -(sums f (l.take i)) ≤ calc.sumI (selk f l p i) ∧ calc.sumI (selk f l p i) ≤ sums f (l.take i) := by
  induction i with
  | zero => simp [selk, calc.sumI, sums]
  | succ i ih =>
    cases hr : l[i]? with
    | none =>
      have e : l.take (i + 1) = l.take i := by rw [List.take_add_one, hr]; simp
      have e2 : selk f l p (i + 1) = selk f l p i := by simp only [selk, hr, List.append_nil]
      rw [e, e2]; exact ih
    | some r =>
      have e : sums f (l.take (i + 1)) = sums f (l.take i) + szi (f r) := by rw [List.take_add_one, hr, sums_app]; simp [sums]
      have hs : -(szi (f r)) ≤ f r ∧ f r ≤ szi (f r) ∧ 0 ≤ szi (f r) := by unfold szi; split <;> omega
      cases h : p.getD i false with
      | false => rw [selk_no h, e]; omega
      | true => rw [selk_yes hr h, calc.sumI_snoc, e]; omega
theorem rtotal_m (v : Value) (n : Nat) (xs : List Int) (S : Int) (base : Nat) (w : World) (ho : w.ownsRow base 2 1 v n (vals .i64 xs)) (hz : ∀ x ∈ xs, I64 x) (hn : n ≤ 1000000) (hS : Hid (calc.sumI xs = S)) (hf : Hid (-9223372036854775808 ≤ S ∧ S ≤ 9223372036854775807)) :
    Calls Try.prog 21 #[v] w fun e w' => e = .returned (.tuple #[.int .i64 S, .bool true]) ∧ Below w.heap.size w w' := by
  obtain ⟨a, cap, rfl, h1, h2, h3, h4, h5⟩ := own_irow ho
  by_cases h0 : n = 0
  · subst h0
    have hx : xs = [] := List.length_eq_zero_iff.mp h1.symm
    subst hx
    have e := hS.out
    simp only [calc.sumI] at e
    subst e
    exact calc.rtotal_0 a cap w
  · obtain ⟨b, off, rfl, hb, hl⟩ := h5 (by omega)
    have := calc.rtotal_any b off n cap xs w (by omega) (by omega) hb (fun k hk => hl k (by omega)) hz
    rw [List.take_of_length_le (by omega), hS.out, (calc.fit_yes hf.out).1, (calc.fit_yes hf.out).2] at this
    exact this
theorem info_i64 : (Try.prog.info? 2).map (fun i => (i.zero, i.size, i.bytes)) = some (some (.int .i64 0), 1, 8) := by kernel_rfl

end Go.Proofs.Ytikgbcdmeikjfaa

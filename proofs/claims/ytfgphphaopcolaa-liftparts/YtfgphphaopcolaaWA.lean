/-
  Where a place lies: as numbers; blocks of four numbers in a world.
  Conditions: as each theorem states them.
-/
import Derived.Test.YtfgphphaopcolaaLI
import Derived.Test.YtfgphphaopcolaaF
import Derived.Test.YtfgphphaopcolaaH6
namespace Go.Proofs.Ytfgphphaopcolaa
open Go.ChangeShapes Go.WideShapes Go.ChangeAt Go.RowKit
set_option linter.unusedVariables false
set_option linter.unusedSimpArgs false

/-- The member of the coarser level, dimension by dimension. -/
def toX (ds : Dims) (F T A : List Int) (k : Nat) : Int := if k < ds.length then lift (ds.getD k ([], [])).1 (ds.getD k ([], [])).2 (F.getD k 0) (T.getD k 0) (A.getD k 0) else 0
theorem toX_at {ds : Dims} {F T A : List Int} {k : Nat} {S : List Int} {U : List (List Int)} (hk : k < ds.length) (h : ds.getD k ([], []) = (S, U)) : toX ds F T A k = lift S U (F.getD k 0) (T.getD k 0) (A.getD k 0) := by
  unfold toX; rw [if_pos hk, h]
theorem toX_out {ds : Dims} {F T A : List Int} {k : Nat} (hk : ds.length ≤ k) : toX ds F T A k = 0 := by unfold toX; rw [if_neg (by omega)]
/-- Does it lie anywhere? -/
def toB (ds : Dims) (M f0 f1 f2 f3 t0 t1 t2 t3 x0 x1 x2 x3 : Int) : Bool := rightC ds M [f0, f1, f2, f3] [x0, x1, x2, x3] && (nodeC ds M t0 t1 t2 t3 && bel f0 f1 f2 f3 t0 t1 t2 t3)
/-- What To tells of a dimension. -/
def toR (ds : Dims) (M f0 f1 f2 f3 t0 t1 t2 t3 x0 x1 x2 x3 : Int) (k : Nat) : Int := if toB ds M f0 f1 f2 f3 t0 t1 t2 t3 x0 x1 x2 x3 then toX ds [f0, f1, f2, f3] [t0, t1, t2, t3] [x0, x1, x2, x3] k else 0
theorem toB_1 {ds : Dims} {M f0 f1 f2 f3 t0 t1 t2 t3 x0 x1 x2 x3 : Int} (h : rightC ds M [f0, f1, f2, f3] [x0, x1, x2, x3] = false) : toB ds M f0 f1 f2 f3 t0 t1 t2 t3 x0 x1 x2 x3 = false := by unfold toB; rw [h]; rfl
theorem toB_2 {ds : Dims} {M f0 f1 f2 f3 t0 t1 t2 t3 x0 x1 x2 x3 : Int} (h : nodeC ds M t0 t1 t2 t3 = false) : toB ds M f0 f1 f2 f3 t0 t1 t2 t3 x0 x1 x2 x3 = false := by unfold toB; rw [h]; simp
theorem toB_3 {ds : Dims} {M f0 f1 f2 f3 t0 t1 t2 t3 x0 x1 x2 x3 : Int} (h : bel f0 f1 f2 f3 t0 t1 t2 t3 = false) : toB ds M f0 f1 f2 f3 t0 t1 t2 t3 x0 x1 x2 x3 = false := by unfold toB; rw [h]; simp
theorem toB_4 {ds : Dims} {M f0 f1 f2 f3 t0 t1 t2 t3 x0 x1 x2 x3 : Int} (h : rightC ds M [f0, f1, f2, f3] [x0, x1, x2, x3] = true) (h2 : nodeC ds M t0 t1 t2 t3 = true) (h3 : bel f0 f1 f2 f3 t0 t1 t2 t3 = true) : toB ds M f0 f1 f2 f3 t0 t1 t2 t3 x0 x1 x2 x3 = true := by unfold toB; rw [h, h2, h3]; rfl
theorem toR_no {ds : Dims} {M f0 f1 f2 f3 t0 t1 t2 t3 x0 x1 x2 x3 : Int} (h : toB ds M f0 f1 f2 f3 t0 t1 t2 t3 x0 x1 x2 x3 = false) (k : Nat) : toR ds M f0 f1 f2 f3 t0 t1 t2 t3 x0 x1 x2 x3 k = 0 := by unfold toR; rw [h]; rfl
theorem toR_yes {ds : Dims} {M f0 f1 f2 f3 t0 t1 t2 t3 x0 x1 x2 x3 : Int} (h : toB ds M f0 f1 f2 f3 t0 t1 t2 t3 x0 x1 x2 x3 = true) (k : Nat) : toR ds M f0 f1 f2 f3 t0 t1 t2 t3 x0 x1 x2 x3 k = toX ds [f0, f1, f2, f3] [t0, t1, t2, t3] [x0, x1, x2, x3] k := by unfold toR; rw [if_pos h]
theorem bel_at {f0 f1 f2 f3 t0 t1 t2 t3 : Int} (h : bel f0 f1 f2 f3 t0 t1 t2 t3 = true) {k : Nat} (hk : k < 4) : [f0, f1, f2, f3].getD k 0 ≤ [t0, t1, t2, t3].getD k 0 := by
  unfold bel at h
  obtain ⟨h0, h1, h2, h3⟩ := of_decide_eq_true h
  have : k = 0 ∨ k = 1 ∨ k = 2 ∨ k = 3 := by omega
  rcases this with rfl | rfl | rfl | rfl <;> assumption
theorem node_mem {ds : Dims} {M v0 v1 v2 v3 : Int} (h : nodeC ds M v0 v1 v2 v3 = true) (hV : ∀ x ∈ [v0, v1, v2, v3], U8 x) {k : Nat} (hk : k < 4) : 0 < memC ds k ([v0, v1, v2, v3].getD k 0) := by
  rw [← right_node hV] at h
  have := (rightC_is h).2 k hk
  have e : ([0, 0, 0, 0] : List Int).getD k 0 = 0 := by
    have : k = 0 ∨ k = 1 ∨ k = 2 ∨ k = 3 := by omega
    rcases this with rfl | rfl | rfl | rfl <;> rfl
  rw [e] at this
  exact this
/-- A place that lies somewhere: the member of the coarser level is one. -/
theorem toX_in {ds : Dims} {M f0 f1 f2 f3 t0 t1 t2 t3 x0 x1 x2 x3 : Int} (hr : rightC ds M [f0, f1, f2, f3] [x0, x1, x2, x3] = true) (hn : nodeC ds M t0 t1 t2 t3 = true) (hb : bel f0 f1 f2 f3 t0 t1 t2 t3 = true)
    (hF : ∀ x ∈ [f0, f1, f2, f3], U8 x) (hT : ∀ x ∈ [t0, t1, t2, t3], U8 x) (hA : ∀ x ∈ [x0, x1, x2, x3], U8 x) {k : Nat} (hk : k < 4) :
    0 ≤ toX ds [f0, f1, f2, f3] [t0, t1, t2, t3] [x0, x1, x2, x3] k ∧ toX ds [f0, f1, f2, f3] [t0, t1, t2, t3] [x0, x1, x2, x3] k < memC ds k ([t0, t1, t2, t3].getD k 0) := by
  have hm := node_mem hn hT hk
  by_cases hd : k < ds.length
  · obtain ⟨S, U⟩ : ∃ S, ∃ U, ds.getD k ([], []) = (S, U) := ⟨_, _, rfl⟩
    obtain ⟨U, hSU⟩ := U
    rw [toX_at hd hSU]
    rw [memC_at hd hSU] at hm ⊢
    have h1 := (rightC_is hr).2 k hk
    rw [memC_at hd hSU] at h1
    exact lift_in (u8_at hF k).1 (bel_at hb hk) (by omega) (u8_at hA k).1 h1
  · rw [toX_out (by omega)]
    exact ⟨Int.le_refl _, hm⟩
theorem right_beyond {ds : Dims} {M : Int} {V A : List Int} (h : rightC ds M V A = true) (hA : ∀ x ∈ A, U8 x) {k : Nat} (hk : k < 4) (hd : ds.length ≤ k) : A.getD k 0 = 0 := by
  have h1 := (rightC_is h).2 k hk
  have h2 := (u8_at hA k).1
  by_cases h0 : V.getD k 0 = 0
  · rw [memC_0 (by omega) h0] at h1; omega
  · rw [memC_1 (by omega) h0] at h1; omega

/-! Blocks of four numbers. -/
def n4 (f : Nat → Int) : Array Value := #[.int .u8 (f 0), .int .u8 (f 1), .int .u8 (f 2), .int .u8 (f 3)]
theorem n4_at {w : World} {D : Nat} {t : TypeId} {f : Nat → Int} (hD : w.heap[D]? = some (.cells (n4 f) t)) {k : Nat} (hk : k < 4) : w.cell? ⟨D, k, none⟩ = some (.int .u8 (f k)) := by
  obtain ⟨h0, h1, h2, h3⟩ := box4 (a := .int .u8 (f 0)) (b := .int .u8 (f 1)) (c := .int .u8 (f 2)) (d := .int .u8 (f 3)) hD
  have : k = 0 ∨ k = 1 ∨ k = 2 ∨ k = 3 := by omega
  rcases this with rfl | rfl | rfl | rfl <;> assumption
theorem n4_all {w : World} {D : Nat} {t : TypeId} {f : Nat → Int} (hD : w.heap[D]? = some (.cells (n4 f) t)) : w.cell? ⟨D, 0, none⟩ = some (.int .u8 (f 0)) ∧ w.cell? ⟨D, 1, none⟩ = some (.int .u8 (f 1)) ∧ w.cell? ⟨D, 2, none⟩ = some (.int .u8 (f 2)) ∧ w.cell? ⟨D, 3, none⟩ = some (.int .u8 (f 3)) := box4 hD
theorem n4_put {f g : Nat → Int} {k : Nat} (hk : k < 4) {x : Int} (h : ∀ j, j < 4 → g j = if j = k then x else f j) : (n4 f).setIfInBounds k (.int .u8 x) = n4 g := by
  have h0 := h 0 (by omega)
  have h1 := h 1 (by omega)
  have h2 := h 2 (by omega)
  have h3 := h 3 (by omega)
  have : k = 0 ∨ k = 1 ∨ k = 2 ∨ k = 3 := by omega
  rcases this with rfl | rfl | rfl | rfl <;> simp [n4, h0, h1, h2, h3]
theorem n4_same {f g : Nat → Int} (h : ∀ j, j < 4 → f j = g j) : n4 f = n4 g := by
  unfold n4; rw [h 0 (by omega), h 1 (by omega), h 2 (by omega), h 3 (by omega)]
/-- A store into one of the four. -/
theorem n4_set {w : World} {D : Nat} {t : TypeId} {f g : Nat → Int} (hD : w.heap[D]? = some (.cells (n4 f) t)) {k : Nat} (hk : k < 4) {x : Int} (h : ∀ j, j < 4 → g j = if j = k then x else f j) :
    (w.setCell ⟨D, k, none⟩ (.int .u8 x)).heap[D]? = some (.cells (n4 g) t) := by
  rw [← n4_put hk h]; exact heap_setCell_same w D k _ _ _ hD
theorem n4_store {w : World} {B : Nat} {t : TypeId} {f : Nat → Int} (h : w.heap[B]? = some (.cells (n4 f) t)) (a b c d : Value) :
    ((((w.setCell ⟨B, 0, none⟩ a).setCell ⟨B, 1, none⟩ b).setCell ⟨B, 2, none⟩ c).setCell ⟨B, 3, none⟩ d).heap[B]? = some (.cells #[a, b, c, d] t) := store4 h a b c d

/-! Calls, with named results. -/
theorem sright_m (a : Option Addr) (n c : Nat) (ds : Dims) (M : Int) (v0 v1 v2 v3 x0 x1 x2 x3 : Int) (v : Bool) (w : World) (hc : Cat w a n c ds) (hM : I64 M) (hV : ∀ x ∈ [v0, v1, v2, v3], U8 x) (hA : ∀ x ∈ [x0, x1, x2, x3], U8 x) (hv : Hid (rightC ds M [v0, v1, v2, v3] [x0, x1, x2, x3] = v)) :
    Calls Try.prog 28 #[.agg #[.slice a n c, .int .i64 M], .agg #[.int .u8 v0, .int .u8 v1, .int .u8 v2, .int .u8 v3], .agg #[.int .u8 x0, .int .u8 x1, .int .u8 x2, .int .u8 x3]] w fun e w' => e = .returned (.bool v) ∧ Below w.heap.size w w' := by
  have := sright_any a n c ds M v0 v1 v2 v3 x0 x1 x2 x3 w hc hM hV hA
  rw [hv.out] at this
  exact this
theorem below_m (a0 a1 a2 a3 b0 b1 b2 b3 : Int) (v : Bool) (w : World) (hv : Hid (bel a0 a1 a2 a3 b0 b1 b2 b3 = v)) :
    Calls Try.prog 30 #[.agg #[.int .u8 a0, .int .u8 a1, .int .u8 a2, .int .u8 a3], .agg #[.int .u8 b0, .int .u8 b1, .int .u8 b2, .int .u8 b3]] w fun e w' => e = .returned (.bool v) ∧ Below w.heap.size w w' := by
  have := below_any a0 a1 a2 a3 b0 b1 b2 b3 w
  rw [hv.out] at this
  exact this
theorem rbelow_m (a0 a1 a2 a3 b0 b1 b2 b3 : Int) (v : Bool) (w : World) (hv : Hid (bel a0 a1 a2 a3 b0 b1 b2 b3 = v)) :
    Calls Try.prog 32 #[.agg #[.int .u8 a0, .int .u8 a1, .int .u8 a2, .int .u8 a3], .agg #[.int .u8 b0, .int .u8 b1, .int .u8 b2, .int .u8 b3]] w fun e w' => e = .returned (.bool v) ∧ Below w.heap.size w w' := by
  have := rbelow_any a0 a1 a2 a3 b0 b1 b2 b3 w
  rw [hv.out] at this
  exact this
theorem rright_n (a : Option Addr) (n c : Nat) (ds : Dims) (M : Int) (v0 v1 v2 v3 x0 x1 x2 x3 : Int) (v : Bool) (w : World) (hc : Cat w a n c ds) (hM : I64 M) (hV : ∀ x ∈ [v0, v1, v2, v3], U8 x) (hA : ∀ x ∈ [x0, x1, x2, x3], U8 x) (hv : Hid (rightC ds M [v0, v1, v2, v3] [x0, x1, x2, x3] = v)) :
    Calls Try.prog 19 #[.agg #[.slice a n c, .int .i64 M], .agg #[.int .u8 v0, .int .u8 v1, .int .u8 v2, .int .u8 v3], .agg #[.int .u8 x0, .int .u8 x1, .int .u8 x2, .int .u8 x3]] w fun e w' => e = .returned (.bool v) ∧ Below w.heap.size w w' := by
  have := rright_any a n c ds M v0 v1 v2 v3 x0 x1 x2 x3 w hc hM hV hA
  rw [hv.out] at this
  exact this
/-- A lift that is none, or some. -/
theorem lift_m (sa : Option Addr) (sl sc : Nat) (ua : Option Addr) (ul uc : Nat) (S : List Int) (U : List (List Int)) (f t m x : Int) (w : World) (hd : Dim w sa sl sc ua ul uc S U) (hf : I64 f) (ht : I64 t) (hm : I64 m) (hx : Hid (lift S U f t m = x ∧ 0 ≤ x)) :
    Calls Try.prog 31 #[.agg #[.slice sa sl sc, .slice ua ul uc], .int .i64 f, .int .i64 t, .int .i64 m] w fun e w' => e = .returned (.tuple #[.int .i64 x, .bool true]) ∧ Below w.heap.size w w' := by
  have := lift_any sa sl sc ua ul uc S U f t m w hd hf ht hm
  obtain ⟨h1, h2⟩ := hx.out
  rw [← ret_lift h1 h2] at this
  exact this
theorem lift_z (sa : Option Addr) (sl sc : Nat) (ua : Option Addr) (ul uc : Nat) (S : List Int) (U : List (List Int)) (f t m : Int) (w : World) (hd : Dim w sa sl sc ua ul uc S U) (hf : I64 f) (ht : I64 t) (hm : I64 m) (hx : Hid (lift S U f t m = -1)) :
    Calls Try.prog 31 #[.agg #[.slice sa sl sc, .slice ua ul uc], .int .i64 f, .int .i64 t, .int .i64 m] w fun e w' => e = .returned (.tuple #[.int .i64 0, .bool false]) ∧ Below w.heap.size w w' := by
  have := lift_any sa sl sc ua ul uc S U f t m w hd hf ht hm
  rw [← ret_none hx.out] at this
  exact this
theorem rlift_m (sa : Option Addr) (sl sc : Nat) (ua : Option Addr) (ul uc : Nat) (S : List Int) (U : List (List Int)) (f t m x : Int) (w : World) (hd : Dim w sa sl sc ua ul uc S U) (hf : I64 f) (ht : I64 t) (hm : I64 m) (hx : Hid (lift S U f t m = x)) :
    Calls Try.prog 33 #[.agg #[.slice sa sl sc, .slice ua ul uc], .int .i64 f, .int .i64 t, .int .i64 m] w fun e w' => e = .returned (.int .i64 x) ∧ Below w.heap.size w w' := by
  have := rlift_any sa sl sc ua ul uc S U f t m w hd hf ht hm
  rw [hx.out] at this
  exact this

end Go.Proofs.Ytfgphphaopcolaa

/-
  Bytes as a string; the chapter's examples: what the law's own wakes returns.
  Conditions: as each theorem states them.
-/
import Derived.Test.YtmlnfpefemchhaaSQ
import Derived.Test.YtmlnfpefemchhaaSD
import Derived.Laws.BytesString
namespace Go.Proofs.Ytmlnfpefemchhaa
open Go.ChangeShapes Go.WideShapes Go.ChangeAt Go.RowKit
set_option linter.unusedVariables false
set_option linter.unusedSimpArgs false

/-- Bytes as a string. -/
def txt (l : List Int) : ByteArray := l.foldl (fun r n => r.push (UInt8.ofNat n.toNat)) ByteArray.empty
theorem txt_data (l : List Int) : (txt l).data = (l.map (fun n => UInt8.ofNat n.toNat)).toArray := by
  have key : ∀ (l : List Int) (r : ByteArray), (l.foldl (fun r n => r.push (UInt8.ofNat n.toNat)) r).data = r.data ++ (l.map (fun n => UInt8.ofNat n.toNat)).toArray := by
    intro l
    induction l with
    | nil => intro r; simp
    | cons x t ih =>
      intro r
      rw [List.foldl_cons, ih]
      apply Array.toList_inj.mp
      simp [ByteArray.push]
  have := key l ByteArray.empty
  simpa [txt] using this
theorem txt_inj {l m : List Int} (hl : ∀ x ∈ l, U8 x) (hm : ∀ x ∈ m, U8 x) (h : txt l = txt m) : l = m := by
  have h1 : (l.map (fun n => UInt8.ofNat n.toNat)).toArray = (m.map (fun n => UInt8.ofNat n.toNat)).toArray := by rw [← txt_data, ← txt_data, h]
  have h2 : l.map (fun n => UInt8.ofNat n.toNat) = m.map (fun n => UInt8.ofNat n.toNat) := by simpa using congrArg Array.toList h1
  clear h1 h
  induction l generalizing m with
  | nil => cases m with
    | nil => rfl
    | cons y t => simp at h2
  | cons x r ih =>
    cases m with
    | nil => simp at h2
    | cons y t =>
      rw [List.map_cons, List.map_cons, List.cons.injEq] at h2
      have hx := hl x (by simp)
      have hy := hm y (by simp)
      have e : x = y := by
        have := congrArg UInt8.toNat h2.1
        rw [UInt8.toNat_ofNat', UInt8.toNat_ofNat'] at this
        obtain ⟨a1, a2⟩ := hx
        obtain ⟨b1, b2⟩ := hy
        omega
      rw [e, ih (fun z hz => hl z (by simp [hz])) (fun z hz => hm z (by simp [hz])) h2.2]
theorem conv8 {w : World} {a : Option Addr} {n c : Nat} {l : List Int} (h : code.Row8 w a n c l) : (convert 22 9 (.slice a n c)).run Try.prog w = .ok (.string (txt l)) w := by
  rw [run_convert_bytes_string w 22 9 5 _ _ _ Try.underlying22 Try.underlying5 Try.underlying9]
  obtain ⟨h1, h2, h3, h4, h5, h6⟩ := h
  cases a with
  | none =>
    obtain rfl : c = 0 := h5 rfl
    obtain rfl : n = 0 := by omega
    have hl : l = [] := List.length_eq_zero_iff.mp h1.symm
    subst hl
    rfl
  | some ad =>
    refine run_bytesToString w ad n c l ?_
    have := run_loadCells_list (P := Try.prog) w ad (vals .u8 l) (fun j u hu => by
      obtain ⟨hj, _⟩ := vals_get .u8 l j u hu
      obtain ⟨b, off, e, hb, hL⟩ := h6 (by omega)
      cases e
      exact lies_cells (k := .u8) hL j u hu)
    rw [vals_len, Nat.mul_one, ← h1] at this
    exact this
theorem row8_new (w : World) (l : List Int) (hu : ∀ x ∈ l, U8 x) (hm : l.length ≤ 1000) : code.Row8 (w.alloc (.cells (vals .u8 l).toArray 5)) (some ⟨w.heap.size, 0, none⟩) l.length l.length l := by
  refine ⟨rfl, Nat.le_refl _, by unfold maxLen; omega, hu, (fun e => by cases e), fun _ => ⟨w.heap.size, 0, rfl, by simp, fun k hk => ?_⟩⟩
  rw [Nat.zero_add, World.cell?_alloc_new]
  simp [vals, List.getD_eq_getElem?_getD, List.getElem?_eq_getElem hk]

/-! The chapter's examples. -/
def D0 : Dims := [([3], [])]
theorem good_D0 : goodC D0 1 = true := by decide
theorem bytes_D0 : bytesC D0 1 = [1, 1, 1, 3] := by decide
theorem nums_D0 : nums D0 1 = [1, 1, 1, 3] := by decide
theorem rd0 : rdD [1, 1, 1, 3] = D0 ∧ rdM [1, 1, 1, 3] = 1 ∧ rdB [1, 1, 1, 3] = true := by
  have := pread_is good_D0
  rw [nums_D0] at this
  exact rd_some this
theorem rd1 : rdD [1, 1, 1, 3, 0] = [] ∧ rdM [1, 1, 1, 3, 0] = 0 ∧ rdB [1, 1, 1, 3, 0] = false := by
  have h := more_none good_D0 0
  rw [nums_D0] at h
  exact rd_none (pread_none (by decide) h)
theorem lev0 : levC D0 1 0 = 2 := by decide
theorem right0 : rightC D0 1 [1, 0, 0, 0] [0, 0, 0, 0] = true := by decide
theorem right1 : rightC D0 1 [0, 0, 0, 0] [3, 0, 0, 0] = false := by decide
theorem same0 : sameC D0 1 D0 1 = true := sameC_yes rfl rfl
def B0 (w wr : World) : Prop := w.heap.size + 2 < wr.heap.size ∧ Below w.heap.size w wr ∧ wr.cell? ⟨w.heap.size + 2, 0, none⟩ = some (.slice (some ⟨w.heap.size + 1, 0, none⟩) 1 1) ∧ wr.cell? ⟨w.heap.size + 2, 1, none⟩ = some (.int .i64 1) ∧ Cat wr (some ⟨w.heap.size + 1, 0, none⟩) 1 1 D0
theorem B0.step {w wr w' : World} (h : B0 w wr) (hb : Below wr.heap.size wr w') : B0 w w' := by
  obtain ⟨h1, h2, h3, h4, h5⟩ := h
  exact ⟨Nat.lt_of_lt_of_le h1 hb.size, bt h2 hb, ((bcell hb).1 _ _ h1).trans h3, ((bcell hb).1 _ _ h1).trans h4, h5.below hb⟩
theorem b0_new (w : World) : B0 w (((w.alloc (.cells #[.int .i64 3] 3)).alloc (.cells #[.slice (some ⟨w.heap.size, 0, none⟩) 1 1, .slice none 0 0] 59)).alloc (.cells #[.slice (some ⟨w.heap.size + 1, 0, none⟩) 1 1, .int .i64 1] 25)) := by
  refine ⟨by simp, (((Below.refl _ _).alloc (Nat.le_refl _) _).alloc (by simp) _).alloc (by simp; omega) _, by simp [go_sem], by simp [go_sem], rfl, Nat.le_refl _, by decide, (fun e => by cases e), fun _ => ⟨w.heap.size + 1, 0, rfl, by simp, fun j hj => ?_⟩⟩
  obtain rfl : j = 0 := by omega
  refine ⟨some ⟨w.heap.size, 0, none⟩, 1, 1, none, 0, 0, by simp [go_sem], by simp [go_sem], ⟨rfl, Nat.le_refl _, by decide, (fun e => by cases e), fun _ => ⟨w.heap.size, 0, rfl, by simp; omega, fun i hi => ?_⟩⟩, rows_nil _ _, fun x hx => ?_, fun l hl => by simp [D0] at hl⟩
  · obtain rfl : i = 0 := by simp [D0] at hi; omega
    simp [go_sem, D0]
  · simp [D0] at hx; subst hx; unfold I64; omega
theorem good_m (a : Option Addr) (n c : Nat) (ds : Dims) (M : Int) (v : Bool) (w : World) (hc : Cat w a n c ds) (hM : I64 M) (hv : goodC ds M = v) :
    Calls Try.prog 42 #[.agg #[.slice a n c, .int .i64 M]] w fun e w' => e = .returned (.bool v) ∧ Below w.heap.size w w' := by
  have := sgood_any a n c ds M w hc hM
  rw [hv] at this; exact this
theorem levels_m (a : Option Addr) (n c : Nat) (ds : Dims) (M d v : Int) (w : World) (hc : Cat w a n c ds) (hM : I64 M) (hd : I64 d) (hv : levC ds M d = v) :
    Calls Try.prog 44 #[.agg #[.slice a n c, .int .i64 M], .int .i64 d] w fun e w' => e = .returned (.int .i64 v) ∧ Below w.heap.size w w' := by
  have := levels_any a n c ds M d w hc hM hd
  rw [hv] at this; exact this
theorem right_m (a : Option Addr) (n c : Nat) (ds : Dims) (M : Int) (v0 v1 v2 v3 x0 x1 x2 x3 : Int) (v : Bool) (w : World) (hc : Cat w a n c ds) (hM : I64 M) (hV : ∀ x ∈ [v0, v1, v2, v3], U8 x) (hA : ∀ x ∈ [x0, x1, x2, x3], U8 x) (hv : rightC ds M [v0, v1, v2, v3] [x0, x1, x2, x3] = v) :
    Calls Try.prog 45 #[.agg #[.slice a n c, .int .i64 M], .agg #[.int .u8 v0, .int .u8 v1, .int .u8 v2, .int .u8 v3], .agg #[.int .u8 x0, .int .u8 x1, .int .u8 x2, .int .u8 x3]] w fun e w' => e = .returned (.bool v) ∧ Below w.heap.size w w' := by
  have := sright_any a n c ds M v0 v1 v2 v3 x0 x1 x2 x3 w hc hM hV hA
  rw [hv] at this; exact this
theorem read_m (a : Option Addr) (n c : Nat) (b : List Int) (ds : Dims) (M : Int) (v : Bool) (w : World) (h : code.Row8 w a n c b) (hv : rdD b = ds ∧ rdM b = M ∧ rdB b = v) :
    Calls Try.prog 12 #[.slice a n c] w fun e w' => (∃ a' n' c', e = .returned (.tuple #[.agg #[.slice a' n' c', .int .i64 M], .bool v]) ∧ Cat w' a' n' c' ds) ∧ Below w.heap.size w w' := by
  have := sread_any a n c b w h
  rw [hv.1, hv.2.1, hv.2.2] at this; exact this
theorem i64_1 : I64 1 := by unfold I64; omega
theorem i64_0 : I64 0 := by unfold I64; omega
theorem u8_1000 : ∀ x ∈ [(1 : Int), 0, 0, 0], U8 x := by intro x hx; simp at hx; unfold U8; omega
theorem u8_0000 : ∀ x ∈ [(0 : Int), 0, 0, 0], U8 x := by intro x hx; simp at hx; unfold U8; omega
theorem u8_3000 : ∀ x ∈ [(3 : Int), 0, 0, 0], U8 x := by intro x hx; simp at hx; unfold U8; omega
theorem row8_4 (w : World) : code.Row8 (w.alloc (.cells #[.int .u8 1, .int .u8 1, .int .u8 1, .int .u8 3] 5)) (some ⟨w.heap.size, 0, none⟩) 4 4 [1, 1, 1, 3] := row8_new w [1, 1, 1, 3] (by intro x hx; simp at hx; unfold U8; omega) (by decide)
theorem row8_5 (w : World) : code.Row8 (w.alloc (.cells #[.int .u8 1, .int .u8 1, .int .u8 1, .int .u8 3, .int .u8 0] 5)) (some ⟨w.heap.size, 0, none⟩) 5 5 [1, 1, 1, 3, 0] := row8_new w [1, 1, 1, 3, 0] (by intro x hx; simp at hx; unfold U8; omega) (by decide)
theorem txt_D0 : txt [1, 1, 1, 3] = ⟨#[1, 1, 1, 3]⟩ := rfl


end Go.Proofs.Ytmlnfpefemchhaa

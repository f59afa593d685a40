/-
  What code.Put returns: the bytes, and behind them the number's digits, in memory of its own.
  Conditions: as each theorem states them.
-/
import Derived.Test.YtikgbcdmeikjfaaCD
import Derived.Deep.DeepAppendRoom
import Derived.Laws.AppendOwnNone
import Derived.OwnWalk
namespace Go.Proofs.Ytikgbcdmeikjfaa.code
open Go.RowKit
set_option linter.unusedVariables false
set_option linter.unusedSimpArgs false
set_option maxRecDepth 100000

theorem bcell {W w1 : World} (hb : Below W.heap.size W w1) : (∀ b o, b < W.heap.size → w1.cell? ⟨b, o, none⟩ = W.cell? ⟨b, o, none⟩) ∧ (∀ b o, b < W.heap.size → w1.frozen? ⟨b, o, none⟩ = W.frozen? ⟨b, o, none⟩) :=
  ⟨fun b o h => hb.cell (p := ⟨b, o, none⟩) h, fun b o h => hb.frozen (p := ⟨b, o, none⟩) h⟩
theorem info_u8 : (Try.prog.info? 5).map (fun i => (i.zero, i.size, i.bytes)) = some (some (.int .u8 0), 1, 1) := by kernel_rfl

/-- Cells of a block, from a place on, that hold bytes. -/
def Lies (w : World) (b off : Nat) (l : List Int) : Prop := ∀ k, k < l.length → w.cell? ⟨b, off + k, none⟩ = some (.int .u8 (l.getD k 0))
/-- A slice of bytes, in a world. -/
def Row8 (w : World) (a : Option Addr) (len cap : Nat) (l : List Int) : Prop :=
  len = l.length ∧ len ≤ cap ∧ cap ≤ maxLen ∧ (∀ x ∈ l, U8 x) ∧ (a = none → cap = 0) ∧ (0 < len → ∃ b off, a = some ⟨b, off, none⟩ ∧ b < w.heap.size ∧ Lies w b off l)
theorem Row8.below {w w' : World} {a : Option Addr} {len cap : Nat} {l : List Int} (h : Row8 w a len cap l) (hb : Below w.heap.size w w') : Row8 w' a len cap l := by
  obtain ⟨h1, h2, h3, h4, h5, h6⟩ := h
  refine ⟨h1, h2, h3, h4, h5, fun h0 => ?_⟩
  obtain ⟨b, off, e, hlt, hl⟩ := h6 h0
  exact ⟨b, off, e, Nat.lt_of_lt_of_le hlt hb.size, fun k hk => ((bcell hb).1 b _ hlt).trans (hl k hk)⟩
/-- The values of a row. -/
def vals (l : List Int) : List Value := l.map (Value.int .u8)
theorem vals_one (l : List Int) : ∀ u ∈ vals l, u.oneCell' = true := by
  intro u hu
  obtain ⟨x, _, rfl⟩ := List.mem_map.mp hu
  rfl
theorem vals_len (l : List Int) : (vals l).length = l.length * 1 := by simp [vals]
theorem vals_get (l : List Int) (j : Nat) (u : Value) (h : (vals l)[j]? = some u) : j < l.length ∧ u = .int .u8 (l.getD j 0) := by
  unfold vals at h
  rw [List.getElem?_map] at h
  cases e : l[j]? with
  | none => rw [e] at h; simp at h
  | some x =>
    rw [e] at h
    simp at h
    have : j < l.length := by
      by_cases g : j < l.length
      · exact g
      · rw [List.getElem?_eq_none (by omega)] at e; cases e
    refine ⟨this, ?_⟩
    rw [← h, List.getD_eq_getElem?_getD, e]; rfl
theorem lies_cells {w : World} {b off : Nat} {l : List Int} (h : Lies w b off l) : ∀ j u, (vals l)[j]? = some u → w.cell? ((⟨b, off, none⟩ : Addr).add j) = some u := by
  intro j u hu
  obtain ⟨h1, rfl⟩ := vals_get l j u hu
  have := h j h1
  by_cases h0 : j = 0
  · subst h0; simpa [Addr.add] using this
  · simpa [Addr.add, h0] using this
theorem owns_lies {w : World} {base g n cap : Nat} {l : List Int} (h : w.ownsRow base 5 1 (.slice (some ⟨g, 0, none⟩) n cap) n (vals l)) : n = l.length ∧ g < w.heap.size ∧ Lies w g 0 l := by
  have e : n = l.length := by have := h.1; rw [vals_len] at this; omega
  refine ⟨e, (h.lt g rfl).2, fun k hk => ?_⟩
  rw [Nat.zero_add, h.cellAt k (by omega)]
  unfold vals
  rw [List.getElem?_map, List.getElem?_eq_getElem hk]
  simp [List.getD_eq_getElem?_getD, List.getElem?_eq_getElem hk]

theorem isDigs_n {u : Int} {xs : List Int} {n : Nat} (hx : xs.length = 10) (h : IsDigs u xs n) : n = (digs u).length := by
  obtain ⟨h1, h2, h3⟩ := h
  rw [← h3, List.length_take]; omega
theorem lies10 (w : World) (x0 x1 x2 x3 x4 x5 x6 x7 x8 x9 : Int) (n : Value) (m : Nat) (hm : m ≤ 10) : Lies (w.alloc (.cells #[.int .u8 x0, .int .u8 x1, .int .u8 x2, .int .u8 x3, .int .u8 x4, .int .u8 x5, .int .u8 x6, .int .u8 x7, .int .u8 x8, .int .u8 x9, n] 98)) w.heap.size 0 ([x0, x1, x2, x3, x4, x5, x6, x7, x8, x9].take m) := by
  intro k hk
  rw [List.length_take] at hk
  simp at hk
  have h10 : k < 10 := by omega
  rw [List.getD_eq_getElem?_getD, List.getElem?_take, if_pos (by omega)]
  rcases k with _ | _ | _ | _ | _ | _ | _ | _ | _ | _ | k <;> first | omega | simp [go_sem]

theorem grown_cell {w w' : World} {row : Option Nat} (h : w.grownBy w' row) {b o : Nat} (hb : b < w.heap.size) (hr : row ≠ some b) : w'.cell? ⟨b, o, none⟩ = w.cell? ⟨b, o, none⟩ :=
  World.cell?_of_block (w := w) (a := ⟨b, o, none⟩) (h.block b hb (fun e => hr e.symm))
theorem grown_lies {w w' : World} {row : Option Nat} (h : w.grownBy w' row) {b off : Nat} {l : List Int} (hb : b < w.heap.size) (hr : row ≠ some b) (hl : Lies w b off l) : Lies w' b off l :=
  fun k hk => (grown_cell h hb hr).trans (hl k hk)
theorem cell10 (w : World) (x0 x1 x2 x3 x4 x5 x6 x7 x8 x9 : Int) (n : Value) : (w.alloc (.cells #[.int .u8 x0, .int .u8 x1, .int .u8 x2, .int .u8 x3, .int .u8 x4, .int .u8 x5, .int .u8 x6, .int .u8 x7, .int .u8 x8, .int .u8 x9, n] 98)).cell? ⟨w.heap.size, 10, none⟩ = some n := by
  simp [go_sem]
/-- The digits that were told, in their block, and the room that was made behind it. -/
theorem made_facts {w1 w2 : World} {u : Int} {x0 x1 x2 x3 x4 x5 x6 x7 x8 x9 : Int} {n : Nat} (hd : IsDigs u [x0, x1, x2, x3, x4, x5, x6, x7, x8, x9] n)
    (hg : (w1.alloc (.cells #[.int .u8 x0, .int .u8 x1, .int .u8 x2, .int .u8 x3, .int .u8 x4, .int .u8 x5, .int .u8 x6, .int .u8 x7, .int .u8 x8, .int .u8 x9, .int .i64 n] 98)).grownBy w2 none) :
    n = (digs u).length ∧ w1.heap.size < w2.heap.size ∧ w2.cell? ⟨w1.heap.size, 10, none⟩ = some (.int .i64 n) ∧ Lies w2 w1.heap.size 0 (digs u) := by
  have hs := hg.size
  have hlt : w1.heap.size < (w1.alloc (.cells #[.int .u8 x0, .int .u8 x1, .int .u8 x2, .int .u8 x3, .int .u8 x4, .int .u8 x5, .int .u8 x6, .int .u8 x7, .int .u8 x8, .int .u8 x9, .int .i64 n] 98)).heap.size := by simp
  refine ⟨isDigs_n rfl hd, Nat.lt_of_lt_of_le hlt hs, (grown_cell hg hlt (by simp)).trans (cell10 _ _ _ _ _ _ _ _ _ _ _ _), ?_⟩
  rw [← hd.2.2]
  exact grown_lies hg hlt (by simp) (lies10 _ _ _ _ _ _ _ _ _ _ _ _ _ hd.2.1)

theorem slice10 (D n : Nat) (hn : n ≤ 10) (w : World) : (Instr.sliceAt 96 (.pointer (some ⟨D, 0, none⟩)) none (some (.int .i64 n)) none).run Try.prog w = .ok (.slice (some ⟨D, 0, none⟩) n 10) w := by
  have hA : Try.prog.arrayLen 96 = 10 := by kernel_rfl
  have hE : Try.prog.elem 96 = 5 := by kernel_rfl
  have hU : Try.prog.underlying 96 = some (.array (Try.prog.arrayLen 96) (Try.prog.elem 96)) := by kernel_rfl
  rw [run_sliceAt_array_h w 96 _ hU .i64 n (by omega) (by rw [hA]; omega)]
  rw [hA, hE]
  simp [go_sem]

theorem src_cells {w w2 : World} {ad : Addr} {l : List Int} (HR : 0 < l.length → ∃ b off, some ad = some ⟨b, off, none⟩ ∧ b < w.heap.size ∧ Lies w b off l) (B2 : Below w.heap.size w w2) :
    ∀ j u, (vals l)[j]? = some u → w2.cell? (ad.add j) = some u := by
  intro j u hu
  obtain ⟨h1, h2⟩ := vals_get l j u hu
  obtain ⟨b, off, e, hlt, hl⟩ := HR (by omega)
  cases e
  exact lies_cells (fun k hk => ((bcell B2).1 b _ hlt).trans (hl k hk)) j u hu
theorem put_fin {w w3 : World} {g m : Nat} {l : List Int} (hown : w3.ownsRow w.heap.size 5 1 (.slice (some ⟨g, 0, none⟩) m m) m (vals l)) (hb : Below w.heap.size w w3) :
    (∃ g' : Nat, Ending.returned (.slice (some ⟨g, 0, none⟩) m m) = .returned (.slice (some ⟨g', 0, none⟩) l.length l.length) ∧ w.heap.size ≤ g' ∧ g' < w3.heap.size ∧ Lies w3 g' 0 l) ∧ Below w.heap.size w w3 := by
  obtain ⟨e, h1, h2⟩ := owns_lies hown
  subst e
  exact ⟨⟨g, rfl, (hown.lt g rfl).1, h1, h2⟩, hb⟩

set_option maxHeartbeats 2000000 in
theorem put_any (a : Option Addr) (len cap : Nat) (l : List Int) (u : Int) (w : World) (hr : Row8 w a len cap l) (hl : len ≤ 1000000) (hu : U64 u) :
    Calls Try.prog 42 #[.slice a len cap, .int .u64 u] w fun e w' => (∃ g : Nat, e = .returned (.slice (some ⟨g, 0, none⟩) (l ++ digs u).length (l ++ digs u).length) ∧ w.heap.size ≤ g ∧ g < w'.heap.size ∧ Lies w' g 0 (l ++ digs u)) ∧ Below w.heap.size w w' := by
  obtain ⟨i0, hi, hz0, hz1, hz2⟩ := info_parts info_u8
  obtain ⟨r1, r2, r3, r4, r5, r6⟩ := hr
  subst r1
  have HR : Hid (0 < l.length → ∃ b off, a = some ⟨b, off, none⟩ ∧ b < w.heap.size ∧ Lies w b off l) := r6
  clear r6 r4
  unfold maxLen at r3
  cases a with
  | none =>
    obtain rfl : cap = 0 := r5 rfl
    have hl0 : l = [] := List.length_eq_zero_iff.mp (by omega)
    subst hl0
    clear r2 r3 hl HR r5
    go_enter Try.func42, Try.ntmps42
    go_wp2_with (first
      | (go_at_call 60; refine (digits_any _ _ hu).mono ?_; rintro e w1 ⟨⟨x0, x1, x2, x3, x4, x5, x6, x7, x8, x9, n, rfl, hd⟩, hb1⟩; have hn : n ≤ 10 := hd.2.1; have hS := slice10 w1.heap.size n hn)
      | (at_make; refine wpList_make_own _ rfl _ _ 52 rfl w.heap.size 5 i0 (.int .u8 0) 1 Try.underlying52 hi hz0 hz1 .i64 .i64 _ n rfl rfl rfl (by rw [hz2]; omega) (by unfold maxLen; omega) (by simp; have := hb1.size; omega) ?_; intro w2 hown2 hgrow2; obtain ⟨hnd0, hlt, hc10, hD⟩ := made_facts hd hgrow2; have hnd : Hid (n = (digs u).length) := hnd0; clear hnd0; rw [World.size_alloc] at hown2)
      | (at_builtin; refine wpList_append_own_none rfl _ _ 52 rfl w.heap.size 5 i0 1 Try.underlying52 hi _ 0 [] rfl hown2 rfl ?_)
      | (at_builtin; refine wpList_append_own_spare _ rfl (.tmp 18) (.tmp 22) 52 rfl w.heap.size 5 i0 1 Try.underlying52 hi hz1 (w1.heap.size + 1) 0 n _ rfl hown2 ⟨w1.heap.size, 0, none⟩ n 10 (vals (digs u)) rfl (by rw [vals_len, hnd.out]) (lies_cells hD) (vals_one _) (by omega) ?_; intro w3 hown3 hgrow3))
    go_ret
    have B2 : Below w.heap.size w w2 := (hb1.alloc hb1.size _).grown hgrow2 (by simp; have := hb1.size; omega) (fun k h => by cases h)
    exact put_fin (by simpa using hown3) (B2.grown hgrow3 B2.size (fun k hk => by cases hk; have := hb1.size; omega))
  | some ad =>
    clear r5
    go_enter Try.func42, Try.ntmps42
    go_wp2_with (first
      | (go_at_call 60; refine (digits_any _ _ hu).mono ?_; rintro e w1 ⟨⟨x0, x1, x2, x3, x4, x5, x6, x7, x8, x9, n, rfl, hd⟩, hb1⟩; have hn : n ≤ 10 := hd.2.1; have hS := slice10 w1.heap.size n hn)
      | (at_make; refine wpList_make_own _ rfl _ _ 52 rfl w.heap.size 5 i0 (.int .u8 0) 1 Try.underlying52 hi hz0 hz1 .i64 .i64 _ (l.length + n) rfl rfl (by omega) (by rw [hz2]; omega) (by unfold maxLen; omega) (by simp; have := hb1.size; omega) ?_; intro w2 hown2 hgrow2; obtain ⟨hnd0, hlt, hc10, hD⟩ := made_facts hd hgrow2; have hnd : Hid (n = (digs u).length) := hnd0; clear hnd0; rw [World.size_alloc] at hown2; have B2 : Below w.heap.size w w2 := (hb1.alloc hb1.size _).grown hgrow2 (by simp; have := hb1.size; omega) (fun k h => by cases h))
      | (at_builtin; refine wpList_append_own_spare _ rfl (.tmp 15) (.tmp 16) 52 rfl w.heap.size 5 i0 1 Try.underlying52 hi hz1 (w1.heap.size + 1) 0 (l.length + n) _ rfl hown2 ad l.length cap (vals l) rfl (vals_len l) (src_cells HR.out B2) (vals_one _) (by omega) ?_; intro w3 hown3 hgrow3; have hc10' : w3.cell? ⟨w1.heap.size, 10, none⟩ = some (.int .i64 n) := (grown_cell hgrow3 hlt (by simp)).trans hc10; have hD' := grown_lies hgrow3 hlt (by simp) hD; have B3 : Below w.heap.size w w3 := B2.grown hgrow3 B2.size (fun k hk => by cases hk; have := hb1.size; omega); rw [Nat.zero_add] at hown3)
      | (at_builtin; refine wpList_append_own_spare _ rfl (.tmp 18) (.tmp 22) 52 rfl w.heap.size 5 i0 1 Try.underlying52 hi hz1 (w1.heap.size + 1) l.length (l.length + n) _ rfl hown3 ⟨w1.heap.size, 0, none⟩ n 10 (vals (digs u)) rfl (by rw [vals_len, hnd.out]) (lies_cells hD') (vals_one _) (by omega) ?_; intro w4 hown4 hgrow4))
    go_ret
    have hv : [] ++ vals l ++ vals (digs u) = vals (l ++ digs u) := by simp [vals]
    rw [hv] at hown4
    exact put_fin hown4 (B3.grown hgrow4 B3.size (fun k hk => by cases hk; have := hb1.size; omega))

end Go.Proofs.Ytikgbcdmeikjfaa.code

/-
  Bytes as a string; what row.Bytes and the document's Bytes return.
  Conditions: as each theorem states them.
-/
import Derived.Test.YtikgbcdmeikjfaaRE
import Derived.Test.YtikgbcdmeikjfaaCB
import Derived.Laws.BytesString
namespace Go.Proofs.Ytikgbcdmeikjfaa
open Go.ChangeShapes Go.WideShapes Go.ChangeAt Go.RowKit
set_option linter.unusedVariables false
set_option linter.unusedSimpArgs false
set_option maxRecDepth 100000

/-- Bytes as a string. -/
def txt (l : List Int) : ByteArray := l.foldl (fun r n => r.push (UInt8.ofNat n.toNat)) ByteArray.empty
theorem txt_data (l : List Int) : (txt l).data = (l.map (fun n => UInt8.ofNat n.toNat)).toArray := by
  have key : ∀ (l : List Int) (r : ByteArray), (l.foldl (fun r n => r.push (UInt8.ofNat n.toNat)) r).data = r.data ++ (l.map (fun n => UInt8.ofNat n.toNat)).toArray := by
    intro l
    induction l with
    | nil => intro r; simp
    | cons x t ih =>
      intro r
      rw [List.foldl_cons, ih]
      apply Array.toList_inj.mp
      simp [ByteArray.push]
  have := key l ByteArray.empty
  simpa [txt] using this
theorem txt_inj {l m : List Int} (hl : ∀ x ∈ l, U8 x) (hm : ∀ x ∈ m, U8 x) (h : txt l = txt m) : l = m := by
  have h1 : (l.map (fun n => UInt8.ofNat n.toNat)).toArray = (m.map (fun n => UInt8.ofNat n.toNat)).toArray := by rw [← txt_data, ← txt_data, h]
  have h2 : l.map (fun n => UInt8.ofNat n.toNat) = m.map (fun n => UInt8.ofNat n.toNat) := by simpa using congrArg Array.toList h1
  clear h1 h
  induction l generalizing m with
  | nil => cases m with
    | nil => rfl
    | cons y t => simp at h2
  | cons x r ih =>
    cases m with
    | nil => simp at h2
    | cons y t =>
      rw [List.map_cons, List.map_cons, List.cons.injEq] at h2
      have hx := hl x (by simp)
      have hy := hm y (by simp)
      have e : x = y := by
        have := congrArg UInt8.toNat h2.1
        rw [UInt8.toNat_ofNat', UInt8.toNat_ofNat'] at this
        obtain ⟨a1, a2⟩ := hx
        obtain ⟨b1, b2⟩ := hy
        omega
      rw [e, ih (fun z hz => hl z (by simp [hz])) (fun z hz => hm z (by simp [hz])) h2.2]
theorem conv8 {w : World} {a : Option Addr} {n c : Nat} {l : List Int} (h : code.Row8 w a n c l) : (convert 52 9 (.slice a n c)).run Try.prog w = .ok (.string (txt l)) w := by
  rw [run_convert_bytes_string w 52 9 5 _ _ _ Try.underlying52 Try.underlying5 Try.underlying9]
  obtain ⟨h1, h2, h3, h4, h5, h6⟩ := h
  cases a with
  | none =>
    obtain rfl : c = 0 := h5 rfl
    obtain rfl : n = 0 := by omega
    have hl : l = [] := List.length_eq_zero_iff.mp h1.symm
    subst hl
    rfl
  | some ad =>
    refine run_bytesToString w ad n c l ?_
    have := run_loadCells_list (P := Try.prog) w ad (vals .u8 l) (fun j u hu => by
      obtain ⟨hj, _⟩ := vals_get .u8 l j u hu
      obtain ⟨b, off, e, hb, hL⟩ := h6 (by omega)
      cases e
      exact lies_cells (k := .u8) hL j u hu)
    rw [vals_len, Nat.mul_one, ← h1] at this
    exact this
theorem row8_new (w : World) (l : List Int) (hu : ∀ x ∈ l, U8 x) (hm : l.length ≤ 1000) : code.Row8 (w.alloc (.cells (vals .u8 l).toArray 5)) (some ⟨w.heap.size, 0, none⟩) l.length l.length l := by
  refine ⟨rfl, Nat.le_refl _, by unfold maxLen; omega, hu, (fun e => by cases e), fun _ => ⟨w.heap.size, 0, rfl, by simp, fun k hk => ?_⟩⟩
  rw [Nat.zero_add, World.cell?_alloc_new]
  simp [vals, List.getD_eq_getElem?_getD, List.getElem?_eq_getElem hk]


/-- A row as bytes. -/
def bts : Rw → List Int | (a, b, c, d, m, n) => [a, b, c, d] ++ code.digs (code.zig m) ++ code.digs (code.zig n)
theorem zig_u64 {v : Int} (h : I64 v) : U64 (code.zig v) := by
  obtain ⟨h1, h2⟩ := h
  unfold code.zig U64
  split <;> omega
theorem digs_u8 {u : Int} (h : U64 u) : ∀ x ∈ code.digs u, U8 x := by
  obtain ⟨h1, h2⟩ := h
  exact code.digF_u8 9 u h1 (by rw [code.top10]; omega)
theorem bts_u8 {r : Rw} (h : rok r) : ∀ x ∈ bts r, U8 x := by
  obtain ⟨a, b, c, d, m, n⟩ := r
  obtain ⟨⟨q1, q2, q3, q4⟩, hm, hn⟩ := h
  intro x hx
  simp only [bts, List.mem_append, List.mem_cons, List.not_mem_nil, or_false] at hx
  rcases hx with (( rfl | rfl | rfl | rfl) | hx) | hx
  · exact q1
  · exact q2
  · exact q3
  · exact q4
  · exact digs_u8 (zig_u64 hm) x hx
  · exact digs_u8 (zig_u64 hn) x hx
theorem bts_len (r : Rw) : 6 ≤ (bts r).length ∧ (bts r).length ≤ 24 := by
  obtain ⟨a, b, c, d, m, n⟩ := r
  have h1 := code.digs_len (code.zig m)
  have h2 := code.digs_len (code.zig n)
  simp only [bts, List.length_append, List.length_cons, List.length_nil]
  omega
theorem lies_row {w : World} {g : Nat} {l : List Int} (hg : g < w.heap.size) (hl : code.Lies w g 0 l) (hu : ∀ x ∈ l, U8 x) (hm : l.length ≤ 1000000) : code.Row8 w (some ⟨g, 0, none⟩) l.length l.length l :=
  ⟨rfl, Nat.le_refl _, by unfold maxLen; omega, hu, (fun e => by cases e), fun _ => ⟨g, 0, rfl, hg, hl⟩⟩
theorem own_row8 {w : World} {base g n cap : Nat} {l : List Int} (h : w.ownsRow base 5 1 (.slice (some ⟨g, 0, none⟩) n cap) n (code.vals l)) (hu : ∀ x ∈ l, U8 x) : code.Row8 w (some ⟨g, 0, none⟩) n cap l := by
  obtain ⟨e, h1, h2⟩ := code.owns_lies h
  rcases h.2 with ⟨h', h0⟩ | ⟨g', cap', cur, h', _, hg, hnc, hm, hcs, htake⟩
  · cases h'
  · cases h'
    exact ⟨e, hnc, hm, hu, (fun e => by cases e), fun _ => ⟨g, 0, rfl, h1, h2⟩⟩

set_option maxHeartbeats 1000000 in
/-- slices.Clone of bytes that are there. -/
theorem clone8 (ad : Addr) (n c : Nat) (xs : List Int) (w : World) (h1 : code.Row8 w (some ad) n c xs) (hn : n ≤ 1000000) :
    Calls Try.prog 41 #[.slice (some ad) n c] w fun e w' => (∃ g cap : Nat, e = .returned (.slice (some ⟨g, 0, none⟩) n cap) ∧ code.Row8 w' (some ⟨g, 0, none⟩) n cap xs) ∧ Below w.heap.size w w' := by
  have H1 := hid h1
  clear h1
  have hnil : ∀ w, (binOp .eql 52 (.slice (some ad) n c) (.slice none 0 0)).run Try.prog w = .ok (.bool false) w := fun _ => by kernel_rfl
  go_enter Try.func41, Try.ntmps41
  go_wp2_with (first
    | (at_builtin; refine code.append_row rfl (.tmp 5) (.tmp 6) rfl w.heap.size w.heap.size 0 0 [] rfl (code.own_made w w.heap.size (Nat.le_refl _)) (some ad) n c xs rfl (H1.out.below ((Below.refl _ _).alloc (Nat.le_refl _) _)) (by omega) (by simp) ?_; intro g1 cap1 w1 hown1 hgrow1; rw [Nat.zero_add, List.nil_append] at hown1; have B1 : Below w.heap.size w w1 := ((Below.refl w.heap.size w).alloc (Nat.le_refl _) _).grown hgrow1 (by simp) (fun k hk => by cases hk; exact Nat.le_refl _)))
  go_ret
  exact ⟨⟨g1, cap1, rfl, own_row8 hown1 H1.out.2.2.2.1⟩, B1⟩

theorem zig_m (a Z : Int) (w : World) (ha : Hid (I64 a)) (hZ : Hid (code.zig a = Z)) : Calls Try.prog 43 #[.int .i64 a] w fun e w' => e = .returned (.int .u64 Z) ∧ w' = w := by
  have h := code.zig_any a w ha.out
  rw [hZ.out] at h
  exact h
theorem rzig_m (a Z : Int) (w : World) (ha : Hid (I64 a)) (hZ : Hid (code.zig a = Z)) : Calls Try.prog 45 #[.int .i64 a] w fun e w' => e = .returned (.int .u64 Z) ∧ w' = w := by
  have h := code.rzig_any a w ha.out
  rw [hZ.out] at h
  exact h
theorem put_m (a : Option Addr) (len cap L : Nat) (l m : List Int) (u : Int) (w : World) (hr : code.Row8 w a len cap l) (hl : len ≤ 100000) (hu : U64 u) (hm : Hid (l ++ code.digs u = m)) (hL : Hid (m.length = L)) :
    Calls Try.prog 42 #[.slice a len cap, .int .u64 u] w fun e w' => (∃ g : Nat, e = .returned (.slice (some ⟨g, 0, none⟩) L L) ∧ code.Row8 w' (some ⟨g, 0, none⟩) L L m) ∧ Below w.heap.size w w' := by
  refine (code.put_any a len cap l u w hr (by omega) hu).mono ?_
  rintro e w' ⟨⟨g, rfl, h1, h2, h3⟩, hb⟩
  have hd := code.digs_len u
  have e1 := hr.1
  have hu8 : ∀ x ∈ l ++ code.digs u, U8 x := by
    intro x hx
    rcases List.mem_append.mp hx with hx | hx
    · exact hr.2.2.2.1 x hx
    · exact digs_u8 hu x hx
  have h4 := lies_row h2 h3 hu8 (by rw [List.length_append]; omega)
  rw [hm.out, hL.out] at h4
  rw [hm.out, hL.out]
  exact ⟨⟨g, rfl, h4⟩, hb⟩

set_option maxHeartbeats 4000000 in
theorem rbytes_m (x0 x1 x2 x3 m0 m1 : Int) (L : Nat) (w : World) (hx : rok (x0, x1, x2, x3, m0, m1)) (hL : Hid ((bts (x0, x1, x2, x3, m0, m1)).length = L)) :
    Calls Try.prog 22 #[.agg #[.int .u8 x0, .int .u8 x1, .int .u8 x2, .int .u8 x3, .int .i64 m0, .int .i64 m1]] w fun e w' => (∃ g : Nat, e = .returned (.slice (some ⟨g, 0, none⟩) L L) ∧ code.Row8 w' (some ⟨g, 0, none⟩) L L (bts (x0, x1, x2, x3, m0, m1))) ∧ Below w.heap.size w w' := by
  have g1 := heap_alloc_new w (.cells #[.int .u8 x0, .int .u8 x1, .int .u8 x2, .int .u8 x3, .int .i64 m0, .int .i64 m1] 33)
  have b1 : Below w.heap.size w (w.alloc (.cells #[.int .u8 x0, .int .u8 x1, .int .u8 x2, .int .u8 x3, .int .i64 m0, .int .i64 m1] 33)) := (Below.refl _ _).alloc (Nat.le_refl _) _
  have R1 : Hid (code.Row8 (w.alloc (.cells #[.int .u8 x0, .int .u8 x1, .int .u8 x2, .int .u8 x3, .int .i64 m0, .int .i64 m1] 33)) (some ⟨w.heap.size, 0, none⟩) 4 4 [x0, x1, x2, x3]) := hid (by
    obtain ⟨p0, p1, p2, p3, _, _⟩ := box6 g1
    refine ⟨rfl, Nat.le_refl _, by decide, ?_, (fun e => by cases e), fun _ => ⟨w.heap.size, 0, rfl, by simp, fun k hk => ?_⟩⟩
    · intro x h
      obtain ⟨⟨q1, q2, q3, q4⟩, _, _⟩ := hx
      simp only [List.mem_cons, List.not_mem_nil, or_false] at h
      rcases h with rfl | rfl | rfl | rfl <;> assumption
    · match k, hk with
      | 0, _ => exact p0
      | 1, _ => exact p1
      | 2, _ => exact p2
      | 3, _ => exact p3)
  have I0 : Hid (I64 m0) := hid hx.2.1
  have I1 : Hid (I64 m1) := hid hx.2.2
  obtain ⟨Z0, eZ0⟩ : ∃ y, code.zig m0 = y := ⟨_, rfl⟩
  obtain ⟨Z1, eZ1⟩ : ∃ y, code.zig m1 = y := ⟨_, rfl⟩
  have U0 : Hid (U64 Z0) := hid (eZ0 ▸ zig_u64 I0.out)
  have U1 : Hid (U64 Z1) := hid (eZ1 ▸ zig_u64 I1.out)
  have d0 := code.digs_len Z0
  have E0 := hid eZ0
  have E1 := hid eZ1
  obtain ⟨l1, e1⟩ : ∃ y, [x0, x1, x2, x3] ++ code.digs Z0 = y := ⟨_, rfl⟩
  obtain ⟨L1, f1⟩ : ∃ y, l1.length = y := ⟨_, rfl⟩
  have hL1 : L1 ≤ 100000 := by rw [← f1, ← e1, List.length_append]; simp only [List.length_cons, List.length_nil]; omega
  have F1 := hid f1
  have G1 := hid e1
  have G2 : Hid (l1 ++ code.digs Z1 = bts (x0, x1, x2, x3, m0, m1)) := hid (by rw [← e1]; simp only [bts]; rw [eZ0, eZ1])
  have B1 := hid b1
  have H1 := hid g1
  clear eZ0 eZ1 e1 f1 d0 hx b1 g1
  have tk1 : True := trivial
  have ix0 : ∀ w, (Instr.index 31 (.agg #[.int .i64 m0, .int .i64 m1]) (.int .i64 0)).run Try.prog w = .ok (.int .i64 m0) w := fun _ => by kernel_rfl
  have ix1 : ∀ w, (Instr.index 31 (.agg #[.int .i64 m0, .int .i64 m1]) (.int .i64 1)).run Try.prog w = .ok (.int .i64 m1) w := fun _ => by kernel_rfl
  go_enter Try.func22, Try.ntmps22
  go_wp2_with (first
    | (go_at_call 41; refine (clone8 _ 4 4 [x0, x1, x2, x3] _ R1.out (by omega)).mono ?_; rintro e w2 ⟨⟨g2, cap2, rfl, hr2⟩, hb2⟩; have R2 := hid hr2; obtain ⟨_, _, _, _, c4, c5⟩ := box6 (keep_blk H1.out hb2); have B2 := hid (bt B1.out hb2); clear hr2 hb2))
  refine wp_loop_rounds 3 ?_
  rw [rounds_succ]; go_wp2_with (first
    | (go_at_call 43; refine (zig_m m0 Z0 _ I0 E0).mono ?_; rintro e w3 ⟨rfl, rfl⟩)
    | (go_at_call 42; refine (put_m _ _ _ L1 [x0, x1, x2, x3] l1 Z0 _ R2.out (by omega) U0.out G1 F1).mono ?_; rintro e w4 ⟨⟨g4, rfl, hr4⟩, hb4⟩; have R4 := hid hr4; have B4 := hid (bt B2.out hb4); clear hr4 hb4))
  rw [rounds_succ]; go_wp2_with (first
    | (go_at_call 43; refine (zig_m m1 Z1 _ I1 E1).mono ?_; rintro e w5 ⟨rfl, rfl⟩)
    | (go_at_call 42; refine (put_m _ _ _ L l1 _ Z1 _ R4.out hL1 U1.out G2 hL).mono ?_; rintro e w6 ⟨⟨g6, rfl, hr6⟩, hb6⟩; have R6 := hid hr6; have B6 := hid (bt B4.out hb6); clear hr6 hb6))
  rw [rounds_succ]; go_wp2
  go_ret
  exact ⟨⟨g6, rfl, R6.out⟩, B6.out⟩


theorem rdigits_m (u : Int) (D : Nat) (w : World) (hu : Hid (U64 u)) (hD : Hid ((code.digs u).length = D)) :
    Calls Try.prog 44 #[.int .u64 u] w fun e w' => (∃ g cap : Nat, e = .returned (.slice (some ⟨g, 0, none⟩) D cap) ∧ code.Row8 w' (some ⟨g, 0, none⟩) D cap (code.digs u)) ∧ Below w.heap.size w w' := by
  refine (code.rdigits_any u w hu.out).mono ?_
  rintro e w' ⟨⟨g, cap, rfl, hown⟩, hb⟩
  rw [hD.out] at hown ⊢
  exact ⟨⟨g, cap, rfl, own_row8 hown (digs_u8 hu.out)⟩, hb⟩
theorem own_bel {B : Nat} {e : TypeId} {k : Nat} {v : Value} {n : Nat} {xs : List Value} {w w' : World} (h : w.ownsRow B e k v n xs) (hb : Below w.heap.size w w') : w'.ownsRow B e k v n xs :=
  h.kept (row := none) ⟨hb.os, hb.tape, hb.output, hb.size, fun j hj _ => hb.block j hj⟩ (by cases hv : v.ownBlock <;> simp)
/-- One byte more behind a row of one's own, beside a box. -/
theorem rb_step {w wr w' : World} {v : Value} {n : Nat} {xs : List Value} {X : Array Value} {t : TypeId} {o : Obj} (h : Below w.heap.size w wr ∧ wr.heap[w.heap.size]? = some (.cells X t)) (hown : wr.ownsRow (w.heap.size + 1) 5 1 v n xs) (hg : (wr.alloc o).grownBy w' v.ownBlock) :
    Below w.heap.size w w' ∧ w'.heap[w.heap.size]? = some (.cells X t) := by
  have hsz := heap_lt h.2
  have hs := h.1.size
  refine ⟨(h.1.alloc hs _).grown hg (by simp; omega) (fun k hk => by have := (hown.lt k hk).1; omega), ?_⟩
  rw [hg.block _ (by simp; omega) (fun e => by have := (hown.lt _ e.symm).1; omega), Below.heap_alloc _ _ _ hsz]
  exact h.2
theorem rb_step0 {w wr w' : World} {v : Value} {n : Nat} {xs : List Value} {X : Array Value} {t : TypeId} (h : Below w.heap.size w wr ∧ wr.heap[w.heap.size]? = some (.cells X t)) (hown : wr.ownsRow (w.heap.size + 1) 5 1 v n xs) (hg : wr.grownBy w' v.ownBlock) :
    Below w.heap.size w w' ∧ w'.heap[w.heap.size]? = some (.cells X t) := by
  have hsz := heap_lt h.2
  have hs := h.1.size
  refine ⟨h.1.grown hg hs (fun k hk => by have := (hown.lt k hk).1; omega), ?_⟩
  rw [hg.block _ hsz (fun e => by have := (hown.lt _ e.symm).1; omega)]
  exact h.2
theorem rb_keep {w wr w' : World} {X : Array Value} {t : TypeId} (h : Below w.heap.size w wr ∧ wr.heap[w.heap.size]? = some (.cells X t)) (hb : Below wr.heap.size wr w') : Below w.heap.size w w' ∧ w'.heap[w.heap.size]? = some (.cells X t) := ⟨bt h.1 hb, keep_blk h.2 hb⟩

set_option maxHeartbeats 4000000 in
theorem rrbytes_m (x0 x1 x2 x3 m0 m1 : Int) (L : Nat) (w : World) (hx : rok (x0, x1, x2, x3, m0, m1)) (hL : Hid ((bts (x0, x1, x2, x3, m0, m1)).length = L)) :
    Calls Try.prog 23 #[.agg #[.int .u8 x0, .int .u8 x1, .int .u8 x2, .int .u8 x3, .int .i64 m0, .int .i64 m1]] w fun e w' => (∃ g cap : Nat, e = .returned (.slice (some ⟨g, 0, none⟩) L cap) ∧ code.Row8 w' (some ⟨g, 0, none⟩) L cap (bts (x0, x1, x2, x3, m0, m1))) ∧ Below w.heap.size w w' := by
  obtain ⟨i0, hi, hz0, hz1, hz2⟩ := info_parts code.info_u8
  have HX := hid hx
  have I0 : Hid (I64 m0) := hid hx.2.1
  have I1 : Hid (I64 m1) := hid hx.2.2
  obtain ⟨Z0, eZ0⟩ : ∃ y, code.zig m0 = y := ⟨_, rfl⟩
  obtain ⟨Z1, eZ1⟩ : ∃ y, code.zig m1 = y := ⟨_, rfl⟩
  have U0 : Hid (U64 Z0) := hid (eZ0 ▸ zig_u64 I0.out)
  have U1 : Hid (U64 Z1) := hid (eZ1 ▸ zig_u64 I1.out)
  have E0 := hid eZ0
  have E1 := hid eZ1
  have B0 : Hid (Below w.heap.size w (w.alloc (.cells #[.int .u8 x0, .int .u8 x1, .int .u8 x2, .int .u8 x3, .int .i64 m0, .int .i64 m1] 33)) ∧ (w.alloc (.cells #[.int .u8 x0, .int .u8 x1, .int .u8 x2, .int .u8 x3, .int .i64 m0, .int .i64 m1] 33)).heap[w.heap.size]? = some (.cells #[.int .u8 x0, .int .u8 x1, .int .u8 x2, .int .u8 x3, .int .i64 m0, .int .i64 m1] 33)) := hid ⟨(Below.refl _ _).alloc (Nat.le_refl _) _, heap_alloc_new _ _⟩
  have O0 : Hid ((w.alloc (.cells #[.int .u8 x0, .int .u8 x1, .int .u8 x2, .int .u8 x3, .int .i64 m0, .int .i64 m1] 33)).ownsRow (w.heap.size + 1) 5 1 (.slice none 0 0) 0 (code.vals [])) := hid (World.ownsRow_nil _ _ _ _)
  clear hx eZ0 eZ1
  go_enter Try.func23, Try.ntmps23
  go_wp2
  go_loopw [3, 4] (fun bv i wr => ∃ k : Nat, k ≤ 4 ∧ i = .int .i64 k ∧ Hid (wr.ownsRow (w.heap.size + 1) 5 1 bv k (code.vals ([x0, x1, x2, x3].take k))) ∧ Hid (Below w.heap.size w wr ∧ wr.heap[w.heap.size]? = some (.cells #[.int .u8 x0, .int .u8 x1, .int .u8 x2, .int .u8 x3, .int .i64 m0, .int .i64 m1] 33))) (fun _ i _ => 4 - (intOf i).toNat)
  case atStart => exact ⟨0, by omega, rfl, O0, B0⟩
  case round =>
    obtain ⟨k, hk, rfl, OK, BK⟩ := hrel
    by_cases hlt : k < 4
    · have hki : (k : Int) < 4 := by omega
      have hk0 : (0 : Int) ≤ (k : Int) := by omega
      obtain ⟨X, hX, hc⟩ : ∃ X : Int, [x0, x1, x2, x3].take (k + 1) = [x0, x1, x2, x3].take k ++ [X] ∧ wr.cell? ⟨w.heap.size, k, none⟩ = some (.int .u8 X) := by
        obtain ⟨c0, c1, c2, c3, _, _⟩ := box6 BK.out.2
        match k, hlt with
        | 0, _ => exact ⟨x0, rfl, c0⟩
        | 1, _ => exact ⟨x1, rfl, c1⟩
        | 2, _ => exact ⟨x2, rfl, c2⟩
        | 3, _ => exact ⟨x3, rfl, c3⟩
      have hsz := heap_lt BK.out.2
      have hown := OK.out
      have HX' := hid hX
      clear hX
      go_wp2_with (first
        | (at_builtin; refine wpList_append_own _ rfl (.tmp 10) (.tmp 15) 52 rfl (w.heap.size + 1) 5 i0 (.int .u8 0) 1 1 Try.underlying52 hi hz0 hz1 hz2 rfl (by decide) _ k _ rfl (hown.alloc _) ⟨wr.heap.size, 0, none⟩ 1 1 [.int .u8 X] rfl rfl (cell_one_new _ _ _) (by intro v hv; simp at hv; subst hv; rfl) (by unfold maxLen; omega) (by omega) (by simp; omega) ?_; intro v' w1 hown1 hgrow1 hiff))
      go_roundw
      case rel =>
        refine ⟨k + 1, by omega, by go_num, hid ?_, hid (rb_step BK.out hown hgrow1)⟩
        rw [HX'.out, ← code.vals_app]; exact hown1
      case measure => simp [intOf]; omega
    · obtain rfl : k = 4 := by omega
      have hown : wr.ownsRow (w.heap.size + 1) 5 1 u3 4 (code.vals [x0, x1, x2, x3]) := OK.out
      obtain ⟨g, cap, rfl⟩ := code.own_nil_or (m := 0) hown (by omega)
      have O4 := hid hown
      obtain ⟨_, _, _, _, c4, c5⟩ := box6 BK.out.2
      have d0 := code.digs_len Z0
      have d1 := code.digs_len Z1
      have hL' : 4 + (code.digs Z0).length + (code.digs Z1).length = L := by
        rw [← hL.out]; simp only [bts, List.length_append, List.length_cons, List.length_nil]; rw [E0.out, E1.out]
      obtain ⟨D0, eD0⟩ : ∃ y, (code.digs Z0).length = y := ⟨_, rfl⟩
      obtain ⟨D1, eD1⟩ : ∃ y, (code.digs Z1).length = y := ⟨_, rfl⟩
      rw [eD0] at d0 hL'
      rw [eD1] at d1 hL'
      have HL' := hid hL'
      have ED0 := hid eD0
      have ED1 := hid eD1
      clear hown OK hL' eD0 eD1
      go_wp2
      refine wp_loop_rounds 3 ?_
      rw [rounds_succ]; go_wp2_with (first
        | (go_at_call 45; refine (rzig_m m0 Z0 _ I0 E0).mono ?_; rintro e w3 ⟨rfl, rfl⟩)
        | (go_at_call 44; refine (rdigits_m Z0 D0 _ U0 ED0).mono ?_; rintro e w4 ⟨⟨g4, cap4, rfl, hr4⟩, hb4⟩; have R4 := hid hr4; have hb4' := hid hb4; clear hr4 hb4)
        | (at_builtin; refine code.append_row rfl (.tmp 21) (.tmp 27) rfl (w.heap.size + 1) g 4 cap [x0, x1, x2, x3] rfl (own_bel O4.out hb4'.out) (some ⟨g4, 0, none⟩) D0 cap4 (code.digs Z0) rfl R4.out (by omega) (by have := heap_lt (rb_keep BK.out hb4'.out).2; omega) ?_; intro g5 cap5 w5 hown5 hgrow5; have O5 := hid hown5; have BK5 := hid (rb_step0 (rb_keep BK.out hb4'.out) (own_bel O4.out hb4'.out) hgrow5); clear hown5 hgrow5; obtain ⟨_, _, _, _, _, c55⟩ := box6 BK5.out.2))
      rw [rounds_succ]; go_wp2_with (first
        | (go_at_call 45; refine (rzig_m m1 Z1 _ I1 E1).mono ?_; rintro e w6 ⟨rfl, rfl⟩)
        | (go_at_call 44; refine (rdigits_m Z1 D1 _ U1 ED1).mono ?_; rintro e w7 ⟨⟨g7, cap7, rfl, hr7⟩, hb7⟩; have R7 := hid hr7; have hb7' := hid hb7; clear hr7 hb7)
        | (at_builtin; refine code.append_row rfl (.tmp 21) (.tmp 27) rfl (w.heap.size + 1) g5 (4 + D0) cap5 ([x0, x1, x2, x3] ++ code.digs Z0) rfl (own_bel O5.out hb7'.out) (some ⟨g7, 0, none⟩) D1 cap7 (code.digs Z1) rfl R7.out (by omega) (by have := heap_lt (rb_keep BK5.out hb7'.out).2; omega) ?_; intro g8 cap8 w8 hown8 hgrow8; have O8 := hid hown8; have BK8 := hid (rb_step0 (rb_keep BK5.out hb7'.out) (own_bel O5.out hb7'.out) hgrow8); clear hown8 hgrow8))
      rw [rounds_succ]; go_wp2
      go_ret
      have hfin := O8.out
      have ebts : [x0, x1, x2, x3] ++ code.digs Z0 ++ code.digs Z1 = bts (x0, x1, x2, x3, m0, m1) := by simp only [bts]; rw [E0.out, E1.out]
      rw [ebts, HL'.out] at hfin
      rw [HL'.out]
      exact ⟨⟨g8, cap8, rfl, own_row8 hfin (bts_u8 HX.out)⟩, BK8.out.1⟩

end Go.Proofs.Ytikgbcdmeikjfaa

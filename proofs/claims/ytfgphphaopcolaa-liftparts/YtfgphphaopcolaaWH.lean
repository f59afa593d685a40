/-
  What lift.Fiber returns: the finer places in a coarser one.
  Conditions: as each theorem states them.
-/
import Derived.Test.YtfgphphaopcolaaWG
import Derived.Test.YtfgphphaopcolaaWC
namespace Go.Proofs.Ytfgphphaopcolaa
open Go.ChangeShapes Go.WideShapes Go.ChangeAt Go.RowKit
set_option linter.unusedVariables false
set_option linter.unusedSimpArgs false

/-- A row of places is told. -/
def FTold (l : List Nd) (e : Ending) (w' : World) : Prop := ∃ a' n' c', e = .returned (.slice a' n' c') ∧ NRow w' a' n' c' l
theorem ftold_nil {l : List Nd} (w : World) (h : l = []) : FTold l (.returned (.slice none 0 0)) w := by subst h; exact ⟨none, 0, 0, rfl, nrow_nil w⟩
theorem widen_m (a : Option Addr) (n c : Nat) (l : List Nd) (d : Nat) (ma : Option Addr) (ml mc : Nat) (ms : List Int) (w : World) (hl : NRow w a n c l) (hm : IRow .i64 w ma ml mc ms) (hd : d < 4) (hms : ∀ x ∈ ms, 0 ≤ x ∧ x ≤ 255) (hs : n * ml ≤ 200000) :
    Calls Try.prog 36 #[.slice a n c, .int .i64 d, .slice ma ml mc] w fun e w' => FTold (wid l d ms) e w' ∧ Below w.heap.size w w' := by
  refine (widen_any a n c l d ma ml mc ms w hl hm hd hms hs).mono ?_
  rintro e w' ⟨v, rfl, hp⟩
  obtain ⟨a', c', rfl, hr⟩ := nrow_own hp.2
  exact ⟨⟨a', _, c', rfl, hr⟩, hp.1⟩
theorem under_nm (sa : Option Addr) (sl sc : Nat) (ua : Option Addr) (ul uc : Nat) (S : List Int) (U : List (List Int)) (t m f : Int) (R : List Int) (rl : Nat) (w : World) (hd : Dim w sa sl sc ua ul uc S U) (ht : I64 t) (hm : I64 m) (hf : I64 f) (hR : Hid (under S U t m f = R ∧ R.length = rl)) :
    Calls Try.prog 35 #[.agg #[.slice sa sl sc, .slice ua ul uc], .int .i64 t, .int .i64 m, .int .i64 f] w fun e w' => ∃ a cap, e = .returned (.slice a rl cap) ∧ IRow .i64 w' a rl cap R ∧ (∀ b off, a = some ⟨b, off, none⟩ → w.heap.size ≤ b) ∧ Below w.heap.size w w' := by
  refine (under_new sa sl sc ua ul uc S U t m f w hd ht hm hf).mono ?_
  obtain ⟨rfl, rfl⟩ := hR.out
  rintro e w' ⟨⟨a, cap, rfl, hr, hn⟩, hb⟩
  exact ⟨a, cap, rfl, hr, hn, hb⟩

/-- A catalog, a node, a place and a node, in blocks behind a world. -/
def F4 (w wr : World) (s u : Value) (T A F : Nat → Int) : Prop :=
  Below w.heap.size w wr ∧ wr.heap[w.heap.size]? = some (.cells #[s, u] 24) ∧ wr.heap[w.heap.size + 1]? = some (.cells (n4 T) 26) ∧ wr.heap[w.heap.size + 2]? = some (.cells (n4 A) 27) ∧ wr.heap[w.heap.size + 3]? = some (.cells (n4 F) 26)
theorem F4.step {w wr w' : World} {s u : Value} {F T A : Nat → Int} (h : F4 w wr s u T A F) (hb : Below wr.heap.size wr w') : F4 w w' s u T A F :=
  ⟨bt h.1 hb, keep_blk h.2.1 hb, keep_blk h.2.2.1 hb, keep_blk h.2.2.2.1 hb, keep_blk h.2.2.2.2 hb⟩
theorem F4.set {w wr : World} {s u : Value} {F T A : Nat → Int} (h : F4 w wr s u T A F) {B j : Nat} (hB : w.heap.size + 4 ≤ B) (v : Value) : F4 w (wr.setCell ⟨B, j, none⟩ v) s u T A F := by
  obtain ⟨h1, h2, h3, h4, h5⟩ := h
  refine ⟨h1.setCell (by simp; omega) _, ?_, ?_, ?_, ?_⟩
  · rw [Below.heap_setCell _ _ _ _ (by simp; omega)]; exact h2
  · rw [Below.heap_setCell _ _ _ _ (by simp; omega)]; exact h3
  · rw [Below.heap_setCell _ _ _ _ (by simp; omega)]; exact h4
  · rw [Below.heap_setCell _ _ _ _ (by simp; omega)]; exact h5
theorem f4_new (w : World) (s u : Value) (t0 t1 t2 t3 x0 x1 x2 x3 f0 f1 f2 f3 : Int) : F4 w ((((w.alloc (.cells #[s, u] 24)).alloc (.cells #[.int .u8 t0, .int .u8 t1, .int .u8 t2, .int .u8 t3] 26)).alloc (.cells #[.int .u8 x0, .int .u8 x1, .int .u8 x2, .int .u8 x3] 27)).alloc (.cells #[.int .u8 f0, .int .u8 f1, .int .u8 f2, .int .u8 f3] 26)) s u (fun j => [t0, t1, t2, t3].getD j 0) (fun j => [x0, x1, x2, x3].getD j 0) (fun j => [f0, f1, f2, f3].getD j 0) := by
  refine ⟨((((Below.refl _ _).alloc (Nat.le_refl _) _).alloc (by simp) _).alloc (by simp; omega) _).alloc (by simp; omega) _, ?_, ?_, ?_, ?_⟩ <;> simp only [heap_alloc2, World.size_alloc]
  · rw [if_neg (by omega), if_neg (by omega), if_neg (by omega)]; simp
  · rw [if_neg (by omega), if_neg (by omega)]; simp [n4]
  · rw [if_neg (by omega)]; simp [n4]
  · simp [n4]
theorem F4.all {w wr : World} {s u : Value} {F T A : Nat → Int} (h : F4 w wr s u T A F) :
    (wr.cell? ⟨w.heap.size, 0, none⟩ = some s ∧ wr.cell? ⟨w.heap.size, 1, none⟩ = some u) ∧
    (wr.cell? ⟨w.heap.size + 1, 0, none⟩ = some (.int .u8 (T 0)) ∧ wr.cell? ⟨w.heap.size + 1, 1, none⟩ = some (.int .u8 (T 1)) ∧ wr.cell? ⟨w.heap.size + 1, 2, none⟩ = some (.int .u8 (T 2)) ∧ wr.cell? ⟨w.heap.size + 1, 3, none⟩ = some (.int .u8 (T 3))) ∧
    (wr.cell? ⟨w.heap.size + 2, 0, none⟩ = some (.int .u8 (A 0)) ∧ wr.cell? ⟨w.heap.size + 2, 1, none⟩ = some (.int .u8 (A 1)) ∧ wr.cell? ⟨w.heap.size + 2, 2, none⟩ = some (.int .u8 (A 2)) ∧ wr.cell? ⟨w.heap.size + 2, 3, none⟩ = some (.int .u8 (A 3))) ∧
    (wr.cell? ⟨w.heap.size + 3, 0, none⟩ = some (.int .u8 (F 0)) ∧ wr.cell? ⟨w.heap.size + 3, 1, none⟩ = some (.int .u8 (F 1)) ∧ wr.cell? ⟨w.heap.size + 3, 2, none⟩ = some (.int .u8 (F 2)) ∧ wr.cell? ⟨w.heap.size + 3, 3, none⟩ = some (.int .u8 (F 3))) :=
  ⟨box_two h.2.1, n4_all h.2.2.1, n4_all h.2.2.2.1, n4_all h.2.2.2.2⟩
/-- What a region bears. -/
def FQ (w : World) (b : Nat) (s u : Value) (T A F : Nat → Int) (off : Nat) (d1 d2 : Value) (x : World) : Prop := F4 w x s u T A F ∧ x.cell? ⟨b, off, none⟩ = some d1 ∧ x.cell? ⟨b, off + 1, none⟩ = some d2 ∧ b < w.heap.size
theorem fq_step {w : World} {b : Nat} {s u : Value} {F T A : Nat → Int} {off : Nat} {d1 d2 : Value} : Hid (∀ x y, Below x.heap.size x y → FQ w b s u T A F off d1 d2 x → FQ w b s u T A F off d1 d2 y) :=
  hid fun x y hb h => ⟨h.1.step hb, ((bcell hb).1 _ _ (Nat.lt_of_lt_of_le h.2.2.2 h.1.1.size)).trans h.2.1, ((bcell hb).1 _ _ (Nat.lt_of_lt_of_le h.2.2.2 h.1.1.size)).trans h.2.2.1, h.2.2.2⟩
theorem fq_set {w : World} {b : Nat} {s u : Value} {F T A : Nat → Int} {off : Nat} {d1 d2 : Value} {P : Nat} (hP : w.heap.size + 4 ≤ P) : Hid (∀ x j v, FQ w b s u T A F off d1 d2 x → FQ w b s u T A F off d1 d2 (x.setCell ⟨P, j, none⟩ v)) :=
  hid fun x j v h => ⟨h.1.set (by omega) _, (cell_other (by have := h.2.2.2; omega)).trans h.2.1, (cell_other (by have := h.2.2.2; omega)).trans h.2.2.1, h.2.2.2⟩
/-- A row is kept where a cell of another block is stored into. -/
theorem IRow.setP {k : IntKind} {w : World} {a : Option Addr} {len cap : Nat} {l : List Int} (h : IRow k w a len cap l) {P j : Nat} {v : Value} (hne : ∀ b off, a = some ⟨b, off, none⟩ → P < b) : IRow k (w.setCell ⟨P, j, none⟩ v) a len cap l := by
  obtain ⟨h1, h2, h3, h5, h6⟩ := h
  refine ⟨h1, h2, h3, h5, fun h0 => ?_⟩
  obtain ⟨b, off, e, hlt, hl⟩ := h6 h0
  refine ⟨b, off, e, by simpa using hlt, fun q hq => ?_⟩
  rw [cell_other (by have := hne b off e; omega)]
  exact hl q hq
/-- Four slices in a block, the first so many of them the members under a place's. -/
def UN (w wr : World) (P k : Nat) (ds : Dims) (T A F : List Int) : Prop := w.heap.size + 4 ≤ P ∧ ∃ r : Nat → Value, wr.heap[P]? = some (.cells #[r 0, r 1, r 2, r 3] 71) ∧
  ∀ j, j < k → ∃ a c, r j = .slice a (uL ds T A F j).length c ∧ IRow .i64 wr a (uL ds T A F j).length c (uL ds T A F j) ∧ ∀ b off, a = some ⟨b, off, none⟩ → P < b
theorem UN.step {w wr w' : World} {P k : Nat} {ds : Dims} {T A F : List Int} (h : UN w wr P k ds T A F) (hb : Below wr.heap.size wr w') : UN w w' P k ds T A F := by
  obtain ⟨h0, r, h1, h2⟩ := h
  refine ⟨h0, r, keep_blk h1 hb, fun j hj => ?_⟩
  obtain ⟨a, c, e, hr, hn⟩ := h2 j hj
  exact ⟨a, c, e, hr.below hb, hn⟩
theorem UN.put {w wr : World} {P k : Nat} {ds : Dims} {T A F : List Int} (h : UN w wr P k ds T A F) (hk : k < 4) {a : Option Addr} {c rl : Nat} (hr : IRow .i64 wr a rl c (uL ds T A F k)) (hl : (uL ds T A F k).length = rl) (hn : ∀ b off, a = some ⟨b, off, none⟩ → P < b) :
    UN w (wr.setCell ⟨P, k, none⟩ (.slice a rl c)) P (k + 1) ds T A F := by
  subst hl
  obtain ⟨h0, r, h1, h2⟩ := h
  refine ⟨h0, fun j => if j = k then .slice a (uL ds T A F k).length c else r j, ?_, fun j hj => ?_⟩
  · have h3 := heap_setCell_same wr P k _ _ (.slice a (uL ds T A F k).length c) h1
    rw [h3]
    have : k = 0 ∨ k = 1 ∨ k = 2 ∨ k = 3 := by omega
    rcases this with rfl | rfl | rfl | rfl <;> rfl
  · by_cases e : j = k
    · subst e; exact ⟨a, c, if_pos rfl, hr.setP hn, hn⟩
    · obtain ⟨a', c', e', hr', hn'⟩ := h2 j (by omega)
      exact ⟨a', c', by rw [← e']; exact if_neg e, hr'.setP hn', hn'⟩
theorem UN.cell {w wr : World} {P k : Nat} {ds : Dims} {T A F : List Int} (h : UN w wr P k ds T A F) {j : Nat} (hj : j < 4) : ∃ v, wr.cell? ⟨P, j, none⟩ = some v := by
  obtain ⟨h0, r, h1, h2⟩ := h
  exact cell_in4 h1 hj
theorem UN.froz {w wr : World} {P k : Nat} {ds : Dims} {T A F : List Int} (h : UN w wr P k ds T A F) (j : Nat) : wr.frozen? ⟨P, j, none⟩ = false := by
  obtain ⟨h0, r, h1, h2⟩ := h
  exact frozen_of_row wr P j _ _ h1
theorem UN.at {w wr : World} {P k : Nat} {ds : Dims} {T A F : List Int} (h : UN w wr P k ds T A F) {j : Nat} (hj : j < k) (h4 : j < 4) : ∃ a c, wr.cell? ⟨P, j, none⟩ = some (.slice a (uL ds T A F j).length c) ∧ IRow .i64 wr a (uL ds T A F j).length c (uL ds T A F j) := by
  obtain ⟨h0, r, h1, h2⟩ := h
  obtain ⟨a, c, e, hr, hn⟩ := h2 j hj
  refine ⟨a, c, ?_, hr⟩
  rw [← e]
  obtain ⟨c0, c1, c2, c3⟩ := box4 h1
  have : j = 0 ∨ j = 1 ∨ j = 2 ∨ j = 3 := by omega
  rcases this with rfl | rfl | rfl | rfl <;> assumption

set_option maxHeartbeats 16000000 in
set_option maxRecDepth 20000 in
theorem lfiber_any (a : Option Addr) (n c : Nat) (ds : Dims) (M t0 t1 t2 t3 x0 x1 x2 x3 f0 f1 f2 f3 : Int) (w : World) (hc : Cat w a n c ds) (hM : I64 M) (hT : ∀ x ∈ [t0, t1, t2, t3], U8 x) (hA : ∀ x ∈ [x0, x1, x2, x3], U8 x) (hF : ∀ x ∈ [f0, f1, f2, f3], U8 x) :
    Calls Try.prog 16 #[.agg #[.slice a n c, .int .i64 M], .agg #[.int .u8 t0, .int .u8 t1, .int .u8 t2, .int .u8 t3], .agg #[.int .u8 x0, .int .u8 x1, .int .u8 x2, .int .u8 x3], .agg #[.int .u8 f0, .int .u8 f1, .int .u8 f2, .int .u8 f3]] w
      fun e w' => FTold (fib ds M t0 t1 t2 t3 x0 x1 x2 x3 f0 f1 f2 f3) e w' ∧ Below w.heap.size w w' := by
  obtain ⟨e1, e2⟩ := hc.lens
  have E1 : Hid (n = ds.length) := e1
  have HC : Hid (Cat w a n c ds) := hc
  have HM : Hid (I64 M) := hM
  have HF : Hid (∀ x ∈ [f0, f1, f2, f3], U8 x) := hF
  have HT : Hid (∀ x ∈ [t0, t1, t2, t3], U8 x) := hT
  have HA : Hid (∀ x ∈ [x0, x1, x2, x3], U8 x) := hA
  have TX : Hid (F4 w _ (.slice a n c) (.int .i64 M) _ _ _) := f4_new w (.slice a n c) (.int .i64 M) t0 t1 t2 t3 x0 x1 x2 x3 f0 f1 f2 f3
  clear e1 hc hM hF hT hA
  cases hr : rightC ds M [t0, t1, t2, t3] [x0, x1, x2, x3] with
  | false =>
    have HR := hid hr
    have HZ := hid (fib_1 (f0 := f0) (f1 := f1) (f2 := f2) (f3 := f3) hr)
    clear hr
    go_enter Try.func16, Try.ntmps16
    go_wp2_with (go_at_call 28; refine (sright_m _ _ _ _ _ _ _ _ _ _ _ _ _ _ _ (HC.out.below TX.out.1) HM.out HT.out HA.out HR).mono ?_; rintro e w1 ⟨rfl, hb⟩)
    go_ret
    exact ⟨ftold_nil _ HZ.out, bt TX.out.1 hb⟩
  | true =>
    have HR := hid hr
    cases hl : bel f0 f1 f2 f3 t0 t1 t2 t3 with
    | false =>
      have HL := hid hl
      have HZ := hid (fib_2 (ds := ds) (M := M) (x0 := x0) (x1 := x1) (x2 := x2) (x3 := x3) hl)
      clear hr hl
      go_enter Try.func16, Try.ntmps16
      go_wp2_with (first
        | (go_at_call 28; refine (sright_m _ _ _ _ _ _ _ _ _ _ _ _ _ _ _ (HC.out.below TX.out.1) HM.out HT.out HA.out HR).mono ?_; rintro e w1 ⟨rfl, hb⟩; have TX1 := TX.out.step hb; obtain ⟨b0, ⟨b1, b2, b3, b4⟩, b5, ⟨b6, b7, b8, b9⟩⟩ := TX1.all; have TX1 := hid TX1)
        | (go_at_call 30; refine (below_m _ _ _ _ _ _ _ _ _ _ HL).mono ?_; rintro e w2 ⟨rfl, hb2⟩))
      go_ret
      exact ⟨ftold_nil _ HZ.out, bt TX1.out.1 hb2⟩
    | true =>
      have HL := hid hl
      have hgp := goodC_p (rightC_is hr).1
      rw [← E1.out] at hgp
      obtain ⟨n1, n4', _, _, _⟩ := hgp
      have HZ3 : Hid (5000 < (fibs ds [t0, t1, t2, t3] [x0, x1, x2, x3] [f0, f1, f2, f3] n).length → fib ds M t0 t1 t2 t3 x0 x1 x2 x3 f0 f1 f2 f3 = []) := hid (by rw [E1.out]; exact fib_3)
      have HZ0 : Hid ((fibs ds [t0, t1, t2, t3] [x0, x1, x2, x3] [f0, f1, f2, f3] n).length = 0 → fib ds M t0 t1 t2 t3 x0 x1 x2 x3 f0 f1 f2 f3 = []) := hid (by rw [E1.out]; exact fib_0)
      have HZ4 : Hid ((fibs ds [t0, t1, t2, t3] [x0, x1, x2, x3] [f0, f1, f2, f3] n).length ≤ 5000 → fib ds M t0 t1 t2 t3 x0 x1 x2 x3 f0 f1 f2 f3 = fibs ds [t0, t1, t2, t3] [x0, x1, x2, x3] [f0, f1, f2, f3] n) := hid (by rw [E1.out]; exact fib_4 hr hl)
      clear hr hl
      go_enter Try.func16, Try.ntmps16
      go_wp2_with (first
        | (go_at_call 28; refine (sright_m _ _ _ _ _ _ _ _ _ _ _ _ _ _ _ (HC.out.below TX.out.1) HM.out HT.out HA.out HR).mono ?_; rintro e w1 ⟨rfl, hb⟩; have TX1 := TX.out.step hb; obtain ⟨b0, ⟨b1, b2, b3, b4⟩, b5, ⟨b6, b7, b8, b9⟩⟩ := TX1.all; have TX1 := hid TX1)
        | (go_at_call 30; refine (below_m _ _ _ _ _ _ _ _ _ _ HL).mono ?_; rintro e w2 ⟨rfl, hb2⟩; have TX2 := TX1.out.step hb2; obtain ⟨g0, g1⟩ := box_two TX2.2.1; have hz2 := heap_lt TX2.2.1; have TX2 := hid TX2))
      have UN0 : Hid (UN w (w2.alloc (.cells #[.slice none 0 0, .slice none 0 0, .slice none 0 0, .slice none 0 0] 71)) w2.heap.size 0 ds [t0, t1, t2, t3] [x0, x1, x2, x3] [f0, f1, f2, f3]) :=
        hid ⟨heap_lt TX2.out.2.2.2.2, fun _ => .slice none 0 0, heap_alloc_new _ _, fun j hj => by omega⟩
      have TX3 := hid (TX2.out.step ((Below.refl _ _).alloc (Nat.le_refl _) (.cells #[.slice none 0 0, .slice none 0 0, .slice none 0 0, .slice none 0 0] 71)))
      obtain ⟨F, hFe⟩ : ∃ F, [f0, f1, f2, f3] = F := ⟨_, rfl⟩
      obtain ⟨T, hTe⟩ : ∃ T, [t0, t1, t2, t3] = T := ⟨_, rfl⟩
      obtain ⟨A, hAe⟩ : ∃ A, [x0, x1, x2, x3] = A := ⟨_, rfl⟩
      rw [hFe, hTe, hAe] at TX3 UN0 HZ3 HZ0 HZ4
      rw [hFe] at HF
      rw [hTe] at HT
      rw [hAe] at HA
      generalize hPP : w2.heap.size = P at UN0 ⊢
      clear TX TX1 TX2 HR HL hFe hTe hAe hPP hb hb2 b0 b1 b2 b3 b4 b5 b6 b7 b8 b9 g0 g1 hz2
      go_loopw [10, 28] (fun p i wr => ∃ k q : Nat, k ≤ n ∧ i = .int .i64 k ∧ p = .int .i64 q ∧ Hid ((fibs ds T A F k).length = q) ∧ Hid (F4 w wr (.slice a n c) (.int .i64 M) (fun j => T.getD j 0) (fun j => A.getD j 0) (fun j => F.getD j 0)) ∧ Hid (UN w wr P k ds T A F)) (fun _ i _ => n - (intOf i).toNat)
      case atStart => exact ⟨0, 1, by omega, rfl, rfl, hid rfl, TX3, UN0⟩
      case round =>
        obtain ⟨k, q, hk, rfl, rfl, HQ, TX5, UN5⟩ := hrel
        have hsz := heap_lt TX5.out.2.2.2.2
        have bel2 := TX5.out.1
        obtain ⟨c0, c1⟩ := (box_two TX5.out.2.1)
        have hqb : q ≤ 2560000 := by have h1 := fibs_le ds T A F k; have h2 := npow40 (k := k) (by omega); have h3 := HQ.out; omega
        by_cases hlt : k < n
        · have hkn : (k : Int) < (n : Int) := by omega
          have hk4 : (k : Int) < 4 := by omega
          have hk4' : k < 4 := by omega
          obtain ⟨b, off, rfl, hb0, sa, sl, sc, ua, ul, uc, S, U, d1, d2, HDm, HSU⟩ := HC.out.get bel2 hlt
          have g1 := u8_at HF.out k
          have g2 := u8_at HT.out k
          have g3 := u8_at HA.out k
          have TQ0 : Hid (FQ w b (.slice (some ⟨b, off, none⟩) n c) (.int .i64 M) (fun j => T.getD j 0) (fun j => A.getD j 0) (fun j => F.getD j 0) (off + k * 2) (.slice sa sl sc) (.slice ua ul uc) wr) := hid ⟨TX5.out, d1, d2, hb0⟩
          have FK : Hid (∀ x, FQ w b (.slice (some ⟨b, off, none⟩) n c) (.int .i64 M) (fun j => T.getD j 0) (fun j => A.getD j 0) (fun j => F.getD j 0) (off + k * 2) (.slice sa sl sc) (.slice ua ul uc) x → x.cell? ⟨w.heap.size + 1, k, none⟩ = some (.int .u8 (T.getD k 0)) ∧ x.cell? ⟨w.heap.size + 2, k, none⟩ = some (.int .u8 (A.getD k 0)) ∧ x.cell? ⟨w.heap.size + 3, k, none⟩ = some (.int .u8 (F.getD k 0))) :=
            hid fun x h => ⟨n4_at h.1.2.2.1 hk4', n4_at h.1.2.2.2.1 hk4', n4_at h.1.2.2.2.2 hk4'⟩
          have TW := hid UN5.out.1
          have eu := uL_at (T := T) (A := A) (F := F) HSU.out
          have hul := uL_len ds T A F k
          have HFL := hid (fibs_len ds T A F k)
          obtain ⟨R, hR⟩ : ∃ R, uL ds T A F k = R := ⟨_, rfl⟩
          obtain ⟨rl, hrl⟩ : ∃ rl, R.length = rl := ⟨_, rfl⟩
          obtain ⟨vf, hvf⟩ : ∃ v, F.getD k 0 = v := ⟨_, rfl⟩
          obtain ⟨vt, hvt⟩ : ∃ v, T.getD k 0 = v := ⟨_, rfl⟩
          obtain ⟨va, hva⟩ : ∃ v, A.getD k 0 = v := ⟨_, rfl⟩
          rw [hR, hrl] at hul
          rw [hR, hrl, HQ.out] at HFL
          rw [hR, hvf, hvt, hva] at eu
          rw [hvf, hvt, hva] at FK
          rw [hvf] at g1
          rw [hvt] at g2
          rw [hva] at g3
          have HUL : Hid (under S U vt va vf = R ∧ R.length = rl) := hid ⟨eu.symm, hrl⟩
          have HRR := hid hR
          have HRL := hid hrl
          obtain ⟨Z, hZ⟩ : ∃ Z : Nat, q * rl = Z := ⟨_, rfl⟩
          have hZb : q * rl ≤ 2560000 * 40 := Nat.mul_le_mul hqb hul
          have hZi : (q : Int) * (rl : Int) = (Z : Int) := by rw [← hZ, Int.natCast_mul]
          rw [hZ] at hZb HFL
          have wZ : IntKind.i64.wrap (Z : Int) = Z := IntWalk.i64_in _ (by omega)
          have JF : Hid (I64 vf) := by show I64 vf; unfold I64; omega
          have JT : Hid (I64 vt) := by show I64 vt; unfold I64; omega
          have JA : Hid (I64 va) := by show I64 va; unfold I64; omega
          have wf : IntKind.i64.wrap vf = vf := IntWalk.i64_in _ (by omega)
          have wt : IntKind.i64.wrap vt = vt := IntWalk.i64_in _ (by omega)
          have wa : IntKind.i64.wrap va = va := IntWalk.i64_in _ (by omega)
          clear hvf hvt hva hR eu hrl hZ
          have KS : Hid (∀ x', FQ w b (.slice (some ⟨b, off, none⟩) n c) (.int .i64 M) (fun j => T.getD j 0) (fun j => A.getD j 0) (fun j => F.getD j 0) (off + k * 2) (.slice sa sl sc) (.slice ua ul uc) x' → FQ w b (.slice (some ⟨b, off, none⟩) n c) (.int .i64 M) (fun j => T.getD j 0) (fun j => A.getD j 0) (fun j => F.getD j 0) (off + k * 2) (.slice sa sl sc) (.slice ua ul uc) x' ∧ x'.cell? ⟨w.heap.size, 0, none⟩ = some (.slice (some ⟨b, off, none⟩) n c) ∧ x'.cell? ⟨b, off + k * 2, none⟩ = some (.slice sa sl sc) ∧ x'.cell? ⟨b, off + k * 2 + 1, none⟩ = some (.slice ua ul uc) ∧ x'.cell? ⟨w.heap.size + 1, k, none⟩ = some (.int .u8 vt) ∧ x'.cell? ⟨w.heap.size + 2, k, none⟩ = some (.int .u8 va) ∧ x'.cell? ⟨w.heap.size + 3, k, none⟩ = some (.int .u8 vf)) :=
            hid fun x' h => ⟨h, (box_two h.1.2.1).1, h.2.1, h.2.2.1, (FK.out _ h).1, (FK.out _ h).2.1, (FK.out _ h).2.2⟩
          go_wp2
          go_region_held3 (fun x' => FQ w b (.slice (some ⟨b, off, none⟩) n c) (.int .i64 M) (fun j => T.getD j 0) (fun j => A.getD j 0) (fun j => F.getD j 0) (off + k * 2) (.slice sa sl sc) (.slice ua ul uc) x' ∧ x'.cell? ⟨w.heap.size, 0, none⟩ = some (.slice (some ⟨b, off, none⟩) n c) ∧ x'.cell? ⟨b, off + k * 2, none⟩ = some (.slice sa sl sc) ∧ x'.cell? ⟨b, off + k * 2 + 1, none⟩ = some (.slice ua ul uc) ∧ x'.cell? ⟨w.heap.size + 1, k, none⟩ = some (.int .u8 vt) ∧ x'.cell? ⟨w.heap.size + 2, k, none⟩ = some (.int .u8 va) ∧ x'.cell? ⟨w.heap.size + 3, k, none⟩ = some (.int .u8 vf))
            (first | assumption | exact kq_drew TQ0 fq_step KS | exact kq_step (by assumption) (by assumption) fq_step KS | exact kq_set (by assumption) (fq_set TW.out) KS)
            (first
              | (go_at_call 35; refine (under_nm _ _ _ _ _ _ S U _ _ _ R rl _ (HDm.out.below ((Below.refl _ _).drew)) JT.out JA.out JF.out HUL).mono ?_; rintro e w5 ⟨ra, rc, rfl, hrow, hnew, hb5⟩; have TX6 := hid (TX5.out.step (undrew hb5)); have UN6 := hid (UN5.out.step (undrew hb5)); have HROW := hid hrow; have HNEW := hid hnew; clear hrow hnew; obtain ⟨qv, q4⟩ := UN6.out.cell hk4'; have f4 := UN6.out.froz k))
          clear KS FK TQ0
          have hz := heap_lt UN5.out.2.choose_spec.1
          have UN7 : UN w (w5.setCell ⟨P, k, none⟩ (.slice ra rl rc)) P (k + 1) ds T A F := UN6.out.put hk4' (by rw [HRR.out]; exact HROW.out) (by rw [HRR.out]; exact HRL.out) (fun b off e => Nat.lt_of_lt_of_le hz (HNEW.out b off e))
          have TX7 : F4 w (w5.setCell ⟨P, k, none⟩ (.slice ra rl rc)) (.slice (some ⟨b, off, none⟩) n c) (.int .i64 M) (fun j => T.getD j 0) (fun j => A.getD j 0) (fun j => F.getD j 0) := TX6.out.set TW.out _
          have h8 := UN7.at (j := k) (by omega) hk4'
          rw [HRR.out, HRL.out] at h8
          obtain ⟨ra8, rc8, h8, _⟩ := h8
          generalize (w5.setCell ⟨P, k, none⟩ (.slice ra rl rc)) = W7 at UN7 TX7 h8 ⊢
          have UN7 := hid UN7
          have TX7 := hid TX7
          go_wp2
          go_roundw
          case rel => exact ⟨k + 1, Z, by omega, by go_num, rfl, HFL, TX7, UN7⟩
          case measure => simp [intOf]; omega
        · obtain rfl : k = n := by omega
          by_cases hq0 : q = 0
          · have hqt : ((q : Int) == 0) = true := by simp [hq0]
            have HZ := hid (HZ0.out (by rw [HQ.out]; exact hq0))
            clear hq0
            go_wp2
            go_ret
            exact ⟨ftold_nil _ HZ.out, bel2⟩
          · have hqt : ((q : Int) == 0) = false := by simp [hq0]
            by_cases hq5 : 5000 < q
            · have hq5t : decide ((5000 : Int) < (q : Int)) = true := decide_eq_true (by omega)
              have HZ := hid (HZ3.out (by rw [HQ.out]; exact hq5))
              go_wp2
              go_ret
              exact ⟨ftold_nil _ HZ.out, bel2⟩
            · have hq5t : decide ((5000 : Int) < (q : Int)) = false := decide_eq_false (by omega)
              have HZ := hid (HZ4.out (by rw [HQ.out]; omega))
              have HQ5 : Hid (0 < (fibs ds T A F k).length ∧ (fibs ds T A F k).length ≤ 5000) := hid (by rw [HQ.out]; omega)
              have hzz : w.heap.size < wr.heap.size := heap_lt TX5.out.2.1
              go_wp2
              have HN0 := hid (nrow_one wr 0 0 0 0 27)
              have HB0 : Hid (Below wr.heap.size wr (wr.alloc (.cells #[.int .u8 0, .int .u8 0, .int .u8 0, .int .u8 0] 27))) := hid ((Below.refl _ _).alloc (Nat.le_refl _) _)
              have TX8 := hid (TX5.out.step HB0.out)
              have UN8 := hid (UN5.out.step HB0.out)
              clear hq0 hq5 hqt hq5t c0 c1
              go_loopw [12, 69] (fun v i wq => ∃ (j : Nat) (a2 : Option Addr) (n2 c2 : Nat), j ≤ k ∧ i = .int .i64 j ∧ v = .slice a2 n2 c2 ∧ Hid (NRow wq a2 n2 c2 (fibs ds T A F j)) ∧ Hid (F4 w wq (.slice a k c) (.int .i64 M) (fun j => T.getD j 0) (fun j => A.getD j 0) (fun j => F.getD j 0)) ∧ Hid (UN w wq P k ds T A F)) (fun _ i _ => k - (intOf i).toNat)
              case atStart => exact ⟨0, _, _, _, by omega, rfl, rfl, HN0, TX8, UN8⟩
              case round =>
                obtain ⟨j, a2, n2, c2, hj, rfl, rfl, HN, TX9, UN9⟩ := hrel
                by_cases hjk : j < k
                · have hjki : (j : Int) < (k : Int) := by omega
                  have hj4 : (j : Int) < 4 := by omega
                  obtain ⟨ra, rc, h9, hr9⟩ := UN9.out.at hjk (by omega)
                  have HR9 := hid hr9
                  have hmn := (fibs_mono (k := j + 1) (n := k) (ds := ds) (T := T) (A := A) (F := F) (by omega) HQ5.out.1).1
                  rw [fibs_len, ← HN.out.1] at hmn
                  have HMN : Hid (n2 * (uL ds T A F j).length ≤ 200000) := hid (by have := HQ5.out.2; omega)
                  have HBD : Hid (∀ x ∈ uL ds T A F j, 0 ≤ x ∧ x ≤ 255) := hid fun x hx => by have := uL_bd hx; omega
                  obtain ⟨R, hR⟩ : ∃ R, uL ds T A F j = R := ⟨_, rfl⟩
                  obtain ⟨rl, hrl⟩ : ∃ rl, R.length = rl := ⟨_, rfl⟩
                  rw [hR, hrl] at h9 HR9 HMN
                  rw [hR] at HBD
                  have HRR := hid hR
                  clear hmn hr9 hR hrl
                  have hj4' : j < 4 := by omega
                  go_wp2_with (go_at_call 36; refine (widen_m _ _ _ _ _ _ _ _ _ _ HN.out HR9.out hj4' HBD.out HMN.out).mono ?_; rintro e w8 ⟨⟨a8, n8, c8, rfl, hn8⟩, hb8⟩; have HN8 := hid hn8; clear hn8)
                  go_roundw
                  case rel =>
                    refine ⟨j + 1, a8, n8, c8, by omega, by go_num, rfl, hid ?_, hid (TX9.out.step hb8), hid (UN9.out.step hb8)⟩
                    have := HN8.out
                    rw [← HRR.out] at this
                    exact this
                  case measure => simp [intOf]; omega
                · obtain rfl : j = k := by omega
                  go_wp2
                  go_ret
                  exact ⟨⟨a2, n2, c2, rfl, by rw [HZ.out]; exact HN.out⟩, TX9.out.1⟩

end Go.Proofs.Ytfgphphaopcolaa

/-
  What is less is less, turned into a number without a sign; places stand by their first byte that is unlike: the walk of the law CodeOrder.
  Conditions: as each theorem states them.
-/
import Derived.Test.YteilfoefjemjoaaI
import Derived.Deep.RegionHeld3
namespace Go.Proofs.Yteilfoefjemjoaa
open Go.ChangeShapes Go.WideShapes Go.ChangeAt Go.RowKit
set_option linter.unusedVariables false
set_option linter.unusedSimpArgs false

theorem open_two {H : Type} {enc : TypeId × Value → H} {W : World} {base b0 : Nat} {spare : Nat → Bool} {held : Bool} {r : Reach} {x : Value} {dt : DataW H} {p : List MemPlace}
    (hv : Value.okWide Try.prog W r b0 34 x) (h : DataW.Trod enc Try.prog W base spare held 34 x dt p) :
    ∃ a0 a1 a2 a3 c0 c1 c2 c3 : Int, x = .agg #[.int .u8 a0, .int .u8 a1, .int .u8 a2, .int .u8 a3, .int .u8 c0, .int .u8 c1, .int .u8 c2, .int .u8 c3] ∧ U8 a0 ∧ U8 a1 ∧ U8 a2 ∧ U8 a3 ∧ U8 c0 ∧ U8 c1 ∧ U8 c2 ∧ U8 c3 := by
  have hC : Try.prog.cellsOf 34 = 8 := by kernel_rfl
  have hC2 : Try.prog.cellsOf 25 = 4 := by kernel_rfl
  obtain ⟨cs, rfl, hsz⟩ := okWide_array Try.underlying34 hv
  rw [hC] at hsz
  obtain ⟨fuel, hf⟩ := h
  obtain ⟨ys, m, _, hx, _, hl, hg⟩ := DataW.trod_array Try.underlying34 hf
  obtain ⟨e0, e1, e2, e3, e4, e5, e6, e7, rfl⟩ : ∃ e0 e1 e2 e3 e4 e5 e6 e7, cs = #[e0, e1, e2, e3, e4, e5, e6, e7] := by
    obtain ⟨l⟩ := cs
    match l, hsz with
    | [e0, e1, e2, e3, e4, e5, e6, e7], _ => exact ⟨_, _, _, _, _, _, _, _, rfl⟩
  have g0 := hg 0 (by decide); have g1 := hg 1 (by decide)
  rw [hC2] at g0 g1
  match ys, hl with
  | [y0, y1], _ =>
    simp [Value.cells] at g0 g1
    obtain ⟨a0, a1, a2, a3, rfl, rfl, rfl, rfl, h0, h1, h2, h3⟩ := open_place g0
    obtain ⟨c0, c1, c2, c3, rfl, rfl, rfl, rfl, h4, h5, h6, h7⟩ := open_place g1
    exact ⟨a0, a1, a2, a3, c0, c1, c2, c3, rfl, h0, h1, h2, h3, h4, h5, h6, h7⟩

theorem start8 (w : World) (a0 a1 a2 a3 c0 c1 c2 c3 : Int) : w.heap.size < (w.alloc (.cells #[.int .u8 a0, .int .u8 a1, .int .u8 a2, .int .u8 a3, .int .u8 c0, .int .u8 c1, .int .u8 c2, .int .u8 c3] 34)).heap.size ∧ Below w.heap.size w (w.alloc (.cells #[.int .u8 a0, .int .u8 a1, .int .u8 a2, .int .u8 a3, .int .u8 c0, .int .u8 c1, .int .u8 c2, .int .u8 c3] 34)) ∧ (w.alloc (.cells #[.int .u8 a0, .int .u8 a1, .int .u8 a2, .int .u8 a3, .int .u8 c0, .int .u8 c1, .int .u8 c2, .int .u8 c3] 34)).cell? ⟨w.heap.size, 0, none⟩ = some (.int .u8 a0) ∧ (w.alloc (.cells #[.int .u8 a0, .int .u8 a1, .int .u8 a2, .int .u8 a3, .int .u8 c0, .int .u8 c1, .int .u8 c2, .int .u8 c3] 34)).cell? ⟨w.heap.size, 1, none⟩ = some (.int .u8 a1) ∧ (w.alloc (.cells #[.int .u8 a0, .int .u8 a1, .int .u8 a2, .int .u8 a3, .int .u8 c0, .int .u8 c1, .int .u8 c2, .int .u8 c3] 34)).cell? ⟨w.heap.size, 2, none⟩ = some (.int .u8 a2) ∧ (w.alloc (.cells #[.int .u8 a0, .int .u8 a1, .int .u8 a2, .int .u8 a3, .int .u8 c0, .int .u8 c1, .int .u8 c2, .int .u8 c3] 34)).cell? ⟨w.heap.size, 3, none⟩ = some (.int .u8 a3) ∧ (w.alloc (.cells #[.int .u8 a0, .int .u8 a1, .int .u8 a2, .int .u8 a3, .int .u8 c0, .int .u8 c1, .int .u8 c2, .int .u8 c3] 34)).cell? ⟨w.heap.size, 4, none⟩ = some (.int .u8 c0) ∧ (w.alloc (.cells #[.int .u8 a0, .int .u8 a1, .int .u8 a2, .int .u8 a3, .int .u8 c0, .int .u8 c1, .int .u8 c2, .int .u8 c3] 34)).cell? ⟨w.heap.size, 5, none⟩ = some (.int .u8 c1) ∧ (w.alloc (.cells #[.int .u8 a0, .int .u8 a1, .int .u8 a2, .int .u8 a3, .int .u8 c0, .int .u8 c1, .int .u8 c2, .int .u8 c3] 34)).cell? ⟨w.heap.size, 6, none⟩ = some (.int .u8 c2) ∧ (w.alloc (.cells #[.int .u8 a0, .int .u8 a1, .int .u8 a2, .int .u8 a3, .int .u8 c0, .int .u8 c1, .int .u8 c2, .int .u8 c3] 34)).cell? ⟨w.heap.size, 7, none⟩ = some (.int .u8 c3) := by
  refine ⟨by simp, (Below.refl _ _).alloc (Nat.le_refl _) _, ?_, ?_, ?_, ?_, ?_, ?_, ?_, ?_⟩ <;> simp [go_sem]
theorem keep8 {w W w' : World} {a0 a1 a2 a3 c0 c1 c2 c3 : Int} (hb : Below W.heap.size W w') (h : w.heap.size < W.heap.size ∧ Below w.heap.size w W ∧ W.cell? ⟨w.heap.size, 0, none⟩ = some (.int .u8 a0) ∧ W.cell? ⟨w.heap.size, 1, none⟩ = some (.int .u8 a1) ∧ W.cell? ⟨w.heap.size, 2, none⟩ = some (.int .u8 a2) ∧ W.cell? ⟨w.heap.size, 3, none⟩ = some (.int .u8 a3) ∧ W.cell? ⟨w.heap.size, 4, none⟩ = some (.int .u8 c0) ∧ W.cell? ⟨w.heap.size, 5, none⟩ = some (.int .u8 c1) ∧ W.cell? ⟨w.heap.size, 6, none⟩ = some (.int .u8 c2) ∧ W.cell? ⟨w.heap.size, 7, none⟩ = some (.int .u8 c3)) : w.heap.size < w'.heap.size ∧ Below w.heap.size w w' ∧ w'.cell? ⟨w.heap.size, 0, none⟩ = some (.int .u8 a0) ∧ w'.cell? ⟨w.heap.size, 1, none⟩ = some (.int .u8 a1) ∧ w'.cell? ⟨w.heap.size, 2, none⟩ = some (.int .u8 a2) ∧ w'.cell? ⟨w.heap.size, 3, none⟩ = some (.int .u8 a3) ∧ w'.cell? ⟨w.heap.size, 4, none⟩ = some (.int .u8 c0) ∧ w'.cell? ⟨w.heap.size, 5, none⟩ = some (.int .u8 c1) ∧ w'.cell? ⟨w.heap.size, 6, none⟩ = some (.int .u8 c2) ∧ w'.cell? ⟨w.heap.size, 7, none⟩ = some (.int .u8 c3) := by
  obtain ⟨h0, h1, h2, h3, h4, h5, h6, h7, h8, h9⟩ := h
  obtain ⟨hc, hf⟩ := bcell hb
  exact ⟨Nat.lt_of_lt_of_le h0 hb.size, bt h1 hb, (hc _ _ h0).trans h2, (hc _ _ h0).trans h3, (hc _ _ h0).trans h4, (hc _ _ h0).trans h5, (hc _ _ h0).trans h6, (hc _ _ h0).trans h7, (hc _ _ h0).trans h8, (hc _ _ h0).trans h9⟩
theorem drew8 {w W : World} {a0 a1 a2 a3 c0 c1 c2 c3 : Int} (h : w.heap.size < W.heap.size ∧ Below w.heap.size w W ∧ W.cell? ⟨w.heap.size, 0, none⟩ = some (.int .u8 a0) ∧ W.cell? ⟨w.heap.size, 1, none⟩ = some (.int .u8 a1) ∧ W.cell? ⟨w.heap.size, 2, none⟩ = some (.int .u8 a2) ∧ W.cell? ⟨w.heap.size, 3, none⟩ = some (.int .u8 a3) ∧ W.cell? ⟨w.heap.size, 4, none⟩ = some (.int .u8 c0) ∧ W.cell? ⟨w.heap.size, 5, none⟩ = some (.int .u8 c1) ∧ W.cell? ⟨w.heap.size, 6, none⟩ = some (.int .u8 c2) ∧ W.cell? ⟨w.heap.size, 7, none⟩ = some (.int .u8 c3)) : w.heap.size < W.drew.heap.size ∧ Below w.heap.size w W.drew ∧ W.drew.cell? ⟨w.heap.size, 0, none⟩ = some (.int .u8 a0) ∧ W.drew.cell? ⟨w.heap.size, 1, none⟩ = some (.int .u8 a1) ∧ W.drew.cell? ⟨w.heap.size, 2, none⟩ = some (.int .u8 a2) ∧ W.drew.cell? ⟨w.heap.size, 3, none⟩ = some (.int .u8 a3) ∧ W.drew.cell? ⟨w.heap.size, 4, none⟩ = some (.int .u8 c0) ∧ W.drew.cell? ⟨w.heap.size, 5, none⟩ = some (.int .u8 c1) ∧ W.drew.cell? ⟨w.heap.size, 6, none⟩ = some (.int .u8 c2) ∧ W.drew.cell? ⟨w.heap.size, 7, none⟩ = some (.int .u8 c3) := by
  obtain ⟨h0, h1, h2, h3, h4, h5, h6, h7, h8, h9⟩ := h
  exact ⟨h0, h1.drew, h2, h3, h4, h5, h6, h7, h8, h9⟩
theorem fin8 {w w' : World} {a0 a1 a2 a3 c0 c1 c2 c3 : Int} (h : w.heap.size < w'.heap.size ∧ Below w.heap.size w w' ∧ w'.cell? ⟨w.heap.size, 0, none⟩ = some (.int .u8 a0) ∧ w'.cell? ⟨w.heap.size, 1, none⟩ = some (.int .u8 a1) ∧ w'.cell? ⟨w.heap.size, 2, none⟩ = some (.int .u8 a2) ∧ w'.cell? ⟨w.heap.size, 3, none⟩ = some (.int .u8 a3) ∧ w'.cell? ⟨w.heap.size, 4, none⟩ = some (.int .u8 c0) ∧ w'.cell? ⟨w.heap.size, 5, none⟩ = some (.int .u8 c1) ∧ w'.cell? ⟨w.heap.size, 6, none⟩ = some (.int .u8 c2) ∧ w'.cell? ⟨w.heap.size, 7, none⟩ = some (.int .u8 c3)) : Below w.heap.size w w' := h.2.1

theorem less0 {a0 a1 a2 a3 c0 c1 c2 c3 X Y : Int} (ha : U8 a0 ∧ U8 a1 ∧ U8 a2 ∧ U8 a3) (hc : U8 c0 ∧ U8 c1 ∧ U8 c2 ∧ U8 c3) (hX : key a0 a1 a2 a3 = X) (hY : key c0 c1 c2 c3 = Y) (n : ¬ a0 = c0) : decide (a0 < c0) = decide (X < Y) := by
  rw [← hX, ← hY]; unfold key; unfold U8 at ha hc
  rw [decide_eq_decide]
  omega
theorem less1 {a0 a1 a2 a3 c0 c1 c2 c3 X Y : Int} (ha : U8 a0 ∧ U8 a1 ∧ U8 a2 ∧ U8 a3) (hc : U8 c0 ∧ U8 c1 ∧ U8 c2 ∧ U8 c3) (hX : key a0 a1 a2 a3 = X) (hY : key c0 c1 c2 c3 = Y) (e0 : a0 = c0) (n : ¬ a1 = c1) : decide (a1 < c1) = decide (X < Y) := by
  rw [← hX, ← hY]; unfold key; unfold U8 at ha hc
  rw [decide_eq_decide]
  omega
theorem less2 {a0 a1 a2 a3 c0 c1 c2 c3 X Y : Int} (ha : U8 a0 ∧ U8 a1 ∧ U8 a2 ∧ U8 a3) (hc : U8 c0 ∧ U8 c1 ∧ U8 c2 ∧ U8 c3) (hX : key a0 a1 a2 a3 = X) (hY : key c0 c1 c2 c3 = Y) (e0 : a0 = c0) (e1 : a1 = c1) (n : ¬ a2 = c2) : decide (a2 < c2) = decide (X < Y) := by
  rw [← hX, ← hY]; unfold key; unfold U8 at ha hc
  rw [decide_eq_decide]
  omega
theorem less3 {a0 a1 a2 a3 c0 c1 c2 c3 X Y : Int} (ha : U8 a0 ∧ U8 a1 ∧ U8 a2 ∧ U8 a3) (hc : U8 c0 ∧ U8 c1 ∧ U8 c2 ∧ U8 c3) (hX : key a0 a1 a2 a3 = X) (hY : key c0 c1 c2 c3 = Y) (e0 : a0 = c0) (e1 : a1 = c1) (e2 : a2 = c2) (n : ¬ a3 = c3) : decide (a3 < c3) = decide (X < Y) := by
  rw [← hX, ← hY]; unfold key; unfold U8 at ha hc
  rw [decide_eq_decide]
  omega
theorem less4 {a0 a1 a2 a3 c0 c1 c2 c3 X Y : Int} (hX : key a0 a1 a2 a3 = X) (hY : key c0 c1 c2 c3 = Y) (e0 : a0 = c0) (e1 : a1 = c1) (e2 : a2 = c2) (e3 : a3 = c3) : X = Y := by
  rw [← hX, ← hY, e0, e1, e2, e3]

set_option maxHeartbeats 8000000 in
theorem order_walk (a b a0 a1 a2 a3 c0 c1 c2 c3 : Int) (w : World) (ha : I64 a) (hb : I64 b) (h0 : U8 a0) (h1 : U8 a1) (h2 : U8 a2) (h3 : U8 a3) (h4 : U8 c0) (h5 : U8 c1) (h6 : U8 c2) (h7 : U8 c3) :
    Calls Try.prog 4 #[.int .i64 a, .int .i64 b, .agg #[.int .u8 a0, .int .u8 a1, .int .u8 a2, .int .u8 a3, .int .u8 c0, .int .u8 c1, .int .u8 c2, .int .u8 c3]] w fun e w' => e = .returned (.bool true) ∧ Below w.heap.size w w' := by
  obtain ⟨X, hX⟩ : ∃ X, key a0 a1 a2 a3 = X := ⟨_, rfl⟩
  obtain ⟨Y, hY⟩ : ∃ Y, key c0 c1 c2 c3 = Y := ⟨_, rfl⟩
  obtain ⟨F, hF⟩ : ∃ F, flip a = F := ⟨_, rfl⟩
  obtain ⟨G, hG⟩ : ∃ G, flip b = G := ⟨_, rfl⟩
  have hFG : Hid (F < G ↔ a < b) := by show F < G ↔ a < b; rw [← hF, ← hG]; unfold flip; omega
  go_enter Try.func4, Try.ntmps4
  go_wp2
  go_loopw [7, 8, 9] (fun l dn i wr => ((l = .bool false ∧ dn = .bool false ∧ i = .int .i64 0) ∨ (a0 = c0 ∧ l = .bool false ∧ dn = .bool false ∧ i = .int .i64 1) ∨ (a0 = c0 ∧ a1 = c1 ∧ l = .bool false ∧ dn = .bool false ∧ i = .int .i64 2) ∨
      (a0 = c0 ∧ a1 = c1 ∧ a2 = c2 ∧ l = .bool false ∧ dn = .bool false ∧ i = .int .i64 3) ∨ (X = Y ∧ l = .bool false ∧ dn = .bool false ∧ i = .int .i64 4) ∨ (l = .bool (decide (X < Y)) ∧ dn = .bool true ∧ ∃ k : Nat, k ≤ 4 ∧ i = .int .i64 k)) ∧ w.heap.size < wr.heap.size ∧ Below w.heap.size w wr ∧ wr.cell? ⟨w.heap.size, 0, none⟩ = some (.int .u8 a0) ∧ wr.cell? ⟨w.heap.size, 1, none⟩ = some (.int .u8 a1) ∧ wr.cell? ⟨w.heap.size, 2, none⟩ = some (.int .u8 a2) ∧ wr.cell? ⟨w.heap.size, 3, none⟩ = some (.int .u8 a3) ∧ wr.cell? ⟨w.heap.size, 4, none⟩ = some (.int .u8 c0) ∧ wr.cell? ⟨w.heap.size, 5, none⟩ = some (.int .u8 c1) ∧ wr.cell? ⟨w.heap.size, 6, none⟩ = some (.int .u8 c2) ∧ wr.cell? ⟨w.heap.size, 7, none⟩ = some (.int .u8 c3))
    (fun _ dn i _ => match dn with | .bool true => 0 | _ => 5 - (intOf i).toNat)
  case atStart => exact ⟨.inl ⟨rfl, rfl, rfl⟩, start8 w a0 a1 a2 a3 c0 c1 c2 c3⟩
  case round =>
    have HX : Hid (key a0 a1 a2 a3 = X) := hX
    have HY : Hid (key c0 c1 c2 c3 = Y) := hY
    obtain ⟨hrel, n0, n1, n2, n3, n4, n5, n6, n7, n8, n9⟩ := hrel
    rcases hrel with ⟨rfl, rfl, rfl⟩ | ⟨q0, rfl, rfl, rfl⟩ | ⟨q0, q1, rfl, rfl, rfl⟩ | ⟨q0, q1, q2, rfl, rfl, rfl⟩ | ⟨q, rfl, rfl, rfl⟩ | ⟨rfl, rfl, k, hk, rfl⟩
    · by_cases e : a0 = c0
      · have t : (a0 != c0) = false := by simp [e]
        have E : Hid (a0 = c0) := e
        clear e
        go_wp2
        go_region_held3 (fun w' => w.heap.size < w'.heap.size ∧ Below w.heap.size w w' ∧ w'.cell? ⟨w.heap.size, 0, none⟩ = some (.int .u8 a0) ∧ w'.cell? ⟨w.heap.size, 1, none⟩ = some (.int .u8 a1) ∧ w'.cell? ⟨w.heap.size, 2, none⟩ = some (.int .u8 a2) ∧ w'.cell? ⟨w.heap.size, 3, none⟩ = some (.int .u8 a3) ∧ w'.cell? ⟨w.heap.size, 4, none⟩ = some (.int .u8 c0) ∧ w'.cell? ⟨w.heap.size, 5, none⟩ = some (.int .u8 c1) ∧ w'.cell? ⟨w.heap.size, 6, none⟩ = some (.int .u8 c2) ∧ w'.cell? ⟨w.heap.size, 7, none⟩ = some (.int .u8 c3))
          (first | exact drew8 (by assumption) | exact drew8 ⟨by assumption, by assumption, by assumption, by assumption, by assumption, by assumption, by assumption, by assumption, by assumption, by assumption⟩ | exact keep8 (by assumption) (by assumption))
          (fail)
        go_wp2
        go_roundw
        case rel => exact ⟨.inr (.inl ⟨E.out, rfl, rfl, rfl⟩), by assumption⟩
        case measure => simp [intOf]
      · have t : (a0 != c0) = true := by simp [e]
        have L : Hid (decide (a0 < c0) = decide (X < Y)) := less0 ⟨h0, h1, h2, h3⟩ ⟨h4, h5, h6, h7⟩ HX.out HY.out e
        clear e
        go_wp2
        go_region_held3 (fun w' => w.heap.size < w'.heap.size ∧ Below w.heap.size w w' ∧ w'.cell? ⟨w.heap.size, 0, none⟩ = some (.int .u8 a0) ∧ w'.cell? ⟨w.heap.size, 1, none⟩ = some (.int .u8 a1) ∧ w'.cell? ⟨w.heap.size, 2, none⟩ = some (.int .u8 a2) ∧ w'.cell? ⟨w.heap.size, 3, none⟩ = some (.int .u8 a3) ∧ w'.cell? ⟨w.heap.size, 4, none⟩ = some (.int .u8 c0) ∧ w'.cell? ⟨w.heap.size, 5, none⟩ = some (.int .u8 c1) ∧ w'.cell? ⟨w.heap.size, 6, none⟩ = some (.int .u8 c2) ∧ w'.cell? ⟨w.heap.size, 7, none⟩ = some (.int .u8 c3))
          (first | exact drew8 (by assumption) | exact drew8 ⟨by assumption, by assumption, by assumption, by assumption, by assumption, by assumption, by assumption, by assumption, by assumption, by assumption⟩ | exact keep8 (by assumption) (by assumption))
          (fail)
        go_wp2
        go_region_held3 (fun w' => w.heap.size < w'.heap.size ∧ Below w.heap.size w w' ∧ w'.cell? ⟨w.heap.size, 0, none⟩ = some (.int .u8 a0) ∧ w'.cell? ⟨w.heap.size, 1, none⟩ = some (.int .u8 a1) ∧ w'.cell? ⟨w.heap.size, 2, none⟩ = some (.int .u8 a2) ∧ w'.cell? ⟨w.heap.size, 3, none⟩ = some (.int .u8 a3) ∧ w'.cell? ⟨w.heap.size, 4, none⟩ = some (.int .u8 c0) ∧ w'.cell? ⟨w.heap.size, 5, none⟩ = some (.int .u8 c1) ∧ w'.cell? ⟨w.heap.size, 6, none⟩ = some (.int .u8 c2) ∧ w'.cell? ⟨w.heap.size, 7, none⟩ = some (.int .u8 c3))
          (first | exact drew8 (by assumption) | exact drew8 ⟨by assumption, by assumption, by assumption, by assumption, by assumption, by assumption, by assumption, by assumption, by assumption, by assumption⟩ | exact keep8 (by assumption) (by assumption))
          (fail)
        go_wp2
        go_roundw
        case rel => exact ⟨.inr (.inr (.inr (.inr (.inr ⟨by rw [L.out], rfl, 1, by omega, rfl⟩)))), by assumption⟩
        case measure => simp [intOf]
    · have Q0 : Hid (a0 = c0) := q0; clear q0
      by_cases e : a1 = c1
      · have t : (a1 != c1) = false := by simp [e]
        have E : Hid (a1 = c1) := e
        clear e
        go_wp2
        go_region_held3 (fun w' => w.heap.size < w'.heap.size ∧ Below w.heap.size w w' ∧ w'.cell? ⟨w.heap.size, 0, none⟩ = some (.int .u8 a0) ∧ w'.cell? ⟨w.heap.size, 1, none⟩ = some (.int .u8 a1) ∧ w'.cell? ⟨w.heap.size, 2, none⟩ = some (.int .u8 a2) ∧ w'.cell? ⟨w.heap.size, 3, none⟩ = some (.int .u8 a3) ∧ w'.cell? ⟨w.heap.size, 4, none⟩ = some (.int .u8 c0) ∧ w'.cell? ⟨w.heap.size, 5, none⟩ = some (.int .u8 c1) ∧ w'.cell? ⟨w.heap.size, 6, none⟩ = some (.int .u8 c2) ∧ w'.cell? ⟨w.heap.size, 7, none⟩ = some (.int .u8 c3))
          (first | exact drew8 (by assumption) | exact drew8 ⟨by assumption, by assumption, by assumption, by assumption, by assumption, by assumption, by assumption, by assumption, by assumption, by assumption⟩ | exact keep8 (by assumption) (by assumption))
          (fail)
        go_wp2
        go_roundw
        case rel => exact ⟨.inr (.inr (.inl ⟨Q0.out, E.out, rfl, rfl, rfl⟩)), by assumption⟩
        case measure => simp [intOf]
      · have t : (a1 != c1) = true := by simp [e]
        have L : Hid (decide (a1 < c1) = decide (X < Y)) := less1 ⟨h0, h1, h2, h3⟩ ⟨h4, h5, h6, h7⟩ HX.out HY.out Q0.out e
        clear e
        go_wp2
        go_region_held3 (fun w' => w.heap.size < w'.heap.size ∧ Below w.heap.size w w' ∧ w'.cell? ⟨w.heap.size, 0, none⟩ = some (.int .u8 a0) ∧ w'.cell? ⟨w.heap.size, 1, none⟩ = some (.int .u8 a1) ∧ w'.cell? ⟨w.heap.size, 2, none⟩ = some (.int .u8 a2) ∧ w'.cell? ⟨w.heap.size, 3, none⟩ = some (.int .u8 a3) ∧ w'.cell? ⟨w.heap.size, 4, none⟩ = some (.int .u8 c0) ∧ w'.cell? ⟨w.heap.size, 5, none⟩ = some (.int .u8 c1) ∧ w'.cell? ⟨w.heap.size, 6, none⟩ = some (.int .u8 c2) ∧ w'.cell? ⟨w.heap.size, 7, none⟩ = some (.int .u8 c3))
          (first | exact drew8 (by assumption) | exact drew8 ⟨by assumption, by assumption, by assumption, by assumption, by assumption, by assumption, by assumption, by assumption, by assumption, by assumption⟩ | exact keep8 (by assumption) (by assumption))
          (fail)
        go_wp2
        go_region_held3 (fun w' => w.heap.size < w'.heap.size ∧ Below w.heap.size w w' ∧ w'.cell? ⟨w.heap.size, 0, none⟩ = some (.int .u8 a0) ∧ w'.cell? ⟨w.heap.size, 1, none⟩ = some (.int .u8 a1) ∧ w'.cell? ⟨w.heap.size, 2, none⟩ = some (.int .u8 a2) ∧ w'.cell? ⟨w.heap.size, 3, none⟩ = some (.int .u8 a3) ∧ w'.cell? ⟨w.heap.size, 4, none⟩ = some (.int .u8 c0) ∧ w'.cell? ⟨w.heap.size, 5, none⟩ = some (.int .u8 c1) ∧ w'.cell? ⟨w.heap.size, 6, none⟩ = some (.int .u8 c2) ∧ w'.cell? ⟨w.heap.size, 7, none⟩ = some (.int .u8 c3))
          (first | exact drew8 (by assumption) | exact drew8 ⟨by assumption, by assumption, by assumption, by assumption, by assumption, by assumption, by assumption, by assumption, by assumption, by assumption⟩ | exact keep8 (by assumption) (by assumption))
          (fail)
        go_wp2
        go_roundw
        case rel => exact ⟨.inr (.inr (.inr (.inr (.inr ⟨by rw [L.out], rfl, 2, by omega, rfl⟩)))), by assumption⟩
        case measure => simp [intOf]
    · have Q0 : Hid (a0 = c0) := q0; have Q1 : Hid (a1 = c1) := q1; clear q0 q1
      by_cases e : a2 = c2
      · have t : (a2 != c2) = false := by simp [e]
        have E : Hid (a2 = c2) := e
        clear e
        go_wp2
        go_region_held3 (fun w' => w.heap.size < w'.heap.size ∧ Below w.heap.size w w' ∧ w'.cell? ⟨w.heap.size, 0, none⟩ = some (.int .u8 a0) ∧ w'.cell? ⟨w.heap.size, 1, none⟩ = some (.int .u8 a1) ∧ w'.cell? ⟨w.heap.size, 2, none⟩ = some (.int .u8 a2) ∧ w'.cell? ⟨w.heap.size, 3, none⟩ = some (.int .u8 a3) ∧ w'.cell? ⟨w.heap.size, 4, none⟩ = some (.int .u8 c0) ∧ w'.cell? ⟨w.heap.size, 5, none⟩ = some (.int .u8 c1) ∧ w'.cell? ⟨w.heap.size, 6, none⟩ = some (.int .u8 c2) ∧ w'.cell? ⟨w.heap.size, 7, none⟩ = some (.int .u8 c3))
          (first | exact drew8 (by assumption) | exact drew8 ⟨by assumption, by assumption, by assumption, by assumption, by assumption, by assumption, by assumption, by assumption, by assumption, by assumption⟩ | exact keep8 (by assumption) (by assumption))
          (fail)
        go_wp2
        go_roundw
        case rel => exact ⟨.inr (.inr (.inr (.inl ⟨Q0.out, Q1.out, E.out, rfl, rfl, rfl⟩))), by assumption⟩
        case measure => simp [intOf]
      · have t : (a2 != c2) = true := by simp [e]
        have L : Hid (decide (a2 < c2) = decide (X < Y)) := less2 ⟨h0, h1, h2, h3⟩ ⟨h4, h5, h6, h7⟩ HX.out HY.out Q0.out Q1.out e
        clear e
        go_wp2
        go_region_held3 (fun w' => w.heap.size < w'.heap.size ∧ Below w.heap.size w w' ∧ w'.cell? ⟨w.heap.size, 0, none⟩ = some (.int .u8 a0) ∧ w'.cell? ⟨w.heap.size, 1, none⟩ = some (.int .u8 a1) ∧ w'.cell? ⟨w.heap.size, 2, none⟩ = some (.int .u8 a2) ∧ w'.cell? ⟨w.heap.size, 3, none⟩ = some (.int .u8 a3) ∧ w'.cell? ⟨w.heap.size, 4, none⟩ = some (.int .u8 c0) ∧ w'.cell? ⟨w.heap.size, 5, none⟩ = some (.int .u8 c1) ∧ w'.cell? ⟨w.heap.size, 6, none⟩ = some (.int .u8 c2) ∧ w'.cell? ⟨w.heap.size, 7, none⟩ = some (.int .u8 c3))
          (first | exact drew8 (by assumption) | exact drew8 ⟨by assumption, by assumption, by assumption, by assumption, by assumption, by assumption, by assumption, by assumption, by assumption, by assumption⟩ | exact keep8 (by assumption) (by assumption))
          (fail)
        go_wp2
        go_region_held3 (fun w' => w.heap.size < w'.heap.size ∧ Below w.heap.size w w' ∧ w'.cell? ⟨w.heap.size, 0, none⟩ = some (.int .u8 a0) ∧ w'.cell? ⟨w.heap.size, 1, none⟩ = some (.int .u8 a1) ∧ w'.cell? ⟨w.heap.size, 2, none⟩ = some (.int .u8 a2) ∧ w'.cell? ⟨w.heap.size, 3, none⟩ = some (.int .u8 a3) ∧ w'.cell? ⟨w.heap.size, 4, none⟩ = some (.int .u8 c0) ∧ w'.cell? ⟨w.heap.size, 5, none⟩ = some (.int .u8 c1) ∧ w'.cell? ⟨w.heap.size, 6, none⟩ = some (.int .u8 c2) ∧ w'.cell? ⟨w.heap.size, 7, none⟩ = some (.int .u8 c3))
          (first | exact drew8 (by assumption) | exact drew8 ⟨by assumption, by assumption, by assumption, by assumption, by assumption, by assumption, by assumption, by assumption, by assumption, by assumption⟩ | exact keep8 (by assumption) (by assumption))
          (fail)
        go_wp2
        go_roundw
        case rel => exact ⟨.inr (.inr (.inr (.inr (.inr ⟨by rw [L.out], rfl, 3, by omega, rfl⟩)))), by assumption⟩
        case measure => simp [intOf]
    · have Q0 : Hid (a0 = c0) := q0; have Q1 : Hid (a1 = c1) := q1; have Q2 : Hid (a2 = c2) := q2; clear q0 q1 q2
      by_cases e : a3 = c3
      · have t : (a3 != c3) = false := by simp [e]
        have E : Hid (a3 = c3) := e
        clear e
        go_wp2
        go_region_held3 (fun w' => w.heap.size < w'.heap.size ∧ Below w.heap.size w w' ∧ w'.cell? ⟨w.heap.size, 0, none⟩ = some (.int .u8 a0) ∧ w'.cell? ⟨w.heap.size, 1, none⟩ = some (.int .u8 a1) ∧ w'.cell? ⟨w.heap.size, 2, none⟩ = some (.int .u8 a2) ∧ w'.cell? ⟨w.heap.size, 3, none⟩ = some (.int .u8 a3) ∧ w'.cell? ⟨w.heap.size, 4, none⟩ = some (.int .u8 c0) ∧ w'.cell? ⟨w.heap.size, 5, none⟩ = some (.int .u8 c1) ∧ w'.cell? ⟨w.heap.size, 6, none⟩ = some (.int .u8 c2) ∧ w'.cell? ⟨w.heap.size, 7, none⟩ = some (.int .u8 c3))
          (first | exact drew8 (by assumption) | exact drew8 ⟨by assumption, by assumption, by assumption, by assumption, by assumption, by assumption, by assumption, by assumption, by assumption, by assumption⟩ | exact keep8 (by assumption) (by assumption))
          (fail)
        go_wp2
        go_roundw
        case rel => exact ⟨.inr (.inr (.inr (.inr (.inl ⟨less4 HX.out HY.out Q0.out Q1.out Q2.out E.out, rfl, rfl, rfl⟩)))), by assumption⟩
        case measure => simp [intOf]
      · have t : (a3 != c3) = true := by simp [e]
        have L : Hid (decide (a3 < c3) = decide (X < Y)) := less3 ⟨h0, h1, h2, h3⟩ ⟨h4, h5, h6, h7⟩ HX.out HY.out Q0.out Q1.out Q2.out e
        clear e
        go_wp2
        go_region_held3 (fun w' => w.heap.size < w'.heap.size ∧ Below w.heap.size w w' ∧ w'.cell? ⟨w.heap.size, 0, none⟩ = some (.int .u8 a0) ∧ w'.cell? ⟨w.heap.size, 1, none⟩ = some (.int .u8 a1) ∧ w'.cell? ⟨w.heap.size, 2, none⟩ = some (.int .u8 a2) ∧ w'.cell? ⟨w.heap.size, 3, none⟩ = some (.int .u8 a3) ∧ w'.cell? ⟨w.heap.size, 4, none⟩ = some (.int .u8 c0) ∧ w'.cell? ⟨w.heap.size, 5, none⟩ = some (.int .u8 c1) ∧ w'.cell? ⟨w.heap.size, 6, none⟩ = some (.int .u8 c2) ∧ w'.cell? ⟨w.heap.size, 7, none⟩ = some (.int .u8 c3))
          (first | exact drew8 (by assumption) | exact drew8 ⟨by assumption, by assumption, by assumption, by assumption, by assumption, by assumption, by assumption, by assumption, by assumption, by assumption⟩ | exact keep8 (by assumption) (by assumption))
          (fail)
        go_wp2
        go_region_held3 (fun w' => w.heap.size < w'.heap.size ∧ Below w.heap.size w w' ∧ w'.cell? ⟨w.heap.size, 0, none⟩ = some (.int .u8 a0) ∧ w'.cell? ⟨w.heap.size, 1, none⟩ = some (.int .u8 a1) ∧ w'.cell? ⟨w.heap.size, 2, none⟩ = some (.int .u8 a2) ∧ w'.cell? ⟨w.heap.size, 3, none⟩ = some (.int .u8 a3) ∧ w'.cell? ⟨w.heap.size, 4, none⟩ = some (.int .u8 c0) ∧ w'.cell? ⟨w.heap.size, 5, none⟩ = some (.int .u8 c1) ∧ w'.cell? ⟨w.heap.size, 6, none⟩ = some (.int .u8 c2) ∧ w'.cell? ⟨w.heap.size, 7, none⟩ = some (.int .u8 c3))
          (first | exact drew8 (by assumption) | exact drew8 ⟨by assumption, by assumption, by assumption, by assumption, by assumption, by assumption, by assumption, by assumption, by assumption, by assumption⟩ | exact keep8 (by assumption) (by assumption))
          (fail)
        go_wp2
        go_roundw
        case rel => exact ⟨.inr (.inr (.inr (.inr (.inr ⟨by rw [L.out], rfl, 4, by omega, rfl⟩)))), by assumption⟩
        case measure => simp [intOf]
    · subst q
      have t2 : decide (X < X) = false := decide_eq_false (by omega)
      by_cases hab : a < b
      · have t1 : decide (F < G) = true := decide_eq_true (hFG.out.mpr hab)
        have t3 : decide (a < b) = true := decide_eq_true hab
        go_wp2
        go_region_held3 (fun w' => w.heap.size < w'.heap.size ∧ Below w.heap.size w w' ∧ w'.cell? ⟨w.heap.size, 0, none⟩ = some (.int .u8 a0) ∧ w'.cell? ⟨w.heap.size, 1, none⟩ = some (.int .u8 a1) ∧ w'.cell? ⟨w.heap.size, 2, none⟩ = some (.int .u8 a2) ∧ w'.cell? ⟨w.heap.size, 3, none⟩ = some (.int .u8 a3) ∧ w'.cell? ⟨w.heap.size, 4, none⟩ = some (.int .u8 c0) ∧ w'.cell? ⟨w.heap.size, 5, none⟩ = some (.int .u8 c1) ∧ w'.cell? ⟨w.heap.size, 6, none⟩ = some (.int .u8 c2) ∧ w'.cell? ⟨w.heap.size, 7, none⟩ = some (.int .u8 c3))
          (first | exact drew8 (by assumption) | exact drew8 ⟨by assumption, by assumption, by assumption, by assumption, by assumption, by assumption, by assumption, by assumption, by assumption, by assumption⟩ | exact keep8 (by assumption) (by assumption))
          (first
              | (go_at_call 9; refine (flip_any _ _ (by assumption)).mono ?_; rintro e w1 ⟨rfl, rfl⟩)
              | (go_at_call 17; refine (key_any _ _ _ _ _ (by assumption) (by assumption) (by assumption) (by assumption)).mono ?_; rintro e w1 ⟨rfl, hb1⟩)
              | (go_at_call 21; refine (wakes_any _).mono ?_; rintro e w1 ⟨rfl, hb1⟩))
        go_wp2
        go_ret
        exact ⟨rfl, fin8 (by assumption)⟩
      · have t1 : decide (F < G) = false := decide_eq_false (fun h => hab (hFG.out.mp h))
        have t3 : decide (a < b) = false := decide_eq_false hab
        go_wp2
        go_region_held3 (fun w' => w.heap.size < w'.heap.size ∧ Below w.heap.size w w' ∧ w'.cell? ⟨w.heap.size, 0, none⟩ = some (.int .u8 a0) ∧ w'.cell? ⟨w.heap.size, 1, none⟩ = some (.int .u8 a1) ∧ w'.cell? ⟨w.heap.size, 2, none⟩ = some (.int .u8 a2) ∧ w'.cell? ⟨w.heap.size, 3, none⟩ = some (.int .u8 a3) ∧ w'.cell? ⟨w.heap.size, 4, none⟩ = some (.int .u8 c0) ∧ w'.cell? ⟨w.heap.size, 5, none⟩ = some (.int .u8 c1) ∧ w'.cell? ⟨w.heap.size, 6, none⟩ = some (.int .u8 c2) ∧ w'.cell? ⟨w.heap.size, 7, none⟩ = some (.int .u8 c3))
          (first | exact drew8 (by assumption) | exact drew8 ⟨by assumption, by assumption, by assumption, by assumption, by assumption, by assumption, by assumption, by assumption, by assumption, by assumption⟩ | exact keep8 (by assumption) (by assumption))
          (first
              | (go_at_call 9; refine (flip_any _ _ (by assumption)).mono ?_; rintro e w1 ⟨rfl, rfl⟩)
              | (go_at_call 17; refine (key_any _ _ _ _ _ (by assumption) (by assumption) (by assumption) (by assumption)).mono ?_; rintro e w1 ⟨rfl, hb1⟩)
              | (go_at_call 21; refine (wakes_any _).mono ?_; rintro e w1 ⟨rfl, hb1⟩))
        go_wp2
        go_ret
        exact ⟨rfl, fin8 (by assumption)⟩
    · by_cases hxy : X < Y
      · have t2 : decide (X < Y) = true := decide_eq_true hxy
        by_cases hab : a < b
        · have t1 : decide (F < G) = true := decide_eq_true (hFG.out.mpr hab)
          have t3 : decide (a < b) = true := decide_eq_true hab
          rcases (show k < 4 ∨ ¬ k < 4 by omega) with hk4 | hk4
          · go_wp2
            go_region_held3 (fun w' => w.heap.size < w'.heap.size ∧ Below w.heap.size w w' ∧ w'.cell? ⟨w.heap.size, 0, none⟩ = some (.int .u8 a0) ∧ w'.cell? ⟨w.heap.size, 1, none⟩ = some (.int .u8 a1) ∧ w'.cell? ⟨w.heap.size, 2, none⟩ = some (.int .u8 a2) ∧ w'.cell? ⟨w.heap.size, 3, none⟩ = some (.int .u8 a3) ∧ w'.cell? ⟨w.heap.size, 4, none⟩ = some (.int .u8 c0) ∧ w'.cell? ⟨w.heap.size, 5, none⟩ = some (.int .u8 c1) ∧ w'.cell? ⟨w.heap.size, 6, none⟩ = some (.int .u8 c2) ∧ w'.cell? ⟨w.heap.size, 7, none⟩ = some (.int .u8 c3))
              (first | exact drew8 (by assumption) | exact drew8 ⟨by assumption, by assumption, by assumption, by assumption, by assumption, by assumption, by assumption, by assumption, by assumption, by assumption⟩ | exact keep8 (by assumption) (by assumption))
              (first
                  | (go_at_call 9; refine (flip_any _ _ (by assumption)).mono ?_; rintro e w1 ⟨rfl, rfl⟩)
                  | (go_at_call 17; refine (key_any _ _ _ _ _ (by assumption) (by assumption) (by assumption) (by assumption)).mono ?_; rintro e w1 ⟨rfl, hb1⟩)
                  | (go_at_call 21; refine (wakes_any _).mono ?_; rintro e w1 ⟨rfl, hb1⟩))
            go_wp2
            go_ret
            exact ⟨rfl, fin8 (by assumption)⟩
          · go_wp2
            go_region_held3 (fun w' => w.heap.size < w'.heap.size ∧ Below w.heap.size w w' ∧ w'.cell? ⟨w.heap.size, 0, none⟩ = some (.int .u8 a0) ∧ w'.cell? ⟨w.heap.size, 1, none⟩ = some (.int .u8 a1) ∧ w'.cell? ⟨w.heap.size, 2, none⟩ = some (.int .u8 a2) ∧ w'.cell? ⟨w.heap.size, 3, none⟩ = some (.int .u8 a3) ∧ w'.cell? ⟨w.heap.size, 4, none⟩ = some (.int .u8 c0) ∧ w'.cell? ⟨w.heap.size, 5, none⟩ = some (.int .u8 c1) ∧ w'.cell? ⟨w.heap.size, 6, none⟩ = some (.int .u8 c2) ∧ w'.cell? ⟨w.heap.size, 7, none⟩ = some (.int .u8 c3))
              (first | exact drew8 (by assumption) | exact drew8 ⟨by assumption, by assumption, by assumption, by assumption, by assumption, by assumption, by assumption, by assumption, by assumption, by assumption⟩ | exact keep8 (by assumption) (by assumption))
              (first
                  | (go_at_call 9; refine (flip_any _ _ (by assumption)).mono ?_; rintro e w1 ⟨rfl, rfl⟩)
                  | (go_at_call 17; refine (key_any _ _ _ _ _ (by assumption) (by assumption) (by assumption) (by assumption)).mono ?_; rintro e w1 ⟨rfl, hb1⟩)
                  | (go_at_call 21; refine (wakes_any _).mono ?_; rintro e w1 ⟨rfl, hb1⟩))
            go_wp2
            go_ret
            exact ⟨rfl, fin8 (by assumption)⟩
        · have t1 : decide (F < G) = false := decide_eq_false (fun h => hab (hFG.out.mp h))
          have t3 : decide (a < b) = false := decide_eq_false hab
          rcases (show k < 4 ∨ ¬ k < 4 by omega) with hk4 | hk4
          · go_wp2
            go_region_held3 (fun w' => w.heap.size < w'.heap.size ∧ Below w.heap.size w w' ∧ w'.cell? ⟨w.heap.size, 0, none⟩ = some (.int .u8 a0) ∧ w'.cell? ⟨w.heap.size, 1, none⟩ = some (.int .u8 a1) ∧ w'.cell? ⟨w.heap.size, 2, none⟩ = some (.int .u8 a2) ∧ w'.cell? ⟨w.heap.size, 3, none⟩ = some (.int .u8 a3) ∧ w'.cell? ⟨w.heap.size, 4, none⟩ = some (.int .u8 c0) ∧ w'.cell? ⟨w.heap.size, 5, none⟩ = some (.int .u8 c1) ∧ w'.cell? ⟨w.heap.size, 6, none⟩ = some (.int .u8 c2) ∧ w'.cell? ⟨w.heap.size, 7, none⟩ = some (.int .u8 c3))
              (first | exact drew8 (by assumption) | exact drew8 ⟨by assumption, by assumption, by assumption, by assumption, by assumption, by assumption, by assumption, by assumption, by assumption, by assumption⟩ | exact keep8 (by assumption) (by assumption))
              (first
                  | (go_at_call 9; refine (flip_any _ _ (by assumption)).mono ?_; rintro e w1 ⟨rfl, rfl⟩)
                  | (go_at_call 17; refine (key_any _ _ _ _ _ (by assumption) (by assumption) (by assumption) (by assumption)).mono ?_; rintro e w1 ⟨rfl, hb1⟩)
                  | (go_at_call 21; refine (wakes_any _).mono ?_; rintro e w1 ⟨rfl, hb1⟩))
            go_wp2
            go_ret
            exact ⟨rfl, fin8 (by assumption)⟩
          · go_wp2
            go_region_held3 (fun w' => w.heap.size < w'.heap.size ∧ Below w.heap.size w w' ∧ w'.cell? ⟨w.heap.size, 0, none⟩ = some (.int .u8 a0) ∧ w'.cell? ⟨w.heap.size, 1, none⟩ = some (.int .u8 a1) ∧ w'.cell? ⟨w.heap.size, 2, none⟩ = some (.int .u8 a2) ∧ w'.cell? ⟨w.heap.size, 3, none⟩ = some (.int .u8 a3) ∧ w'.cell? ⟨w.heap.size, 4, none⟩ = some (.int .u8 c0) ∧ w'.cell? ⟨w.heap.size, 5, none⟩ = some (.int .u8 c1) ∧ w'.cell? ⟨w.heap.size, 6, none⟩ = some (.int .u8 c2) ∧ w'.cell? ⟨w.heap.size, 7, none⟩ = some (.int .u8 c3))
              (first | exact drew8 (by assumption) | exact drew8 ⟨by assumption, by assumption, by assumption, by assumption, by assumption, by assumption, by assumption, by assumption, by assumption, by assumption⟩ | exact keep8 (by assumption) (by assumption))
              (first
                  | (go_at_call 9; refine (flip_any _ _ (by assumption)).mono ?_; rintro e w1 ⟨rfl, rfl⟩)
                  | (go_at_call 17; refine (key_any _ _ _ _ _ (by assumption) (by assumption) (by assumption) (by assumption)).mono ?_; rintro e w1 ⟨rfl, hb1⟩)
                  | (go_at_call 21; refine (wakes_any _).mono ?_; rintro e w1 ⟨rfl, hb1⟩))
            go_wp2
            go_ret
            exact ⟨rfl, fin8 (by assumption)⟩
      · have t2 : decide (X < Y) = false := decide_eq_false hxy
        by_cases hab : a < b
        · have t1 : decide (F < G) = true := decide_eq_true (hFG.out.mpr hab)
          have t3 : decide (a < b) = true := decide_eq_true hab
          rcases (show k < 4 ∨ ¬ k < 4 by omega) with hk4 | hk4
          · go_wp2
            go_region_held3 (fun w' => w.heap.size < w'.heap.size ∧ Below w.heap.size w w' ∧ w'.cell? ⟨w.heap.size, 0, none⟩ = some (.int .u8 a0) ∧ w'.cell? ⟨w.heap.size, 1, none⟩ = some (.int .u8 a1) ∧ w'.cell? ⟨w.heap.size, 2, none⟩ = some (.int .u8 a2) ∧ w'.cell? ⟨w.heap.size, 3, none⟩ = some (.int .u8 a3) ∧ w'.cell? ⟨w.heap.size, 4, none⟩ = some (.int .u8 c0) ∧ w'.cell? ⟨w.heap.size, 5, none⟩ = some (.int .u8 c1) ∧ w'.cell? ⟨w.heap.size, 6, none⟩ = some (.int .u8 c2) ∧ w'.cell? ⟨w.heap.size, 7, none⟩ = some (.int .u8 c3))
              (first | exact drew8 (by assumption) | exact drew8 ⟨by assumption, by assumption, by assumption, by assumption, by assumption, by assumption, by assumption, by assumption, by assumption, by assumption⟩ | exact keep8 (by assumption) (by assumption))
              (first
                  | (go_at_call 9; refine (flip_any _ _ (by assumption)).mono ?_; rintro e w1 ⟨rfl, rfl⟩)
                  | (go_at_call 17; refine (key_any _ _ _ _ _ (by assumption) (by assumption) (by assumption) (by assumption)).mono ?_; rintro e w1 ⟨rfl, hb1⟩)
                  | (go_at_call 21; refine (wakes_any _).mono ?_; rintro e w1 ⟨rfl, hb1⟩))
            go_wp2
            go_ret
            exact ⟨rfl, fin8 (by assumption)⟩
          · go_wp2
            go_region_held3 (fun w' => w.heap.size < w'.heap.size ∧ Below w.heap.size w w' ∧ w'.cell? ⟨w.heap.size, 0, none⟩ = some (.int .u8 a0) ∧ w'.cell? ⟨w.heap.size, 1, none⟩ = some (.int .u8 a1) ∧ w'.cell? ⟨w.heap.size, 2, none⟩ = some (.int .u8 a2) ∧ w'.cell? ⟨w.heap.size, 3, none⟩ = some (.int .u8 a3) ∧ w'.cell? ⟨w.heap.size, 4, none⟩ = some (.int .u8 c0) ∧ w'.cell? ⟨w.heap.size, 5, none⟩ = some (.int .u8 c1) ∧ w'.cell? ⟨w.heap.size, 6, none⟩ = some (.int .u8 c2) ∧ w'.cell? ⟨w.heap.size, 7, none⟩ = some (.int .u8 c3))
              (first | exact drew8 (by assumption) | exact drew8 ⟨by assumption, by assumption, by assumption, by assumption, by assumption, by assumption, by assumption, by assumption, by assumption, by assumption⟩ | exact keep8 (by assumption) (by assumption))
              (first
                  | (go_at_call 9; refine (flip_any _ _ (by assumption)).mono ?_; rintro e w1 ⟨rfl, rfl⟩)
                  | (go_at_call 17; refine (key_any _ _ _ _ _ (by assumption) (by assumption) (by assumption) (by assumption)).mono ?_; rintro e w1 ⟨rfl, hb1⟩)
                  | (go_at_call 21; refine (wakes_any _).mono ?_; rintro e w1 ⟨rfl, hb1⟩))
            go_wp2
            go_ret
            exact ⟨rfl, fin8 (by assumption)⟩
        · have t1 : decide (F < G) = false := decide_eq_false (fun h => hab (hFG.out.mp h))
          have t3 : decide (a < b) = false := decide_eq_false hab
          rcases (show k < 4 ∨ ¬ k < 4 by omega) with hk4 | hk4
          · go_wp2
            go_region_held3 (fun w' => w.heap.size < w'.heap.size ∧ Below w.heap.size w w' ∧ w'.cell? ⟨w.heap.size, 0, none⟩ = some (.int .u8 a0) ∧ w'.cell? ⟨w.heap.size, 1, none⟩ = some (.int .u8 a1) ∧ w'.cell? ⟨w.heap.size, 2, none⟩ = some (.int .u8 a2) ∧ w'.cell? ⟨w.heap.size, 3, none⟩ = some (.int .u8 a3) ∧ w'.cell? ⟨w.heap.size, 4, none⟩ = some (.int .u8 c0) ∧ w'.cell? ⟨w.heap.size, 5, none⟩ = some (.int .u8 c1) ∧ w'.cell? ⟨w.heap.size, 6, none⟩ = some (.int .u8 c2) ∧ w'.cell? ⟨w.heap.size, 7, none⟩ = some (.int .u8 c3))
              (first | exact drew8 (by assumption) | exact drew8 ⟨by assumption, by assumption, by assumption, by assumption, by assumption, by assumption, by assumption, by assumption, by assumption, by assumption⟩ | exact keep8 (by assumption) (by assumption))
              (first
                  | (go_at_call 9; refine (flip_any _ _ (by assumption)).mono ?_; rintro e w1 ⟨rfl, rfl⟩)
                  | (go_at_call 17; refine (key_any _ _ _ _ _ (by assumption) (by assumption) (by assumption) (by assumption)).mono ?_; rintro e w1 ⟨rfl, hb1⟩)
                  | (go_at_call 21; refine (wakes_any _).mono ?_; rintro e w1 ⟨rfl, hb1⟩))
            go_wp2
            go_ret
            exact ⟨rfl, fin8 (by assumption)⟩
          · go_wp2
            go_region_held3 (fun w' => w.heap.size < w'.heap.size ∧ Below w.heap.size w w' ∧ w'.cell? ⟨w.heap.size, 0, none⟩ = some (.int .u8 a0) ∧ w'.cell? ⟨w.heap.size, 1, none⟩ = some (.int .u8 a1) ∧ w'.cell? ⟨w.heap.size, 2, none⟩ = some (.int .u8 a2) ∧ w'.cell? ⟨w.heap.size, 3, none⟩ = some (.int .u8 a3) ∧ w'.cell? ⟨w.heap.size, 4, none⟩ = some (.int .u8 c0) ∧ w'.cell? ⟨w.heap.size, 5, none⟩ = some (.int .u8 c1) ∧ w'.cell? ⟨w.heap.size, 6, none⟩ = some (.int .u8 c2) ∧ w'.cell? ⟨w.heap.size, 7, none⟩ = some (.int .u8 c3))
              (first | exact drew8 (by assumption) | exact drew8 ⟨by assumption, by assumption, by assumption, by assumption, by assumption, by assumption, by assumption, by assumption, by assumption, by assumption⟩ | exact keep8 (by assumption) (by assumption))
              (first
                  | (go_at_call 9; refine (flip_any _ _ (by assumption)).mono ?_; rintro e w1 ⟨rfl, rfl⟩)
                  | (go_at_call 17; refine (key_any _ _ _ _ _ (by assumption) (by assumption) (by assumption) (by assumption)).mono ?_; rintro e w1 ⟨rfl, hb1⟩)
                  | (go_at_call 21; refine (wakes_any _).mono ?_; rintro e w1 ⟨rfl, hb1⟩))
            go_wp2
            go_ret
            exact ⟨rfl, fin8 (by assumption)⟩

end Go.Proofs.Yteilfoefjemjoaa

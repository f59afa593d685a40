/-
  Of any dimension, any levels, any member: the walk of the law HierTells.
  Conditions: as each theorem states them.
-/
import Derived.Test.YtffhjmldijbolaaK
namespace Go.Proofs.Ytffhjmldijbolaa
open Go.ChangeShapes Go.WideShapes Go.ChangeAt Go.RowKit
set_option linter.unusedVariables false
set_option linter.unusedSimpArgs false

/-- Five cells in a block. -/
def C5 (wr : World) (B : Nat) (s u : Value) (f t m : Int) : Prop := B < wr.heap.size ∧ wr.cell? ⟨B, 0, none⟩ = some s ∧ wr.cell? ⟨B, 1, none⟩ = some u ∧ wr.cell? ⟨B, 2, none⟩ = some (.int .i64 f) ∧ wr.cell? ⟨B, 3, none⟩ = some (.int .i64 t) ∧ wr.cell? ⟨B, 4, none⟩ = some (.int .i64 m)
theorem C5.step {wr w' : World} {B : Nat} {s u : Value} {f t m : Int} (h : C5 wr B s u f t m) (hb : Below wr.heap.size wr w') : C5 w' B s u f t m := by
  obtain ⟨h0, h2, h3, h4, h5, h6⟩ := h
  exact ⟨Nat.lt_of_lt_of_le h0 hb.size, ((bcell hb).1 _ _ h0).trans h2, ((bcell hb).1 _ _ h0).trans h3, ((bcell hb).1 _ _ h0).trans h4, ((bcell hb).1 _ _ h0).trans h5, ((bcell hb).1 _ _ h0).trans h6⟩
theorem i64_mod (n : Int) : I64 (n % 5) ∧ I64 (n % 7) := by unfold I64; omega

theorem b5_fin {w wr : World} {s u : Value} {f t m : Int} {o : Obj} (h : B5 w wr s u f t m) : B5 w (wr.alloc o).drew s u f t m := by
  have := h.step ((Below.refl wr.heap.size wr).alloc (Nat.le_refl _) o)
  exact ⟨this.1, this.2.1.drew, this.2.2⟩
theorem c5_new (w : World) (s u : Value) (f t m : Int) (y : TypeId) : C5 (w.alloc (.cells #[s, u, .int .i64 f, .int .i64 t, .int .i64 m] y)).drew w.heap.size s u f t m := by
  have h := b5_new w s u f t m y
  exact ⟨h.1, h.2.2⟩

set_option maxHeartbeats 4000000 in
set_option maxRecDepth 100000 in
theorem tells_walk (sa : Option Addr) (sl sc : Nat) (ua : Option Addr) (ul uc : Nat) (S : List Int) (U : List (List Int)) (f t m : Int) (w : World) (hd : Dim w sa sl sc ua ul uc S U) (hf : I64 f) (ht : I64 t) (hm : I64 m) :
    Calls Try.prog 3 #[.agg #[.slice sa sl sc, .slice ua ul uc, .int .i64 f, .int .i64 t, .int .i64 m]] w fun e w' => e = .returned (.bool true) ∧ Below w.heap.size w w' := by
  have HD : Hid (Dim w sa sl sc ua ul uc S U) := hd
  have HF : Hid (I64 f) := hf
  have HT : Hid (I64 t) := ht
  have HM : Hid (I64 m) := hm
  clear hd hf ht hm
  have BX : Hid (B5 w (w.alloc (.cells #[.slice sa sl sc, .slice ua ul uc, .int .i64 f, .int .i64 t, .int .i64 m] 27)) (.slice sa sl sc) (.slice ua ul uc) f t m) := b5_new _ _ _ _ _ _ _
  go_enter Try.func3, Try.ntmps3
  go_upto_if 7 with (first
    | (go_at_call 8; refine (light_any _ _ _ _ _ _ S U _ (HD.out.below BX.out.2.1)).mono ?_; rintro e w1 ⟨⟨v, rfl⟩, hb1⟩; have BX1 : Hid (B5 w w1 (.slice sa sl sc) (.slice ua ul uc) f t m) := BX.out.step hb1; clear hb1))
  cases v with
  | false =>
    go_wp2_with (go_at_call 9; refine (wakes_any _).mono ?_; rintro e w9 ⟨rfl, hb9⟩)
    go_ret
    exact ⟨rfl, bt BX1.out.2.1 hb9⟩
  | true =>
    obtain ⟨y0, y1, y2, y3, y4, y5, y6⟩ := BX1.out
    go_upto_region 3 with fail
    go_cut [3] (fun p wx => ∃ B, p = .pointer (some ⟨B, 0, none⟩) ∧ Hid (B5 w wx (.slice sa sl sc) (.slice ua ul uc) f t m) ∧ Hid (C5 wx B (.slice sa sl sc) (.slice ua ul uc) (f % 5) (t % 5) (m % 7)))
    case first =>
      go_region_held3 (fun w' => w'.cell? ⟨w.heap.size, 0, none⟩ = some (.slice sa sl sc) ∧ w'.cell? ⟨w.heap.size, 1, none⟩ = some (.slice ua ul uc) ∧ w'.cell? ⟨w.heap.size, 2, none⟩ = some (.int .i64 f) ∧ w'.cell? ⟨w.heap.size, 3, none⟩ = some (.int .i64 t) ∧ w'.cell? ⟨w.heap.size, 4, none⟩ = some (.int .i64 m))
        (first | assumption | go_keep)
        (first
          | (go_at_call 10; refine (mod_any _ _ _ (by first | exact HF.out | exact HT.out | exact HM.out) (by decide) (by decide)).mono ?_; rintro e w' ⟨rfl, rfl⟩))
      all_goals (go_wp2_with fail; go_meet; exact ⟨w1.heap.size, rfl, hid (b5_fin BX1.out), hid (c5_new _ _ _ _ _ _ _)⟩)
    case rest =>
      obtain ⟨B, rfl, BX2, CY⟩ := hcut
      obtain ⟨z0, z1, z2, z3, z4, z5, z6⟩ := BX2.out
      clear BX BX1 y0 y1 y2 y3 y4 y5 y6
      have HF5 : Hid (I64 (f % 5)) := (i64_mod f).1
      have HT5 : Hid (I64 (t % 5)) := (i64_mod t).1
      have HM7 : Hid (I64 (m % 7)) := (i64_mod m).2
      have t1 : True := trivial
      have t2 : True := trivial
      go_wp2_with (first
        | (go_at_call 11; clear t1; refine (told_any _ _ _ _ _ _ S U _ _ _ _ (HD.out.below BX2.out.2.1) HF.out HT.out HM.out).mono ?_; rintro e w2 ⟨rfl, hb2⟩; have BX3 : Hid (B5 w w2 (.slice sa sl sc) (.slice ua ul uc) f t m) := BX2.out.step hb2; have CY2 : Hid (C5 w2 B (.slice sa sl sc) (.slice ua ul uc) (f % 5) (t % 5) (m % 7)) := CY.out.step hb2; obtain ⟨_, q1, q2, q3, q4, q5⟩ := CY2.out)
        | (go_at_call 11; clear t2; refine (told_any _ _ _ _ _ _ S U _ _ _ _ (HD.out.below BX3.out.2.1) HF5.out HT5.out HM7.out).mono ?_; rintro e w3 ⟨rfl, hb3⟩; have BX4 : Hid (B5 w w3 (.slice sa sl sc) (.slice ua ul uc) f t m) := BX3.out.step hb3; have CY3 : Hid (C5 w3 B (.slice sa sl sc) (.slice ua ul uc) (f % 5) (t % 5) (m % 7)) := CY2.out.step hb3; obtain ⟨_, r1, r2, r3, r4, r5⟩ := CY3.out; obtain ⟨_, _, p1, p2, p3, p4, p5⟩ := BX4.out)
        | (go_at_call 11; refine (told_any _ _ _ _ _ _ S U _ _ _ _ (HD.out.below BX4.out.2.1) HF5.out HT5.out HM.out).mono ?_; rintro e w4 ⟨rfl, hb4⟩)
        | (go_at_call 9; refine (wakes_any _).mono ?_; rintro e w9 ⟨rfl, hb9⟩))
      go_ret
      exact ⟨rfl, bt (bt BX4.out.2.1 hb4) hb9⟩

end Go.Proofs.Ytffhjmldijbolaa

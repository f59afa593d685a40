/-
  Each number comes back out of the number, the bytes that it is written as.
  Conditions: as each theorem states them.
-/
import Derived.Test.YteilfoefjemjoaaI
namespace Go.Proofs.Yteilfoefjemjoaa
open Go.RowKit
set_option linter.unusedVariables false
set_option linter.unusedSimpArgs false

theorem row_at {w : World} {g : Nat} {l : List Int} (hg : g < w.heap.size) (hl : Lies w g 0 l) (h8 : ∀ x ∈ l, U8 x) (hn : l.length ≤ 1000100) : Row8 w (some ⟨g, 0, none⟩) l.length l.length l :=
  ⟨rfl, Nat.le_refl _, by unfold maxLen; omega, h8, (fun h => by cases h), fun _ => ⟨g, 0, rfl, hg, hl⟩⟩
theorem digs_u8 {u : Int} (h : U64 u) : ∀ x ∈ digs u, U8 x := digF_u8 9 u h.1 (by rw [top10]; obtain ⟨_, _⟩ := h; omega)
theorem put_nil (u : Int) (w : World) (hu : U64 u) : Calls Try.prog 22 #[.slice none 0 0, .int .u64 u] w fun e w' => (∃ g : Nat, e = .returned (.slice (some ⟨g, 0, none⟩) (digs u).length (digs u).length) ∧ w.heap.size ≤ g ∧ g < w'.heap.size ∧ Lies w' g 0 (digs u)) ∧ Below w.heap.size w w' :=
  put_any none 0 0 [] u w (row_nil w) (by decide) hu
theorem get_back (u : Int) (g : Nat) (w : World) (hu : U64 u) (hg : g < w.heap.size) (hl : Lies w g 0 (digs u)) : Calls Try.prog 23 #[.slice (some ⟨g, 0, none⟩) (digs u).length (digs u).length] w fun e w' => e = .returned (.tuple #[.int .u64 u, .int .i64 (digs u).length, .bool true]) ∧ w' = w := by
  have h := get_any _ _ _ _ _ (row_at hg hl (digs_u8 hu) (by have := (digs_len u).2; omega))
  obtain ⟨e1, e2, e3⟩ := get_digs u [] hu
  rw [List.append_nil] at e1 e2 e3
  rw [e1, e2, e3] at h
  exact h

theorem i64_back {u : Int} (h : U64 u) : I64 (back u) := by obtain ⟨_, _⟩ := h; unfold back I64; omega
theorem u64_flip {v : Int} (h : I64 v) : U64 (flip v) := by obtain ⟨_, _⟩ := h; unfold flip U64; omega
theorem u64_zig {v : Int} (h : I64 v) : U64 (zig v) := by obtain ⟨_, _⟩ := h; unfold zig U64; split <;> omega
theorem i64_zag {u : Int} (h : U64 u) : I64 (zag u) := by obtain ⟨_, _⟩ := h; unfold zag I64; split <;> omega
theorem back_flip (v : Int) : back (flip v) = v := by unfold back flip; omega
theorem flip_back (u : Int) : flip (back u) = u := by unfold back flip; omega
theorem zag_zig (v : Int) : zag (zig v) = v := by unfold zag zig; split <;> split <;> omega
theorem zig_zag {u : Int} (h : U64 u) : zig (zag u) = u := by obtain ⟨_, _⟩ := h; unfold zag zig; split <;> split <;> omega
theorem u32_key {a b c d : Int} (ha : U8 a) (hb : U8 b) (hc : U8 c) (hd : U8 d) : U32 (key a b c d) := by
  obtain ⟨_, _⟩ := ha; obtain ⟨_, _⟩ := hb; obtain ⟨_, _⟩ := hc; obtain ⟨_, _⟩ := hd; unfold key U32; omega
theorem at_key {a b c d : Int} (ha : U8 a) (hb : U8 b) (hc : U8 c) (hd : U8 d) : b1 (key a b c d) = a ∧ b2 (key a b c d) = b ∧ b3 (key a b c d) = c ∧ b4 (key a b c d) = d := by
  obtain ⟨_, _⟩ := ha; obtain ⟨_, _⟩ := hb; obtain ⟨_, _⟩ := hc; obtain ⟨_, _⟩ := hd; unfold key b1 b2 b3 b4; omega
theorem key_at (k : Int) : key (b1 k) (b2 k) (b3 k) (b4 k) = k := by unfold key b1 b2 b3 b4; omega
theorem u8_at {k : Int} (h : U32 k) : U8 (b1 k) ∧ U8 (b2 k) ∧ U8 (b3 k) ∧ U8 (b4 k) := by
  obtain ⟨_, _⟩ := h; unfold b1 b2 b3 b4 U8; omega

end Go.Proofs.Yteilfoefjemjoaa

/-
  Bytes behind bytes: an append of any slice of bytes to a row of one's own; the document's own Bytes and Digits; slices that came in.
  Conditions: as each theorem states them.
-/
import Derived.Test.YtikgbcdmeikjfaaCE
import Derived.ProofKit
import Derived.OpenShut
namespace Go.Proofs.Ytikgbcdmeikjfaa.code
open Go.ChangeShapes Go.WideShapes Go.ChangeAt Go.RowKit
set_option linter.unusedVariables false
set_option linter.unusedSimpArgs false
set_option maxRecDepth 100000

theorem row_nil (w : World) : Row8 w none 0 0 [] := ⟨rfl, Nat.le_refl _, by decide, by simp, fun _ => rfl, fun h => by cases h⟩
theorem own_made (w : World) (base : Nat) (hb : base ≤ w.heap.size) : (w.alloc (.cells #[] 5)).ownsRow base 5 1 (.slice (some ⟨w.heap.size, 0, none⟩) 0 0) 0 [] :=
  World.ownsRow_made w #[] 0 hb (by decide) rfl
theorem own_form {w : World} {base n : Nat} {v : Value} {xs : List Value} (h : w.ownsRow base 5 1 v n xs) (hne : ¬ v = .slice none 0 0) : ∃ g cap, v = .slice (some ⟨g, 0, none⟩) n cap := by
  rcases h.2 with ⟨h', _⟩ | ⟨g, cap, cur, h', _⟩
  · exact absurd h' hne
  · exact ⟨g, cap, h'⟩
theorem vals_app (xs ys : List Int) : vals xs ++ vals ys = vals (xs ++ ys) := by simp [vals]
theorem row_src {w : World} {ad : Addr} {m c : Nat} {ys : List Int} (h : Row8 w (some ad) m c ys) : ∀ j u, (vals ys)[j]? = some u → w.cell? (ad.add j) = some u := by
  intro j u hu
  obtain ⟨h1, h2⟩ := vals_get ys j u hu
  obtain ⟨r1, r2, r3, r4, r5, r6⟩ := h
  obtain ⟨b, off, e, hlt, hl⟩ := r6 (by omega)
  cases e
  exact lies_cells hl j u hu

/-- An append of any slice of bytes to a row of one's own. -/
theorem append_row {w : World} {ops : Array Oper} {rest : List Oper} {o : Oper} {a : Act} {Q : Exit → Act → World → Prop} (hgd : o.guard = none) (s x : Operand)
    (ho : o.op = .call { callee := .builtin .append, args := #[s, x], argTypes := #[52, 52] }) (base g n cap : Nat) (xs : List Int)
    (hs : a.eval s = .slice (some ⟨g, 0, none⟩) n cap) (hown : w.ownsRow base 5 1 (.slice (some ⟨g, 0, none⟩) n cap) n (vals xs))
    (sa : Option Addr) (m c : Nat) (ys : List Int) (hx : a.eval x = .slice sa m c) (hr : Row8 w sa m c ys) (hn : n + m ≤ 1000000) (hbase : base ≤ w.heap.size)
    (h : ∀ g' cap' w', w'.ownsRow base 5 1 (.slice (some ⟨g', 0, none⟩) (n + m) cap') (n + m) (vals (xs ++ ys)) → w.grownBy w' (some g) → wpList Try.prog ops Q rest (a.put o.dst (.slice (some ⟨g', 0, none⟩) (n + m) cap')) w') : wpList Try.prog ops Q (o :: rest) a w := by
  obtain ⟨i0, hi, hz0, hz1, hz2⟩ := info_parts info_u8
  cases sa with
  | none =>
    obtain ⟨r1, r2, r3, r4, r5, r6⟩ := hr
    obtain rfl : c = 0 := r5 rfl
    obtain rfl : m = 0 := by omega
    have hy : ys = [] := List.length_eq_zero_iff.mp r1.symm
    subst hy
    refine wpList_append_own_none hgd s x 52 ho base 5 i0 1 Try.underlying52 hi _ n (vals xs) hs hown hx ?_
    have := h g cap w (by simpa using hown) ⟨rfl, rfl, rfl, Nat.le_refl _, fun _ _ _ => rfl⟩
    simpa using this
  | some ad =>
    refine wpList_append_own w hgd s x 52 ho base 5 i0 (.int .u8 0) 1 1 Try.underlying52 hi hz0 hz1 hz2 rfl (by decide) _ n (vals xs) hs hown ad m c (vals ys) hx (by rw [vals_len, hr.1]) (row_src hr) (vals_one _) (by unfold maxLen; omega) (by omega) hbase ?_
    intro v' w' hown' hgrow' hiff
    obtain ⟨g', cap', rfl⟩ := own_form hown' (fun e => by have := (hiff.mp e).1; cases this)
    rw [vals_app] at hown'
    exact h g' cap' w' hown' hgrow'

theorem own_row {w : World} {base g n cap : Nat} {l : List Int} (h : w.ownsRow base 5 1 (.slice (some ⟨g, 0, none⟩) n cap) n (vals l)) : base ≤ g ∧ g < w.heap.size := h.lt g rfl

theorem pre_step {f : Nat} {q u : Int} {pre : List Int} (h : pre ++ digF f q = digs u) (hq : 128 ≤ q) (ht : q < top (f + 1)) : ∃ f', f = f' + 1 ∧ (pre ++ [q % 128 + 128]) ++ digF f' (q / 128) = digs u ∧ q / 128 < top (f' + 1) := by
  cases f with
  | zero => simp [top] at ht; omega
  | succ f =>
    refine ⟨f, rfl, ?_, by rw [top] at ht; omega⟩
    rw [← h, digF_step hq]; simp
theorem own_nil_or {w : World} {base n m : Nat} {v : Value} {xs : List Value} (h : w.ownsRow base 5 1 v n xs) (hn : 0 < n) : ∃ g cap, v = .slice (some ⟨g, 0, none⟩) n cap := by
  rcases h.2 with ⟨_, h'⟩ | ⟨g, cap, cur, h', _⟩
  · omega
  · exact ⟨g, cap, h'⟩
theorem own_ge {w : World} {base n k : Nat} {v : Value} {xs : List Value} (h : w.ownsRow base 5 1 v n xs) (hk : v.ownBlock = some k) : base ≤ k := (h.lt k hk).1

set_option maxHeartbeats 2000000 in
/-- The document's own Digits. -/
theorem rdigits_any (u : Int) (w : World) (hu : U64 u) :
    Calls Try.prog 44 #[.int .u64 u] w fun e w' => (∃ g cap : Nat, e = .returned (.slice (some ⟨g, 0, none⟩) (digs u).length cap) ∧ w'.ownsRow w.heap.size 5 1 (.slice (some ⟨g, 0, none⟩) (digs u).length cap) (digs u).length (vals (digs u))) ∧ Below w.heap.size w w' := by
  obtain ⟨i0, hi, hz0, hz1, hz2⟩ := info_parts info_u8
  obtain ⟨u1, u2⟩ := hu
  go_enter Try.func44, Try.ntmps44
  go_wp2
  go_loopw [0, 3] (fun uv bv wr => ∃ (f : Nat) (q : Int) (pre : List Int), uv = .int .u64 q ∧ 0 ≤ q ∧ q ≤ 18446744073709551615 ∧ q < top (f + 1) ∧ pre.length + f = 9 ∧ pre ++ digF f q = digs u ∧ wr.ownsRow w.heap.size 5 1 bv pre.length (vals pre) ∧ Below w.heap.size w wr)
    (fun uv _ _ => (intOf uv).toNat)
  case atStart => exact ⟨9, u, [], rfl, u1, u2, by rw [top10]; omega, rfl, rfl, World.ownsRow_nil _ _ _ _, Below.refl _ _⟩
  case round =>
    obtain ⟨f, q, pre, rfl, q0, q1, qt, hlen, hpre, hown, hbel⟩ := hrel
    have hsize := hbel.size
    by_cases hq : 127 < q
    · obtain ⟨f', hf, hpre', qt'⟩ := pre_step hpre (by omega) qt
      have HP : Hid (pre ++ [q % 128 + 128] ++ digF f' (q / 128) = digs u) := hpre'
      clear hpre hpre'
      go_wp2_with (first
        | (at_builtin; refine wpList_append_own _ rfl (.tmp 6) (.tmp 11) 52 rfl w.heap.size 5 i0 (.int .u8 0) 1 1 Try.underlying52 hi hz0 hz1 hz2 rfl (by decide) _ pre.length _ rfl (hown.alloc _) ⟨wr.heap.size, 0, none⟩ 1 1 [.int .u8 (q % 128 + 128)] rfl rfl (cell_one_new _ _ _) (by intro v hv; simp at hv; subst hv; rfl) (by unfold maxLen; omega) (by omega) (by simp; omega) ?_; intro v' w1 hown1 hgrow1 hiff))
      go_roundw
      case rel =>
        refine ⟨f', q / 128, pre ++ [q % 128 + 128], rfl, by omega, by omega, qt', by simp; omega, HP.out, ?_, ?_⟩
        · rw [← vals_app, List.length_append]; exact hown1
        · exact (hbel.alloc hsize _).grown hgrow1 (by simp; omega) (fun k hk => own_ge hown hk)
      case measure => simp [intOf]; omega
    · have HP : Hid (pre ++ [q] = digs u) := by
        show pre ++ [q] = digs u
        rw [← hpre, digF_stop (by omega)]
      clear hpre
      go_wp2_with (first
        | (at_builtin; refine wpList_append_own _ rfl (.tmp 15) (.tmp 18) 52 rfl w.heap.size 5 i0 (.int .u8 0) 1 1 Try.underlying52 hi hz0 hz1 hz2 rfl (by decide) _ pre.length _ rfl (hown.alloc _) ⟨wr.heap.size, 0, none⟩ 1 1 [.int .u8 q] rfl rfl (cell_one_new _ _ _) (by intro v hv; simp at hv; subst hv; rfl) (by unfold maxLen; omega) (by omega) (by simp; omega) ?_; intro v' w1 hown1 hgrow1 hiff))
      go_ret
      obtain ⟨g, cap, rfl⟩ := own_nil_or (m := 0) hown1 (by omega)
      have e : vals pre ++ [.int .u8 q] = vals (digs u) := by rw [← HP.out, ← vals_app]; rfl
      have e2 : pre.length + 1 = (digs u).length := by rw [← HP.out]; simp
      rw [e, e2] at hown1
      rw [e2]
      exact ⟨⟨g, cap, rfl, hown1⟩, (hbel.alloc hsize _).grown hgrow1 (by simp; omega) (fun k hk => own_ge hown hk)⟩

/-- A slice of bytes that came in. -/
theorem open_bytes {H : Type} {enc : TypeId × Value → H} {W : World} {base b0 : Nat} {r : Reach} {v : Value} {d : DataW H} {p : List MemPlace}
    (hv : Value.okWide Try.prog W r b0 52 v) (h : DataW.Trod enc Try.prog W base (fun _ => true) true 52 v d p) : ∃ a len cap l, v = .slice a len cap ∧ Row8 W a len cap l := by
  obtain ⟨a, len, cap, rfl⟩ := okWide_slice Try.underlying52 hv
  obtain ⟨fuel, hf⟩ := h
  refine ⟨a, len, cap, ?_⟩
  rcases open_ints Try.underlying52 Try.underlying5 (by kernel_rfl) hf with ⟨hcs, _⟩ | ⟨x, l, c, zs, hcs, _, hl, hm, hz, _, hcell, hwz⟩
  · simp [Value.cells] at hcs
    obtain ⟨rfl, rfl, rfl⟩ := hcs
    exact ⟨[], rfl, row_nil W⟩
  · simp [Value.cells] at hcs
    obtain ⟨rfl, rfl, rfl⟩ := hcs
    simp at hz
    refine ⟨zs.take len, rfl, by rw [List.length_take]; omega, hl, hm, fun y hy => bounds_u8 (hwz y (List.mem_of_mem_take hy)), (fun h => by cases h), fun h0 => ?_⟩
    obtain ⟨b, off, spot⟩ := x
    have hc := hcell 0 (by omega)
    have hspot : spot = none := by simpa [Addr.add] using World.cell?_spot hc
    subst hspot
    have hb := World.block_lt_of_cell? _ _ hc
    refine ⟨b, off, rfl, by simpa [Addr.add] using hb, fun k hk => ?_⟩
    rw [List.length_take] at hk
    have := hcell k (by omega)
    rw [List.getD_eq_getElem?_getD, List.getElem?_take, if_pos (by omega), ← List.getD_eq_getElem?_getD]
    by_cases hk0 : k = 0
    · subst hk0; simpa [Addr.add] using this
    · simpa [Addr.add, hk0] using this

end Go.Proofs.Ytikgbcdmeikjfaa.code

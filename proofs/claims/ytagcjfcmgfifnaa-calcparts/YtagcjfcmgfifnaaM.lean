/-
  Sums of parts of a slice, and of the slice turned round.
  Conditions: as each theorem states them.
-/
import Derived.Test.YtagcjfcmgfifnaaJ
import Derived.Deep.DeepAppendRoom
namespace Go.Proofs.Ytagcjfcmgfifnaa
open Go.RowKit
set_option linter.unusedVariables false
set_option linter.unusedSimpArgs false

/-- A slice of int64 whose sum is S, in the world W. -/
def SumsTo (W : World) (v : Value) (S : Int) : Prop :=
  (∃ a cap, v = .slice a 0 cap ∧ S = 0) ∨ ∃ (b off len cap : Nat) (zs : List Int), v = .slice (some ⟨b, off, none⟩) len cap ∧ len ≤ zs.length ∧ len ≤ 1000000000000 ∧ b < W.heap.size ∧ (∀ k, k < len → W.cell? ⟨b, off + k, none⟩ = some (.int .i64 (zs.getD k 0))) ∧ (∀ x ∈ zs, I64 x) ∧ sumI (zs.take len) = S
theorem sums0 (W : World) (a : Option Addr) (cap : Nat) : SumsTo W (.slice a 0 cap) 0 := .inl ⟨a, cap, rfl, rfl⟩

theorem total_v (v : Value) (S : Int) (w : World) (h : SumsTo w v S) :
    Calls Try.prog 21 #[v] w fun e w' => e = .returned (.tuple #[.int .i64 (fitV S), .bool (fitB S)]) ∧ Below w.heap.size w w' := by
  rcases h with ⟨a, cap, rfl, rfl⟩ | ⟨b, off, len, cap, zs, rfl, h1, h2, h3, h4, h5, rfl⟩
  · exact total_0 a cap w
  · exact total_any b off len cap zs w h1 h2 h3 h4 h5

theorem Try.info2 : (Try.prog.info? 2).map (fun i => (i.zero, i.size, i.bytes)) = some (some (.int .i64 0), 1, 8) := by kernel_rfl

/-- What has been laid into the new slice when m of the elements are left. -/
def rest (zs : List Int) (len m : Nat) : List Value := (((zs.take len).drop m).reverse).map (Value.int .i64)
theorem rest_step (zs : List Int) (len m : Nat) (h : m < len) (hl : len ≤ zs.length) : rest zs len m = rest zs len (m + 1) ++ [.int .i64 (zs.getD m 0)] := by
  unfold rest
  have e : (zs.take len).drop m = zs.getD m 0 :: (zs.take len).drop (m + 1) := by
    rw [List.drop_eq_getElem_cons (by simp; omega)]
    congr 1
    simp [List.getElem_take]
    rw [List.getElem?_eq_getElem (by omega)]
    rfl
  rw [e]
  simp
theorem rest_full (zs : List Int) (len : Nat) : rest zs len len = [] := by
  unfold rest
  rw [List.drop_of_length_le (by simp; omega)]
  rfl
theorem rest_all (zs : List Int) (len : Nat) : rest zs len 0 = ((zs.take len).reverse).map (Value.int .i64) := by
  unfold rest; simp
theorem sumI_app (l r : List Int) : sumI (l ++ r) = sumI l + sumI r := by
  induction l with
  | nil => simp [sumI]
  | cons x l ih => simp only [List.cons_append, sumI, ih]; omega
theorem sumI_rev (l : List Int) : sumI l.reverse = sumI l := by
  induction l with
  | nil => rfl
  | cons x l ih => simp only [List.reverse_cons, sumI_app, sumI, ih]; omega

/-- A slice that came in, or a part of it. -/
theorem sums_part {w wr W : World} {b off len cap : Nat} {zs : List Int} (hb : b < w.heap.size) (hlz : zs.length = cap) (hlc : len ≤ cap) (hm : len ≤ 2000)
    (hc : ∀ k, k < cap → w.cell? ⟨b, off + k, none⟩ = some (.int .i64 (zs.getD k 0))) (hz : ∀ x ∈ zs, I64 x) (hbel : Below w.heap.size w wr) (hW : Below wr.heap.size wr W) :
    SumsTo W (.slice (some ⟨b, off, none⟩) len cap) (sumI (zs.take len)) := by
  have acc := hbel.trans (hW.mono hbel.size)
  exact .inr ⟨b, off, len, cap, zs, rfl, by omega, by omega, Nat.lt_of_lt_of_le hb acc.size, fun k hk => (acc.cell (by exact hb)).trans (hc k (by omega)), hz, rfl⟩
theorem sums_suf {w wr W : World} {b off len cap K : Nat} {zs : List Int} (hb : b < w.heap.size) (hlz : zs.length = cap) (hlc : len ≤ cap) (hm : len ≤ 2000) (hK : K ≤ len)
    (hc : ∀ k, k < cap → w.cell? ⟨b, off + k, none⟩ = some (.int .i64 (zs.getD k 0))) (hz : ∀ x ∈ zs, I64 x) (hbel : Below w.heap.size w wr) (hW : Below wr.heap.size wr W) :
    SumsTo W (.slice (some ⟨b, off + K, none⟩) (len - K) (cap - K)) (sumI ((zs.drop K).take (len - K))) := by
  have acc := hbel.trans (hW.mono hbel.size)
  refine .inr ⟨b, off + K, len - K, cap - K, zs.drop K, rfl, by simp; omega, by omega, Nat.lt_of_lt_of_le hb acc.size, fun k hk => ?_, fun x hx => hz x (List.mem_of_mem_drop hx), rfl⟩
  have := (acc.cell (p := ⟨b, off + (K + k), none⟩) (by exact hb)).trans (hc (K + k) (by omega))
  rw [Nat.add_assoc, this]
  simp
theorem sums_back {w wr W : World} {len : Nat} {zs : List Int} (hl : len ≤ zs.length) (hm : len ≤ 2000) (hz : ∀ x ∈ zs, I64 x)
    (hown : wr.ownsRow w.heap.size 2 1 (.slice (some ⟨w.heap.size, 0, none⟩) len len) len (rest zs len 0)) (hW : Below wr.heap.size wr W) :
    SumsTo W (.slice (some ⟨w.heap.size, 0, none⟩) len len) (sumI (zs.take len)) := by
  have hlt : w.heap.size < wr.heap.size := (hown.lt _ rfl).2
  refine .inr ⟨w.heap.size, 0, len, len, (zs.take len).reverse, rfl, by simp; omega, by omega, Nat.lt_of_lt_of_le hlt hW.size, fun k hk => ?_, fun x hx => hz x (List.mem_of_mem_take (List.mem_reverse.mp hx)), ?_⟩
  · have h1 := (bcell hW).1 w.heap.size k hlt
    have h2 := hown.cellAt k (by omega)
    rw [Nat.zero_add, h1, h2, rest_all, List.getElem?_map, List.getElem?_eq_getElem (by simp; omega)]
    simp [List.getD, List.getElem?_eq_getElem, hk, hl]
  · rw [List.take_of_length_le (by simp; omega), sumI_rev]
theorem sum_parts (zs : List Int) (len K : Nat) (h : K ≤ len) : sumI (zs.take K) + sumI ((zs.drop K).take (len - K)) = sumI (zs.take len) := by
  rw [← sumI_app]
  congr 1
  rw [← List.take_append_drop K (zs.take len), List.take_take, Nat.min_eq_left h, List.drop_take]

end Go.Proofs.Ytagcjfcmgfifnaa

/-
  All nodes rise: byte by byte, as strings; four bytes as a string.
  Conditions: as each theorem states them.
-/
import Derived.Test.YtmlnfpefemchhaaLTm
import Derived.Laws.BytesString
import Derived.Laws.Cover1
namespace Go.Proofs.Ytmlnfpefemchhaa
open Go.ChangeShapes Go.WideShapes Go.ChangeAt Go.RowKit
set_option linter.unusedVariables false
set_option linter.unusedSimpArgs false

theorem range_rise {n : Nat} {R : Nat → Nat → Prop} (h : ∀ i j, i < j → R i j) : (List.range n).Pairwise R := List.pairwise_iff_getElem.mpr (fun i j hi hj hij => by simpa using h i j hij)
/-- By the first number that is unlike. -/
def Lex (x y : Nd) : Prop := x.1 < y.1 ∨ x.1 = y.1 ∧ (x.2.1 < y.2.1 ∨ x.2.1 = y.2.1 ∧ (x.2.2.1 < y.2.2.1 ∨ x.2.2.1 = y.2.2.1 ∧ x.2.2.2 < y.2.2.2))
theorem nC_rise (a b c t3 : Nat) : (nC a b c t3).Pairwise Lex := by
  unfold nC
  rw [List.pairwise_map]
  refine range_rise ?_
  intro i j h
  exact .inr ⟨rfl, .inr ⟨rfl, .inr ⟨rfl, Int.ofNat_lt.mpr h⟩⟩⟩
theorem mem_nC {a b c t3 : Nat} {x : Nd} (h : x ∈ nC a b c t3) : x.1 = a ∧ x.2.1 = b ∧ x.2.2.1 = c := by
  unfold nC at h
  rw [List.mem_map] at h
  obtain ⟨d, _, rfl⟩ := h
  exact ⟨rfl, rfl, rfl⟩
theorem nB_rise (a b t2 t3 : Nat) : (nB a b t2 t3).Pairwise Lex := by
  unfold nB
  rw [List.pairwise_flatMap]
  refine ⟨fun c _ => nC_rise a b c t3, range_rise ?_⟩
  intro i j h x hx y hy
  obtain ⟨x1, x2, x3⟩ := mem_nC hx
  obtain ⟨y1, y2, y3⟩ := mem_nC hy
  unfold Lex
  omega
theorem mem_nB {a b t2 t3 : Nat} {x : Nd} (h : x ∈ nB a b t2 t3) : x.1 = a ∧ x.2.1 = b := by
  unfold nB at h
  rw [List.mem_flatMap] at h
  obtain ⟨c, _, hc⟩ := h
  obtain ⟨h1, h2, _⟩ := mem_nC hc
  exact ⟨h1, h2⟩
theorem nA_rise (a t1 t2 t3 : Nat) : (nA a t1 t2 t3).Pairwise Lex := by
  unfold nA
  rw [List.pairwise_flatMap]
  refine ⟨fun b _ => nB_rise a b t2 t3, range_rise ?_⟩
  intro i j h x hx y hy
  obtain ⟨x1, x2⟩ := mem_nB hx
  obtain ⟨y1, y2⟩ := mem_nB hy
  unfold Lex
  omega
theorem mem_nA {a t1 t2 t3 : Nat} {x : Nd} (h : x ∈ nA a t1 t2 t3) : x.1 = a := by
  unfold nA at h
  rw [List.mem_flatMap] at h
  obtain ⟨b, _, hb⟩ := h
  exact (mem_nB hb).1
theorem allN_rise (t0 t1 t2 t3 : Nat) : (allN t0 t1 t2 t3).Pairwise Lex := by
  unfold allN
  rw [List.pairwise_flatMap]
  refine ⟨fun a _ => nA_rise a t1 t2 t3, range_rise ?_⟩
  intro i j h x hx y hy
  have x1 := mem_nA hx
  have y1 := mem_nA hy
  unfold Lex
  omega
theorem allL_rise {ds : Dims} {M : Int} {j : Nat} {x y : Nd} (hx : (allL ds M)[j]? = some x) (hy : (allL ds M)[j + 1]? = some y) : Lex x y := by
  have hp : (allL ds M).Pairwise Lex := by
    unfold allL
    split
    · exact allN_rise _ _ _ _
    · exact List.Pairwise.nil
  rw [List.pairwise_iff_getElem] at hp
  obtain ⟨h1, e1⟩ := List.getElem?_eq_some_iff.mp hx
  obtain ⟨h2, e2⟩ := List.getElem?_eq_some_iff.mp hy
  have := hp j (j + 1) h1 h2 (by omega)
  rw [e1, e2] at this
  exact this
/-- Four bytes as a string. -/
def str4 (x0 x1 x2 x3 : Int) : ByteArray := [x0, x1, x2, x3].foldl (fun r n => r.push (UInt8.ofNat n.toNat)) ByteArray.empty
theorem str4_list (x0 x1 x2 x3 : Int) : (str4 x0 x1 x2 x3).data.toList = [UInt8.ofNat x0.toNat, UInt8.ofNat x1.toNat, UInt8.ofNat x2.toNat, UInt8.ofNat x3.toNat] := rfl
theorem u8_lt {x y : Int} (hx : U8 x) (hy : U8 y) (h : x < y) : UInt8.ofNat x.toNat < UInt8.ofNat y.toNat := by
  unfold U8 at hx hy
  rw [UInt8.lt_iff_toNat_lt, UInt8.toNat_ofNat', UInt8.toNat_ofNat']
  omega
theorem less4 {x y : Nd} (hx : ∀ z ∈ [x.1, x.2.1, x.2.2.1, x.2.2.2], U8 z) (hy : ∀ z ∈ [y.1, y.2.1, y.2.2.1, y.2.2.2], U8 z) (h : Lex x y) : Op.bytesLess (str4 x.1 x.2.1 x.2.2.1 x.2.2.2).toList (str4 y.1 y.2.1 y.2.2.1 y.2.2.2).toList = true := by
  have e : ∀ b : ByteArray, b.toList = b.data.toList := fun b => ByteArray.toList_eq b
  rw [e, e, str4_list, str4_list]
  unfold Lex at h
  have a0 := hx x.1 (by simp); have a1 := hx x.2.1 (by simp); have a2 := hx x.2.2.1 (by simp); have a3 := hx x.2.2.2 (by simp)
  have b0 := hy y.1 (by simp); have b1 := hy y.2.1 (by simp); have b2 := hy y.2.2.1 (by simp); have b3 := hy y.2.2.2 (by simp)
  simp only [Op.bytesLess]
  rcases h with h | ⟨h0, h | ⟨h1, h | ⟨h2, h⟩⟩⟩
  · simp [u8_lt a0 b0 h]
  · simp [h0, u8_lt a1 b1 h]
  · simp [h0, h1, u8_lt a2 b2 h]
  · simp [h0, h1, h2, u8_lt a3 b3 h]
theorem conv4 {w : World} {b off : Nat} {x0 x1 x2 x3 : Int} (h0 : w.cell? ⟨b, off, none⟩ = some (.int .u8 x0)) (h1 : w.cell? ⟨b, off + 1, none⟩ = some (.int .u8 x1)) (h2 : w.cell? ⟨b, off + 2, none⟩ = some (.int .u8 x2)) (h3 : w.cell? ⟨b, off + 3, none⟩ = some (.int .u8 x3)) :
    (convert 22 9 (.slice (some ⟨b, off, none⟩) 4 4)).run Try.prog w = .ok (.string (str4 x0 x1 x2 x3)) w := by
  rw [run_convert_bytes_string w 22 9 5 _ _ _ Try.underlying22 Try.underlying5 Try.underlying9]
  refine run_bytesToString w ⟨b, off, none⟩ 4 4 [x0, x1, x2, x3] ?_
  have := run_loadCells_list (P := Try.prog) w ⟨b, off, none⟩ (vals .u8 [x0, x1, x2, x3]) (fun j u hu => by
    rw [add_at]
    obtain ⟨hj, rfl⟩ := vals_get .u8 _ j u hu
    simp at hj
    have : j = 0 ∨ j = 1 ∨ j = 2 ∨ j = 3 := by omega
    rcases this with rfl | rfl | rfl | rfl
    · simpa using h0
    · simpa using h1
    · simpa using h2
    · simpa using h3)
  exact this
theorem mem_allL {ds : Dims} {M v0 v1 v2 v3 : Int} (hV : ∀ x ∈ [v0, v1, v2, v3], U8 x) (h : goodC ds M = true) : (v0, v1, v2, v3) ∈ allL ds M ↔ nodeC ds M v0 v1 v2 v3 = true := by
  have h0 := hV v0 (by simp); have h1 := hV v1 (by simp); have h2 := hV v2 (by simp); have h3 := hV v3 (by simp)
  unfold U8 at h0 h1 h2 h3
  unfold allL
  rw [if_pos h, mem_all, nodeC_is h, tN_tp h 0, tN_tp h 1, tN_tp h 2, tN_tp h 3, decide_eq_true_iff]
  omega
theorem allL_u8 {ds : Dims} {M v0 v1 v2 v3 : Int} (h : goodC ds M = true) (hm : (v0, v1, v2, v3) ∈ allL ds M) : (∀ x ∈ [v0, v1, v2, v3], U8 x) ∧ nodeC ds M v0 v1 v2 v3 = true := by
  have hu : ∀ x ∈ [v0, v1, v2, v3], U8 x := by
    unfold allL at hm
    rw [if_pos h, mem_all] at hm
    have b0 := tN_bd h 0; have b1 := tN_bd h 1; have b2 := tN_bd h 2; have b3 := tN_bd h 3
    intro x hx
    simp at hx
    unfold U8
    omega
  exact ⟨hu, (mem_allL hu h).mp hm⟩
theorem take_in {l : List Nd} {k : Nat} {x v : Nd} (h : l[k]? = some x) : v ∈ l.take (k + 1) ↔ v ∈ l.take k ∨ x = v := by
  rw [List.take_add_one, h]
  simp [eq_comm]

end Go.Proofs.Ytmlnfpefemchhaa

/-
  A catalog's bytes: what schema.Bytes returns.
  Conditions: as each theorem states them.
-/
import Derived.Test.YtmlnfpefemchhaaSI
namespace Go.Proofs.Ytmlnfpefemchhaa
open Go.ChangeShapes Go.WideShapes Go.ChangeAt Go.RowKit
set_option linter.unusedVariables false
set_option linter.unusedSimpArgs false

theorem dims_snoc (ds : Dims) (k : Nat) (hk : k < ds.length) : (ds.take (k + 1)).flatMap numsD = (ds.take k).flatMap numsD ++ numsD (ds.getD k ([], [])) := by
  have e : ds.take (k + 1) = ds.take k ++ [ds.getD k ([], [])] := by
    rw [List.take_add_one, List.getD_eq_getElem?_getD, List.getElem?_eq_getElem hk]; simp
  rw [e]; simp
theorem dims_len {ds : Dims} {M : Int} (h : goodC ds M = true) (k : Nat) : ((ds.take k).flatMap numsD).length ≤ 500 := by
  have h1 := (nums_len h).2
  have h2 : ((ds.take k).flatMap numsD).length ≤ (ds.flatMap numsD).length := by
    conv => rhs; rw [← List.take_append_drop k ds]
    rw [List.flatMap_append, List.length_append]; omega
  unfold nums at h1
  simp only [List.length_cons] at h1
  omega
theorem row8_own {w : World} {base n : Nat} {v : Value} {l : List Int} (h : w.ownsRow base 5 1 v n (vals .u8 l)) (hu : ∀ x ∈ l, U8 x) : ∃ a c, v = .slice a n c ∧ code.Row8 w a n c l := by
  obtain ⟨a, c, rfl, hr⟩ := own_irow h
  exact ⟨a, c, rfl, row8_of hr hu⟩
theorem nums_u8 {ds : Dims} {M : Int} (h : goodC ds M = true) : ∀ x ∈ nums ds M, U8 x := fun x hx => by have := nums_small h x hx; unfold U8; omega
/-- A catalog's own cells, in a block that nobody writes into. -/
theorem box_cat {w wr : World} {s u : Value} {t : TypeId} (h : Below (w.heap.size + 1) (w.alloc (.cells #[s, u] t)) wr) : Below w.heap.size w wr ∧ wr.cell? ⟨w.heap.size, 0, none⟩ = some s ∧ wr.cell? ⟨w.heap.size, 1, none⟩ = some u := by
  have hb : Below (w.alloc (.cells #[s, u] t)).heap.size (w.alloc (.cells #[s, u] t)) wr := by simpa using h
  have := (bx_new w s u t).step hb
  exact this.2
theorem box_sz {w wr : World} {o : Obj} (h : Below (w.heap.size + 1) (w.alloc o) wr) : w.heap.size + 1 ≤ wr.heap.size := by simpa using h.size

set_option maxHeartbeats 4000000 in
theorem sbytes_any (a : Option Addr) (n c : Nat) (ds : Dims) (M : Int) (w : World) (hc : Cat w a n c ds) (hM : I64 M) :
    Calls Try.prog 41 #[.agg #[.slice a n c, .int .i64 M]] w fun e w' => (∃ a' n' c', e = .returned (.slice a' n' c') ∧ code.Row8 w' a' n' c' (bytesC ds M)) ∧ Below w.heap.size w w' := by
  obtain ⟨e1, e2⟩ := hc.lens
  have E1 : Hid (n = ds.length) := e1
  have HC : Hid (Cat w a n c ds) := hc
  have HM : Hid (I64 M) := hM
  have BX : Hid (Bx w (w.alloc (.cells #[.slice a n c, .int .i64 M] 25)) (.slice a n c) (.int .i64 M)) := bx_new _ _ _ _
  clear e1 hc hM
  cases hg : goodC ds M with
  | false =>
    have HG : Hid (goodC ds M = false) := hg
    go_enter Try.func41, Try.ntmps41
    go_wp2_with (go_at_call 42; refine (sgood_any _ _ _ _ _ _ (HC.out.below BX.out.2.1) HM.out).mono ?_; rintro e w1 ⟨rfl, hb⟩)
    go_ret
    exact ⟨⟨_, _, _, rfl, by rw [bytesC_bad HG.out]; exact code.row_nil _⟩, bt BX.out.2.1 hb⟩
  | true =>
    have HG : Hid (goodC ds M = true) := hg
    obtain ⟨g1, g2, g3, g4, g5⟩ := goodC_p hg
    have n1 : 1 ≤ n := by rw [E1.out]; exact g1
    have n4 : n ≤ 4 := by rw [E1.out]; exact g2
    have HDL : Hid (∀ k, ((ds.take k).flatMap numsD).length ≤ 500) := hid fun k => dims_len HG.out k
    clear g1 g2 g5
    have t1 : True := trivial
    go_enter Try.func41, Try.ntmps41
    go_wp2_with (first
      | (go_at_call 42; refine (sgood_any _ _ _ _ _ _ (HC.out.below BX.out.2.1) HM.out).mono ?_; rintro e w1 ⟨rfl, hb⟩; have hb' : Below (w.heap.size + 1) (w.alloc (.cells #[.slice a n c, .int .i64 M] 25)) w1 := (by simpa using hb); obtain ⟨_, c0, c1⟩ := box_cat hb')
      | (go_at_call 57; clear t1; refine (sput_any (w.heap.size + 1) 0 _ [] _ _ (World.ownsRow_nil _ _ _ _) (box_sz hb') (by decide) (by omega) (by omega)).mono ?_; rintro e w2 ⟨⟨v2, rfl, ho2⟩, hg2, hb2⟩; have hb2' : Below (w.heap.size + 1) (w.alloc (.cells #[.slice a n c, .int .i64 M] 25)) w2 := hb'.trans hb2; obtain ⟨_, c0, c1⟩ := box_cat hb2')
      | (go_at_call 57; refine (sput_any (w.heap.size + 1) 1 _ [M] _ _ ho2 (box_sz hb2') (by decide) (by omega) (by omega)).mono ?_; rintro e w3 ⟨⟨v3, rfl, ho3⟩, hg3, hb3⟩; have hb3' : Below (w.heap.size + 1) (w.alloc (.cells #[.slice a n c, .int .i64 M] 25)) w3 := hb2'.trans hb3; obtain ⟨_, c0, c1⟩ := box_cat hb3'))
    have HO3 : Hid (w3.ownsRow (w.heap.size + 1) 5 1 v3 ([M, (n : Int)] ++ (ds.take 0).flatMap numsD).length (vals .u8 ([M, (n : Int)] ++ (ds.take 0).flatMap numsD))) := hid (by simpa using ho3)
    have HB3 : Hid (Below (w.heap.size + 1) (w.alloc (.cells #[.slice a n c, .int .i64 M] 25)) w3) := hb3'
    clear ho2 ho3 hg2 hg3 hb2 hb3 hb hb' hb2' hb3'
    go_loopw [3, 19] (fun bv i wr => ∃ k : Nat, k ≤ n ∧ i = .int .i64 k ∧ Hid (wr.ownsRow (w.heap.size + 1) 5 1 bv ([M, (n : Int)] ++ (ds.take k).flatMap numsD).length (vals .u8 ([M, (n : Int)] ++ (ds.take k).flatMap numsD))) ∧ Hid (Below (w.heap.size + 1) (w.alloc (.cells #[.slice a n c, .int .i64 M] 25)) wr)) (fun _ i _ => n - (intOf i).toNat)
    case atStart => exact ⟨0, Nat.zero_le _, rfl, HO3, HB3⟩
    case round =>
      obtain ⟨k, hk, rfl, HO4, HB4⟩ := hrel
      obtain ⟨bel, c0, c1⟩ := box_cat HB4.out
      by_cases hlt : k < n
      · have hkn : (k : Int) < (n : Int) := by omega
        obtain ⟨b, off, rfl, hb0, sa, sl, sc, ua, ul, uc, S, U, f1, f2, HDm, HSU⟩ := HC.out.get (Below.refl _ _) hlt
        have f3 := ((bcell bel).1 _ _ hb0).trans f1
        have f4 := ((bcell bel).1 _ _ hb0).trans f2
        clear f1 f2
        go_wp2_with (go_at_call 58; (refine (putDim_any (w.heap.size + 1) _ ([M, (n : Int)] ++ (ds.take k).flatMap numsD) _ _ _ _ _ _ S U _ w HO4.out (box_sz HB4.out) (by rw [List.length_append]; have := HDL.out k; simp only [List.length_cons, List.length_nil]; omega) HDm.out bel (Nat.le_succ _) (dims_good HG.out (by rw [← E1.out]; exact hlt) HSU.out)).mono ?_; rintro e w5 ⟨⟨v5, rfl, ho5⟩, hb5⟩))
        have HO5 : Hid (w5.ownsRow (w.heap.size + 1) 5 1 v5 ([M, (n : Int)] ++ (ds.take (k + 1)).flatMap numsD).length (vals .u8 ([M, (n : Int)] ++ (ds.take (k + 1)).flatMap numsD))) := by
          show World.ownsRow _ _ _ _ _ _ _
          rw [dims_snoc ds k (by rw [← E1.out]; exact hlt), HSU.out, ← List.append_assoc]; exact ho5
        clear ho5
        go_roundw
        case rel => exact ⟨k + 1, by omega, by go_num, HO5, HB4.out.trans hb5⟩
        case measure => simp [intOf]; omega
      · obtain rfl : k = n := by omega
        rw [E1.out, List.take_length, ← E1.out] at HO4
        have HBN : Hid ([M, (k : Int)] ++ ds.flatMap numsD = bytesC ds M) := by
          show _ = _
          rw [bytesC_nums HG.out]; unfold nums; rw [E1.out]; rfl
        rw [HBN.out] at HO4
        obtain ⟨a', c', rfl, hr⟩ := row8_own HO4.out (by rw [bytesC_nums HG.out]; exact nums_u8 HG.out)
        have HR : Hid (code.Row8 wr a' (bytesC ds M).length c' (bytesC ds M)) := hr
        clear HBN hr
        go_wp2
        go_ret
        exact ⟨⟨_, _, _, rfl, HR.out⟩, bel⟩

end Go.Proofs.Ytmlnfpefemchhaa

/-
  A dimension's numbers, put behind a row of one's own: what schema.putDim returns.
  Conditions: as each theorem states them.
-/
import Derived.Test.YtmlnfpefemchhaaSH
namespace Go.Proofs.Ytmlnfpefemchhaa
open Go.ChangeShapes Go.WideShapes Go.ChangeAt Go.RowKit
set_option linter.unusedVariables false
set_option linter.unusedSimpArgs false

theorem Own8.put {w w' : World} {base D : Nat} {cs : Array Value} {t : TypeId} {v v' : Value} {l : List Int} {x : Int} (h : Own8 w base D cs t v l) (ht : ¬ 5 = t) (ho : w'.ownsRow base 5 1 v' (l.length + 1) (vals .u8 (l ++ [x]))) (hg : w.grownBy w' v.ownBlock) : Own8 w' base D cs t v' (l ++ [x]) :=
  ⟨by rw [List.length_append]; exact ho, Nat.le_trans h.2.1 hg.size, box_stays h.1 h.2.2 ht hg⟩
theorem own8_new {w : World} {base : Nat} {cs : Array Value} {t : TypeId} {v : Value} {l : List Int} (h : w.ownsRow base 5 1 v l.length (vals .u8 l)) (hb : base ≤ w.heap.size) : Own8 (w.alloc (.cells cs t)) base w.heap.size cs t v l :=
  ⟨h.alloc _, by simp; omega, heap_alloc_new w _⟩
theorem len_small {l : List Int} {m : Nat} (h : l.length ≤ 1000) (r : List Int) (hr : r.length ≤ m) (hm : m ≤ 1000) : (l ++ r).length ≤ 100000 := by rw [List.length_append]; omega

set_option maxHeartbeats 4000000 in
set_option maxRecDepth 100000 in
theorem putDim_any (base : Nat) (v : Value) (l : List Int) (sa : Option Addr) (sl sc : Nat) (ua : Option Addr) (ul uc : Nat) (S : List Int) (U : List (List Int)) (w w0 : World) (hown : w.ownsRow base 5 1 v l.length (vals .u8 l)) (hbase : base ≤ w.heap.size) (hl : l.length ≤ 1000)
    (hd : Dim w0 sa sl sc ua ul uc S U) (h0 : Below w0.heap.size w0 w) (hw0 : w0.heap.size ≤ base) (hg : good S U = true) :
    Calls Try.prog 58 #[v, .agg #[.slice sa sl sc, .slice ua ul uc]] w fun e w' => (∃ v', e = .returned v' ∧ w'.ownsRow base 5 1 v' (l ++ numsD (S, U)).length (vals .u8 (l ++ numsD (S, U)))) ∧ Below base w w' := by
  obtain ⟨e1, e2, e3, e4⟩ := hd.lens
  have E1 : Hid (sl = S.length) := e1
  have E2 : Hid (ul = U.length) := e2
  have HD : Hid (Dim w0 sa sl sc ua ul uc S U) := hd
  have HG : Hid (good S U = true) := hg
  have gp := good_p hg
  have s1 : 1 ≤ sl := by rw [e1]; exact gp.1
  have s4 : sl ≤ 4 := by rw [e1]; exact gp.2.1
  have eul : Hid (ul + 1 = sl) := by show _ = _; rw [e1, e2]; exact gp.2.2.1
  have HLl : Hid (l.length ≤ 1000) := hl
  have OW : Hid (Own8 (w.alloc (.cells #[.slice sa sl sc, .slice ua ul uc] 59)) base w.heap.size #[.slice sa sl sc, .slice ua ul uc] 59 v l) := own8_new hown hbase
  have BB : Hid (Below base w (w.alloc (.cells #[.slice sa sl sc, .slice ua ul uc] 59))) := (Below.refl _ _).alloc hbase _
  have HB0 : Hid (∀ wr, Below base w wr → Below w0.heap.size w0 wr) := hid fun wr hb => h0.trans (hb.mono hw0)
  have HFLAT : Hid ((l ++ [(sl : Int)] ++ S ++ U.flatten) = l ++ numsD (S, U)) := by
    show _ = _
    unfold numsD; rw [e1]; simp
  have HLU : Hid (U.flatten.length ≤ 120) := by
    have h := numsD_len (d := (S, U)) hg
    show U.flatten.length ≤ 120
    have e : (numsD (S, U)).length = 1 + (S.length + U.flatten.length) := by unfold numsD; simp; omega
    have h2 : U.flatten.length ≤ 40 * U.length := flatten_len (fun r hr => by
      obtain ⟨k, hk, rfl⟩ := List.getElem_of_mem hr
      have e' : U.getD k [] = U[k] := by simp [List.getD_eq_getElem?_getD, List.getElem?_eq_getElem hk]
      have a := (gp.2.2.2.2 k hk).1
      rw [e'] at a
      have c := sizes_bd hg (k := k) (by have := gp.2.2.1; omega)
      omega)
    have := gp.2.2.1
    omega
  have wsl : IntKind.i64.wrap ((sl : Int) - 1) = (sl : Int) - 1 := IntWalk.i64_in _ (by omega)
  clear e1 e2 hd hg gp hl hown h0
  go_enter Try.func58, Try.ntmps58
  go_wp2_with (go_at_call 57; refine (sput_any base _ _ l _ _ OW.out.1 OW.out.2.1 (by have := HLl.out; omega) (by omega) (by omega)).mono ?_; rintro e w1 ⟨⟨v1, rfl, ho1⟩, hg1, hb1⟩)
  have OW1 : Hid (Own8 w1 base w.heap.size #[.slice sa sl sc, .slice ua ul uc] 59 v1 (l ++ [(sl : Int)])) := OW.out.put (by decide) ho1 hg1
  have B1 : Hid (Below base w w1) := BB.out.trans hb1
  clear ho1 hg1 hb1 OW BB
  go_loopw [0, 16] (fun bv i wr => ∃ k : Nat, k ≤ sl ∧ i = .int .i64 k ∧ Hid (Own8 wr base w.heap.size #[.slice sa sl sc, .slice ua ul uc] 59 bv (l ++ [(sl : Int)] ++ S.take k)) ∧ Hid (Below base w wr)) (fun _ i _ => sl - (intOf i).toNat)
  case atStart => exact ⟨0, Nat.zero_le _, rfl, by simpa using OW1, B1⟩
  case round =>
    obtain ⟨k, hk, rfl, OW2, B2⟩ := hrel
    obtain ⟨d0, d1⟩ := box_two OW2.out.2.2
    by_cases hlt : k < sl
    · have hkn : (k : Int) < (sl : Int) := by omega
      obtain ⟨b, off, rfl, hb, hcell, hi64⟩ := (HD.out.below (HB0.out _ B2.out)).size_cell hlt
      have c0 := hcell k hlt
      have bd := sizes_bd HG.out (k := k) (by rw [← E1.out]; exact hlt)
      obtain ⟨x, hx⟩ : ∃ x, S.getD k 0 = x := ⟨_, rfl⟩
      rw [hx] at c0 bd
      have HX : Hid (S.getD k 0 = x) := hx
      clear hcell hi64 hx
      go_wp2_with (go_at_call 57; refine (sput_any base _ _ (l ++ [(sl : Int)] ++ S.take k) _ _ OW2.out.1 OW2.out.2.1 (by have := HLl.out; simp; omega) (by omega) (by omega)).mono ?_; rintro e w2 ⟨⟨v2, rfl, ho2⟩, hg2, hb2⟩)
      go_roundw
      case rel =>
        refine ⟨k + 1, by omega, by go_num, ?_, B2.out.trans hb2⟩
        have := OW2.out.put (by decide) ho2 hg2
        rw [take_snoc1 S k (by rw [← E1.out]; exact hlt), HX.out, ← List.append_assoc]
        exact this
      case measure => simp [intOf]; omega
    · obtain rfl : k = sl := by omega
      clear hlt
      rw [E1.out, List.take_length, ← E1.out] at OW2
      go_wp2
      go_loopw [0, 29] (fun bv i wr => ∃ m : Nat, m ≤ ul ∧ i = .int .i64 m ∧ Hid (Own8 wr base w.heap.size #[.slice sa k sc, .slice ua ul uc] 59 bv (l ++ [(k : Int)] ++ S ++ (U.take m).flatten)) ∧ Hid (Below base w wr)) (fun _ i _ => ul - (intOf i).toNat)
      case atStart => exact ⟨0, Nat.zero_le _, rfl, by simpa using OW2, B2⟩
      case round =>
        obtain ⟨m, hm, rfl, OW3, B3⟩ := hrel
        obtain ⟨d2, d3⟩ := box_two OW3.out.2.2
        by_cases hlt : m < ul
        · have hm1 : decide ((m : Int) < (k : Int) - 1) = true := decide_eq_true (by have := eul.out; omega)
          have hm2 : (m : Int) < (k : Int) := by have := eul.out; omega
          have hm3 : (m : Int) < (ul : Int) := by omega
          obtain ⟨b, off, rfl, hb, hcell, hi64⟩ := (HD.out.below (HB0.out _ B3.out)).size_cell (k := m) (by have := eul.out; omega)
          have c0 := hcell m (by have := eul.out; omega)
          have bd := sizes_bd HG.out (k := m) (by rw [← E1.out]; have := eul.out; omega)
          have gu := (good_p HG.out).2.2.2.2 m (by rw [← E2.out]; exact hlt)
          obtain ⟨gu1, gu2⟩ := gu
          have gs := sizes_bd HG.out (k := m + 1) (by rw [← E1.out]; have := eul.out; omega)
          obtain ⟨x, hx⟩ : ∃ x, (U.getD m []).length = x := ⟨_, rfl⟩
          rw [← gu1, hx] at c0 bd
          have HX : Hid ((U.getD m []).length = x) := hx
          have HUM : Hid (∀ y ∈ U.getD m [], 0 ≤ y ∧ y ≤ 40) := hid fun y hy => by have := gu2 y hy; omega
          have HFM : Hid ((U.take m).flatten.length ≤ 120) := by
            have h1 : (U.take m).flatten.length ≤ U.flatten.length := by
              conv => rhs; rw [← List.take_append_drop m U]
              rw [List.flatten_append, List.length_append]; omega
            exact Nat.le_trans h1 HLU.out
          clear hcell hi64 hx gu1 gu2 gs
          go_wp2
          go_loopw [0, 37] (fun bv i wr => ∃ j : Nat, j ≤ x ∧ i = .int .i64 j ∧ Hid (Own8 wr base w.heap.size #[.slice (some ⟨b, off, none⟩) k sc, .slice ua ul uc] 59 bv (l ++ [(k : Int)] ++ S ++ (U.take m).flatten ++ (U.getD m []).take j)) ∧ Hid (Below base w wr)) (fun _ i _ => x - (intOf i).toNat)
          case atStart => exact ⟨0, Nat.zero_le _, rfl, by simpa using OW3, B3⟩
          case round =>
            obtain ⟨j, hj, rfl, OW4, B4⟩ := hrel
            obtain ⟨d4, d5⟩ := box_two OW4.out.2.2
            by_cases hltj : j < x
            · have hj1 : (j : Int) < (x : Int) := by omega
              obtain ⟨b2, off2, rfl, hb2, ra, rl, rc, hcu, hru, hlu⟩ := (HD.out.below (HB0.out _ B4.out)).up_cell hlt
              have hrl : rl = x := by rw [hru.lens.1, HX.out]
              subst hrl
              obtain ⟨b3, off3, rfl, hb3, hc3⟩ := hru.cell hltj
              have c3 := hc3 j hltj
              have bj := getD_of HUM.out j (by rw [HX.out]; exact hltj)
              obtain ⟨y, hy⟩ : ∃ y, (U.getD m []).getD j 0 = y := ⟨_, rfl⟩
              rw [hy] at c3 bj
              have HY : Hid ((U.getD m []).getD j 0 = y) := hy
              clear hc3 hy hru hlu
              have HTJ : Hid (((U.getD m []).take j).length ≤ 40) := by show _ ≤ _; rw [List.length_take]; omega
              go_wp2_with (go_at_call 57; refine (sput_any base _ _ (l ++ [(k : Int)] ++ S ++ (U.take m).flatten ++ (U.getD m []).take j) _ _ OW4.out.1 OW4.out.2.1 (by have a1 := HLl.out; have a2 := HFM.out; have a3 := HTJ.out; have a4 := E1.out; simp only [List.length_append, List.length_singleton]; omega) (by omega) (by omega)).mono ?_; rintro e w4 ⟨⟨v4, rfl, ho4⟩, hg4, hb4⟩)
              go_roundw
              case rel =>
                refine ⟨j + 1, by omega, by go_num, ?_, B4.out.trans hb4⟩
                have := OW4.out.put (by decide) ho4 hg4
                rw [take_snoc1 (U.getD m []) j (by rw [HX.out]; exact hltj), HY.out, ← List.append_assoc]
                exact this
              case measure => simp [intOf]; omega
            · obtain rfl : j = x := by omega
              go_wp2
              go_roundw
              case rel =>
                refine ⟨m + 1, by omega, by go_num, ?_, B4⟩
                rw [flat_snoc U m (by rw [← E2.out]; exact hlt), ← List.append_assoc]
                rw [← HX.out, List.take_length] at OW4
                exact OW4
              case measure => simp [intOf]; omega
        · have hm1 : decide ((m : Int) < (k : Int) - 1) = false := decide_eq_false (by have := eul.out; omega)
          obtain rfl : m = ul := by omega
          rw [E2.out, List.take_length, HFLAT.out, ← E2.out] at OW3
          go_wp2
          go_ret
          exact ⟨⟨_, rfl, OW3.out.1⟩, B3.out⟩

end Go.Proofs.Ytmlnfpefemchhaa

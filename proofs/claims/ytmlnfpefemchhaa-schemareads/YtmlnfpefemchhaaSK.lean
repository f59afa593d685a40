/-
  What the document's own Bytes returns.
  Conditions: as each theorem states them.
-/
import Derived.Test.YtmlnfpefemchhaaSJ
import Derived.Test.YtmlnfpefemchhaaSD
import Derived.Deep.Cut
import Derived.Deep.DeepCutAuto
import Derived.Deep.CutRange
namespace Go.Proofs.Ytmlnfpefemchhaa
open Go.ChangeShapes Go.WideShapes Go.ChangeAt Go.RowKit
set_option linter.unusedVariables false
set_option linter.unusedSimpArgs false

theorem rdigits_small (x : Int) (w : World) (h0 : 0 ≤ x) (h1 : x ≤ 40) :
    Calls Try.prog 47 #[.int .u64 x] w fun e w' => (∃ g cap : Nat, e = .returned (.slice (some ⟨g, 0, none⟩) 1 cap) ∧ code.Row8 w' (some ⟨g, 0, none⟩) 1 cap [x] ∧ g < w'.heap.size ∧ w'.cell? ⟨g, 0, none⟩ = some (.int .u8 x)) ∧ Below w.heap.size w w' := by
  refine (code.rdigits_any x w (by unfold U64; omega)).mono ?_
  rintro e w' ⟨⟨g, cap, rfl, h2⟩, hb⟩
  have hd : code.digs x = [x] := digs_small (by omega)
  rw [hd] at h2 ⊢
  have hr : IRow .u8 w' (some ⟨g, 0, none⟩) 1 cap [x] := own_row (k := .u8) (n := 1) h2
  obtain ⟨_, hl1, hl2⟩ := owns_lies (k := .u8) (n := 1) (l := [x]) h2
  exact ⟨⟨g, cap, rfl, row8_of hr (by intro y hy; simp at hy; subst hy; unfold U8; omega), hl1, by simpa using hl2 0 (by simp)⟩, hb⟩
theorem Own8.below {w w' : World} {base D : Nat} {cs : Array Value} {t : TypeId} {v : Value} {l : List Int} (h : Own8 w base D cs t v l) (hb : Below w.heap.size w w') : Own8 w' base D cs t v l := by
  refine ⟨h.1.kept (below_grow hb none) (by cases hv : v.ownBlock <;> simp), Nat.le_trans h.2.1 hb.size, ?_⟩
  have hlt : D < w.heap.size := by
    by_cases hh : D < w.heap.size
    · exact hh
    · have := h.2.2; rw [Array.getElem?_eq_none (by omega)] at this; cases this
  rw [hb.block D hlt]; exact h.2.2
theorem append_small {w1 : World} {ops : Array Oper} {rest : List Oper} {o : Oper} {a : Act} {Q : Exit → Act → World → Prop} (hgd : o.guard = none) (s x : Operand)
    (ho : o.op = .call { callee := .builtin .append, args := #[s, x], argTypes := #[22, 22] }) (base D : Nat) (cs : Array Value) (t : TypeId) (v : Value) (l : List Int) (y : Int) (g cap : Nat)
    (hs : a.eval s = v) (hown : Own8 w1 base D cs t v l) (hx : a.eval x = .slice (some ⟨g, 0, none⟩) 1 cap) (hc : w1.cell? ⟨g, 0, none⟩ = some (.int .u8 y)) (hl : l.length ≤ 100000) (ht : ¬ 5 = t)
    (h : ∀ v' w', Own8 w' base D cs t v' (l ++ [y]) → Below base w1 w' → wpList Try.prog ops Q rest (a.put o.dst v') w') : wpList Try.prog ops Q (o :: rest) a w1 := by
  obtain ⟨i0, hi, hz0, hz1, hz2⟩ := info_parts code.info_u8
  refine wpList_append_own _ hgd s x 22 ho base 5 i0 (.int .u8 0) 1 1 Try.underlying22 hi hz0 hz1 hz2 rfl (by decide) v l.length (vals .u8 l) hs hown.1 ⟨g, 0, none⟩ 1 cap [.int .u8 y] hx rfl (cell_at0 hc) (by intro u hu; simp at hu; subst hu; rfl) (by unfold maxLen; omega) (by omega) hown.2.1 ?_
  intro v' w2 hown2 hgrow2 _
  have e : vals .u8 l ++ [.int .u8 y] = vals .u8 (l ++ [y]) := by simp [vals]
  rw [e] at hown2
  exact h v' w2 (hown.put ht hown2 hgrow2) (grow_below hgrow2 hown.2.1 (fun j hj => (hown.1.lt j hj).1))
theorem own_mono {w : World} {base base' : Nat} {e : TypeId} {size : Nat} {v : Value} {n : Nat} {xs : List Value} (h : w.ownsRow base e size v n xs) (hb : base' ≤ base) : w.ownsRow base' e size v n xs := by
  refine ⟨h.1, ?_⟩
  rcases h.2 with h' | ⟨g, cap, cur, e', hg, r⟩
  · exact .inl h'
  · exact .inr ⟨g, cap, cur, e', Nat.le_trans hb hg, r⟩
theorem flat_small2 {S : List Int} {U : List (List Int)} (hg : good S U = true) : U.flatten.length ≤ 120 := by
  have gp := good_p hg
  have h2 : U.flatten.length ≤ 40 * U.length := flatten_len (fun r hr => by
    obtain ⟨k, hk, rfl⟩ := List.getElem_of_mem hr
    have e' : U.getD k [] = U[k] := by simp [List.getD_eq_getElem?_getD, List.getElem?_eq_getElem hk]
    have a := (gp.2.2.2.2 k hk).1
    rw [e'] at a
    have c := sizes_bd hg (k := k) (by have := gp.2.2.1; omega)
    omega)
  have := gp.2.2.1
  have := gp.2.1
  omega
theorem row8_carry {w w' : World} {g cap : Nat} {x : Int} (h : code.Row8 w (some ⟨g, 0, none⟩) 1 cap [x] ∧ g < w.heap.size ∧ w.cell? ⟨g, 0, none⟩ = some (.int .u8 x)) (hb : Below w.heap.size w w') : code.Row8 w' (some ⟨g, 0, none⟩) 1 cap [x] := h.1.below hb

set_option maxHeartbeats 4000000 in
set_option maxRecDepth 100000 in
theorem rbytes_any (a : Option Addr) (n c : Nat) (ds : Dims) (M : Int) (w : World) (hc : Cat w a n c ds) (hM : I64 M) :
    Calls Try.prog 11 #[.agg #[.slice a n c, .int .i64 M]] w fun e w' => (∃ v, e = .returned v ∧ w'.ownsRow (w.heap.size + 1) 5 1 v (bytesC ds M).length (vals .u8 (bytesC ds M))) ∧ Below w.heap.size w w' := by
  obtain ⟨e1, e2⟩ := hc.lens
  have E1 : Hid (n = ds.length) := e1
  have HC : Hid (Cat w a n c ds) := hc
  have HM : Hid (I64 M) := hM
  have BX : Hid (Bx w (w.alloc (.cells #[.slice a n c, .int .i64 M] 25)) (.slice a n c) (.int .i64 M)) := bx_new _ _ _ _
  clear e1 hc hM
  cases hg : goodC ds M with
  | false =>
    have HG : Hid (goodC ds M = false) := hg
    go_enter Try.func11, Try.ntmps11
    go_wp2_with (go_at_call 37; refine (rgoodC_any _ _ _ _ _ _ (HC.out.below BX.out.2.1) HM.out).mono ?_; rintro e w1 ⟨rfl, hb⟩)
    go_ret
    exact ⟨⟨_, rfl, by rw [bytesC_bad HG.out]; exact World.ownsRow_nil _ _ _ _⟩, bt BX.out.2.1 hb⟩
  | true =>
    have HG : Hid (goodC ds M = true) := hg
    obtain ⟨g1, g2, g3, g4, g5⟩ := goodC_p hg
    have n1 : 1 ≤ n := by rw [E1.out]; exact g1
    have n4 : n ≤ 4 := by rw [E1.out]; exact g2
    have HDL : Hid (∀ k, ((ds.take k).flatMap numsD).length ≤ 500) := hid fun k => dims_len HG.out k
    have wM : IntKind.u64.wrap M = M := IntWalk.u64_in _ (by omega)
    have wn : IntKind.u64.wrap (n : Int) = (n : Int) := IntWalk.u64_in _ (by omega)
    clear g1 g2 g5
    go_enter Try.func11, Try.ntmps11
    go_upto_region 3 with (go_at_call 37; refine (rgoodC_any _ _ _ _ _ _ (HC.out.below BX.out.2.1) HM.out).mono ?_; rintro e w1 ⟨rfl, hb⟩; have hb' : Below (w.heap.size + 1) (w.alloc (.cells #[.slice a n c, .int .i64 M] 25)) w1 := (by simpa using hb); obtain ⟨_, c0, c1⟩ := box_cat hb')
    have HB1 : Hid (Below (w.heap.size + 1) (w.alloc (.cells #[.slice a n c, .int .i64 M] 25)) w1) := hb'
    have hz1 : w.heap.size < w1.heap.size := box_sz hb'
    have KS : Hid (∀ x', Below w1.heap.size w1 x' → Below w1.heap.size w1 x' ∧ x'.cell? ⟨w.heap.size, 0, none⟩ = some (.slice a n c) ∧ x'.cell? ⟨w.heap.size, 1, none⟩ = some (.int .i64 M)) :=
      hid fun x' hB => ⟨hB, ((bcell hB).1 _ _ hz1).trans c0, ((bcell hB).1 _ _ hz1).trans c1⟩
    clear hb hb'
    go_cut [3] (fun v wx => Hid (wx.ownsRow (w.heap.size + 1) 5 1 v ([M, (n : Int)] ++ (ds.take 0).flatMap numsD).length (vals .u8 ([M, (n : Int)] ++ (ds.take 0).flatMap numsD))) ∧ Hid (Below (w.heap.size + 1) (w.alloc (.cells #[.slice a n c, .int .i64 M] 25)) wx))
    case first =>
      have t1 : True := trivial
      go_region_held3 (fun w' => Below w1.heap.size w1 w' ∧ w'.cell? ⟨w.heap.size, 0, none⟩ = some (.slice a n c) ∧ w'.cell? ⟨w.heap.size, 1, none⟩ = some (.int .i64 M))
        (first | assumption | exact keep_drew KS | exact keep_step (by assumption) (by assumption) KS)
        (first
          | (go_at_call 47; clear t1; refine (rdigits_small _ _ (by omega) (by omega)).mono ?_; rintro e w5 ⟨⟨g5, cap5, rfl, h5⟩, hb5⟩)
          | (go_at_call 47; refine (rdigits_small _ _ (by omega) (by omega)).mono ?_; rintro e w6 ⟨⟨g6, cap6, rfl, h6⟩, hb6⟩)
          | (go_at_call 46; refine (code.bytes_any _ _ _ _ _ _ _ _ _ (by first | exact h6.1 | exact row8_carry h5 hb6) (by first | exact h6.1 | exact row8_carry h5 hb6) (by decide)).mono ?_; rintro e w7 ⟨⟨g7, cap7, rfl, h7⟩, hb7⟩))
      all_goals
        go_wp2_with fail
        go_meet
        refine ⟨hid ?_, hid (HB1.out.trans ((bt (bt (undrew hb5) hb6) hb7).mono (box_sz HB1.out)))⟩
        have hm := own_mono h7 (base' := w.heap.size + 1) (Nat.le_trans (box_sz HB1.out) (bt (undrew hb5) hb6).size)
        rw [vals8] at hm
        simpa using hm
    case rest =>
      obtain ⟨HO2, HB2⟩ := hcut
      clear KS c0 c1 HB1 hz1
      go_wp2
      go_loopw [3, 4] (fun bv i wr => ∃ k : Nat, k ≤ n ∧ i = .int .i64 k ∧ Hid (wr.ownsRow (w.heap.size + 1) 5 1 bv ([M, (n : Int)] ++ (ds.take k).flatMap numsD).length (vals .u8 ([M, (n : Int)] ++ (ds.take k).flatMap numsD))) ∧ Hid (Below (w.heap.size + 1) (w.alloc (.cells #[.slice a n c, .int .i64 M] 25)) wr)) (fun _ i _ => n - (intOf i).toNat)
      case atStart => exact ⟨0, Nat.zero_le _, rfl, HO2, HB2⟩
      case round =>
        obtain ⟨k, hk, rfl, HO4, HB4⟩ := hrel
        rename World => Wr
        obtain ⟨bel, c0, c1⟩ := box_cat HB4.out
        by_cases hlt : k < n
        · have hkn : (k : Int) < (n : Int) := by omega
          obtain ⟨b, off, rfl, hb0, sa, sl, sc, ua, ul, uc, S, U, f1, f2, HDm, HSU⟩ := HC.out.get (Below.refl _ _) hlt
          have f3 := ((bcell bel).1 _ _ hb0).trans f1
          have f4 := ((bcell bel).1 _ _ hb0).trans f2
          obtain ⟨L, hL⟩ : ∃ L, [M, (n : Int)] ++ (ds.take k).flatMap numsD = L := ⟨_, rfl⟩
          have HL : Hid ([M, (n : Int)] ++ (ds.take k).flatMap numsD = L) := hL
          rw [hL] at HO4
          have HLl : Hid (L.length ≤ 502) := by
            show _ ≤ _
            rw [← hL, List.length_append]; have := HDL.out k; simp only [List.length_cons, List.length_nil]; omega
          obtain ⟨l1, l2, l3, l4⟩ := HDm.out.lens
          have E3 : Hid (sl = S.length) := l1
          have E4 : Hid (ul = U.length) := l2
          have HGD : Hid (good S U = true) := dims_good HG.out (by rw [← E1.out]; exact hlt) HSU.out
          have gp := good_p HGD.out
          have s1 : 1 ≤ sl := by rw [l1]; exact gp.1
          have s4 : sl ≤ 4 := by rw [l1]; exact gp.2.1
          have eul : Hid (ul + 1 = sl) := by show _ = _; rw [l1, l2]; exact gp.2.2.1
          have HLU : Hid (U.flatten.length ≤ 120) := flat_small2 HGD.out
          have wsl : IntKind.u64.wrap (sl : Int) = (sl : Int) := IntWalk.u64_in _ (by omega)
          clear f1 f2 hL l1 l2 gp
          have OW : Hid (Own8 (Wr.alloc (.cells #[.slice sa sl sc, .slice ua ul uc] 59)) (w.heap.size + 1) Wr.heap.size #[.slice sa sl sc, .slice ua ul uc] 59 _ L) := own8_new HO4.out (box_sz HB4.out)
          have HBD : Hid (Below (w.heap.size + 1) Wr (Wr.alloc (.cells #[.slice sa sl sc, .slice ua ul uc] 59))) := (Below.refl _ _).alloc (box_sz HB4.out) _
          have HBW : Hid (∀ wx, Below (w.heap.size + 1) Wr wx → Below w.heap.size w wx) := hid fun wx hb => bel.trans (hb.mono (Nat.le_succ _))
          go_wp2_with (first
            | (go_at_call 47; refine (rdigits_small _ _ (by omega) (by omega)).mono ?_; rintro e w5 ⟨⟨g5, cap5, rfl, h5⟩, hb5⟩)
            | (at_builtin; refine append_small rfl (.tmp 34) (.tmp 39) rfl (w.heap.size + 1) _ _ 59 _ L _ g5 cap5 rfl (OW.out.below hb5) rfl h5.2.2 (by have := HLl.out; omega) (by decide) ?_; intro v6 w6 o6 b6))
          have OW6 : Hid (Own8 w6 (w.heap.size + 1) Wr.heap.size #[.slice sa sl sc, .slice ua ul uc] 59 v6 (L ++ [(sl : Int)])) := o6
          have HB6 : Hid (Below (w.heap.size + 1) Wr w6) := HBD.out.trans ((hb5.mono OW.out.2.1).trans b6)
          clear o6 b6 hb5 h5 OW HBD f3 f4 c0 c1
          go_loopw [3, 6] (fun bv i wx => ∃ j : Nat, j ≤ sl ∧ i = .int .i64 j ∧ Hid (Own8 wx (w.heap.size + 1) Wr.heap.size #[.slice sa sl sc, .slice ua ul uc] 59 bv (L ++ [(sl : Int)] ++ S.take j)) ∧ Hid (Below (w.heap.size + 1) Wr wx)) (fun _ i _ => sl - (intOf i).toNat)
          case atStart => exact ⟨0, Nat.zero_le _, rfl, by simpa using OW6, HB6⟩
          case round =>
            obtain ⟨j, hj, rfl, OW7, HB7⟩ := hrel
            obtain ⟨d0, d1⟩ := box_two OW7.out.2.2
            by_cases hltj : j < sl
            · have hjn : (j : Int) < (sl : Int) := by omega
              obtain ⟨b2, off2, rfl, hb2, hcell, hi64⟩ := (HDm.out.below (HBW.out _ HB7.out)).size_cell hltj
              have c2 := hcell j hltj
              have bd := sizes_bd HGD.out (k := j) (by rw [← E3.out]; exact hltj)
              obtain ⟨x, hx⟩ : ∃ x, S.getD j 0 = x := ⟨_, rfl⟩
              rw [hx] at c2 bd
              have HX : Hid (S.getD j 0 = x) := hx
              have wx : IntKind.u64.wrap x = x := IntWalk.u64_in _ (by omega)
              clear hcell hi64 hx
              go_wp2_with (first
                | (go_at_call 47; refine (rdigits_small _ _ (by omega) (by omega)).mono ?_; rintro e w8 ⟨⟨g8, cap8, rfl, h8⟩, hb8⟩)
                | (at_builtin; refine append_small rfl (.tmp 48) (.tmp 55) rfl (w.heap.size + 1) _ _ 59 _ (L ++ [(sl : Int)] ++ S.take j) _ g8 cap8 rfl (OW7.out.below hb8) rfl h8.2.2 (by have := HLl.out; simp only [List.length_append, List.length_singleton, List.length_take]; omega) (by decide) ?_; intro v9 w9 o9 b9))
              go_roundw
              case rel =>
                refine ⟨j + 1, by omega, by go_num, ?_, HB7.out.trans ((hb8.mono OW7.out.2.1).trans b9)⟩
                rw [take_snoc1 S j (by rw [← E3.out]; exact hltj), HX.out, ← List.append_assoc]
                exact o9
              case measure => simp [intOf]; omega
            · obtain rfl : j = sl := by omega
              clear hltj
              rw [E3.out, List.take_length, ← E3.out] at OW7
              go_wp2
              go_loopw [3, 7] (fun bv i wx => ∃ m : Nat, m ≤ ul ∧ i = .int .i64 m ∧ Hid (Own8 wx (w.heap.size + 1) Wr.heap.size #[.slice sa j sc, .slice ua ul uc] 59 bv (L ++ [(j : Int)] ++ S ++ (U.take m).flatten)) ∧ Hid (Below (w.heap.size + 1) Wr wx)) (fun _ i _ => ul - (intOf i).toNat)
              case atStart => exact ⟨0, Nat.zero_le _, rfl, by simpa using OW7, HB7⟩
              case round =>
                obtain ⟨m, hm, rfl, OW8, HB8⟩ := hrel
                obtain ⟨d2, d3⟩ := box_two OW8.out.2.2
                by_cases hltm : m < ul
                · have hm3 : (m : Int) < (ul : Int) := by omega
                  have gu := (good_p HGD.out).2.2.2.2 m (by rw [← E4.out]; exact hltm)
                  obtain ⟨gu1, gu2⟩ := gu
                  have gs := sizes_bd HGD.out (k := m + 1) (by rw [← E3.out]; have := eul.out; omega)
                  have gs2 := sizes_bd HGD.out (k := m) (by rw [← E3.out]; have := eul.out; omega)
                  have HUM : Hid (∀ y ∈ U.getD m [], 0 ≤ y ∧ y ≤ 40) := hid fun y hy => by have := gu2 y hy; omega
                  have HUL : Hid ((U.getD m []).length ≤ 40) := by show _ ≤ _; omega
                  have HFM : Hid ((U.take m).flatten.length ≤ 120) := by
                    have h1 : (U.take m).flatten.length ≤ U.flatten.length := by
                      conv => rhs; rw [← List.take_append_drop m U]
                      rw [List.flatten_append, List.length_append]; omega
                    exact Nat.le_trans h1 HLU.out
                  obtain ⟨rl, hrl⟩ : ∃ rl, (U.getD m []).length = rl := ⟨_, rfl⟩
                  have HRL : Hid ((U.getD m []).length = rl) := hrl
                  have rl40 : rl ≤ 40 := by rw [← hrl]; exact HUL.out
                  clear gu1 gu2 gs gs2 hrl
                  go_wp2
                  go_loopw [3, 8] (fun bv i wx => ∃ p : Nat, p ≤ rl ∧ i = .int .i64 p ∧ Hid (Own8 wx (w.heap.size + 1) Wr.heap.size #[.slice sa j sc, .slice ua ul uc] 59 bv (L ++ [(j : Int)] ++ S ++ (U.take m).flatten ++ (U.getD m []).take p)) ∧ Hid (Below (w.heap.size + 1) Wr wx)) (fun _ i _ => rl - (intOf i).toNat)
                  case atStart => exact ⟨0, Nat.zero_le _, rfl, by simpa using OW8, HB8⟩
                  case round =>
                    obtain ⟨p, hp, rfl, OW9, HB9⟩ := hrel
                    obtain ⟨d4, d5⟩ := box_two OW9.out.2.2
                    obtain ⟨b2, off2, rfl, hb2, ra, rl', rc, hcu, hru, hlu⟩ := (HDm.out.below (HBW.out _ HB9.out)).up_cell hltm
                    have hrl' : rl' = rl := by rw [hru.lens.1, HRL.out]
                    subst hrl'
                    by_cases hltp : p < rl'
                    · have hj1 : (p : Int) < (rl' : Int) := by omega
                      obtain ⟨b3, off3, rfl, hb3, hc3⟩ := hru.cell hltp
                      have c3 := hc3 p hltp
                      have bj := getD_of HUM.out p (by rw [HRL.out]; exact hltp)
                      obtain ⟨y, hy⟩ : ∃ y, (U.getD m []).getD p 0 = y := ⟨_, rfl⟩
                      rw [hy] at c3 bj
                      have HY : Hid ((U.getD m []).getD p 0 = y) := hy
                      have wy : IntKind.u64.wrap y = y := IntWalk.u64_in _ (by omega)
                      clear hc3 hy hru hlu
                      have HTJ : Hid (((U.getD m []).take p).length ≤ 40) := by show _ ≤ _; rw [List.length_take]; omega
                      go_wp2_with (first
                        | (go_at_call 47; refine (rdigits_small _ _ (by omega) (by omega)).mono ?_; rintro e w10 ⟨⟨g10, cap10, rfl, h10⟩, hb10⟩)
                        | (at_builtin; refine append_small rfl (.tmp 74) (.tmp 84) rfl (w.heap.size + 1) _ _ 59 _ (L ++ [(j : Int)] ++ S ++ (U.take m).flatten ++ (U.getD m []).take p) _ g10 cap10 rfl (OW9.out.below hb10) rfl h10.2.2 (by have a1 := HLl.out; have a2 := HFM.out; have a3 := HTJ.out; have a4 := E3.out; simp only [List.length_append, List.length_singleton]; omega) (by decide) ?_; intro v11 w11 o11 b11))
                      go_roundw
                      case rel =>
                        refine ⟨p + 1, by omega, by go_num, ?_, HB9.out.trans ((hb10.mono OW9.out.2.1).trans b11)⟩
                        rw [take_snoc1 (U.getD m []) p (by rw [HRL.out]; exact hltp), HY.out, ← List.append_assoc]
                        exact o11
                      case measure => simp [intOf]; omega
                    · obtain rfl : p = rl' := by omega
                      clear hru hlu
                      go_wp2
                      go_roundw
                      case rel =>
                        refine ⟨m + 1, by omega, by go_num, ?_, HB9⟩
                        rw [flat_snoc U m (by rw [← E4.out]; exact hltm), ← List.append_assoc]
                        rw [← HRL.out, List.take_length] at OW9
                        exact OW9
                      case measure => simp [intOf]; omega
                · obtain rfl : m = ul := by omega
                  rw [E4.out, List.take_length, ← E4.out] at OW8
                  have HEND : Hid (L ++ [(j : Int)] ++ S ++ U.flatten = [M, (n : Int)] ++ (ds.take (k + 1)).flatMap numsD) := by
                    show _ = _
                    rw [dims_snoc ds k (by rw [← E1.out]; exact hlt), HSU.out, ← List.append_assoc, HL.out]
                    unfold numsD; rw [E3.out]; simp
                  rw [HEND.out] at OW8
                  go_wp2
                  go_roundw
                  case rel => exact ⟨k + 1, by omega, by go_num, OW8.out.1, HB4.out.trans HB8.out⟩
                  case measure => simp [intOf]; omega
        · obtain rfl : k = n := by omega
          rw [E1.out, List.take_length, ← E1.out] at HO4
          have HBN : Hid ([M, (k : Int)] ++ ds.flatMap numsD = bytesC ds M) := by
            show _ = _
            rw [bytesC_nums HG.out]; unfold nums; rw [E1.out]; rfl
          rw [HBN.out] at HO4
          clear HBN
          go_wp2
          go_ret
          exact ⟨⟨_, rfl, HO4.out⟩, bel⟩

end Go.Proofs.Ytmlnfpefemchhaa

/-
  Two catalogs of which one number is turned: lists, worlds.
  Conditions: as each theorem states them.
-/
import Derived.Test.YtcccfaeclefcoaaSV
import Derived.Test.YtcccfaeclefcoaaSG
import Derived.Test.YtcccfaeclefcoaaSR
import Derived.Test.YtcccfaeclefcoaaSD
import Derived.Test.YtcccfaeclefcoaaSO
import Derived.Deep.RegionLaw
import Derived.Deep.Cut
import Derived.Deep.DeepCutAuto
import Derived.Deep.CutRange
namespace Go.Proofs.Ytcccfaeclefcoaa
open Go.ChangeShapes Go.WideShapes Go.ChangeAt Go.RowKit
set_option linter.unusedVariables false
set_option linter.unusedSimpArgs false

theorem wrap_mod (z : Int) : (IntKind.i64.wrap z) % 18446744073709551616 = z % 18446744073709551616 := by
  simp [IntKind.wrap, IntKind.bits, IntKind.signed]
  omega
theorem wrap_i64 (z : Int) : I64 (IntKind.i64.wrap z) := by
  unfold I64
  simp [IntKind.wrap, IntKind.bits, IntKind.signed]
  omega
theorem xor_i64 (x y : Int) : I64 (bits .xor .i64 x y) := wrap_i64 _
theorem ofInt_mod {x y : Int} (h : x % 18446744073709551616 = y % 18446744073709551616) : BitVec.ofInt 64 x = BitVec.ofInt 64 y := by
  apply BitVec.eq_of_toNat_eq
  rw [BitVec.toNat_ofInt, BitVec.toNat_ofInt]
  exact congrArg Int.toNat h
theorem xor_ne {x y : Int} (h0 : 1 ≤ y) (h1 : y ≤ 1000) : ¬ bits .xor .i64 x y = x := by
  intro h
  have e1 : bits .xor .i64 x y = IntKind.i64.wrap ((BitVec.ofInt 64 x ^^^ BitVec.ofInt 64 y).toNat : Int) := rfl
  have e2 : BitVec.ofInt 64 (bits .xor .i64 x y) = BitVec.ofInt 64 x ^^^ BitVec.ofInt 64 y := by
    rw [e1, ofInt_mod (wrap_mod _)]
    apply BitVec.eq_of_toNat_eq
    rw [BitVec.toNat_ofInt]
    have := (BitVec.ofInt 64 x ^^^ BitVec.ofInt 64 y).isLt
    omega
  rw [h] at e2
  have e3 : BitVec.ofInt 64 y = 0#64 := by
    have h3 := congrArg (fun z => BitVec.ofInt 64 x ^^^ z) e2
    rw [BitVec.xor_self, ← BitVec.xor_assoc, BitVec.xor_self, BitVec.zero_xor] at h3
    exact h3.symm
  have h5 := congrArg BitVec.toNat e3
  rw [BitVec.toNat_ofInt] at h5
  have : (0#64).toNat = 0 := rfl
  rw [this] at h5
  omega
theorem set_ne {S : List Int} {k : Nat} {x : Int} (hk : k < S.length) (h : ¬ x = S.getD k 0) : ¬ S.set k x = S := by
  intro e
  have := congrArg (fun l => l.getD k 0) e
  simp only [List.getD_eq_getElem?_getD, List.getElem?_set_self hk] at this
  exact h (by simpa [List.getD_eq_getElem?_getD] using this)
/-- The catalog with one dimension turned. -/
def turned (ds : Dims) (i : Nat) (d : List Int × List (List Int)) : Dims := ds.take i ++ [d] ++ ds.drop (i + 1)
theorem turned_ne {ds : Dims} {i : Nat} {d : List Int × List (List Int)} (hi : i < ds.length) (h : ¬ d = ds.getD i ([], [])) : ¬ turned ds i d = ds := by
  intro e
  have := congrArg (fun l => l.getD i ([], [])) e
  unfold turned at this
  simp only [List.getD_eq_getElem?_getD] at this
  rw [List.append_assoc, List.getElem?_append_right (by rw [List.length_take]; omega), List.length_take, Nat.min_eq_left (by omega), Nat.sub_self] at this
  simp at this
  exact h (by rw [this]; simp [List.getD_eq_getElem?_getD])
theorem sameC_comm (ds es : Dims) (M N : Int) : sameC es N ds M = sameC ds M es N := by
  unfold sameC
  congr 1
  exact propext ⟨fun ⟨a, b⟩ => ⟨a.symm, b.symm⟩, fun ⟨a, b⟩ => ⟨a.symm, b.symm⟩⟩
/-- What came in, in its boxes; the first copy. -/
def Q4 (w wr : World) (C : Nat) (av bv wv cv : Array Value) : Prop := Below w.heap.size w wr ∧ w.heap.size + 2 < C ∧ wr.heap[w.heap.size]? = some (.cells av 24) ∧ wr.heap[w.heap.size + 1]? = some (.cells bv 24) ∧ wr.heap[w.heap.size + 2]? = some (.cells wv 35) ∧ wr.heap[C]? = some (.cells cv 24)
theorem Q4.grow {w wr w' : World} {C : Nat} {av bv wv cv : Array Value} {row : Option Nat} (h : Q4 w wr C av bv wv cv) (hg : wr.grownBy w' row) (hr : ∀ j, row = some j → C < j) : Q4 w w' C av bv wv cv := by
  obtain ⟨h1, h2, h3, h4, h5, h6⟩ := h
  exact ⟨h1.grown hg h1.size (fun j hj => by have := hr j hj; omega), h2, grown_keeps hg h3 (fun j hj => by have := hr j hj; omega), grown_keeps hg h4 (fun j hj => by have := hr j hj; omega), grown_keeps hg h5 (fun j hj => by have := hr j hj; omega), grown_keeps hg h6 (fun j hj => by have := hr j hj; omega)⟩
theorem Q4.step {w wr w' : World} {C : Nat} {av bv wv cv : Array Value} (h : Q4 w wr C av bv wv cv) (hb : Below wr.heap.size wr w') : Q4 w w' C av bv wv cv := h.grow (below_grow hb none) (fun j hj => by cases hj)
/-- The three boxes. -/
def Q3 (w wr : World) (av bv wv : Array Value) : Prop := Below w.heap.size w wr ∧ wr.heap[w.heap.size]? = some (.cells av 24) ∧ wr.heap[w.heap.size + 1]? = some (.cells bv 24) ∧ wr.heap[w.heap.size + 2]? = some (.cells wv 35)
theorem Q3.step {w wr w' : World} {av bv wv : Array Value} (h : Q3 w wr av bv wv) (hb : Below wr.heap.size wr w') : Q3 w w' av bv wv := by
  obtain ⟨h1, h2, h3, h4⟩ := h
  have g := below_grow hb none
  exact ⟨bt h1 hb, grown_keeps g h2 (fun j hj => by cases hj), grown_keeps g h3 (fun j hj => by cases hj), grown_keeps g h4 (fun j hj => by cases hj)⟩
theorem q3_new (w : World) (av bv wv : Array Value) : Q3 w (((w.alloc (.cells av 24)).alloc (.cells bv 24)).alloc (.cells wv 35)) av bv wv := by
  refine ⟨(((Below.refl _ _).alloc (Nat.le_refl _) _).alloc (by simp) _).alloc (by simp; omega) _, ?_, ?_, ?_⟩
  · exact grown_keeps (World.grownBy_alloc _ _ none) (grown_keeps (World.grownBy_alloc _ _ none) (heap_alloc_new w _) (fun j hj => by cases hj)) (fun j hj => by cases hj)
  · have := heap_alloc_new (w.alloc (.cells av 24)) (.cells bv 24)
    rw [World.size_alloc] at this
    exact grown_keeps (World.grownBy_alloc _ _ none) this (fun j hj => by cases hj)
  · have := heap_alloc_new ((w.alloc (.cells av 24)).alloc (.cells bv 24)) (.cells wv 35)
    rw [World.size_alloc, World.size_alloc] at this
    exact this
theorem q4_new {w wr : World} {av bv wv : Array Value} (h : Q3 w wr av bv wv) (cv : Array Value) : Q4 w (wr.alloc (.cells cv 24)) wr.heap.size av bv wv cv := by
  obtain ⟨h1, h2, h3, h4⟩ := h
  have g := World.grownBy_alloc wr (.cells cv 24) none
  exact ⟨h1.alloc h1.size _, heap_lt h4, grown_keeps g h2 (fun j hj => by cases hj), grown_keeps g h3 (fun j hj => by cases hj), grown_keeps g h4 (fun j hj => by cases hj), heap_alloc_new _ _⟩
theorem box3 {w : World} {D : Nat} {t : TypeId} {a b c : Value} (hD : w.heap[D]? = some (.cells #[a, b, c] t)) : w.cell? ⟨D, 0, none⟩ = some a ∧ w.cell? ⟨D, 1, none⟩ = some b ∧ w.cell? ⟨D, 2, none⟩ = some c := by
  refine ⟨?_, ?_, ?_⟩ <;> simp [World.cell?, hD]
/-- A catalog's pairs of cells. -/
theorem cat_pairs {w : World} {b off n c : Nat} {ds : Dims} (h : Cat w (some ⟨b, off, none⟩) n c ds) (hn : 0 < n) : ∃ ps, Pairs w ps ds ∧ ps.length = n ∧ ∀ j u, (flat2 ps)[j]? = some u → w.cell? ⟨b, off + j, none⟩ = some u ∧ u.oneCell' = true := by
  obtain ⟨h1, h2, h3, h4, h5⟩ := h
  obtain ⟨b', off', e, hb, hc⟩ := h5 hn
  cases e
  have each : ∀ i, i < n → ∃ p : Value × Value, w.cell? ⟨b, off + i * 2, none⟩ = some p.1 ∧ w.cell? ⟨b, off + (i * 2 + 1), none⟩ = some p.2 ∧ (∃ sa sl sc ua ul uc, p = (.slice sa sl sc, .slice ua ul uc) ∧ Dim w sa sl sc ua ul uc (ds.getD i ([], [])).1 (ds.getD i ([], [])).2) := by
    intro i hi
    obtain ⟨sa, sl, sc, ua, ul, uc, c1, c2, hd⟩ := hc i hi
    exact ⟨(_, _), c1, c2, sa, sl, sc, ua, ul, uc, rfl, hd⟩
  obtain ⟨p, hp⟩ := Go.Deep.choose_lt each
  have eg : ∀ i, i < n → ((List.range n).map p)[i]? = some (p i) := fun i hi => by rw [List.getElem?_map, List.getElem?_range hi]; rfl
  refine ⟨(List.range n).map p, ⟨by simp [h1], fun j hj => ?_⟩, by simp, fun j u hu => ?_⟩
  · obtain ⟨_, _, sa, sl, sc, ua, ul, uc, e, hd⟩ := hp j (by omega)
    exact ⟨sa, sl, sc, ua, ul, uc, by rw [eg j (by omega), e], hd⟩
  · have hj : j / 2 < n := by
      have : j < (flat2 ((List.range n).map p)).length := by
        by_cases hh : j < (flat2 ((List.range n).map p)).length
        · exact hh
        · rw [List.getElem?_eq_none (by omega)] at hu; cases hu
      rw [flat2_len] at this
      simp at this
      omega
    obtain ⟨c1, c2, sa, sl, sc, ua, ul, uc, e, hd⟩ := hp (j / 2) hj
    obtain ⟨f1, f2⟩ := flat2_get _ _ _ (eg (j / 2) hj)
    by_cases hm : j % 2 = 0
    · rw [show j / 2 * 2 = j by omega] at f1 c1
      rw [hu] at f1
      cases f1
      exact ⟨c1, by rw [e]; rfl⟩
    · rw [show j / 2 * 2 + 1 = j by omega] at f2 c2
      rw [hu] at f2
      cases f2
      exact ⟨c2, by rw [e]; rfl⟩
theorem flat2_take (ps : List (Value × Value)) (i : Nat) : flat2 (ps.take i) = (flat2 ps).take (i * 2) := by
  induction ps generalizing i with
  | nil => simp [flat2]
  | cons p r ih =>
    obtain ⟨x, y⟩ := p
    cases i with
    | zero => simp [flat2]
    | succ i => rw [List.take_succ_cons, show (i + 1) * 2 = i * 2 + 1 + 1 by omega]; simp [flat2, ih]
theorem flat2_drop (ps : List (Value × Value)) (i : Nat) : flat2 (ps.drop i) = (flat2 ps).drop (i * 2) := by
  induction ps generalizing i with
  | nil => simp [flat2]
  | cons p r ih =>
    obtain ⟨x, y⟩ := p
    cases i with
    | zero => simp [flat2]
    | succ i => rw [List.drop_succ_cons, show (i + 1) * 2 = i * 2 + 1 + 1 by omega]; simp [flat2, ih]
theorem flat2_append (ps qs : List (Value × Value)) : flat2 (ps ++ qs) = flat2 ps ++ flat2 qs := by
  induction ps with
  | nil => rfl
  | cons p r ih => obtain ⟨x, y⟩ := p; simp [flat2, ih]
theorem Pairs.take {w : World} {ps : List (Value × Value)} {ds : Dims} (h : Pairs w ps ds) (i : Nat) : Pairs w (ps.take i) (ds.take i) := by
  refine ⟨by rw [List.length_take, List.length_take, h.1], fun j hj => ?_⟩
  rw [List.length_take] at hj
  obtain ⟨sa, sl, sc, ua, ul, uc, h1, h2⟩ := h.2 j (by omega)
  refine ⟨sa, sl, sc, ua, ul, uc, by rw [List.getElem?_take, if_pos (by omega)]; exact h1, ?_⟩
  rw [List.getD_eq_getElem?_getD, List.getElem?_take, if_pos (by omega), ← List.getD_eq_getElem?_getD]
  exact h2
theorem Pairs.drop {w : World} {ps : List (Value × Value)} {ds : Dims} (h : Pairs w ps ds) (i : Nat) : Pairs w (ps.drop i) (ds.drop i) := by
  refine ⟨by rw [List.length_drop, List.length_drop, h.1], fun j hj => ?_⟩
  rw [List.length_drop] at hj
  obtain ⟨sa, sl, sc, ua, ul, uc, h1, h2⟩ := h.2 (i + j) (by omega)
  refine ⟨sa, sl, sc, ua, ul, uc, by rw [List.getElem?_drop]; exact h1, ?_⟩
  rw [List.getD_eq_getElem?_getD, List.getElem?_drop, ← List.getD_eq_getElem?_getD]
  exact h2
theorem Pairs.app {w : World} {ps qs : List (Value × Value)} {ds es : Dims} (h : Pairs w ps ds) (h' : Pairs w qs es) : Pairs w (ps ++ qs) (ds ++ es) := by
  refine ⟨by rw [List.length_append, List.length_append, h.1, h'.1], fun j hj => ?_⟩
  rw [List.length_append] at hj
  by_cases hl : j < ds.length
  · obtain ⟨sa, sl, sc, ua, ul, uc, h1, h2⟩ := h.2 j hl
    refine ⟨sa, sl, sc, ua, ul, uc, by rw [List.getElem?_append_left (by rw [h.1]; exact hl)]; exact h1, ?_⟩
    rw [List.getD_eq_getElem?_getD, List.getElem?_append_left hl, ← List.getD_eq_getElem?_getD]
    exact h2
  · obtain ⟨sa, sl, sc, ua, ul, uc, h1, h2⟩ := h'.2 (j - ds.length) (by omega)
    refine ⟨sa, sl, sc, ua, ul, uc, by rw [List.getElem?_append_right (by rw [h.1]; omega), h.1]; exact h1, ?_⟩
    rw [List.getD_eq_getElem?_getD, List.getElem?_append_right (by omega), ← List.getD_eq_getElem?_getD]
    exact h2
theorem pairs_one {w : World} {sa : Option Addr} {sl sc : Nat} {ua : Option Addr} {ul uc : Nat} {S : List Int} {U : List (List Int)} (h : Dim w sa sl sc ua ul uc S U) : Pairs w [(.slice sa sl sc, .slice ua ul uc)] [(S, U)] := by
  have := (pairs_nil w).snoc h
  exact this
/-- At a step of a region that draws: any slice of pairs, empty or not, behind a row of one's own. -/
theorem step_append_own {P : Program} (w : World) {ops : Array Oper} {o : Oper} {a : Act} {K : Act → World → Prop} {Q : Exit → Act → World → Prop} {E : Prop} (hgd : o.guard = none) (s x : Operand) (t : TypeId)
    (ho : o.op = .call { callee := .builtin .append, args := #[s, x], argTypes := #[t, t] })
    (base : Nat) (e : TypeId) (i : TypeInfo) (z : Value) (size bytes : Nat) (ht : P.underlying t = some (.slice e)) (hi : P.info? e = some i) (hz : i.zero = some z)
    (hsize : i.size = size) (hby : i.bytes = bytes) (hzs : z.cells.size = size) (hsz : 0 < size)
    (v : Value) (n : Nat) (xs : List Value) (hs : a.eval s = v) (hown : w.ownsRow base e size v n xs)
    (ad : Addr) (m c : Nat) (news : List Value) (hx : a.eval x = .slice (some ad) m c) (hl : news.length = m * size) (hnews : ∀ j u, news[j]? = some u → w.cell? (ad.add j) = some u) (h1 : ∀ u ∈ news, u.oneCell' = true)
    (h63 : n + m ≤ maxLen) (hbytes : (n + m) * bytes ≤ 140737488355328) (hbase : base ≤ w.heap.size)
    (h : ∀ v' w', w'.ownsRow base e size v' (n + m) (xs ++ news) → w.grownBy w' v.ownBlock → K (a.put o.dst v') w') :
    if Region.wanted o (yielded ops a.tmps) = true then Oper.wp P o a w K Q else E := by
  have hw : Region.wanted o (yielded ops a.tmps) = true := by simp [Region.wanted, hgd]
  rw [if_pos hw]
  obtain ⟨v', w', hr, h2, h3, _⟩ := run_append_own (P := P) w base t o.type e i z size bytes ht hi hz hsize hby hzs hsz v n xs hown ad m c news hl hnews h1 h63 hbytes hbase
  unfold Oper.wp execOp
  simp only [ho, resolve, invoke, builtin, Sem.run_bind, Sem.run_pure, Result.andThen_ok, List.map_toArray, List.map_cons, List.map_nil, hs, hx, hr]
  exact h v' w' h2 h3

end Go.Proofs.Ytcccfaeclefcoaa

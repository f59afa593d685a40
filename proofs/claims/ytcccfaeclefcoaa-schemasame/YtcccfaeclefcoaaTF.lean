/-
  Two catalogs are alike just if all that they have is: the walk of the law SchemaSame.
  Conditions: as each theorem states them.
-/
import Derived.Test.YtcccfaeclefcoaaTE
import Derived.Test.YtcccfaeclefcoaaSQ
namespace Go.Proofs.Ytcccfaeclefcoaa
open Go.ChangeShapes Go.WideShapes Go.ChangeAt Go.RowKit
set_option linter.unusedVariables false
set_option linter.unusedSimpArgs false

theorem turn_alloc {w14 w' : World} {Q : World → Prop} {R : Prop} {o : Obj} (h : Below w14.heap.size w14 w' ∧ R) (K : Hid (∀ x, Below w14.heap.size w14 x → Q x)) : Q (w'.alloc o) := K.out _ (h.1.alloc h.1.size _)
theorem turn_set {w14 w' : World} {Q : World → Prop} {R : Prop} {E : Nat} {v : Value} (h : Below w14.heap.size w14 w' ∧ R) (hE : Hid (w14.heap.size = E)) (K : Hid (∀ x, Below w14.heap.size w14 x → Q x)) : Q (w'.setCell ⟨E, 0, none⟩ v) := K.out _ (h.1.setCell (by rw [hE.out]; exact Nat.le_refl _) _)
theorem turn_grown {w14 w' w'' : World} {row : Option Nat} (h : Below w14.heap.size w14 w') (hg : w'.grownBy w'' row) (hr : ∀ j, row = some j → w14.heap.size ≤ j) : Hid (Below w14.heap.size w14 w'') := h.grown hg h.size hr
theorem own_empty {e : TypeId} {base : Nat} (w : World) (N : Nat) (size : Nat) (hN : w.heap.size = N) (hb : base ≤ w.heap.size) : (w.alloc (.cells #[] e)).ownsRow base e size (.slice (some ⟨N, 0, none⟩) 0 0) 0 [] := by
  subst hN
  exact ⟨by simp, .inr ⟨w.heap.size, 0, #[], rfl, hb, heap_alloc_new w _, Nat.le_refl _, by decide, by simp, by simp⟩⟩
theorem own_ge0 {base : Nat} (N c : Nat) (h : base ≤ N) : ∀ j, (Value.slice (some ⟨N, 0, none⟩) 0 c).ownBlock = some j → base ≤ j := fun j hj => by have := own_only2 hj; omega
theorem two_heap {w : World} {P : Nat} {s u : Value} {t : TypeId} (h : w.heap[P]? = some (.cells #[s, u] t)) : ∀ j v, ([s, u] : List Value)[j]? = some v → w.cell? ((⟨P, 0, none⟩ : Addr).add j) = some v := by
  obtain ⟨h0, h1⟩ := box_two h
  intro j v hv
  match j, hv with
  | 0, hv => simp at hv; subst hv; rw [add_at]; exact h0
  | 1, hv => simp at hv; subst hv; rw [add_at]; exact h1
theorem pair_at1 {o o' : Obj} (w : World) : ((w.drew.alloc o').alloc o).heap[w.heap.size + 1]? = some o := by
  have := heap_alloc_new (w.drew.alloc o') o
  rw [World.size_alloc] at this
  exact this
theorem pair_at0 {o o' : Obj} (w : World) : ((w.drew.alloc o).alloc o').heap[w.heap.size]? = some o := grown_keeps (World.grownBy_alloc _ _ none) (heap_alloc_new w.drew o) (fun j hj => by cases hj)
theorem keepE0 {w : World} {E : Nat} {o o1 : Obj} (h : w.heap[E]? = some o) : (w.alloc o1).heap[E]? = some o := grown_keeps (World.grownBy_alloc _ _ none) h (fun j hj => by cases hj)
theorem keepE1 {w : World} {E : Nat} {o o1 : Obj} (h : w.heap[E]? = some o) : (w.drew.alloc o1).heap[E]? = some o := keepE0 (w := w.drew) h
theorem keepE2 {w : World} {E : Nat} {o o1 o2 : Obj} (h : w.heap[E]? = some o) : ((w.drew.alloc o1).alloc o2).heap[E]? = some o := keepE0 (keepE0 (w := w.drew) h)
theorem keep_obj {w w' : World} {D : Nat} {o : Obj} (h : w.heap[D]? = some o) (hb : Below w.heap.size w w') : w'.heap[D]? = some o := (hb.block D (heap_lt h)).trans h
theorem own_shape {w : World} {base n : Nat} {e : TypeId} {size : Nat} {v : Value} {xs : List Value} (h : w.ownsRow base e size v n xs) : ∃ a c, v = .slice a n c := by
  rcases h.2 with ⟨rfl, h0⟩ | ⟨g, cap, cur, rfl, _⟩
  · subst h0; exact ⟨_, _, rfl⟩
  · exact ⟨_, _, rfl⟩
theorem turn_fin {w w14 w18 : World} {E n i sl cap ul uc m : Nat} {g : Nat} {ua a18 : Option Addr} {c18 : Nat} {ds : Dims} {S' : List Int} {U : List (List Int)} {ps : List (Value × Value)} {av : Value} {M : Int}
    (ho : w18.ownsRow w14.heap.size 39 2 (.slice a18 m c18) m ([] ++ flat2 (ps.take i) ++ [.slice (some ⟨g, 0, none⟩) sl cap, .slice ua ul uc] ++ flat2 (ps.drop (i + 1)))) (hE : w18.heap[E]? = some (.cells #[av, .int .i64 M] 24)) (hB : Below w14.heap.size w14 w18) (hw : w14.heap.size = E) (hm : m = n)
    (hp : Pairs w ps ds) (h14 : Below w.heap.size w w14) (hd : Dim w14 (some ⟨g, 0, none⟩) sl cap ua ul uc S' U) :
    Value.pointer (some ⟨E, 0, none⟩) = .pointer (some ⟨E, 0, none⟩) ∧ Hid (Below w14.heap.size w14 (w18.setCell ⟨E, 0, none⟩ (.slice a18 m c18))) ∧ ∃ a' c', Hid ((w18.setCell ⟨E, 0, none⟩ (.slice a18 m c18)).heap[E]? = some (.cells #[.slice a' n c', .int .i64 M] 24)) ∧ Hid (Cat (w18.setCell ⟨E, 0, none⟩ (.slice a18 m c18)) a' n c' (turned ds i (S', U))) := by
  subst hm
  have gs := set_grown w18 E 0 (.slice a18 m c18)
  have hB19 : Below w14.heap.size w14 (w18.setCell ⟨E, 0, none⟩ (.slice a18 m c18)) := hB.setCell (by rw [hw]; exact Nat.le_refl _) _
  have ho19 := ho.kept gs (.inr (fun e => by obtain ⟨c', hc'⟩ := own_kind ho e; exact kinds_apart hc' hE (by decide) rfl))
  have hq : [] ++ flat2 (ps.take i) ++ [.slice (some ⟨g, 0, none⟩) sl cap, .slice ua ul uc] ++ flat2 (ps.drop (i + 1)) = flat2 (ps.take i ++ [(.slice (some ⟨g, 0, none⟩) sl cap, .slice ua ul uc)] ++ ps.drop (i + 1)) := by
    rw [flat2_append, flat2_append]; simp [flat2]
  rw [hq] at ho19
  have hP : Pairs (w18.setCell ⟨E, 0, none⟩ (.slice a18 m c18)) (ps.take i ++ [(.slice (some ⟨g, 0, none⟩) sl cap, .slice ua ul uc)] ++ ps.drop (i + 1)) (turned ds i (S', U)) :=
    (((hp.take i).below (bt h14 hB19)).app (pairs_one (hd.below hB19))).app ((hp.drop (i + 1)).below (bt h14 hB19))
  obtain ⟨a', c', e, hc⟩ := cat_own ho19 hP
  cases e
  exact ⟨rfl, hB19, a18, c18, heap_setCell_same w18 E 0 _ _ _ hE, hc⟩
theorem take_sub (ps : List (Value × Value)) (i : Nat) {u : Value} (h : u ∈ flat2 (ps.take i)) : u ∈ flat2 ps := by rw [flat2_take] at h; exact List.mem_of_mem_take h
theorem drop_sub (ps : List (Value × Value)) (i : Nat) {u : Value} (h : u ∈ flat2 (ps.drop i)) : u ∈ flat2 ps := by rw [flat2_drop] at h; exact List.mem_of_mem_drop h
theorem take_mem (ps : List (Value × Value)) (i : Nat) : ∀ (j : Nat) (u : Value), (flat2 (ps.take i))[j]? = some u → (flat2 ps)[j]? = some u := by
  intro j u hu
  rw [flat2_take, List.getElem?_take] at hu
  split at hu
  · exact hu
  · cases hu
theorem turn_one {w : World} {b off : Nat} {ps : List (Value × Value)} (h : ∀ j u, (flat2 ps)[j]? = some u → w.cell? ⟨b, off + j, none⟩ = some u ∧ u.oneCell' = true) {u : Value} (hu : u ∈ flat2 ps) : u.oneCell' = true := by
  obtain ⟨j, hj⟩ := List.mem_iff_getElem?.mp hu
  exact (h j u hj).2
theorem turn_news {w w14 w' : World} {b off : Nat} {ps : List (Value × Value)} {l : List Value} (h : ∀ j u, (flat2 ps)[j]? = some u → w.cell? ⟨b, off + j, none⟩ = some u ∧ u.oneCell' = true) (h1 : Below w.heap.size w w14) (h2 : Below w14.heap.size w14 w') (hl : ∀ (j : Nat) (u : Value), l[j]? = some u → (flat2 ps)[j]? = some u) : ∀ (j : Nat) (u : Value), l[j]? = some u → w'.cell? ((⟨b, off, none⟩ : Addr).add j) = some u := by
  intro j u hu
  rw [add_at]
  have := (h j u (hl j u hu)).1
  exact ((bcell (bt h1 h2)).1 _ _ (World.block_lt_of_cell? _ _ this)).trans this
theorem turn_news0 {w' : World} {n i : Nat} {ad : Addr} {ps : List (Value × Value)} (h : ps.length = n) (hn : n = i + 1) : ∀ (j : Nat) (u : Value), (flat2 (ps.drop (i + 1)))[j]? = some u → w'.cell? (ad.add j) = some u := by
  intro j u hu
  have : ps.drop (i + 1) = [] := List.drop_eq_nil_of_le (by omega)
  rw [this] at hu
  simp [flat2] at hu
theorem turn_news3 {w w14 w' : World} {b off i : Nat} {ps : List (Value × Value)} (h : ∀ j u, (flat2 ps)[j]? = some u → w.cell? ⟨b, off + j, none⟩ = some u ∧ u.oneCell' = true) (h1 : Below w.heap.size w w14) (h2 : Below w14.heap.size w14 w') : ∀ j u, (flat2 (ps.drop (i + 1)))[j]? = some u → w'.cell? ((⟨b, off + (i + 1) * 2, none⟩ : Addr).add j) = some u := by
  intro j u hu
  rw [flat2_drop, List.getElem?_drop] at hu
  rw [add_at]
  have := (h _ u hu).1
  rw [show off + (i + 1) * 2 + j = off + ((i + 1) * 2 + j) by omega]
  exact ((bcell (bt h1 h2)).1 _ _ (World.block_lt_of_cell? _ _ this)).trans this

set_option maxHeartbeats 20000000 in
set_option maxRecDepth 100000 in
theorem same_walk (a : Option Addr) (n c : Nat) (ds : Dims) (M : Int) (b : Option Addr) (n2 c2 : Nat) (es : Dims) (N p0 p1 p2 : Int) (w : World) (hc : Cat w a n c ds) (hM : I64 M) (hc2 : Cat w b n2 c2 es) (hN : I64 N) (hp : ∀ y ∈ [p0, p1, p2], U8 y) :
    Calls Try.prog 4 #[.agg #[.slice a n c, .int .i64 M], .agg #[.slice b n2 c2, .int .i64 N], .agg #[.int .u8 p0, .int .u8 p1, .int .u8 p2]] w fun e w' => e = .returned (.bool true) ∧ Below w.heap.size w w' := by
  have HC : Hid (Cat w a n c ds) := hc
  have HC2 : Hid (Cat w b n2 c2 es) := hc2
  have e2 := hc.lens.2
  have E1 : Hid (n = ds.length) := hc.lens.1
  have P0 := hp p0 (by simp)
  have P1 := hp p1 (by simp)
  have P2 := hp p2 (by simp)
  obtain ⟨p00, p01⟩ := P0
  obtain ⟨p10, p11⟩ := P1
  obtain ⟨p20, p21⟩ := P2
  have Q30 : Hid (Q3 w (((w.alloc (.cells #[.slice a n c, .int .i64 M] 24)).alloc (.cells #[.slice b n2 c2, .int .i64 N] 24)).alloc (.cells #[.int .u8 p0, .int .u8 p1, .int .u8 p2] 35)) #[.slice a n c, .int .i64 M] #[.slice b n2 c2, .int .i64 N] #[.int .u8 p0, .int .u8 p1, .int .u8 p2]) := q3_new _ _ _ _
  have HXM : Hid (¬ bits .xor .i64 M 1 = M) := xor_ne (by omega) (by omega)
  clear hc hM hc2 hN hp
  have t1 : True := trivial
  go_enter Try.func4, Try.ntmps4
  go_upto_if 19 with (first
    | (go_at_call 8; clear t1; refine (lightC_any _ _ _ ds M _ (HC.out.below Q30.out.1)).mono ?_; rintro e w1 ⟨⟨v, rfl, hv⟩, hb1⟩; have HLA : Hid (v = true → lightC ds) := hv; clear hv; have Q31 : Hid (Q3 w w1 #[.slice a n c, .int .i64 M] #[.slice b n2 c2, .int .i64 N] #[.int .u8 p0, .int .u8 p1, .int .u8 p2]) := Q30.out.step hb1; obtain ⟨_, o0, o1, o2⟩ := Q31.out; obtain ⟨q0, q1⟩ := box_two o0; obtain ⟨q2, q3⟩ := box_two o1; clear o0 o1 o2 hb1; cases v)
    | (go_at_call 8; refine (lightC_any _ _ _ es N _ (HC2.out.below Q31.out.1)).mono ?_; rintro e w2 ⟨⟨v2, rfl, hv2⟩, hb2⟩; clear hv2; have Q32 : Hid (Q3 w w2 #[.slice a n c, .int .i64 M] #[.slice b n2 c2, .int .i64 N] #[.int .u8 p0, .int .u8 p1, .int .u8 p2]) := Q31.out.step hb2; clear hb2; cases v2))
  · go_wp2_with (go_at_call 9; refine (wakes_any _).mono ?_; rintro e w9 ⟨rfl, hb9⟩)
    go_ret
    exact ⟨rfl, bt Q31.out.1 hb9⟩
  · go_wp2_with (go_at_call 9; refine (wakes_any _).mono ?_; rintro e w9 ⟨rfl, hb9⟩)
    go_ret
    exact ⟨rfl, bt Q32.out.1 hb9⟩
  · have HL : Hid (lightC ds) := by first | exact HLA.out rfl | exact HLA.out trivial
    clear HLA q0 q1 q2 q3 Q31 Q30
    obtain ⟨_, o0, o1, o2⟩ := Q32.out
    obtain ⟨q0, q1⟩ := box_two o0
    obtain ⟨q2, q3⟩ := box_two o1
    have l0 := heap_lt o0
    have l1 := heap_lt o1
    clear o0 o1 o2
    obtain ⟨sm, hsm⟩ : ∃ sm, sameC ds M es N = sm := ⟨_, rfl⟩
    have HSM : Hid (sameC ds M es N = sm) := hsm
    have HSM2 : Hid (sameC es N ds M = sm) := by show _ = _; rw [sameC_comm]; exact hsm
    have HBw : Hid (Below w.heap.size w w2) := Q32.out.1
    clear hsm
    have KS : Hid (∀ w', Below w2.heap.size w2 w' → Below w2.heap.size w2 w' ∧ w'.cell? ⟨w.heap.size, 0, none⟩ = some (.slice a n c) ∧ w'.cell? ⟨w.heap.size, 1, none⟩ = some (.int .i64 M) ∧ w'.cell? ⟨w.heap.size + 1, 0, none⟩ = some (.slice b n2 c2) ∧ w'.cell? ⟨w.heap.size + 1, 1, none⟩ = some (.int .i64 N)) :=
      hid fun w' hB => ⟨hB, ((bcell hB).1 _ _ l0).trans q0, ((bcell hB).1 _ _ l0).trans q1, ((bcell hB).1 _ _ l1).trans q2, ((bcell hB).1 _ _ l1).trans q3⟩
    have t2 : True := trivial
    go_upto_region 3 with fail
    go_cut [36] (fun v wx => v = .bool false ∧ Hid (Below w2.heap.size w2 wx))
    case first =>
      go_region_held3 (fun w' => Below w2.heap.size w2 w' ∧ w'.cell? ⟨w.heap.size, 0, none⟩ = some (.slice a n c) ∧ w'.cell? ⟨w.heap.size, 1, none⟩ = some (.int .i64 M) ∧ w'.cell? ⟨w.heap.size + 1, 0, none⟩ = some (.slice b n2 c2) ∧ w'.cell? ⟨w.heap.size + 1, 1, none⟩ = some (.int .i64 N))
        (first | assumption | exact keep_drew KS | exact keep_step (by assumption) (by assumption) KS)
        (first
          | (go_at_call 16; clear t2; refine (ssame_m _ _ _ _ _ _ ds es M N sm _ (HC.out.below (bt HBw.out (And.left (by assumption)))) (HC2.out.below (bt HBw.out (And.left (by assumption)))) HSM).mono ?_; rintro e w5 ⟨rfl, hb5⟩)
          | (go_at_call 16; refine (ssame_m _ _ _ _ _ _ es ds N M sm _ (HC2.out.below (bt HBw.out (And.left (by assumption)))) (HC.out.below (bt HBw.out (And.left (by assumption)))) HSM2).mono ?_; rintro e w6 ⟨rfl, hb6⟩)
          | (go_at_call 19; refine (rsame_m _ _ _ _ _ _ ds es M N sm _ (HC.out.below (bt HBw.out (And.left (by assumption)))) (HC2.out.below (bt HBw.out (And.left (by assumption)))) HSM).mono ?_; rintro e w7 ⟨rfl, hb7⟩))
      all_goals
        go_wp2_with fail
        go_meet
        exact ⟨rfl, hid (And.left (by assumption))⟩
    case rest =>
      obtain ⟨rfl, HB3⟩ := hcut
      have Q33 : Hid (Q3 w wc #[.slice a n c, .int .i64 M] #[.slice b n2 c2, .int .i64 N] #[.int .u8 p0, .int .u8 p1, .int .u8 p2]) := Q32.out.step HB3.out
      clear KS q0 q1 q2 q3 l0 l1 HBw HSM HSM2 HB3 Q32
      obtain ⟨_, o0, o1, o2⟩ := Q33.out
      obtain ⟨q0, q1⟩ := box_two o0
      obtain ⟨q2, q3⟩ := box_two o1
      clear o0 o1 o2
      go_upto_region 7 with fail
      obtain ⟨M', hM'⟩ : ∃ m, bits .xor .i64 M 1 = m := ⟨_, rfl⟩
      rw [hM']
      have HSC : Hid (sameC ds M ds M' = false) := sameC_no1 (fun e => HXM.out (by rw [hM']; exact e.symm))
      obtain ⟨w7, hw7⟩ : ∃ W, W = wc.alloc (.cells #[.slice a n c, .int .i64 M'] 24) := ⟨_, rfl⟩
      obtain ⟨C, hC⟩ : ∃ C, wc.heap.size = C := ⟨_, rfl⟩
      have Q47 : Hid (Q4 w w7 C #[.slice a n c, .int .i64 M] #[.slice b n2 c2, .int .i64 N] #[.int .u8 p0, .int .u8 p1, .int .u8 p2] #[.slice a n c, .int .i64 M']) := by rw [hw7, ← hC]; exact q4_new Q33.out _
      rw [← hw7, hC]
      clear hw7 hC hM' HXM q0 q1 q2 q3 Q33
      obtain ⟨_, z2, o0, o1, o2, o3⟩ := Q47.out
      obtain ⟨q0, q1⟩ := box_two o0
      obtain ⟨q4, q5⟩ := box_two o3
      obtain ⟨x0, x1, x2⟩ := box3 (D := w.heap.size + 1 + 1) o2
      have hCs := heap_lt o3
      clear o0 o1 o2 o3
      by_cases hn0 : n = 0
      · subst hn0
        go_wp2_with (first
          | (go_at_call 16; refine (ssame_m _ _ _ _ _ _ ds ds M M' false _ (HC.out.below Q47.out.1) (HC.out.below Q47.out.1) HSC).mono ?_; rintro e w20 ⟨rfl, hb20⟩)
          | (go_at_call 9; refine (wakes_any _).mono ?_; rintro e w21 ⟨rfl, hb21⟩))
        go_ret
        exact ⟨rfl, bt (bt Q47.out.1 hb20) hb21⟩
      · have hn1 : 0 < n := by omega
        have hn2 : (n : Int) ≠ 0 := by omega
        have hn8 : n ≤ 8 := by rw [E1.out]; exact HL.out.1
        have wp0 : IntKind.i64.wrap p0 = p0 := IntWalk.i64_in _ (by omega)
        obtain ⟨i, hi⟩ : ∃ i : Nat, p0.tmod (n : Int) = (i : Int) := ⟨(p0.tmod (n : Int)).toNat, by rw [Int.tmod_eq_emod_of_nonneg p00]; have := Int.emod_nonneg p0 hn2; omega⟩
        have hin : i < n := by
          have h1 := Int.emod_lt_of_pos p0 (show (0 : Int) < (n : Int) by omega)
          rw [Int.tmod_eq_emod_of_nonneg p00] at hi
          omega
        have hin2 : (i : Int) < (n : Int) := by omega
        have wi : IntKind.i64.wrap (i : Int) = (i : Int) := IntWalk.i64_in _ (by omega)
        obtain ⟨b1, off1, rfl, hb0, sa, sl, sc, ua, ul, uc, S, U, f1, f2, HDm, HSU⟩ := HC.out.get (Below.refl _ _) hin
        have f3 := ((bcell Q47.out.1).1 _ _ hb0).trans f1
        have f4 := ((bcell Q47.out.1).1 _ _ hb0).trans f2
        have E3 : Hid (sl = S.length) := HDm.out.lens.1
        have hsl : sl ≤ 10 := by rw [E3.out]; have := HL.out.2 _ (getD_mem3 (by rw [← E1.out]; exact hin)); rw [HSU.out] at this; exact this.1
        clear f1 f2
        go_upto_region 10 with fail
        obtain ⟨w9, hw9⟩ : ∃ W, W = w7.alloc (.cells #[.slice sa sl sc, .slice ua ul uc] 39) := ⟨_, rfl⟩
        obtain ⟨D, hD⟩ : ∃ D, w7.heap.size = D := ⟨_, rfl⟩
        have Q49 : Hid (Q4 w w9 C #[.slice (some ⟨b1, off1, none⟩) n c, .int .i64 M] #[.slice b n2 c2, .int .i64 N] #[.int .u8 p0, .int .u8 p1, .int .u8 p2] #[.slice (some ⟨b1, off1, none⟩) n c, .int .i64 M']) := by rw [hw9]; exact Q47.out.grow (World.grownBy_alloc _ _ none) (fun j hj => by cases hj)
        have HD9 : Hid (w9.heap[D]? = some (.cells #[.slice sa sl sc, .slice ua ul uc] 39)) := by rw [hw9, ← hD]; exact heap_alloc_new _ _
        have hCD : C < D := by rw [← hD]; exact hCs
        rw [← hw9, hD]
        clear hw9 hD q0 q1 q4 q5 x0 x1 x2 hCs f3 f4
        obtain ⟨_, _, o0, o1, o2, o3⟩ := Q49.out
        obtain ⟨q0, q1⟩ := box_two o0
        obtain ⟨q4, q5⟩ := box_two o3
        obtain ⟨x0, x1, x2⟩ := box3 (D := w.heap.size + 1 + 1) o2
        obtain ⟨d0, d1⟩ := box_two HD9.out
        clear o0 o1 o2 o3
        by_cases hs0 : sl = 0
        · subst hs0
          go_wp2_with (first
            | (go_at_call 16; refine (ssame_m _ _ _ _ _ _ ds ds M M' false _ (HC.out.below Q49.out.1) (HC.out.below Q49.out.1) HSC).mono ?_; rintro e w20 ⟨rfl, hb20⟩)
            | (go_at_call 9; refine (wakes_any _).mono ?_; rintro e w21 ⟨rfl, hb21⟩))
          go_ret
          exact ⟨rfl, bt (bt Q49.out.1 hb20) hb21⟩
        · have hs1 : 0 < sl := by omega
          have hs2 : (sl : Int) ≠ 0 := by omega
          have wp1 : IntKind.i64.wrap p1 = p1 := IntWalk.i64_in _ (by omega)
          obtain ⟨k, hk⟩ : ∃ k : Nat, p1.tmod (sl : Int) = (k : Int) := ⟨(p1.tmod (sl : Int)).toNat, by rw [Int.tmod_eq_emod_of_nonneg p10]; have := Int.emod_nonneg p1 hs2; omega⟩
          have hks : k < sl := by
            have h1 := Int.emod_lt_of_pos p1 (show (0 : Int) < (sl : Int) by omega)
            rw [Int.tmod_eq_emod_of_nonneg p10] at hk
            omega
          have hks2 : (k : Int) < (sl : Int) := by omega
          have wk : IntKind.i64.wrap (k : Int) = (k : Int) := IntWalk.i64_in _ (by omega)
          have HR9 : Hid (IRow .i64 (w9.alloc (.cells #[] 3)) sa sl sc S) := HDm.out.1.below (bt Q49.out.1 ((Below.refl _ _).alloc (Nat.le_refl _) _))
          have hD9 := heap_lt HD9.out
          have fD := frozen_of_row w9 D 0 _ _ HD9.out
          go_upto_region 13 with (at_builtin; refine append_row (k := .i64) Try.underlying36 info_int (by decide) rfl (.tmp 69) (.tmp 71) rfl w9.heap.size w9.heap.size 0 0 [] rfl (own_made 3 w9 w9.heap.size (Nat.le_refl _)) sa sl sc S rfl HR9.out (by omega) (by simp) ?_; intro g cap w12 hown12 hgrow12; rw [Nat.zero_add, List.nil_append] at hown12; have HB12 : Hid (Below w9.heap.size w9 w12) := ((Below.refl w9.heap.size w9).alloc (Nat.le_refl _) _).grown hgrow12 (by simp) (fun k hk => by cases hk; exact Nat.le_refl _); have HO12 : Hid (w12.ownsRow w9.heap.size 3 1 (.slice (some ⟨g, 0, none⟩) sl cap) sl (vals .i64 S)) := hown12; clear hown12 hgrow12; have y0 := ((bcell HB12.out).1 _ _ hD9).trans d0; have y1 := ((bcell HB12.out).1 _ _ hD9).trans d1; have y2 := ((bcell HB12.out).2 _ _ hD9).trans fD)
          have HXs : Hid (S.getD k 0 = S.getD k 0) := rfl
          obtain ⟨x, hx⟩ : ∃ x, S.getD k 0 = x := ⟨_, rfl⟩
          have HX : Hid (S.getD k 0 = x) := hx
          clear HXs hx
          obtain ⟨w13, hw13⟩ : ∃ W, W = w12.setCell ⟨D, 0, none⟩ (.slice (some ⟨g, 0, none⟩) sl cap) := ⟨_, rfl⟩
          have gs13 := set_grown w12 D 0 (.slice (some ⟨g, 0, none⟩) sl cap)
          have Q413 : Hid (Q4 w w13 C #[.slice (some ⟨b1, off1, none⟩) n c, .int .i64 M] #[.slice b n2 c2, .int .i64 N] #[.int .u8 p0, .int .u8 p1, .int .u8 p2] #[.slice (some ⟨b1, off1, none⟩) n c, .int .i64 M']) := by rw [hw13]; exact (Q49.out.step HB12.out).grow gs13 (fun j hj => by cases hj; exact hCD)
          have HD13 : Hid (w13.heap[D]? = some (.cells #[.slice (some ⟨g, 0, none⟩) sl cap, .slice ua ul uc] 39)) := by
            rw [hw13]; exact heap_setCell_same w12 D 0 _ _ _ (grown_keeps (below_grow HB12.out none) HD9.out (fun j hj => by cases hj))
          have hgD : D < g := Nat.lt_of_lt_of_le hD9 (HO12.out.lt g rfl).1
          have HO13 : Hid (w13.ownsRow w9.heap.size 3 1 (.slice (some ⟨g, 0, none⟩) sl cap) sl (vals .i64 S)) := by
            rw [hw13]; exact HO12.out.kept gs13 (.inr (fun e => by have := own_only2 e; omega))
          rw [← hw13]
          clear hw13 gs13 y0 y1 y2 q0 q1 q4 q5 x0 x1 x2 d0 d1 fD HD9 HO12
          obtain ⟨_, _, o0, o1, o2, o3⟩ := Q413.out
          obtain ⟨x0, x1, x2⟩ := box3 (D := w.heap.size + 1 + 1) o2
          obtain ⟨d0, d1⟩ := box_two HD13.out
          have gk : w13.cell? ⟨g, k, none⟩ = some (.int .i64 x) := by
            rw [HO13.out.cellAt k (by omega)]
            unfold vals
            rw [List.getElem?_map, List.getElem?_eq_getElem (by rw [← E3.out]; exact hks)]
            have := HX.out
            rw [List.getD_eq_getElem?_getD, List.getElem?_eq_getElem (by rw [← E3.out]; exact hks)] at this
            simp at this
            simp [this]
          have gf := HO13.out.frozenAt k
          have wp2 : IntKind.i64.wrap p2 = p2 := IntWalk.i64_in _ (by omega)
          have w1p2 : IntKind.i64.wrap (1 + p2) = 1 + p2 := IntWalk.i64_in _ (by omega)
          obtain ⟨x', hx'⟩ : ∃ x', bits .xor .i64 x (1 + p2) = x' := ⟨_, rfl⟩
          have HX' : Hid (bits .xor .i64 x (1 + p2) = x') := hx'
          have HN' : Hid (¬ x' = x) := by show ¬ _; rw [← hx']; exact xor_ne (by omega) (by omega)
          clear o0 o1 o2 o3
          go_cut [10] (fun v wx => v = .int .i64 (k : Int) ∧ Hid (Q4 w wx C #[.slice (some ⟨b1, off1, none⟩) n c, .int .i64 M] #[.slice b n2 c2, .int .i64 N] #[.int .u8 p0, .int .u8 p1, .int .u8 p2] #[.slice (some ⟨b1, off1, none⟩) n c, .int .i64 M']) ∧ Hid (wx.heap[D]? = some (.cells #[.slice (some ⟨g, 0, none⟩) sl cap, .slice ua ul uc] 39)) ∧ Hid (wx.ownsRow w9.heap.size 3 1 (.slice (some ⟨g, 0, none⟩) sl cap) sl (vals .i64 (S.set k x'))))
          case first =>
            go_region
            all_goals
              go_wp2_with fail
              go_meet
              obtain ⟨st1, st2⟩ := HO13.out.stored k (.int .i64 x')
              have hgC : C < g := by omega
              have r1 := Q413.out.grow st2 (fun j hj => by cases hj; exact hgC)
              have r2 := grown_keeps st2 HD13.out (fun j hj => by cases hj; omega)
              have r3 : vals .i64 (S.set k x') = (vals .i64 S).set k (.int .i64 x') := by unfold vals; rw [List.map_set]
              rw [← r3] at st1
              try rw [hx']
              exact ⟨rfl, ⟨r1.1.drew, r1.2⟩, r2, st1⟩
          case rest =>
            obtain ⟨rfl, Q414, HD14, HO14⟩ := hcut
            rename World => w14
            clear gk gf x0 x1 x2 d0 d1 Q413 HD13 HO13
            obtain ⟨hB14, _, o0, o1, o2, o3⟩ := Q414.out
            obtain ⟨q0, q1⟩ := box_two o0
            obtain ⟨q4, q5⟩ := box_two o3
            obtain ⟨d0, d1⟩ := box_two HD14.out
            have lq := heap_lt o0
            have lD := heap_lt HD14.out
            have HBw14 : Hid (Below w.heap.size w w14) := hB14
            obtain ⟨ps, hps1, hps2, hps3⟩ := cat_pairs HC.out hn1
            have HPS : Hid (Pairs w ps ds) := hps1
            have HPL : Hid (ps.length = n) := hps2
            have HPC : Hid (∀ j u, (flat2 ps)[j]? = some u → w.cell? ⟨b1, off1 + j, none⟩ = some u ∧ u.oneCell' = true) := hps3
            have HDg : Hid (Dim w14 (some ⟨g, 0, none⟩) sl cap ua ul uc (S.set k x') U) := by
              refine ⟨own_row HO14.out, (HDm.out.below hB14).2.1, fun y hy => ?_, HDm.out.2.2.2⟩
              rcases List.mem_or_eq_of_mem_set hy with h' | rfl
              · exact HDm.out.2.2.1 y h'
              · rw [← hx']; exact xor_i64 _ _
            have HSE : Hid (sameC ds M (turned ds i (S.set k x', U)) M = false) := sameC_no2 (fun e => turned_ne (by rw [← E1.out]; exact hin) (by rw [HSU.out]; intro e2; have := congrArg Prod.fst e2; exact set_ne (by rw [← E3.out]; exact hks) (by rw [HX.out]; exact HN'.out) this) e.symm)
            have HSE2 : Hid (sameC (turned ds i (S.set k x', U)) M ds M = false) := by show _ = _; rw [sameC_comm]; exact HSE.out
            obtain ⟨i0, hi0, hz0, hz1, hz2⟩ := info_parts info_dim
            have hnc : n ≤ c := HC.out.2.1
            have hcm : c ≤ 9223372036854775807 := by have := HC.out.2.2.1; unfold maxLen at this; omega
            have hic : (i : Int) ≤ (c : Int) := by omega
            have hi0' : (0 : Int) ≤ (i : Int) := Int.natCast_nonneg _
            have hc0 : ¬ c = 0 := by omega
            have w98 : IntKind.i64.wrap ((i : Int) + 1) = (i : Int) + 1 := IntWalk.i64_in _ (by omega)
            have hi1 : (0 : Int) ≤ (i : Int) + 1 := by omega
            have hi2 : (i : Int) + 1 ≤ (n : Int) := by omega
            have hi3 : ((i : Int) + 1).toNat = i + 1 := by omega
            clear hps1 hps2 hps3 o0 o1 o2 o3 hB14 hx'
            by_cases hci : c = i + 1
            · have hcit : (c = i + 1) = True := eq_true hci
              have HCI : Hid (c = i + 1) := hci
              have hnn : n = i + 1 := by omega
              have HNI : Hid (n = i + 1) := hnn
              clear hci hnn
              go_upto_region 15 with fail
              obtain ⟨w15, hw15⟩ : ∃ W, W = w14.alloc (.cells #[.slice (some ⟨b1, off1, none⟩) n c, .int .i64 M] 24) := ⟨_, rfl⟩
              obtain ⟨E, hE⟩ : ∃ E, w14.heap.size = E := ⟨_, rfl⟩
              have HB15 : Hid (Below w14.heap.size w14 w15) := by rw [hw15]; exact (Below.refl _ _).alloc (Nat.le_refl _) _
              have hE15 : w15.heap.size = E + 1 := by rw [hw15, ← hE]; simp
              have HE15 : Hid (w15.heap[E]? = some (.cells #[.slice (some ⟨b1, off1, none⟩) n c, .int .i64 M] 24)) := by rw [hw15, ← hE]; exact heap_alloc_new _ _
              rw [← hw15, hE]
              have HEw : Hid (w14.heap.size = E) := hE
              clear hw15 hE
              have HZ15 : Hid (w15.heap.size = E + 1) := hE15
              have hEl : E < w15.heap.size := by omega
              have KS : Hid (∀ w', Below w14.heap.size w14 w' → Below w14.heap.size w14 w' ∧ w'.cell? ⟨w.heap.size, 0, none⟩ = some (.slice (some ⟨b1, off1, none⟩) n c) ∧ w'.cell? ⟨D, 0, none⟩ = some (.slice (some ⟨g, 0, none⟩) sl cap) ∧ w'.cell? ⟨D, 1, none⟩ = some (.slice ua ul uc)) :=
                hid fun w' hB => ⟨hB, ((bcell hB).1 _ _ lq).trans q0, ((bcell hB).1 _ _ lD).trans d0, ((bcell hB).1 _ _ lD).trans d1⟩
              have HKE : Hid (∀ w', Below w14.heap.size w14 w' → w14.heap.size ≤ w'.heap.size) := hid fun w' hB => hB.size
              clear hE15
              go_cut [11] (fun v wx => v = .pointer (some ⟨E, 0, none⟩) ∧ Hid (Below w14.heap.size w14 wx) ∧ ∃ a18 c18, Hid (wx.heap[E]? = some (.cells #[.slice a18 n c18, .int .i64 M] 24)) ∧ Hid (Cat wx a18 n c18 (turned ds i (S.set k x', U))))
              case first =>
                go_region_held3 (fun w' => Below w14.heap.size w14 w' ∧ w'.cell? ⟨w.heap.size, 0, none⟩ = some (.slice (some ⟨b1, off1, none⟩) n c) ∧ w'.cell? ⟨D, 0, none⟩ = some (.slice (some ⟨g, 0, none⟩) sl cap) ∧ w'.cell? ⟨D, 1, none⟩ = some (.slice ua ul uc))
                  (first | assumption | exact KS.out _ (HB15.out).drew | exact KS.out _ (Hid.out (by assumption)) | exact turn_alloc (by assumption) KS | exact turn_set (by assumption) HEw KS)
                  (first
                    | (refine step_append_own _ (by rfl) (.tmp 86) (.tmp 90) 22 (by rfl) w14.heap.size 39 i0 _ 2 48 Try.underlying22 hi0 hz0 hz1 hz2 rfl (by decide) _ 0 [] (by rfl) (by first | exact own_empty _ _ _ (by first | rfl | simp) (by first | (show w14.heap.size ≤ w15.heap.size; have := HZ15.out; have := HEw.out; omega) | (simp; have := HZ15.out; have := HEw.out; omega)) | exact (own_empty _ _ _ (by first | rfl | simp) (by first | (show w14.heap.size ≤ w15.heap.size; have := HZ15.out; have := HEw.out; omega) | (simp; have := HZ15.out; have := HEw.out; omega))).alloc _) ⟨b1, off1, none⟩ i c (flat2 (ps.take i)) (by rfl) (by rw [flat2_len, List.length_take, HPL.out]; omega) (turn_news HPC.out HBw14.out (And.left (by assumption)) (take_mem _ _)) (fun u hu => turn_one HPC.out (take_sub _ _ hu)) (by unfold maxLen; omega) (by omega) (by first | (show w14.heap.size ≤ w15.heap.size; have := HZ15.out; have := HEw.out; omega) | (simp; have := HZ15.out; have := HEw.out; omega)) ?_; intro v16 w16 ho16 hg16; have HO16 : Hid (w16.ownsRow w14.heap.size 39 2 v16 (0 + i) ([] ++ flat2 (ps.take i))) := ho16; have HB16 : Hid (Below w14.heap.size w14 w16) := turn_grown (And.left (by assumption)) hg16 (by first | exact own_ge0 _ _ (by have := HZ15.out; have := HEw.out; omega)); (try (have HZ3 : Hid (w16.heap[w15.heap.size + 1]? = some (.cells #[.slice (some ⟨g, 0, none⟩) sl cap, .slice ua ul uc] 39)) := grown_keeps hg16 (pair_at1 w15) (fun j hj => by have := own_only2 hj; omega))); (try (have HZ4 : Hid (w16.heap[w15.heap.size]? = some (.cells #[.slice (some ⟨g, 0, none⟩) sl cap, .slice ua ul uc] 39)) := grown_keeps hg16 (pair_at0 w15) (fun j hj => by have := own_only2 hj; omega))); have HE16 : Hid (w16.heap[E]? = some (.cells #[.slice (some ⟨b1, off1, none⟩) n c, .int .i64 M] 24)) := grown_keeps hg16 (by first | exact keepE1 HE15.out | exact keepE2 HE15.out) (fun j hj => by have := own_only2 hj; omega); clear ho16 hg16)
                    | (refine step_append_own _ (by rfl) (.tmp 91) (.tmp 93) 22 (by rfl) w14.heap.size 39 i0 _ 2 48 Try.underlying22 hi0 hz0 hz1 hz2 rfl (by decide) v16 (0 + i) ([] ++ flat2 (ps.take i)) (by rfl) (by first | exact HO16.out.alloc _ | exact HO16.out) _ 1 1 [.slice (some ⟨g, 0, none⟩) sl cap, .slice ua ul uc] (by rfl) (by rfl) (by first | exact two_cells _ _ _ _ | exact two_heap HZ3.out | exact two_heap HZ4.out) (by intro u hu; simp at hu; rcases hu with rfl | rfl <;> rfl) (by unfold maxLen; omega) (by omega) (by have := HKE.out _ HB16.out; first | (simp; omega) | omega) ?_; intro v17 w17 ho17 hg17; have HO17 : Hid (w17.ownsRow w14.heap.size 39 2 v17 (0 + i + 1) ([] ++ flat2 (ps.take i) ++ [.slice (some ⟨g, 0, none⟩) sl cap, .slice ua ul uc])) := ho17; have HB17 : Hid (Below w14.heap.size w14 w17) := turn_grown (And.left (by assumption)) hg17 (fun j hj => (HO16.out.lt j hj).1); have HE17 : Hid (w17.heap[E]? = some (.cells #[.slice (some ⟨b1, off1, none⟩) n c, .int .i64 M] 24)) := (by first | exact grown_keeps hg17 HE16.out (fun j hj => by obtain ⟨c', hc'⟩ := own_kind HO16.out hj; exact kinds_apart hc' HE16.out (by decide)) | exact grown_keeps hg17 (keepE0 HE16.out) (fun j hj => by obtain ⟨c', hc'⟩ := own_kind HO16.out hj; exact kinds_apart hc' HE16.out (by decide))); clear ho17 hg17)
                    | (refine step_append_own _ (by rfl) (.tmp 94) (.tmp 99) 22 (by rfl) w14.heap.size 39 i0 _ 2 48 Try.underlying22 hi0 hz0 hz1 hz2 rfl (by decide) v17 (0 + i + 1) ([] ++ flat2 (ps.take i) ++ [.slice (some ⟨g, 0, none⟩) sl cap, .slice ua ul uc]) (by rfl) HO17.out ⟨b1, off1, none⟩ (n - (i + 1)) _ (flat2 (ps.drop (i + 1))) (by rfl) (by rw [flat2_len, List.length_drop, HPL.out]) (turn_news0 HPL.out HNI.out) (fun u hu => turn_one HPC.out (drop_sub _ _ hu)) (by unfold maxLen; omega) (by omega) (HKE.out _ HB17.out) ?_; intro v18 w18 ho18 hg18; obtain ⟨a18, c18, rfl⟩ := own_shape ho18; have HO18 : Hid (w18.ownsRow w14.heap.size 39 2 _ (0 + i + 1 + (n - (i + 1))) ([] ++ flat2 (ps.take i) ++ [.slice (some ⟨g, 0, none⟩) sl cap, .slice ua ul uc] ++ flat2 (ps.drop (i + 1)))) := ho18; have HB18 : Hid (Below w14.heap.size w14 w18) := turn_grown (And.left (by assumption)) hg18 (fun j hj => (HO17.out.lt j hj).1); have hx18 : w18.heap[E]? = some (.cells #[.slice (some ⟨b1, off1, none⟩) n c, .int .i64 M] 24) := grown_keeps hg18 HE17.out (fun j hj => by obtain ⟨c', hc'⟩ := own_kind HO17.out hj; exact kinds_apart hc' HE17.out (by decide)); clear ho18 hg18; have HX18 : Hid (w18.heap[E]? = some (.cells #[.slice (some ⟨b1, off1, none⟩) n c, .int .i64 M] 24)) := hx18; obtain ⟨m0, m1⟩ := box_two hx18; have m2 := frozen_of_row w18 E 0 _ _ hx18))
                all_goals
                  go_wp2_with fail
                  go_meet
                  have hmn : 0 + i + 1 + (n - (i + 1)) = n := by omega
                  have hmn2 : i + 1 + (n - (i + 1)) = n := by omega
                  have HO := HO18.out
                  rw [hmn] at HO
                  try rw [hmn]
                  try rw [hmn2]
                  exact turn_fin (n := n) HO HX18.out HB18.out HEw.out rfl HPS.out HBw14.out HDg.out
              case rest =>
                obtain ⟨rfl, HB19, a18, c18, HE19, HCt⟩ := hcut
                have Q419 : Hid (Q4 w wc C #[.slice (some ⟨b1, off1, none⟩) n c, .int .i64 M] #[.slice b n2 c2, .int .i64 N] #[.int .u8 p0, .int .u8 p1, .int .u8 p2] #[.slice (some ⟨b1, off1, none⟩) n c, .int .i64 M']) := Q414.out.step HB19.out
                obtain ⟨_, _, o0, o1, o2, o3⟩ := Q419.out
                obtain ⟨r0, r1⟩ := box_two o0
                obtain ⟨r2, r3⟩ := box_two HE19.out
                clear o0 o1 o2 o3 q0 q1 q4 q5 d0 d1
                have t5 : True := trivial
                have t6 : True := trivial
                go_wp2_with (first
                  | (go_at_call 16; clear t5; refine (ssame_m _ _ _ _ _ _ ds (turned ds i (S.set k x', U)) M M false _ (HC.out.below Q419.out.1) HCt.out HSE).mono ?_; rintro e w22 ⟨rfl, hb22⟩; have Q422 : Hid (Q4 w w22 C #[.slice (some ⟨b1, off1, none⟩) n c, .int .i64 M] #[.slice b n2 c2, .int .i64 N] #[.int .u8 p0, .int .u8 p1, .int .u8 p2] #[.slice (some ⟨b1, off1, none⟩) n c, .int .i64 M']) := Q419.out.step hb22; obtain ⟨_, _, o0, o1, o2, o3⟩ := Q422.out; obtain ⟨s0, s1⟩ := box_two o0; obtain ⟨s2, s3⟩ := box_two (keep_obj HE19.out hb22); clear o0 o1 o2 o3)
                  | (go_at_call 16; clear t6; refine (ssame_m _ _ _ _ _ _ (turned ds i (S.set k x', U)) ds M M false _ (HCt.out.below hb22) (HC.out.below Q422.out.1) HSE2).mono ?_; rintro e w23 ⟨rfl, hb23⟩; have Q423 : Hid (Q4 w w23 C #[.slice (some ⟨b1, off1, none⟩) n c, .int .i64 M] #[.slice b n2 c2, .int .i64 N] #[.int .u8 p0, .int .u8 p1, .int .u8 p2] #[.slice (some ⟨b1, off1, none⟩) n c, .int .i64 M']) := Q422.out.step hb23; obtain ⟨_, _, o0, o1, o2, o3⟩ := Q423.out; obtain ⟨u0', u1'⟩ := box_two o0; obtain ⟨u2', u3'⟩ := box_two o3; clear o0 o1 o2 o3)
                  | (go_at_call 16; refine (ssame_m _ _ _ _ _ _ ds ds M M' false _ (HC.out.below Q423.out.1) (HC.out.below Q423.out.1) HSC).mono ?_; rintro e w20 ⟨rfl, hb20⟩)
                  | (go_at_call 9; refine (wakes_any _).mono ?_; rintro e w21 ⟨rfl, hb21⟩))
                go_ret
                exact ⟨rfl, bt (bt Q423.out.1 hb20) hb21⟩
            · have hci2 : ¬ i + 1 = c := fun e => hci e.symm
              go_upto_region 15 with fail
              obtain ⟨w15, hw15⟩ : ∃ W, W = w14.alloc (.cells #[.slice (some ⟨b1, off1, none⟩) n c, .int .i64 M] 24) := ⟨_, rfl⟩
              obtain ⟨E, hE⟩ : ∃ E, w14.heap.size = E := ⟨_, rfl⟩
              have HB15 : Hid (Below w14.heap.size w14 w15) := by rw [hw15]; exact (Below.refl _ _).alloc (Nat.le_refl _) _
              have hE15 : w15.heap.size = E + 1 := by rw [hw15, ← hE]; simp
              have HE15 : Hid (w15.heap[E]? = some (.cells #[.slice (some ⟨b1, off1, none⟩) n c, .int .i64 M] 24)) := by rw [hw15, ← hE]; exact heap_alloc_new _ _
              rw [← hw15, hE]
              have HEw : Hid (w14.heap.size = E) := hE
              clear hw15 hE
              have HZ15 : Hid (w15.heap.size = E + 1) := hE15
              have hEl : E < w15.heap.size := by omega
              have KS : Hid (∀ w', Below w14.heap.size w14 w' → Below w14.heap.size w14 w' ∧ w'.cell? ⟨w.heap.size, 0, none⟩ = some (.slice (some ⟨b1, off1, none⟩) n c) ∧ w'.cell? ⟨D, 0, none⟩ = some (.slice (some ⟨g, 0, none⟩) sl cap) ∧ w'.cell? ⟨D, 1, none⟩ = some (.slice ua ul uc)) :=
                hid fun w' hB => ⟨hB, ((bcell hB).1 _ _ lq).trans q0, ((bcell hB).1 _ _ lD).trans d0, ((bcell hB).1 _ _ lD).trans d1⟩
              have HKE : Hid (∀ w', Below w14.heap.size w14 w' → w14.heap.size ≤ w'.heap.size) := hid fun w' hB => hB.size
              clear hE15
              go_cut [11] (fun v wx => v = .pointer (some ⟨E, 0, none⟩) ∧ Hid (Below w14.heap.size w14 wx) ∧ ∃ a18 c18, Hid (wx.heap[E]? = some (.cells #[.slice a18 n c18, .int .i64 M] 24)) ∧ Hid (Cat wx a18 n c18 (turned ds i (S.set k x', U))))
              case first =>
                go_region_held3 (fun w' => Below w14.heap.size w14 w' ∧ w'.cell? ⟨w.heap.size, 0, none⟩ = some (.slice (some ⟨b1, off1, none⟩) n c) ∧ w'.cell? ⟨D, 0, none⟩ = some (.slice (some ⟨g, 0, none⟩) sl cap) ∧ w'.cell? ⟨D, 1, none⟩ = some (.slice ua ul uc))
                  (first | assumption | exact KS.out _ (HB15.out).drew | exact KS.out _ (Hid.out (by assumption)) | exact turn_alloc (by assumption) KS | exact turn_set (by assumption) HEw KS)
                  (first
                    | (refine step_append_own _ (by rfl) (.tmp 86) (.tmp 90) 22 (by rfl) w14.heap.size 39 i0 _ 2 48 Try.underlying22 hi0 hz0 hz1 hz2 rfl (by decide) _ 0 [] (by rfl) (by first | exact own_empty _ _ _ (by first | rfl | simp) (by first | (show w14.heap.size ≤ w15.heap.size; have := HZ15.out; have := HEw.out; omega) | (simp; have := HZ15.out; have := HEw.out; omega)) | exact (own_empty _ _ _ (by first | rfl | simp) (by first | (show w14.heap.size ≤ w15.heap.size; have := HZ15.out; have := HEw.out; omega) | (simp; have := HZ15.out; have := HEw.out; omega))).alloc _) ⟨b1, off1, none⟩ i c (flat2 (ps.take i)) (by rfl) (by rw [flat2_len, List.length_take, HPL.out]; omega) (turn_news HPC.out HBw14.out (And.left (by assumption)) (take_mem _ _)) (fun u hu => turn_one HPC.out (take_sub _ _ hu)) (by unfold maxLen; omega) (by omega) (by first | (show w14.heap.size ≤ w15.heap.size; have := HZ15.out; have := HEw.out; omega) | (simp; have := HZ15.out; have := HEw.out; omega)) ?_; intro v16 w16 ho16 hg16; have HO16 : Hid (w16.ownsRow w14.heap.size 39 2 v16 (0 + i) ([] ++ flat2 (ps.take i))) := ho16; have HB16 : Hid (Below w14.heap.size w14 w16) := turn_grown (And.left (by assumption)) hg16 (by first | exact own_ge0 _ _ (by have := HZ15.out; have := HEw.out; omega)); (try (have HZ3 : Hid (w16.heap[w15.heap.size + 1]? = some (.cells #[.slice (some ⟨g, 0, none⟩) sl cap, .slice ua ul uc] 39)) := grown_keeps hg16 (pair_at1 w15) (fun j hj => by have := own_only2 hj; omega))); (try (have HZ4 : Hid (w16.heap[w15.heap.size]? = some (.cells #[.slice (some ⟨g, 0, none⟩) sl cap, .slice ua ul uc] 39)) := grown_keeps hg16 (pair_at0 w15) (fun j hj => by have := own_only2 hj; omega))); have HE16 : Hid (w16.heap[E]? = some (.cells #[.slice (some ⟨b1, off1, none⟩) n c, .int .i64 M] 24)) := grown_keeps hg16 (by first | exact keepE1 HE15.out | exact keepE2 HE15.out) (fun j hj => by have := own_only2 hj; omega); clear ho16 hg16)
                    | (refine step_append_own _ (by rfl) (.tmp 91) (.tmp 93) 22 (by rfl) w14.heap.size 39 i0 _ 2 48 Try.underlying22 hi0 hz0 hz1 hz2 rfl (by decide) v16 (0 + i) ([] ++ flat2 (ps.take i)) (by rfl) (by first | exact HO16.out.alloc _ | exact HO16.out) _ 1 1 [.slice (some ⟨g, 0, none⟩) sl cap, .slice ua ul uc] (by rfl) (by rfl) (by first | exact two_cells _ _ _ _ | exact two_heap HZ3.out | exact two_heap HZ4.out) (by intro u hu; simp at hu; rcases hu with rfl | rfl <;> rfl) (by unfold maxLen; omega) (by omega) (by have := HKE.out _ HB16.out; first | (simp; omega) | omega) ?_; intro v17 w17 ho17 hg17; have HO17 : Hid (w17.ownsRow w14.heap.size 39 2 v17 (0 + i + 1) ([] ++ flat2 (ps.take i) ++ [.slice (some ⟨g, 0, none⟩) sl cap, .slice ua ul uc])) := ho17; have HB17 : Hid (Below w14.heap.size w14 w17) := turn_grown (And.left (by assumption)) hg17 (fun j hj => (HO16.out.lt j hj).1); have HE17 : Hid (w17.heap[E]? = some (.cells #[.slice (some ⟨b1, off1, none⟩) n c, .int .i64 M] 24)) := (by first | exact grown_keeps hg17 HE16.out (fun j hj => by obtain ⟨c', hc'⟩ := own_kind HO16.out hj; exact kinds_apart hc' HE16.out (by decide)) | exact grown_keeps hg17 (keepE0 HE16.out) (fun j hj => by obtain ⟨c', hc'⟩ := own_kind HO16.out hj; exact kinds_apart hc' HE16.out (by decide))); clear ho17 hg17)
                    | (refine step_append_own _ (by rfl) (.tmp 94) (.tmp 99) 22 (by rfl) w14.heap.size 39 i0 _ 2 48 Try.underlying22 hi0 hz0 hz1 hz2 rfl (by decide) v17 (0 + i + 1) ([] ++ flat2 (ps.take i) ++ [.slice (some ⟨g, 0, none⟩) sl cap, .slice ua ul uc]) (by rfl) HO17.out ⟨b1, off1 + (i + 1) * 2, none⟩ (n - (i + 1)) _ (flat2 (ps.drop (i + 1))) (by rfl) (by rw [flat2_len, List.length_drop, HPL.out]) (turn_news3 HPC.out HBw14.out HB17.out) (fun u hu => turn_one HPC.out (drop_sub _ _ hu)) (by unfold maxLen; omega) (by omega) (HKE.out _ HB17.out) ?_; intro v18 w18 ho18 hg18; obtain ⟨a18, c18, rfl⟩ := own_shape ho18; have HO18 : Hid (w18.ownsRow w14.heap.size 39 2 _ (0 + i + 1 + (n - (i + 1))) ([] ++ flat2 (ps.take i) ++ [.slice (some ⟨g, 0, none⟩) sl cap, .slice ua ul uc] ++ flat2 (ps.drop (i + 1)))) := ho18; have HB18 : Hid (Below w14.heap.size w14 w18) := turn_grown (And.left (by assumption)) hg18 (fun j hj => (HO17.out.lt j hj).1); have hx18 : w18.heap[E]? = some (.cells #[.slice (some ⟨b1, off1, none⟩) n c, .int .i64 M] 24) := grown_keeps hg18 HE17.out (fun j hj => by obtain ⟨c', hc'⟩ := own_kind HO17.out hj; exact kinds_apart hc' HE17.out (by decide)); clear ho18 hg18; have HX18 : Hid (w18.heap[E]? = some (.cells #[.slice (some ⟨b1, off1, none⟩) n c, .int .i64 M] 24)) := hx18; obtain ⟨m0, m1⟩ := box_two hx18; have m2 := frozen_of_row w18 E 0 _ _ hx18))
                all_goals
                  go_wp2_with fail
                  go_meet
                  have hmn : 0 + i + 1 + (n - (i + 1)) = n := by omega
                  have hmn2 : i + 1 + (n - (i + 1)) = n := by omega
                  have HO := HO18.out
                  rw [hmn] at HO
                  try rw [hmn]
                  try rw [hmn2]
                  exact turn_fin (n := n) HO HX18.out HB18.out HEw.out rfl HPS.out HBw14.out HDg.out
              case rest =>
                obtain ⟨rfl, HB19, a18, c18, HE19, HCt⟩ := hcut
                have Q419 : Hid (Q4 w wc C #[.slice (some ⟨b1, off1, none⟩) n c, .int .i64 M] #[.slice b n2 c2, .int .i64 N] #[.int .u8 p0, .int .u8 p1, .int .u8 p2] #[.slice (some ⟨b1, off1, none⟩) n c, .int .i64 M']) := Q414.out.step HB19.out
                obtain ⟨_, _, o0, o1, o2, o3⟩ := Q419.out
                obtain ⟨r0, r1⟩ := box_two o0
                obtain ⟨r2, r3⟩ := box_two HE19.out
                clear o0 o1 o2 o3 q0 q1 q4 q5 d0 d1
                have t5 : True := trivial
                have t6 : True := trivial
                go_wp2_with (first
                  | (go_at_call 16; clear t5; refine (ssame_m _ _ _ _ _ _ ds (turned ds i (S.set k x', U)) M M false _ (HC.out.below Q419.out.1) HCt.out HSE).mono ?_; rintro e w22 ⟨rfl, hb22⟩; have Q422 : Hid (Q4 w w22 C #[.slice (some ⟨b1, off1, none⟩) n c, .int .i64 M] #[.slice b n2 c2, .int .i64 N] #[.int .u8 p0, .int .u8 p1, .int .u8 p2] #[.slice (some ⟨b1, off1, none⟩) n c, .int .i64 M']) := Q419.out.step hb22; obtain ⟨_, _, o0, o1, o2, o3⟩ := Q422.out; obtain ⟨s0, s1⟩ := box_two o0; obtain ⟨s2, s3⟩ := box_two (keep_obj HE19.out hb22); clear o0 o1 o2 o3)
                  | (go_at_call 16; clear t6; refine (ssame_m _ _ _ _ _ _ (turned ds i (S.set k x', U)) ds M M false _ (HCt.out.below hb22) (HC.out.below Q422.out.1) HSE2).mono ?_; rintro e w23 ⟨rfl, hb23⟩; have Q423 : Hid (Q4 w w23 C #[.slice (some ⟨b1, off1, none⟩) n c, .int .i64 M] #[.slice b n2 c2, .int .i64 N] #[.int .u8 p0, .int .u8 p1, .int .u8 p2] #[.slice (some ⟨b1, off1, none⟩) n c, .int .i64 M']) := Q422.out.step hb23; obtain ⟨_, _, o0, o1, o2, o3⟩ := Q423.out; obtain ⟨u0', u1'⟩ := box_two o0; obtain ⟨u2', u3'⟩ := box_two o3; clear o0 o1 o2 o3)
                  | (go_at_call 16; refine (ssame_m _ _ _ _ _ _ ds ds M M' false _ (HC.out.below Q423.out.1) (HC.out.below Q423.out.1) HSC).mono ?_; rintro e w20 ⟨rfl, hb20⟩)
                  | (go_at_call 9; refine (wakes_any _).mono ?_; rintro e w21 ⟨rfl, hb21⟩))
                go_ret
                exact ⟨rfl, bt (bt Q423.out.1 hb20) hb21⟩

end Go.Proofs.Ytcccfaeclefcoaa

/-
  The library's slices.Sort at this program's whole numbers, laid off the library's own contract.
  What bag.laid returns.
  Conditions: as each theorem states them.
-/
import Derived.Shelf.SortM.Plain
import Derived.Shelf.SortM.SortNone
import Derived.Test.YtjkkajhjcinalaaG1
import Derived.Test.YtjkkajhjcinalaaRows
namespace Go.Proofs.Ytjkkajhjcinalaa
open Go.Shelf
set_option linter.unusedVariables false
set_option linter.unusedSimpArgs false
set_option maxRecDepth 100000

def sortI_ren : Go.Shelf.Ren := ⟨fun | 5 => 94 | 8 => 118 | 7 => 117 | 19 => 138 | 20 => 139 | 10 => 129 | 11 => 130 | 12 => 131 | 13 => 132 | 14 => 133 | 15 => 134 | 16 => 135 | 17 => 136 | 18 => 137 | 30 => 145 | 31 => 146 | 32 => 147 | 33 => 148 | 34 => 149 | 35 => 105 | 40 => 150 | n => n, fun | 23 => 51 | 25 => 2 | 3 => 3 | 32 => 176 | 22 => 51 | 0 => 0 | 44 => 208 | 46 => 119 | 4 => 4 | 36 => 200 | 35 => 199 | 41 => 205 | 5 => 5 | 9 => 9 | 53 => 213 | 57 => 217 | 63 => 219 | 64 => 220 | n => n, fun | n => n⟩
theorem sortI : Go.Proofs.SlLaysM.n5 Try.prog sortI_ren := {
  mixed := by kernel_rfl,
  f5 := ⟨Try.f94.name, by decide, Try.func94.trans (congrArg some (by kernel_rfl))⟩,
  f7 := ⟨Try.f117.name, by decide, Try.func117.trans (congrArg some (by kernel_rfl))⟩,
  f8 := Try.func118.trans (congrArg some (by kernel_rfl)),
  f10 := ⟨Try.f129.name, by decide, Try.func129.trans (congrArg some (by kernel_rfl))⟩,
  f11 := ⟨Try.f130.name, by decide, Try.func130.trans (congrArg some (by kernel_rfl))⟩,
  f12 := ⟨Try.f131.name, by decide, Try.func131.trans (congrArg some (by kernel_rfl))⟩,
  f13 := ⟨Try.f132.name, by decide, Try.func132.trans (congrArg some (by kernel_rfl))⟩,
  f14 := ⟨Try.f133.name, by decide, Try.func133.trans (congrArg some (by kernel_rfl))⟩,
  f15 := ⟨Try.f134.name, by decide, Try.func134.trans (congrArg some (by kernel_rfl))⟩,
  f16 := ⟨Try.f135.name, by decide, Try.func135.trans (congrArg some (by kernel_rfl))⟩,
  f17 := ⟨Try.f136.name, by decide, Try.func136.trans (congrArg some (by kernel_rfl))⟩,
  f18 := ⟨Try.f137.name, by decide, Try.func137.trans (congrArg some (by kernel_rfl))⟩,
  f19 := Try.func138.trans (congrArg some (by kernel_rfl)),
  f20 := Try.func139.trans (congrArg some (by kernel_rfl)),
  f30 := ⟨Try.f145.name, by decide, Try.func145.trans (congrArg some (by kernel_rfl))⟩,
  f31 := Try.func146.trans (congrArg some (by kernel_rfl)),
  f32 := Try.func147.trans (congrArg some (by kernel_rfl)),
  f33 := ⟨Try.f148.name, by decide, Try.func148.trans (congrArg some (by kernel_rfl))⟩,
  f34 := ⟨Try.f149.name, by decide, Try.func149.trans (congrArg some (by kernel_rfl))⟩,
  f35 := ⟨Try.f105.name, by decide, Try.func105.trans (congrArg some (by kernel_rfl))⟩,
  f40 := ⟨Try.f150.name, by decide, Try.func150.trans (congrArg some (by kernel_rfl))⟩,
  t0 := Try.underlying0,
  a0 := Try.isAgg0,
  z0 := Try.sizeOf0,
  v0 := Try.zeroValue0,
  t3 := Try.underlying3,
  a3 := Try.isAgg3,
  z3 := Try.sizeOf3,
  v3 := Try.zeroValue3,
  t4 := Try.underlying4,
  a4 := Try.isAgg4,
  z4 := Try.sizeOf4,
  v4 := Try.zeroValue4,
  t5 := Try.underlying5,
  a5 := Try.isAgg5,
  z5 := Try.sizeOf5,
  v5 := Try.zeroValue5,
  t9 := Try.underlying9,
  a9 := Try.isAgg9,
  z9 := Try.sizeOf9,
  v9 := Try.zeroValue9,
  t22 := Try.underlying51,
  a22 := Try.isAgg51,
  z22 := Try.sizeOf51,
  v22 := Try.zeroValue51,
  t23 := Try.underlying51,
  a23 := Try.isAgg51,
  z23 := Try.sizeOf51,
  v23 := Try.zeroValue51,
  t25 := Try.underlying2,
  a25 := Try.isAgg2,
  z25 := Try.sizeOf2,
  v25 := Try.zeroValue2,
  t32 := Try.underlying176,
  a32 := Try.isAgg176,
  z32 := Try.sizeOf176,
  v32 := Try.zeroValue176,
  t35 := Try.underlying199,
  a35 := Try.isAgg199,
  z35 := Try.sizeOf199,
  v35 := Try.zeroValue199,
  t36 := Try.underlying200,
  a36 := Try.isAgg200,
  z36 := Try.sizeOf200,
  v36 := Try.zeroValue200,
  t41 := Try.underlying205,
  a41 := Try.isAgg205,
  z41 := Try.sizeOf205,
  v41 := Try.zeroValue205,
  t44 := Try.underlying208,
  a44 := Try.isAgg208,
  z44 := Try.sizeOf208,
  v44 := Try.zeroValue208,
  t46 := Try.underlying119,
  a46 := Try.isAgg119,
  z46 := Try.sizeOf119,
  v46 := Try.zeroValue119,
  t53 := Try.underlying213,
  a53 := Try.isAgg213,
  z53 := Try.sizeOf213,
  v53 := Try.zeroValue213,
  t57 := Try.underlying217,
  a57 := Try.isAgg217,
  z57 := Try.sizeOf217,
  v57 := Try.zeroValue217,
  t63 := Try.underlying219,
  a63 := Try.isAgg219,
  z63 := Try.sizeOf219,
  v63 := Try.zeroValue219,
  t64 := Try.underlying220,
  a64 := Try.isAgg220,
  z64 := Try.sizeOf220,
  v64 := Try.zeroValue220 }

end Go.Proofs.Ytjkkajhjcinalaa

namespace Go.Proofs.Ytjkkajhjcinalaa
open Go.ChangeShapes Go.WideShapes Go.ChangeAt Go.RowKit
set_option linter.unusedVariables false
set_option linter.unusedSimpArgs false
set_option maxRecDepth 100000

theorem gtr {a w w' : World} {row : Option Nat} (h : a.grownBy w row) (k : w.grownBy w' row) : a.grownBy w' row :=
  ⟨k.os.trans h.os, k.tape.trans h.tape, k.output.trans h.output, Nat.le_trans h.size k.size, fun i hi hne => (k.block i (Nat.lt_of_lt_of_le hi h.size) hne).trans (h.block i hi hne)⟩
theorem ncells_set (l : List Rn) (x y z : Int) : (ncells (l ++ [(x, y)])).set (l.length * 2 + 1) (.int .i64 z) = ncells (l ++ [(x, z)]) := by
  rw [ncells_app, ncells_app, List.set_append_right _ _ (by rw [ncells_len]; omega), ncells_len, show l.length * 2 + 1 - l.length * 2 = 1 by omega]
  rfl
theorem gdrewN {w w' : World} {row : Option Nat} {n : Nat} (h : w.grownBy w' row) : w.grownBy (w'.drewN n) row := ⟨h.os, h.tape, h.output, h.size, h.block⟩

theorem gdrew1 {w w' : World} {row : Option Nat} (h : w.grownBy w' row) : w.grownBy w'.drew row := ⟨h.os, h.tape, h.output, h.size, h.block⟩

set_option maxHeartbeats 4000000 in
theorem laid_new (base : Nat) (v : Value) (l : List Rn) (p q : Int) (w : World) (ho : OwnN w base v l) (hb : base ≤ w.heap.size) (hn : l.length ≤ 1000000) (hne : ∀ x y, l[l.length - 1]? = some (x, y) → ¬ x = p) :
    Calls Try.prog 95 #[v, .agg #[.int .i64 p, .int .i64 q]] w fun e w' => (∃ v', e = .returned v' ∧ OwnN w' base v' (l ++ [(p, q)])) ∧ w.grownBy w' v.ownBlock := by
  have HO := hid ho
  have HNE := hid hne
  obtain ⟨a, cap, rfl, hr⟩ := own_any ho
  have HR := hid hr
  obtain ⟨n, en⟩ : ∃ n, l.length = n := ⟨_, rfl⟩
  rw [en] at hr hn hne ⊢
  have EN := hid en
  have O1 : Hid (OwnN (w.alloc (.cells #[.int .i64 p, .int .i64 q] 65)) base (.slice a n cap) l) := hid (by have := ho.alloc (.cells #[.int .i64 p, .int .i64 q] 65); rw [← en]; exact this)
  have hl2 : n ≤ 9223372036854775807 := by omega
  have P1 : Hid (NRun w a n cap l) := hid hr
  clear ho hne hr en HO HR
  by_cases h0 : n = 0
  · subst h0
    go_enter Try.func95, Try.ntmps95
    go_wp2
    go_quiet (fail)
    have F1 : Hid (OwnN ((w.alloc (.cells #[.int .i64 p, .int .i64 q] 65)).drewN nq) base (.slice a 0 cap) l ∧ w.grownBy ((w.alloc (.cells #[.int .i64 p, .int .i64 q] 65)).drewN nq) (Value.slice a 0 cap).ownBlock ∧ ((w.alloc (.cells #[.int .i64 p, .int .i64 q] 65)).drewN nq).heap[w.heap.size]? = some (.cells #[.int .i64 p, .int .i64 q] 65) ∧ ((w.alloc (.cells #[.int .i64 p, .int .i64 q] 65)).drewN nq).heap.size = w.heap.size + 1) := hid ⟨O1.out, gdrewN (World.grownBy_alloc w _ _), heap_alloc_new w _, by simp [World.drewN]⟩
    generalize ((w.alloc (.cells #[.int .i64 p, .int .i64 q] 65)).drewN nq) = W at F1 ⊢
    obtain ⟨c0, c1⟩ := box_two F1.out.2.2.1
    have hWs := hid F1.out.2.2.2
    go_wp2_with (at_builtin; refine append_run rfl (.tmp 21) (.tmp 23) rfl base (.slice a 0 cap) l _ p q rfl (F1.out.1.alloc _) rfl (hnew rfl) (by have := EN.out; omega) (by have := hWs.out; simp; omega) ?_; intro u1 w1 ho1 hg1; have U1 := hid ho1; have G1 := hid (gtr (gtr F1.out.2.1 (World.grownBy_alloc _ _ _)) hg1); clear ho1 hg1)
    go_ret
    exact ⟨⟨u1, rfl, U1.out⟩, G1.out⟩
  · obtain ⟨j, hj⟩ : ∃ j, n - 1 = j := ⟨_, rfl⟩
    have hjk : (n : Int) - 1 = (j : Int) := by omega
    have hj0 : (0 : Int) ≤ (j : Int) := by omega
    have hjl : decide ((j : Int) < 0) = false := decide_eq_false (by omega)
    have hjn : (j : Int) < (n : Int) := by omega
    have hwj : IntKind.i64.wrap ((n : Int) - 1) = (j : Int) := by rw [hjk]; exact IntWalk.i64_in _ (by omega)
    obtain ⟨b, off, x0, x1, rfl, hbb, hr, p0, p1⟩ := P1.out.pick (b1alloc w (.cells #[.int .i64 p, .int .i64 q] 65)) (k := j) (by omega)
    have hx : ¬ x0 = p := HNE.out x0 x1 (by rw [EN.out, hj]; exact hr)
    have hxd : (x0 == p) = false := by simpa using hx
    have hxd2 : (x0 != p) = true := by simpa using hx
    clear hr hx hj p1
    go_enter Try.func95, Try.ntmps95
    go_wp2
    go_quiet (fail)
    have F1 : Hid (OwnN ((w.alloc (.cells #[.int .i64 p, .int .i64 q] 65)).drewN nq) base (.slice (some ⟨b, off, none⟩) n cap) l ∧ w.grownBy ((w.alloc (.cells #[.int .i64 p, .int .i64 q] 65)).drewN nq) (Value.slice (some ⟨b, off, none⟩) n cap).ownBlock ∧ ((w.alloc (.cells #[.int .i64 p, .int .i64 q] 65)).drewN nq).heap[w.heap.size]? = some (.cells #[.int .i64 p, .int .i64 q] 65) ∧ ((w.alloc (.cells #[.int .i64 p, .int .i64 q] 65)).drewN nq).heap.size = w.heap.size + 1) := hid ⟨O1.out, gdrewN (World.grownBy_alloc w _ _), heap_alloc_new w _, by simp [World.drewN]⟩
    generalize ((w.alloc (.cells #[.int .i64 p, .int .i64 q] 65)).drewN nq) = W at F1 ⊢
    obtain ⟨c0, c1⟩ := box_two F1.out.2.2.1
    have hWs := hid F1.out.2.2.2
    go_wp2_with (at_builtin; refine append_run rfl (.tmp 21) (.tmp 23) rfl base (.slice (some ⟨b, off, none⟩) n cap) l _ p q rfl (F1.out.1.alloc _) rfl (hnew rfl) (by have := EN.out; omega) (by have := hWs.out; simp; omega) ?_; intro u1 w1 ho1 hg1; have U1 := hid ho1; have G1 := hid (gtr (gtr F1.out.2.1 (World.grownBy_alloc _ _ _)) hg1); clear ho1 hg1)
    go_ret
    exact ⟨⟨u1, rfl, U1.out⟩, G1.out⟩

set_option maxHeartbeats 4000000 in
theorem laid_more (base : Nat) (v : Value) (l : List Rn) (x y q : Int) (w : World) (ho : OwnN w base v (l ++ [(x, y)])) (hb : base ≤ w.heap.size) (hn : l.length ≤ 1000000) (hy : -4611686018427387904 ≤ y ∧ y ≤ 4611686018427387904) (hq : -4611686018427387904 ≤ q ∧ q ≤ 4611686018427387903) :
    Calls Try.prog 95 #[v, .agg #[.int .i64 x, .int .i64 q]] w fun e w' => (e = .returned v ∧ OwnN w' base v (l ++ [(x, y + q)])) ∧ w.grownBy w' v.ownBlock := by
  obtain ⟨j, ej⟩ : ∃ j, l.length = j := ⟨_, rfl⟩
  have hl : (l ++ [(x, y)]).length = j + 1 := by rw [List.length_append, ej]; rfl
  have hl' : (l ++ [(x, y + q)]).length = j + 1 := by rw [List.length_append, ej]; rfl
  have ho' := ho
  unfold OwnN at ho'
  rw [hl] at ho'
  obtain ⟨g, cap, rfl⟩ := nown_form ho' (fun e => by subst e; rcases ho'.2 with ⟨_, h⟩ | ⟨_, _, _, h, _⟩ <;> first | omega | cases h)
  have HN := hid (own_nrun ho')
  have O1 : Hid ((w.alloc (.cells #[.int .i64 x, .int .i64 q] 65)).ownsRow base 65 2 (.slice (some ⟨g, 0, none⟩) (j + 1) cap) (j + 1) (ncells (l ++ [(x, y)]))) := hid (ho'.alloc _)
  have HGl := hid (ho'.lt g rfl).2
  obtain ⟨y1, y2⟩ := hy
  obtain ⟨q1, q2⟩ := hq
  obtain ⟨b, off, x0, x1, e0, hbb, hr, p0, p1⟩ := HN.out.pick (b1alloc w (.cells #[.int .i64 x, .int .i64 q] 65)) (k := j) (by omega)
  cases e0
  rw [List.getElem?_append_right (by omega), ej, Nat.sub_self] at hr
  cases hr
  have hj0 : (0 : Int) ≤ (j : Int) := by omega
  have hjl : decide ((j : Int) < 0) = false := decide_eq_false (by omega)
  have hwj : IntKind.i64.wrap (((j + 1 : Nat) : Int) - 1) = (j : Int) := by rw [show ((j + 1 : Nat) : Int) - 1 = (j : Int) by omega]; exact IntWalk.i64_in _ (by omega)
  have hj2 : (j : Int) < ((j + 1 : Nat) : Int) := by omega
  have EJ := hid ej
  have hjb : j ≤ 1000000 := by omega
  have HL' := hid hl'
  simp only [Nat.zero_add] at p0 p1
  clear ho ho' hl hl' ej
  obtain ⟨n, en⟩ : ∃ n, j + 1 = n := ⟨_, rfl⟩
  have hnj : (j : Int) < (n : Int) := by omega
  have hn2 : n ≤ 9223372036854775807 := by omega
  have hwn : IntKind.i64.wrap ((n : Int) - 1) = (j : Int) := by rw [← en]; exact hwj
  have O2 : Hid ((w.alloc (.cells #[.int .i64 x, .int .i64 q] 65)).ownsRow base 65 2 (.slice (some ⟨g, 0, none⟩) n cap) n (ncells (l ++ [(x, y)]))) := hid (by rw [← en]; exact O1.out)
  have HL2 : Hid ((l ++ [(x, y + q)]).length = n) := hid (by rw [← en]; exact HL'.out)
  rw [en]
  clear hwj hj2 O1 HL' HN en
  go_enter Try.func95, Try.ntmps95
  go_wp2
  go_quiet (fail)
  have F1 : Hid (((w.alloc (.cells #[.int .i64 x, .int .i64 q] 65)).drewN nq).ownsRow base 65 2 (.slice (some ⟨g, 0, none⟩) n cap) n (ncells (l ++ [(x, y)])) ∧ w.grownBy ((w.alloc (.cells #[.int .i64 x, .int .i64 q] 65)).drewN nq) (some g) ∧ ((w.alloc (.cells #[.int .i64 x, .int .i64 q] 65)).drewN nq).heap[w.heap.size]? = some (.cells #[.int .i64 x, .int .i64 q] 65)) := hid ⟨O2.out, gdrewN (World.grownBy_alloc w _ _), heap_alloc_new w _⟩
  have p0' : ((w.alloc (.cells #[.int .i64 x, .int .i64 q] 65)).drewN nq).cell? ⟨g, j * 2, none⟩ = some (.int .i64 x) := p0
  have p1' : ((w.alloc (.cells #[.int .i64 x, .int .i64 q] 65)).drewN nq).cell? ⟨g, j * 2 + 1, none⟩ = some (.int .i64 y) := p1
  clear p0 p1 O2
  generalize ((w.alloc (.cells #[.int .i64 x, .int .i64 q] 65)).drewN nq) = W at F1 p0' p1' ⊢
  obtain ⟨c0, c1⟩ := box_two F1.out.2.2
  have f1 := World.ownsRow.frozenAt F1.out.1 (j * 2 + 1)
  go_wp2
  go_region
  all_goals
    go_wp2
    go_ret
    have st := World.ownsRow.stored F1.out.1 (j * 2 + 1) (.int .i64 (y + q))
    have e1 : ncells (l ++ [(x, y + q)]) = (ncells (l ++ [(x, y)])).set (j * 2 + 1) (.int .i64 (y + q)) := by rw [← EJ.out, ncells_set]
    refine ⟨⟨rfl, ?_⟩, ?_⟩
    · unfold OwnN
      rw [HL2.out, e1]
      exact st.1
    · exact gtr F1.out.2.1 (gdrew1 st.2)

end Go.Proofs.Ytjkkajhjcinalaa

/-
  -
  -
  -
  -
  -
  -
  -
  -
  Conditions: as each theorem states them.
-/
import Derived.Shelf.SortM.Plain
import Derived.Shelf.SortM.SortNone
import Derived.Test.YtjkkajhjcinalaaRows
import Derived.Test.YtjkkajhjcinalaaQAB
import Derived.Test.YtjkkajhjcinalaaQAC
namespace Go.Proofs.Ytjkkajhjcinalaa
open Go.ChangeShapes Go.WideShapes Go.ChangeAt Go.RowKit
set_option linter.unusedVariables false
set_option linter.unusedSimpArgs false
set_option maxRecDepth 100000

/-- The way of Lay's loop: what stands there behind so many runs. -/
def LaySt (v n : Int) (l out : List Rn) (k : Nat) (dn : Bool) : Prop :=
  if dn then (∃ r ∈ l.take k, v ≤ r.1) ∧ out = lay v n (l.take k) else (∀ r ∈ l.take k, r.1 < v) ∧ out = l.take k
theorem layst_0 (v n : Int) (l : List Rn) : LaySt v n l [] 0 false := ⟨fun r hr => by simp at hr, rfl⟩
theorem layst_low {v n : Int} {l out : List Rn} {k : Nat} {x0 x1 : Int} (h : LaySt v n l out k false) (hr : l[k]? = some (x0, x1)) (hx : x0 < v) : LaySt v n l (out ++ [(x0, x1)]) (k + 1) false := by
  obtain ⟨h1, h2⟩ := h
  refine ⟨fun r hr' => ?_, by rw [h2, take_one hr]⟩
  rw [take_one hr] at hr'
  rcases List.mem_append.1 hr' with hr' | hr'
  · exact h1 r hr'
  · simp at hr'; subst hr'; exact hx
theorem layst_done {v n : Int} {l out : List Rn} {k : Nat} {x0 x1 : Int} (h : LaySt v n l out k true) (hr : l[k]? = some (x0, x1)) : LaySt v n l (out ++ [(x0, x1)]) (k + 1) true := by
  obtain ⟨⟨r, hr', hv⟩, h2⟩ := h
  refine ⟨⟨r, by rw [take_one hr]; exact List.mem_append_left _ hr', hv⟩, ?_⟩
  rw [take_one hr, lay_snoc ⟨r, hr', hv⟩, h2]
theorem layst_above {v n : Int} {l out : List Rn} {k : Nat} {x0 x1 : Int} (h : LaySt v n l out k false) (hr : l[k]? = some (x0, x1)) (hx : v < x0) : LaySt v n l (out ++ [(v, n)] ++ [(x0, x1)]) (k + 1) true := by
  obtain ⟨h1, h2⟩ := h
  refine ⟨⟨(x0, x1), by rw [take_one hr]; simp, by show v ≤ x0; omega⟩, ?_⟩
  rw [take_one hr, lay_above h1 hx, h2]
theorem layst_here {v n : Int} {l out : List Rn} {k : Nat} {x1 : Int} (h : LaySt v n l out k false) (hr : l[k]? = some (v, x1)) (hz : ¬ x1 + n = 0) : LaySt v n l (out ++ [(v, x1 + n)]) (k + 1) true := by
  obtain ⟨h1, h2⟩ := h
  refine ⟨⟨(v, x1), by rw [take_one hr]; simp, Int.le_refl _⟩, ?_⟩
  rw [take_one hr, lay_here h1 rfl, h2, if_neg hz]
theorem layst_gone {v n : Int} {l out : List Rn} {k : Nat} {x1 : Int} (h : LaySt v n l out k false) (hr : l[k]? = some (v, x1)) (hz : x1 + n = 0) : LaySt v n l out (k + 1) true := by
  obtain ⟨h1, h2⟩ := h
  refine ⟨⟨(v, x1), by rw [take_one hr]; simp, Int.le_refl _⟩, ?_⟩
  rw [take_one hr, lay_here h1 rfl, h2, if_pos hz]
theorem layst_end {v n : Int} {l out : List Rn} {k : Nat} (h : LaySt v n l out k true) (hk : l.length ≤ k) : out = lay v n l := by
  obtain ⟨_, h2⟩ := h
  rw [List.take_of_length_le hk] at h2; exact h2
theorem layst_fin {v n : Int} {l out : List Rn} {k : Nat} (h : LaySt v n l out k false) (hk : l.length ≤ k) : out ++ [(v, n)] = lay v n l := by
  obtain ⟨h1, h2⟩ := h
  rw [List.take_of_length_le hk] at h1 h2
  rw [lay_low h1, h2]
theorem layst_len {v n : Int} {l out : List Rn} {k : Nat} {dn : Bool} (h : LaySt v n l out k dn) (hk : k ≤ l.length) : out.length ≤ k + 1 := by
  cases dn with
  | false => obtain ⟨_, h2⟩ := h; rw [h2, List.length_take]; omega
  | true =>
    obtain ⟨_, h2⟩ := h
    have := lay_len (v := v) (n := n) (l := l.take k)
    rw [List.length_take] at this
    rw [h2]; omega
/-- A row of one's own behind a world. -/
def OwnW (w wr : World) (v : Value) (l : List Rn) : Prop := Below w.heap.size w wr ∧ OwnN wr w.heap.size v l
theorem OwnW.alloc {w wr : World} {v : Value} {l : List Rn} (h : OwnW w wr v l) (o : Obj) : OwnW w (wr.alloc o) v l := ⟨h.1.alloc h.1.size _, h.2.alloc o⟩
theorem OwnW.grown {w wr w' : World} {v v' : Value} {l m : List Rn} (h : OwnW w wr v l) (hg : wr.grownBy w' v.ownBlock) (ho : OwnN w' w.heap.size v' m) : OwnW w w' v' m :=
  ⟨h.1.grown hg h.1.size (fun k hk => (h.2.lt k hk).1), ho⟩

theorem box_kept {wr W w' : World} {base N : Nat} {v : Value} {l : List Rn} {o : Obj} (ho : OwnN wr base v l) (hg : W.grownBy w' v.ownBlock) (h : W.heap[N]? = some o) (hN : wr.heap.size ≤ N) : w'.heap[N]? = some o := by
  rw [hg.block N (heap_lt h) (fun e => by have := (ho.lt N (by first | exact e | exact e.symm)).2; omega)]; exact h

set_option maxHeartbeats 8000000 in
theorem lay_any (a : Option Addr) (m c : Nat) (l : List Rn) (v n : Int) (w : World) (hl : NRun w a m c l) (hz : Nz l) (hb : ∀ r ∈ l, -1099511627776 ≤ r.2 ∧ r.2 ≤ 1099511627776) (hn : -1099511627776 ≤ n ∧ n ≤ 1099511627776) (hm : m ≤ 1000000) :
    Calls Try.prog 52 #[.slice a m c, .int .i64 v, .int .i64 n] w fun e w' => (∃ u, e = .returned u ∧ OwnW w w' u (lay v n l)) := by
  have HL := hid hl
  have HZ := hid hz
  have HB := hid hb
  obtain ⟨l1, l2⟩ := hl.lens
  obtain ⟨n1, n2⟩ := hn
  have EL := hid l1
  clear hl hz hb l1 l2
  go_enter Try.func52, Try.ntmps52
  go_wp2
  go_loopw [7, 8, 9] (fun o d i wr => ∃ (k : Nat) (u : Value) (dn : Bool) (out : List Rn), k ≤ m ∧ i = .int .i64 k ∧ d = .bool dn ∧ u = o ∧ Hid (LaySt v n l out k dn) ∧ Hid (OwnW w wr u out)) (fun _ _ i _ => m - (intOf i).toNat)
  case atStart => exact ⟨0, _, false, [], by omega, rfl, rfl, rfl, layst_0 v n l, hid ⟨Below.refl _ _, own_nil _ _⟩⟩
  case round =>
    obtain ⟨k, u, dn, out, hkm, rfl, rfl, rfl, LS, OW⟩ := hrel
    have hk0 : (0 : Int) ≤ (k : Int) := by omega
    have hol : out.length ≤ k + 1 := layst_len LS.out (by have := EL.out; omega)
    by_cases hlt : k < m
    · have hki : (k : Int) < (m : Int) := by omega
      obtain ⟨b, off, x0, x1, rfl, hbb, hr, p0, p1⟩ := HL.out.pick OW.out.1 hlt
      have HR := hid hr
      have hx1 := HB.out _ (List.mem_of_getElem? hr)
      have hx2 := HZ.out _ (List.mem_of_getElem? hr)
      simp only at hx1 hx2
      obtain ⟨X1, X2⟩ := hx1
      clear hr
      cases dn with
      | true =>
        have hz : (x1 == 0) = false := by simpa using hx2
        have hz2 : (x1 != 0) = true := by simpa using hx2
        clear hx2
        go_wp2_with (at_builtin; refine append_run rfl (.tmp 47) (.tmp 49) rfl w.heap.size u out _ x0 x1 rfl ((OW.out.alloc (.cells #[.int .i64 x0, .int .i64 x1] 65)).alloc (.cells #[.int .i64 x0, .int .i64 x1] 65)).2 rfl (hnew (by simp)) (by (try simp only [List.length_append, List.length_cons, List.length_nil]); omega) (by have := ((OW.out.alloc (.cells #[.int .i64 x0, .int .i64 x1] 65)).alloc (.cells #[.int .i64 x0, .int .i64 x1] 65)).1.size; omega) ?_; intro u1 w1 ho1 hg1; have O1 := hid (OwnW.grown ((OW.out.alloc (.cells #[.int .i64 x0, .int .i64 x1] 65)).alloc (.cells #[.int .i64 x0, .int .i64 x1] 65)) hg1 ho1); clear ho1 hg1)
        go_roundw
        case rel => exact ⟨k + 1, u1, true, _, by omega, by go_num, rfl, rfl, hid (layst_done LS.out HR.out), O1⟩
        case measure => simp [intOf]; omega
      | false =>
        by_cases hlow : x0 < v
        · have hd : decide (v ≤ x0) = false := decide_eq_false (by omega)
          have hz : (x1 == 0) = false := by simpa using hx2
          have hz2 : (x1 != 0) = true := by simpa using hx2
          have HV := hid hlow
          clear hx2 hlow
          go_wp2_with (at_builtin; refine append_run rfl (.tmp 47) (.tmp 49) rfl w.heap.size u out _ x0 x1 rfl ((OW.out.alloc (.cells #[.int .i64 x0, .int .i64 x1] 65)).alloc (.cells #[.int .i64 x0, .int .i64 x1] 65)).2 rfl (hnew (by simp)) (by (try simp only [List.length_append, List.length_cons, List.length_nil]); omega) (by have := ((OW.out.alloc (.cells #[.int .i64 x0, .int .i64 x1] 65)).alloc (.cells #[.int .i64 x0, .int .i64 x1] 65)).1.size; omega) ?_; intro u1 w1 ho1 hg1; have O1 := hid (OwnW.grown ((OW.out.alloc (.cells #[.int .i64 x0, .int .i64 x1] 65)).alloc (.cells #[.int .i64 x0, .int .i64 x1] 65)) hg1 ho1); clear ho1 hg1)
          go_roundw
          case rel => exact ⟨k + 1, u1, false, _, by omega, by go_num, rfl, rfl, hid (layst_low LS.out HR.out HV.out), O1⟩
          case measure => simp [intOf]; omega
        · have hd : decide (v ≤ x0) = true := decide_eq_true (by omega)
          by_cases hup : v < x0
          · have hd2 : decide (v < x0) = true := decide_eq_true hup
            have hz : (x1 == 0) = false := by simpa using hx2
            have hz2 : (x1 != 0) = true := by simpa using hx2
            have HV := hid hup
            clear hx2 hlow hup
            go_wp2_with (first
              | (at_builtin; refine append_run rfl (.tmp 33) (.tmp 37) rfl w.heap.size u out _ v n rfl ((OW.out.alloc (.cells #[.int .i64 x0, .int .i64 x1] 65)).alloc (.cells #[.int .i64 v, .int .i64 n] 65)).2 rfl (hnew (by simp)) (by (try simp only [List.length_append, List.length_cons, List.length_nil]); omega) (by have := ((OW.out.alloc (.cells #[.int .i64 x0, .int .i64 x1] 65)).alloc (.cells #[.int .i64 v, .int .i64 n] 65)).1.size; omega) ?_; intro u1 w1 ho1 hg1; have O1 := hid (OwnW.grown ((OW.out.alloc (.cells #[.int .i64 x0, .int .i64 x1] 65)).alloc (.cells #[.int .i64 v, .int .i64 n] 65)) hg1 ho1); have K1 := hid (box_kept (OW.out.2) hg1 (by rw [Below.heap_alloc _ _ _ (by simp)]; exact hnew rfl) (Nat.le_refl wr.heap.size)); obtain ⟨c0, c1⟩ := box_two K1.out; clear ho1 hg1)
              | (at_builtin; refine append_run rfl (.tmp 47) (.tmp 49) rfl w.heap.size u1 (out ++ [(v, n)]) _ x0 x1 rfl (O1.out.alloc (.cells #[.int .i64 x0, .int .i64 x1] 65)).2 rfl (hnew (by simp)) (by (try simp only [List.length_append, List.length_cons, List.length_nil]); omega) (by have := (O1.out.alloc (.cells #[.int .i64 x0, .int .i64 x1] 65)).1.size; omega) ?_; intro u2 w2 ho2 hg2; have O2 := hid (OwnW.grown (O1.out.alloc (.cells #[.int .i64 x0, .int .i64 x1] 65)) hg2 ho2); clear ho2 hg2))
            go_roundw
            case rel => exact ⟨k + 1, u2, true, _, by omega, by go_num, rfl, rfl, hid (layst_above LS.out HR.out HV.out), O2⟩
            case measure => simp [intOf]; omega
          · have hd2 : decide (v < x0) = false := decide_eq_false hup
            obtain rfl : x0 = v := by omega
            clear hlow hup hx2
            by_cases hs : x1 + n = 0
            · have hz : (x1 + n == 0) = true := by simpa using hs
              have hz2 : (x1 + n != 0) = false := by simpa using hs
              have HS := hid hs
              clear hs
              go_wp2
              go_roundw
              case rel => exact ⟨k + 1, u, true, out, by omega, by go_num, rfl, rfl, hid (layst_gone LS.out HR.out HS.out), hid (OW.out.alloc _)⟩
              case measure => simp [intOf]; omega
            · have hz : (x1 + n == 0) = false := by simpa using hs
              have hz2 : (x1 + n != 0) = true := by simpa using hs
              have HS := hid hs
              clear hs
              go_wp2_with (at_builtin; refine append_run rfl (.tmp 47) (.tmp 49) rfl w.heap.size u out _ x0 (x1 + n) rfl ((OW.out.alloc (.cells #[.int .i64 x0, .int .i64 (x1 + n)] 65)).alloc (.cells #[.int .i64 x0, .int .i64 (x1 + n)] 65)).2 rfl (hnew (by simp)) (by (try simp only [List.length_append, List.length_cons, List.length_nil]); omega) (by have := ((OW.out.alloc (.cells #[.int .i64 x0, .int .i64 (x1 + n)] 65)).alloc (.cells #[.int .i64 x0, .int .i64 (x1 + n)] 65)).1.size; omega) ?_; intro u1 w1 ho1 hg1; have O1 := hid (OwnW.grown ((OW.out.alloc (.cells #[.int .i64 x0, .int .i64 (x1 + n)] 65)).alloc (.cells #[.int .i64 x0, .int .i64 (x1 + n)] 65)) hg1 ho1); clear ho1 hg1)
              go_roundw
              case rel => exact ⟨k + 1, u1, true, _, by omega, by go_num, rfl, rfl, hid (layst_here LS.out HR.out HS.out), O1⟩
              case measure => simp [intOf]; omega
    · have hkf : decide ((k : Int) < (m : Int)) = false := decide_eq_false (by omega)
      cases dn with
      | true =>
        have HE := hid (layst_end LS.out (by have := EL.out; omega))
        go_wp2
        go_ret
        exact ⟨u, rfl, by rw [← HE.out]; exact OW.out⟩
      | false =>
        have HE := hid (layst_fin LS.out (by have := EL.out; omega))
        go_wp2_with (at_builtin; refine append_run rfl (.tmp 53) (.tmp 57) rfl w.heap.size u out _ v n rfl (OW.out.alloc (.cells #[.int .i64 v, .int .i64 n] 65)).2 rfl (hnew (by simp)) (by (try simp only [List.length_append, List.length_cons, List.length_nil]); omega) (by have := (OW.out.alloc (.cells #[.int .i64 v, .int .i64 n] 65)).1.size; omega) ?_; intro u1 w1 ho1 hg1; have O1 := hid (OwnW.grown (OW.out.alloc (.cells #[.int .i64 v, .int .i64 n] 65)) hg1 ho1); clear ho1 hg1)
        go_ret
        exact ⟨u1, rfl, by rw [← HE.out]; exact O1.out⟩

end Go.Proofs.Ytjkkajhjcinalaa

namespace Go.Proofs.Ytjkkajhjcinalaa
open Go.ChangeShapes Go.WideShapes Go.ChangeAt Go.RowKit
set_option linter.unusedVariables false
set_option linter.unusedSimpArgs false
set_option maxRecDepth 100000

theorem lay_m (a : Option Addr) (m c : Nat) (l : List Rn) (v n : Int) (M : List Rn) (w : World) (hl : NRun w a m c l) (hz : Hid (Nz l)) (hb : Hid (∀ r ∈ l, -1099511627776 ≤ r.2 ∧ r.2 ≤ 1099511627776)) (hn : -1099511627776 ≤ n ∧ n ≤ 1099511627776) (hm : m ≤ 1000000) (hM : Hid (lay v n l = M)) :
    Calls Try.prog 52 #[.slice a m c, .int .i64 v, .int .i64 n] w fun e w' => (∃ A cap, e = .returned (.slice A M.length cap) ∧ NRun w' A M.length cap M ∧ ∀ b off, A = some ⟨b, off, none⟩ → w.heap.size ≤ b) ∧ Below w.heap.size w w' := by
  refine (lay_any a m c l v n w hl hz.out hb.out hn hm).mono ?_
  rintro e w' ⟨u, rfl, hb, ho⟩
  rw [hM.out] at ho
  obtain ⟨A, cap, rfl, hr⟩ := own_any ho
  exact ⟨⟨A, cap, rfl, hr, fun b off e => by subst e; exact (ho.lt b rfl).1⟩, hb⟩
/-- What is laid on the way is as small as Lay wants it. -/
def Sml (l : List Rn) : Prop := Nz l ∧ (∀ r ∈ l, -1099511627776 ≤ r.2 ∧ r.2 ≤ 1099511627776) ∧ l.length ≤ 1000000
theorem sml_jn {a b : List Rn} (ha : Bag a) (hb : Bag b) (ht : tot a + tot b ≤ 1099511627776) (la : a.length ≤ 1000) (lb : b.length ≤ 1000) (k : Nat) : Sml (jnl a (b.take k)) := by
  have h1 := jnl_bd ha.1 ha.2.1 (pos_take hb.2.1 k) (by have := tot_take hb.2.1 k; omega)
  refine ⟨pos_nz (jnl_pos ha.2.1 (pos_take hb.2.1 k)), fun r hr => ?_, ?_⟩
  · have := h1 r hr; omega
  · have := jnl_len a (b.take k); rw [List.length_take] at this; omega
/-- A block that is kept behind a world. -/
def Kp (w wr : World) (N : Nat) (o : Obj) : Prop := Below w.heap.size w wr ∧ w.heap.size ≤ N ∧ wr.heap[N]? = some o
theorem Kp.step {w wr w' : World} {N : Nat} {o : Obj} (h : Kp w wr N o) (hb : Below wr.heap.size wr w') : Kp w w' N o := ⟨bt h.1 hb, h.2.1, keep_blk h.2.2 hb⟩
theorem kp_new (w : World) (o : Obj) : Kp w (w.alloc o) w.heap.size o := ⟨b1alloc w o, Nat.le_refl _, heap_alloc_new w o⟩
theorem set2_heap {w : World} {N : Nat} {t : TypeId} {p q : Value} (u v : Value) (h : w.heap[N]? = some (.cells #[p, q] t)) : ((w.setCell ⟨N, 0, none⟩ u).setCell ⟨N, 1, none⟩ v).heap[N]? = some (.cells #[u, v] t) := by
  have h0 := heap_setCell_same w N 0 _ t u h
  have h1 := heap_setCell_same _ N 1 _ t v h0
  exact h1
theorem set2_below {w wr : World} {N : Nat} {o : Obj} (u v : Value) (h : Kp w wr N o) : Below w.heap.size w ((wr.setCell ⟨N, 0, none⟩ u).setCell ⟨N, 1, none⟩ v) := (h.1.setCell h.2.1 _).setCell h.2.1 _
theorem set2_run {w : World} {N : Nat} {A : Option Addr} {n c : Nat} {l : List Rn} (u v : Value) (h : NRun w A n c l) (hne : 0 < n → ∀ b off, A = some ⟨b, off, none⟩ → ¬ b = N) : NRun ((w.setCell ⟨N, 0, none⟩ u).setCell ⟨N, 1, none⟩ v) A n c l := by
  obtain ⟨h1, h2, h3, h4, h5⟩ := h
  refine ⟨h1, h2, h3, h4, fun h0 => ?_⟩
  obtain ⟨b, off, e, hlt, hl⟩ := h5 h0
  have hb := hne h0 b off e
  refine ⟨b, off, e, by simpa using hlt, fun j r hj i x hi => ?_⟩
  have g1 := set_grown w N 0 u
  have g2 := set_grown (w.setCell ⟨N, 0, none⟩ u) N 1 v
  rw [grown_cell g2 (by simpa using hlt) (fun e' => hb (by cases e'; rfl)), grown_cell g1 hlt (fun e' => hb (by cases e'; rfl))]
  exact hl j r hj i x hi
/-- What the document's Join tells. -/
def Jn (a b : List Rn) : Bool := gd a && gd b && decide (tot a + tot b ≤ 1099511627776)
def Jl (a b : List Rn) : List Rn := if Jn a b then jnl a b else []
theorem jn_no1 {a b : List Rn} (h : gd a = false) : Jn a b = false := by unfold Jn; rw [h]; rfl
theorem jn_no2 {a b : List Rn} (h : gd b = false) : Jn a b = false := by unfold Jn; rw [h]; simp
theorem jn_no3 {a b : List Rn} (h : 1099511627776 < tot a + tot b) : Jn a b = false := by unfold Jn; rw [decide_eq_false (by omega)]; simp
theorem jn_yes {a b : List Rn} (h : Bag a) (h' : Bag b) (ht : tot a + tot b ≤ 1099511627776) : Jn a b = true := by unfold Jn; rw [gd_yes h, gd_yes h', decide_eq_true ht]; rfl
theorem jl_no {a b : List Rn} (h : Jn a b = false) : Jl a b = [] := by unfold Jl; rw [h]; rfl
theorem jl_yes {a b : List Rn} (h : Jn a b = true) : Jl a b = jnl a b := by unfold Jl; rw [h]; rfl
/-- What the document's Minus tells. -/
def Mn (a b : List Rn) : Bool := gd a && gd b && fits a b
def Ml (a b : List Rn) : List Rn := if Mn a b then mnl a b else []
theorem mn_no1 {a b : List Rn} (h : gd a = false) : Mn a b = false := by unfold Mn; rw [h]; rfl
theorem mn_no2 {a b : List Rn} (h : gd b = false) : Mn a b = false := by unfold Mn; rw [h]; simp
theorem mn_no3 {a b : List Rn} (h : ¬ Fits a b) : Mn a b = false := by unfold Mn; rw [fits_no h]; simp
theorem mn_yes {a b : List Rn} (h : Bag a) (h' : Bag b) (ht : Fits a b) : Mn a b = true := by unfold Mn; rw [gd_yes h, gd_yes h', fits_yes ht]; rfl
theorem ml_no {a b : List Rn} (h : Mn a b = false) : Ml a b = [] := by unfold Ml; rw [h]; rfl
theorem ml_yes {a b : List Rn} (h : Mn a b = true) : Ml a b = mnl a b := by unfold Ml; rw [h]; rfl
theorem rcount_m (a : Option Addr) (n c : Nat) (l : List Rn) (T : Int) (w : World) (hl : NRun w a n c l) (hk : ∀ r ∈ l, nok r) (hT : Hid (tl l = T)) :
    Calls Try.prog 60 #[.slice a n c] w fun e w' => e = .returned (.int .i64 T) ∧ Below w.heap.size w w' := by
  have := rcount_any a n c l w hl hk
  rw [hT.out] at this
  exact this
theorem rhas_m (a : Option Addr) (n c : Nat) (l : List Rn) (v C : Int) (w : World) (hl : NRun w a n c l) (hk : ∀ r ∈ l, nok r) (hC : Hid (hs v l = C)) :
    Calls Try.prog 81 #[.slice a n c, .int .i64 v] w fun e w' => e = .returned (.int .i64 C) ∧ Below w.heap.size w w' := by
  have := rhas_any a n c l v w hl hk
  rw [hC.out] at this
  exact this

end Go.Proofs.Ytjkkajhjcinalaa

namespace Go.Proofs.Ytjkkajhjcinalaa
open Go.ChangeShapes Go.WideShapes Go.ChangeAt Go.RowKit
set_option linter.unusedVariables false
set_option linter.unusedSimpArgs false
set_option maxRecDepth 100000

/-- What all come to, or 0; does it fit? -/
def sv (l : List Rn) : Int := if gd l then calc.fitV (wsum l) else 0
def sb (l : List Rn) : Bool := gd l && calc.fitB (wsum l)
theorem sv_no {l : List Rn} (h : gd l = false) : sv l = 0 ∧ sb l = false := by unfold sv sb; rw [h]; exact ⟨rfl, rfl⟩
theorem sv_yes {l : List Rn} (h : gd l = true) : sv l = calc.fitV (wsum l) ∧ sb l = calc.fitB (wsum l) := by unfold sv sb; rw [h]; exact ⟨rfl, rfl⟩
/-- What one comes to less what another one does, or 0; does it fit? -/
def nv (l u : List Rn) : Int := if gd l && gd u then calc.fitV (wsum l - wsum u) else 0
def nb (l u : List Rn) : Bool := gd l && gd u && calc.fitB (wsum l - wsum u)
theorem nv_no {l u : List Rn} (h : gd l = false ∨ gd u = false) : nv l u = 0 ∧ nb l u = false := by
  have : (gd l && gd u) = false := by rcases h with h | h <;> rw [h] <;> simp
  unfold nv nb; rw [this]; exact ⟨rfl, rfl⟩
theorem nv_yes {l u : List Rn} (h : gd l = true) (h' : gd u = true) : nv l u = calc.fitV (wsum l - wsum u) ∧ nb l u = calc.fitB (wsum l - wsum u) := by
  unfold nv nb; rw [h, h']; exact ⟨rfl, rfl⟩
theorem gd_nil : gd [] = true := gd_yes bag_nil
theorem nv_nil (l : List Rn) : nv l [] = sv l ∧ nb l [] = sb l := by
  cases h : gd l with
  | false => rw [(nv_no (.inl h)).1, (nv_no (.inl h)).2, (sv_no h).1, (sv_no h).2]; exact ⟨rfl, rfl⟩
  | true =>
    rw [(nv_yes h gd_nil).1, (nv_yes h gd_nil).2, (sv_yes h).1, (sv_yes h).2]
    simp [wsum]
theorem hS_step {l : List Rn} {k : Nat} {x0 x1 : Int} (h : l[k]? = some (x0, x1)) : hS (l.take (k + 1)) = hS (l.take k) + x0 / 17592186044416 * x1 := by
  rw [take_one h, hS_app]; simp [hS]
theorem mS_step {l : List Rn} {k : Nat} {x0 x1 : Int} (h : l[k]? = some (x0, x1)) : mS (l.take (k + 1)) = mS (l.take k) + x0 / 4194304 % 4194304 * x1 := by
  rw [take_one h, mS_app]; simp [mS]
theorem lS_step {l : List Rn} {k : Nat} {x0 x1 : Int} (h : l[k]? = some (x0, x1)) : lS (l.take (k + 1)) = lS (l.take k) + x0 % 4194304 * x1 := by
  rw [take_one h, lS_app]; simp [lS]
/-- The way of Net: so many of the first one's runs, so many of the other's. -/
def SI (l u : List Rn) (k q : Nat) (h m lo : Int) : Prop := h = hS (l.take k) - hS (u.take q) ∧ m = mS (l.take k) - mS (u.take q) ∧ lo = lS (l.take k) - lS (u.take q)
theorem si_bd {l u : List Rn} {k q : Nat} {h m lo : Int} (hs : SI l u k q h m lo) (hb : Bag l) (hk : ∀ r ∈ l, nok r) (hb' : Bag u) (hk' : ∀ r ∈ u, nok r) : -1152921504606846976 ≤ h ∧ h ≤ 1152921504606846976 ∧ -4611686018427387904 ≤ m ∧ m ≤ 4611686018427387904 ∧ -4611686018427387904 ≤ lo ∧ lo ≤ 4611686018427387904 := by
  obtain ⟨e1, e2, e3⟩ := hs
  have h1 := bag_take hb k
  have h2 := bag_take hb' q
  have s1 := sum_bds (l := l.take k) (fun r hr => (hk r (List.mem_of_mem_take hr)).1) h1.2.1
  have s2 := sum_bds (l := u.take q) (fun r hr => (hk' r (List.mem_of_mem_take hr)).1) h2.2.1
  have t1 := h1.2.2
  have t2 := h2.2.2
  have t3 := tot_nn h1.2.1
  have t4 := tot_nn h2.2.1
  omega
theorem si_end {l u : List Rn} {k q : Nat} {h m lo : Int} (hs : SI l u k q h m lo) (hb : Bag l) (hk : ∀ r ∈ l, nok r) (hb' : Bag u) (hk' : ∀ r ∈ u, nok r) (hl : l.length ≤ k) (hu : u.length ≤ q) : h * 17592186044416 + m * 4194304 + lo = wsum l - wsum u := by
  obtain ⟨e1, e2, e3⟩ := hs
  rw [List.take_of_length_le hl, List.take_of_length_le hu] at e1 e2 e3
  have s1 := sum_bds (l := l) (fun r hr => (hk r hr).1) hb.2.1
  have s2 := sum_bds (l := u) (fun r hr => (hk' r hr).1) hb'.2.1
  rw [e1, e2, e3]; omega
theorem mul_negR {a n p : Int} (h : a * n = p) : a * -n = -p := by rw [Int.mul_neg, h]
theorem kp_set3 {w wr : World} {N : Nat} {t : TypeId} {a b c : Value} (x y z : Value) (h : Kp w wr N (.cells #[a, b, c] t)) : Kp w (((wr.setCell ⟨N, 0, none⟩ x).setCell ⟨N, 1, none⟩ y).setCell ⟨N, 2, none⟩ z) N (.cells #[x, y, z] t) := by
  refine ⟨((h.1.setCell h.2.1 _).setCell h.2.1 _).setCell h.2.1 _, h.2.1, ?_⟩
  have h0 := heap_setCell_same wr N 0 _ t x h.2.2
  have h1 := heap_setCell_same _ N 1 _ t y h0
  have h2 := heap_setCell_same _ N 2 _ t z h1
  exact h2
theorem froz3 {w : World} {D : Nat} {t : TypeId} {cs : Array Value} (hD : w.heap[D]? = some (.cells cs t)) : w.frozen? ⟨D, 0, none⟩ = false ∧ w.frozen? ⟨D, 1, none⟩ = false ∧ w.frozen? ⟨D, 2, none⟩ = false :=
  ⟨frozen_of_row w D 0 _ _ hD, frozen_of_row w D 1 _ _ hD, frozen_of_row w D 2 _ _ hD⟩


set_option maxHeartbeats 8000000 in
theorem bnet_any (a1 a2 : Option Addr) (n c m d : Nat) (l u : List Rn) (w : World) (hl : NRun w a1 n c l) (hk : ∀ r ∈ l, nok r) (hu : NRun w a2 m d u) (hk' : ∀ r ∈ u, nok r) :
    Calls Try.prog 109 #[.slice a1 n c, .slice a2 m d] w fun e w' => e = .returned (.tuple #[.int .i64 (nv l u), .bool (nb l u)]) ∧ Below w.heap.size w w' := by
  have HL := hid hl
  have HK := hid hk
  have HU := hid hu
  have HV := hid hk'
  have EL := hid hl.lens.1
  have EU := hid hu.lens.1
  have l2 := hl.lens.2
  have u2 := hu.lens.2
  have tkA : True := trivial
  clear hl hk hu hk'
  cases hg : gd l with
  | false =>
    rw [(nv_no (.inl hg)).1, (nv_no (.inl hg)).2]
    have HG := hid hg
    clear hg
    go_enter Try.func109, Try.ntmps109
    go_wp2_with (go_at_call 100; refine (good_m a1 n c l false _ HL.out HK.out HG).mono ?_; rintro e w1 ⟨rfl, hb1⟩)
    go_ret2
    exact ⟨rfl, hb1⟩
  | true =>
  have HG := hid hg
  cases hg' : gd u with
  | false =>
    rw [(nv_no (.inr hg')).1, (nv_no (.inr hg')).2]
    have HG' := hid hg'
    clear hg hg'
    go_enter Try.func109, Try.ntmps109
    go_wp2_with (first
      | (go_at_call 100; clear tkA; refine (good_m a1 n c l true _ HL.out HK.out HG).mono ?_; rintro e w1 ⟨rfl, hb1⟩; have B1 := hid hb1; clear hb1)
      | (go_at_call 100; refine (good_m a2 m d u false _ (HU.out.below B1.out) HV.out HG').mono ?_; rintro e w2 ⟨rfl, hb2⟩; have B2 := hid (bt B1.out hb2); clear hb2))
    go_ret2
    exact ⟨rfl, B2.out⟩
  | true =>
    have HB := hid (gd_iff.1 hg)
    have HB' := hid (gd_iff.1 hg')
    have HS := hid (nv_yes hg hg')
    have HG' := hid hg'
    clear hg hg'
    go_enter Try.func109, Try.ntmps109
    go_upto_region 3 with (first
      | (go_at_call 100; clear tkA; refine (good_m a1 n c l true _ HL.out HK.out HG).mono ?_; rintro e w1 ⟨rfl, hb1⟩; have B1 := hid hb1; clear hb1)
      | (go_at_call 100; refine (good_m a2 m d u true _ (HU.out.below B1.out) HV.out HG').mono ?_; rintro e w2 ⟨rfl, hb2⟩; have B2 := hid (bt B1.out hb2); clear hb2))
    have K0 : Hid (Kp w (w2.alloc (.cells #[.int .i64 0, .int .i64 0, .int .i64 0] 192)) w2.heap.size (.cells #[.int .i64 0, .int .i64 0, .int .i64 0] 192)) := hid ⟨B2.out.alloc B2.out.size _, B2.out.size, heap_alloc_new _ _⟩
    go_upto_region 4 with fail
    generalize w2.alloc (.cells #[.int .i64 0, .int .i64 0, .int .i64 0] 192) = W0 at K0 ⊢
    generalize w2.heap.size = N at K0 ⊢
    clear B1 B2
    go_wp2
    go_loopw [21] (fun i wr => ∃ (k : Nat) (h mi lo : Int), k ≤ n ∧ i = .int .i64 k ∧ Hid (SI l u k 0 h mi lo) ∧ Hid (Kp w wr N (.cells #[.int .i64 h, .int .i64 mi, .int .i64 lo] 192))) (fun i _ => n - (intOf i).toNat)
    case atStart => exact ⟨0, 0, 0, 0, by omega, rfl, hid ⟨rfl, rfl, rfl⟩, K0⟩
    case round =>
      obtain ⟨k, h, mi, lo, hkn, rfl, HI, KW⟩ := hrel
      have hk0 : (0 : Int) ≤ (k : Int) := by omega
      by_cases hlt : k < n
      · have hki : (k : Int) < (n : Int) := by omega
        obtain ⟨b, off, x0, x1, rfl, hb, hr, p0, p1⟩ := HL.out.pick KW.out.1 hlt
        have HR := hid hr
        have hbd := si_bd HI.out HB.out HK.out HB'.out HV.out
        have hnx : SI l u (k + 1) 0 (h + x0 / 17592186044416 * x1) (mi + x0 / 4194304 % 4194304 * x1) (lo + x0 % 4194304 * x1) := ⟨by rw [HI.out.1, hS_step hr]; omega, by rw [HI.out.2.1, mS_step hr]; omega, by rw [HI.out.2.2, lS_step hr]; omega⟩
        have hbd2 := si_bd hnx HB.out HK.out HB'.out HV.out
        have hx1 : 1 ≤ x1 := HB.out.2.1 _ (List.mem_of_getElem? hr)
        have hx0 := (HK.out _ (List.mem_of_getElem? hr)).1
        have hpd := part_bd hx0 (n := x1) (by omega)
        have hx1m : x1 ≤ 1099511627776 := by have := (bag_at HB.out hr).2.2; omega
        obtain ⟨A, hA⟩ : ∃ y, x0 / 17592186044416 = y := ⟨_, rfl⟩
        obtain ⟨B, hB⟩ : ∃ y, x0 / 4194304 % 4194304 = y := ⟨_, rfl⟩
        obtain ⟨C, hC⟩ : ∃ y, x0 % 4194304 = y := ⟨_, rfl⟩
        rw [hA, hB, hC] at hnx hbd2 hpd
        obtain ⟨P, hP⟩ : ∃ y, A * x1 = y := ⟨_, rfl⟩
        obtain ⟨Q, hQ⟩ : ∃ y, B * x1 = y := ⟨_, rfl⟩
        obtain ⟨R, hR⟩ : ∃ y, C * x1 = y := ⟨_, rfl⟩
        rw [hP, hQ, hR] at hnx hbd2 hpd
        have HN := hid hnx
        have HPl : Hid (∀ W, Calls Try.prog 123 #[.agg #[.int .i64 h, .int .i64 mi, .int .i64 lo], .int .i64 x0, .int .i64 x1] W fun e w' => e = .returned (.agg #[.int .i64 (h + P), .int .i64 (mi + Q), .int .i64 (lo + R)]) ∧ Below W.heap.size W w') := hid (fun W => pplus_raw h mi lo x0 x1 A B C P Q R W hA hB hC hP hQ hR (by omega) (by omega) (by omega) (by omega) (by omega) (by omega) (by omega) (by omega) (by omega) (by omega) (by omega) (by omega))
        clear hnx hbd hbd2 hpd hx0 hx1 hx1m hA hB hC hP hQ hR hr
        obtain ⟨d0, d1, d2⟩ := box_three KW.out.2.2
        have KX := hid (KW.out.step (b1alloc wr (.cells #[.int .i64 x0, .int .i64 x1] 65)))
        obtain ⟨c0, c1, c2⟩ := box_three KX.out.2.2
        go_wp2_with (go_at_call 123; refine (HPl.out _).mono ?_; rintro e w5 ⟨rfl, hb5⟩; have K5 := hid (KX.out.step hb5); obtain ⟨e0, e1, e2⟩ := box_three K5.out.2.2; obtain ⟨f0, f1, f2⟩ := froz3 K5.out.2.2; clear hb5)
        go_roundw
        case rel => exact ⟨k + 1, h + P, mi + Q, lo + R, by omega, by go_num, HN, hid (kp_set3 _ _ _ K5.out)⟩
        case measure => simp [intOf]; omega
      · obtain rfl : k = n := by omega
        have hkf : decide ((k : Int) < (k : Int)) = false := decide_eq_false (by omega)
        have K1 : Hid (SI l u k 0 h mi lo) := HI
        clear HI hlt hkn
        go_wp2
        go_loopw [34] (fun i wr => ∃ (q : Nat) (h mi lo : Int), q ≤ m ∧ i = .int .i64 q ∧ Hid (SI l u k q h mi lo) ∧ Hid (Kp w wr N (.cells #[.int .i64 h, .int .i64 mi, .int .i64 lo] 192))) (fun i _ => m - (intOf i).toNat)
        case atStart => exact ⟨0, h, mi, lo, by omega, rfl, K1, KW⟩
        case round =>
          clear K1 KW
          obtain ⟨q, h, mi, lo, hqn, rfl, HI, KW⟩ := hrel
          have hq0 : (0 : Int) ≤ (q : Int) := by omega
          by_cases hlt : q < m
          · have hqi : (q : Int) < (m : Int) := by omega
            obtain ⟨b, off, x0, x1, rfl, hb, hr, p0, p1⟩ := HU.out.pick KW.out.1 hlt
            have hbd := si_bd HI.out HB.out HK.out HB'.out HV.out
            have hnx : SI l u k (q + 1) (h + -(x0 / 17592186044416 * x1)) (mi + -(x0 / 4194304 % 4194304 * x1)) (lo + -(x0 % 4194304 * x1)) := ⟨by rw [HI.out.1, hS_step hr]; omega, by rw [HI.out.2.1, mS_step hr]; omega, by rw [HI.out.2.2, lS_step hr]; omega⟩
            have hbd2 := si_bd hnx HB.out HK.out HB'.out HV.out
            have hx1 : 1 ≤ x1 := HB'.out.2.1 _ (List.mem_of_getElem? hr)
            have hx0 := (HV.out _ (List.mem_of_getElem? hr)).1
            have hx1i := (HV.out _ (List.mem_of_getElem? hr)).2
            have hpd := part_bd hx0 (n := x1) (by omega)
            have hx1m : x1 ≤ 1099511627776 := by have := (bag_at HB'.out hr).2.2; omega
            obtain ⟨A, hA⟩ : ∃ y, x0 / 17592186044416 = y := ⟨_, rfl⟩
            obtain ⟨B, hB⟩ : ∃ y, x0 / 4194304 % 4194304 = y := ⟨_, rfl⟩
            obtain ⟨C, hC⟩ : ∃ y, x0 % 4194304 = y := ⟨_, rfl⟩
            rw [hA, hB, hC] at hnx hbd2 hpd
            obtain ⟨P, hP⟩ : ∃ y, A * x1 = y := ⟨_, rfl⟩
            obtain ⟨Q, hQ⟩ : ∃ y, B * x1 = y := ⟨_, rfl⟩
            obtain ⟨R, hR⟩ : ∃ y, C * x1 = y := ⟨_, rfl⟩
            rw [hP, hQ, hR] at hnx hbd2 hpd
            have HN := hid hnx
            have wng : IntKind.i64.wrap (-x1) = -x1 := IntWalk.i64_in _ (by omega)
            have HPl : Hid (∀ W, Calls Try.prog 123 #[.agg #[.int .i64 h, .int .i64 mi, .int .i64 lo], .int .i64 x0, .int .i64 (-x1)] W fun e w' => e = .returned (.agg #[.int .i64 (h + -P), .int .i64 (mi + -Q), .int .i64 (lo + -R)]) ∧ Below W.heap.size W w') := hid (fun W => pplus_raw h mi lo x0 (-x1) A B C (-P) (-Q) (-R) W hA hB hC (mul_negR hP) (mul_negR hQ) (mul_negR hR) (by omega) (by omega) (by omega) (by omega) (by omega) (by omega) (by omega) (by omega) (by omega) (by omega) (by omega) (by omega))
            clear hnx hbd hbd2 hpd hx0 hx1 hx1i hx1m hA hB hC hP hQ hR hr
            obtain ⟨d0, d1, d2⟩ := box_three KW.out.2.2
            have KX := hid (KW.out.step (b1alloc wr (.cells #[.int .i64 x0, .int .i64 x1] 65)))
            obtain ⟨c0, c1, c2⟩ := box_three KX.out.2.2
            go_wp2_with (go_at_call 123; refine (HPl.out _).mono ?_; rintro e w5 ⟨rfl, hb5⟩; have K5 := hid (KX.out.step hb5); obtain ⟨e0, e1, e2⟩ := box_three K5.out.2.2; obtain ⟨f0, f1, f2⟩ := froz3 K5.out.2.2; clear hb5)
            go_roundw
            case rel => exact ⟨q + 1, h + -P, mi + -Q, lo + -R, by omega, by go_num, HN, hid (kp_set3 _ _ _ K5.out)⟩
            case measure => simp [intOf]; omega
          · have hqf : decide ((q : Int) < (m : Int)) = false := decide_eq_false (by omega)
            obtain ⟨b1, b2, b3, b4, b5, b6⟩ := si_bd HI.out HB.out HK.out HB'.out HV.out
            have HE := hid (si_end HI.out HB.out HK.out HB'.out HV.out (by have := EL.out; omega) (by have := EU.out; omega))
            obtain ⟨c0, c1, c2⟩ := box_three KW.out.2.2
            go_wp2_with (go_at_call 124; refine (narrow_m h mi lo _ (by omega) (by omega) b3 b4 b5 b6).mono ?_; rintro e w5 ⟨rfl, hb5⟩; have B5 := hid (bt KW.out.1 hb5); clear hb5)
            go_ret2
            exact ⟨by rw [HS.out.1, HS.out.2, ← HE.out]; rfl, B5.out⟩
set_option maxHeartbeats 1000000 in
theorem bsum_any (a : Option Addr) (n c : Nat) (l : List Rn) (w : World) (hl : NRun w a n c l) (hk : ∀ r ∈ l, nok r) :
    Calls Try.prog 97 #[.slice a n c] w fun e w' => e = .returned (.tuple #[.int .i64 (sv l), .bool (sb l)]) ∧ Below w.heap.size w w' := by
  have HL := hid hl
  have HK := hid hk
  have HE := hid (nv_nil l)
  clear hl hk
  go_enter Try.func97, Try.ntmps97
  go_wp2_with (go_at_call 109; refine (bnet_any a none n c 0 0 l [] _ HL.out HK.out (nrun_nil _) (fun r hr => by cases hr)).mono ?_; rw [HE.out.1, HE.out.2]; rintro e w1 ⟨rfl, hb1⟩)
  go_ret2
  exact ⟨rfl, hb1⟩

end Go.Proofs.Ytjkkajhjcinalaa

namespace Go.Proofs.Ytjkkajhjcinalaa
open Go.ChangeShapes Go.WideShapes Go.ChangeAt Go.RowKit
set_option linter.unusedVariables false
set_option linter.unusedSimpArgs false
set_option maxRecDepth 100000

theorem kp_far {w wr : World} {N M : Nat} {o o' : Obj} (x y z : Value) (h : Kp w wr N o) (k : Kp w wr M o') (hne : ¬ N = M) : Kp w (((wr.setCell ⟨M, 0, none⟩ x).setCell ⟨M, 1, none⟩ y).setCell ⟨M, 2, none⟩ z) N o := by
  refine ⟨((h.1.setCell k.2.1 _).setCell k.2.1 _).setCell k.2.1 _, h.2.1, ?_⟩
  rw [Below.heap_setCell _ _ _ _ hne, Below.heap_setCell _ _ _ _ hne, Below.heap_setCell _ _ _ _ hne]
  exact h.2.2
theorem mul_abs {a b A B : Int} (ha : -A ≤ a ∧ a ≤ A) (hb : 0 ≤ b ∧ b ≤ B) (hA : 0 ≤ A) : -(A * B) ≤ a * b ∧ a * b ≤ A * B := by
  have h1 : a * b ≤ A * b := Int.mul_le_mul_of_nonneg_right ha.2 hb.1
  have h2 : -A * b ≤ a * b := Int.mul_le_mul_of_nonneg_right ha.1 hb.1
  have h3 : A * b ≤ A * B := Int.mul_le_mul_of_nonneg_left hb.2 hA
  have h4 : -A * b = -(A * b) := Int.neg_mul A b
  omega
theorem wide_bd {l : List Rn} (hb : Bag l) (hk : ∀ r ∈ l, nok r) {k : Nat} : calc.sz (wsum (l.take k)) ≤ 85070591730234615865843651857942052864 := by
  have hb' := bag_take hb k
  have h := wsum_bd (l := l.take k) (fun r hr => (hk r (List.mem_of_mem_take hr)).1) hb'.2.1
  have := hb'.2.2
  have := tot_nn hb'.2.1
  unfold calc.sz; split <;> omega
theorem wide_one {l : List Rn} (hb : Bag l) (hk : ∀ r ∈ l, nok r) {k : Nat} {x0 x1 : Int} (hr : l[k]? = some (x0, x1)) : calc.sz (x0 * x1) ≤ 85070591730234615865843651857942052864 := by
  have hx := (hk _ (List.mem_of_getElem? hr)).1
  have h := bag_at hb hr
  have h1 := h.2.1; have h2 := h.2.2.1; have h3 := h.2.2.2.1
  obtain ⟨x1', x2'⟩ := hx
  simp only at h1 h2 x1' x2'
  have := mul_abs (a := x0) (b := x1) (A := 9223372036854775808) (B := 1099511627776) (by omega) (by omega) (by omega)
  unfold calc.sz; split <;> omega
set_option maxHeartbeats 8000000 in
theorem wide_good (a : Option Addr) (n c : Nat) (l : List Rn) (w : World) (hl : NRun w a n c l) (hk : ∀ r ∈ l, nok r) (hb : Bag l) :
    Calls Try.prog 61 #[.slice a n c] w fun e w' => e = .returned (.agg #[.bool (calc.ng (wsum l)), .int .u64 (calc.hi (calc.sz (wsum l))), .int .u64 (calc.lo (calc.sz (wsum l)))]) ∧ Below w.heap.size w w' := by
  have HL := hid hl
  have HK := hid hk
  obtain ⟨l1, l2⟩ := hl.lens
  have EL := hid l1
  have HB := hid hb
  have K0 : Hid (Kp w ((w.alloc (.cells #[.bool false, .int .u64 0, .int .u64 0] 121)).alloc (.cells #[.bool false, .int .u64 0, .int .u64 0] 121)) w.heap.size (.cells #[.bool false, .int .u64 0, .int .u64 0] 121)) := hid ((kp_new w _).step (b1alloc _ _))
  have K1 : Hid (Kp w ((w.alloc (.cells #[.bool false, .int .u64 0, .int .u64 0] 121)).alloc (.cells #[.bool false, .int .u64 0, .int .u64 0] 121)) (w.heap.size + 1) (.cells #[.bool false, .int .u64 0, .int .u64 0] 121)) := hid ⟨(b1alloc w _).alloc (by simp) _, by omega, hnew (by simp)⟩
  clear hl hk l1 hb
  go_enter Try.func61, Try.ntmps61
  go_upto_region 2 with fail
  generalize ((w.alloc (.cells #[.bool false, .int .u64 0, .int .u64 0] 121)).alloc (.cells #[.bool false, .int .u64 0, .int .u64 0] 121)) = W0 at K0 K1 ⊢
  go_wp2
  go_loopw [4] (fun i wr => ∃ (k : Nat) (S : Int), k ≤ n ∧ i = .int .i64 k ∧ Hid (S = wsum (l.take k)) ∧ Hid (Kp w wr w.heap.size (.cells #[.bool false, .int .u64 0, .int .u64 0] 121)) ∧ Hid (Kp w wr (w.heap.size + 1) (.cells #[.bool (calc.ng S), .int .u64 (calc.hi (calc.sz S)), .int .u64 (calc.lo (calc.sz S))] 121))) (fun i _ => n - (intOf i).toNat)
  case atStart => exact ⟨0, 0, by omega, rfl, hid rfl, K0, K1⟩
  case round =>
    obtain ⟨k, S, hkn, rfl, HI, KA, KB⟩ := hrel
    have hk0 : (0 : Int) ≤ (k : Int) := by omega
    obtain ⟨c0, c1, c2⟩ := box_three KB.out.2.2
    by_cases hlt : k < n
    · have hki : (k : Int) < (n : Int) := by omega
      obtain ⟨b, off, x0, x1, rfl, hb, hr, p0, p1⟩ := HL.out.pick KA.out.1 hlt
      have HR := hid hr
      have hxx := HK.out _ (List.mem_of_getElem? hr)
      have HX0 := hid hxx.1
      have HX1 := hid hxx.2
      have hbw : b < wr.heap.size := Nat.lt_of_lt_of_le hb KA.out.1.size
      have hsb := wide_bd HB.out HK.out (k := k)
      have hsx := wide_one HB.out HK.out hr
      rw [← HI.out] at hsb
      have HS1 := hid hsb
      have HS2 := hid hsx
      have HI2 : Hid (S + x0 * x1 = wsum (l.take (k + 1))) := hid (by rw [HI.out, wsum_step hr])
      clear hsb hsx
      clear hr hxx
      have t1 : True := trivial
      go_wp2
      go_region_with (first
        | (go_at_call 74; refine (calc.times_any x0 x1 _ HX0.out HX1.out).mono ?_; rintro e w1 ⟨rfl, hb1⟩; have T1 : Hid (Below wr.heap.size wr w1) := hid (undrew hb1); clear hb1; have q0 := ((bcell T1.out).1 b _ hbw).trans p0; have q1 := ((bcell T1.out).1 b _ hbw).trans p1; obtain ⟨d0, d1, d2⟩ := box_three (KB.out.step T1.out).2.2)
        | (go_at_call 98; refine (calc.rplus_any S (x0 * x1) _ HS1.out HS2.out).mono ?_; rintro e w2 ⟨rfl, hb2⟩; have T2 := hid (bt T1.out hb2); clear hb2; obtain ⟨e0, e1, e2⟩ := box_three (KB.out.step T2.out).2.2; obtain ⟨f0, f1, f2⟩ := froz3 (KB.out.step T2.out).2.2))
      all_goals
        go_wp2
        go_roundw
        case rel => exact ⟨k + 1, S + x0 * x1, by omega, by go_num, HI2, hid (kp_far _ _ _ (KA.out.step T2.out) (KB.out.step T2.out) (by omega)), hid (kp_set3 _ _ _ (KB.out.step T2.out))⟩
        case measure => simp [intOf]; omega
    · have hkf : decide ((k : Int) < (n : Int)) = false := decide_eq_false (by omega)
      obtain ⟨f0, f1, f2⟩ := froz3 KA.out.2.2
      obtain ⟨g0, g1, g2⟩ := box_three KA.out.2.2
      have HE : Hid (S = wsum l) := hid (by rw [HI.out, List.take_of_length_le (by have := EL.out; omega)])
      go_wp2
      (try simp only [Exit.inBlock, Exit.then])
      show bodyPost Try.prog Try.f61 _ _ _ _
      have K9 := kp_set3 (.bool (calc.ng S)) (.int .u64 (calc.hi (calc.sz S))) (.int .u64 (calc.lo (calc.sz S))) KA.out
      refine bodyPost_ret (results_cell_row (p := 2) rfl _ _ w.heap.size _ #[.bool (calc.ng S), .int .u64 (calc.hi (calc.sz S)), .int .u64 (calc.lo (calc.sz S))] (0, 0) _ rfl K9.2.2 Try.underlying121 rfl (by kernel_rfl)) rfl ?_
      exact ⟨by rw [← HE.out], K9.1⟩

end Go.Proofs.Ytjkkajhjcinalaa

namespace Go.Proofs.Ytjkkajhjcinalaa
open Go.RowKit
set_option linter.unusedVariables false
set_option linter.unusedSimpArgs false
set_option maxRecDepth 100000

/-- A cell: how many rows; of two measures the sum and the values. -/
structure Cl where
  n : Int
  s0 : Int
  s1 : Int
  b0 : List Rn
  b1 : List Rn
def cl0 : Cl := ⟨0, 0, 0, [], []⟩
/-- One measure of it, reckoned. -/
def Rk1 (n s : Int) (b : List Rn) : Prop := Bag b ∧ tot b = n ∧ wsum b = s
def rk (n s : Int) (b : List Rn) : Bool := gd b && (decide (tot b = n) && decide (wsum b = s))
theorem rk_iff {n s : Int} {b : List Rn} : rk n s b = true ↔ Rk1 n s b := by
  unfold rk Rk1; simp only [Bool.and_eq_true, decide_eq_true_iff, gd_iff]
theorem rk_yes {n s : Int} {b : List Rn} (h : Rk1 n s b) : rk n s b = true := rk_iff.2 h
theorem rk_no {n s : Int} {b : List Rn} (h : ¬ Rk1 n s b) : rk n s b = false := by
  cases e : rk n s b with
  | false => rfl
  | true => exact absurd (rk_iff.1 e) h
/-- May it be, of so many measures? -/
def CG (m : Int) (c : Cl) : Prop := (1 ≤ c.n ∧ c.n ≤ 1099511627776) ∧ Rk1 c.n c.s0 c.b0 ∧ ((m = 1 ∧ c.s1 = 0 ∧ c.b1 = []) ∨ (m = 2 ∧ Rk1 c.n c.s1 c.b1))
def cg (m : Int) (c : Cl) : Bool := decide (1 ≤ c.n ∧ c.n ≤ 1099511627776) && (rk c.n c.s0 c.b0 && ((decide (m = 1) && (decide (c.s1 = 0) && c.b1.isEmpty)) || (decide (m = 2) && rk c.n c.s1 c.b1)))
theorem cg_iff {m : Int} {c : Cl} : cg m c = true ↔ CG m c := by
  unfold cg CG
  simp only [Bool.and_eq_true, Bool.or_eq_true, decide_eq_true_iff, rk_iff, List.isEmpty_iff]
theorem cg_yes {m : Int} {c : Cl} (h : CG m c) : cg m c = true := cg_iff.2 h
theorem cg_no {m : Int} {c : Cl} (h : ¬ CG m c) : cg m c = false := by
  cases e : cg m c with
  | false => rfl
  | true => exact absurd (cg_iff.1 e) h
theorem cg_m {m : Int} {c : Cl} (h : cg m c = true) : m = 1 ∨ m = 2 := by
  rcases (cg_iff.1 h).2.2 with h | h
  · exact .inl h.1
  · exact .inr h.1
theorem cg_not {m : Int} (c : Cl) (h : ¬ (m = 1 ∨ m = 2)) : cg m c = false := cg_no (fun g => h (cg_m (cg_yes g)))
/-- Alike in all? -/
def csm (a b : Cl) : Bool := decide (a.n = b.n) && ((decide (a.s0 = b.s0) && decide (a.s1 = b.s1)) && (sm a.b0 b.b0 && sm a.b1 b.b1))
theorem sm_iff {a b : List Rn} : sm a b = true ↔ a = b := by
  constructor
  · intro h; unfold sm at h; exact of_decide_eq_true h
  · exact sm_yes
theorem csm_iff {a b : Cl} : csm a b = true ↔ a = b := by
  obtain ⟨n, s, t, x, y⟩ := a
  obtain ⟨n', s', t', x', y'⟩ := b
  unfold csm
  simp only [Bool.and_eq_true, decide_eq_true_iff, sm_iff, Cl.mk.injEq, and_assoc]
theorem csm_no {a b : Cl} (h : ¬ a = b) : csm a b = false := by
  cases e : csm a b with
  | false => rfl
  | true => exact absurd (csm_iff.1 e) h
/-! The cell of rows. -/
/-- A row: a place, two measures. -/
abbrev Rw := Int × Int × Int × Int × Int × Int
def rm0 : Rw → Int | (_, _, _, _, m, _) => m
def rm1 : Rw → Int | (_, _, _, _, _, m) => m
def rok : Rw → Prop | (a, b, c, d, m, n) => (U8 a ∧ U8 b ∧ U8 c ∧ U8 d) ∧ I64 m ∧ I64 n
def rcs : Rw → List Value | (a, b, c, d, m, n) => [.int .u8 a, .int .u8 b, .int .u8 c, .int .u8 d, .int .i64 m, .int .i64 n]
def V0 (l : List Rw) : List Int := l.map rm0
def V1 (l : List Rw) : List Int := l.map rm1
theorem V0_i64 {l : List Rw} (h : ∀ r ∈ l, rok r) : ∀ x ∈ V0 l, I64 x := by
  intro x hx
  obtain ⟨r, hr, rfl⟩ := List.mem_map.1 hx
  obtain ⟨a, b, c, d, m, n⟩ := r
  exact (h _ hr).2.1
theorem V1_i64 {l : List Rw} (h : ∀ r ∈ l, rok r) : ∀ x ∈ V1 l, I64 x := by
  intro x hx
  obtain ⟨r, hr, rfl⟩ := List.mem_map.1 hx
  obtain ⟨a, b, c, d, m, n⟩ := r
  exact (h _ hr).2.2
/-- Is there one? -/
def ofB (m : Int) (l : List Rw) : Bool := ((decide (m = 1) || decide (m = 2)) && !l.isEmpty) && (calc.fitB (calc.sumI (V0 l)) && (decide (m = 1) || calc.fitB (calc.sumI (V1 l))))
/-- The one that it would be. -/
def ofR (m : Int) (l : List Rw) : Cl := ⟨l.length, calc.sumI (V0 l), if m = 2 then calc.sumI (V1 l) else 0, bagOf (V0 l), if m = 2 then bagOf (V1 l) else []⟩
def ofC (m : Int) (l : List Rw) : Cl := if ofB m l then ofR m l else cl0
theorem ofC_yes {m : Int} {l : List Rw} (h : ofB m l = true) : ofC m l = ofR m l := by unfold ofC; rw [h]; rfl
theorem ofC_no {m : Int} {l : List Rw} (h : ofB m l = false) : ofC m l = cl0 := by unfold ofC; rw [h]; rfl
theorem ofB_iff {m : Int} {l : List Rw} : ofB m l = true ↔ (m = 1 ∨ m = 2) ∧ ¬ l = [] ∧ calc.fitB (calc.sumI (V0 l)) = true ∧ (m = 1 ∨ calc.fitB (calc.sumI (V1 l)) = true) := by
  unfold ofB
  simp only [Bool.and_eq_true, Bool.or_eq_true, decide_eq_true_iff, Bool.not_eq_true', List.isEmpty_eq_false_iff, ne_eq, and_assoc]
theorem ofB_no {m : Int} {l : List Rw} (h : ¬ ((m = 1 ∨ m = 2) ∧ ¬ l = [] ∧ calc.fitB (calc.sumI (V0 l)) = true ∧ (m = 1 ∨ calc.fitB (calc.sumI (V1 l)) = true))) : ofB m l = false := by
  cases e : ofB m l with
  | false => rfl
  | true => exact absurd (ofB_iff.1 e) h
theorem fitB_iff {x : Int} : calc.fitB x = true ↔ I64 x := by unfold calc.fitB I64; rw [decide_eq_true_iff]
theorem fitB_i64 {x : Int} (h : I64 x) : calc.fitB x = true := fitB_iff.2 h
theorem fitV_yes {x : Int} (h : calc.fitB x = true) : calc.fitV x = x := by unfold calc.fitV; rw [h]; rfl

/-! Both together. -/
theorem wsum_jnl (a b : List Rn) : wsum (jnl a b) = wsum a + wsum b := by
  induction b generalizing a with
  | nil => simp [jnl, wsum]
  | cons x l ih => simp only [jnl, ih, wsum_lay, wsum]; omega
/-! What is told of it. -/
end Go.Proofs.Ytjkkajhjcinalaa

namespace Go.Proofs.Ytjkkajhjcinalaa
open Go.RowKit
set_option linter.unusedVariables false
set_option linter.unusedSimpArgs false
set_option maxRecDepth 100000

theorem imin (a b : Int) : (a ≤ b ∧ min a b = a) ∨ (b ≤ a ∧ min a b = b) := by omega
/-- What both have, each as often as both have it. -/
def com (a b : List Rn) : List Rn := (a.map (fun r => (r.1, min r.2 (cn r.1 b)))).filter (fun r => decide (0 < r.2))
theorem com_cons (x : Rn) (a b : List Rn) : com (x :: a) b = (if 0 < min x.2 (cn x.1 b) then [(x.1, min x.2 (cn x.1 b))] else []) ++ com a b := by
  unfold com
  simp only [List.map_cons, List.filter_cons]
  by_cases h : 0 < min x.2 (cn x.1 b)
  · rw [if_pos (by simpa using h), if_pos h]; rfl
  · rw [if_neg (by simpa using h), if_neg h]; rfl
theorem com_nil (b : List Rn) : com [] b = [] := rfl
theorem com_mem {a b : List Rn} {r : Rn} (h : r ∈ com a b) : 0 < r.2 ∧ ∃ q ∈ a, q.1 = r.1 ∧ r.2 = min q.2 (cn r.1 b) := by
  unfold com at h
  obtain ⟨h1, h2⟩ := List.mem_filter.1 h
  obtain ⟨q, hq, rfl⟩ := List.mem_map.1 h1
  exact ⟨by simpa using h2, q, hq, rfl, rfl⟩
theorem com_srt {a : List Rn} (h : Srt a) (b : List Rn) : Srt (com a b) := by
  unfold com Srt
  refine List.Pairwise.filter _ (List.Pairwise.map _ ?_ h)
  intro x y hxy
  exact hxy
theorem com_pos (a b : List Rn) : Pos (com a b) := fun r hr => by have := (com_mem hr).1; omega
theorem com_cn {a b : List Rn} (ha : Srt a) (pa : Pos a) (pb : Pos b) (v : Int) : cn v (com a b) = min (cn v a) (cn v b) := by
  induction a with
  | nil =>
    have := cn_nn (v := v) pb
    have := imin (cn v []) (cn v b)
    simp only [com_nil, cn] at *
    omega
  | cons x a ih =>
    have ha' := ha
    rw [Srt, List.pairwise_cons] at ha'
    have ih' := ih ha'.2 (fun r hr => pa r (by simp [hr]))
    have px := pa x (by simp)
    have pv := cn_nn (v := v) pb
    rw [com_cons, cn_app, ih']
    by_cases h : x.1 = v
    · subst h
      have z : cn x.1 a = 0 := cn_none (fun r hr e => by have := ha'.1 r hr; unfold ltR at this; omega)
      have k1 := imin x.2 (cn x.1 b)
      have k2 := imin (cn x.1 a) (cn x.1 b)
      have k3 := imin (cn x.1 (x :: a)) (cn x.1 b)
      split
      · simp only [cn, if_pos] at *
        omega
      · simp only [cn, if_pos] at *
        omega
    · have e : cn v (x :: a) = cn v a := by simp only [cn, if_neg h]; omega
      rw [e]
      split
      · simp only [cn, if_neg h]; omega
      · simp only [cn]; omega
theorem com_comm {a b : List Rn} (ha : Srt a) (pa : Pos a) (hb : Srt b) (pb : Pos b) : com a b = com b a := by
  refine runs_ext (com_srt ha b) (pos_nz (com_pos a b)) (com_srt hb a) (pos_nz (com_pos b a)) (fun v => ?_)
  rw [com_cn ha pa pb, com_cn hb pb pa]
  have := imin (cn v a) (cn v b)
  have := imin (cn v b) (cn v a)
  omega
theorem com_len (a b : List Rn) : (com a b).length ≤ a.length := by
  unfold com
  have := List.length_filter_le (fun r : Rn => decide (0 < r.2)) (a.map (fun r => (r.1, min r.2 (cn r.1 b))))
  rw [List.length_map] at this
  exact this
theorem com_fits {a b : List Rn} (ha : Srt a) (pa : Pos a) : Fits a (com a b) := by
  intro r hr
  obtain ⟨h0, q, hq, e, h1⟩ := com_mem hr
  have h2 := cn_srt_eq ha hq
  rw [e] at h2
  have := imin q.2 (cn r.1 b)
  omega
theorem com_fits2 {a b : List Rn} : Fits b (com a b) := by
  intro r hr
  obtain ⟨h0, q, hq, e, h1⟩ := com_mem hr
  have := imin q.2 (cn r.1 b)
  omega
theorem com_nok {a b : List Rn} (ka : ∀ r ∈ a, I64 r.1 ∧ I64 r.2) : ∀ r ∈ com a b, I64 r.1 ∧ I64 r.2 := by
  intro r hr
  obtain ⟨h0, q, hq, e, h1⟩ := com_mem hr
  have := ka q hq
  have := imin q.2 (cn r.1 b)
  unfold I64 at *
  omega
theorem com_tot {a : List Rn} (pa : Pos a) (b : List Rn) : tot (com a b) ≤ tot a := by
  induction a with
  | nil => exact Int.le_refl _
  | cons x a ih =>
    have ih' := ih (fun r hr => pa r (by simp [hr]))
    have px := pa x (by simp)
    have := imin x.2 (cn x.1 b)
    rw [com_cons, tot_app]
    split
    · simp only [tot]; omega
    · simp only [tot]; omega
theorem com_bag {a : List Rn} (h : Bag a) (b : List Rn) : Bag (com a b) := ⟨com_srt h.1 b, com_pos a b, Int.le_trans (com_tot h.2.1 b) h.2.2⟩
/-- Nothing is common. -/
theorem com_empty {a b : List Rn} : com a b = [] ↔ ∀ r ∈ a, min r.2 (cn r.1 b) ≤ 0 := by
  induction a with
  | nil => simp [com_nil]
  | cons x a ih =>
    rw [com_cons]
    constructor
    · intro h
      obtain ⟨h1, h2⟩ := List.append_eq_nil_iff.1 h
      intro r hr
      rcases List.mem_cons.1 hr with rfl | hr
      · by_cases k : 0 < min r.2 (cn r.1 b)
        · rw [if_pos k] at h1; cases h1
        · omega
      · exact ih.1 h2 r hr
    · intro h
      rw [if_neg (by have := h x (by simp); omega), ih.2 (fun r hr => h r (by simp [hr]))]
      rfl
/-- .. as a truth, as the document asks it: nothing of the one stands in the other. -/
def apt (a b : List Rn) : Bool := (com a b).isEmpty
theorem apt_iff {a b : List Rn} (pa : Pos a) : apt a b = true ↔ ∀ r ∈ a, cn r.1 b ≤ 0 := by
  unfold apt
  rw [List.isEmpty_iff, com_empty]
  constructor
  · intro h r hr
    have := h r hr
    have := pa r hr
    have := imin r.2 (cn r.1 b)
    omega
  · intro h r hr
    have := h r hr
    have := imin r.2 (cn r.1 b)
    omega
/-- What is left of the one. -/
def lef (a b : List Rn) : List Rn := mnl a (com a b)
theorem wsum_mnl (a b : List Rn) : wsum (mnl a b) = wsum a - wsum b := by
  induction b generalizing a with
  | nil => simp [mnl, wsum]
  | cons x l ih => simp only [mnl, ih, wsum_lay, wsum, Int.mul_neg]; omega
theorem lef_cn {a b : List Rn} (ha : Srt a) (pa : Pos a) (pb : Pos b) (v : Int) : cn v (lef a b) = cn v a - min (cn v a) (cn v b) := by
  unfold lef; rw [mnl_cn, com_cn ha pa pb]
theorem lef_srt {a : List Rn} (ha : Srt a) (b : List Rn) : Srt (lef a b) := mnl_srt ha _
theorem lef_pos {a : List Rn} (ha : Srt a) (pa : Pos a) (b : List Rn) : Pos (lef a b) := mnl_pos ha pa (com_srt ha b) (com_pos a b) (com_fits ha pa)
theorem lef_tot (a b : List Rn) : tot (lef a b) = tot a - tot (com a b) := mnl_tot _ _
theorem lef_wsum (a b : List Rn) : wsum (lef a b) = wsum a - wsum (com a b) := wsum_mnl _ _
theorem lef_bag {a : List Rn} (h : Bag a) (b : List Rn) : Bag (lef a b) := by
  refine ⟨lef_srt h.1 b, lef_pos h.1 h.2.1 b, ?_⟩
  rw [lef_tot]
  have := tot_nn (com_pos a b)
  have := h.2.2
  omega
/-- The document's way: run by run. -/
def lefd (a b : List Rn) : List Rn := (a.map (fun r => (r.1, r.2 - min r.2 (cn r.1 b)))).filter (fun r => decide (0 < r.2))
theorem lefd_step {a : List Rn} {k : Nat} {r : Rn} (h : a[k]? = some r) (b : List Rn) : lefd (a.take (k + 1)) b = lefd (a.take k) b ++ (if 0 < r.2 - min r.2 (cn r.1 b) then [(r.1, r.2 - min r.2 (cn r.1 b))] else []) := by
  rw [take_one h]
  unfold lefd
  rw [List.map_append, List.filter_append]
  congr 1
  simp only [List.map_cons, List.map_nil, List.filter_cons, List.filter_nil]
  by_cases k : 0 < r.2 - min r.2 (cn r.1 b)
  · rw [if_pos (by simpa using k), if_pos k]
  · rw [if_neg (by simpa using k), if_neg k]
theorem lefd_cons (x : Rn) (a b : List Rn) : lefd (x :: a) b = (if 0 < x.2 - min x.2 (cn x.1 b) then [(x.1, x.2 - min x.2 (cn x.1 b))] else []) ++ lefd a b := by
  unfold lefd
  simp only [List.map_cons, List.filter_cons]
  by_cases h : 0 < x.2 - min x.2 (cn x.1 b)
  · rw [if_pos (by simpa using h), if_pos h]; rfl
  · rw [if_neg (by simpa using h), if_neg h]; rfl
theorem lefd_mem {a b : List Rn} {r : Rn} (h : r ∈ lefd a b) : 0 < r.2 ∧ ∃ q ∈ a, q.1 = r.1 := by
  unfold lefd at h
  obtain ⟨h1, h2⟩ := List.mem_filter.1 h
  obtain ⟨q, hq, rfl⟩ := List.mem_map.1 h1
  exact ⟨by simpa using h2, q, hq, rfl⟩
theorem lefd_srt {a : List Rn} (h : Srt a) (b : List Rn) : Srt (lefd a b) := by
  unfold lefd Srt
  refine List.Pairwise.filter _ (List.Pairwise.map _ ?_ h)
  intro x y hxy
  exact hxy
theorem lefd_cn {a b : List Rn} (ha : Srt a) (pa : Pos a) (pb : Pos b) (v : Int) : cn v (lefd a b) = cn v a - min (cn v a) (cn v b) := by
  induction a with
  | nil =>
    have := cn_nn (v := v) pb
    have := imin (cn v []) (cn v b)
    simp only [lefd, List.map_nil, List.filter_nil, cn] at *
    omega
  | cons x a ih =>
    have ha' := ha
    rw [Srt, List.pairwise_cons] at ha'
    have ih' := ih ha'.2 (fun r hr => pa r (by simp [hr]))
    have px := pa x (by simp)
    have pv := cn_nn (v := v) pb
    rw [lefd_cons, cn_app, ih']
    by_cases h : x.1 = v
    · subst h
      have z : cn x.1 a = 0 := cn_none (fun r hr e => by have := ha'.1 r hr; unfold ltR at this; omega)
      have k1 := imin x.2 (cn x.1 b)
      have k2 := imin (cn x.1 a) (cn x.1 b)
      have k3 := imin (cn x.1 (x :: a)) (cn x.1 b)
      split
      · simp only [cn, if_pos] at *
        omega
      · simp only [cn, if_pos] at *
        omega
    · have e : cn v (x :: a) = cn v a := by simp only [cn, if_neg h]; omega
      rw [e]
      split
      · simp only [cn, if_neg h]; omega
      · simp only [cn]; omega
theorem lefd_is {a b : List Rn} (ha : Srt a) (pa : Pos a) (pb : Pos b) : lefd a b = lef a b :=
  runs_ext (lefd_srt ha b) (fun r hr e => by have := (lefd_mem hr).1; omega) (lef_srt ha b) (pos_nz (lef_pos ha pa b)) (fun v => by rw [lefd_cn ha pa pb, lef_cn ha pa pb])
theorem lefd_len (a b : List Rn) : (lefd a b).length ≤ a.length := by
  unfold lefd
  have := List.length_filter_le (fun r : Rn => decide (0 < r.2)) (a.map (fun r => (r.1, r.2 - min r.2 (cn r.1 b))))
  rw [List.length_map] at this
  exact this
theorem lefd_nok {a b : List Rn} (ka : ∀ r ∈ a, I64 r.1 ∧ I64 r.2) (pa : Pos a) (pb : Pos b) : ∀ r ∈ lefd a b, I64 r.1 ∧ I64 r.2 := by
  intro r hr
  unfold lefd at hr
  obtain ⟨h1, h2⟩ := List.mem_filter.1 hr
  obtain ⟨q, hq, rfl⟩ := List.mem_map.1 h1
  have := ka q hq
  have := pa q hq
  have := cn_nn (v := q.1) pb
  have := imin q.2 (cn q.1 b)
  unfold I64 at *
  simp only
  omega
theorem lef_len {a b : List Rn} (ha : Srt a) (pa : Pos a) (pb : Pos b) : (lef a b).length ≤ a.length := by rw [← lefd_is ha pa pb]; exact lefd_len a b
theorem lef_nok {a b : List Rn} (ka : ∀ r ∈ a, I64 r.1 ∧ I64 r.2) (ha : Srt a) (pa : Pos a) (pb : Pos b) : ∀ r ∈ lef a b, I64 r.1 ∧ I64 r.2 := by rw [← lefd_is ha pa pb]; exact lefd_nok ka pa pb
/-- What is left of both has nothing in common. -/
theorem lef_apt {a b : List Rn} (ha : Srt a) (pa : Pos a) (hb : Srt b) (pb : Pos b) : apt (lef a b) (lef b a) = true := by
  refine (apt_iff (lef_pos ha pa b)).2 (fun r hr => ?_)
  have h1 := cn_srt_eq (lef_srt ha b) hr
  have h2 := lef_pos ha pa b r hr
  rw [lef_cn ha pa pb] at h1
  rw [lef_cn hb pb pa]
  have := imin (cn r.1 a) (cn r.1 b)
  have := imin (cn r.1 b) (cn r.1 a)
  omega
theorem lef_diff {a b : List Rn} (ha : Srt a) (pa : Pos a) (hb : Srt b) (pb : Pos b) : wsum (lef a b) - wsum (lef b a) = wsum a - wsum b ∧ tot (lef a b) - tot (lef b a) = tot a - tot b := by
  rw [lef_wsum, lef_wsum, lef_tot, lef_tot, com_comm hb pb ha pa]
  omega
theorem lef_nil (a : List Rn) : lef a [] = a := by
  have : com a [] = [] := com_empty.2 (fun r hr => by have := imin r.2 (cn r.1 []); simp only [cn] at *; omega)
  unfold lef; rw [this]; rfl
theorem lef_nil2 (b : List Rn) : lef [] b = [] := rfl
/-- Two that have nothing in common are left as they are. -/
theorem lef_apart {a b : List Rn} (h : apt a b = true) : lef a b = a := by
  unfold apt at h
  rw [List.isEmpty_iff] at h
  unfold lef; rw [h]; rfl
theorem apt_comm {a b : List Rn} (ha : Srt a) (pa : Pos a) (hb : Srt b) (pb : Pos b) : apt a b = apt b a := by
  unfold apt; rw [com_comm ha pa hb pb]

/-- A delta: how many rows more; of two measures the sum, the values that come, those that go. -/
structure Dl where
  n : Int
  s0 : Int
  s1 : Int
  i0 : List Rn
  i1 : List Rn
  o0 : List Rn
  o1 : List Rn
def dl0 : Dl := ⟨0, 0, 0, [], [], [], []⟩
/-- One measure of it, reckoned. -/
def Nt (n s : Int) (i o : List Rn) : Prop := Bag i ∧ Bag o ∧ tot i - tot o = n ∧ wsum i - wsum o = s ∧ apt i o = true
def nt (n s : Int) (i o : List Rn) : Bool := (gd i && gd o) && (decide (tot i - tot o = n) && (decide (wsum i - wsum o = s) && apt i o))
theorem nt_iff {n s : Int} {i o : List Rn} : nt n s i o = true ↔ Nt n s i o := by
  unfold nt Nt; simp only [Bool.and_eq_true, decide_eq_true_iff, gd_iff, and_assoc]
theorem nt_yes {n s : Int} {i o : List Rn} (h : Nt n s i o) : nt n s i o = true := nt_iff.2 h
theorem nt_no {n s : Int} {i o : List Rn} (h : ¬ Nt n s i o) : nt n s i o = false := by
  cases e : nt n s i o with
  | false => rfl
  | true => exact absurd (nt_iff.1 e) h
/-- May it be, of so many measures? -/
def DG (m : Int) (d : Dl) : Prop := Nt d.n d.s0 d.i0 d.o0 ∧ ((m = 1 ∧ d.s1 = 0 ∧ d.i1 = [] ∧ d.o1 = []) ∨ (m = 2 ∧ Nt d.n d.s1 d.i1 d.o1))
def dg (m : Int) (d : Dl) : Bool := nt d.n d.s0 d.i0 d.o0 && ((decide (m = 1) && (decide (d.s1 = 0) && (d.i1.isEmpty && d.o1.isEmpty))) || (decide (m = 2) && nt d.n d.s1 d.i1 d.o1))
theorem dg_iff {m : Int} {d : Dl} : dg m d = true ↔ DG m d := by
  unfold dg DG
  simp only [Bool.and_eq_true, Bool.or_eq_true, decide_eq_true_iff, nt_iff, List.isEmpty_iff]
theorem dg_yes {m : Int} {d : Dl} (h : DG m d) : dg m d = true := dg_iff.2 h
theorem dg_no {m : Int} {d : Dl} (h : ¬ DG m d) : dg m d = false := by
  cases e : dg m d with
  | false => rfl
  | true => exact absurd (dg_iff.1 e) h
theorem dg_m {m : Int} {d : Dl} (h : dg m d = true) : m = 1 ∨ m = 2 := by
  rcases (dg_iff.1 h).2 with h | h
  · exact .inl h.1
  · exact .inr h.1
theorem dg_not {m : Int} (d : Dl) (h : ¬ (m = 1 ∨ m = 2)) : dg m d = false := dg_no (fun g => h (dg_m (dg_yes g)))
theorem dg_n {m : Int} {d : Dl} (h : DG m d) : -1099511627776 ≤ d.n ∧ d.n ≤ 1099511627776 := by
  obtain ⟨⟨h1, h2, h3, _⟩, _⟩ := h
  have := h1.2.2
  have := h2.2.2
  have := tot_nn h1.2.1
  have := tot_nn h2.2.1
  omega
/-- Both measures' bags are bags. -/
theorem dg_bags {m : Int} {d : Dl} (h : DG m d) : (Bag d.i0 ∧ Bag d.o0) ∧ Bag d.i1 ∧ Bag d.o1 := by
  obtain ⟨⟨h1, h2, _⟩, h3⟩ := h
  refine ⟨⟨h1, h2⟩, ?_⟩
  rcases h3 with ⟨_, _, e1, e2⟩ | ⟨_, k1, k2, _⟩
  · rw [e1, e2]; exact ⟨bag_nil, bag_nil⟩
  · exact ⟨k1, k2⟩
theorem dg_s1 {m : Int} {d : Dl} (h : DG m d) : wsum d.i1 - wsum d.o1 = d.s1 := by
  rcases h.2 with ⟨_, e1, e2, e3⟩ | ⟨_, _, _, _, k, _⟩
  · rw [e1, e2, e3]; simp [wsum]
  · exact k
/-- Alike in all? -/
def dsm (a b : Dl) : Bool := decide (a.n = b.n) && ((decide (a.s0 = b.s0) && decide (a.s1 = b.s1)) && ((sm a.i0 b.i0 && sm a.o0 b.o0) && (sm a.i1 b.i1 && sm a.o1 b.o1)))
theorem dsm_iff {a b : Dl} : dsm a b = true ↔ a = b := by
  obtain ⟨n, s, t, x, y, p, q⟩ := a
  obtain ⟨n', s', t', x', y', p', q'⟩ := b
  unfold dsm
  simp only [Bool.and_eq_true, decide_eq_true_iff, sm_iff, Dl.mk.injEq]
  constructor
  · rintro ⟨h1, ⟨h2, h3⟩, ⟨h4, h5⟩, h6, h7⟩; exact ⟨h1, h2, h3, h4, h6, h5, h7⟩
  · rintro ⟨h1, h2, h3, h4, h6, h5, h7⟩; exact ⟨h1, ⟨h2, h3⟩, ⟨h4, h5⟩, h6, h7⟩
theorem dsm_self (a : Dl) : dsm a a = true := dsm_iff.2 rfl
theorem dsm_no {a b : Dl} (h : ¬ a = b) : dsm a b = false := by
  cases e : dsm a b with
  | false => rfl
  | true => exact absurd (dsm_iff.1 e) h
/-- Idle. -/
def did (m : Int) (d : Dl) : Bool := dg m d && dsm d dl0
/-- .. as the document asks it. -/
def idd (m : Int) (d : Dl) : Bool := decide (d.n = 0) && ((d.i0.isEmpty && d.o0.isEmpty) && (decide (m = 1) || (d.i1.isEmpty && d.o1.isEmpty)))
theorem did_is {m : Int} {d : Dl} (h : dg m d = true) : dsm d dl0 = idd m d := by
  have g := dg_iff.1 h
  obtain ⟨n, s0, s1, i0, i1, o0, o1⟩ := d
  by_cases k : idd m ⟨n, s0, s1, i0, i1, o0, o1⟩ = true
  · rw [k, dsm_iff]
    unfold idd at k
    simp only [Bool.and_eq_true, Bool.or_eq_true, decide_eq_true_iff, List.isEmpty_iff] at k
    obtain ⟨h1, ⟨h2, h3⟩, h4⟩ := k
    obtain ⟨⟨_, _, _, g4, _⟩, g2⟩ := g
    subst h1 h2 h3
    simp [wsum] at g4
    subst g4
    rcases g2 with ⟨rfl, e1, e2, e3⟩ | ⟨rfl, _, _, _, e1, _⟩
    · simp only at e1 e2 e3
      subst e1 e2 e3
      rfl
    · rcases h4 with h4 | ⟨h4, h5⟩
      · cases h4
      · subst h4 h5
        simp [wsum] at e1
        subst e1
        rfl
  · have k' : idd m ⟨n, s0, s1, i0, i1, o0, o1⟩ = false := by simpa using k
    rw [k']
    refine dsm_no (fun e => k ?_)
    unfold dl0 at e
    rw [Dl.mk.injEq] at e
    obtain ⟨rfl, rfl, rfl, rfl, rfl, rfl, rfl⟩ := e
    unfold idd
    simp

/-! Made of bags of what comes, and goes: as the document has it. -/
def xdR (m n : Int) (i0 i1 o0 o1 : List Rn) : Dl := ⟨n, wsum i0 - wsum o0, if m = 2 then wsum i1 - wsum o1 else 0, lef i0 o0, if m = 2 then lef i1 o1 else [], lef o0 i0, if m = 2 then lef o1 i1 else []⟩
def xdB (m n : Int) (i0 i1 o0 o1 : List Rn) : Bool := (calc.fitB (wsum i0 - wsum o0) && (decide (m = 1) || calc.fitB (wsum i1 - wsum o1))) && dg m (xdR m n i0 i1 o0 o1)
def xdC (m n : Int) (i0 i1 o0 o1 : List Rn) : Dl := if xdB m n i0 i1 o0 o1 then xdR m n i0 i1 o0 o1 else dl0
theorem xdC_yes {m n : Int} {i0 i1 o0 o1 : List Rn} (h : xdB m n i0 i1 o0 o1 = true) : xdC m n i0 i1 o0 o1 = xdR m n i0 i1 o0 o1 := by unfold xdC; rw [h]; rfl
theorem xdC_no {m n : Int} {i0 i1 o0 o1 : List Rn} (h : xdB m n i0 i1 o0 o1 = false) : xdC m n i0 i1 o0 o1 = dl0 := by unfold xdC; rw [h]; rfl
theorem nt_lef {a b : List Rn} (ha : Bag a) (hb : Bag b) : Nt (tot a - tot b) (wsum a - wsum b) (lef a b) (lef b a) :=
  ⟨lef_bag ha b, lef_bag hb a, (lef_diff ha.1 ha.2.1 hb.1 hb.2.1).2, (lef_diff ha.1 ha.2.1 hb.1 hb.2.1).1, lef_apt ha.1 ha.2.1 hb.1 hb.2.1⟩
/-- Of bags whose difference is right in number, it may be. -/
theorem xdR_good {m n : Int} {i0 i1 o0 o1 : List Rn} (hm : m = 1 ∨ m = 2) (a0 : Bag i0) (b0 : Bag o0) (e0 : tot i0 - tot o0 = n) (h2 : m = 2 → Bag i1 ∧ Bag o1 ∧ tot i1 - tot o1 = n) : DG m (xdR m n i0 i1 o0 o1) := by
  refine ⟨?_, ?_⟩
  · have := nt_lef a0 b0
    rw [e0] at this
    exact this
  · rcases hm with rfl | rfl
    · exact .inl ⟨rfl, rfl, rfl, rfl⟩
    · obtain ⟨a1, b1, e1⟩ := h2 rfl
      have := nt_lef a1 b1
      rw [e1] at this
      exact .inr ⟨rfl, this⟩
theorem xdB_is {m n : Int} {i0 i1 o0 o1 : List Rn} (hm : m = 1 ∨ m = 2) (a0 : Bag i0) (b0 : Bag o0) (e0 : tot i0 - tot o0 = n) (h2 : m = 2 → Bag i1 ∧ Bag o1 ∧ tot i1 - tot o1 = n) :
    xdB m n i0 i1 o0 o1 = (calc.fitB (wsum i0 - wsum o0) && (decide (m = 1) || calc.fitB (wsum i1 - wsum o1))) := by
  unfold xdB
  rw [dg_yes (xdR_good hm a0 b0 e0 h2), Bool.and_true]

/-! Of a change. -/
def ofdB (m m0 m1 : Int) (del : Bool) : Bool := (decide (m = 1) || decide (m = 2)) && (!del || (calc.fitB (-m0) && (decide (m = 1) || calc.fitB (-m1))))
def ofdR (m m0 m1 : Int) (del : Bool) : Dl := if del then ⟨-1, -m0, if m = 2 then -m1 else 0, [], [], [(m0, 1)], if m = 2 then [(m1, 1)] else []⟩ else ⟨1, m0, if m = 2 then m1 else 0, [(m0, 1)], if m = 2 then [(m1, 1)] else [], [], []⟩
def ofdC (m m0 m1 : Int) (del : Bool) : Dl := if ofdB m m0 m1 del then ofdR m m0 m1 del else dl0
/-! The other way round. -/
def dnB (m : Int) (d : Dl) : Bool := dg m d && (calc.fitB (-d.s0) && (decide (m = 1) || calc.fitB (-d.s1)))
def dnR (d : Dl) : Dl := ⟨-d.n, -d.s0, -d.s1, d.o0, d.o1, d.i0, d.i1⟩
def dnC (m : Int) (d : Dl) : Dl := if dnB m d then dnR d else dl0
theorem dnC_yes {m : Int} {d : Dl} (h : dnB m d = true) : dnC m d = dnR d := by unfold dnC; rw [h]; rfl
theorem dnC_no {m : Int} {d : Dl} (h : dnB m d = false) : dnC m d = dl0 := by unfold dnC; rw [h]; rfl
/-! Both together. -/
def djB (m : Int) (a b : Dl) : Bool := (dg m a && dg m b) && ((decide (tot a.i0 + tot b.i0 ≤ 1099511627776) && decide (tot a.o0 + tot b.o0 ≤ 1099511627776)) && ((decide (tot a.i1 + tot b.i1 ≤ 1099511627776) && decide (tot a.o1 + tot b.o1 ≤ 1099511627776)) && (calc.fitB (a.s0 + b.s0) && calc.fitB (a.s1 + b.s1))))
def djR (a b : Dl) : Dl := ⟨a.n + b.n, a.s0 + b.s0, a.s1 + b.s1, lef (jnl a.i0 b.i0) (jnl a.o0 b.o0), lef (jnl a.i1 b.i1) (jnl a.o1 b.o1), lef (jnl a.o0 b.o0) (jnl a.i0 b.i0), lef (jnl a.o1 b.o1) (jnl a.i1 b.i1)⟩
def djC (m : Int) (a b : Dl) : Dl := if djB m a b then djR a b else dl0
theorem djC_yes {m : Int} {a b : Dl} (h : djB m a b = true) : djC m a b = djR a b := by unfold djC; rw [h]; rfl
theorem djC_no {m : Int} {a b : Dl} (h : djB m a b = false) : djC m a b = dl0 := by unfold djC; rw [h]; rfl
theorem djB_iff {m : Int} {a b : Dl} : djB m a b = true ↔ DG m a ∧ DG m b ∧ (tot a.i0 + tot b.i0 ≤ 1099511627776 ∧ tot a.o0 + tot b.o0 ≤ 1099511627776) ∧ (tot a.i1 + tot b.i1 ≤ 1099511627776 ∧ tot a.o1 + tot b.o1 ≤ 1099511627776) ∧ calc.fitB (a.s0 + b.s0) = true ∧ calc.fitB (a.s1 + b.s1) = true := by
  unfold djB
  simp only [Bool.and_eq_true, decide_eq_true_iff, dg_iff, and_assoc]
theorem djB_no {m : Int} {a b : Dl} (h : ¬ (DG m a ∧ DG m b ∧ (tot a.i0 + tot b.i0 ≤ 1099511627776 ∧ tot a.o0 + tot b.o0 ≤ 1099511627776) ∧ (tot a.i1 + tot b.i1 ≤ 1099511627776 ∧ tot a.o1 + tot b.o1 ≤ 1099511627776) ∧ calc.fitB (a.s0 + b.s0) = true ∧ calc.fitB (a.s1 + b.s1) = true)) : djB m a b = false := by
  cases e : djB m a b with
  | false => rfl
  | true => exact absurd (djB_iff.1 e) h
theorem jnl_bg {a b : List Rn} (ha : Bag a) (hb : Bag b) (h : tot a + tot b ≤ 1099511627776) : Bag (jnl a b) := ⟨jnl_srt ha.1 b, jnl_pos ha.2.1 hb.2.1, by rw [jnl_tot]; exact h⟩
theorem djR_good {m : Int} {a b : Dl} (h : djB m a b = true) : DG m (djR a b) := by
  obtain ⟨ga, gb, ⟨t1, t2⟩, ⟨t3, t4⟩, _, _⟩ := djB_iff.1 h
  obtain ⟨⟨a1, a2⟩, a3, a4⟩ := dg_bags ga
  obtain ⟨⟨b1, b2⟩, b3, b4⟩ := dg_bags gb
  have n0 := nt_lef (jnl_bg a1 b1 t1) (jnl_bg a2 b2 t2)
  rw [jnl_tot, jnl_tot, wsum_jnl, wsum_jnl] at n0
  obtain ⟨⟨_, _, x1, x2, _⟩, a5⟩ := ga
  obtain ⟨⟨_, _, y1, y2, _⟩, b5⟩ := gb
  refine ⟨?_, ?_⟩
  · have e1 : tot a.i0 + tot b.i0 - (tot a.o0 + tot b.o0) = a.n + b.n := by omega
    have e2 : wsum a.i0 + wsum b.i0 - (wsum a.o0 + wsum b.o0) = a.s0 + b.s0 := by omega
    rw [e1, e2] at n0
    exact n0
  · rcases a5 with ⟨rfl, e1, e2, e3⟩ | ⟨rfl, _, _, e1, e2, _⟩
    · rcases b5 with ⟨_, f1, f2, f3⟩ | ⟨k, _⟩
      · refine .inl ⟨rfl, ?_, ?_, ?_⟩
        · show a.s1 + b.s1 = 0; omega
        · show lef (jnl a.i1 b.i1) _ = []; rw [e2, f2]; rfl
        · show lef (jnl a.o1 b.o1) _ = []; rw [e3, f3]; rfl
      · cases k
    · rcases b5 with ⟨k, _⟩ | ⟨_, _, _, f1, f2, _⟩
      · cases k
      · have n1 := nt_lef (jnl_bg a3 b3 t3) (jnl_bg a4 b4 t4)
        rw [jnl_tot, jnl_tot, wsum_jnl, wsum_jnl] at n1
        have e3 : tot a.i1 + tot b.i1 - (tot a.o1 + tot b.o1) = a.n + b.n := by omega
        have e4 : wsum a.i1 + wsum b.i1 - (wsum a.o1 + wsum b.o1) = a.s1 + b.s1 := by omega
        rw [e3, e4] at n1
        exact .inr ⟨rfl, n1⟩
/-! What a cell becomes. -/
/-- Is there such a cell, or none? -/
def stB (m : Int) (c : Cl) (is : Bool) : Bool := if is then cg m c else (decide (m = 1) || decide (m = 2)) && csm c cl0
def daB (m : Int) (c : Cl) (is : Bool) (d : Dl) : Bool := (dg m d && stB m c is) && ((fits c.b0 d.o0 && fits c.b1 d.o1) && ((decide (tot c.b0 - tot d.o0 + tot d.i0 ≤ 1099511627776) && decide (tot c.b1 - tot d.o1 + tot d.i1 ≤ 1099511627776)) && (calc.fitB (c.s0 + d.s0) && calc.fitB (c.s1 + d.s1))))
def daR (c : Cl) (d : Dl) : Cl := ⟨c.n + d.n, c.s0 + d.s0, c.s1 + d.s1, jnl (mnl c.b0 d.o0) d.i0, jnl (mnl c.b1 d.o1) d.i1⟩
def daI (m : Int) (c : Cl) (is : Bool) (d : Dl) : Bool := daB m c is d && !decide (c.n + d.n = 0)
def daC (m : Int) (c : Cl) (is : Bool) (d : Dl) : Cl := if daI m c is d then daR c d else cl0
/-! What parts two. -/
def bwB (m : Int) (a : Cl) (was : Bool) (b : Cl) (is : Bool) : Bool := (stB m a was && stB m b is) && (calc.fitB (b.s0 - a.s0) && calc.fitB (b.s1 - a.s1))
def bwR (a b : Cl) : Dl := ⟨b.n - a.n, b.s0 - a.s0, b.s1 - a.s1, lef b.b0 a.b0, lef b.b1 a.b1, lef a.b0 b.b0, lef a.b1 b.b1⟩
def bwC (m : Int) (a : Cl) (was : Bool) (b : Cl) (is : Bool) : Dl := if bwB m a was b is then bwR a b else dl0

end Go.Proofs.Ytjkkajhjcinalaa

namespace Go.Proofs.Ytjkkajhjcinalaa
open Go.Shelf
set_option linter.unusedVariables false
set_option linter.unusedSimpArgs false
set_option maxRecDepth 100000

def sortI_ren : Go.Shelf.Ren := ⟨fun | 5 => 94 | 8 => 118 | 7 => 117 | 19 => 138 | 20 => 139 | 10 => 129 | 11 => 130 | 12 => 131 | 13 => 132 | 14 => 133 | 15 => 134 | 16 => 135 | 17 => 136 | 18 => 137 | 30 => 145 | 31 => 146 | 32 => 147 | 33 => 148 | 34 => 149 | 35 => 105 | 40 => 150 | n => n, fun | 23 => 51 | 25 => 2 | 3 => 3 | 32 => 176 | 22 => 51 | 0 => 0 | 44 => 208 | 46 => 119 | 4 => 4 | 36 => 200 | 35 => 199 | 41 => 205 | 5 => 5 | 9 => 9 | 53 => 213 | 57 => 217 | 63 => 219 | 64 => 220 | n => n, fun | n => n⟩
theorem sortI : Go.Proofs.SlLaysM.n5 Try.prog sortI_ren := {
  mixed := by kernel_rfl,
  f5 := ⟨Try.f94.name, by decide, Try.func94.trans (congrArg some (by kernel_rfl))⟩,
  f7 := ⟨Try.f117.name, by decide, Try.func117.trans (congrArg some (by kernel_rfl))⟩,
  f8 := Try.func118.trans (congrArg some (by kernel_rfl)),
  f10 := ⟨Try.f129.name, by decide, Try.func129.trans (congrArg some (by kernel_rfl))⟩,
  f11 := ⟨Try.f130.name, by decide, Try.func130.trans (congrArg some (by kernel_rfl))⟩,
  f12 := ⟨Try.f131.name, by decide, Try.func131.trans (congrArg some (by kernel_rfl))⟩,
  f13 := ⟨Try.f132.name, by decide, Try.func132.trans (congrArg some (by kernel_rfl))⟩,
  f14 := ⟨Try.f133.name, by decide, Try.func133.trans (congrArg some (by kernel_rfl))⟩,
  f15 := ⟨Try.f134.name, by decide, Try.func134.trans (congrArg some (by kernel_rfl))⟩,
  f16 := ⟨Try.f135.name, by decide, Try.func135.trans (congrArg some (by kernel_rfl))⟩,
  f17 := ⟨Try.f136.name, by decide, Try.func136.trans (congrArg some (by kernel_rfl))⟩,
  f18 := ⟨Try.f137.name, by decide, Try.func137.trans (congrArg some (by kernel_rfl))⟩,
  f19 := Try.func138.trans (congrArg some (by kernel_rfl)),
  f20 := Try.func139.trans (congrArg some (by kernel_rfl)),
  f30 := ⟨Try.f145.name, by decide, Try.func145.trans (congrArg some (by kernel_rfl))⟩,
  f31 := Try.func146.trans (congrArg some (by kernel_rfl)),
  f32 := Try.func147.trans (congrArg some (by kernel_rfl)),
  f33 := ⟨Try.f148.name, by decide, Try.func148.trans (congrArg some (by kernel_rfl))⟩,
  f34 := ⟨Try.f149.name, by decide, Try.func149.trans (congrArg some (by kernel_rfl))⟩,
  f35 := ⟨Try.f105.name, by decide, Try.func105.trans (congrArg some (by kernel_rfl))⟩,
  f40 := ⟨Try.f150.name, by decide, Try.func150.trans (congrArg some (by kernel_rfl))⟩,
  t0 := Try.underlying0,
  a0 := Try.isAgg0,
  z0 := Try.sizeOf0,
  v0 := Try.zeroValue0,
  t3 := Try.underlying3,
  a3 := Try.isAgg3,
  z3 := Try.sizeOf3,
  v3 := Try.zeroValue3,
  t4 := Try.underlying4,
  a4 := Try.isAgg4,
  z4 := Try.sizeOf4,
  v4 := Try.zeroValue4,
  t5 := Try.underlying5,
  a5 := Try.isAgg5,
  z5 := Try.sizeOf5,
  v5 := Try.zeroValue5,
  t9 := Try.underlying9,
  a9 := Try.isAgg9,
  z9 := Try.sizeOf9,
  v9 := Try.zeroValue9,
  t22 := Try.underlying51,
  a22 := Try.isAgg51,
  z22 := Try.sizeOf51,
  v22 := Try.zeroValue51,
  t23 := Try.underlying51,
  a23 := Try.isAgg51,
  z23 := Try.sizeOf51,
  v23 := Try.zeroValue51,
  t25 := Try.underlying2,
  a25 := Try.isAgg2,
  z25 := Try.sizeOf2,
  v25 := Try.zeroValue2,
  t32 := Try.underlying176,
  a32 := Try.isAgg176,
  z32 := Try.sizeOf176,
  v32 := Try.zeroValue176,
  t35 := Try.underlying199,
  a35 := Try.isAgg199,
  z35 := Try.sizeOf199,
  v35 := Try.zeroValue199,
  t36 := Try.underlying200,
  a36 := Try.isAgg200,
  z36 := Try.sizeOf200,
  v36 := Try.zeroValue200,
  t41 := Try.underlying205,
  a41 := Try.isAgg205,
  z41 := Try.sizeOf205,
  v41 := Try.zeroValue205,
  t44 := Try.underlying208,
  a44 := Try.isAgg208,
  z44 := Try.sizeOf208,
  v44 := Try.zeroValue208,
  t46 := Try.underlying119,
  a46 := Try.isAgg119,
  z46 := Try.sizeOf119,
  v46 := Try.zeroValue119,
  t53 := Try.underlying213,
  a53 := Try.isAgg213,
  z53 := Try.sizeOf213,
  v53 := Try.zeroValue213,
  t57 := Try.underlying217,
  a57 := Try.isAgg217,
  z57 := Try.sizeOf217,
  v57 := Try.zeroValue217,
  t63 := Try.underlying219,
  a63 := Try.isAgg219,
  z63 := Try.sizeOf219,
  v63 := Try.zeroValue219,
  t64 := Try.underlying220,
  a64 := Try.isAgg220,
  z64 := Try.sizeOf220,
  v64 := Try.zeroValue220 }

end Go.Proofs.Ytjkkajhjcinalaa

namespace Go.Proofs.Ytjkkajhjcinalaa
open Go.ChangeShapes Go.WideShapes Go.ChangeAt Go.RowKit
set_option linter.unusedVariables false
set_option linter.unusedSimpArgs false
set_option maxRecDepth 100000

theorem gtr {a w w' : World} {row : Option Nat} (h : a.grownBy w row) (k : w.grownBy w' row) : a.grownBy w' row :=
  ⟨k.os.trans h.os, k.tape.trans h.tape, k.output.trans h.output, Nat.le_trans h.size k.size, fun i hi hne => (k.block i (Nat.lt_of_lt_of_le hi h.size) hne).trans (h.block i hi hne)⟩
theorem ncells_set (l : List Rn) (x y z : Int) : (ncells (l ++ [(x, y)])).set (l.length * 2 + 1) (.int .i64 z) = ncells (l ++ [(x, z)]) := by
  rw [ncells_app, ncells_app, List.set_append_right _ _ (by rw [ncells_len]; omega), ncells_len, show l.length * 2 + 1 - l.length * 2 = 1 by omega]
  rfl
theorem gdrewN {w w' : World} {row : Option Nat} {n : Nat} (h : w.grownBy w' row) : w.grownBy (w'.drewN n) row := ⟨h.os, h.tape, h.output, h.size, h.block⟩

theorem gdrew1 {w w' : World} {row : Option Nat} (h : w.grownBy w' row) : w.grownBy w'.drew row := ⟨h.os, h.tape, h.output, h.size, h.block⟩

set_option maxHeartbeats 4000000 in
theorem laid_new (base : Nat) (v : Value) (l : List Rn) (p q : Int) (w : World) (ho : OwnN w base v l) (hb : base ≤ w.heap.size) (hn : l.length ≤ 1000000) (hne : ∀ x y, l[l.length - 1]? = some (x, y) → ¬ x = p) :
    Calls Try.prog 95 #[v, .agg #[.int .i64 p, .int .i64 q]] w fun e w' => (∃ v', e = .returned v' ∧ OwnN w' base v' (l ++ [(p, q)])) ∧ w.grownBy w' v.ownBlock := by
  have HO := hid ho
  have HNE := hid hne
  obtain ⟨a, cap, rfl, hr⟩ := own_any ho
  have HR := hid hr
  obtain ⟨n, en⟩ : ∃ n, l.length = n := ⟨_, rfl⟩
  rw [en] at hr hn hne ⊢
  have EN := hid en
  have O1 : Hid (OwnN (w.alloc (.cells #[.int .i64 p, .int .i64 q] 65)) base (.slice a n cap) l) := hid (by have := ho.alloc (.cells #[.int .i64 p, .int .i64 q] 65); rw [← en]; exact this)
  have hl2 : n ≤ 9223372036854775807 := by omega
  have P1 : Hid (NRun w a n cap l) := hid hr
  clear ho hne hr en HO HR
  by_cases h0 : n = 0
  · subst h0
    go_enter Try.func95, Try.ntmps95
    go_wp2
    go_quiet (fail)
    have F1 : Hid (OwnN ((w.alloc (.cells #[.int .i64 p, .int .i64 q] 65)).drewN nq) base (.slice a 0 cap) l ∧ w.grownBy ((w.alloc (.cells #[.int .i64 p, .int .i64 q] 65)).drewN nq) (Value.slice a 0 cap).ownBlock ∧ ((w.alloc (.cells #[.int .i64 p, .int .i64 q] 65)).drewN nq).heap[w.heap.size]? = some (.cells #[.int .i64 p, .int .i64 q] 65) ∧ ((w.alloc (.cells #[.int .i64 p, .int .i64 q] 65)).drewN nq).heap.size = w.heap.size + 1) := hid ⟨O1.out, gdrewN (World.grownBy_alloc w _ _), heap_alloc_new w _, by simp [World.drewN]⟩
    generalize ((w.alloc (.cells #[.int .i64 p, .int .i64 q] 65)).drewN nq) = W at F1 ⊢
    obtain ⟨c0, c1⟩ := box_two F1.out.2.2.1
    have hWs := hid F1.out.2.2.2
    go_wp2_with (at_builtin; refine append_run rfl (.tmp 21) (.tmp 23) rfl base (.slice a 0 cap) l _ p q rfl (F1.out.1.alloc _) rfl (hnew rfl) (by have := EN.out; omega) (by have := hWs.out; simp; omega) ?_; intro u1 w1 ho1 hg1; have U1 := hid ho1; have G1 := hid (gtr (gtr F1.out.2.1 (World.grownBy_alloc _ _ _)) hg1); clear ho1 hg1)
    go_ret
    exact ⟨⟨u1, rfl, U1.out⟩, G1.out⟩
  · obtain ⟨j, hj⟩ : ∃ j, n - 1 = j := ⟨_, rfl⟩
    have hjk : (n : Int) - 1 = (j : Int) := by omega
    have hj0 : (0 : Int) ≤ (j : Int) := by omega
    have hjl : decide ((j : Int) < 0) = false := decide_eq_false (by omega)
    have hjn : (j : Int) < (n : Int) := by omega
    have hwj : IntKind.i64.wrap ((n : Int) - 1) = (j : Int) := by rw [hjk]; exact IntWalk.i64_in _ (by omega)
    obtain ⟨b, off, x0, x1, rfl, hbb, hr, p0, p1⟩ := P1.out.pick (b1alloc w (.cells #[.int .i64 p, .int .i64 q] 65)) (k := j) (by omega)
    have hx : ¬ x0 = p := HNE.out x0 x1 (by rw [EN.out, hj]; exact hr)
    have hxd : (x0 == p) = false := by simpa using hx
    have hxd2 : (x0 != p) = true := by simpa using hx
    clear hr hx hj p1
    go_enter Try.func95, Try.ntmps95
    go_wp2
    go_quiet (fail)
    have F1 : Hid (OwnN ((w.alloc (.cells #[.int .i64 p, .int .i64 q] 65)).drewN nq) base (.slice (some ⟨b, off, none⟩) n cap) l ∧ w.grownBy ((w.alloc (.cells #[.int .i64 p, .int .i64 q] 65)).drewN nq) (Value.slice (some ⟨b, off, none⟩) n cap).ownBlock ∧ ((w.alloc (.cells #[.int .i64 p, .int .i64 q] 65)).drewN nq).heap[w.heap.size]? = some (.cells #[.int .i64 p, .int .i64 q] 65) ∧ ((w.alloc (.cells #[.int .i64 p, .int .i64 q] 65)).drewN nq).heap.size = w.heap.size + 1) := hid ⟨O1.out, gdrewN (World.grownBy_alloc w _ _), heap_alloc_new w _, by simp [World.drewN]⟩
    generalize ((w.alloc (.cells #[.int .i64 p, .int .i64 q] 65)).drewN nq) = W at F1 ⊢
    obtain ⟨c0, c1⟩ := box_two F1.out.2.2.1
    have hWs := hid F1.out.2.2.2
    go_wp2_with (at_builtin; refine append_run rfl (.tmp 21) (.tmp 23) rfl base (.slice (some ⟨b, off, none⟩) n cap) l _ p q rfl (F1.out.1.alloc _) rfl (hnew rfl) (by have := EN.out; omega) (by have := hWs.out; simp; omega) ?_; intro u1 w1 ho1 hg1; have U1 := hid ho1; have G1 := hid (gtr (gtr F1.out.2.1 (World.grownBy_alloc _ _ _)) hg1); clear ho1 hg1)
    go_ret
    exact ⟨⟨u1, rfl, U1.out⟩, G1.out⟩

set_option maxHeartbeats 4000000 in
theorem laid_more (base : Nat) (v : Value) (l : List Rn) (x y q : Int) (w : World) (ho : OwnN w base v (l ++ [(x, y)])) (hb : base ≤ w.heap.size) (hn : l.length ≤ 1000000) (hy : -4611686018427387904 ≤ y ∧ y ≤ 4611686018427387904) (hq : -4611686018427387904 ≤ q ∧ q ≤ 4611686018427387903) :
    Calls Try.prog 95 #[v, .agg #[.int .i64 x, .int .i64 q]] w fun e w' => (e = .returned v ∧ OwnN w' base v (l ++ [(x, y + q)])) ∧ w.grownBy w' v.ownBlock := by
  obtain ⟨j, ej⟩ : ∃ j, l.length = j := ⟨_, rfl⟩
  have hl : (l ++ [(x, y)]).length = j + 1 := by rw [List.length_append, ej]; rfl
  have hl' : (l ++ [(x, y + q)]).length = j + 1 := by rw [List.length_append, ej]; rfl
  have ho' := ho
  unfold OwnN at ho'
  rw [hl] at ho'
  obtain ⟨g, cap, rfl⟩ := nown_form ho' (fun e => by subst e; rcases ho'.2 with ⟨_, h⟩ | ⟨_, _, _, h, _⟩ <;> first | omega | cases h)
  have HN := hid (own_nrun ho')
  have O1 : Hid ((w.alloc (.cells #[.int .i64 x, .int .i64 q] 65)).ownsRow base 65 2 (.slice (some ⟨g, 0, none⟩) (j + 1) cap) (j + 1) (ncells (l ++ [(x, y)]))) := hid (ho'.alloc _)
  have HGl := hid (ho'.lt g rfl).2
  obtain ⟨y1, y2⟩ := hy
  obtain ⟨q1, q2⟩ := hq
  obtain ⟨b, off, x0, x1, e0, hbb, hr, p0, p1⟩ := HN.out.pick (b1alloc w (.cells #[.int .i64 x, .int .i64 q] 65)) (k := j) (by omega)
  cases e0
  rw [List.getElem?_append_right (by omega), ej, Nat.sub_self] at hr
  cases hr
  have hj0 : (0 : Int) ≤ (j : Int) := by omega
  have hjl : decide ((j : Int) < 0) = false := decide_eq_false (by omega)
  have hwj : IntKind.i64.wrap (((j + 1 : Nat) : Int) - 1) = (j : Int) := by rw [show ((j + 1 : Nat) : Int) - 1 = (j : Int) by omega]; exact IntWalk.i64_in _ (by omega)
  have hj2 : (j : Int) < ((j + 1 : Nat) : Int) := by omega
  have EJ := hid ej
  have hjb : j ≤ 1000000 := by omega
  have HL' := hid hl'
  simp only [Nat.zero_add] at p0 p1
  clear ho ho' hl hl' ej
  obtain ⟨n, en⟩ : ∃ n, j + 1 = n := ⟨_, rfl⟩
  have hnj : (j : Int) < (n : Int) := by omega
  have hn2 : n ≤ 9223372036854775807 := by omega
  have hwn : IntKind.i64.wrap ((n : Int) - 1) = (j : Int) := by rw [← en]; exact hwj
  have O2 : Hid ((w.alloc (.cells #[.int .i64 x, .int .i64 q] 65)).ownsRow base 65 2 (.slice (some ⟨g, 0, none⟩) n cap) n (ncells (l ++ [(x, y)]))) := hid (by rw [← en]; exact O1.out)
  have HL2 : Hid ((l ++ [(x, y + q)]).length = n) := hid (by rw [← en]; exact HL'.out)
  rw [en]
  clear hwj hj2 O1 HL' HN en
  go_enter Try.func95, Try.ntmps95
  go_wp2
  go_quiet (fail)
  have F1 : Hid (((w.alloc (.cells #[.int .i64 x, .int .i64 q] 65)).drewN nq).ownsRow base 65 2 (.slice (some ⟨g, 0, none⟩) n cap) n (ncells (l ++ [(x, y)])) ∧ w.grownBy ((w.alloc (.cells #[.int .i64 x, .int .i64 q] 65)).drewN nq) (some g) ∧ ((w.alloc (.cells #[.int .i64 x, .int .i64 q] 65)).drewN nq).heap[w.heap.size]? = some (.cells #[.int .i64 x, .int .i64 q] 65)) := hid ⟨O2.out, gdrewN (World.grownBy_alloc w _ _), heap_alloc_new w _⟩
  have p0' : ((w.alloc (.cells #[.int .i64 x, .int .i64 q] 65)).drewN nq).cell? ⟨g, j * 2, none⟩ = some (.int .i64 x) := p0
  have p1' : ((w.alloc (.cells #[.int .i64 x, .int .i64 q] 65)).drewN nq).cell? ⟨g, j * 2 + 1, none⟩ = some (.int .i64 y) := p1
  clear p0 p1 O2
  generalize ((w.alloc (.cells #[.int .i64 x, .int .i64 q] 65)).drewN nq) = W at F1 p0' p1' ⊢
  obtain ⟨c0, c1⟩ := box_two F1.out.2.2
  have f1 := World.ownsRow.frozenAt F1.out.1 (j * 2 + 1)
  go_wp2
  go_region
  all_goals
    go_wp2
    go_ret
    have st := World.ownsRow.stored F1.out.1 (j * 2 + 1) (.int .i64 (y + q))
    have e1 : ncells (l ++ [(x, y + q)]) = (ncells (l ++ [(x, y)])).set (j * 2 + 1) (.int .i64 (y + q)) := by rw [← EJ.out, ncells_set]
    refine ⟨⟨rfl, ?_⟩, ?_⟩
    · unfold OwnN
      rw [HL2.out, e1]
      exact st.1
    · exact gtr F1.out.2.1 (gdrew1 st.2)

end Go.Proofs.Ytjkkajhjcinalaa

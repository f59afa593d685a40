/-
  What the document's Lay returns.
  Conditions: as each theorem states them.
-/
import Derived.Test.YtjkkajhjcinalaaBD
namespace Go.Proofs.Ytjkkajhjcinalaa
open Go.ChangeShapes Go.WideShapes Go.ChangeAt Go.RowKit
set_option linter.unusedVariables false
set_option linter.unusedSimpArgs false
set_option maxRecDepth 100000

/-- The way of Lay's loop: what stands there behind so many runs. -/
def LaySt (v n : Int) (l out : List Rn) (k : Nat) (dn : Bool) : Prop :=
  if dn then (∃ r ∈ l.take k, v ≤ r.1) ∧ out = lay v n (l.take k) else (∀ r ∈ l.take k, r.1 < v) ∧ out = l.take k
theorem layst_0 (v n : Int) (l : List Rn) : LaySt v n l [] 0 false := ⟨fun r hr => by simp at hr, rfl⟩
theorem layst_low {v n : Int} {l out : List Rn} {k : Nat} {x0 x1 : Int} (h : LaySt v n l out k false) (hr : l[k]? = some (x0, x1)) (hx : x0 < v) : LaySt v n l (out ++ [(x0, x1)]) (k + 1) false := by
  obtain ⟨h1, h2⟩ := h
  refine ⟨fun r hr' => ?_, by rw [h2, take_one hr]⟩
  rw [take_one hr] at hr'
  rcases List.mem_append.1 hr' with hr' | hr'
  · exact h1 r hr'
  · simp at hr'; subst hr'; exact hx
theorem layst_done {v n : Int} {l out : List Rn} {k : Nat} {x0 x1 : Int} (h : LaySt v n l out k true) (hr : l[k]? = some (x0, x1)) : LaySt v n l (out ++ [(x0, x1)]) (k + 1) true := by
  obtain ⟨⟨r, hr', hv⟩, h2⟩ := h
  refine ⟨⟨r, by rw [take_one hr]; exact List.mem_append_left _ hr', hv⟩, ?_⟩
  rw [take_one hr, lay_snoc ⟨r, hr', hv⟩, h2]
theorem layst_above {v n : Int} {l out : List Rn} {k : Nat} {x0 x1 : Int} (h : LaySt v n l out k false) (hr : l[k]? = some (x0, x1)) (hx : v < x0) : LaySt v n l (out ++ [(v, n)] ++ [(x0, x1)]) (k + 1) true := by
  obtain ⟨h1, h2⟩ := h
  refine ⟨⟨(x0, x1), by rw [take_one hr]; simp, by show v ≤ x0; omega⟩, ?_⟩
  rw [take_one hr, lay_above h1 hx, h2]
theorem layst_here {v n : Int} {l out : List Rn} {k : Nat} {x1 : Int} (h : LaySt v n l out k false) (hr : l[k]? = some (v, x1)) (hz : ¬ x1 + n = 0) : LaySt v n l (out ++ [(v, x1 + n)]) (k + 1) true := by
  obtain ⟨h1, h2⟩ := h
  refine ⟨⟨(v, x1), by rw [take_one hr]; simp, Int.le_refl _⟩, ?_⟩
  rw [take_one hr, lay_here h1 rfl, h2, if_neg hz]
theorem layst_gone {v n : Int} {l out : List Rn} {k : Nat} {x1 : Int} (h : LaySt v n l out k false) (hr : l[k]? = some (v, x1)) (hz : x1 + n = 0) : LaySt v n l out (k + 1) true := by
  obtain ⟨h1, h2⟩ := h
  refine ⟨⟨(v, x1), by rw [take_one hr]; simp, Int.le_refl _⟩, ?_⟩
  rw [take_one hr, lay_here h1 rfl, h2, if_pos hz]
theorem layst_end {v n : Int} {l out : List Rn} {k : Nat} (h : LaySt v n l out k true) (hk : l.length ≤ k) : out = lay v n l := by
  obtain ⟨_, h2⟩ := h
  rw [List.take_of_length_le hk] at h2; exact h2
theorem layst_fin {v n : Int} {l out : List Rn} {k : Nat} (h : LaySt v n l out k false) (hk : l.length ≤ k) : out ++ [(v, n)] = lay v n l := by
  obtain ⟨h1, h2⟩ := h
  rw [List.take_of_length_le hk] at h1 h2
  rw [lay_low h1, h2]
theorem layst_len {v n : Int} {l out : List Rn} {k : Nat} {dn : Bool} (h : LaySt v n l out k dn) (hk : k ≤ l.length) : out.length ≤ k + 1 := by
  cases dn with
  | false => obtain ⟨_, h2⟩ := h; rw [h2, List.length_take]; omega
  | true =>
    obtain ⟨_, h2⟩ := h
    have := lay_len (v := v) (n := n) (l := l.take k)
    rw [List.length_take] at this
    rw [h2]; omega
/-- A row of one's own behind a world. -/
def OwnW (w wr : World) (v : Value) (l : List Rn) : Prop := Below w.heap.size w wr ∧ OwnN wr w.heap.size v l
theorem OwnW.alloc {w wr : World} {v : Value} {l : List Rn} (h : OwnW w wr v l) (o : Obj) : OwnW w (wr.alloc o) v l := ⟨h.1.alloc h.1.size _, h.2.alloc o⟩
theorem OwnW.grown {w wr w' : World} {v v' : Value} {l m : List Rn} (h : OwnW w wr v l) (hg : wr.grownBy w' v.ownBlock) (ho : OwnN w' w.heap.size v' m) : OwnW w w' v' m :=
  ⟨h.1.grown hg h.1.size (fun k hk => (h.2.lt k hk).1), ho⟩

theorem box_kept {wr W w' : World} {base N : Nat} {v : Value} {l : List Rn} {o : Obj} (ho : OwnN wr base v l) (hg : W.grownBy w' v.ownBlock) (h : W.heap[N]? = some o) (hN : wr.heap.size ≤ N) : w'.heap[N]? = some o := by
  rw [hg.block N (heap_lt h) (fun e => by have := (ho.lt N (by first | exact e | exact e.symm)).2; omega)]; exact h

set_option maxHeartbeats 8000000 in
theorem lay_any (a : Option Addr) (m c : Nat) (l : List Rn) (v n : Int) (w : World) (hl : NRun w a m c l) (hz : Nz l) (hb : ∀ r ∈ l, -1099511627776 ≤ r.2 ∧ r.2 ≤ 1099511627776) (hn : -1099511627776 ≤ n ∧ n ≤ 1099511627776) (hm : m ≤ 1000000) :
    Calls Try.prog 52 #[.slice a m c, .int .i64 v, .int .i64 n] w fun e w' => (∃ u, e = .returned u ∧ OwnW w w' u (lay v n l)) := by
  have HL := hid hl
  have HZ := hid hz
  have HB := hid hb
  obtain ⟨l1, l2⟩ := hl.lens
  obtain ⟨n1, n2⟩ := hn
  have EL := hid l1
  clear hl hz hb l1 l2
  go_enter Try.func52, Try.ntmps52
  go_wp2
  go_loopw [7, 8, 9] (fun o d i wr => ∃ (k : Nat) (u : Value) (dn : Bool) (out : List Rn), k ≤ m ∧ i = .int .i64 k ∧ d = .bool dn ∧ u = o ∧ Hid (LaySt v n l out k dn) ∧ Hid (OwnW w wr u out)) (fun _ _ i _ => m - (intOf i).toNat)
  case atStart => exact ⟨0, _, false, [], by omega, rfl, rfl, rfl, layst_0 v n l, hid ⟨Below.refl _ _, own_nil _ _⟩⟩
  case round =>
    obtain ⟨k, u, dn, out, hkm, rfl, rfl, rfl, LS, OW⟩ := hrel
    have hk0 : (0 : Int) ≤ (k : Int) := by omega
    have hol : out.length ≤ k + 1 := layst_len LS.out (by have := EL.out; omega)
    by_cases hlt : k < m
    · have hki : (k : Int) < (m : Int) := by omega
      obtain ⟨b, off, x0, x1, rfl, hbb, hr, p0, p1⟩ := HL.out.pick OW.out.1 hlt
      have HR := hid hr
      have hx1 := HB.out _ (List.mem_of_getElem? hr)
      have hx2 := HZ.out _ (List.mem_of_getElem? hr)
      simp only at hx1 hx2
      obtain ⟨X1, X2⟩ := hx1
      clear hr
      cases dn with
      | true =>
        have hz : (x1 == 0) = false := by simpa using hx2
        have hz2 : (x1 != 0) = true := by simpa using hx2
        clear hx2
        go_wp2_with (at_builtin; refine append_run rfl (.tmp 47) (.tmp 49) rfl w.heap.size u out _ x0 x1 rfl ((OW.out.alloc (.cells #[.int .i64 x0, .int .i64 x1] 65)).alloc (.cells #[.int .i64 x0, .int .i64 x1] 65)).2 rfl (hnew (by simp)) (by (try simp only [List.length_append, List.length_cons, List.length_nil]); omega) (by have := ((OW.out.alloc (.cells #[.int .i64 x0, .int .i64 x1] 65)).alloc (.cells #[.int .i64 x0, .int .i64 x1] 65)).1.size; omega) ?_; intro u1 w1 ho1 hg1; have O1 := hid (OwnW.grown ((OW.out.alloc (.cells #[.int .i64 x0, .int .i64 x1] 65)).alloc (.cells #[.int .i64 x0, .int .i64 x1] 65)) hg1 ho1); clear ho1 hg1)
        go_roundw
        case rel => exact ⟨k + 1, u1, true, _, by omega, by go_num, rfl, rfl, hid (layst_done LS.out HR.out), O1⟩
        case measure => simp [intOf]; omega
      | false =>
        by_cases hlow : x0 < v
        · have hd : decide (v ≤ x0) = false := decide_eq_false (by omega)
          have hz : (x1 == 0) = false := by simpa using hx2
          have hz2 : (x1 != 0) = true := by simpa using hx2
          have HV := hid hlow
          clear hx2 hlow
          go_wp2_with (at_builtin; refine append_run rfl (.tmp 47) (.tmp 49) rfl w.heap.size u out _ x0 x1 rfl ((OW.out.alloc (.cells #[.int .i64 x0, .int .i64 x1] 65)).alloc (.cells #[.int .i64 x0, .int .i64 x1] 65)).2 rfl (hnew (by simp)) (by (try simp only [List.length_append, List.length_cons, List.length_nil]); omega) (by have := ((OW.out.alloc (.cells #[.int .i64 x0, .int .i64 x1] 65)).alloc (.cells #[.int .i64 x0, .int .i64 x1] 65)).1.size; omega) ?_; intro u1 w1 ho1 hg1; have O1 := hid (OwnW.grown ((OW.out.alloc (.cells #[.int .i64 x0, .int .i64 x1] 65)).alloc (.cells #[.int .i64 x0, .int .i64 x1] 65)) hg1 ho1); clear ho1 hg1)
          go_roundw
          case rel => exact ⟨k + 1, u1, false, _, by omega, by go_num, rfl, rfl, hid (layst_low LS.out HR.out HV.out), O1⟩
          case measure => simp [intOf]; omega
        · have hd : decide (v ≤ x0) = true := decide_eq_true (by omega)
          by_cases hup : v < x0
          · have hd2 : decide (v < x0) = true := decide_eq_true hup
            have hz : (x1 == 0) = false := by simpa using hx2
            have hz2 : (x1 != 0) = true := by simpa using hx2
            have HV := hid hup
            clear hx2 hlow hup
            go_wp2_with (first
              | (at_builtin; refine append_run rfl (.tmp 33) (.tmp 37) rfl w.heap.size u out _ v n rfl ((OW.out.alloc (.cells #[.int .i64 x0, .int .i64 x1] 65)).alloc (.cells #[.int .i64 v, .int .i64 n] 65)).2 rfl (hnew (by simp)) (by (try simp only [List.length_append, List.length_cons, List.length_nil]); omega) (by have := ((OW.out.alloc (.cells #[.int .i64 x0, .int .i64 x1] 65)).alloc (.cells #[.int .i64 v, .int .i64 n] 65)).1.size; omega) ?_; intro u1 w1 ho1 hg1; have O1 := hid (OwnW.grown ((OW.out.alloc (.cells #[.int .i64 x0, .int .i64 x1] 65)).alloc (.cells #[.int .i64 v, .int .i64 n] 65)) hg1 ho1); have K1 := hid (box_kept (OW.out.2) hg1 (by rw [Below.heap_alloc _ _ _ (by simp)]; exact hnew rfl) (Nat.le_refl wr.heap.size)); obtain ⟨c0, c1⟩ := box_two K1.out; clear ho1 hg1)
              | (at_builtin; refine append_run rfl (.tmp 47) (.tmp 49) rfl w.heap.size u1 (out ++ [(v, n)]) _ x0 x1 rfl (O1.out.alloc (.cells #[.int .i64 x0, .int .i64 x1] 65)).2 rfl (hnew (by simp)) (by (try simp only [List.length_append, List.length_cons, List.length_nil]); omega) (by have := (O1.out.alloc (.cells #[.int .i64 x0, .int .i64 x1] 65)).1.size; omega) ?_; intro u2 w2 ho2 hg2; have O2 := hid (OwnW.grown (O1.out.alloc (.cells #[.int .i64 x0, .int .i64 x1] 65)) hg2 ho2); clear ho2 hg2))
            go_roundw
            case rel => exact ⟨k + 1, u2, true, _, by omega, by go_num, rfl, rfl, hid (layst_above LS.out HR.out HV.out), O2⟩
            case measure => simp [intOf]; omega
          · have hd2 : decide (v < x0) = false := decide_eq_false hup
            obtain rfl : x0 = v := by omega
            clear hlow hup hx2
            by_cases hs : x1 + n = 0
            · have hz : (x1 + n == 0) = true := by simpa using hs
              have hz2 : (x1 + n != 0) = false := by simpa using hs
              have HS := hid hs
              clear hs
              go_wp2
              go_roundw
              case rel => exact ⟨k + 1, u, true, out, by omega, by go_num, rfl, rfl, hid (layst_gone LS.out HR.out HS.out), hid (OW.out.alloc _)⟩
              case measure => simp [intOf]; omega
            · have hz : (x1 + n == 0) = false := by simpa using hs
              have hz2 : (x1 + n != 0) = true := by simpa using hs
              have HS := hid hs
              clear hs
              go_wp2_with (at_builtin; refine append_run rfl (.tmp 47) (.tmp 49) rfl w.heap.size u out _ x0 (x1 + n) rfl ((OW.out.alloc (.cells #[.int .i64 x0, .int .i64 (x1 + n)] 65)).alloc (.cells #[.int .i64 x0, .int .i64 (x1 + n)] 65)).2 rfl (hnew (by simp)) (by (try simp only [List.length_append, List.length_cons, List.length_nil]); omega) (by have := ((OW.out.alloc (.cells #[.int .i64 x0, .int .i64 (x1 + n)] 65)).alloc (.cells #[.int .i64 x0, .int .i64 (x1 + n)] 65)).1.size; omega) ?_; intro u1 w1 ho1 hg1; have O1 := hid (OwnW.grown ((OW.out.alloc (.cells #[.int .i64 x0, .int .i64 (x1 + n)] 65)).alloc (.cells #[.int .i64 x0, .int .i64 (x1 + n)] 65)) hg1 ho1); clear ho1 hg1)
              go_roundw
              case rel => exact ⟨k + 1, u1, true, _, by omega, by go_num, rfl, rfl, hid (layst_here LS.out HR.out HS.out), O1⟩
              case measure => simp [intOf]; omega
    · have hkf : decide ((k : Int) < (m : Int)) = false := decide_eq_false (by omega)
      cases dn with
      | true =>
        have HE := hid (layst_end LS.out (by have := EL.out; omega))
        go_wp2
        go_ret
        exact ⟨u, rfl, by rw [← HE.out]; exact OW.out⟩
      | false =>
        have HE := hid (layst_fin LS.out (by have := EL.out; omega))
        go_wp2_with (at_builtin; refine append_run rfl (.tmp 53) (.tmp 57) rfl w.heap.size u out _ v n rfl (OW.out.alloc (.cells #[.int .i64 v, .int .i64 n] 65)).2 rfl (hnew (by simp)) (by (try simp only [List.length_append, List.length_cons, List.length_nil]); omega) (by have := (OW.out.alloc (.cells #[.int .i64 v, .int .i64 n] 65)).1.size; omega) ?_; intro u1 w1 ho1 hg1; have O1 := hid (OwnW.grown (OW.out.alloc (.cells #[.int .i64 v, .int .i64 n] 65)) hg1 ho1); clear ho1 hg1)
        go_ret
        exact ⟨u1, rfl, by rw [← HE.out]; exact O1.out⟩

end Go.Proofs.Ytjkkajhjcinalaa

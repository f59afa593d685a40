/-
  Rows inserted into their order, as lists and in worlds; parts of a slice of rows.
  Conditions: as each theorem states them.
-/
import Derived.Test.YtikgbcdmeikjfaaRZ
namespace Go.Proofs.Ytikgbcdmeikjfaa
open Go.ChangeShapes Go.WideShapes Go.ChangeAt Go.RowKit
set_option linter.unusedVariables false
set_option linter.unusedSimpArgs false
set_option maxRecDepth 100000

/-- A row in its order. -/
def insr (r : Rw) : List Rw → List Rw
  | [] => [r]
  | x :: l => if rlt r x then r :: x :: l else x :: insr r l
def isrt : List Rw → List Rw → List Rw
  | out, [] => out
  | out, r :: l => isrt (insr r out) l
theorem insr_at (r : Rw) (l : List Rw) (k : Nat) (hk : k ≤ l.length) (h : ∀ j x, j < k → l[j]? = some x → rlt r x = false) (h' : ∀ x, l[k]? = some x → rlt r x = true) : l.take k ++ [r] ++ l.drop k = insr r l := by
  induction l generalizing k with
  | nil => simp at hk; subst hk; rfl
  | cons y l ih =>
    cases k with
    | zero =>
      have := h' y rfl
      simp only [insr, this, if_true]; rfl
    | succ k =>
      have h0 := h 0 y (by omega) rfl
      simp only [insr, h0]
      have := ih k (by simpa using hk) (fun j x hj hx => h (j + 1) x (by omega) (by simpa using hx)) (fun x hx => h' x (by simpa using hx))
      simp only [List.take_succ_cons, List.drop_succ_cons, List.cons_append, Bool.false_eq_true, if_false]
      rw [← this]
theorem insr_len (r : Rw) (l : List Rw) : (insr r l).length = l.length + 1 := by
  induction l with
  | nil => rfl
  | cons y l ih => simp only [insr]; split <;> simp [ih]
theorem insr_perm (r : Rw) (l : List Rw) : (insr r l).Perm (r :: l) := by
  induction l with
  | nil => exact List.Perm.refl _
  | cons y l ih =>
    simp only [insr]
    split
    · exact List.Perm.refl _
    · exact (List.Perm.cons y ih).trans (List.Perm.swap r y l)
theorem rlt_anti' {r s : Rw} (h : rlt r s = true) : rlt s r = false := by
  rw [rlt_dec, decide_eq_true_iff] at h
  rw [rlt_dec, decide_eq_false_iff_not]
  omega
theorem insr_sorted (r : Rw) (l : List Rw) (h : l.Pairwise (fun a b => rlt b a = false)) : (insr r l).Pairwise (fun a b => rlt b a = false) := by
  induction l with
  | nil => simp [insr]
  | cons y l ih =>
    rw [List.pairwise_cons] at h
    simp only [insr]
    split
    · rename_i hr
      rw [List.pairwise_cons]
      refine ⟨fun z hz => ?_, List.pairwise_cons.2 h⟩
      rcases List.mem_cons.1 hz with rfl | hz
      · exact rlt_anti' hr
      · exact rlt_ntrans (h.1 z hz) (rlt_anti' hr)
    · rename_i hr
      rw [List.pairwise_cons]
      refine ⟨fun z hz => ?_, ih h.2⟩
      have := (insr_perm r l).mem_iff.1 hz
      rcases List.mem_cons.1 this with rfl | hz
      · simpa using hr
      · exact h.1 z hz
theorem isrt_perm (out l : List Rw) : (isrt out l).Perm (out ++ l) := by
  induction l generalizing out with
  | nil => simp [isrt]
  | cons r l ih =>
    simp only [isrt]
    refine (ih (insr r out)).trans ?_
    refine (List.Perm.append_right l (insr_perm r out)).trans ?_
    exact List.perm_middle.symm
theorem isrt_sorted (out l : List Rw) (h : out.Pairwise (fun a b => rlt b a = false)) : (isrt out l).Pairwise (fun a b => rlt b a = false) := by
  induction l generalizing out with
  | nil => exact h
  | cons r l ih => exact ih _ (insr_sorted r out h)
theorem srt_sorted (l : List Rw) : (srt l).Pairwise (fun a b => rlt b a = false) := by
  have := List.pairwise_mergeSort (le := fun x y => !rlt y x) (fun a b c h1 h2 => by
    simp at h1 h2 ⊢
    exact rlt_ntrans h2 h1) (fun a b => by
    cases h : rlt b a with
    | false => simp
    | true => simp [rlt_anti' h]) l
  refine List.pairwise_iff_getElem.mpr (fun i j hi hj hij => ?_)
  have h : (!rlt ((srt l)[j]'hj) ((srt l)[i]'hi)) = true := List.pairwise_iff_getElem.mp this i j hi hj hij
  simpa using h
theorem srt_perm (l : List Rw) : (srt l).Perm l := List.mergeSort_perm l _
theorem srt_of {l m : List Rw} (hl : ∀ r ∈ l, rok r) (hp : m.Perm l) (hs : m.Pairwise (fun a b => rlt b a = false)) : m = srt l := by
  refine List.Perm.eq_of_pairwise (le := fun a b => rlt b a = false) (fun a b ha hb h1 h2 => ?_) hs (srt_sorted l) (hp.trans (srt_perm l).symm)
  exact rlt_tri (hl a (hp.mem_iff.1 ha)) (hl b ((srt_perm l).mem_iff.1 hb)) h2 h1
theorem isrt_srt {l : List Rw} (hl : ∀ r ∈ l, rok r) : isrt [] l = srt l := srt_of hl (by have := isrt_perm [] l; simpa using this) (isrt_sorted [] l List.Pairwise.nil)
theorem srt_same {l m : List Rw} (hl : ∀ r ∈ l, rok r) (hp : m.Perm l) : srt m = srt l := srt_of hl ((srt_perm m).trans hp) (srt_sorted m)
theorem isrt_snoc (out l : List Rw) (r : Rw) : isrt out (l ++ [r]) = insr r (isrt out l) := by
  induction l generalizing out with
  | nil => rfl
  | cons q l ih => exact ih _
theorem isrt_len (out l : List Rw) : (isrt out l).length = out.length + l.length := by have := (isrt_perm out l).length_eq; simpa using this

/-- The first so many of a slice of rows; the rest. -/
theorem firstR {w : World} {a : Option Addr} {n c : Nat} {l : List Rw} (h : RRow w a n c l) (k : Nat) (hk : k ≤ n) :
    (∀ w', (Instr.slice 25 (.slice a n c) none (some (.int .i64 k)) none).run Try.prog w' = .ok (.slice a k c) w') ∧ RRow w a k c (l.take k) := by
  obtain ⟨h1, h2, h3, h4, h5⟩ := h
  refine ⟨fun w' => ?_, ?_⟩
  · rw [run_slice_h w' 25 a n c Try.underlying25 .i64 k (by omega) (by omega)]
    have hs : (sizeOf (Try.prog.elem 25)).run Try.prog w' = .ok 6 w' := Try.sizeOf33 w'
    rw [hs]
    cases a with
    | none => simp [Result.andThen, sliced]
    | some ad => simp [Result.andThen, sliced, Addr.add]
  · refine ⟨by rw [List.length_take]; omega, by omega, h3, h4, fun h0 => ?_⟩
    obtain ⟨b, off, e, hb, hl⟩ := h5 (by omega)
    refine ⟨b, off, e, hb, fun j r hj i v hi => hl j r ?_ i v hi⟩
    rw [List.getElem?_take] at hj
    by_cases hjk : j < k
    · rw [if_pos hjk] at hj; exact hj
    · rw [if_neg hjk] at hj; cases hj
theorem restR {w : World} {a : Option Addr} {n c : Nat} {l : List Rw} (h : RRow w a n c l) (k : Nat) (hk : k ≤ n) :
    ∃ A, (∀ w', (Instr.slice 25 (.slice a n c) (some (.int .i64 k)) none none).run Try.prog w' = .ok (.slice A (n - k) (c - k)) w') ∧ RRow w A (n - k) (c - k) (l.drop k) := by
  obtain ⟨h1, h2, h3, h4, h5⟩ := h
  refine ⟨if c = k then a else a.map (·.add (k * 6)), fun w' => ?_, ?_⟩
  · rw [run_slice_l w' 25 a n c Try.underlying25 .i64 k (by omega) (by omega)]
    have hs : (sizeOf (Try.prog.elem 25)).run Try.prog w' = .ok 6 w' := Try.sizeOf33 w'
    rw [hs]
    simp [Result.andThen, sliced]
  · refine ⟨by rw [List.length_drop]; omega, by omega, by omega, ?_, fun h0 => ?_⟩
    · intro e
      by_cases hck : c = k
      · omega
      · rw [if_neg hck] at e
        cases a with
        | none => have := h4 rfl; omega
        | some ad => cases e
    · obtain ⟨b, off, rfl, hb, hl⟩ := h5 (by omega)
      have hck : ¬ c = k := by omega
      rw [if_neg hck]
      refine ⟨b, off + k * 6, ?_, hb, fun j r hj i v hi => ?_⟩
      · simp only [Option.map_some, add_at]
      · rw [List.getElem?_drop] at hj
        have := hl (k + j) r hj i v hi
        rw [show off + (k + j) * 6 + i = off + k * 6 + j * 6 + i by omega] at this
        exact this
theorem rrow_heap {w : World} {N : Nat} {r : Rw} {t : TypeId} (h : w.heap[N]? = some (.cells (rcs r).toArray t)) : RRow w (some ⟨N, 0, none⟩) 1 1 [r] := by
  refine ⟨rfl, Nat.le_refl _, by decide, (fun e => by cases e), fun _ => ⟨N, 0, rfl, heap_lt h, fun j q hj i v hi => ?_⟩⟩
  rw [cell_of_row _ _ _ _ t (0, 0) h]
  match j, hj with
  | 0, hj =>
    simp at hj; subst hj
    simpa using hi
/-- At a step of a region that draws: any slice of rows behind a row of one's own. -/
theorem step_append_rrow (w : World) {ops : Array Oper} {o : Oper} {a : Act} {K : Act → World → Prop} {Q : Exit → Act → World → Prop} {E : Prop} (hgd : o.guard = none) (s x : Operand)
    (ho : o.op = .call { callee := .builtin .append, args := #[s, x], argTypes := #[25, 25] }) (base g n cap : Nat) (xs : List Rw)
    (hs : a.eval s = .slice (some ⟨g, 0, none⟩) n cap) (hown : w.ownsRow base 33 6 (.slice (some ⟨g, 0, none⟩) n cap) n (rcells xs))
    (sa : Option Addr) (m c : Nat) (ys : List Rw) (hx : a.eval x = .slice sa m c) (hr : RRow w sa m c ys) (hn : n + m ≤ 1000000) (hbase : base ≤ w.heap.size)
    (h : ∀ g' cap' w', w'.ownsRow base 33 6 (.slice (some ⟨g', 0, none⟩) (n + m) cap') (n + m) (rcells (xs ++ ys)) → w.grownBy w' (some g) → K (a.put o.dst (.slice (some ⟨g', 0, none⟩) (n + m) cap')) w') :
    if Region.wanted o (yielded ops a.tmps) = true then Oper.wp Try.prog o a w K Q else E := by
  have hw : Region.wanted o (yielded ops a.tmps) = true := by simp [Region.wanted, hgd]
  rw [if_pos hw]
  obtain ⟨i0, hi, hz0, hz1, hz2⟩ := info_parts info_rw
  cases sa with
  | none =>
    obtain ⟨r1, r2, r3, r4, r5⟩ := hr
    obtain rfl : c = 0 := r4 rfl
    obtain rfl : m = 0 := by omega
    have hy : ys = [] := List.length_eq_zero_iff.mp r1.symm
    subst hy
    have hr := run_append_owned_none (P := Try.prog) (w := w) base 25 o.type 33 i0 6 Try.underlying25 hi _ n (rcells xs) hown
    unfold Oper.wp execOp
    simp only [ho, resolve, invoke, builtin, Sem.run_bind, Sem.run_pure, Result.andThen_ok, List.map_toArray, List.map_cons, List.map_nil, hs, hx, hr]
    have := h g cap w (by simpa using hown) ⟨rfl, rfl, rfl, Nat.le_refl _, fun _ _ _ => rfl⟩
    simp only [Nat.add_zero, List.append_nil] at this
    exact this
  | some ad =>
    obtain ⟨v', w', hr', h2, h3, hiff⟩ := run_append_own (P := Try.prog) w base 25 o.type 33 i0 _ 6 24 Try.underlying25 hi hz0 hz1 hz2 rfl (by decide) _ n (rcells xs) hown ad m c (rcells ys) (by rw [rcells_len, hr.1]) (rrow_src0 hr) (rcells_one _) (by unfold maxLen; omega) (by omega) hbase
    unfold Oper.wp execOp
    simp only [ho, resolve, invoke, builtin, Sem.run_bind, Sem.run_pure, Result.andThen_ok, List.map_toArray, List.map_cons, List.map_nil, hs, hx, hr']
    obtain ⟨g', cap', rfl⟩ := rown_form h2 (fun e => by have := (hiff.mp e).1; cases this)
    rw [← rcells_app] at h2
    exact h g' cap' w' h2 h3
theorem step_append_rn (w : World) {ops : Array Oper} {o : Oper} {a : Act} {K : Act → World → Prop} {Q : Exit → Act → World → Prop} {E : Prop} (hgd : o.guard = none) (s x : Operand)
    (ho : o.op = .call { callee := .builtin .append, args := #[s, x], argTypes := #[25, 25] }) (base g n cap : Nat) (xs : List Rw)
    (hs : a.eval s = .slice (some ⟨g, 0, none⟩) n cap) (hown : w.ownsRow base 33 6 (.slice (some ⟨g, 0, none⟩) n cap) n (rcells xs))
    (sa : Option Addr) (m c : Nat) (ys : List Rw) (hx : a.eval x = .slice sa m c) (hr : RRow w sa m c ys) (hn : n + m ≤ 1000000) (hbase : base ≤ w.heap.size) (N : Nat) (zs : List Rw) (hN : n + m = N) (hz : xs ++ ys = zs)
    (h : ∀ g' cap' w', w'.ownsRow base 33 6 (.slice (some ⟨g', 0, none⟩) N cap') N (rcells zs) → w.grownBy w' (some g) → K (a.put o.dst (.slice (some ⟨g', 0, none⟩) N cap')) w') :
    if Region.wanted o (yielded ops a.tmps) = true then Oper.wp Try.prog o a w K Q else E := by
  subst hN hz
  exact step_append_rrow w hgd s x ho base g n cap xs hs hown sa m c ys hx hr hn hbase h
theorem rown_at (w : World) (base N : Nat) (hN : N = w.heap.size) (hb : base ≤ w.heap.size) : (w.alloc (.cells #[] 33)).ownsRow base 33 6 (.slice (some ⟨N, 0, none⟩) 0 0) 0 (rcells []) := by subst hN; exact rown_made w base hb
theorem kr_alloc {W w' : World} {R : Prop} {Q : World → Prop} {o : Obj} (h : Below W.heap.size W w' ∧ R) (K : Hid (∀ x, Below W.heap.size W x → Q x)) : Q (w'.alloc o) := K.out _ (h.1.alloc h.1.size _)
theorem kr_grown {W w' w'' : World} {g : Nat} (h : Below W.heap.size W w') (hg : w'.grownBy w'' (some g)) (hW : W.heap.size ≤ g) : Below W.heap.size W w'' := h.grown hg h.size (fun k hk => by cases hk; exact hW)
theorem kr_block {w w' : World} {g N : Nat} {X : Array Value} {t : TypeId} (hg : w.grownBy w' (some g)) (h : w.heap[N]? = some (.cells X t)) (hne : ¬ N = g) : w'.heap[N]? = some (.cells X t) := by
  rw [hg.block N (heap_lt h) (fun e => hne (by cases e; rfl))]; exact h

end Go.Proofs.Ytikgbcdmeikjfaa

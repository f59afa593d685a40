/-
  A node's places, and how they are parted by those of a coarser one: as lists.
  Conditions: as each theorem states them.
-/
import Derived.Test.YtfgphphaopcolaaWM
namespace Go.Proofs.Ytfgphphaopcolaa
open Go.ChangeShapes Go.WideShapes Go.ChangeAt Go.RowKit
set_option linter.unusedVariables false
set_option linter.unusedSimpArgs false

/-! All places of a node. -/
def sz (ds : Dims) (V : List Int) (k : Nat) : Nat := (memC ds k (V.getD k 0)).toNat
theorem sz_int (ds : Dims) (V : List Int) (k : Nat) : (sz ds V k : Int) = memC ds k (V.getD k 0) := by
  have := (memC_bd ds k (V.getD k 0)).1; unfold sz; omega
def pls (ds : Dims) (V : List Int) : Nat → List Nd
  | 0 => [(0, 0, 0, 0)]
  | k + 1 => wid (pls ds V k) k (upto (sz ds V k))
theorem pls_len (ds : Dims) (V : List Int) (k : Nat) : ((pls ds V k).length : Int) = costP ds V k := by
  induction k with
  | zero => rfl
  | succ k ih => rw [pls, wid_len, upto_len, costP, ← ih, ← sz_int, Int.natCast_mul]
theorem wid_get {s : Nat} (hs : 0 < s) : ∀ (l : List Nd) (d i : Nat) (x : Nd), l[i / s]? = some x → (wid l d (upto s))[i]? = some (pt x ((i % s : Nat) : Int) d) := by
  intro l
  induction l with
  | nil => intro d i x h; simp at h
  | cons y r ih =>
    intro d i x h
    have e : wid (y :: r) d (upto s) = (upto s).map (fun m => pt y m d) ++ wid r d (upto s) := by simp [wid]
    rw [e]
    by_cases hi : i < s
    · rw [Nat.div_eq_of_lt hi] at h
      simp at h
      subst h
      rw [List.getElem?_append_left (by simp [upto_len, hi]), List.getElem?_map]
      have : (upto s)[i]? = some (i : Int) := by simp [upto, List.getElem?_map, List.getElem?_range hi]
      rw [this, Nat.mod_eq_of_lt hi]; rfl
    · have h1 : i / s = (i - s) / s + 1 := by
        rw [Nat.div_eq_sub_div hs (by omega)]
      have h2 : (i - s) % s = i % s := (Nat.mod_eq_sub_mod (by omega)).symm
      rw [h1] at h
      simp at h
      have := ih d (i - s) x h
      rw [List.getElem?_append_right (by simp [upto_len]; omega)]
      simp only [List.length_map, upto_len]
      rw [this, h2]
/-- The place of a number: the rest of its digits laid into a place. -/
def dgr (ds : Dims) (V : List Int) : Nat → Nat → Nd → Nd
  | 0, _, x => x
  | q + 1, m, x => dgr ds V q (m / sz ds V q) (pt x ((m % sz ds V q : Nat) : Int) q)
theorem dgr_out (ds : Dims) (V : List Int) : ∀ (q m : Nat) (x : Nd) {j : Nat}, j < 4 → q ≤ j → nf (dgr ds V q m x) j = nf x j
  | 0, _, _, _, _, _ => rfl
  | q + 1, m, x, j, hj, h => by
    rw [dgr, dgr_out ds V q _ _ hj (by omega), nf_pt _ _ _ hj, if_neg (by omega)]
theorem dgr_in (ds : Dims) (V : List Int) : ∀ (q m : Nat) (x y : Nd) {j : Nat}, j < 4 → j < q → nf (dgr ds V q m x) j = nf (dgr ds V q m y) j
  | 0, _, _, _, _, _, h => by omega
  | q + 1, m, x, y, j, hj, h => by
    rw [dgr, dgr]
    by_cases e : j = q
    · subst e
      rw [dgr_out ds V j _ _ hj (Nat.le_refl _), dgr_out ds V j _ _ hj (Nat.le_refl _), nf_pt _ _ _ hj, nf_pt _ _ _ hj, if_pos rfl, if_pos rfl]
    · exact dgr_in ds V q _ _ _ hj (by omega)
theorem nd_ext {x y : Nd} (h : ∀ j, j < 4 → nf x j = nf y j) : x = y := by
  rw [← nd_nf x, ← nd_nf y]; exact nd_same h
theorem dgr_pt (ds : Dims) (V : List Int) (q m : Nat) (d : Int) (x : Nd) : dgr ds V q m (pt x d q) = pt (dgr ds V q m x) d q := by
  refine nd_ext fun j hj => ?_
  rw [nf_pt _ _ _ hj]
  by_cases h : j < q
  · rw [if_neg (by omega)]; exact dgr_in ds V q m _ _ hj h
  · rw [dgr_out ds V q m _ hj (by omega), nf_pt _ _ _ hj, dgr_out ds V q m _ hj (by omega)]
theorem pls_get (ds : Dims) (V : List Int) : ∀ (k i : Nat), i < (pls ds V k).length → (pls ds V k)[i]? = some (dgr ds V k i (0, 0, 0, 0))
  | 0, i, h => by simp [pls] at h; subst h; rfl
  | k + 1, i, h => by
    rw [pls, wid_len, upto_len] at h
    have hs : 0 < sz ds V k := by
      cases e : sz ds V k with
      | zero => rw [e] at h; omega
      | succ s => omega
    have hi : i / sz ds V k < (pls ds V k).length := Nat.div_lt_of_lt_mul (by rw [Nat.mul_comm]; exact h)
    rw [pls, wid_get hs _ _ _ _ (pls_get ds V k _ hi), dgr, dgr_pt]
/-- Each is a place: its numbers are below the levels' members, beyond the dimensions 0. -/
theorem dgr_bd (ds : Dims) (V : List Int) : ∀ (q m : Nat) (x : Nd) {j : Nat}, (∀ l, l < q → 0 < sz ds V l) → j < 4 → j < q → 0 ≤ nf (dgr ds V q m x) j ∧ nf (dgr ds V q m x) j < memC ds j (V.getD j 0)
  | 0, _, _, _, _, _, h => by omega
  | q + 1, m, x, j, hs, hj, h => by
    rw [dgr]
    by_cases e : j = q
    · subst e
      rw [dgr_out ds V j _ _ hj (Nat.le_refl _), nf_pt _ _ _ hj, if_pos rfl, ← sz_int]
      have := Nat.mod_lt m (hs j (by omega))
      omega
    · exact dgr_bd ds V q _ _ (fun l hl => hs l (by omega)) hj (by omega)

/-! The places in a place. -/
theorem uL_ext {ds : Dims} {T A A' F : List Int} {k : Nat} (h : A.getD k 0 = A'.getD k 0) : uL ds T A F k = uL ds T A' F k := by unfold uL; rw [h]
theorem fibs_ext {ds : Dims} {T A A' F : List Int} : ∀ (k : Nat), (∀ j, j < k → A.getD j 0 = A'.getD j 0) → fibs ds T A F k = fibs ds T A' F k
  | 0, _ => rfl
  | k + 1, h => by rw [fibs, fibs, fibs_ext k (fun j hj => h j (by omega)), uL_ext (h k (by omega))]
def lst (x : Nd) : List Int := [x.1, x.2.1, x.2.2.1, x.2.2.2]
theorem lst_nf (x : Nd) (j : Nat) : (lst x).getD j 0 = nf x j := rfl
/-- How many lie in all of them. -/
def tot (ds : Dims) (T F : List Int) (k : Nat) (l : List Nd) : Nat := (l.map (fun x => (fibs ds T (lst x) F k).length)).sum
theorem tot_nil (ds : Dims) (T F : List Int) (k : Nat) : tot ds T F k [] = 0 := rfl
theorem tot_app (ds : Dims) (T F : List Int) (k : Nat) (l m : List Nd) : tot ds T F k (l ++ m) = tot ds T F k l + tot ds T F k m := by simp [tot]
theorem tot_one (ds : Dims) (T F : List Int) (k : Nat) (x : Nd) : tot ds T F k [x] = (fibs ds T (lst x) F k).length := by simp [tot]
theorem sum_under {S : List Int} {U : List (List Int)} {f t : Int} (hg : good S U = true) (h0 : 0 ≤ f) (h1 : f ≤ t) (h2 : t ≤ S.length) : ∀ (m : Nat), (m : Int) ≤ size S U t → (((upto m).map (fun x => (under S U t x f).length)).sum) = lifted S U f t m
  | 0, _ => by rw [show ((0 : Nat) : Int) = 0 from rfl, lifted_0 hg h0 h1 h2]; simp [upto]
  | m + 1, h => by
    have h3 : (m : Int) < size S U t := by omega
    rw [upto_succ, List.map_append, List.sum_append, sum_under hg h0 h1 h2 m (by omega)]
    have := lifted_step (S := S) (U := U) (t := t) (m := (m : Int)) (f := f) (by omega) h3
    rw [show ((m + 1 : Nat) : Int) = (m : Int) + 1 by omega, this]
    simp
theorem uL_sum {ds : Dims} {M t0 t1 t2 t3 f0 f1 f2 f3 : Int} (hg : goodC ds M = true) (hn : nodeC ds M t0 t1 t2 t3 = true) (hb : bel f0 f1 f2 f3 t0 t1 t2 t3 = true) (hF : ∀ x ∈ [f0, f1, f2, f3], U8 x) (hT : ∀ x ∈ [t0, t1, t2, t3], U8 x) {k : Nat} (hk : k < ds.length) (hk4 : k < 4) :
    (((upto (sz ds [t0, t1, t2, t3] k)).map (fun m => (under (ds.getD k ([], [])).1 (ds.getD k ([], [])).2 ([t0, t1, t2, t3].getD k 0) m ([f0, f1, f2, f3].getD k 0)).length)).sum) = sz ds [f0, f1, f2, f3] k := by
  obtain ⟨S, U, hSU⟩ : ∃ S U, ds.getD k ([], []) = (S, U) := ⟨_, _, rfl⟩
  have hgd := dims_good hg hk hSU
  have htp := bel_at (node_bel_top hn) hk4
  rw [tp_4 hk4, tp_good hg, whl_at hk hSU] at htp
  have h1 := sz_int ds [t0, t1, t2, t3] k
  have h2 := sz_int ds [f0, f1, f2, f3] k
  rw [memC_at hk hSU] at h1 h2
  rw [hSU]
  have h3 := sum_under hgd (u8_at hF k).1 (bel_at hb hk4) htp (sz ds [t0, t1, t2, t3] k) (by rw [h1]; exact Int.le_refl _)
  have h4 := lifted_all hgd (u8_at hF k).1 (bel_at hb hk4) htp
  rw [h3]
  rw [← h1] at h4
  rw [← h2] at h4
  omega
theorem nd_lst {x y : Nd} {k : Nat} (h : ∀ j, j < k → nf x j = nf y j) : ∀ j, j < k → (lst x).getD j 0 = (lst y).getD j 0 := h
theorem sum_mul (c : Nat) : ∀ (l : List Int) (g : Int → Nat), (l.map (fun m => c * g m)).sum = c * (l.map g).sum
  | [], _ => by simp
  | x :: r, g => by simp only [List.map_cons, List.sum_cons, sum_mul c r g, Nat.mul_add]
theorem tot_wid {ds : Dims} {M t0 t1 t2 t3 f0 f1 f2 f3 : Int} (hg : goodC ds M = true) (hn : nodeC ds M t0 t1 t2 t3 = true) (hb : bel f0 f1 f2 f3 t0 t1 t2 t3 = true) (hF : ∀ x ∈ [f0, f1, f2, f3], U8 x) (hT : ∀ x ∈ [t0, t1, t2, t3], U8 x) {k : Nat} (hk : k < ds.length) (hk4 : k < 4) :
    ∀ l : List Nd, tot ds [t0, t1, t2, t3] [f0, f1, f2, f3] (k + 1) (wid l k (upto (sz ds [t0, t1, t2, t3] k))) = tot ds [t0, t1, t2, t3] [f0, f1, f2, f3] k l * sz ds [f0, f1, f2, f3] k := by
  intro l
  induction l with
  | nil => simp [wid, tot]
  | cons x r ih =>
    have e : wid (x :: r) k (upto (sz ds [t0, t1, t2, t3] k)) = (upto (sz ds [t0, t1, t2, t3] k)).map (fun m => pt x m k) ++ wid r k (upto (sz ds [t0, t1, t2, t3] k)) := by simp [wid]
    have e2 : x :: r = [x] ++ r := rfl
    rw [e, tot_app, ih, e2, tot_app, Nat.add_mul, tot_one]
    congr 1
    unfold tot
    rw [List.map_map]
    have h1 : ∀ m : Int, ((fun y => (fibs ds [t0, t1, t2, t3] (lst y) [f0, f1, f2, f3] (k + 1)).length) ∘ fun m => pt x m k) m = (fibs ds [t0, t1, t2, t3] (lst x) [f0, f1, f2, f3] k).length * (under (ds.getD k ([], [])).1 (ds.getD k ([], [])).2 ([t0, t1, t2, t3].getD k 0) m ([f0, f1, f2, f3].getD k 0)).length := by
      intro m
      show (fibs ds [t0, t1, t2, t3] (lst (pt x m k)) [f0, f1, f2, f3] (k + 1)).length = _
      rw [fibs_len, fibs_ext k (A' := lst x) (nd_lst fun j hj => by rw [nf_pt _ _ _ (by omega), if_neg (by omega)])]
      congr 1
      unfold uL
      rw [lst_nf, nf_pt _ _ _ hk4, if_pos rfl]
    rw [show ((fun y => (fibs ds [t0, t1, t2, t3] (lst y) [f0, f1, f2, f3] (k + 1)).length) ∘ fun m => pt x m k) = fun m => (fibs ds [t0, t1, t2, t3] (lst x) [f0, f1, f2, f3] k).length * (under (ds.getD k ([], [])).1 (ds.getD k ([], [])).2 ([t0, t1, t2, t3].getD k 0) m ([f0, f1, f2, f3].getD k 0)).length from funext h1]
    rw [sum_mul, uL_sum hg hn hb hF hT hk hk4]
/-- All that lie in all places are as many as there are. -/
theorem tot_all {ds : Dims} {M t0 t1 t2 t3 f0 f1 f2 f3 : Int} (hg : goodC ds M = true) (hn : nodeC ds M t0 t1 t2 t3 = true) (hb : bel f0 f1 f2 f3 t0 t1 t2 t3 = true) (hF : ∀ x ∈ [f0, f1, f2, f3], U8 x) (hT : ∀ x ∈ [t0, t1, t2, t3], U8 x) (hd4 : ds.length ≤ 4) :
    ∀ k, k ≤ ds.length → (tot ds [t0, t1, t2, t3] [f0, f1, f2, f3] k (pls ds [t0, t1, t2, t3] k) : Int) = costP ds [f0, f1, f2, f3] k
  | 0, _ => by simp [tot, pls, fibs, costP]
  | k + 1, h => by
    rw [pls, tot_wid hg hn hb hF hT (by omega) (by omega), costP, ← tot_all hg hn hb hF hT hd4 k (by omega), ← sz_int, Int.natCast_mul]

/-! In order. -/
def kv (x : Nd) : Int := ((x.1 * 256 + x.2.1) * 256 + x.2.2.1) * 256 + x.2.2.2
theorem mem_fibs {ds : Dims} {T A F : List Int} : ∀ (k : Nat) {y : Nd}, k ≤ 4 → y ∈ fibs ds T A F k → ∀ j, j < 4 → (j < k → nf y j ∈ uL ds T A F j) ∧ (k ≤ j → nf y j = 0)
  | 0, y, _, h, j, hj => by
    simp [fibs] at h; subst h
    refine ⟨fun h => by omega, fun _ => ?_⟩
    have : j = 0 ∨ j = 1 ∨ j = 2 ∨ j = 3 := by omega
    rcases this with rfl | rfl | rfl | rfl <;> rfl
  | k + 1, y, hk, h, j, hj => by
    rw [fibs, mem_wid] at h
    obtain ⟨x, hx, m, hm, rfl⟩ := h
    have ih := mem_fibs k (by omega) hx j hj
    rw [nf_pt _ _ _ hj]
    by_cases e : j = k
    · subst e; rw [if_pos rfl]; exact ⟨fun _ => hm, fun h => by omega⟩
    · rw [if_neg e]; exact ⟨fun h => ih.1 (by omega), fun h => ih.2 (by omega)⟩
theorem fibs_rise (ds : Dims) (T A F : List Int) : ∀ (k : Nat), k ≤ 4 → (fibs ds T A F k).Pairwise (fun a b => kv a < kv b)
  | 0, _ => by simp [fibs]
  | k + 1, hk => by
    have ih := fibs_rise ds T A F k (by omega)
    have hz : ∀ x ∈ fibs ds T A F k, ∀ j, j < 4 → k ≤ j → nf x j = 0 := fun x hx j hj h => (mem_fibs k (by omega) hx j hj).2 h
    have hs : (uL ds T A F k).Pairwise (fun a b : Int => a < b) := under_sorted _ _ _ _ _
    have hb : ∀ m ∈ uL ds T A F k, 0 ≤ m ∧ m ≤ 39 := fun m hm => uL_bd hm
    have key : ∀ x x' : Nd, (∀ j, j < 4 → k ≤ j → nf x j = 0) → (∀ j, j < 4 → k ≤ j → nf x' j = 0) → ∀ m m' : Int, 0 ≤ m → m ≤ 39 → 0 ≤ m' → m' ≤ 39 → (kv x < kv x' → kv (pt x m k) < kv (pt x' m' k)) ∧ (x = x' → m < m' → kv (pt x m k) < kv (pt x' m' k)) := by
      intro x x' h1 h2 m m' a1 a2 a3 a4
      obtain ⟨x0, x1, x2, x3⟩ := x
      obtain ⟨y0, y1, y2, y3⟩ := x'
      have b0 := h1 0 (by omega)
      have b1 := h1 1 (by omega)
      have b2 := h1 2 (by omega)
      have b3 := h1 3 (by omega)
      have c0 := h2 0 (by omega)
      have c1 := h2 1 (by omega)
      have c2 := h2 2 (by omega)
      have c3 := h2 3 (by omega)
      simp [nf] at b0 b1 b2 b3 c0 c1 c2 c3
      have : k = 0 ∨ k = 1 ∨ k = 2 ∨ k = 3 := by omega
      rcases this with rfl | rfl | rfl | rfl <;> simp [kv, pt, nd, nf] at * <;> omega
    rw [fibs]
    unfold wid
    rw [List.pairwise_flatMap]
    refine ⟨fun x hx => ?_, ?_⟩
    · rw [List.pairwise_map]
      refine hs.imp_of_mem ?_
      intro m m' hm hm' hlt
      exact (key x x (hz x hx) (hz x hx) m m' (hb m hm).1 (hb m hm).2 (hb m' hm').1 (hb m' hm').2).2 rfl hlt
    · refine ih.imp_of_mem ?_
      intro x x' hx hx' hlt y hy y' hy'
      obtain ⟨m, hm, rfl⟩ := List.mem_map.mp hy
      obtain ⟨m', hm', rfl⟩ := List.mem_map.mp hy'
      exact (key x x' (hz x hx) (hz x' hx') m m' (hb m hm).1 (hb m hm).2 (hb m' hm').1 (hb m' hm').2).1 hlt

end Go.Proofs.Ytfgphphaopcolaa

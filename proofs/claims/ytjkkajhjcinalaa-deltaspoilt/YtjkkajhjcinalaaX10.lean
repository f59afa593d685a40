/-
  What two bags come to, one less the other, as the document has it.
  Conditions: as each theorem states them.
-/
import Derived.Test.YtjkkajhjcinalaaBT
import Derived.Test.YtjkkajhjcinalaaC10
namespace Go.Proofs.Ytjkkajhjcinalaa.calc
open Go.ChangeShapes Go.WideShapes Go.ChangeAt Go.RowKit
set_option linter.unusedVariables false
set_option linter.unusedSimpArgs false
set_option maxRecDepth 100000
set_option maxHeartbeats 400000 in
theorem rminus_any (x : Int) (w : World) :
    Calls Try.prog 111 #[.agg #[.bool (ng x), .int .u64 (hi (sz x)), .int .u64 (lo (sz x))]] w fun e w' => e = .returned (.agg #[.bool (ng (-x)), .int .u64 (hi (sz (-x))), .int .u64 (lo (sz (-x)))]) ∧ Below w.heap.size w w' := by
  rw [sz_minus]
  by_cases hx : x = 0
  · have e : ng (-x) = ng x := by rw [hx]; rfl
    have e1 : (hi (sz x) == 0) = true := by rw [hx]; rfl
    have e2 : (lo (sz x) == 0) = true := by rw [hx]; rfl
    rw [e]
    clear hx e
    go_enter Try.func111, Try.ntmps111
    go_wp2
    exact bodyPost_ret (v := .agg #[.bool (ng x), .int .u64 (hi (sz x)), .int .u64 (lo (sz x))]) (by simp [results, Try.results111, go_sem]) rfl ⟨rfl, ((Below.refl _ _).alloc (Nat.le_refl _) _).alloc (by simp) _⟩
  · rw [ng_minus1 hx]
    by_cases h1 : hi (sz x) = 0
    · have h2 : (lo (sz x) == 0) = false := by
        simp only [beq_eq_false_iff_ne, ne_eq]; exact fun h => hx (sz_zero h1 h)
      have h3 : (hi (sz x) == 0) = true := by simp [h1]
      clear h1 hx
      go_enter Try.func111, Try.ntmps111
      go_wp2
      exact bodyPost_ret (v := .agg #[.bool (!ng x), .int .u64 (hi (sz x)), .int .u64 (lo (sz x))]) (by simp [results, Try.results111, go_sem]) rfl ⟨rfl, ((Below.refl _ _).alloc (Nat.le_refl _) _).alloc (by simp) _⟩
    · have h3 : (hi (sz x) == 0) = false := by simp [h1]
      clear h1 hx
      go_enter Try.func111, Try.ntmps111
      go_wp2
      exact bodyPost_ret (v := .agg #[.bool (!ng x), .int .u64 (hi (sz x)), .int .u64 (lo (sz x))]) (by simp [results, Try.results111, go_sem]) rfl ⟨rfl, ((Below.refl _ _).alloc (Nat.le_refl _) _).alloc (by simp) _⟩
end Go.Proofs.Ytjkkajhjcinalaa.calc
namespace Go.Proofs.Ytjkkajhjcinalaa
open Go.ChangeShapes Go.WideShapes Go.ChangeAt Go.RowKit
set_option linter.unusedVariables false
set_option linter.unusedSimpArgs false
set_option maxRecDepth 100000

abbrev wvC (x : Int) : Array Value := #[.bool (calc.ng x), .int .u64 (calc.hi (calc.sz x)), .int .u64 (calc.lo (calc.sz x))]
theorem wvC_one (x : Int) : ∀ v ∈ (wvC x).toList, v.oneCell' = true := by
  intro v hv
  simp at hv
  rcases hv with rfl | rfl | rfl <;> rfl
theorem size_wv : (Try.prog.info? 121).map (·.size) = some 3 := by kernel_rfl
theorem wsum_sz {l : List Rn} (hb : Bag l) (hk : ∀ r ∈ l, nok r) : calc.sz (wsum l) ≤ 10141204801825835211973625643008 ∧ calc.sz (-wsum l) ≤ 10141204801825835211973625643008 := by
  have h := wsum_bd (fun r hr => (hk r hr).1) hb.2.1
  have := hb.2.2
  have := tot_nn hb.2.1
  unfold calc.sz
  constructor <;> split <;> omega
set_option maxHeartbeats 8000000 in
theorem rwide_m (a1 a2 : Option Addr) (n c m d : Nat) (l u : List Rn) (X : Int) (w : World) (hl : NRun w a1 n c l) (hu : NRun w a2 m d u) (hk : ∀ r ∈ l, nok r) (hk' : ∀ r ∈ u, nok r) (bl : Bag l) (bu : Bag u) (hX : Hid (wsum l - wsum u = X)) :
    Calls Try.prog 82 #[.slice a1 n c, .slice a2 m d] w fun e w' => e = .returned (.agg (wvC X)) ∧ Below w.heap.size w w' := by
  have HL := hid hl
  have HU := hid hu
  have KL := hid hk
  have KU := hid hk'
  have BL := hid bl
  have BU := hid bu
  have tkA : True := trivial
  obtain ⟨P, hP⟩ : ∃ y, wsum l = y := ⟨_, rfl⟩
  obtain ⟨Q, hQ⟩ : ∃ y, wsum u = y := ⟨_, rfl⟩
  have s1 := (wsum_sz bl hk).1
  have s2 := (wsum_sz bu hk').2
  rw [hP] at s1
  rw [hQ] at s2
  have hPQ : P + -Q = X := by rw [← hX.out, hP, hQ]; omega
  have WL : Hid (∀ W, NRun W a1 n c l → Calls Try.prog 61 #[.slice a1 n c] W fun e w' => e = .returned (.agg #[.bool (calc.ng P), .int .u64 (calc.hi (calc.sz P)), .int .u64 (calc.lo (calc.sz P))]) ∧ Below W.heap.size W w') := hid (fun W h => by have := wide_good a1 n c l W h KL.out BL.out; rw [hP] at this; exact this)
  have WU : Hid (∀ W, NRun W a2 m d u → Calls Try.prog 61 #[.slice a2 m d] W fun e w' => e = .returned (.agg #[.bool (calc.ng Q), .int .u64 (calc.hi (calc.sz Q)), .int .u64 (calc.lo (calc.sz Q))]) ∧ Below W.heap.size W w') := hid (fun W h => by have := wide_good a2 m d u W h KU.out BU.out; rw [hQ] at this; exact this)
  have PL : Hid (∀ W, Calls Try.prog 98 #[.agg #[.bool (calc.ng P), .int .u64 (calc.hi (calc.sz P)), .int .u64 (calc.lo (calc.sz P))], .agg #[.bool (calc.ng (-Q)), .int .u64 (calc.hi (calc.sz (-Q))), .int .u64 (calc.lo (calc.sz (-Q)))]] W fun e w' => e = .returned (.agg (wvC X)) ∧ Below W.heap.size W w') := hid (fun W => by have := calc.rplus_any P (-Q) W (by omega) (by omega); rw [hPQ] at this; exact this)
  have KR := hid (kp_new w (.cells #[.bool false, .int .u64 0, .int .u64 0] 121))
  clear hl hu hk hk' bl bu hP hQ s1 s2 hPQ
  go_enter Try.func82, Try.ntmps82
  go_upto_region 1 with fail
  generalize w.alloc (.cells #[.bool false, .int .u64 0, .int .u64 0] 121) = W0 at KR ⊢
  go_wp2_with (first
    | (go_at_call 61; clear tkA; refine (WL.out _ (HL.out.below KR.out.1)).mono ?_; rintro e w1 ⟨rfl, hb⟩; replace KR := hid (KR.out.step hb); clear hb)
    | (go_at_call 61; refine (WU.out _ (HU.out.below KR.out.1)).mono ?_; rintro e w2 ⟨rfl, hb⟩; replace KR := hid (KR.out.step hb); clear hb)
    | (go_at_call 111; refine (calc.rminus_any Q _).mono ?_; rintro e w3 ⟨rfl, hb⟩; replace KR := hid (KR.out.step hb); clear hb)
    | (go_at_call 98; refine (PL.out _).mono ?_; rintro e w4 ⟨rfl, hb⟩; replace KR := hid (KR.out.step hb); clear hb)
    | (refine wpList_store_whole rfl 121 (.tmp 4) (.tmp 10) rfl w.heap.size (wvC X) rfl rfl 121 _ KR.out.2.2 rfl (by show _ = some 3; exact size_wv) (wvC_one _) ?_; intro w9 hp9 hg9; have KR9 := hid (kp_at KR.out hg9 hp9); clear hp9 hg9))
  (try simp only [Exit.inBlock, Exit.then])
  show bodyPost Try.prog Try.f82 _ _ _ _
  refine bodyPost_ret (results_cell_row (p := 4) rfl _ _ w.heap.size _ (wvC X) (0, 0) _ rfl KR9.out.2.2 Try.underlying121 rfl (by kernel_rfl)) rfl ?_
  exact ⟨rfl, KR9.out.1⟩

end Go.Proofs.Ytjkkajhjcinalaa

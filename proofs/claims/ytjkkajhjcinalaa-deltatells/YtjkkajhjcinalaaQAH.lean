/-
  -
  Conditions: as each theorem states them.
-/
import Derived.Test.YtjkkajhjcinalaaQAC
import Derived.Test.YtjkkajhjcinalaaQAF
namespace Go.Proofs.Ytjkkajhjcinalaa
open Go.ChangeShapes Go.WideShapes Go.ChangeAt Go.RowKit
set_option linter.unusedVariables false
set_option linter.unusedSimpArgs false
set_option maxRecDepth 100000

theorem dadd_m (a b S : Int) (f : Bool) (w : World) (ha : I64 a) (hb : I64 b) (hS : Hid (calc.fitV (a + b) = S)) (hf : Hid (calc.fitB (a + b) = f)) :
    Calls Try.prog 65 #[.int .i64 a, .int .i64 b] w fun e w' => e = .returned (.tuple #[.int .i64 S, .bool f]) ∧ Below w.heap.size w w' := by
  refine (calc.add_any a b w ha hb).mono ?_
  rintro e w' ⟨rfl, rfl⟩
  exact ⟨by rw [hS.out, hf.out], Below.refl _ _⟩

theorem NRun.offd {w w' : World} {a : Option Addr} {n c J : Nat} {l : List Rn} (h : NRun w a n c l) (hg : w.grownBy w' (some J)) (hJ : ∀ j x y, w.cell? ⟨J, j, none⟩ = some (.int .i64 x) → w.cell? ⟨J, j + 1, none⟩ = some (.int .i64 y) → y = 0) (hp : Pos l) : NRun w' a n c l := by
  by_cases h0 : n = 0
  · obtain ⟨h1, h2, h3, h4, h5⟩ := h
    exact ⟨h1, h2, h3, h4, fun g => by omega⟩
  · refine h.grown hg (fun b off e => ?_)
    obtain ⟨b', off', x0, x1, e', hlt, hr, c0, c1⟩ := h.pick (Below.refl _ _) (k := 0) (by omega)
    rw [e'] at e
    cases e
    intro hb
    subst hb
    have := hJ _ _ _ c0 c1
    have := hp _ (List.mem_of_getElem? hr)
    simp only at this
    omega
theorem jnl_okd {a b : List Rn} (ha : Bag a) (hb : Bag b) (ht : tot a + tot b ≤ 1099511627776) (ka : ∀ r ∈ a, nok r) (kb : ∀ r ∈ b, nok r) : ∀ r ∈ jnl a b, nok r := by
  intro r hr
  have h := jnl_bd ha.1 ha.2.1 hb.2.1 ht r hr
  refine ⟨?_, by unfold I64; omega⟩
  rcases jnl_mem hr with ⟨q, hq, e⟩ | ⟨q, hq, e⟩
  · rw [← e]; exact (ka q hq).1
  · rw [← e]; exact (kb q hq).1

theorem nok_nild : ∀ r ∈ ([] : List Rn), nok r := fun r hr => by cases hr
theorem okc_0d : okc cl0 := ⟨calc.i64_0, calc.i64_0, calc.i64_0, nok_nild, nok_nild⟩
end Go.Proofs.Ytjkkajhjcinalaa

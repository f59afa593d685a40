/-
  The law's own helpers: is a bag's sum told as it is, are its ends told; the chapter's examples.
  Conditions: as each theorem states them.
-/
import Derived.Test.YtjkkajhjcinalaaBT
import Derived.Test.YtjkkajhjcinalaaBE
import Derived.Test.YtjkkajhjcinalaaBO
import Derived.Test.YtjkkajhjcinalaaBP
import Derived.Test.YtjkkajhjcinalaaBH
import Derived.Test.YtjkkajhjcinalaaBI
namespace Go.Proofs.Ytjkkajhjcinalaa
open Go.ChangeShapes Go.WideShapes Go.ChangeAt Go.RowKit
set_option linter.unusedVariables false
set_option linter.unusedSimpArgs false
set_option maxRecDepth 100000

theorem of_m (a : Option Addr) (n c k : Nat) (l : List Int) (M : List Rn) (w : World) (hl : IRow .i64 w a n c l) (hn : n ≤ 1000) (hM : Hid (bagOf l = M)) (hk : Hid (M.length = k)) :
    Calls Try.prog 56 #[.slice a n c] w fun e w' => (∃ A cap, e = .returned (.slice A k cap) ∧ NRun w' A k cap M) ∧ Below w.heap.size w w' := by
  have := of_any a n c l w hl hn
  rw [hM.out, hk.out] at this
  exact this
theorem join_m (a1 a2 : Option Addr) (n c m d k : Nat) (l u M : List Rn) (v : Bool) (w : World) (hl : NRun w a1 n c l) (hu : NRun w a2 m d u) (hk : ∀ r ∈ l, nok r) (hk' : ∀ r ∈ u, nok r) (hn : n ≤ 1000) (hm : m ≤ 1000) (hM : Hid (Jl l u = M)) (hv : Hid (Jn l u = v)) (hl2 : Hid (M.length = k)) :
    Calls Try.prog 66 #[.slice a1 n c, .slice a2 m d] w fun e w' => (∃ A cap, e = .returned (.tuple #[.slice A k cap, .bool v]) ∧ NRun w' A k cap M) ∧ Below w.heap.size w w' := by
  have := join_any a1 a2 n c m d l u w hl hu hk hk' hn hm
  rw [hM.out, hv.out, hl2.out] at this
  exact this
theorem minus_m (a1 a2 : Option Addr) (n c m d k : Nat) (l u M : List Rn) (v : Bool) (w : World) (hl : NRun w a1 n c l) (hu : NRun w a2 m d u) (hk : ∀ r ∈ l, nok r) (hk' : ∀ r ∈ u, nok r) (hn : n ≤ 1000) (hm : m ≤ 1000) (hM : Hid (Ml l u = M)) (hv : Hid (Mn l u = v)) (hl2 : Hid (M.length = k)) :
    Calls Try.prog 91 #[.slice a1 n c, .slice a2 m d] w fun e w' => (∃ A cap, e = .returned (.tuple #[.slice A k cap, .bool v]) ∧ NRun w' A k cap M) ∧ Below w.heap.size w w' := by
  have := minus_any a1 a2 n c m d l u w hl hu hk hk' hn hm
  rw [hM.out, hv.out, hl2.out] at this
  exact this
theorem rjoin_m (a1 a2 : Option Addr) (n c m d k : Nat) (l u M : List Rn) (v : Bool) (w : World) (hl : NRun w a1 n c l) (hu : NRun w a2 m d u) (hk : ∀ r ∈ l, nok r) (hk' : ∀ r ∈ u, nok r) (hn : n ≤ 1000) (hm : m ≤ 1000) (hM : Hid (Jl l u = M)) (hv : Hid (Jn l u = v)) (hl2 : Hid (M.length = k)) :
    Calls Try.prog 67 #[.slice a1 n c, .slice a2 m d] w fun e w' => (∃ A cap, e = .returned (.agg #[.slice A k cap, .bool v]) ∧ NRun w' A k cap M) ∧ Below w.heap.size w w' := by
  have := rjoin_any a1 a2 n c m d l u w hl hu hk hk' hn hm
  rw [hM.out, hv.out, hl2.out] at this
  exact this
theorem bsum_m (a : Option Addr) (n c : Nat) (l : List Rn) (S : Int) (f : Bool) (w : World) (hl : NRun w a n c l) (hk : ∀ r ∈ l, nok r) (hS : Hid (sv l = S)) (hf : Hid (sb l = f)) :
    Calls Try.prog 97 #[.slice a n c] w fun e w' => e = .returned (.tuple #[.int .i64 S, .bool f]) ∧ Below w.heap.size w w' := by
  have := bsum_any a n c l w hl hk
  rw [hS.out, hf.out] at this
  exact this
theorem least_m (a : Option Addr) (n c : Nat) (l : List Rn) (S : Int) (f : Bool) (w : World) (hl : NRun w a n c l) (hk : ∀ r ∈ l, nok r) (hS : Hid (lst l = S)) (hf : Hid (hasE l = f)) :
    Calls Try.prog 63 #[.slice a n c] w fun e w' => e = .returned (.tuple #[.int .i64 S, .bool f]) ∧ Below w.heap.size w w' := by
  have := least_any a n c l w hl hk
  rw [hS.out, hf.out] at this
  exact this
theorem greatest_m (a : Option Addr) (n c : Nat) (l : List Rn) (S : Int) (f : Bool) (w : World) (hl : NRun w a n c l) (hk : ∀ r ∈ l, nok r) (hS : Hid (gst l = S)) (hf : Hid (hasE l = f)) :
    Calls Try.prog 64 #[.slice a n c] w fun e w' => e = .returned (.tuple #[.int .i64 S, .bool f]) ∧ Below w.heap.size w w' := by
  have := greatest_any a n c l w hl hk
  rw [hS.out, hf.out] at this
  exact this

end Go.Proofs.Ytjkkajhjcinalaa

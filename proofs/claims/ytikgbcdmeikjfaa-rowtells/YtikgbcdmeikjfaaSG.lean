/-
  Which catalogs are small enough to be gone through: what LightDim and LightCat return.
  Conditions: as each theorem states them.
-/
import Derived.Test.YtikgbcdmeikjfaaSA
namespace Go.Proofs.Ytikgbcdmeikjfaa
open Go.ChangeShapes Go.WideShapes Go.ChangeAt Go.RowKit
set_option linter.unusedVariables false
set_option linter.unusedSimpArgs false
set_option maxRecDepth 100000

/-- A truth value that says, where it is true, that p. -/
def Tells (e : Ending) (p : Prop) : Prop := ∃ v : Bool, e = .returned (.bool v) ∧ (v = true → p)
theorem tells_no {p : Prop} : Tells (.returned (.bool false)) p := ⟨false, rfl, fun h => by cases h⟩
theorem tells_yes {p : Prop} (h : p) : Tells (.returned (.bool true)) p := ⟨true, rfl, fun _ => h⟩
def lightD (d : List Int × List (List Int)) : Prop := d.1.length ≤ 10 ∧ d.2.length ≤ 10
set_option maxHeartbeats 1000000 in
theorem light_any (sa : Option Addr) (sl sc : Nat) (ua : Option Addr) (ul uc : Nat) (S : List Int) (U : List (List Int)) (w : World) (hd : Dim w sa sl sc ua ul uc S U) :
    Calls Try.prog 26 #[.agg #[.slice sa sl sc, .slice ua ul uc]] w fun e w' => Tells e (lightD (S, U)) ∧ Below w.heap.size w w' := by
  obtain ⟨e1, e2, e3, e4⟩ := hd.lens
  have E1 : Hid (sl = S.length) := e1
  have E2 : Hid (ul = U.length) := e2
  have HD : Hid (Dim w sa sl sc ua ul uc S U) := hd
  have bel := (box_new w (.slice sa sl sc) (.slice ua ul uc) 63).1
  clear e1 e2 hd
  by_cases h1 : (10 : Int) < (sl : Int)
  · go_enter Try.func26, Try.ntmps26
    go_wp2
    go_ret
    exact ⟨tells_no, bel⟩
  by_cases h2 : (10 : Int) < (ul : Int)
  · go_enter Try.func26, Try.ntmps26
    go_wp2
    go_ret
    exact ⟨tells_no, bel⟩
  have HT : Hid (lightD (S, U)) := by
    show S.length ≤ 10 ∧ U.length ≤ 10
    rw [← E1.out, ← E2.out]; omega
  go_enter Try.func26, Try.ntmps26
  go_wp2
  go_loop [3] (fun i => ∃ k : Nat, k ≤ ul ∧ i = .int .i64 k) (fun i => ul - (intOf i).toNat)
  case atStart => exact ⟨0, Nat.zero_le _, rfl⟩
  case round =>
    obtain ⟨k, hk, rfl⟩ := hrel
    by_cases hlt : k < ul
    · obtain ⟨b, off, rfl, hb, ra, rl, rc, hcu, hru, hlu⟩ := (HD.out.below bel).up_cell hlt
      have r2 := hru.lens.2
      clear hru hlu
      by_cases h3 : (60 : Int) < (rl : Int)
      · go_wp2
        go_ret
        exact ⟨tells_no, bel⟩
      · go_wp2
        go_round
        case rel => exact ⟨k + 1, by omega, by go_num⟩
        case measure => simp [intOf]; omega
    · obtain rfl : k = ul := by omega
      go_wp2
      go_ret
      exact ⟨tells_yes HT.out, bel⟩

def lightC (ds : Dims) : Prop := ds.length ≤ 8 ∧ ∀ d ∈ ds, lightD d
theorem lightC_of {ds : Dims} (h : ds.length ≤ 8) (ha : ∀ j, j < ds.length → lightD (ds.getD j ([], []))) : lightC ds := by
  refine ⟨h, fun d hd => ?_⟩
  obtain ⟨j, hj, rfl⟩ := List.getElem_of_mem hd
  have := ha j hj
  simpa [List.getD_eq_getElem?_getD, List.getElem?_eq_getElem hj] using this
set_option maxHeartbeats 1000000 in
theorem lightC_any (a : Option Addr) (n c : Nat) (ds : Dims) (M : Int) (w : World) (hc : Cat w a n c ds) :
    Calls Try.prog 9 #[.agg #[.slice a n c, .int .i64 M]] w fun e w' => Tells e (lightC ds) ∧ Below w.heap.size w w' := by
  obtain ⟨e1, e2⟩ := hc.lens
  have E1 : Hid (n = ds.length) := e1
  have HC : Hid (Cat w a n c ds) := hc
  have BX : Hid (Bx w (w.alloc (.cells #[.slice a n c, .int .i64 M] 24)) (.slice a n c) (.int .i64 M)) := bx_new _ _ _ _
  clear e1 hc
  by_cases h1 : (8 : Int) < (n : Int)
  · go_enter Try.func9, Try.ntmps9
    go_wp2
    go_ret
    exact ⟨tells_no, BX.out.2.1⟩
  go_enter Try.func9, Try.ntmps9
  go_wp2
  go_loopw [3] (fun i wr => ∃ k : Nat, k ≤ n ∧ i = .int .i64 k ∧ Hid (∀ j, j < k → lightD (ds.getD j ([], []))) ∧ Bx w wr (.slice a n c) (.int .i64 M)) (fun i _ => n - (intOf i).toNat)
  case atStart => exact ⟨0, Nat.zero_le _, rfl, hid fun j hj => by omega, BX.out⟩
  case round =>
    obtain ⟨k, hk, rfl, hall, hbx⟩ := hrel
    have HB : Hid (Bx w wr (.slice a n c) (.int .i64 M)) := hbx
    obtain ⟨hsz, bel2, c0, c1⟩ := hbx
    by_cases hlt : k < n
    · have hkn : (k : Int) < (n : Int) := by omega
      obtain ⟨b, off, rfl, hb0, sa, sl, sc, ua, ul, uc, S, U, d1, d2, HDm, HSU⟩ := HC.out.get bel2 hlt
      go_wp2_with (go_at_call 26; refine (light_any _ _ _ _ _ _ S U _ HDm.out).mono ?_; rintro e w1 ⟨⟨v, rfl, hv⟩, hb⟩; have HV : Hid (v = true → lightD (S, U)) := hv; clear hv; cases v)
      · go_ret
        exact ⟨tells_no, bt bel2 hb⟩
      · go_roundw
        case rel =>
          refine ⟨k + 1, by omega, by go_num, hid fun j hj => ?_, HB.out.step hb⟩
          by_cases e : j = k
          · subst e; rw [HSU.out]; exact (by first | exact HV.out rfl | exact HV.out trivial)
          · exact hall.out j (by omega)
        case measure => simp [intOf]; omega
    · obtain rfl : k = n := by omega
      go_wp2
      go_ret
      exact ⟨tells_yes (lightC_of (by rw [← E1.out]; omega) (by rw [← E1.out]; exact hall.out)), bel2⟩

end Go.Proofs.Ytikgbcdmeikjfaa

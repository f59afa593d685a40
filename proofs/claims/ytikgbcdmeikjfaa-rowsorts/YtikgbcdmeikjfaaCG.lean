/-
  What the document's own Get returns: the number at the beginning of some bytes, or none.
  Conditions: as each theorem states them.
-/
import Derived.Test.YtikgbcdmeikjfaaCF
namespace Go.Proofs.Ytikgbcdmeikjfaa.code
open Go.RowKit
set_option linter.unusedVariables false
set_option linter.unusedSimpArgs false
set_option maxRecDepth 100000

theorem horner {U d A L L0 T : Int} (h : U * (128 * A) + L = T) (hL : L = L0 + d * A) : (U * 128 + d) * A + L0 = T := by
  rw [Int.add_mul, Int.mul_assoc, ← h, hL]; omega
theorem horner_le {U d A L0 T : Int} (h : (U * 128 + d) * A + L0 = T) (hU : 0 ≤ U) (hd : 0 ≤ d) (hA : 1 ≤ A) (hL : 0 ≤ L0) : U * 128 + d ≤ T := by
  have : (U * 128 + d) * 1 ≤ (U * 128 + d) * A := Int.mul_le_mul_of_nonneg_left hA (by omega)
  omega
theorem ret2_no {l : List Int} (h : getB l = false) : Ending.returned (.tuple #[.int .u64 0, .int .i64 0]) = .returned (.tuple #[.int .u64 (getV l), .int .i64 (getN l)]) := by
  unfold getV getN; rw [h]; rfl
theorem ret2_yes {l : List Int} {U : Int} {k : Nat} (h : getB l = true) (hk : lead l = k) (hU : U = low l (k + 1)) : Ending.returned (.tuple #[.int .u64 U, .int .i64 ((k : Int) + 1)]) = .returned (.tuple #[.int .u64 (getV l), .int .i64 (getN l)]) := by
  unfold getV getN; rw [h, hk, hU]; rfl
theorem low_bd {l : List Int} {k : Nat} (hk : k ≤ 9) (hl : k < l.length) (h0 : 0 ≤ l.getD k 0) (h9 : k = 9 → l.getD k 0 ≤ 1) : low l (k + 1) ≤ 18446744073709551615 := by
  by_cases h : k = 9
  · have h1 := low_step l k hl
    have h2 := low_lt l k
    have h3 := h9 h
    subst h
    rw [top9] at h1 h2
    omega
  · have h1 := low_lt l (k + 1)
    have h2 := top_le (k + 1) (by omega)
    omega

set_option maxHeartbeats 400000 in
theorem rget_0 (a : Option Addr) (cap : Nat) (w : World) (hc : cap ≤ 9223372036854775807) :
    Calls Try.prog 48 #[.slice a 0 cap] w fun e w' => e = .returned (.tuple #[.int .u64 0, .int .i64 0]) ∧ w' = w := by
  go_enter Try.func48, Try.ntmps48
  go_wp2
  go_loop [4] (fun i => i = .int .i64 0)
    (fun _ => 0)
  case atStart => exact rfl
  case round =>
    obtain rfl := hrel
    go_wp2
    go_ret2
    exact ⟨rfl, rfl⟩

set_option maxHeartbeats 4000000 in
theorem rget_k (b off len cap : Nat) (l : List Int) (w : World) (hl : l.length = len) (hlc : len ≤ cap) (hcm : cap ≤ 9223372036854775807) (hc : Lies w b off l) (hu : ∀ x ∈ l, U8 x) :
    Calls Try.prog 48 #[.slice (some ⟨b, off, none⟩) len cap] w fun e w' => e = .returned (.tuple #[.int .u64 (getV l), .int .i64 (getN l)]) ∧ w' = w := by
  go_enter Try.func48, Try.ntmps48
  go_wp2
  go_loop [4] (fun i => ∃ k : Nat, k ≤ len ∧ i = .int .i64 k ∧ ∀ j, j < k → 127 < l.getD j 0)
    (fun i => len - (intOf i).toNat)
  case atStart => exact ⟨0, Nat.zero_le _, rfl, fun j hj => by omega⟩
  case round =>
    obtain ⟨k, hk, rfl, hlead0⟩ := hrel
    have hlead : Hid (∀ j, j < k → 127 < l.getD j 0) := hlead0
    clear hlead0
    by_cases hlt : k < len
    · have hcx := hc k (by omega)
      obtain ⟨hd1, hd2⟩ := getD_u8 hu k (by omega)
      obtain ⟨d, hd0⟩ : ∃ d, l.getD k 0 = d := ⟨_, rfl⟩
      rw [hd0] at hcx hd1 hd2
      have hd : Hid (l.getD k 0 = d) := hd0
      clear hd0
      by_cases h128 : 127 < d
      · go_wp2
        go_round
        case rel =>
          refine ⟨k + 1, by omega, by go_num, fun j hj => ?_⟩
          by_cases e : j = k
          · subst e; rw [hd.out]; omega
          · exact hlead.out j (by omega)
        case measure => simp [intOf]; omega
      · have HL : Hid (lead l = k) := lead_at l k (by omega) hlead.out (by rw [hd.out]; omega)
        clear hlead
        by_cases hB : getB l = true
        · have hB' := hB
          unfold getB at hB'
          rw [HL.out, hd.out] at hB'
          obtain ⟨g1, g2, g3, g4⟩ := of_decide_eq_true hB'
          have HB : Hid (getB l = true) := hB
          clear hB hB'
          have hT := low_bd (l := l) (k := k) g2 g1 (by rw [hd.out]; omega) (fun h => by rw [hd.out]; omega)
          obtain ⟨T, HT0⟩ : ∃ T, low l (k + 1) = T := ⟨_, rfl⟩
          have HT : Hid (low l (k + 1) = T) := HT0
          rw [HT0] at hT
          clear HT0
          have hcf : Hid (∀ m, m < len → w.cell? ⟨b, off + m, none⟩ = some (.int .u8 (l.getD m 0)) ∧ 0 ≤ l.getD m 0 ∧ l.getD m 0 ≤ 255 ∧ low l (m + 1) = low l m + l.getD m 0 % 128 * top m) :=
            fun m hm => ⟨hc m (by omega), (getD_u8 hu m (by omega)).1, (getD_u8 hu m (by omega)).2, low_step l m (by omega)⟩
          clear hc hu
          by_cases h0 : k = 0
          · subst h0
            clear g3 g4
            have hcx0 : w.cell? ⟨b, off, none⟩ = some (.int .u8 d) := hcx
            go_wp2
            go_loop [5, 6] (fun v i => ∃ (m : Nat) (U : Int), m ≤ 0 + 1 ∧ i = .int .i64 ((m : Int) - 1) ∧ v = .int .u64 U ∧ 0 ≤ U ∧ U * top m + low l m = T)
              (fun _ i => (intOf i + 1).toNat)
            case atStart => exact ⟨0 + 1, 0, Nat.le_refl _, congrArg (Value.int IntKind.i64) (by omega), rfl, by omega, by rw [HT.out]; omega⟩
            case round =>
              obtain ⟨m, U, hm, rfl, rfl, hU, hI⟩ := hrel
              match m, hm, hI with
              | m' + 1, hm, hI =>
                have e1 : (((m' + 1 : Nat) : Int) - 1) = (m' : Int) := by omega
                rw [e1]
                clear e1
                obtain ⟨f1, f2, f3, f4⟩ := hcf.out m' (by omega)
                have hI2 := horner hI f4
                have hle := horner_le hI2 hU (by omega) (top_pos m') (low_nonneg l m')
                obtain ⟨x, hx⟩ : ∃ x, l.getD m' 0 = x := ⟨_, rfl⟩
                rw [hx] at f1 f2 f3 hI2 hle
                have HI2 : Hid ((U * 128 + x % 128) * top m' + low l m' = T) := hI2
                clear hI2 hI f4 hx
                go_wp2
                go_round
                case rel => exact ⟨m', U * 128 + x % 128, by omega, rfl, rfl, by omega, HI2.out⟩
                case measure => simp [intOf]
              | 0, hm, hI =>
                have hUT : U = low l (0 + 1) := by rw [HT.out, ← hI]; simp [top]; cases l <;> simp [low]
                have HU : Hid (U = low l (0 + 1)) := hUT
                clear hUT hI
                go_wp2
                go_ret2
                exact ⟨ret2_yes HB.out HL.out HU.out, rfl⟩
          · by_cases h9 : k = 9
            · subst h9
              have hdn : (d == 0) = false := beq_eq_false_iff_ne.mpr (fun e => g3 ⟨by omega, e⟩)
              have hl9 : ¬ (len : Int) ≤ 9 := by omega
              have hd1' : ¬ 1 < d := fun e => g4 ⟨rfl, e⟩
              clear g3 g4
              go_wp2
              go_loop [5, 6] (fun v i => ∃ (m : Nat) (U : Int), m ≤ 9 + 1 ∧ i = .int .i64 ((m : Int) - 1) ∧ v = .int .u64 U ∧ 0 ≤ U ∧ U * top m + low l m = T)
                (fun _ i => (intOf i + 1).toNat)
              case atStart => exact ⟨9 + 1, 0, Nat.le_refl _, congrArg (Value.int IntKind.i64) (by omega), rfl, by omega, by rw [HT.out]; omega⟩
              case round =>
                obtain ⟨m, U, hm, rfl, rfl, hU, hI⟩ := hrel
                match m, hm, hI with
                | m' + 1, hm, hI =>
                  have e1 : (((m' + 1 : Nat) : Int) - 1) = (m' : Int) := by omega
                  rw [e1]
                  clear e1
                  obtain ⟨f1, f2, f3, f4⟩ := hcf.out m' (by omega)
                  have hI2 := horner hI f4
                  have hle := horner_le hI2 hU (by omega) (top_pos m') (low_nonneg l m')
                  obtain ⟨x, hx⟩ : ∃ x, l.getD m' 0 = x := ⟨_, rfl⟩
                  rw [hx] at f1 f2 f3 hI2 hle
                  have HI2 : Hid ((U * 128 + x % 128) * top m' + low l m' = T) := hI2
                  clear hI2 hI f4 hx
                  go_wp2
                  go_round
                  case rel => exact ⟨m', U * 128 + x % 128, by omega, rfl, rfl, by omega, HI2.out⟩
                  case measure => simp [intOf]
                | 0, hm, hI =>
                  have hUT : U = low l (9 + 1) := by rw [HT.out, ← hI]; simp [top]; cases l <;> simp [low]
                  have HU : Hid (U = low l (9 + 1)) := hUT
                  clear hUT hI
                  go_wp2
                  go_ret2
                  exact ⟨ret2_yes HB.out HL.out HU.out, rfl⟩
            · have hdn : (d == 0) = false := beq_eq_false_iff_ne.mpr (fun e => g3 ⟨by omega, e⟩)
              have hk0 : 0 < k := by omega
              have hlk : ¬ (len : Int) ≤ (k : Int) := by omega
              clear g3 g4
              go_wp2
              go_loop [5, 6] (fun v i => ∃ (m : Nat) (U : Int), m ≤ k + 1 ∧ i = .int .i64 ((m : Int) - 1) ∧ v = .int .u64 U ∧ 0 ≤ U ∧ U * top m + low l m = T)
                (fun _ i => (intOf i + 1).toNat)
              case atStart => exact ⟨k + 1, 0, Nat.le_refl _, congrArg (Value.int IntKind.i64) (by omega), rfl, by omega, by rw [HT.out]; omega⟩
              case round =>
                obtain ⟨m, U, hm, rfl, rfl, hU, hI⟩ := hrel
                match m, hm, hI with
                | m' + 1, hm, hI =>
                  have e1 : (((m' + 1 : Nat) : Int) - 1) = (m' : Int) := by omega
                  rw [e1]
                  clear e1
                  obtain ⟨f1, f2, f3, f4⟩ := hcf.out m' (by omega)
                  have hI2 := horner hI f4
                  have hle := horner_le hI2 hU (by omega) (top_pos m') (low_nonneg l m')
                  obtain ⟨x, hx⟩ : ∃ x, l.getD m' 0 = x := ⟨_, rfl⟩
                  rw [hx] at f1 f2 f3 hI2 hle
                  have HI2 : Hid ((U * 128 + x % 128) * top m' + low l m' = T) := hI2
                  clear hI2 hI f4 hx
                  go_wp2
                  go_round
                  case rel => exact ⟨m', U * 128 + x % 128, by omega, rfl, rfl, by omega, HI2.out⟩
                  case measure => simp [intOf]
                | 0, hm, hI =>
                  have hUT : U = low l (k + 1) := by rw [HT.out, ← hI]; simp [top]; cases l <;> simp [low]
                  have HU : Hid (U = low l (k + 1)) := hUT
                  clear hUT hI
                  go_wp2
                  go_ret2
                  exact ⟨ret2_yes HB.out HL.out HU.out, rfl⟩
        · have HB : Hid (getB l = false) := Bool.eq_false_iff.mpr hB
          have hB' := HB.out
          unfold getB at hB'
          rw [HL.out, hd.out] at hB'
          have hn := of_decide_eq_false hB'
          clear hB hB' hc hu
          by_cases g9 : 9 < k
          · clear hn
            go_wp2
            go_ret2
            exact ⟨ret2_no HB.out, rfl⟩
          · have hk0 : 0 < k := by
              by_cases e : 0 < k
              · exact e
              · exact absurd ⟨by omega, by omega, fun h => e h.1, fun h => by omega⟩ hn
            by_cases hz : d = 0
            · subst hz
              clear hn
              go_wp2
              go_ret2
              exact ⟨ret2_no HB.out, rfl⟩
            · have h9 : k = 9 := by
                by_cases e : k = 9
                · exact e
                · exact absurd ⟨by omega, by omega, fun h => hz h.2, fun h => e h.1⟩ hn
              have h1 : 1 < d := by
                by_cases e : 1 < d
                · exact e
                · exact absurd ⟨by omega, by omega, fun h => hz h.2, fun h => e h.2⟩ hn
              clear hn
              subst h9
              go_wp2
              go_ret2
              exact ⟨ret2_no HB.out, rfl⟩
    · have HB : Hid (getB l = false) := by
        have := lead_ge l k (by omega) hlead.out
        unfold getB
        refine decide_eq_false ?_
        rintro ⟨h, _⟩
        omega
      clear hc hu
      go_wp2
      go_ret2
      exact ⟨ret2_no HB.out, rfl⟩

/-- The document's own Get, of whatever slice of bytes. -/
theorem rget_any (a : Option Addr) (len cap : Nat) (l : List Int) (w : World) (h : Row8 w a len cap l) :
    Calls Try.prog 48 #[.slice a len cap] w fun e w' => e = .returned (.tuple #[.int .u64 (getV l), .int .i64 (getN l)]) ∧ w' = w := by
  obtain ⟨r1, r2, r3, r4, r5, r6⟩ := h
  unfold maxLen at r3
  by_cases h0 : 0 < len
  · obtain ⟨b, off, rfl, hb, hl⟩ := r6 h0
    exact rget_k b off len cap l w r1.symm r2 (by omega) hl r4
  · obtain rfl : len = 0 := by omega
    have hn : l = [] := List.length_eq_zero_iff.mp r1.symm
    subst hn
    exact rget_0 a cap w (by omega)

end Go.Proofs.Ytikgbcdmeikjfaa.code

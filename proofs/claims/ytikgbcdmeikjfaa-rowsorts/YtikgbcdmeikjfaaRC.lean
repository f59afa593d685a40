/-
  Places, measures and rows, held against each other by '=='; what the document's Less returns.
  Conditions: as each theorem states them.
-/
import Derived.Test.YtikgbcdmeikjfaaRB
namespace Go.Proofs.Ytikgbcdmeikjfaa
open Go.ChangeShapes Go.WideShapes Go.ChangeAt Go.RowKit
set_option linter.unusedVariables false
set_option linter.unusedSimpArgs false
set_option maxRecDepth 100000

theorem eqP (a b c d x y z u : Int) (w : World) (n : Nat) : (Op.equalIn (n + 2) 30 (.agg #[.int .u8 a, .int .u8 b, .int .u8 c, .int .u8 d]) (.agg #[.int .u8 x, .int .u8 y, .int .u8 z, .int .u8 u])).run Try.prog w = .ok (a == x && (b == y && (c == z && d == u))) w := by
  have u3 := Try.underlying5
  have a3 := Try.isAgg5
  have z3 := Try.sizeOf5
  rw [show n + 2 = (n + 1) + 1 from rfl, Op.equalIn]
  simp only [Sem.run_bind, run_underlying Try.underlying30, Result.andThen_ok]
  simp only [Std.Legacy.Range.forIn_eq_forIn_range', Std.Legacy.Range.size, Nat.sub_zero, Nat.add_sub_cancel, Nat.div_one, List.range'_succ, List.range'_zero, List.forIn_cons, List.forIn_nil]
  go_simp
  by_cases h1 : a = x <;> by_cases h2 : b = y <;> by_cases h3 : c = z <;> by_cases h4 : d = u <;> simp [h1, h2, h3, h4]
theorem eqM (a b x y : Int) (w : World) (n : Nat) : (Op.equalIn (n + 2) 31 (.agg #[.int .i64 a, .int .i64 b]) (.agg #[.int .i64 x, .int .i64 y])).run Try.prog w = .ok (a == x && b == y) w := by
  have u3 := Try.underlying2
  have a3 := Try.isAgg2
  have z3 := Try.sizeOf2
  rw [show n + 2 = (n + 1) + 1 from rfl, Op.equalIn]
  simp only [Sem.run_bind, run_underlying Try.underlying31, Result.andThen_ok]
  simp only [Std.Legacy.Range.forIn_eq_forIn_range', Std.Legacy.Range.size, Nat.sub_zero, Nat.add_sub_cancel, Nat.div_one, List.range'_succ, List.range'_zero, List.forIn_cons, List.forIn_nil]
  go_simp
  by_cases h1 : a = x <;> by_cases h2 : b = y <;> simp [h1, h2]
theorem eqR (a b c d e f x y z u v t : Int) (w : World) (n : Nat) : (Op.equalIn (n + 3) 33 (.agg #[.int .u8 a, .int .u8 b, .int .u8 c, .int .u8 d, .int .i64 e, .int .i64 f]) (.agg #[.int .u8 x, .int .u8 y, .int .u8 z, .int .u8 u, .int .i64 v, .int .i64 t])).run Try.prog w = .ok ((a == x && (b == y && (c == z && d == u))) && (e == v && f == t)) w := by
  have a3 := Try.isAgg30
  have z3 := Try.sizeOf30
  have a4 := Try.isAgg31
  have z4 := Try.sizeOf31
  have e1 := eqP a b c d x y z u w n
  have e2 := eqM e f v t w n
  rw [show n + 3 = (n + 2) + 1 from rfl, Op.equalIn]
  simp only [Sem.run_bind, run_underlying Try.underlying33, Result.andThen_ok]
  have hs : Try.prog.stoodInHeld 33 = false := by kernel_rfl
  have hp : Sem.run Try.prog program w = .ok Try.prog w := rfl
  simp only [hp, Result.andThen_ok, hs, Bool.false_eq_true, if_false, Sem.run_bind]
  simp only [← Array.forIn_toList, List.forIn_cons, List.forIn_nil]
  go_simp
  by_cases h1 : a = x <;> by_cases h2 : b = y <;> by_cases h3 : c = z <;> by_cases h4 : d = u <;> by_cases h5 : e = v <;> by_cases h6 : f = t <;> simp [h1, h2, h3, h4, h5, h6]

/-- The same under names. -/
def qp (a b c d x y z u : Int) : Bool := a == x && (b == y && (c == z && d == u))
def qm (a b x y : Int) : Bool := a == x && b == y
def qr (r s : Rw) : Bool := match r, s with | (a, b, c, d, e, f), (x, y, z, u, v, t) => (a == x && (b == y && (c == z && d == u))) && (e == v && f == t)
theorem qp_iff {a b c d x y z u : Int} : qp a b c d x y z u = true ↔ a = x ∧ b = y ∧ c = z ∧ d = u := by unfold qp; simp
theorem qm_iff {a b x y : Int} : qm a b x y = true ↔ a = x ∧ b = y := by unfold qm; simp
theorem qr_iff {r s : Rw} : qr r s = true ↔ r = s := by
  obtain ⟨a, b, c, d, e, f⟩ := r
  obtain ⟨x, y, z, u, v, t⟩ := s
  unfold qr
  simp only [Bool.and_eq_true, beq_iff_eq, Prod.mk.injEq]
  constructor
  · rintro ⟨⟨h1, h2, h3, h4⟩, h5, h6⟩; exact ⟨h1, h2, h3, h4, h5, h6⟩
  · rintro ⟨h1, h2, h3, h4, h5, h6⟩; exact ⟨⟨h1, h2, h3, h4⟩, h5, h6⟩
theorem qr_self (r : Rw) : qr r r = true := qr_iff.2 rfl
theorem qr_dec (r s : Rw) : qr r s = decide (r = s) := by
  by_cases h : r = s
  · rw [decide_eq_true h]; exact qr_iff.2 h
  · rw [decide_eq_false h]
    cases e : qr r s with
    | false => rfl
    | true => exact absurd (qr_iff.1 e) h
theorem eqP4 (a b c d x y z u : Int) (w : World) : (Op.equalIn 10000 30 (.agg #[.int .u8 a, .int .u8 b, .int .u8 c, .int .u8 d]) (.agg #[.int .u8 x, .int .u8 y, .int .u8 z, .int .u8 u])).run Try.prog w = .ok (qp a b c d x y z u) w := eqP a b c d x y z u w 9998
theorem eqM2 (a b x y : Int) (w : World) : (Op.equalIn 10000 31 (.agg #[.int .i64 a, .int .i64 b]) (.agg #[.int .i64 x, .int .i64 y])).run Try.prog w = .ok (qm a b x y) w := eqM a b x y w 9998
theorem eqR6 (a b c d e f x y z u v t : Int) (w : World) : (Op.equalIn 10000 33 (.agg #[.int .u8 a, .int .u8 b, .int .u8 c, .int .u8 d, .int .i64 e, .int .i64 f]) (.agg #[.int .u8 x, .int .u8 y, .int .u8 z, .int .u8 u, .int .i64 v, .int .i64 t])).run Try.prog w = .ok (qr (a, b, c, d, e, f) (x, y, z, u, v, t)) w := eqR a b c d e f x y z u v t w 9997

theorem key_inj {a b c d x y z u : Int} (ha : U8 a) (hb : U8 b) (hc : U8 c) (hd : U8 d) (hx : U8 x) (hy : U8 y) (hz : U8 z) (hu : U8 u) (h : code.key a b c d = code.key x y z u) : a = x ∧ b = y ∧ c = z ∧ d = u := by
  unfold code.key at h
  unfold U8 at *
  omega
theorem ci_lt (a b : Int) : ci a b < 0 ↔ a < b := by unfold ci; split <;> (try split) <;> omega
theorem ci_zero (a b : Int) : ci a b = 0 ↔ a = b := by unfold ci; split <;> (try split) <;> omega
/-- Less, said out. -/
theorem rlt_iff {r s : Rw} : rlt r s = true ↔ rky r < rky s ∨ (rky r = rky s ∧ (rm0 r < rm0 s ∨ (rm0 r = rm0 s ∧ rm1 r < rm1 s))) := by
  unfold rlt rcmp
  rw [decide_eq_true_iff]
  by_cases h1 : rky r = rky s
  · rw [if_neg (fun hne => hne ((ci_zero _ _).2 h1))]
    by_cases h2 : rm0 r = rm0 s
    · rw [if_neg (fun hne => hne ((ci_zero _ _).2 h2)), ci_lt]; omega
    · rw [if_pos (by rw [ne_eq, ci_zero]; exact h2), ci_lt]; omega
  · rw [if_pos (by rw [ne_eq, ci_zero]; exact h1), ci_lt]; omega
theorem rlt_dec (r s : Rw) : rlt r s = decide (rky r < rky s ∨ (rky r = rky s ∧ (rm0 r < rm0 s ∨ (rm0 r = rm0 s ∧ rm1 r < rm1 s)))) := by
  have := rlt_iff (r := r) (s := s)
  cases h : rlt r s with
  | true => exact (decide_eq_true (this.1 h)).symm
  | false => exact (decide_eq_false (fun g => by rw [this.2 g] at h; cases h)).symm
theorem rky_inj {r s : Rw} (hr : rok r) (hs : rok s) (h : rky r = rky s) (h0 : rm0 r = rm0 s) (h1 : rm1 r = rm1 s) : r = s := by
  obtain ⟨a, b, c, d, e, f⟩ := r
  obtain ⟨x, y, z, u, v, t⟩ := s
  obtain ⟨⟨q1, q2, q3, q4⟩, _, _⟩ := hr
  obtain ⟨⟨p1, p2, p3, p4⟩, _, _⟩ := hs
  obtain ⟨rfl, rfl, rfl, rfl⟩ := key_inj q1 q2 q3 q4 p1 p2 p3 p4 h
  cases h0; cases h1; rfl
theorem rlt_tri {r s : Rw} (hr : rok r) (hs : rok s) (h1 : rlt r s = false) (h2 : rlt s r = false) : r = s := by
  rw [rlt_dec, decide_eq_false_iff_not] at h1 h2
  exact rky_inj hr hs (by omega) (by omega) (by omega)

end Go.Proofs.Ytikgbcdmeikjfaa

/-
  What hier.Under and Kids return.
  Conditions: as each theorem states them.
-/
import Derived.Test.YtfgphphaopcolaaE
namespace Go.Proofs.Ytfgphphaopcolaa
open Go.ChangeShapes Go.WideShapes Go.ChangeAt Go.RowKit
set_option linter.unusedVariables false
set_option linter.unusedSimpArgs false

theorem info_int : (Try.prog.info? 3).map (fun i => (i.zero, i.size, i.bytes)) = some (some (.int .i64 0), 1, 8) := by kernel_rfl
theorem own_below {B : Nat} {e : TypeId} {k : Nat} {v : Value} {n : Nat} {xs : List Value} {w w' : World} (h : w.ownsRow B e k v n xs) (hb : Below w.heap.size w w') : w'.ownsRow B e k v n xs :=
  h.kept (row := none) ⟨hb.os, hb.tape, hb.output, hb.size, fun j hj _ => hb.block j hj⟩ (by cases hv : v.ownBlock <;> simp)
theorem und_under {S : List Int} {U : List (List Int)} {t m f : Int} (hs : span S U f t = true) : und S U t m f (size S U f).toNat = under S U t m f := by
  obtain ⟨hg, h0, h1, h2⟩ := span_yes hs
  by_cases hm : m < 0 ∨ size S U t ≤ m
  · rw [under_no hm]
    unfold und
    rw [List.filter_eq_nil_iff]
    intro x hx
    obtain ⟨a, b⟩ := mem_upto.mp hx
    have p := size_pos hg (lv := t) (by omega) h2
    have := lift_in (S := S) (U := U) h0 h1 (by omega) a (by have := size_bd S U f; omega)
    simp; omega
  · rw [under_yes (by omega) (by omega)]
theorem under_span {S : List Int} {U : List (List Int)} {t m f : Int} (hs : span S U f t = false) : under S U t m f = [] := by
  apply List.eq_nil_iff_forall_not_mem.mpr
  intro x hx
  obtain ⟨a, _, _, _, e⟩ := mem_under.mp hx
  rw [span_lift hs] at e
  omega
/-- A slice that is told, in a world. -/
def Told (e : Ending) (w : World) (l : List Int) : Prop := ∃ a cap, e = .returned (.slice a l.length cap) ∧ IRow .i64 w a l.length cap l
theorem told_own {w : World} {base n : Nat} {v : Value} {l : List Int} {e : TypeId} (h : w.ownsRow base e 1 v n (vals .i64 l)) : Told (.returned v) w l := by
  obtain ⟨a, cap, rfl, hr⟩ := own_irow h
  obtain rfl := hr.1
  exact ⟨a, cap, rfl, hr⟩
theorem told_nil (w : World) {l : List Int} (h : l = []) : Told (.returned (.slice none 0 0)) w l := by
  subst h; exact ⟨none, 0, rfl, row_nil _ _⟩
theorem und_own {w : World} {base n : Nat} {v : Value} {l l' : List Int} {e : TypeId} (h : w.ownsRow base e 1 v n (vals .i64 l)) (he : l = l') : w.ownsRow base e 1 v n (vals .i64 l') := by rw [← he]; exact h

/-- A slice that is told is a row of its own. -/
def OwnTold (e : Ending) (w : World) (base : Nat) (l : List Int) : Prop := ∃ v n, e = .returned v ∧ w.ownsRow base 3 1 v n (vals .i64 l)
theorem own_told_nil (w : World) (base : Nat) {l : List Int} (h : l = []) : OwnTold (.returned (.slice none 0 0)) w base l := by
  subst h; exact ⟨_, 0, rfl, World.ownsRow_nil _ _ _ _⟩

set_option maxHeartbeats 4000000 in
theorem under_own (sa : Option Addr) (sl sc : Nat) (ua : Option Addr) (ul uc : Nat) (S : List Int) (U : List (List Int)) (t m f : Int) (w : World) (hd : Dim w sa sl sc ua ul uc S U) (ht : I64 t) (hm : I64 m) (hf : I64 f) :
    Calls Try.prog 35 #[.agg #[.slice sa sl sc, .slice ua ul uc], .int .i64 t, .int .i64 m, .int .i64 f] w fun e w' => OwnTold e w' (w.heap.size + 1) (under S U t m f) ∧ Below w.heap.size w w' := by
  obtain ⟨e1, e2, e3, e4⟩ := hd.lens
  have HD : Hid (Dim w sa sl sc ua ul uc S U) := hd
  have HF : Hid (I64 f) := hf
  have HT : Hid (I64 t) := ht
  obtain ⟨m1, m2⟩ := hm
  clear hf ht
  cases hs : span S U f t with
  | false =>
    have HS : Hid (span S U f t = false) := hs
    clear e1 e2 hd
    go_enter Try.func35, Try.ntmps35
    go_wp2_with (go_at_call 45; refine (span_any _ _ _ _ _ _ S U _ _ _ (HD.out.box _) HF.out HT.out).mono ?_; rintro e w1 ⟨rfl, hb⟩)
    go_ret
    exact ⟨own_told_nil _ _ (under_span HS.out), box_bt hb⟩
  | true =>
    have HS : Hid (span S U f t = true) := hs
    obtain ⟨g1, g2, g3, g4⟩ := span_yes hs
    have E1 : Hid (sl = S.length) := e1
    rw [← e1] at g4
    have HG : Hid (good S U = true) := g1
    clear e1 e2 hd g1
    have hsz := size_bd S U f
    obtain ⟨Z, hZ⟩ : ∃ Z : Nat, size S U f = Z := ⟨(size S U f).toNat, by omega⟩
    have HZ : Hid (size S U f = Z) := hZ
    rw [hZ] at hsz
    go_enter Try.func35, Try.ntmps35
    go_wp2_with (first
      | (go_at_call 45; refine (span_any _ _ _ _ _ _ S U _ _ _ (HD.out.box _) HF.out HT.out).mono ?_; rintro e w1 ⟨rfl, hb⟩; obtain ⟨c0, c1⟩ := box_cells hb)
      | (go_at_call 46; refine (members_any _ _ _ _ _ _ S U _ _ (HD.out.below (box_bt hb)) HG g2 (by omega)).mono ?_; rintro e w2 ⟨rfl, hb2⟩))
    have acc := bt hb hb2
    clear hb hb2 c0 c1 hZ
    go_loopw [19, 9] (fun i v wr => ∃ k n : Nat, k ≤ Z ∧ i = .int .i64 k ∧ n ≤ k ∧ wr.ownsRow (w.heap.size + 1) 3 1 v n (vals .i64 (und S U t m f k)) ∧ Below (w.alloc (.cells #[.slice sa sl sc, .slice ua ul uc] 61)).heap.size (w.alloc (.cells #[.slice sa sl sc, .slice ua ul uc] 61)) wr) (fun i _ _ => Z - (intOf i).toNat)
    case atStart => exact ⟨0, 0, Nat.zero_le _, rfl, Nat.le_refl _, und_own (World.ownsRow_nil _ _ _ _) (und_0 _ _ _ _ _).symm, acc⟩
    case round =>
      obtain ⟨k, n, hk, rfl, hn, hown, hacc⟩ := hrel
      have HA : Hid (Below (w.alloc (.cells #[.slice sa sl sc, .slice ua ul uc] 61)).heap.size (w.alloc (.cells #[.slice sa sl sc, .slice ua ul uc] 61)) wr) := hacc
      obtain ⟨c0, c1⟩ := box_cells hacc
      have hws := hacc.size
      simp only [World.size_alloc] at hws
      have HO : Hid (wr.ownsRow (w.heap.size + 1) 3 1 u9 n (vals .i64 (und S U t m f k))) := hown
      clear hacc hown
      by_cases hlt : k < Z
      · have HM : Hid ((k : Int) < size S U f) := by show (k : Int) < size S U f; rw [HZ.out]; omega
        have ge := lift_ge S U f t k
        obtain ⟨x, hx⟩ : ∃ x, lift S U f t k = x := ⟨_, rfl⟩
        by_cases hxm : x = m
        · have HX : Hid (lift S U f t k = m) := by rw [hx]; exact hxm
          have hx2 : (lift S U f t k == m) = true := by rw [hx, hxm]; simp
          clear hx
          go_wp2_with (first
            | (go_at_call 47; refine (carry_any _ _ _ _ _ _ S U _ _ _ _ (HD.out.below (box_bt HA.out)) HG g2 g3 g4 (by omega) HM).mono ?_; rintro e w3 ⟨rfl, hb3⟩; have hs3 := hb3.size)
            | (at_builtin; refine append_one Try.underlying28 info_int (by decide) rfl (.tmp 29) (.tmp 31) rfl (w.heap.size + 1) n u9 (k : Int) (und S U t m f k) _ rfl rfl (own_below HO.out hb3) rfl (by omega) (by omega) ?_; intro v' w4 hown4 _ hb4))
          go_roundw
          case rel => exact ⟨k + 1, n + 1, by omega, by go_num, by omega, und_own hown4 (und_yes HX.out).symm, (HA.out.trans (hb3.mono HA.out.size)).trans (hb4.mono (by simp))⟩
          case measure => simp [intOf]; omega
        · have HX : Hid (¬ lift S U f t k = m) := by rw [hx]; exact hxm
          have hx2 : (lift S U f t k == m) = false := by rw [hx]; simpa using hxm
          clear hx
          go_wp2_with (first
            | (go_at_call 47; refine (carry_any _ _ _ _ _ _ S U _ _ _ _ (HD.out.below (box_bt HA.out)) HG g2 g3 g4 (by omega) HM).mono ?_; rintro e w3 ⟨rfl, hb3⟩; have hs3 := hb3.size))
          go_roundw
          case rel => exact ⟨k + 1, n, by omega, by go_num, by omega, und_own (own_below HO.out hb3) (und_no HX.out).symm, HA.out.trans (hb3.mono HA.out.size)⟩
          case measure => simp [intOf]; omega
      · obtain rfl : k = Z := by omega
        go_wp2
        go_ret
        refine ⟨⟨_, _, rfl, und_own HO.out ?_⟩, box_bt HA.out⟩
        rw [← und_under HS.out, HZ.out, Int.toNat_natCast]

theorem under_any (sa : Option Addr) (sl sc : Nat) (ua : Option Addr) (ul uc : Nat) (S : List Int) (U : List (List Int)) (t m f : Int) (w : World) (hd : Dim w sa sl sc ua ul uc S U) (ht : I64 t) (hm : I64 m) (hf : I64 f) :
    Calls Try.prog 35 #[.agg #[.slice sa sl sc, .slice ua ul uc], .int .i64 t, .int .i64 m, .int .i64 f] w fun e w' => Told e w' (under S U t m f) ∧ Below w.heap.size w w' := by
  refine (under_own sa sl sc ua ul uc S U t m f w hd ht hm hf).mono ?_
  rintro e w' ⟨⟨v, n, rfl, ho⟩, hb⟩
  exact ⟨told_own ho, hb⟩
/-- A slice that is told lies behind a world. -/
def NewTold (e : Ending) (w0 w : World) (l : List Int) : Prop := ∃ a cap, e = .returned (.slice a l.length cap) ∧ IRow .i64 w a l.length cap l ∧ ∀ b off, a = some ⟨b, off, none⟩ → w0.heap.size ≤ b
theorem under_new (sa : Option Addr) (sl sc : Nat) (ua : Option Addr) (ul uc : Nat) (S : List Int) (U : List (List Int)) (t m f : Int) (w : World) (hd : Dim w sa sl sc ua ul uc S U) (ht : I64 t) (hm : I64 m) (hf : I64 f) :
    Calls Try.prog 35 #[.agg #[.slice sa sl sc, .slice ua ul uc], .int .i64 t, .int .i64 m, .int .i64 f] w fun e w' => NewTold e w w' (under S U t m f) ∧ Below w.heap.size w w' := by
  refine (under_own sa sl sc ua ul uc S U t m f w hd ht hm hf).mono ?_
  rintro e w' ⟨⟨v, n, rfl, ho⟩, hb⟩
  refine ⟨?_, hb⟩
  obtain ⟨a, cap, rfl, hr⟩ := own_irow ho
  obtain rfl := hr.1
  refine ⟨a, cap, rfl, hr, fun b off e => ?_⟩
  subst e
  have := own_ge ho (k := b) rfl
  omega

/-- The members of the level below. -/
def kids (S : List Int) (U : List (List Int)) (t m : Int) : List Int := if t < 1 then [] else under S U t m (t - 1)

theorem under_if {S : List Int} {U : List (List Int)} {t m f : Int} (h : ¬ (0 ≤ f ∧ f ≤ t)) : under S U t m f = [] :=
  under_span (span_not (by rintro ⟨_, a, b, _⟩; exact h ⟨a, b⟩))
theorem kids_if {S : List Int} {U : List (List Int)} {t m : Int} (h : ¬ 0 < t) : kids S U t m = [] := by
  unfold kids; rw [if_pos (by omega)]
theorem kids_is {S : List Int} {U : List (List Int)} {t m : Int} (h : 0 < t) : kids S U t m = under S U t m (t - 1) := by
  unfold kids; rw [if_neg (by omega)]

end Go.Proofs.Ytfgphphaopcolaa

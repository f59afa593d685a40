/-
  What the document's own Size and Lift return.
  Conditions: as each theorem states them.
-/
import Derived.Test.YtfgphphaopcolaaHS
import Derived.Test.YtfgphphaopcolaaF
namespace Go.Proofs.Ytfgphphaopcolaa
open Go.ChangeShapes Go.WideShapes Go.ChangeAt Go.RowKit
set_option linter.unusedVariables false
set_option linter.unusedSimpArgs false

theorem ret_neg {S : List Int} {U : List (List Int)} {f t m : Int} (h : lift S U f t m = -1) : Ending.returned (.int .i64 (-1)) = .returned (.int .i64 (lift S U f t m)) := by rw [h]

set_option maxHeartbeats 4000000 in
theorem rlift_any (sa : Option Addr) (sl sc : Nat) (ua : Option Addr) (ul uc : Nat) (S : List Int) (U : List (List Int)) (f t m : Int) (w : World) (hd : Dim w sa sl sc ua ul uc S U) (hf : I64 f) (ht : I64 t) (hm : I64 m) :
    Calls Try.prog 33 #[.agg #[.slice sa sl sc, .slice ua ul uc], .int .i64 f, .int .i64 t, .int .i64 m] w fun e w' => e = .returned (.int .i64 (lift S U f t m)) ∧ Below w.heap.size w w' := by
  obtain ⟨e1, e2, e3, e4⟩ := hd.lens
  have E1 : Hid (sl = S.length) := e1
  have E2 : Hid (ul = U.length) := e2
  have HD : Hid (Dim w sa sl sc ua ul uc S U) := hd
  have HF : Hid (I64 f) := hf
  have HT : Hid (I64 t) := ht
  obtain ⟨f1, f2⟩ := hf
  obtain ⟨t1, t2⟩ := ht
  obtain ⟨m1, m2⟩ := hm
  clear e1 e2 hd
  have bx : Hid (Bx w (w.alloc (.cells #[.slice sa sl sc, .slice ua ul uc] 61)) (.slice sa sl sc) (.slice ua ul uc)) := bx_new _ _ _ _
  by_cases h0 : f < 0
  · go_enter Try.func33, Try.ntmps33
    go_wp2
    go_ret
    exact ⟨ret_neg (lift_no (.inl h0)), bx.out.2.1⟩
  have h0f : decide (f < 0) = false := decide_eq_false h0
  by_cases h1 : t < f
  · go_enter Try.func33, Try.ntmps33
    go_wp2
    go_ret
    exact ⟨ret_neg (lift_no (.inr (.inl h1))), bx.out.2.1⟩
  have h1f : decide (t < f) = false := decide_eq_false h1
  have hsz := size_bd S U t
  by_cases h2 : size S U t = 0
  · have h2t : (size S U t == 0) = true := by rw [h2]; rfl
    have H2 : Hid (size S U t = 0) := h2
    clear h2
    go_enter Try.func33, Try.ntmps33
    go_wp2_with (go_at_call 25; refine (rsize_any _ _ _ _ _ _ S U _ _ (HD.out.below bx.out.2.1) HT.out).mono ?_; rintro e w1 ⟨rfl, hb⟩)
    go_ret
    exact ⟨ret_neg (lift_no (.inr (.inr (.inl H2.out)))), (bx.out.step hb).2.1⟩
  have h2t : (size S U t == 0) = false := by simpa using h2
  have H2 : Hid (¬ size S U t = 0) := h2
  clear h2
  by_cases h3 : m < 0
  · go_enter Try.func33, Try.ntmps33
    go_wp2_with (go_at_call 25; refine (rsize_any _ _ _ _ _ _ S U _ _ (HD.out.below bx.out.2.1) HT.out).mono ?_; rintro e w1 ⟨rfl, hb⟩)
    go_ret
    exact ⟨ret_neg (lift_no (.inr (.inr (.inr (.inl h3))))), (bx.out.step hb).2.1⟩
  have h3f : decide (m < 0) = false := decide_eq_false h3
  have hsz2 := size_bd S U f
  by_cases h4 : size S U f ≤ m
  · go_enter Try.func33, Try.ntmps33
    have tok : True := trivial
    go_wp2_with (first
      | (go_at_call 25; clear tok; refine (rsize_any _ _ _ _ _ _ S U _ _ (HD.out.below bx.out.2.1) HT.out).mono ?_; rintro e w1 ⟨rfl, hb⟩; have bx1 := bx.out.step hb; have c0 := bx1.2.2.1; have c1 := bx1.2.2.2)
      | (go_at_call 25; refine (rsize_any _ _ _ _ _ _ S U _ _ (HD.out.below bx1.2.1) HF.out).mono ?_; rintro e w2 ⟨rfl, hb2⟩))
    go_ret
    exact ⟨ret_neg (lift_no (.inr (.inr (.inr (.inr h4))))), (bx1.step hb2).2.1⟩
  have h4f : decide (size S U f ≤ m) = false := decide_eq_false h4
  obtain ⟨hg, t3, t4⟩ := size_in H2.out
  have HM : Hid (m < size S U f) := by show m < size S U f; omega
  have hm40 : m < 40 := by omega
  rw [← E1.out] at t4
  have hU := (good_p hg).2.2.1
  rw [← E1.out, ← E2.out] at hU
  have HG : Hid (good S U = true) := hg
  obtain ⟨a, rfl⟩ : ∃ k : Nat, f = k := ⟨f.toNat, by omega⟩
  obtain ⟨T, rfl⟩ : ∃ T : Nat, t = T := ⟨t.toNat, by omega⟩
  obtain ⟨n, hn⟩ : ∃ n : Nat, n = min T ul - a := ⟨_, rfl⟩
  go_enter Try.func33, Try.ntmps33
  have tok : True := trivial
  go_wp2_with (first
    | (go_at_call 25; clear tok; refine (rsize_any _ _ _ _ _ _ S U _ _ (HD.out.below bx.out.2.1) HT.out).mono ?_; rintro e w1 ⟨rfl, hb⟩; have bx1 := bx.out.step hb; have c0 := bx1.2.2.1; have c1 := bx1.2.2.2)
    | (go_at_call 25; refine (rsize_any _ _ _ _ _ _ S U _ _ (HD.out.below bx1.2.1) HF.out).mono ?_; rintro e w2 ⟨rfl, hb2⟩; have bx2 : Hid (Bx w w2 (.slice sa sl sc) (.slice ua ul uc)) := bx1.step hb2))
  clear bx1 hb hb2
  have acc := bx2.out.2.1
  have d0 := bx2.out.2.2.1
  have d1 := bx2.out.2.2.2
  go_loop [9, 3] (fun i mv => ∃ (j : Nat), j ≤ n ∧ i = .int .i64 (a + j : Nat) ∧ mv = .int .i64 (lift S U a (a + j : Nat) m)) (fun i _ => T - (intOf i).toNat)
  case atStart =>
    refine ⟨0, Nat.zero_le _, rfl, ?_⟩
    rw [Nat.add_zero, lift_self (by omega) (by omega) HM.out]
  case round =>
    obtain ⟨j, hj, rfl, rfl⟩ := hrel
    have ge := lift_ge S U a (a + j : Nat) m
    by_cases hlt : j < n
    · have k1 : ((a + j : Nat) : Int) < (T : Int) := by omega
      have k2 : ((a + j : Nat) : Int) < (ul : Int) := by omega
      obtain ⟨n1, n2, n3⟩ := lift_next (S := S) (U := U) (a := a) (i := j) (m := m) HG.out (by rw [← E1.out]; omega) (by omega) HM.out
      have n4 := n3 (by rw [← E2.out]; omega)
      obtain ⟨x, hx⟩ : ∃ x, lift S U a (a + j : Nat) m = x := ⟨_, rfl⟩
      rw [hx] at n1 n2 n4 ge ⊢
      have N1 : Hid (lift S U a ((a + j : Nat) + 1 : Int) m = (U.getD (a + j) []).getD x.toNat 0) := by
        show _ = _
        rw [n1]; unfold abv; rw [if_neg (by rw [← E2.out]; omega)]
      clear n1 n3 hx
      obtain ⟨q, rfl⟩ : ∃ q : Nat, x = q := ⟨x.toNat, by omega⟩
      rw [Int.toNat_natCast] at n4
      rw [Int.toNat_natCast] at N1
      obtain ⟨p, hp⟩ : ∃ p : Nat, p = a + j := ⟨_, rfl⟩
      have HP : Hid (p = a + j) := hp
      rw [← hp] at k1 k2 n4 N1 ⊢
      obtain ⟨b, off, rfl, hb0, ra, rl, rc, hcu, hru, hlu⟩ := HD.out.up_cell (k := p) (by omega)
      obtain ⟨r1, r2⟩ := hru.lens
      rw [← r1] at n4
      obtain ⟨b2, off2, rfl, hb2, hcell⟩ := hru.cell n4
      have hc := hcell q n4
      obtain ⟨y, hy⟩ : ∃ y, (U.getD p []).getD q 0 = y := ⟨_, rfl⟩
      rw [hy] at hc
      rw [hy] at N1
      have g1 := ((bcell acc).1 _ _ hb0).trans hcu
      have g2 := ((bcell acc).1 _ _ hb2).trans hc
      clear hcell hy hru hlu r1 hp hcu hc
      go_wp2
      go_round
      case rel =>
        refine ⟨j + 1, by omega, by have := HP.out; go_num, ?_⟩
        rw [← N1.out]; congr 2; have := HP.out; omega
      case measure => simp [intOf]; have := HP.out; omega
    · obtain rfl : j = n := by omega
      obtain ⟨p, hp⟩ : ∃ p : Nat, p = a + j := ⟨_, rfl⟩
      have HP : Hid (p = a + j) := hp
      rw [← hp] at ge ⊢
      by_cases hT : T = sl
      · subst hT
        by_cases hp2 : p < T
        · have q1 : (p : Int) < (T : Int) := by omega
          have q2 : ¬ (p : Int) < (ul : Int) := by omega
          clear hp
          go_wp2
          go_ret
          refine ⟨ret_int ?_, acc⟩
          rw [lift_yes (by omega) (by omega) H2.out (by omega) HM.out, if_pos (by rw [E1.out])]
        · have q1 : decide ((p : Int) < (T : Int)) = false := decide_eq_false (by omega)
          clear hp
          go_wp2
          go_ret
          refine ⟨ret_int ?_, acc⟩
          rw [lift_yes (by omega) (by omega) H2.out (by omega) HM.out, if_pos (by rw [E1.out])]
      · have hT2 : ((T : Int) == (sl : Int)) = false := by simp; omega
        obtain rfl : p = T := by omega
        have q1 : decide ((p : Int) < (p : Int)) = false := decide_eq_false (by omega)
        clear hp
        go_wp2
        go_ret
        exact ⟨rfl, acc⟩

set_option maxHeartbeats 4000000 in
theorem runder_any (sa : Option Addr) (sl sc : Nat) (ua : Option Addr) (ul uc : Nat) (S : List Int) (U : List (List Int)) (t m f : Int) (w : World) (hd : Dim w sa sl sc ua ul uc S U) (ht : I64 t) (hm : I64 m) (hf : I64 f) :
    Calls Try.prog 37 #[.agg #[.slice sa sl sc, .slice ua ul uc], .int .i64 t, .int .i64 m, .int .i64 f] w fun e w' => Told e w' (under S U t m f) ∧ Below w.heap.size w w' := by
  have HD : Hid (Dim w sa sl sc ua ul uc S U) := hd
  have HF : Hid (I64 f) := hf
  have HT : Hid (I64 t) := ht
  obtain ⟨m1, m2⟩ := hm
  have bx : Hid (Bx w (w.alloc (.cells #[.slice sa sl sc, .slice ua ul uc] 61)) (.slice sa sl sc) (.slice ua ul uc)) := bx_new _ _ _ _
  clear hf ht hd
  by_cases h0 : m < 0
  · go_enter Try.func37, Try.ntmps37
    go_wp2
    go_ret
    exact ⟨told_nil _ (under_no (.inl h0)), bx.out.2.1⟩
  have h0f : decide (m < 0) = false := decide_eq_false h0
  have hst := size_bd S U t
  by_cases h1 : size S U t ≤ m
  · go_enter Try.func37, Try.ntmps37
    go_wp2_with (go_at_call 25; refine (rsize_any _ _ _ _ _ _ S U _ _ (HD.out.below bx.out.2.1) HT.out).mono ?_; rintro e w1 ⟨rfl, hb⟩)
    go_ret
    exact ⟨told_nil _ (under_no (.inr h1)), (bx.out.step hb).2.1⟩
  have h1f : decide (size S U t ≤ m) = false := decide_eq_false h1
  have HU : Hid (under S U t m f = und S U t m f (size S U f).toNat) := under_yes (by omega) (by omega)
  have hsz := size_bd S U f
  obtain ⟨Z, hZ⟩ : ∃ Z : Nat, size S U f = Z := ⟨(size S U f).toNat, by omega⟩
  rw [hZ] at hsz HU
  rw [Int.toNat_natCast] at HU
  go_enter Try.func37, Try.ntmps37
  go_wp2_with (go_at_call 25; refine (rsize_any _ _ _ _ _ _ S U _ _ (HD.out.below bx.out.2.1) HT.out).mono ?_; rintro e w1 ⟨rfl, hb⟩)
  go_loopw [10, 9] (fun i v wr => ∃ k n : Nat, k ≤ Z ∧ i = .int .i64 k ∧ n ≤ k ∧ wr.ownsRow (w.heap.size + 1) 3 1 v n (vals .i64 (und S U t m f k)) ∧ Below (w.alloc (.cells #[.slice sa sl sc, .slice ua ul uc] 61)).heap.size (w.alloc (.cells #[.slice sa sl sc, .slice ua ul uc] 61)) wr) (fun i _ _ => Z - (intOf i).toNat)
  case atStart => exact ⟨0, 0, Nat.zero_le _, rfl, Nat.le_refl _, und_own (World.ownsRow_nil _ _ _ _) (und_0 _ _ _ _ _).symm, hb⟩
  case round =>
    obtain ⟨k, n, hk, rfl, hn, hown, hacc⟩ := hrel
    have HA : Hid (Below (w.alloc (.cells #[.slice sa sl sc, .slice ua ul uc] 61)).heap.size (w.alloc (.cells #[.slice sa sl sc, .slice ua ul uc] 61)) wr) := hacc
    have BX : Hid (Bx w wr (.slice sa sl sc) (.slice ua ul uc)) := bx.out.step hacc
    have c0 := BX.out.2.2.1
    have c1 := BX.out.2.2.2
    have hws := hacc.size
    simp only [World.size_alloc] at hws
    have HO : Hid (wr.ownsRow (w.heap.size + 1) 3 1 u9 n (vals .i64 (und S U t m f k))) := hown
    clear hacc hown
    have HK : Hid (I64 (k : Int)) := by show I64 (k : Int); unfold I64; omega
    by_cases hlt : k < Z
    · have ge := lift_ge S U f t k
      obtain ⟨x, hx⟩ : ∃ x, lift S U f t k = x := ⟨_, rfl⟩
      by_cases hxm : x = m
      · have HX : Hid (lift S U f t k = m) := by rw [hx]; exact hxm
        have hx2 : (lift S U f t k == m) = true := by rw [hx, hxm]; simp
        clear hx
        go_wp2_with (first
          | (go_at_call 25; refine (rsize_any _ _ _ _ _ _ S U _ _ (HD.out.below BX.out.2.1) HF.out).mono ?_; rintro e w2 ⟨rfl, hb2⟩; have hs2 := hb2.size; have BX2 : Hid (Bx w w2 (.slice sa sl sc) (.slice ua ul uc)) := BX.out.step hb2; have c2 := BX2.out.2.2.1; have c3 := BX2.out.2.2.2)
          | (go_at_call 33; refine (rlift_any _ _ _ _ _ _ S U _ _ _ _ (HD.out.below BX2.out.2.1) HF.out HT.out HK.out).mono ?_; rintro e w3 ⟨rfl, hb3⟩; have hs3 := hb3.size)
          | (at_builtin; refine append_one Try.underlying28 info_int (by decide) rfl (.tmp 34) (.tmp 36) rfl (w.heap.size + 1) n u9 (k : Int) (und S U t m f k) _ rfl rfl (own_below (own_below HO.out hb2) hb3) rfl (by omega) (by omega) ?_; intro v' w4 hown4 _ hb4))
        go_roundw
        case rel => exact ⟨k + 1, n + 1, by omega, by go_num, by omega, und_own hown4 (und_yes HX.out).symm, (HA.out.trans ((bt hb2 hb3).mono HA.out.size)).trans (hb4.mono (by simp))⟩
        case measure => simp [intOf]; omega
      · have HX : Hid (¬ lift S U f t k = m) := by rw [hx]; exact hxm
        have hx2 : (lift S U f t k == m) = false := by rw [hx]; simpa using hxm
        clear hx
        go_wp2_with (first
          | (go_at_call 25; refine (rsize_any _ _ _ _ _ _ S U _ _ (HD.out.below BX.out.2.1) HF.out).mono ?_; rintro e w2 ⟨rfl, hb2⟩; have hs2 := hb2.size; have BX2 : Hid (Bx w w2 (.slice sa sl sc) (.slice ua ul uc)) := BX.out.step hb2; have c2 := BX2.out.2.2.1; have c3 := BX2.out.2.2.2)
          | (go_at_call 33; refine (rlift_any _ _ _ _ _ _ S U _ _ _ _ (HD.out.below BX2.out.2.1) HF.out HT.out HK.out).mono ?_; rintro e w3 ⟨rfl, hb3⟩; have hs3 := hb3.size))
        go_roundw
        case rel => exact ⟨k + 1, n, by omega, by go_num, by omega, und_own (own_below (own_below HO.out hb2) hb3) (und_no HX.out).symm, HA.out.trans ((bt hb2 hb3).mono HA.out.size)⟩
        case measure => simp [intOf]; omega
    · obtain rfl : k = Z := by omega
      go_wp2_with (go_at_call 25; refine (rsize_any _ _ _ _ _ _ S U _ _ (HD.out.below BX.out.2.1) HF.out).mono ?_; rintro e w2 ⟨rfl, hb2⟩)
      go_ret
      exact ⟨told_own (und_own (own_below HO.out hb2) HU.out.symm), bt (box_bt HA.out) hb2⟩

end Go.Proofs.Ytfgphphaopcolaa

/-
  What each call of package wave does: for whatever ints and int64s it returns what the plain function of the WNum text says, and the world is as it was.
-/
import Derived.Test.YtflggohamonojabFix
import Derived.Test.YtflggohamonojabWNum
import Derived.OwnWalk
namespace Go.Proofs.Ytflggohamonojab
open Go.RowKit

theorem tmod_turn (a : Int) : (a.tmod 65536 < 0 ∧ a.tmod 65536 + 65536 = a % 65536) ∨ (0 ≤ a.tmod 65536 ∧ a.tmod 65536 = a % 65536) := by
  rcases Int.le_total 0 a with h | h
  · rw [Int.tmod_eq_emod_of_nonneg h]; omega
  · have e : a.tmod 65536 = -((-a).tmod 65536) := by rw [Int.neg_tmod, Int.neg_neg]
    rw [e, Int.tmod_eq_emod_of_nonneg (show 0 ≤ -a by omega)]
    omega

set_option maxHeartbeats 400000 in
theorem norm_any (a : Int) (w : World) (_ha : inF a) :
    Calls Try.prog 8 #[.int .i64 a] w fun e w' => e = .returned (.int .i64 (a % 65536)) ∧ w' = w := by
  have t := tmod_turn a
  have T : Hid (_ ∨ _) := t; clear t
  go_enter Try.func8, Try.ntmps8
  go_wp2
  all_goals (go_ret; refine ⟨ret_int ?_, rfl⟩; have := T.out; try rw [wrap64_of])
  all_goals omega

set_option maxHeartbeats 400000 in
theorem arch_any (n : Int) (w : World) (h0 : 0 ≤ n) (h1 : n ≤ 32768) :
    Calls Try.prog 9 #[.int .i64 n] w fun e w' => e = .returned (.int .i64 (arc n)) ∧ w' = w := by
  obtain ⟨q, hq⟩ : ∃ q, n * (32768 - n) = q := ⟨_, rfl⟩
  have b := q_in h0 h1
  unfold arc qarc
  rw [hq] at b ⊢
  obtain ⟨b0, b1⟩ := b
  go_enter Try.func9, Try.ntmps9
  go_wp2
  go_ret
  exact ⟨rfl, rfl⟩

set_option maxHeartbeats 400000 in
theorem sin_any (a : Int) (w : World) (ha : inF a) :
    Calls Try.prog 5 #[.int .i64 a] w fun e w' => e = .returned (.int .i64 (sinI a)) ∧ w' = w := by
  have m0 : 0 ≤ a % 65536 := by omega
  have m1 : a % 65536 < 65536 := by omega
  obtain ⟨n, hn⟩ : ∃ n, a % 65536 = n := ⟨_, rfl⟩
  unfold sinI
  rw [hn] at m0 m1 ⊢
  have N : Hid (_ = _) := hn; clear hn
  by_cases h : 32768 < n
  · rw [if_pos h]
    have r := arc_in (n := n - 32768) (by omega) (by omega)
    obtain ⟨s, hs⟩ : ∃ s, arc (n - 32768) = s := ⟨_, rfl⟩
    rw [hs] at r ⊢
    have S : Hid (_ = _) := hs; clear hs
    obtain ⟨r0, r1⟩ := r
    go_enter Try.func5, Try.ntmps5
    go_wp2_with (first
      | (go_at_call 8; refine (norm_any _ _ ha).mono ?_; rintro e w' ⟨rfl, rfl⟩; rw [N.out])
      | (go_at_call 9; refine (arch_any _ _ (by omega) (by omega)).mono ?_; rintro e w' ⟨rfl, rfl⟩; rw [S.out]))
    go_ret
    exact ⟨rfl, rfl⟩
  · rw [if_neg h]
    go_enter Try.func5, Try.ntmps5
    go_wp2_with (first
      | (go_at_call 8; refine (norm_any _ _ ha).mono ?_; rintro e w' ⟨rfl, rfl⟩; rw [N.out])
      | (go_at_call 9; refine (arch_any _ _ (by omega) (by omega)).mono ?_; rintro e w' ⟨rfl, rfl⟩))
    go_ret
    exact ⟨rfl, rfl⟩

set_option maxHeartbeats 400000 in
theorem cos_any (a : Int) (w : World) (ha : inF a) :
    Calls Try.prog 6 #[.int .i64 a] w fun e w' => e = .returned (.int .i64 (cosI a)) ∧ w' = w := by
  have m0 : 0 ≤ a % 65536 := by omega
  have m1 : a % 65536 < 65536 := by omega
  have e : cosI a = sinI (a % 65536 + 16384) := sin_mod (by omega)
  rw [e]; clear e
  obtain ⟨n, hn⟩ : ∃ n, a % 65536 = n := ⟨_, rfl⟩
  rw [hn] at m0 m1 ⊢
  have N : Hid (_ = _) := hn; clear hn
  go_enter Try.func6, Try.ntmps6
  go_wp2_with (first
    | (go_at_call 8; refine (norm_any _ _ ha).mono ?_; rintro e w' ⟨rfl, rfl⟩; rw [N.out])
    | (go_at_call 5; refine (sin_any _ _ ⟨by omega, by omega⟩).mono ?_; rintro e w' ⟨rfl, rfl⟩))
  go_ret
  exact ⟨rfl, rfl⟩

/-- Two products, or the first one's error, or the second's. -/
def prodR (a b c d : Int) : Int × Int × Int := if (mulR a b).2 = 0 ∧ (mulR c d).2 = 0 then ((mulR a b).1, (mulR c d).1, 0) else (0, 0, 3)
set_option maxHeartbeats 400000 in
theorem products_any (a b c d : Int) (w : World) (ha : inF a) (hb : inF b) (hc : inF c) (hd : inF d) :
    Calls Try.prog 10 #[.int .i64 a, .int .i64 b, .int .i64 c, .int .i64 d] w fun e w' => e = .returned (.tuple #[.int .i64 (prodR a b c d).1, .int .i64 (prodR a b c d).2.1, .int .i64 (prodR a b c d).2.2]) ∧ w' = w := by
  unfold prodR
  rcases mul_told a b with h1 | ⟨p, h1, i1⟩
  · have H1 : Hid (_ = _) := h1
    rw [h1, if_neg (by simp)]; clear h1
    go_enter Try.func10, Try.ntmps10
    go_wp2_with (go_at_call 13; refine (mul_any _ _ _ (by assumption) (by assumption)).mono ?_; rintro e w' ⟨rfl, rfl⟩; rw [H1.out])
    go_ret3
    exact ⟨rfl, rfl⟩
  have H1 : Hid (_ = _) := h1
  rcases mul_told c d with h2 | ⟨q, h2, i2⟩
  · have H2 : Hid (_ = _) := h2
    rw [h1, h2, if_neg (by simp)]; clear h1 h2
    go_enter Try.func10, Try.ntmps10
    go_wp2_with (go_at_call 13; refine (mul_any _ _ _ (by assumption) (by assumption)).mono ?_; rintro e w' ⟨rfl, rfl⟩; first | rw [H1.out] | rw [H2.out])
    go_ret3
    exact ⟨rfl, rfl⟩
  have H2 : Hid (_ = _) := h2
  rw [h1, h2, if_pos ⟨rfl, rfl⟩]; clear h1 h2
  go_enter Try.func10, Try.ntmps10
  go_wp2_with (go_at_call 13; refine (mul_any _ _ _ (by assumption) (by assumption)).mono ?_; rintro e w' ⟨rfl, rfl⟩; first | rw [H1.out] | rw [H2.out])
  go_ret3
  exact ⟨rfl, rfl⟩
theorem prod_ok {a b c d p q : Int} (h1 : mulR a b = (p, 0)) (h2 : mulR c d = (q, 0)) : prodR a b c d = (p, q, 0) := by unfold prodR; rw [h1, h2, if_pos ⟨rfl, rfl⟩]
theorem prod_no1 {a b c d : Int} (h1 : mulR a b = (0, 3)) : prodR a b c d = (0, 0, 3) := by unfold prodR; rw [h1, if_neg (by simp)]
theorem prod_no2 {a b c d : Int} (h2 : mulR c d = (0, 3)) : prodR a b c d = (0, 0, 3) := by unfold prodR; rw [h2, if_neg (by simp)]

set_option maxHeartbeats 2000000 in
/-- What a turn does where its two pairs of products, its difference and its sum are known. -/
theorem rotate_any (x y a : Int) (w : World) (hx : inF x) (hy : inF y) (ha : inF a) :
    Calls Try.prog 7 #[.int .i64 x, .int .i64 y, .int .i64 a] w fun e w' => e = .returned (.tuple #[.int .i64 (rotR x y (sinI a) (cosI a)).1, .int .i64 (rotR x y (sinI a) (cosI a)).2.1, .int .i64 (rotR x y (sinI a) (cosI a)).2.2]) ∧ w' = w := by
  have hs := sin_F a
  have hc := cos_F a
  have R := rot_cases x y (sinI a) (cosI a)
  obtain ⟨s, es⟩ : ∃ s, sinI a = s := ⟨_, rfl⟩
  obtain ⟨c, ec⟩ : ∃ c, cosI a = c := ⟨_, rfl⟩
  rw [es] at hs; rw [ec] at hc; rw [es, ec] at R ⊢
  have ES : Hid (_ = _) := es; have EC : Hid (_ = _) := ec; clear es ec
  generalize rotR x y s c = t at R ⊢
  cases R with
  | e1 h1 =>
    have P1 : Hid (_ = _) := prod_no1 (c := y) (d := s) h1; clear h1
    go_enter Try.func7, Try.ntmps7
    go_wp2_with (first
      | (go_at_call 5; refine (sin_any _ _ ha).mono ?_; rintro e w' ⟨rfl, rfl⟩; rw [ES.out])
      | (go_at_call 6; refine (cos_any _ _ ha).mono ?_; rintro e w' ⟨rfl, rfl⟩; rw [EC.out])
      | (go_at_call 10; refine (products_any _ _ _ _ _ (by assumption) (by assumption) (by assumption) (by assumption)).mono ?_; rintro e w' ⟨rfl, rfl⟩; first | rw [P1.out] | rw [P2.out])
      | (go_at_call 11; refine (sub_any _ _ _ (by assumption) (by assumption)).mono ?_; rintro e w' ⟨rfl, rfl⟩; rw [H3.out])
      | (go_at_call 12; refine (add_any _ _ _ (by assumption) (by assumption)).mono ?_; rintro e w' ⟨rfl, rfl⟩; rw [H6.out]))
    go_ret3
    exact ⟨rfl, rfl⟩
  | e2 p h1 h2 =>
    have P1 : Hid (_ = _) := prod_no2 (a := x) (b := c) h2; clear h1 h2
    go_enter Try.func7, Try.ntmps7
    go_wp2_with (first
      | (go_at_call 5; refine (sin_any _ _ ha).mono ?_; rintro e w' ⟨rfl, rfl⟩; rw [ES.out])
      | (go_at_call 6; refine (cos_any _ _ ha).mono ?_; rintro e w' ⟨rfl, rfl⟩; rw [EC.out])
      | (go_at_call 10; refine (products_any _ _ _ _ _ (by assumption) (by assumption) (by assumption) (by assumption)).mono ?_; rintro e w' ⟨rfl, rfl⟩; first | rw [P1.out] | rw [P2.out])
      | (go_at_call 11; refine (sub_any _ _ _ (by assumption) (by assumption)).mono ?_; rintro e w' ⟨rfl, rfl⟩; rw [H3.out])
      | (go_at_call 12; refine (add_any _ _ _ (by assumption) (by assumption)).mono ?_; rintro e w' ⟨rfl, rfl⟩; rw [H6.out]))
    go_ret3
    exact ⟨rfl, rfl⟩
  | e3 p q h1 h2 i1 i2 h3 =>
    have P1 : Hid (_ = _) := prod_ok h1 h2; have H3 : Hid (_ = _) := h3; clear h1 h2 h3
    go_enter Try.func7, Try.ntmps7
    go_wp2_with (first
      | (go_at_call 5; refine (sin_any _ _ ha).mono ?_; rintro e w' ⟨rfl, rfl⟩; rw [ES.out])
      | (go_at_call 6; refine (cos_any _ _ ha).mono ?_; rintro e w' ⟨rfl, rfl⟩; rw [EC.out])
      | (go_at_call 10; refine (products_any _ _ _ _ _ (by assumption) (by assumption) (by assumption) (by assumption)).mono ?_; rintro e w' ⟨rfl, rfl⟩; first | rw [P1.out] | rw [P2.out])
      | (go_at_call 11; refine (sub_any _ _ _ (by assumption) (by assumption)).mono ?_; rintro e w' ⟨rfl, rfl⟩; rw [H3.out])
      | (go_at_call 12; refine (add_any _ _ _ (by assumption) (by assumption)).mono ?_; rintro e w' ⟨rfl, rfl⟩; rw [H6.out]))
    go_ret3
    exact ⟨rfl, rfl⟩
  | e4 p q u h1 h2 i1 i2 h3 h4 =>
    have P1 : Hid (_ = _) := prod_ok h1 h2; have H3 : Hid (_ = _) := h3; have P2 : Hid (_ = _) := prod_no1 (c := y) (d := c) h4; clear h1 h2 h3 h4
    go_enter Try.func7, Try.ntmps7
    go_wp2_with (first
      | (go_at_call 5; refine (sin_any _ _ ha).mono ?_; rintro e w' ⟨rfl, rfl⟩; rw [ES.out])
      | (go_at_call 6; refine (cos_any _ _ ha).mono ?_; rintro e w' ⟨rfl, rfl⟩; rw [EC.out])
      | (go_at_call 10; refine (products_any _ _ _ _ _ (by assumption) (by assumption) (by assumption) (by assumption)).mono ?_; rintro e w' ⟨rfl, rfl⟩; first | rw [P1.out] | rw [P2.out])
      | (go_at_call 11; refine (sub_any _ _ _ (by assumption) (by assumption)).mono ?_; rintro e w' ⟨rfl, rfl⟩; rw [H3.out])
      | (go_at_call 12; refine (add_any _ _ _ (by assumption) (by assumption)).mono ?_; rintro e w' ⟨rfl, rfl⟩; rw [H6.out]))
    go_ret3
    exact ⟨rfl, rfl⟩
  | e5 p q u r h1 h2 i1 i2 h3 h4 h5 =>
    have P1 : Hid (_ = _) := prod_ok h1 h2; have H3 : Hid (_ = _) := h3; have P2 : Hid (_ = _) := prod_no2 (a := x) (b := s) h5; clear h1 h2 h3 h4 h5
    go_enter Try.func7, Try.ntmps7
    go_wp2_with (first
      | (go_at_call 5; refine (sin_any _ _ ha).mono ?_; rintro e w' ⟨rfl, rfl⟩; rw [ES.out])
      | (go_at_call 6; refine (cos_any _ _ ha).mono ?_; rintro e w' ⟨rfl, rfl⟩; rw [EC.out])
      | (go_at_call 10; refine (products_any _ _ _ _ _ (by assumption) (by assumption) (by assumption) (by assumption)).mono ?_; rintro e w' ⟨rfl, rfl⟩; first | rw [P1.out] | rw [P2.out])
      | (go_at_call 11; refine (sub_any _ _ _ (by assumption) (by assumption)).mono ?_; rintro e w' ⟨rfl, rfl⟩; rw [H3.out])
      | (go_at_call 12; refine (add_any _ _ _ (by assumption) (by assumption)).mono ?_; rintro e w' ⟨rfl, rfl⟩; rw [H6.out]))
    go_ret3
    exact ⟨rfl, rfl⟩
  | e6 p q u r t h1 h2 i1 i2 h3 h4 h5 i4 i5 h6 =>
    have P1 : Hid (_ = _) := prod_ok h1 h2; have H3 : Hid (_ = _) := h3; have P2 : Hid (_ = _) := prod_ok h4 h5; have H6 : Hid (_ = _) := h6; clear h1 h2 h3 h4 h5 h6
    go_enter Try.func7, Try.ntmps7
    go_wp2_with (first
      | (go_at_call 5; refine (sin_any _ _ ha).mono ?_; rintro e w' ⟨rfl, rfl⟩; rw [ES.out])
      | (go_at_call 6; refine (cos_any _ _ ha).mono ?_; rintro e w' ⟨rfl, rfl⟩; rw [EC.out])
      | (go_at_call 10; refine (products_any _ _ _ _ _ (by assumption) (by assumption) (by assumption) (by assumption)).mono ?_; rintro e w' ⟨rfl, rfl⟩; first | rw [P1.out] | rw [P2.out])
      | (go_at_call 11; refine (sub_any _ _ _ (by assumption) (by assumption)).mono ?_; rintro e w' ⟨rfl, rfl⟩; rw [H3.out])
      | (go_at_call 12; refine (add_any _ _ _ (by assumption) (by assumption)).mono ?_; rintro e w' ⟨rfl, rfl⟩; rw [H6.out]))
    go_ret3
    exact ⟨rfl, rfl⟩
  | ok p q u r t v h1 h2 i1 i2 h3 h4 h5 i4 i5 h6 i3 i6 =>
    have P1 : Hid (_ = _) := prod_ok h1 h2; have H3 : Hid (_ = _) := h3; have P2 : Hid (_ = _) := prod_ok h4 h5; have H6 : Hid (_ = _) := h6; clear h1 h2 h3 h4 h5 h6
    go_enter Try.func7, Try.ntmps7
    go_wp2_with (first
      | (go_at_call 5; refine (sin_any _ _ ha).mono ?_; rintro e w' ⟨rfl, rfl⟩; rw [ES.out])
      | (go_at_call 6; refine (cos_any _ _ ha).mono ?_; rintro e w' ⟨rfl, rfl⟩; rw [EC.out])
      | (go_at_call 10; refine (products_any _ _ _ _ _ (by assumption) (by assumption) (by assumption) (by assumption)).mono ?_; rintro e w' ⟨rfl, rfl⟩; first | rw [P1.out] | rw [P2.out])
      | (go_at_call 11; refine (sub_any _ _ _ (by assumption) (by assumption)).mono ?_; rintro e w' ⟨rfl, rfl⟩; rw [H3.out])
      | (go_at_call 12; refine (add_any _ _ _ (by assumption) (by assumption)).mono ?_; rintro e w' ⟨rfl, rfl⟩; rw [H6.out]))
    go_ret3
    exact ⟨rfl, rfl⟩
end Go.Proofs.Ytflggohamonojab

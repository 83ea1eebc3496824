/-
  What each call of package fix does, but for Div: for whatever int64s it returns what the plain function of the Num text says, and the world is as it was.
-/
import Derived.Test.YtjkidepgjbnflabRows
import Derived.Test.YtjkidepgjbnflabNum
import Derived.WalkKit
import Derived.WalkSpells
import Derived.WalkLawsBesides
namespace Go.Proofs.Ytjkidepgjbnflab
open Go.RowKit

set_option maxHeartbeats 400000 in
theorem add_any (a b : Int) (w : World) (ha : inF a) (hb : inF b) :
    Calls Try.prog 24 #[.int .i64 a, .int .i64 b] w fun e w' => e = .returned (.tuple #[.int .i64 (addR a b).1, .int .i64 (addR a b).2]) ∧ w' = w := by
  have hc := add_bits a b ha hb
  unfold inF at ha hb
  by_cases h : -9223372036854775808 ≤ a + b ∧ a + b ≤ 9223372036854775807
  · have h1 : 0 ≤ bits .and .i64 (bits .xor .i64 a (wrap64 (a + b))) (bits .xor .i64 b (wrap64 (a + b))) := Int.not_lt.1 (fun x => (hc.1 x) h)
    rw [show addR a b = (a + b, 0) from inR_ok h]
    have hw := IntWalk.wrap64_in (a + b) h
    rw [hw] at h1
    clear hc hw
    go_enter Try.func24, Try.ntmps24
    go_wp2
    go_ret2
    exact ⟨rfl, rfl⟩
  · have h1 : bits .and .i64 (bits .xor .i64 a (wrap64 (a + b))) (bits .xor .i64 b (wrap64 (a + b))) < 0 := hc.2 h
    rw [show addR a b = (0, 3) from inR_no h]
    clear hc h
    go_enter Try.func24, Try.ntmps24
    go_wp2
    go_ret2
    exact ⟨rfl, rfl⟩

set_option maxHeartbeats 400000 in
theorem sub_any (a b : Int) (w : World) (ha : inF a) (hb : inF b) :
    Calls Try.prog 22 #[.int .i64 a, .int .i64 b] w fun e w' => e = .returned (.tuple #[.int .i64 (subR a b).1, .int .i64 (subR a b).2]) ∧ w' = w := by
  have hc := sub_bits a b ha hb
  unfold inF at ha hb
  by_cases h : -9223372036854775808 ≤ a - b ∧ a - b ≤ 9223372036854775807
  · have h1 : 0 ≤ bits .and .i64 (bits .xor .i64 a b) (bits .xor .i64 a (wrap64 (a - b))) := Int.not_lt.1 (fun x => (hc.1 x) h)
    rw [show subR a b = (a - b, 0) from inR_ok h]
    have hw := IntWalk.wrap64_in (a - b) h
    rw [hw] at h1
    clear hc hw
    go_enter Try.func22, Try.ntmps22
    go_wp2
    go_ret2
    exact ⟨rfl, rfl⟩
  · have h1 : bits .and .i64 (bits .xor .i64 a b) (bits .xor .i64 a (wrap64 (a - b))) < 0 := hc.2 h
    rw [show subR a b = (0, 3) from inR_no h]
    clear hc h
    go_enter Try.func22, Try.ntmps22
    go_wp2
    go_ret2
    exact ⟨rfl, rfl⟩

theorem ret_int {k : IntKind} {a b : Int} (h : a = b) : Ending.returned (.int k a) = .returned (.int k b) := by rw [h]
theorem ret_two {k l : IntKind} {a b c d : Int} (h : a = b) (g : c = d) : Ending.returned (.tuple #[.int k a, .int l c]) = .returned (.tuple #[.int k b, .int l d]) := by rw [h, g]

set_option maxHeartbeats 400000 in
theorem size_any (a : Int) (w : World) (ha : inF a) :
    Calls Try.prog 27 #[.int .i64 a] w fun e w' => e = .returned (.int .u64 (ab a)) ∧ w' = w := by
  unfold inF at ha
  go_enter Try.func27, Try.ntmps27
  go_wp2
  all_goals (go_ret; refine ⟨ret_int ?_, rfl⟩; have := ab_of a; try rw [IntKind.wrap_u64, wrap64_of])
  all_goals omega

set_option maxHeartbeats 400000 in
theorem signed_any (n : Int) (b : Bool) (w : World) (ha : 0 ≤ n ∧ n ≤ 18446744073709551615) :
    Calls Try.prog 29 #[.int .u64 n, .bool b] w fun e w' => e = .returned (.tuple #[.int .i64 (sgR b n).1, .int .i64 (sgR b n).2]) ∧ w' = w := by
  rcases sgR_cases b n with ⟨h1, h2, h3⟩ | ⟨h1, h2, h3⟩ | ⟨h1, h2, h3⟩
  · subst h1
    rw [h3]; clear h3
    go_enter Try.func29, Try.ntmps29
    go_wp2
    go_ret2
    exact ⟨ret_two (by rw [IntKind.wrap_u64, wrap64_of]; omega) rfl, rfl⟩
  · subst h1
    rw [h3]; clear h3
    go_enter Try.func29, Try.ntmps29
    go_wp2
    go_ret2
    exact ⟨rfl, rfl⟩
  · rw [h3]; clear h3
    cases b
    · go_enter Try.func29, Try.ntmps29
      go_wp2
      go_ret2
      exact ⟨rfl, rfl⟩
    · have h4 : 9223372036854775808 < n := by simp at h2; omega
      clear h2
      go_enter Try.func29, Try.ntmps29
      go_wp2
      go_ret2
      exact ⟨rfl, rfl⟩




/-! ### math/bits.Mul64, and Mul over it -/
theorem low_half (a : Int) (h0 : 0 ≤ a) (h1 : a ≤ 18446744073709551615) : bits .and .u64 a 4294967295 = a % 4294967296 :=
  bits_mask .u64 64 (by decide) (fun n h0 h1 => by rw [IntKind.wrap_u64]; omega) 32 (by decide) a h0 (by omega)
theorem half_times {a b : Int} (a0 : 0 ≤ a) (a1 : a < 4294967296) (b0 : 0 ≤ b) (b1 : b < 4294967296) : 0 ≤ a * b ∧ a * b ≤ 18446744065119617025 :=
  ⟨Int.mul_nonneg a0 b0, by have := Int.mul_le_mul (show a ≤ 4294967295 by omega) (show b ≤ 4294967295 by omega) b0 (by decide); omega⟩
/-- The halves of two factors, their four products, and the two digits of the middle sum, each under a name. -/
theorem mul_setup (x y : Int) (h0 : 0 ≤ x) (h1 : x ≤ 18446744073709551615) (g0 : 0 ≤ y) (g1 : y ≤ 18446744073709551615) :
    ∃ x0 x1 y0 y1 a b c d t0 t1 : Int, bits .and .u64 x 4294967295 = x0 ∧ x / 4294967296 = x1 ∧ bits .and .u64 y 4294967295 = y0 ∧ y / 4294967296 = y1 ∧
      x1 * y1 = a ∧ x1 * y0 = b ∧ x0 * y1 = c ∧ x0 * y0 = d ∧ bits .and .u64 (b + d / 4294967296) 4294967295 = t0 ∧ (b + d / 4294967296) / 4294967296 = t1 ∧
      (0 ≤ a ∧ a ≤ 18446744065119617025) ∧ (0 ≤ b ∧ b ≤ 18446744065119617025) ∧ (0 ≤ c ∧ c ≤ 18446744065119617025) ∧ (0 ≤ d ∧ d ≤ 18446744065119617025) ∧ (0 ≤ t0 ∧ t0 < 4294967296) ∧ (0 ≤ t1 ∧ t1 < 4294967296) ∧
      a + t1 + (t0 + c) / 4294967296 = x * y / 18446744073709551616 ∧ a + t1 + (t0 + c) / 4294967296 ≤ 18446744073709551615 := by
  have ha := half_times (a := x / 4294967296) (b := y / 4294967296) (by omega) (by omega) (by omega) (by omega)
  have hb := half_times (a := x / 4294967296) (b := y % 4294967296) (by omega) (by omega) (by omega) (by omega)
  have hc := half_times (a := x % 4294967296) (b := y / 4294967296) (by omega) (by omega) (by omega) (by omega)
  have hd := half_times (a := x % 4294967296) (b := y % 4294967296) (by omega) (by omega) (by omega) (by omega)
  have e : x * y = x / 4294967296 * (y / 4294967296) * 18446744073709551616 + (x / 4294967296 * (y % 4294967296) + x % 4294967296 * (y / 4294967296)) * 4294967296 + x % 4294967296 * (y % 4294967296) := by
    have ex : x = x / 4294967296 * 4294967296 + x % 4294967296 := by omega
    have ey : y = y / 4294967296 * 4294967296 + y % 4294967296 := by omega
    generalize x / 4294967296 = p at *
    generalize x % 4294967296 = q at *
    generalize y / 4294967296 = r at *
    generalize y % 4294967296 = s at *
    rw [ex, ey, Int.add_mul, Int.mul_add, Int.mul_add, show p * 4294967296 * (r * 4294967296) = p * r * (4294967296 * 4294967296) by ac_rfl, show p * 4294967296 * s = p * s * 4294967296 by ac_rfl, show q * (r * 4294967296) = q * r * 4294967296 by ac_rfl]
    omega
  have hm : 0 ≤ x / 4294967296 * (y % 4294967296) + x % 4294967296 * (y % 4294967296) / 4294967296 ∧ x / 4294967296 * (y % 4294967296) + x % 4294967296 * (y % 4294967296) / 4294967296 ≤ 18446744073709551615 := by omega
  refine ⟨_, _, _, _, _, _, _, _, _, _, low_half x h0 h1, rfl, low_half y g0 g1, rfl, rfl, rfl, rfl, rfl, low_half _ hm.1 hm.2, rfl, ha, hb, hc, hd, by omega, by omega, ?_, ?_⟩
  · rw [e]; omega
  · omega

set_option maxHeartbeats 1000000 in
theorem mul64_any (x y : Int) (w : World) (h0 : 0 ≤ x) (h1 : x ≤ 18446744073709551615) (g0 : 0 ≤ y) (g1 : y ≤ 18446744073709551615) :
    Calls Try.prog 30 #[.int .u64 x, .int .u64 y] w fun e w' => e = .returned (.tuple #[.int .u64 (x * y / 18446744073709551616), .int .u64 (x * y % 18446744073709551616)]) ∧ w' = w := by
  obtain ⟨x0, x1, y0, y1, a, b, c, d, t0, t1, e1, e2, e3, e4, e5, e6, e7, e8, e9, e10, ba, bb, bc, bd, b0, b1, fin, top⟩ := mul_setup x y h0 h1 g0 g1
  rw [← fin]
  clear fin
  go_enter Try.func30, Try.ntmps30
  go_wp2
  go_ret2
  exact ⟨ret_two rfl (IntKind.wrap_u64 _), rfl⟩

set_option maxHeartbeats 400000 in
theorem mul_any (a b : Int) (w : World) (ha : inF a) (hb : inF b) :
    Calls Try.prog 26 #[.int .i64 a, .int .i64 b] w fun e w' => e = .returned (.tuple #[.int .i64 (mulR a b).1, .int .i64 (mulR a b).2]) ∧ w' = w := by
  have a0 := ab_nonneg a; have a1 := ab_le ha; have b0 := ab_nonneg b; have b1 := ab_le hb
  have p0 : 0 ≤ ab a * ab b := Int.mul_nonneg a0 b0
  unfold mulR sgn mulM
  by_cases h : ab a * ab b / 18446744073709551616 / 4294967296 = 0
  · have hq : 0 ≤ ab a * ab b / 18446744073709551616 ∧ ab a * ab b / 18446744073709551616 < 4294967296 := by omega
    have hor : bits .or .u64 (ab a * ab b / 18446744073709551616 * 4294967296) (ab a * ab b % 18446744073709551616 / 4294967296) = ab a * ab b / 4294967296 := by
      rw [or_halves _ _ hq.1 hq.2 (by omega) (by omega)]; omega
    go_enter Try.func26, Try.ntmps26
    go_wp2_with (first | (go_at_call 27; refine (size_any _ _ (by assumption)).mono ?_; rintro e w' ⟨rfl, rfl⟩) | (go_at_call 30; refine (mul64_any _ _ _ a0 (by omega) b0 (by omega)).mono ?_; rintro e w' ⟨rfl, rfl⟩) | (go_at_call 29; refine (signed_any _ _ _ (by omega)).mono ?_; rintro e w' ⟨rfl, rfl⟩))
    go_ret2
    exact ⟨rfl, rfl⟩
  · have hs : sgR (decide (a < 0) != decide (b < 0)) (ab a * ab b / 4294967296) = (0, 3) := by
      rcases sgR_cases (decide (a < 0) != decide (b < 0)) (ab a * ab b / 4294967296) with ⟨_, h2, _⟩ | ⟨_, h2, _⟩ | ⟨_, _, h3⟩
      · omega
      · omega
      · exact h3
    rw [hs]; clear hs
    go_enter Try.func26, Try.ntmps26
    go_wp2_with (first | (go_at_call 27; refine (size_any _ _ (by assumption)).mono ?_; rintro e w' ⟨rfl, rfl⟩) | (go_at_call 30; refine (mul64_any _ _ _ a0 (by omega) b0 (by omega)).mono ?_; rintro e w' ⟨rfl, rfl⟩))
    go_ret2
    exact ⟨rfl, rfl⟩
end Go.Proofs.Ytjkidepgjbnflab

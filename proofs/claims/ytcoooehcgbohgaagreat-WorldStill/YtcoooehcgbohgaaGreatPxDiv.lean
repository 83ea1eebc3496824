/-
  What math/bits.Div64 and fix.Div do: the quotient of 128 bits by 64, where it is one of 64 bits, by the library's own text; and Div over it, for whatever int64s; the world is as it was.
-/
import Derived.Test.YtcoooehcgbohgaaGreatPk01
namespace Go.Proofs.YtcoooehcgbohgaaGreat
open Go.RowKit

theorem lead_bounds (y : Nat) (h1 : 1 ≤ y) (h : y < 2 ^ 64) : Lib.bitLen y ≤ 64 ∧ 1 ≤ Lib.bitLen y ∧ 9223372036854775808 ≤ y * 2 ^ (64 - Lib.bitLen y) ∧ y * 2 ^ (64 - Lib.bitLen y) < 18446744073709551616 := by
  obtain ⟨r1, r2, r3, r4⟩ := bitLenAux_bounds 64 y h h1
  have e : Lib.bitLen y = Lib.bitLenAux 64 y := rfl
  rw [e]
  refine ⟨r2, r1, ?_, ?_⟩
  · have := Nat.mul_le_mul_right (2 ^ (64 - Lib.bitLenAux 64 y)) r3
    rw [← Nat.pow_add, show Lib.bitLenAux 64 y - 1 + (64 - Lib.bitLenAux 64 y) = 63 by omega] at this
    exact this
  · have := Nat.mul_lt_mul_of_pos_right r4 (Nat.two_pow_pos (64 - Lib.bitLenAux 64 y))
    rw [← Nat.pow_add, show Lib.bitLenAux 64 y + (64 - Lib.bitLenAux 64 y) = 64 by omega] at this
    exact this
set_option maxHeartbeats 400000 in
theorem lead_any (y : Int) (w : World) (h0 : 1 ≤ y) (h1 : y ≤ 18446744073709551615) :
    Calls Tryz.prog 92 #[.int .u64 y] w fun e w' => ∃ s : Nat, s ≤ 63 ∧ 9223372036854775808 ≤ y * 2 ^ s ∧ y * 2 ^ s < 18446744073709551616 ∧ e = .returned (.int .i64 (s : Int)) ∧ w' = w := by
  obtain ⟨y, rfl⟩ := Int.eq_ofNat_of_zero_le (show 0 ≤ y by omega)
  obtain ⟨b1, b2, b3, b4⟩ := lead_bounds y (by omega) (by omega)
  have c := len64_any y w (by omega) h1
  rw [Int.toNat_natCast] at c
  have e : (y : Int) * 2 ^ (64 - Lib.bitLen y) = ((y * 2 ^ (64 - Lib.bitLen y) : Nat) : Int) := by simp [Int.natCast_mul, Int.natCast_pow]
  have b3' : (9223372036854775808 : Int) ≤ (y : Int) * 2 ^ (64 - Lib.bitLen y) := by rw [e]; generalize y * 2 ^ (64 - Lib.bitLen y) = z at *; omega
  have b4' : (y : Int) * 2 ^ (64 - Lib.bitLen y) < 18446744073709551616 := by rw [e]; generalize y * 2 ^ (64 - Lib.bitLen y) = z at *; omega
  clear e b3 b4
  generalize Lib.bitLen y = n at *
  have h64 : (64 : Int) - n = ((64 - n : Nat) : Int) := by omega
  have B3 : Hid (_ ≤ _) := b3'; have B4 : Hid (_ < _) := b4'; have H64 : Hid (_ = _) := h64; clear b3' b4' h64
  go_enter Tryz.func92, Tryz.ntmps92
  go_wp2_with (go_at_call 112; refine c.mono ?_; rintro e w' ⟨rfl, rfl⟩)
  go_ret
  exact ⟨64 - n, by omega, B3.out, B4.out, ret_int H64.out, rfl⟩

set_option maxHeartbeats 400000 in
theorem div64_0 (lo y : Int) (w : World) (l0 : 0 ≤ lo) (l1 : lo ≤ 18446744073709551615) (y0 : 1 ≤ y) (y1 : y ≤ 18446744073709551615) :
    Calls Tryz.prog 70 #[.int .u64 0, .int .u64 lo, .int .u64 y] w fun e w' => ∃ r : Int, e = .returned (.tuple #[.int .u64 (lo / y), .int .u64 r]) ∧ ∃ n, w' = w.drewN n := by
  go_enter Tryz.func70, Tryz.ntmps70
  go_wp2
  go_region
  go_wp2
  go_ret2
  exact ⟨_, rfl, 1, rfl⟩

set_option maxHeartbeats 4000000 in
theorem div64_1 (hi lo y : Int) (w : World) (l0 : 0 ≤ lo) (l1 : lo ≤ 18446744073709551615) (y0 : 1 ≤ y) (y1 : y ≤ 18446744073709551615) (h0 : 1 ≤ hi) (h1 : hi < y) :
    Calls Tryz.prog 70 #[.int .u64 hi, .int .u64 lo, .int .u64 y] w fun e w' => ∃ r : Int, e = .returned (.tuple #[.int .u64 ((hi * 18446744073709551616 + lo) / y), .int .u64 r]) ∧ w' = w := by
  go_enter Tryz.func70, Tryz.ntmps70
  go_wp2_with (go_at_call 92; refine (lead_any y _ y0 y1).mono ?_; rintro e w' ⟨s, s1, n1, n2, rfl, rfl⟩; obtain ⟨Y, yn1, yn0, H, L1, U, V, un1, un0, e1, e2, e3, e4, e5, e6, e7, e8, e9, eY, a1, a2, b1, b2, c1, c2, c3, c4, c5, c6, c7, c8, c9, c10, c11, c12, fin⟩ := div_setup hi lo y s s1 l0 l1 y0 (by omega) h1 n1 n2; have EY : Hid (_ = _) := eY; have FIN : Hid (∀ _, _) := fin; clear eY fin n1 n2; obtain ⟨q, a, g1, g2, g3, g4, g5, g6, g7, g8⟩ := digit_start Y yn1 yn0 U un1 EY.out a1 a2 b1 b2 c4 c5 c10; have G8 : Hid (_ < _) := g8; clear g8)
  go_loop [15, 16] (fun q r => ∃ x ρ : Int, q = .int .u64 x ∧ r = .int .u64 ρ ∧ 0 ≤ x ∧ x ≤ 4294967297 ∧ 0 ≤ ρ ∧ ρ < 4294967296 ∧ x * yn1 + ρ = U ∧ U * 4294967296 + un1 < x * yn1 * 4294967296 + x * yn0 + Y) (fun q _ => (intOf q).toNat)
  case atStart => exact ⟨q, U - a, by first | rfl | rw [g1], rfl, g3, g4, by omega, g7, by omega, by rw [g2]; exact G8.out⟩
  case round =>
    obtain ⟨x, ρ, rfl, rfl, x0, x1, r0, r1, er, inv⟩ := hrel
    clear e1 e2 e3 e4 e5 e6 e7 e8 e9 c1 c2 c3 c7 c8
    rcases digit_cases hi lo y Y yn1 yn0 U un1 un0 x ρ EY.out a1 a2 b1 b2 c4 c5 c6 c9 c10 x0 x1 r0 r1 er inv FIN.out with ⟨t1, p0, p1, t2, t3, m1, m2, m3⟩ | ⟨t1, t3, m1, m2, m3⟩ | ⟨t1, p0, p1, t2, t3, m1, T, tT, T0, T1, X0, X1, fin2⟩ | ⟨t1, t3, m1, T, tT, T0, T1, X0, X1, fin2⟩ | ⟨t1, p0, p1, t2, T, tT, T0, T1, X0, X1, fin2⟩
    · have M2 : Hid (_ = _) := m2; have M3 : Hid (_ < _) := m3
      clear m2 m3 er inv g1 g2 g3 g4 g5 g6 g7 G8
      go_wp2
      go_round
      case rel => exact ⟨x - 1, ρ + yn1, rfl, rfl, by omega, by omega, by omega, t3, M2.out, M3.out⟩
      case measure => simp [intOf]; omega
    · have M2 : Hid (_ = _) := m2; have M3 : Hid (_ < _) := m3
      clear m2 m3 er inv g1 g2 g3 g4 g5 g6 g7 G8
      go_wp2
      go_round
      case rel => exact ⟨x - 1, ρ + yn1, rfl, rfl, by omega, by omega, by omega, t3, M2.out, M3.out⟩
      case measure => simp [intOf]; omega
    all_goals
      have FIN2 : Hid (∀ _, _) := fin2
      clear fin2 er inv g1 g2 g3 g4 g5 g6 g7 G8 FIN
      obtain ⟨q', a', g1, g2, g3, g4, g5, g6, g7, g8⟩ := digit_start Y yn1 yn0 T un0 EY.out a1 a2 b1 b2 T0 T1 c12
      have G8 : Hid (_ < _) := g8; clear g8
      go_wp2
      go_loop [18, 16] (fun q r => ∃ x ρ : Int, q = .int .u64 x ∧ r = .int .u64 ρ ∧ 0 ≤ x ∧ x ≤ 4294967297 ∧ 0 ≤ ρ ∧ ρ < 4294967296 ∧ x * yn1 + ρ = T ∧ T * 4294967296 + un0 < x * yn1 * 4294967296 + x * yn0 + Y) (fun q _ => (intOf q).toNat)
      case atStart => exact ⟨q', T - a', by first | rfl | rw [g1], rfl, g3, g4, by omega, g7, by omega, by rw [g2]; exact G8.out⟩
      case round =>
        obtain ⟨z, σ, rfl, rfl, z0, z1, s0, s1, es, inw⟩ := hrel
        obtain ⟨k1, k2, k3, k4⟩ := digit_round Y yn1 yn0 T un0 z σ EY.out a1 a2 b1 b2 T1 c11 c12 z0 z1 s0 s1 es inw
        clear es inw g1 g2 g3 g4 g5 g6 g7 G8 tT x0 x1 r0 r1
        by_cases v1 : z < 4294967296
        · obtain ⟨p0', p1'⟩ := k1 v1
          by_cases v2 : 4294967296 * σ + un0 < z * yn0
          · obtain ⟨m1, m2, m3⟩ := k2 (Or.inr ⟨v1, v2⟩)
            by_cases v3 : σ + yn1 < 4294967296
            · have M2 : Hid (_ = _) := m2; have M3 : Hid (_ < _) := m3
              clear m2 m3 k1 k2 k3 k4
              go_wp2
              go_round
              case rel => exact ⟨z - 1, σ + yn1, rfl, rfl, by omega, by omega, by omega, v3, M2.out, M3.out⟩
              case measure => simp [intOf]; omega
            · obtain ⟨n1, n2, n3⟩ := k3 (Or.inr ⟨v1, v2⟩) (by omega)
              have E : Hid (_ = _) := FIN2.out (z - 1) n2 n3
              clear m2 m3 k1 k2 k3 k4 n2 n3
              go_wp2
              go_ret2
              exact ⟨⟨_, ret_two E.out.symm rfl⟩, rfl⟩
          · obtain ⟨n2, n3⟩ := k4 v1 (by omega)
            have E : Hid (_ = _) := FIN2.out z n2 n3
            clear k1 k2 k3 k4 n2 n3
            go_wp2
            go_ret2
            exact ⟨⟨_, ret_two E.out.symm rfl⟩, rfl⟩
        · obtain ⟨m1, m2, m3⟩ := k2 (Or.inl (by omega))
          by_cases v3 : σ + yn1 < 4294967296
          · have M2 : Hid (_ = _) := m2; have M3 : Hid (_ < _) := m3
            clear m2 m3 k1 k2 k3 k4
            go_wp2
            go_round
            case rel => exact ⟨z - 1, σ + yn1, rfl, rfl, by omega, by omega, by omega, v3, M2.out, M3.out⟩
            case measure => simp [intOf]; omega
          · obtain ⟨n1, n2, n3⟩ := k3 (Or.inl (by omega)) (by omega)
            have E : Hid (_ = _) := FIN2.out (z - 1) n2 n3
            clear m2 m3 k1 k2 k3 k4 n2 n3
            go_wp2
            go_ret2
            exact ⟨⟨_, ret_two E.out.symm rfl⟩, rfl⟩

theorem div64_any (hi lo y : Int) (w : World) (l0 : 0 ≤ lo) (l1 : lo ≤ 18446744073709551615) (y0 : 1 ≤ y) (y1 : y ≤ 18446744073709551615) (h0 : 0 ≤ hi) (h1 : hi < y) :
    Calls Tryz.prog 70 #[.int .u64 hi, .int .u64 lo, .int .u64 y] w fun e w' => ∃ r : Int, e = .returned (.tuple #[.int .u64 ((hi * 18446744073709551616 + lo) / y), .int .u64 r]) ∧ ∃ n, w' = w.drewN n := by
  by_cases h : hi = 0
  · subst h
    have e : (0 * 18446744073709551616 + lo) / y = lo / y := by rw [Int.zero_mul, Int.zero_add]
    rw [e]
    exact div64_0 lo y w l0 l1 y0 y1
  · exact (div64_1 hi lo y w l0 l1 y0 y1 (by omega) h1).mono fun e w' ⟨r, he, hw⟩ => ⟨r, he, 0, hw⟩
end Go.Proofs.YtcoooehcgbohgaaGreat

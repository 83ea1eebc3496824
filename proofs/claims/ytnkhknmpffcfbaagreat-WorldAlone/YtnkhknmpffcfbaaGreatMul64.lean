/-
  What math/bits.Mul64 does: the two words of a product, for whatever uint64s; the world is as it was.
-/
import Derived.Test.YtnkhknmpffcfbaaGreatRows
import Derived.Test.YtnkhknmpffcfbaaGreatNum
import Derived.WalkKit
import Derived.WalkSpells
import Derived.WalkLawsBesides
namespace Go.Proofs.YtnkhknmpffcfbaaGreat
open Go.RowKit

theorem ret_int {k : IntKind} {a b : Int} (h : a = b) : Ending.returned (.int k a) = .returned (.int k b) := by rw [h]
theorem ret_two {k l : IntKind} {a b c d : Int} (h : a = b) (g : c = d) : Ending.returned (.tuple #[.int k a, .int l c]) = .returned (.tuple #[.int k b, .int l d]) := by rw [h, g]

theorem low_half (a : Int) (h0 : 0 ≤ a) (h1 : a ≤ 18446744073709551615) : bits .and .u64 a 4294967295 = a % 4294967296 :=
  bits_mask .u64 64 (by decide) (fun n h0 h1 => by rw [IntKind.wrap_u64]; omega) 32 (by decide) a h0 (by omega)
theorem half_times {a b : Int} (a0 : 0 ≤ a) (a1 : a < 4294967296) (b0 : 0 ≤ b) (b1 : b < 4294967296) : 0 ≤ a * b ∧ a * b ≤ 18446744065119617025 :=
  ⟨Int.mul_nonneg a0 b0, by have := Int.mul_le_mul (show a ≤ 4294967295 by omega) (show b ≤ 4294967295 by omega) b0 (by decide); omega⟩
/-- The halves of two factors, their four products, and the two digits of the middle sum, each under a name. -/
theorem mul_setup (x y : Int) (h0 : 0 ≤ x) (h1 : x ≤ 18446744073709551615) (g0 : 0 ≤ y) (g1 : y ≤ 18446744073709551615) :
    ∃ x0 x1 y0 y1 a b c d t0 t1 : Int, bits .and .u64 x 4294967295 = x0 ∧ x / 4294967296 = x1 ∧ bits .and .u64 y 4294967295 = y0 ∧ y / 4294967296 = y1 ∧
      x1 * y1 = a ∧ x1 * y0 = b ∧ x0 * y1 = c ∧ x0 * y0 = d ∧ bits .and .u64 (b + d / 4294967296) 4294967295 = t0 ∧ (b + d / 4294967296) / 4294967296 = t1 ∧
      (0 ≤ a ∧ a ≤ 18446744065119617025) ∧ (0 ≤ b ∧ b ≤ 18446744065119617025) ∧ (0 ≤ c ∧ c ≤ 18446744065119617025) ∧ (0 ≤ d ∧ d ≤ 18446744065119617025) ∧ (0 ≤ t0 ∧ t0 < 4294967296) ∧ (0 ≤ t1 ∧ t1 < 4294967296) ∧
      a + t1 + (t0 + c) / 4294967296 = x * y / 18446744073709551616 ∧ a + t1 + (t0 + c) / 4294967296 ≤ 18446744073709551615 := by
  have ha := half_times (a := x / 4294967296) (b := y / 4294967296) (by omega) (by omega) (by omega) (by omega)
  have hb := half_times (a := x / 4294967296) (b := y % 4294967296) (by omega) (by omega) (by omega) (by omega)
  have hc := half_times (a := x % 4294967296) (b := y / 4294967296) (by omega) (by omega) (by omega) (by omega)
  have hd := half_times (a := x % 4294967296) (b := y % 4294967296) (by omega) (by omega) (by omega) (by omega)
  have e : x * y = x / 4294967296 * (y / 4294967296) * 18446744073709551616 + (x / 4294967296 * (y % 4294967296) + x % 4294967296 * (y / 4294967296)) * 4294967296 + x % 4294967296 * (y % 4294967296) := by
    have ex : x = x / 4294967296 * 4294967296 + x % 4294967296 := by omega
    have ey : y = y / 4294967296 * 4294967296 + y % 4294967296 := by omega
    generalize x / 4294967296 = p at *
    generalize x % 4294967296 = q at *
    generalize y / 4294967296 = r at *
    generalize y % 4294967296 = s at *
    rw [ex, ey, Int.add_mul, Int.mul_add, Int.mul_add, show p * 4294967296 * (r * 4294967296) = p * r * (4294967296 * 4294967296) by ac_rfl, show p * 4294967296 * s = p * s * 4294967296 by ac_rfl, show q * (r * 4294967296) = q * r * 4294967296 by ac_rfl]
    omega
  have hm : 0 ≤ x / 4294967296 * (y % 4294967296) + x % 4294967296 * (y % 4294967296) / 4294967296 ∧ x / 4294967296 * (y % 4294967296) + x % 4294967296 * (y % 4294967296) / 4294967296 ≤ 18446744073709551615 := by omega
  refine ⟨_, _, _, _, _, _, _, _, _, _, low_half x h0 h1, rfl, low_half y g0 g1, rfl, rfl, rfl, rfl, rfl, low_half _ hm.1 hm.2, rfl, ha, hb, hc, hd, by omega, by omega, ?_, ?_⟩
  · rw [e]; omega
  · omega

set_option maxHeartbeats 1000000 in
theorem mul64_any (x y : Int) (w : World) (h0 : 0 ≤ x) (h1 : x ≤ 18446744073709551615) (g0 : 0 ≤ y) (g1 : y ≤ 18446744073709551615) :
    Calls Tryz.prog 63 #[.int .u64 x, .int .u64 y] w fun e w' => e = .returned (.tuple #[.int .u64 (x * y / 18446744073709551616), .int .u64 (x * y % 18446744073709551616)]) ∧ w' = w := by
  obtain ⟨x0, x1, y0, y1, a, b, c, d, t0, t1, e1, e2, e3, e4, e5, e6, e7, e8, e9, e10, ba, bb, bc, bd, b0, b1, fin, top⟩ := mul_setup x y h0 h1 g0 g1
  rw [← fin]
  clear fin
  go_enter Tryz.func63, Tryz.ntmps63
  go_wp2
  go_ret2
  exact ⟨ret_two rfl (IntKind.wrap_u64 _), rfl⟩

/-- The two words of a product, each under a name. -/
def words (x y h l : Int) : Prop := (0 ≤ x ∧ x ≤ 18446744073709551615) ∧ (0 ≤ y ∧ y ≤ 18446744073709551615) ∧ x * y / 18446744073709551616 = h ∧ x * y % 18446744073709551616 = l
theorem mul64_w {x y h l : Int} (k : words x y h l) (w : World) :
    Calls Tryz.prog 63 #[.int .u64 x, .int .u64 y] w fun e w' => e = .returned (.tuple #[.int .u64 h, .int .u64 l]) ∧ w' = w := by
  obtain ⟨⟨a, b⟩, ⟨c, d⟩, rfl, rfl⟩ := k
  exact mul64_any x y w a b c d
end Go.Proofs.YtnkhknmpffcfbaaGreat

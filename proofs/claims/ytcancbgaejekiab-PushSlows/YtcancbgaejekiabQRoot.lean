/-
  What package root's inner calls do: the two words of a square, of a sum, which of two is above, how many bits; for whatever words; more blocks are in memory, and nothing else.
-/
import Derived.Test.YtcancbgaejekiabLen64
import Derived.Test.YtcancbgaejekiabQNum
import Derived.Test.YtcancbgaejekiabCWorld
import Derived.LoopTactic
import Derived.Laws.Externs
namespace Go.Proofs.Ytcancbgaejekiab
open Go.RowKit

/-- A number of 128 bits as the code has it. -/
def wide (n : Int) : Value := .agg #[.int .u64 (n / 18446744073709551616), .int .u64 (n % 18446744073709551616)]

theorem bitLen_over (x : Nat) (h : x < 2 ^ 64) : Lib.bitLen x ≤ 64 ∧ x < 2 ^ Lib.bitLen x := by
  by_cases g : x = 0
  · subst g; decide
  · obtain ⟨_, h2, _, h4⟩ := bitLenAux_bounds 64 x h (by omega)
    exact ⟨h2, h4⟩
theorem wide_over (a : Int) (h0 : 0 ≤ a) (h1 : a ≤ 340282366920938463463374607431768211455) :
    ((a / 18446744073709551616 != 0) = true → a < 2 ^ (64 + Lib.bitLen (a / 18446744073709551616).toNat) ∧ Lib.bitLen (a / 18446744073709551616).toNat ≤ 64) ∧
    (a / 18446744073709551616 = 0 → a < 2 ^ Lib.bitLen (a % 18446744073709551616).toNat ∧ Lib.bitLen (a % 18446744073709551616).toNat ≤ 64) := by
  obtain ⟨n, rfl⟩ := Int.eq_ofNat_of_zero_le h0
  have e1 : ((n : Int) / 18446744073709551616).toNat = n / 18446744073709551616 := by omega
  have e2 : ((n : Int) % 18446744073709551616).toNat = n % 18446744073709551616 := by omega
  rw [e1, e2]
  obtain ⟨p1, p2⟩ := bitLen_over (n / 18446744073709551616) (by omega)
  obtain ⟨q1, q2⟩ := bitLen_over (n % 18446744073709551616) (by omega)
  refine ⟨fun _ => ⟨?_, p1⟩, fun hz => ⟨?_, q1⟩⟩
  · have : n < 2 ^ (64 + Lib.bitLen (n / 18446744073709551616)) := by
      rw [Nat.pow_add]
      have := Nat.mul_le_mul_left (2 ^ 64) p2
      omega
    exact_mod_cast this
  · have : n < 2 ^ Lib.bitLen (n % 18446744073709551616) := by omega
    exact_mod_cast this

theorem add_words (a b : Int) (a0 : 0 ≤ a) (b0 : 0 ≤ b) (h : a + b ≤ 340282366920938463463374607431768211455) :
    (a / 18446744073709551616 + b / 18446744073709551616 + (a % 18446744073709551616 + b % 18446744073709551616 + 0) / 18446744073709551616) % 18446744073709551616 = (a + b) / 18446744073709551616 ∧ (a % 18446744073709551616 + b % 18446744073709551616 + 0) % 18446744073709551616 = (a + b) % 18446744073709551616 := by omega

end Go.Proofs.Ytcancbgaejekiab

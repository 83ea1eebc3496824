/-
  What math/bits.Div64 and fix.Div do: the quotient of 128 bits by 64, where it is one of 64 bits, by the library's own text; and Div over it, for whatever int64s; the world is as it was.
-/
import Derived.Test.YtlfncfjlfccfhaaFix
import Derived.Test.YtlfncfjlfccfhaaDivNum
import Derived.Test.YtlfncfjlfccfhaaLen64
namespace Go.Proofs.Ytlfncfjlfccfhaa
open Go.RowKit

theorem lead_bounds (y : Nat) (h1 : 1 ≤ y) (h : y < 2 ^ 64) : Lib.bitLen y ≤ 64 ∧ 1 ≤ Lib.bitLen y ∧ 9223372036854775808 ≤ y * 2 ^ (64 - Lib.bitLen y) ∧ y * 2 ^ (64 - Lib.bitLen y) < 18446744073709551616 := by
  obtain ⟨r1, r2, r3, r4⟩ := bitLenAux_bounds 64 y h h1
  have e : Lib.bitLen y = Lib.bitLenAux 64 y := rfl
  rw [e]
  refine ⟨r2, r1, ?_, ?_⟩
  · have := Nat.mul_le_mul_right (2 ^ (64 - Lib.bitLenAux 64 y)) r3
    rw [← Nat.pow_add, show Lib.bitLenAux 64 y - 1 + (64 - Lib.bitLenAux 64 y) = 63 by omega] at this
    exact this
  · have := Nat.mul_lt_mul_of_pos_right r4 (Nat.two_pow_pos (64 - Lib.bitLenAux 64 y))
    rw [← Nat.pow_add, show Lib.bitLenAux 64 y + (64 - Lib.bitLenAux 64 y) = 64 by omega] at this
    exact this
end Go.Proofs.Ytlfncfjlfccfhaa

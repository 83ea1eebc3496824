/-
  The document's own roots (maquetteref1's Root, Calc.Sqrt, Calc.Len): what the plain functions say, for whatever numbers.
-/
import Derived.Test.YtlfncfjlfccfhaaQOf
import Derived.Test.YtlfncfjlfccfhaaRefBase
namespace Go.Proofs.Ytlfncfjlfccfhaa
open Go.RowKit

theorem OfRel.first (n : Int) (h0 : 0 ≤ n) (h1 : n ≤ 340282366920938463463374607431768211455) : OfRel n 0 64 :=
  ⟨by decide, by decide, by decide, by decide, by omega, by omega⟩
theorem sg_sq (a : Int) (h : 0 ≤ a) (h1 : a ≤ 9223372036854775807) : sqR a = sgR false (rt (a * 4294967296)) ∧ 0 ≤ rt (a * 4294967296) ∧ rt (a * 4294967296) ≤ 18446744073709551615 := by
  have k := rt_is (n := a * 4294967296) (by omega) (by omega)
  have e : sqR a = (rt (a * 4294967296), 0) := if_neg (by omega)
  rw [e]
  generalize rt (a * 4294967296) = r at *
  have l : r < 281474976710656 := lt_sq (by decide) (by have := k.2.1; omega)
  have := k.1
  rcases sgR_cases false r with ⟨h, _, _⟩ | ⟨_, _, h⟩ | ⟨h, _, _⟩
  · cases h
  · exact ⟨h.symm, by omega, by omega⟩
  · omega
theorem sg_len (x y : Int) (hx : inF x) (hy : inF y) : lenR x y = sgR false (rt (x * x + y * y)) ∧ 0 ≤ rt (x * x + y * y) ∧ rt (x * x + y * y) ≤ 18446744073709551615 := by
  obtain ⟨s0, s1⟩ := inF_sum hx hy
  refine ⟨?_, rt_u64 s0 s1⟩
  unfold lenR
  generalize rt (x * x + y * y) = r at *
  rcases sgR_cases false r with ⟨h, _, _⟩ | ⟨_, g, h⟩ | ⟨g, _, h⟩
  · cases h
  · rw [h, if_pos g]
  · rw [h, if_neg (by omega)]


end Go.Proofs.Ytlfncfjlfccfhaa

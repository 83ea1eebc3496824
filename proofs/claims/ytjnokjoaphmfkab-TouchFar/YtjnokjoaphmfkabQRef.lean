/-
  The document's own roots (maquetteref1's Root, Calc.Sqrt, Calc.Len): what the plain functions say, for whatever numbers.
-/
import Derived.Test.YtjnokjoaphmfkabQOf
import Derived.Test.YtjnokjoaphmfkabRefBase
namespace Go.Proofs.Ytjnokjoaphmfkab
open Go.RowKit

/-- The two words of a number. -/
def wordsOf (n h l : Int) : Prop := (0 ≤ n ∧ n ≤ 340282366920938463463374607431768211455) ∧ n / 18446744073709551616 = h ∧ n % 18446744073709551616 = l
theorem OfRel.first (n : Int) (h0 : 0 ≤ n) (h1 : n ≤ 340282366920938463463374607431768211455) : OfRel n 0 64 :=
  ⟨by decide, by decide, by decide, by decide, by omega, by omega⟩
theorem root_test (n y h l : Int) (k : wordsOf n h l) (y0 : 0 ≤ y) (y1 : y ≤ 18446744073709551615) :
    ∃ H L : Int, words y y H L ∧ ((y * y ≤ n ∧ H < h) ∨ (y * y ≤ n ∧ ¬ H < h ∧ H = h ∧ L ≤ l) ∨ (n < y * y ∧ ¬ H < h ∧ H = h ∧ ¬ L ≤ l) ∨ (n < y * y ∧ ¬ H < h ∧ (H == h) = false)) := by
  obtain ⟨_, rfl, rfl⟩ := k
  refine ⟨_, _, ⟨⟨y0, y1⟩, ⟨y0, y1⟩, rfl, rfl⟩, ?_⟩
  generalize y * y = q
  have e : ∀ a b : Int, (a == b) = false ↔ ¬ a = b := fun a b => by simp
  rw [e]
  omega

theorem sg_sq (a : Int) (h : 0 ≤ a) (h1 : a ≤ 9223372036854775807) : sqR a = sgR false (rt (a * 4294967296)) ∧ 0 ≤ rt (a * 4294967296) ∧ rt (a * 4294967296) ≤ 18446744073709551615 := by
  have k := rt_is (n := a * 4294967296) (by omega) (by omega)
  have e : sqR a = (rt (a * 4294967296), 0) := if_neg (by omega)
  rw [e]
  generalize rt (a * 4294967296) = r at *
  have l : r < 281474976710656 := lt_sq (by decide) (by have := k.2.1; omega)
  have := k.1
  rcases sgR_cases false r with ⟨h, _, _⟩ | ⟨_, _, h⟩ | ⟨h, _, _⟩
  · cases h
  · exact ⟨h.symm, by omega, by omega⟩
  · omega
theorem sg_len (x y : Int) (hx : inF x) (hy : inF y) : lenR x y = sgR false (rt (x * x + y * y)) ∧ 0 ≤ rt (x * x + y * y) ∧ rt (x * x + y * y) ≤ 18446744073709551615 := by
  obtain ⟨s0, s1⟩ := inF_sum hx hy
  refine ⟨?_, rt_u64 s0 s1⟩
  unfold lenR
  generalize rt (x * x + y * y) = r at *
  rcases sgR_cases false r with ⟨h, _, _⟩ | ⟨_, g, h⟩ | ⟨g, _, h⟩
  · cases h
  · rw [h, if_pos g]
  · rw [h, if_neg (by omega)]


theorem two_sums (p q : Int) (p0 : 0 ≤ p) (p1 : p ≤ 85070591730234615865843651857942052864) (q0 : 0 ≤ q) (q1 : q ≤ 85070591730234615865843651857942052864) :
    ∃ S C T : Int, (∀ w, (callFunc 46 #[.int .u64 (p % 18446744073709551616), .int .u64 (q % 18446744073709551616), .int .u64 0]).run Try.prog w = .ok (.value (.tuple #[.int .u64 S, .int .u64 C])) w) ∧
      (∀ w, (callFunc 46 #[.int .u64 (p / 18446744073709551616), .int .u64 (q / 18446744073709551616), .int .u64 C]).run Try.prog w = .ok (.value (.tuple #[.int .u64 T, .int .u64 0])) w) ∧ wordsOf (p + q) T S := by
  refine ⟨_, _, (p + q) / 18446744073709551616, fun w => call_add64 _ _ _ w (by omega) (by omega) (by omega) (by omega), fun w => ?_, ⟨by omega, rfl, by omega⟩⟩
  rw [call_add64 _ _ _ w (by omega) (by omega) (by omega) (by omega)]
  have e1 : (p / 18446744073709551616 + q / 18446744073709551616 + (p % 18446744073709551616 + q % 18446744073709551616 + 0) / 18446744073709551616) / 18446744073709551616 = 0 := by omega
  have e2 : (p / 18446744073709551616 + q / 18446744073709551616 + (p % 18446744073709551616 + q % 18446744073709551616 + 0) / 18446744073709551616) % 18446744073709551616 = (p + q) / 18446744073709551616 := by omega
  rw [e1, e2]

end Go.Proofs.Ytjnokjoaphmfkab

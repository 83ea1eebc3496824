/-
  What package root's rootOf, Int, Sqrt and Len do: the whole root, for whatever words; more blocks are in memory, and nothing else.
-/
import Derived.Test.YtcancbgaejekiabQRoot
import Derived.Deep.RegionWith
namespace Go.Proofs.Ytcancbgaejekiab
open Go.RowKit

/-- With the root so far x, of which the j lowest bits lack. -/
def OfRel (n x : Int) (j : Nat) : Prop := j ≤ 64 ∧ 0 ≤ x ∧ x % 2 ^ j = 0 ∧ x + 2 ^ j ≤ 18446744073709551616 ∧ x * x ≤ n ∧ n < (x + 2 ^ j) * (x + 2 ^ j)
theorem OfRel.start (n : Int) (l : Nat) (h0 : 0 ≤ n) (hl : l ≤ 128) (hn : n < 2 ^ l) : OfRel n 0 ((l + 1) / 2) := by
  refine ⟨by omega, Int.le_refl 0, Int.zero_emod _, ?_, by omega, ?_⟩
  · rw [Int.zero_add]
    have h : 2 ^ ((l + 1) / 2) ≤ 2 ^ 64 := Nat.pow_le_pow_right (by decide) (by omega)
    have e : ((2 ^ ((l + 1) / 2) : Nat) : Int) = (2 : Int) ^ ((l + 1) / 2) := by simp
    rw [← e]
    omega
  · rw [Int.zero_add, ← Int.pow_add]
    have : 2 ^ l ≤ 2 ^ ((l + 1) / 2 + (l + 1) / 2) := Nat.pow_le_pow_right (by decide) (by omega)
    have : (2 : Int) ^ l ≤ 2 ^ ((l + 1) / 2 + (l + 1) / 2) := by exact_mod_cast this
    omega
theorem OfRel.stop {n x : Int} (h1 : n ≤ 340282366920938463463374607431768211455) (h : OfRel n x 0) : rt n = x := by
  obtain ⟨_, a, _, _, b, c⟩ := h
  exact rt_eq ⟨a, b, by simpa using c⟩ h1
theorem OfRel.bit {n x : Int} {j : Nat} (h : OfRel n x (j + 1)) : bits .or .u64 x (2 ^ j) = x + 2 ^ j ∧ (0 : Int) < 2 ^ j ∧ 0 ≤ x + 2 ^ j ∧ x + 2 ^ j ≤ 18446744073709551615 := by
  obtain ⟨a, b, c, d, _, _⟩ := h
  have p : (0 : Int) < 2 ^ j := by have := Nat.two_pow_pos j; exact_mod_cast this
  have e : (2 : Int) ^ (j + 1) = 2 * 2 ^ j := by rw [Int.pow_succ]; omega
  rw [e] at d
  refine ⟨bits_join .u64 64 (by decide) (fun n h0 h1 => by rw [IntKind.wrap_u64]; omega) (j + 1) _ _ b c (by omega) (by omega) (by rw [e]; omega) (by omega), p, by omega, by omega⟩
theorem OfRel.take {n x : Int} {j : Nat} (h : OfRel n x (j + 1)) (g : (x + 2 ^ j) * (x + 2 ^ j) ≤ n) : OfRel n (x + 2 ^ j) j := by
  obtain ⟨a, b, c, d, f, i⟩ := h
  have p : (0 : Int) < 2 ^ j := by have := Nat.two_pow_pos j; exact_mod_cast this
  have e : (2 : Int) ^ (j + 1) = 2 ^ j + 2 ^ j := by rw [Int.pow_succ]; omega
  rw [e] at d i
  rw [Int.pow_succ] at c
  refine ⟨by omega, by omega, ?_, by omega, g, by rw [Int.add_assoc]; exact i⟩
  rw [Int.add_emod_right]
  exact Int.emod_eq_zero_of_dvd (Int.dvd_trans ⟨2, rfl⟩ (Int.dvd_of_emod_eq_zero c))
theorem OfRel.leave {n x : Int} {j : Nat} (h : OfRel n x (j + 1)) (g : n < (x + 2 ^ j) * (x + 2 ^ j)) : OfRel n x j := by
  obtain ⟨a, b, c, d, f, i⟩ := h
  have p : (0 : Int) < 2 ^ j := by have := Nat.two_pow_pos j; exact_mod_cast this
  have e : (2 : Int) ^ (j + 1) = 2 ^ j + 2 ^ j := by rw [Int.pow_succ]; omega
  rw [e] at d i
  rw [Int.pow_succ] at c
  refine ⟨by omega, b, ?_, by omega, f, g⟩
  exact Int.emod_eq_zero_of_dvd (Int.dvd_trans ⟨2, rfl⟩ (Int.dvd_of_emod_eq_zero c))

theorem wide_small (n : Int) (h0 : 0 ≤ n) (h1 : n ≤ 18446744073709551615) : wide n = .agg #[.int .u64 0, .int .u64 n] := by
  unfold wide
  rw [show n / 18446744073709551616 = 0 by omega, show n % 18446744073709551616 = n by omega]


end Go.Proofs.Ytcancbgaejekiab

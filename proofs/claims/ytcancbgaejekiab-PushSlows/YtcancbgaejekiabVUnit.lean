/-
  What package vec's calls do: what the plain functions say, or a panic of a Fault of the first error; more blocks are in memory, and nothing else.
-/
import Derived.Test.YtcancbgaejekiabVNum
import Derived.Test.YtcancbgaejekiabVCalls
import Derived.Deep.RegionHeld2
import Derived.Deep.DeepFit
namespace Go.Proofs.Ytcancbgaejekiab
open Go.RowKit

/-- How Unit ends. -/
def outU (t : (Int × Int) × Int × Int) : Ending := if t.2.2 = 0 then .returned (.tuple #[vec t.1.1 t.1.2, .int .i64 t.2.1]) else .panicked [fault t.2.2]
theorem unitR_no {x y : Int} (h : ¬ (lenR x y).2 = 0) : outU (unitR x y) = .panicked [fault (lenR x y).2] := by unfold unitR; rw [if_neg h]; exact if_neg h
theorem unitR_zero {x y : Int} (h : (lenR x y).2 = 0) (g : (lenR x y).1 = 0) : unitR x y = ((0, 0), 0, 0) := by unfold unitR; rw [if_pos h, if_pos g]
theorem unitR_ok {x y : Int} (h : (lenR x y).2 = 0) (g : ¬ (lenR x y).1 = 0) (i : (two (divR x (lenR x y).1) (divR y (lenR x y).1)).2.2 = 0) : unitR x y = (((divR x (lenR x y).1).1, (divR y (lenR x y).1).1), (lenR x y).1, 0) := by unfold unitR; rw [if_pos h, if_neg g, if_pos i]
theorem unitR_bad {x y : Int} (h : (lenR x y).2 = 0) (g : ¬ (lenR x y).1 = 0) (i : ¬ (two (divR x (lenR x y).1) (divR y (lenR x y).1)).2.2 = 0) : outU (unitR x y) = .panicked [fault (two (divR x (lenR x y).1) (divR y (lenR x y).1)).2.2] := by unfold unitR; rw [if_pos h, if_neg g, if_neg i]; exact if_neg i
theorem lenR_in {x y : Int} (hx : inF x) (hy : inF y) : inF (lenR x y).1 := by
  unfold lenR
  have h := rt_u64 (inF_sum hx hy).1 (inF_sum hx hy).2
  split
  · exact ⟨by simp; omega, by simp; omega⟩
  · exact ⟨by decide, by decide⟩
theorem two_fst {r s : Int × Int} (h : (two r s).2.2 = 0) : r.2 = 0 ∧ s.2 = 0 := by
  unfold two at h
  by_cases h1 : r.2 = 0
  · rw [if_pos h1] at h
    by_cases h2 : s.2 = 0
    · exact ⟨h1, h2⟩
    · rw [if_neg h2] at h; exact absurd h h2
  · rw [if_neg h1] at h; exact absurd h h1
theorem tdiv_in {a n : Int} (ha : -9223372036854775808 ≤ a ∧ a ≤ 9223372036854775807) (hn : ¬ n = 0) (h : ¬ (a = -9223372036854775808 ∧ n = -1)) : -9223372036854775808 ≤ a.tdiv n ∧ a.tdiv n ≤ 9223372036854775807 := by
  have e : (a.tdiv n).natAbs = a.natAbs / n.natAbs := Int.natAbs_tdiv a n
  by_cases h1 : n = 1
  · rw [h1, Int.tdiv_one]; exact ha
  by_cases h2 : n = -1
  · rw [h2, show (-1 : Int) = -(1) from rfl, Int.tdiv_neg, Int.tdiv_one]; omega
  have h3 : 2 ≤ n.natAbs := by omega
  have : a.natAbs / n.natAbs ≤ a.natAbs / 2 := Nat.div_le_div_left h3 (by decide)
  generalize a.tdiv n = q at *
  generalize a.natAbs / n.natAbs = m at *
  omega
end Go.Proofs.Ytcancbgaejekiab

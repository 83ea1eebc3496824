/-
  Plain numbers, no program in sight: boxes, and what chapter 8's calls answer of them. Nothing is claimed here.
-/
import Derived.Test.YtnkhknmpffcfbaaGreatXBox
import Derived.Test.YtnkhknmpffcfbaaGreatBNum
namespace Go.Proofs.YtnkhknmpffcfbaaGreat
open Go Go.RowKit

def bothB (a b : Bx) : Bx := ⟨min a.l b.l, min a.m b.m, max a.h b.h, max a.k b.k⟩
def inB (x y : Int) (b : Bx) : Bool := noneB b.l b.m x y && noneB x y b.h b.k
def nearI (a l h : Int) : Int := if a < l then l else if h < a then h else a
theorem inB_iff (x y : Int) (b : Bx) : inB x y b = true ↔ (b.l ≤ x ∧ b.m ≤ y) ∧ x ≤ b.h ∧ y ≤ b.k := by unfold inB; rw [Bool.and_eq_true, noneB_iff, noneB_iff]
theorem near_low {a l h : Int} (g : a < l) : nearI a l h = l := if_pos g
theorem near_high {a l h : Int} (g : ¬ a < l) (g2 : h < a) : nearI a l h = h := by unfold nearI; rw [if_neg g, if_pos g2]
theorem near_self {a l h : Int} (g : ¬ a < l) (g2 : ¬ h < a) : nearI a l h = a := by unfold nearI; rw [if_neg g, if_neg g2]
theorem near_cases (a l h : Int) : (a < l ∧ nearI a l h = l) ∨ (l ≤ a ∧ h < a ∧ nearI a l h = h) ∨ (l ≤ a ∧ a ≤ h ∧ nearI a l h = a) := by
  by_cases g : a < l
  · exact .inl ⟨g, near_low g⟩
  · by_cases g2 : h < a
    · exact .inr (.inl ⟨by omega, g2, near_high g g2⟩)
    · exact .inr (.inr ⟨by omega, by omega, near_self g g2⟩)
theorem near_in {a l h : Int} (i : inF a) (j : inF l) (k : inF h) : inF (nearI a l h) := by
  rcases near_cases a l h with ⟨_, e⟩ | ⟨_, _, e⟩ | ⟨_, _, e⟩ <;> rw [e] <;> assumption
/-- How far a body goes from its place, in Y (in X: B.a). -/
def reachY (B : Bd) : Int := if B.s = 1 then B.a else B.b
theorem reach_ball {B : Bd} (h : B.s = 1) : reachY B = B.a := if_pos h
theorem reach_else {B : Bd} (h : ¬ B.s = 1) : reachY B = B.b := if_neg h
theorem reach_in {B : Bd} (h : B.ok) : inF (reachY B) := by
  by_cases g : B.s = 1
  · rw [reach_ball g]; exact h.a
  · rw [reach_else g]; exact h.b
/-- Two corners, or the first error. -/
def pairX (s t : Int × Int × Int) : Bx × Int := if s.2.2 = 0 then (if t.2.2 = 0 then (⟨s.1, s.2.1, t.1, t.2.1⟩, 0) else (⟨0, 0, 0, 0⟩, t.2.2)) else (⟨0, 0, 0, 0⟩, s.2.2)
/-- The box around a body. -/
def boxR (B : Bd) : Bx × Int := pairX (two (subR B.p B.a) (subR B.q (reachY B))) (two (addR B.p B.a) (addR B.q (reachY B)))
/-- How a call ends that answers a box, or throws. -/
def outX (t : Bx × Int) : Ending := if t.2 = 0 then .returned t.1.val else .panicked [fault t.2]
theorem outX_ok {s t : Int × Int × Int} (h : s.2.2 = 0) (g : t.2.2 = 0) : outX (pairX s t) = .returned (.agg #[.int .i64 s.1, .int .i64 s.2.1, .int .i64 t.1, .int .i64 t.2.1]) := by unfold pairX; rw [if_pos h, if_pos g]; rfl
theorem outX_no1 {s t : Int × Int × Int} (h : ¬ s.2.2 = 0) : outX (pairX s t) = .panicked [fault s.2.2] := by unfold pairX; rw [if_neg h]; exact if_neg h
theorem outX_no2 {s t : Int × Int × Int} (h : s.2.2 = 0) (g : ¬ t.2.2 = 0) : outX (pairX s t) = .panicked [fault t.2.2] := by unfold pairX; rw [if_pos h, if_neg g]; exact if_neg g
theorem outX_ways (t : Bx × Int) : (outX t = .returned t.1.val ∧ t.2 = 0) ∨ (outX t = .panicked [fault t.2] ∧ ¬ t.2 = 0) := by
  by_cases h : t.2 = 0
  · exact .inl ⟨if_pos h, h⟩
  · exact .inr ⟨if_neg h, h⟩
theorem waysX_of {P : Program} {f : Nat} {args : Array Value} {w : World} {t : Bx × Int} {A : World → Prop} (h : Calls P f args w fun e w' => e = outX t ∧ A w') :
    Calls P f args w fun e w' => ((e = .returned t.1.val ∧ Hid (t.2 = 0)) ∨ (e = .panicked [fault t.2] ∧ Hid (¬ t.2 = 0))) ∧ A w' := by
  refine h.mono ?_
  rintro e w' ⟨rfl, hA⟩
  rcases outX_ways t with ⟨h1, h2⟩ | ⟨h1, h2⟩
  · exact ⟨.inl ⟨h1, h2⟩, hA⟩
  · exact ⟨.inr ⟨h1, h2⟩, hA⟩
end Go.Proofs.YtnkhknmpffcfbaaGreat

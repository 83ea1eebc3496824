/-
  Boxes as plain numbers, and which two meet. Nothing is claimed here.
-/
import Derived.Test.YtnkhknmpffcfbaaGreatNum
namespace Go.Proofs.YtnkhknmpffcfbaaGreat
open Go Go.RowKit

/-- A box: its low corner (l, m), its high one (h, k). -/
structure Bx where
  l : Int
  m : Int
  h : Int
  k : Int
/-- .. as the code has it. -/
def Bx.val (b : Bx) : Value := .agg #[.int .i64 b.l, .int .i64 b.m, .int .i64 b.h, .int .i64 b.k]
/-- .. its cells. -/
def Bx.row (b : Bx) : List Value := [.int .i64 b.l, .int .i64 b.m, .int .i64 b.h, .int .i64 b.k]
structure Bx.ok (b : Bx) : Prop where
  l : inF b.l
  m : inF b.m
  h : inF b.h
  k : inF b.k

def noneB (x y u v : Int) : Bool := decide (x ≤ u ∧ y ≤ v)
def meetB (a b : Bx) : Bool := noneB a.l a.m b.h b.k && noneB b.l b.m a.h a.k
theorem noneB_iff (x y u v : Int) : noneB x y u v = true ↔ x ≤ u ∧ y ≤ v := by unfold noneB; simp
theorem meetB_iff (a b : Bx) : meetB a b = true ↔ (a.l ≤ b.h ∧ a.m ≤ b.k) ∧ b.l ≤ a.h ∧ b.m ≤ a.k := by unfold meetB; rw [Bool.and_eq_true, noneB_iff, noneB_iff]
end Go.Proofs.YtnkhknmpffcfbaaGreat

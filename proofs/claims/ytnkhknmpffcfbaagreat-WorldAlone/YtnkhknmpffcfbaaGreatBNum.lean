/-
  Plain numbers, no program in sight: a body, which bodies may be (chapter 7), and how it stands as a value. Nothing is claimed here.
-/
import Derived.Test.YtnkhknmpffcfbaaGreatVNum
namespace Go.Proofs.YtnkhknmpffcfbaaGreat
open Go Go.RowKit

/-- A body: its shape, its size (a, b), its mass, its place (p, q), what moves it (u, v). -/
structure Bd where
  s : Int
  a : Int
  b : Int
  m : Int
  p : Int
  q : Int
  u : Int
  v : Int
/-- .. as the code has it. -/
def Bd.val (B : Bd) : Value := .agg #[.int .i64 B.s, .int .i64 B.a, .int .i64 B.b, .int .i64 B.m, .int .i64 B.p, .int .i64 B.q, .int .i64 B.u, .int .i64 B.v]
/-- .. its cells. -/
def Bd.row (B : Bd) : List Value := [.int .i64 B.s, .int .i64 B.a, .int .i64 B.b, .int .i64 B.m, .int .i64 B.p, .int .i64 B.q, .int .i64 B.u, .int .i64 B.v]
structure Bd.ok (B : Bd) : Prop where
  s : inF B.s
  a : inF B.a
  b : inF B.b
  m : inF B.m
  p : inF B.p
  q : inF B.q
  u : inF B.u
  v : inF B.v

def sideB (a : Int) : Bool := decide (67108864 ≤ a ∧ a ≤ 4294967296000)
def sizeB (s a b : Int) : Bool := if s = 1 then sideB a && decide (b = 0) else if s = 2 then sideB a && sideB b else false
def massB (m : Int) : Bool := decide (m = 0 ∨ 67108864 ≤ m ∧ m ≤ 42949672960000)
def withinB (x y k : Int) : Bool := decide (-k ≤ x ∧ x ≤ k ∧ -k ≤ y ∧ y ≤ k)
def momB (u v m : Int) : Bool := if m = 0 then decide (u = 0 ∧ v = 0) else withinB u v 4294967296000000
/-- Which bodies may be. -/
def rightB (B : Bd) : Bool := sizeB B.s B.a B.b && massB B.m && momB B.u B.v B.m && withinB B.p B.q 42949672960000

/-- What Speed and Lightness answer. -/
def speedR (B : Bd) : Int × Int × Int := if B.m = 0 then (0, 0, 0) else two (divR B.u B.m) (divR B.v B.m)
def lightR (B : Bd) : Int × Int := if B.m = 0 then (0, 0) else divR 4294967296 B.m

theorem rightB_iff (B : Bd) : rightB B = true ↔ (B.s = 1 ∧ B.b = 0 ∨ B.s = 2 ∧ 67108864 ≤ B.b ∧ B.b ≤ 4294967296000) ∧ 67108864 ≤ B.a ∧ B.a ≤ 4294967296000 ∧ (B.m = 0 ∧ B.u = 0 ∧ B.v = 0 ∨ 67108864 ≤ B.m ∧ B.m ≤ 42949672960000) ∧ -42949672960000 ≤ B.p ∧ B.p ≤ 42949672960000 ∧ -42949672960000 ≤ B.q ∧ B.q ≤ 42949672960000 ∧ -4294967296000000 ≤ B.u ∧ B.u ≤ 4294967296000000 ∧ -4294967296000000 ≤ B.v ∧ B.v ≤ 4294967296000000 := by
  unfold rightB sizeB massB momB withinB sideB
  by_cases h1 : B.s = 1
  · by_cases h3 : B.m = 0 <;> simp [h1, h3] <;> omega
  · by_cases h2 : B.s = 2
    · by_cases h3 : B.m = 0 <;> simp [h2, h3] <;> omega
    · simp [h1, h2]
end Go.Proofs.YtnkhknmpffcfbaaGreat

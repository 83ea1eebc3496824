/-
  Plain numbers, no program in sight: what chapter 6's calls answer. Nothing is claimed here.
-/
import Derived.Test.YtnkhknmpffcfbaaGreatVVec
import Derived.Test.YtnkhknmpffcfbaaGreatQNum
import Derived.Test.YtnkhknmpffcfbaaGreatLawNum
import Derived.Test.YtnkhknmpffcfbaaGreatCSound
namespace Go.Proofs.YtnkhknmpffcfbaaGreat
open Go Go.RowKit

/-- Two answers, X ahead of Y: both, or the first error. -/
def two (r s : Int × Int) : Int × Int × Int := if r.2 = 0 then (if s.2 = 0 then (r.1, s.1, 0) else (0, 0, s.2)) else (0, 0, r.2)
/-- How a call ends that answers a place, or throws. -/
def outV (t : Int × Int × Int) : Ending := if t.2.2 = 0 then .returned (vec t.1 t.2.1) else .panicked [fault t.2.2]
theorem two_ok {r s : Int × Int} (h : r.2 = 0) (g : s.2 = 0) : two r s = (r.1, s.1, 0) := by unfold two; rw [if_pos h, if_pos g]
theorem two_no1 {r s : Int × Int} (h : ¬ r.2 = 0) : two r s = (0, 0, r.2) := by unfold two; rw [if_neg h]
theorem two_no2 {r s : Int × Int} (h : r.2 = 0) (g : ¬ s.2 = 0) : two r s = (0, 0, s.2) := by unfold two; rw [if_pos h, if_neg g]
theorem outV_ok {r s : Int × Int} (h : r.2 = 0) (g : s.2 = 0) : outV (two r s) = .returned (vec r.1 s.1) := by rw [two_ok h g]; rfl
theorem outV_no1 {r s : Int × Int} (h : ¬ r.2 = 0) : outV (two r s) = .panicked [fault r.2] := by rw [two_no1 h]; exact if_neg h
theorem outV_no2 {r s : Int × Int} (h : r.2 = 0) (g : ¬ s.2 = 0) : outV (two r s) = .panicked [fault s.2] := by rw [two_no2 h g]; exact if_neg g
/-- What Dot answers. -/
def dotV (x y u v : Int) : Int × Int := if (mulR x u).2 = 0 then (if (mulR y v).2 = 0 then addR (mulR x u).1 (mulR y v).1 else (0, (mulR y v).2)) else (0, (mulR x u).2)
/-- What Share answers of one side. -/
def partR (a n : Int) : Int × Int := if n = 0 then (0, 4) else if a = -9223372036854775808 ∧ n = -1 then (0, 3) else (a.tdiv n, 0)
/-- What Unit answers: the direction, the length, the error. -/
def unitR (x y : Int) : (Int × Int) × Int × Int := if (lenR x y).2 = 0 then (if (lenR x y).1 = 0 then ((0, 0), 0, 0) else if (two (divR x (lenR x y).1) (divR y (lenR x y).1)).2.2 = 0 then (((divR x (lenR x y).1).1, (divR y (lenR x y).1).1), (lenR x y).1, 0) else ((0, 0), 0, (two (divR x (lenR x y).1) (divR y (lenR x y).1)).2.2)) else ((0, 0), 0, (lenR x y).2)

/-- A call's end, by its two ways. -/
theorem out_ways (r : Int × Int) : (outR r = .returned (.int .i64 r.1) ∧ r.2 = 0) ∨ (outR r = .panicked [fault r.2] ∧ ¬ r.2 = 0) := by
  by_cases h : r.2 = 0
  · exact .inl ⟨if_pos h, h⟩
  · exact .inr ⟨if_neg h, h⟩
theorem ways_of {P : Program} {f : Nat} {args : Array Value} {w : World} {r : Int × Int} {A : World → Prop} (h : Calls P f args w fun e w' => e = outR r ∧ A w') :
    Calls P f args w fun e w' => ((e = .returned (.int .i64 r.1) ∧ Hid (r.2 = 0)) ∨ (e = .panicked [fault r.2] ∧ Hid (¬ r.2 = 0))) ∧ A w' := by
  refine h.mono ?_
  rintro e w' ⟨rfl, hA⟩
  refine ⟨?_, hA⟩
  rcases out_ways r with ⟨h1, h2⟩ | ⟨h1, h2⟩
  · exact .inl ⟨h1, h2⟩
  · exact .inr ⟨h1, h2⟩
theorem post_panic {P : Program} {fn : Func} {R : Ending → World → Prop} {c : List PanicEntry} {a : Act} {w : World} (hd : a.defers = []) (h : R (.panicked c) w) : bodyPost P fn R (.panic c) a w := ⟨hd, h⟩
end Go.Proofs.YtnkhknmpffcfbaaGreat

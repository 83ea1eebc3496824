/-
  What package shape's calls do: what the plain functions say, or a panic of a Fault; more blocks are in memory, and nothing else.
-/
import Derived.Test.YtjnokjoaphmfkaaBNum
import Derived.Test.YtjnokjoaphmfkaaVCalls
import Derived.Test.YtjnokjoaphmfkaaVAlive
import Derived.Deep.QuietTactic
import Derived.BigQuiet
namespace Go.Proofs.Ytjnokjoaphmfkaa
open Go.RowKit


theorem sizeB_1 (a b : Int) : sizeB 1 a b = (sideB a && decide (b = 0)) := rfl
theorem sizeB_2 (a b : Int) : sizeB 2 a b = (sideB a && sideB b) := rfl
theorem sizeB_no {s : Int} (h1 : ¬ s = 1) (h2 : ¬ s = 2) (a b : Int) : sizeB s a b = false := by unfold sizeB; rw [if_neg h1, if_neg h2]
theorem momB_0 (u v : Int) : momB u v 0 = decide (u = 0 ∧ v = 0) := rfl
theorem momB_m {m : Int} (h : ¬ m = 0) (u v : Int) : momB u v m = withinB u v 4294967296000000 := by unfold momB; rw [if_neg h]
theorem speedR_0 {B : Bd} (h : B.m = 0) : speedR B = (0, 0, 0) := if_pos h
theorem speedR_m {B : Bd} (h : ¬ B.m = 0) : speedR B = two (divR B.u B.m) (divR B.v B.m) := if_neg h
theorem lightR_0 {B : Bd} (h : B.m = 0) : lightR B = (0, 0) := if_pos h
theorem lightR_m {B : Bd} (h : ¬ B.m = 0) : lightR B = divR 4294967296 B.m := if_neg h
theorem outV_ways (t : Int × Int × Int) : (outV t = .returned (vec t.1 t.2.1) ∧ t.2.2 = 0) ∨ (outV t = .panicked [fault t.2.2] ∧ ¬ t.2.2 = 0) := by
  by_cases h : t.2.2 = 0
  · exact .inl ⟨if_pos h, h⟩
  · exact .inr ⟨if_neg h, h⟩
theorem waysV_of {P : Program} {f : Nat} {args : Array Value} {w : World} {t : Int × Int × Int} {A : World → Prop} (h : Calls P f args w fun e w' => e = outV t ∧ A w') :
    Calls P f args w fun e w' => ((e = .returned (vec t.1 t.2.1) ∧ Hid (t.2.2 = 0)) ∨ (e = .panicked [fault t.2.2] ∧ Hid (¬ t.2.2 = 0))) ∧ A w' := by
  refine h.mono ?_
  rintro e w' ⟨rfl, hA⟩
  rcases outV_ways t with ⟨h1, h2⟩ | ⟨h1, h2⟩
  · exact ⟨.inl ⟨h1, h2⟩, hA⟩
  · exact ⟨.inr ⟨h1, h2⟩, hA⟩

end Go.Proofs.Ytjnokjoaphmfkaa

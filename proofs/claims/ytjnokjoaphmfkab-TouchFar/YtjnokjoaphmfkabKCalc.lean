/-
  The document's own reckoner (maquetteref1's Calc) with whatever error so far: what Add, Sub, Mul answer, and the error behind them. Err: the reckoner's error lies at b, off.
-/
import Derived.Test.YtjnokjoaphmfkabRefCalc
import Derived.Test.YtjnokjoaphmfkabCWorld
namespace Go.Proofs.Ytjnokjoaphmfkab
open Go.RowKit

/-- The error k lies at b, off. -/
def Err (w : World) (b off : Nat) (k : Int) : Prop := w.cell? ⟨b, off, none⟩ = some (.int .i64 k) ∧ w.frozen? ⟨b, off, none⟩ = false
theorem Err.grew {w w' : World} {b off : Nat} {k : Int} (h : Err w b off k) (g : Grew w w') : Err w' b off k := ⟨g.cell h.1, g.frozen h.2⟩
theorem Err.set {w : World} {b off : Nat} {k : Int} (h : Err w b off k) (l : Int) : Err (w.setCell ⟨b, off, none⟩ (.int .i64 l)) b off l :=
  ⟨World.cell?_setCell_same _ _ _ h.1, by rw [World.frozen?_setCell]; exact h.2⟩
/-- A reckoning that is not done where there is an error already. -/
def ifK (k : Int) (r : Int × Int) : Int × Int := if k = 0 then r else (0, k)
theorem ifK_ok (r : Int × Int) : ifK 0 r = r := rfl
theorem ifK_no {k : Int} (h : k ≠ 0) (r : Int × Int) : ifK k r = (0, k) := by unfold ifK; rw [if_neg h]

end Go.Proofs.Ytjnokjoaphmfkab

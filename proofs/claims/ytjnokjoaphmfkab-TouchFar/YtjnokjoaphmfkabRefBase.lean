/-
  The document's own reckoner (maquetteref1's Calc): its fail, abs and signed, with no error so far.
-/
import Derived.Test.YtjnokjoaphmfkabMul64
namespace Go.Proofs.Ytjnokjoaphmfkab
open Go.RowKit

/-- A cell that is laid as it lies. -/
theorem setCell_id (w : World) (b off : Nat) (v : Value) (h : w.cell? ⟨b, off, none⟩ = some v) : w.setCell ⟨b, off, none⟩ v = w := by
  unfold World.cell? at h
  unfold World.setCell
  have e : (w.heap.modify b fun
      | .cells c elem frozen => .cells (if (none : Option Nat).isSome then c else c.setIfInBounds off v) elem frozen
      | o => o) = w.heap := by
    apply Array.ext
    · simp
    · intro i h1 h2
      rw [Array.getElem_modify]
      split
      · rename_i hi
        subst hi
        rw [Array.getElem?_eq_getElem h2] at h
        cases ho : w.heap[b] with
        | cells c elem frozen =>
          rw [ho] at h
          simp at h
          have h3 : off < c.size := by
            rcases Nat.lt_or_ge off c.size with h4 | h4
            · exact h4
            · rw [Array.getElem?_eq_none h4] at h; cases h
          rw [Array.getElem?_eq_getElem h3] at h
          cases h
          simp [Array.setIfInBounds, h3]
        | _ => rw [ho] at h; try simp at h
      · rfl
  exact congrArg (fun x => { w with heap := x }) e

end Go.Proofs.Ytjnokjoaphmfkab

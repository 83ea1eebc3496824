/-
  A list that came in, as a Row: its elements are the first of the cells it leads to.
-/
import Derived.Test.YtjkidepgjbnflabCAlive
namespace Go.Proofs.Ytjkidepgjbnflab
open Go.RowKit

theorem row_of {w : World} {a : Option Addr} {len cap : Nat} {z : List Int} (hl : len ≤ 1000)
    (h : (a = none ∧ len = 0 ∧ cap = 0 ∧ z = []) ∨ ∃ x, a = some x ∧ len ≤ cap ∧ cap ≤ maxLen ∧ z.length = cap ∧ (∀ i, i < z.length → w.cell? (x.add i) = some (.int .i64 (z.getD i 0))) ∧ ∀ n ∈ z, (Lit.int .i64 n).wf = true) :
    ∃ l : List Int, l.length = len ∧ Row w a l := by
  rcases h with ⟨rfl, rfl, rfl, rfl⟩ | ⟨x, rfl, h1, h2, h3, h4, h5⟩
  · exact ⟨[], rfl, by decide, fun _ h => absurd h (by simp), .inl rfl⟩
  · refine ⟨z.take len, by simp; omega, by simp; omega, fun n hn => inF_wf (h5 n (List.mem_of_mem_take hn)), ?_⟩
    by_cases h0 : len = 0
    · left; rw [h0]; rfl
    · right
      obtain ⟨b, off, spot⟩ := x
      have hs : spot = none := by simpa [Addr.add] using World.cell?_spot (h4 0 (by omega))
      subst hs
      refine ⟨b, off, rfl, fun i hi => ?_⟩
      have hi' : i < len := by simp at hi; omega
      have := h4 i (by omega)
      rw [show (z.take len).getD i 0 = z.getD i 0 from by simp [List.getD, hi']]
      rw [← Go.WideShapes.add_plain]
      exact this

end Go.Proofs.Ytjkidepgjbnflab

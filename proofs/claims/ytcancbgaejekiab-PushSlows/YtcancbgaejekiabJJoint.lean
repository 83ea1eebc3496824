/-
  What push.Joint does: what the plain function says, or a panic of a Fault; more blocks are in memory, and nothing else.
-/
import Derived.Test.YtcancbgaejekiabJCalls
import Derived.Test.YtcancbgaejekiabJLate
namespace Go.Proofs.Ytcancbgaejekiab
open Go.RowKit

theorem unitR_in {x y : Int} (hx : inF x) (hy : inF y) : inF (unitR x y).2.1 ∧ inF (unitR x y).1.1 ∧ inF (unitR x y).1.2 := by
  unfold unitR
  split
  · split
    · exact ⟨inF0, inF0, inF0⟩
    · split
      · exact ⟨lenR_in hx hy, (divR_in _ _).1, (divR_in _ _).1⟩
      · exact ⟨inF0, inF0, inF0⟩
  · exact ⟨inF0, inF0, inF0⟩
theorem jj_start (w : World) (A B : Bd) (V : World) (hV : V = ((((w.alloc (.cells #[.int .i64 A.s, .int .i64 A.a, .int .i64 A.b, .int .i64 A.m, .int .i64 A.p, .int .i64 A.q, .int .i64 A.u, .int .i64 A.v] 27)).alloc (.cells #[.int .i64 B.s, .int .i64 B.a, .int .i64 B.b, .int .i64 B.m, .int .i64 B.p, .int .i64 B.q, .int .i64 B.u, .int .i64 B.v] 27)).alloc (.cells #[.int .i64 0, .int .i64 0, .int .i64 0, .int .i64 0, .int .i64 0, .int .i64 0, .int .i64 0, .int .i64 0] 27)).alloc (.cells #[.int .i64 0, .int .i64 0, .int .i64 0, .int .i64 0, .int .i64 0, .int .i64 0, .int .i64 0, .int .i64 0] 27))) : Jm w V (w.heap.size + 1 + 1) (w.heap.size + 1 + 1 + 1) A B := by
  refine ⟨?_, ?_, ?_, ?_, ?_⟩
  · rw [hV]; exact (((((Grew.refl w).alloc _ _).alloc _ _).alloc _ _).alloc _ _)
  all_goals (rw [hV]; constructor <;> simp [go_sem, noB])

end Go.Proofs.Ytcancbgaejekiab

/-
  world.Run of one body, as the statements call it; whether two bodies are the same.
-/
import Derived.Test.YtnkhknmpffcfbaaGreatSAlive
import Derived.Test.YtnkhknmpffcfbaaGreatSOne
namespace Go.Proofs.YtnkhknmpffcfbaaGreat
open Go Go.RowKit

theorem runone_any {x y : Int} (hx : inF x) (hy : inF y) {B Bn : Bd} {N : Int} (h : runE x y [] [B] N = (([Bn], 0), 0)) (q : Nat) (W : World) (hB : Bodies W (some ⟨q, 0, none⟩) [B]) :
    Calls Tryz.prog 10 #[.agg #[.int .i64 x, .int .i64 y, .slice (some ⟨q, 0, none⟩) 1 1, .slice none 0 0], .int .i64 N] W fun e w' => Below W.heap.size W w' ∧ ∃ z off c' b' d', e = .returned (.tuple #[.agg #[.int .i64 x, .int .i64 y, .slice (some ⟨z, off, none⟩) 1 c', .slice b' 0 d'], .int .i64 0, .int .i64 0]) ∧ BatO w' z off Bn := by
  have := run_any x y hx hy [B] [] N (some ⟨q, 0, none⟩) 1 none 0 W hB (joints_none W _) (by simp) (by simp)
  unfold RunTo worldV at this
  rw [h] at this
  refine this.mono ?_
  rintro e w' ⟨h1, ⟨_, _, a', c', b', d', rfl, h2, _⟩ | ⟨h0, _⟩⟩
  · obtain ⟨z, off, rfl, hc⟩ := h2.block (i := 0) (by simp)
    refine ⟨h1, z, off, c', b', d', rfl, ?_⟩
    simpa [bd] using hc
  · exact absurd rfl h0
theorem behind_at (B : Bd) (w : World) (o : Obj) : BAt ((w.alloc (.cells #[.int .i64 B.s, .int .i64 B.a, .int .i64 B.b, .int .i64 B.m, .int .i64 B.p, .int .i64 B.q, .int .i64 B.u, .int .i64 B.v] 39)).alloc o) w.heap.size B := by
  constructor <;> simp [go_sem]
theorem lt_two (w : World) (o p : Obj) : w.heap.size < ((w.alloc o).alloc p).heap.size := by
  have : ((w.alloc o).alloc p).heap.size = w.heap.size + 1 + 1 := by simp
  omega
theorem same_bodyS (A : Bd) (w : World) : (binOp .eql 39 A.val A.val).run Tryz.prog w = .ok (.bool true) w := by
  have hu := run_underlying Tryz.underlying39 w
  have hd : ∀ t x y, Op.equal t x y = Op.equalIn (9997 + 1 + 1 + 1) t x y := fun _ _ _ => rfl
  unfold Bd.val
  simp only [binOp, hd]
  rw [Op.equalIn]
  simp [go_sem, hu]
end Go.Proofs.YtnkhknmpffcfbaaGreat

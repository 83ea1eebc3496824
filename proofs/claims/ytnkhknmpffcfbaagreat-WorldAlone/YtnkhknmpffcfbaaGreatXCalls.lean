/-
  What package bounds' calls do: what the plain functions say, or a panic of a Fault; more blocks are in memory, and nothing else.
-/
import Derived.Test.YtnkhknmpffcfbaaGreatXNum
import Derived.Test.YtnkhknmpffcfbaaGreatXMeet
import Derived.Test.YtnkhknmpffcfbaaGreatBCalls
namespace Go.Proofs.YtnkhknmpffcfbaaGreat
open Go.RowKit

theorem nearest_any (a l h : Int) (w : World) :
    Calls Tryz.prog 135 #[.int .i64 a, .int .i64 l, .int .i64 h] w fun e w' => e = .returned (.int .i64 (nearI a l h)) ∧ w' = w := by
  by_cases g : a < l
  · rw [near_low g]
    go_enter Tryz.func135, Tryz.ntmps135
    go_wp2
    go_ret
    exact ⟨rfl, rfl⟩
  · by_cases g2 : h < a
    · rw [near_high g g2]
      go_enter Tryz.func135, Tryz.ntmps135
      go_wp2
      go_ret
      exact ⟨rfl, rfl⟩
    · rw [near_self g g2]
      go_enter Tryz.func135, Tryz.ntmps135
      go_wp2
      go_ret
      exact ⟨rfl, rfl⟩

theorem reach_any (B : Bd) (w : World) :
    Calls Tryz.prog 113 #[B.val] w fun e w' => e = .returned (.agg #[.int .i64 B.a, .int .i64 (reachY B)]) ∧ Grew w w' := by
  have G : Hid (∀ c, Grew w ((w.alloc (.cells #[.int .i64 B.s, .int .i64 B.a, .int .i64 B.b, .int .i64 B.m, .int .i64 B.p, .int .i64 B.q, .int .i64 B.u, .int .i64 B.v] 39)).alloc (.cells c 24))) := fun c => ((Grew.refl w).alloc _ _).alloc _ _
  unfold Bd.val
  by_cases h : B.s = 1
  · rw [reach_ball h]
    have hz : (B.s == 1) = true := by simpa using h
    clear h
    go_enter Tryz.func113, Tryz.ntmps113
    go_wp2
    simp [bodyPost, results, Tryz.results113, go_sem]
    exact G.out _
  · rw [reach_else h]
    have hz : (B.s == 1) = false := by simpa using h
    clear h
    go_enter Tryz.func113, Tryz.ntmps113
    go_wp2
    simp [bodyPost, results, Tryz.results113, go_sem]
    exact G.out _

set_option maxHeartbeats 2000000 in
theorem clamp_any (x y : Int) (b : Bx) (w : World) :
    Calls Tryz.prog 117 #[.agg #[.int .i64 x, .int .i64 y], b.val] w fun e w' => e = .returned (.agg #[.int .i64 (nearI x b.l b.h), .int .i64 (nearI y b.m b.k)]) ∧ Grew w w' := by
  have G : Hid (∀ c, Grew w (((w.alloc (.cells #[.int .i64 x, .int .i64 y] 24)).alloc (.cells #[.int .i64 b.l, .int .i64 b.m, .int .i64 b.h, .int .i64 b.k] 73)).alloc (.cells c 24))) := fun c => (((Grew.refl w).alloc _ _).alloc _ _).alloc _ _
  have c1 : Hid (∀ W, Calls Tryz.prog 135 #[.int .i64 x, .int .i64 b.l, .int .i64 b.h] W fun e w' => e = .returned (.int .i64 (nearI x b.l b.h)) ∧ w' = W) := fun W => nearest_any _ _ _ W
  have c2 : Hid (∀ W, Calls Tryz.prog 135 #[.int .i64 y, .int .i64 b.m, .int .i64 b.k] W fun e w' => e = .returned (.int .i64 (nearI y b.m b.k)) ∧ w' = W) := fun W => nearest_any _ _ _ W
  unfold Bx.val
  generalize nearI x b.l b.h = r at *
  generalize nearI y b.m b.k = s at *
  go_enter Tryz.func117, Tryz.ntmps117
  go_wp2_with (fail)
  go_region_held2 (fun w' => w'.cell? ⟨w.heap.size, 0, none⟩ = some (.int .i64 x) ∧ w'.cell? ⟨w.heap.size, 1, none⟩ = some (.int .i64 y) ∧ w'.cell? ⟨w.heap.size + 1, 0, none⟩ = some (.int .i64 b.l) ∧ w'.cell? ⟨w.heap.size + 1, 1, none⟩ = some (.int .i64 b.m) ∧ w'.cell? ⟨w.heap.size + 1, 2, none⟩ = some (.int .i64 b.h) ∧ w'.cell? ⟨w.heap.size + 1, 3, none⟩ = some (.int .i64 b.k)) (go_keep)
    (first
      | (go_at_call 135; go_fit (c1.out _); rintro e w' ⟨rfl, rfl⟩)
      | (go_at_call 135; go_fit (c2.out _); rintro e w' ⟨rfl, rfl⟩))
  go_wp2
  simp [bodyPost, results, Tryz.results117, go_sem]
  exact (G.out _).drew
end Go.Proofs.YtnkhknmpffcfbaaGreat

/-
  What bounds.Of does: the box that the plain function says, or a panic of a Fault; more blocks are in memory, and nothing else.
-/
import Derived.Test.YtnkhknmpffcfbaaGreatXCalls
import Derived.Test.YtnkhknmpffcfbaaGreatBAlive
namespace Go.Proofs.YtnkhknmpffcfbaaGreat
open Go.RowKit

set_option maxHeartbeats 2000000 in
theorem of_box (B : Bd) (hB : B.ok) (w : World) :
    Calls Tryz.prog 92 #[B.val] w fun e w' => e = outX (boxR B) ∧ Grew w w' := by
  have c0 : Hid (∀ W, Calls Tryz.prog 113 #[.agg #[.int .i64 B.s, .int .i64 B.a, .int .i64 B.b, .int .i64 B.m, .int .i64 B.p, .int .i64 B.q, .int .i64 B.u, .int .i64 B.v]] W fun e w' => e = .returned (.agg #[.int .i64 B.a, .int .i64 (reachY B)]) ∧ Grew W w') := fun W => reach_any B W
  have c1 := fun W => waysV_of (vsub_any B.p B.q B.a (reachY B) W hB.p hB.q hB.a (reach_in hB))
  have c2 := fun W => waysV_of (vadd_any B.p B.q B.a (reachY B) W hB.p hB.q hB.a (reach_in hB))
  unfold boxR
  generalize two (subR B.p B.a) (subR B.q (reachY B)) = s at *
  generalize two (addR B.p B.a) (addR B.q (reachY B)) = t at *
  generalize reachY B = r at *
  unfold vec at c1 c2
  have C1 : Hid _ := c1
  have C2 : Hid _ := c2
  clear c1 c2 hB
  unfold Bd.val
  have G0 : Hid (∀ c, Grew w ((w.alloc (.cells #[.int .i64 B.s, .int .i64 B.a, .int .i64 B.b, .int .i64 B.m, .int .i64 B.p, .int .i64 B.q, .int .i64 B.u, .int .i64 B.v] 39)).alloc (.cells c 73))) := fun c => ((Grew.refl w).alloc _ _).alloc _ _
  go_enter Tryz.func92, Tryz.ntmps92
  go_wp2_with (first
    | (go_at_call 113; go_fit (c0.out _); rintro e V ⟨rfl, U⟩))
  have sz := U.size
  simp at sz
  obtain ⟨M, hM⟩ : ∃ M, M = V.alloc (.cells #[.int .i64 B.a, .int .i64 r] 24) := ⟨_, rfl⟩
  rw [← hM]
  have UM := U.alloc #[.int .i64 B.a, .int .i64 r] 24
  rw [← hM] at UM
  have GM : Hid (Grew w M) := (G0.out _).trans UM
  have m4 := UM.cell (p := ⟨w.heap.size, 4, none⟩) (v := .int .i64 B.p) (by simp [go_sem])
  have m5 := UM.cell (p := ⟨w.heap.size, 5, none⟩) (v := .int .i64 B.q) (by simp [go_sem])
  have n0 := UM.cell (p := ⟨w.heap.size + 1, 0, none⟩) (v := .int .i64 0) (by simp [go_sem])
  have n1 := UM.cell (p := ⟨w.heap.size + 1, 1, none⟩) (v := .int .i64 0) (by simp [go_sem])
  have n2 := UM.cell (p := ⟨w.heap.size + 1, 2, none⟩) (v := .int .i64 0) (by simp [go_sem])
  have n3 := UM.cell (p := ⟨w.heap.size + 1, 3, none⟩) (v := .int .i64 0) (by simp [go_sem])
  have r0 : M.cell? ⟨V.heap.size, 0, none⟩ = some (.int .i64 B.a) := by rw [hM]; simp [go_sem]
  have r1 : M.cell? ⟨V.heap.size, 1, none⟩ = some (.int .i64 r) := by rw [hM]; simp [go_sem]
  have hs : M.heap.size = V.heap.size + 1 := by rw [hM]; simp [go_sem]
  have z0 : Free M (w.heap.size + 1) := GM.out.freeB (by omega)
  clear U UM G0 c0 hM
  have fV := set_far (show V.heap.size ≠ w.heap.size + 1 by omega)
  go_region_held2 (fun w' => w'.cell? ⟨w.heap.size, 4, none⟩ = some (.int .i64 B.p) ∧ w'.cell? ⟨w.heap.size, 5, none⟩ = some (.int .i64 B.q) ∧ w'.cell? ⟨V.heap.size, 0, none⟩ = some (.int .i64 B.a) ∧ w'.cell? ⟨V.heap.size, 1, none⟩ = some (.int .i64 r)) (go_keep)
    (first
      | (go_at_call 82; go_fit (C1.out _); rintro e V1 ⟨(⟨rfl, h1⟩ | ⟨rfl, h1⟩), U1⟩; rotate_left; (exact post_panic (P := Tryz.prog) (fn := Tryz.f92) (R := fun e w' => e = outX (pairX s t) ∧ Grew w w') rfl ⟨(outX_no1 h1.out).symm, GM.out.drew.trans U1⟩); have s1 := U1.size; (try (simp at s1)); have k1 := U1.cells (b := w.heap.size) (by first | omega | (simp; omega)); have k2 := U1.cells (b := V.heap.size) (by first | omega | (simp; omega)))
      | (go_at_call 25; go_fit (C2.out _); rintro e V2 ⟨(⟨rfl, h2⟩ | ⟨rfl, h2⟩), U2⟩; rotate_left; (exact post_panic (P := Tryz.prog) (fn := Tryz.f92) (R := fun e w' => e = outX (pairX s t) ∧ Grew w w') rfl ⟨(outX_no2 h1.out h2.out).symm, (GM.out.drew.trans U1).trans U2⟩); have k3 := U2.cells (b := w.heap.size) (by first | omega | (simp; omega)); have k4 := U2.cells (b := V.heap.size) (by first | omega | (simp; omega)); have GV : Grew M V2 := ((Grew.refl M).drew.trans U1).trans U2; have l0 := GV.cell n0; have l1 := GV.cell n1; have l2 := GV.cell n2; have l3 := GV.cell n3; have i0 := z0.grew GV 0 none; have i1 := z0.grew GV 1 none; have i2 := z0.grew GV 2 none; have i3 := z0.grew GV 3 none))
  go_wp2
  rw [outX_ok h1.out h2.out]
  simp [bodyPost, results, Tryz.results92, go_sem, l0, l1, l2, l3]
  exact ((((GM.out.trans GV).setCell (by simp) _).setCell (by simp) _).setCell (by simp) _).setCell (by simp) _
end Go.Proofs.YtnkhknmpffcfbaaGreat

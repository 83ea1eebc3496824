/-
  Proved: maquettelaw8.BoundsBoth returns true for every two boxes x and y and every place v (the box around two has both; it is no greater than it must be; the order does not count), and leaves what it was given as it was; no condition.
-/
import Derived.Test.YtlfncfjlfccfhaaRows
import Derived.Test.YtlfncfjlfccfhaaXAlive
import Derived.Test.YtlfncfjlfccfhaaXData
import Derived.Test.YtlfncfjlfccfhaaXQuiet
import Derived.Test.YtlfncfjlfccfhaaXEq
import Derived.WalkKit
import Derived.Deep.QuietTactic
import Derived.BigQuiet
import Derived.WalkSpells
import Derived.Deep.CutRange
import Derived.Deep.CutBlock
import Derived.WalkLawsBesides
import Derived.ProofKit
import Derived.OpenShut
namespace Go.Proofs.Ytlfncfjlfccfhaa.boundsBoth
open Go.ChangeShapes Go.WideShapes Go.ChangeAt Go.RowKit
set_option linter.unusedVariables false

theorem own : ownKnob Try.prog.godebug = none := by kernel_rfl

theorem both_comm (a b : Bx) : bothB b a = bothB a b := by unfold bothB; rw [Int.min_comm, Int.min_comm b.m, Int.max_comm, Int.max_comm b.k]
theorem both_self (a : Bx) : bothB a a = a := by unfold bothB; rw [Int.min_self, Int.min_self, Int.max_self, Int.max_self]
theorem both_idem (a b : Bx) : bothB (bothB a b) a = bothB a b := by
  unfold bothB
  simp only [Bx.mk.injEq]
  omega
theorem in_both {x y : Int} {a b : Bx} (h : inB x y a = true ∨ inB x y b = true) : inB x y (bothB a b) = true := by
  rw [inB_iff, inB_iff] at h
  refine (inB_iff _ _ _).2 ?_
  unfold bothB
  simp only
  omega
theorem both_l (a b : Bx) : (bothB a b).l = a.l ∨ (bothB a b).l = b.l := by unfold bothB; simp only; omega
theorem both_k (a b : Bx) : (bothB a b).k = a.k ∨ (bothB a b).k = b.k := by unfold bothB; simp only; omega

set_option maxHeartbeats 4000000 in
theorem walk (X0 : Bx) (o0 : X0.ok) (X1 : Bx) (o1 : X1.ok) (x2 y2 : Int) (f2 : inF x2) (g2 : inF y2) (w : World) :
    Calls Try.prog 5 #[X0.val, X1.val, vec x2 y2] w fun e w' => e = .returned (.bool true) ∧ Grown w w' := by
  have HB : Hid (∀ W, _) := fun W => both_any X0 X1 W
  have HB2 : Hid (∀ W, _) := fun W => both_any X1 X0 W
  rw [both_comm] at HB2
  have HB3 : Hid (∀ W, _) := fun W => both_any X0 X0 W
  rw [both_self] at HB3
  have HB4 : Hid (∀ W, _) := fun W => both_any (bothB X0 X1) X0 W
  rw [both_idem] at HB4
  have HI : Hid (∀ W, _) := fun W => in_any x2 y2 X0 W
  have HJ : Hid (∀ W, _) := fun W => in_any x2 y2 X1 W
  have HK : Hid (∀ W, _) := fun W => in_any x2 y2 (bothB X0 X1) W
  have n1 : Hid (_ → _) := @in_both x2 y2 X0 X1
  have n2 : Hid _ := both_l X0 X1
  have n3 : Hid _ := both_k X0 X1
  generalize bothB X0 X1 = Z at *
  obtain ⟨l, m, h, k⟩ := Z
  simp only at n2 n3
  unfold Bx.val at HB HB2 HB3 HB4 HI HJ HK ⊢
  simp only at HB HB2 HB4 HK
  unfold vec
  generalize inB x2 y2 X0 = i0 at *
  generalize inB x2 y2 X1 = i1 at *
  generalize inB x2 y2 ⟨l, m, h, k⟩ = i2 at *
  clear o0 o1 f2 g2
  have e1 := same_box l m h k
  have e2 := ne_same_box l m h k
  have e3 := ne_same_box X0.l X0.m X0.h X0.k
  go_enter Try.func5, Try.ntmps5
  go_wp2_with (first
    | (go_at_call 8; go_fit (alive_any _); rintro e V ⟨rfl, G⟩; have a0 := G.cell (p := ⟨w.heap.size, 0, none⟩) (v := .int .i64  X0.l) (by simp [go_sem]); have a1 := G.cell (p := ⟨w.heap.size, 1, none⟩) (v := .int .i64  X0.m) (by simp [go_sem]); have a2 := G.cell (p := ⟨w.heap.size, 2, none⟩) (v := .int .i64  X0.h) (by simp [go_sem]); have a3 := G.cell (p := ⟨w.heap.size, 3, none⟩) (v := .int .i64  X0.k) (by simp [go_sem]); have b0 := G.cell (p := ⟨w.heap.size + 1, 0, none⟩) (v := .int .i64  X1.l) (by simp [go_sem]); have b1 := G.cell (p := ⟨w.heap.size + 1, 1, none⟩) (v := .int .i64  X1.m) (by simp [go_sem]); have b2 := G.cell (p := ⟨w.heap.size + 1, 2, none⟩) (v := .int .i64  X1.h) (by simp [go_sem]); have b3 := G.cell (p := ⟨w.heap.size + 1, 3, none⟩) (v := .int .i64  X1.k) (by simp [go_sem]); have c0 := G.cell (p := ⟨w.heap.size + 2, 0, none⟩) (v := .int .i64  x2) (by simp [go_sem]); have c1 := G.cell (p := ⟨w.heap.size + 2, 1, none⟩) (v := .int .i64  y2) (by simp [go_sem]))
    | (go_at_call 15; go_fit (HB.out _); rintro e V2 ⟨rfl, U2⟩; replace a0 := U2.cell a0; replace a1 := U2.cell a1; replace a2 := U2.cell a2; replace a3 := U2.cell a3; replace b0 := U2.cell b0; replace b1 := U2.cell b1; replace b2 := U2.cell b2; replace b3 := U2.cell b3; replace c0 := U2.cell c0; replace c1 := U2.cell c1))
  obtain ⟨M, hM⟩ : ∃ M, M = V2.alloc (.cells #[.int .i64 l, .int .i64 m, .int .i64 h, .int .i64 k] 28) := ⟨_, rfl⟩
  rw [← hM]
  have GM : Grew V2 M := by rw [hM]; exact (Grew.refl V2).alloc _ _
  have GN : Hid (Grew w M) := ((((((Grew.refl w).alloc _ _).alloc _ _).alloc _ _).trans G).trans U2).trans GM
  replace a0 := GM.cell a0
  replace a1 := GM.cell a1
  replace a2 := GM.cell a2
  replace a3 := GM.cell a3
  replace b0 := GM.cell b0
  replace b1 := GM.cell b1
  replace b2 := GM.cell b2
  replace b3 := GM.cell b3
  replace c0 := GM.cell c0
  replace c1 := GM.cell c1
  have d0 : M.cell? ⟨V2.heap.size, 0, none⟩ = some (.int .i64 l) := by rw [hM]; simp [go_sem]
  have d1 : M.cell? ⟨V2.heap.size, 1, none⟩ = some (.int .i64 m) := by rw [hM]; simp [go_sem]
  have d2 : M.cell? ⟨V2.heap.size, 2, none⟩ = some (.int .i64 h) := by rw [hM]; simp [go_sem]
  have d3 : M.cell? ⟨V2.heap.size, 3, none⟩ = some (.int .i64 k) := by rw [hM]; simp [go_sem]
  clear hM GM G U2 HB
  go_cut [40] from 13 to 40 (fun s wx => s = .bool false ∧ Grew M wx)
  case first =>
    clear n2 n3 HB4
    cases i0
    · cases i1
      · clear n1
        have qSa0 : Hid (∀ w', Grew M w' → (w'.cell? ⟨w.heap.size, 0, none⟩ = some (.int .i64 X0.l) ∧ w'.cell? ⟨w.heap.size, 1, none⟩ = some (.int .i64 X0.m) ∧ w'.cell? ⟨w.heap.size, 2, none⟩ = some (.int .i64 X0.h) ∧ w'.cell? ⟨w.heap.size, 3, none⟩ = some (.int .i64 X0.k))) := fun w' g => ⟨g.cell a0, g.cell a1, g.cell a2, g.cell a3⟩
        have qSa1 : Hid (∀ w', Grew M w' → (w'.cell? ⟨w.heap.size + 1, 0, none⟩ = some (.int .i64 X1.l) ∧ w'.cell? ⟨w.heap.size + 1, 1, none⟩ = some (.int .i64 X1.m) ∧ w'.cell? ⟨w.heap.size + 1, 2, none⟩ = some (.int .i64 X1.h) ∧ w'.cell? ⟨w.heap.size + 1, 3, none⟩ = some (.int .i64 X1.k))) := fun w' g => ⟨g.cell b0, g.cell b1, g.cell b2, g.cell b3⟩
        have qSa2 : Hid (∀ w', Grew M w' → (w'.cell? ⟨w.heap.size + 2, 0, none⟩ = some (.int .i64 x2) ∧ w'.cell? ⟨w.heap.size + 2, 1, none⟩ = some (.int .i64 y2))) := fun w' g => ⟨g.cell c0, g.cell c1⟩
        have qSa3 : Hid (∀ w', Grew M w' → (w'.cell? ⟨V2.heap.size, 0, none⟩ = some (.int .i64 l) ∧ w'.cell? ⟨V2.heap.size, 1, none⟩ = some (.int .i64 m) ∧ w'.cell? ⟨V2.heap.size, 2, none⟩ = some (.int .i64 h) ∧ w'.cell? ⟨V2.heap.size, 3, none⟩ = some (.int .i64 k))) := fun w' g => ⟨g.cell d0, g.cell d1, g.cell d2, g.cell d3⟩
        refine kept_region M (by kernel_rfl) (by kernel_rfl) ?_
        refine kept_want ?va0 (by rfl) ?ya0 ?ra0
        case ya0 => (intro w' hG; obtain ⟨q3_0, q3_1, q3_2, q3_3⟩ := qSa3.out w' hG; clear hG; go_simp; try (with_reducible rfl))
        simp only [Act.put, List.setIfInBounds_toArray, List.set_cons_zero, List.set_cons_succ]
        refine kept_want ?va1 (by rfl) ?ya1 ?ra1
        case ya1 => (intro w' hG; obtain ⟨q1_0, q1_1, q1_2, q1_3⟩ := qSa1.out w' hG; clear hG; go_simp; try (with_reducible rfl))
        simp only [Act.put, List.setIfInBounds_toArray, List.set_cons_zero, List.set_cons_succ]
        refine kept_want ?va2 (by rfl) ?ya2 ?ra2
        case ya2 => (intro w' hG; obtain ⟨q0_0, q0_1, q0_2, q0_3⟩ := qSa0.out w' hG; clear hG; go_simp; try (with_reducible rfl))
        simp only [Act.put, List.setIfInBounds_toArray, List.set_cons_zero, List.set_cons_succ]
        refine kept_want ?va3 (by rfl) ?ya3 ?ra3
        case ya3 => (intro w' hG; go_simp; refine (HB2.out _).mono ?_; rintro e w'' ⟨rfl, U⟩; refine ⟨?_, hG.trans U⟩; with_reducible rfl)
        simp only [Act.put, List.setIfInBounds_toArray, List.set_cons_zero, List.set_cons_succ]
        refine kept_want ?va4 (by rfl) ?ya4 ?ra4
        case ya4 => (intro w' hG; clear hG; go_simp; try (with_reducible rfl))
        simp only [Act.put, List.setIfInBounds_toArray, List.set_cons_zero, List.set_cons_succ]
        refine kept_want ?va5 (by rfl) ?ya5 ?ra5
        case ya5 => (intro w' hG; clear hG; go_simp; try (with_reducible rfl))
        simp only [Act.put, List.setIfInBounds_toArray, List.set_cons_zero, List.set_cons_succ]
        refine kept_want ?va6 (by rfl) ?ya6 ?ra6
        case ya6 => (intro w' hG; obtain ⟨q0_0, q0_1, q0_2, q0_3⟩ := qSa0.out w' hG; clear hG; go_simp; try (with_reducible rfl))
        simp only [Act.put, List.setIfInBounds_toArray, List.set_cons_zero, List.set_cons_succ]
        refine kept_want ?va7 (by rfl) ?ya7 ?ra7
        case ya7 => (intro w' hG; obtain ⟨q0_0, q0_1, q0_2, q0_3⟩ := qSa0.out w' hG; clear hG; go_simp; try (with_reducible rfl))
        simp only [Act.put, List.setIfInBounds_toArray, List.set_cons_zero, List.set_cons_succ]
        refine kept_want ?va8 (by rfl) ?ya8 ?ra8
        case ya8 => (intro w' hG; go_simp; refine (HB3.out _).mono ?_; rintro e w'' ⟨rfl, U⟩; refine ⟨?_, hG.trans U⟩; with_reducible rfl)
        simp only [Act.put, List.setIfInBounds_toArray, List.set_cons_zero, List.set_cons_succ]
        refine kept_want ?va9 (by rfl) ?ya9 ?ra9
        case ya9 => (intro w' hG; obtain ⟨q0_0, q0_1, q0_2, q0_3⟩ := qSa0.out w' hG; clear hG; go_simp; try (with_reducible rfl))
        simp only [Act.put, List.setIfInBounds_toArray, List.set_cons_zero, List.set_cons_succ]
        refine kept_want ?va10 (by rfl) ?ya10 ?ra10
        case ya10 => (intro w' hG; clear hG; go_simp; try (with_reducible rfl))
        simp only [Act.put, List.setIfInBounds_toArray, List.set_cons_zero, List.set_cons_succ]
        refine kept_want ?va11 (by rfl) ?ya11 ?ra11
        case ya11 => (intro w' hG; clear hG; go_simp; try (with_reducible rfl))
        simp only [Act.put, List.setIfInBounds_toArray, List.set_cons_zero, List.set_cons_succ]
        refine kept_want ?va12 (by rfl) ?ya12 ?ra12
        case ya12 => (intro w' hG; clear hG; go_simp; try (with_reducible rfl))
        simp only [Act.put, List.setIfInBounds_toArray, List.set_cons_zero, List.set_cons_succ]
        refine kept_want ?va13 (by rfl) ?ya13 ?ra13
        case ya13 => (intro w' hG; obtain ⟨q2_0, q2_1⟩ := qSa2.out w' hG; clear hG; go_simp; try (with_reducible rfl))
        simp only [Act.put, List.setIfInBounds_toArray, List.set_cons_zero, List.set_cons_succ]
        refine kept_want ?va14 (by rfl) ?ya14 ?ra14
        case ya14 => (intro w' hG; obtain ⟨q0_0, q0_1, q0_2, q0_3⟩ := qSa0.out w' hG; clear hG; go_simp; try (with_reducible rfl))
        simp only [Act.put, List.setIfInBounds_toArray, List.set_cons_zero, List.set_cons_succ]
        refine kept_want ?va15 (by rfl) ?ya15 ?ra15
        case ya15 => (intro w' hG; go_simp; refine (HI.out _).mono ?_; rintro e w'' ⟨rfl, U⟩; refine ⟨?_, hG.trans U⟩; with_reducible rfl)
        simp only [Act.put, List.setIfInBounds_toArray, List.set_cons_zero, List.set_cons_succ]
        refine kept_want ?va16 (by rfl) ?ya16 ?ra16
        case ya16 => (intro w' hG; clear hG; go_simp; try (with_reducible rfl))
        simp only [Act.put, List.setIfInBounds_toArray, List.set_cons_zero, List.set_cons_succ]
        refine kept_want ?va17 (by rfl) ?ya17 ?ra17
        case ya17 => (intro w' hG; obtain ⟨q2_0, q2_1⟩ := qSa2.out w' hG; clear hG; go_simp; try (with_reducible rfl))
        simp only [Act.put, List.setIfInBounds_toArray, List.set_cons_zero, List.set_cons_succ]
        refine kept_want ?va18 (by rfl) ?ya18 ?ra18
        case ya18 => (intro w' hG; obtain ⟨q1_0, q1_1, q1_2, q1_3⟩ := qSa1.out w' hG; clear hG; go_simp; try (with_reducible rfl))
        simp only [Act.put, List.setIfInBounds_toArray, List.set_cons_zero, List.set_cons_succ]
        refine kept_want ?va19 (by rfl) ?ya19 ?ra19
        case ya19 => (intro w' hG; go_simp; refine (HJ.out _).mono ?_; rintro e w'' ⟨rfl, U⟩; refine ⟨?_, hG.trans U⟩; with_reducible rfl)
        simp only [Act.put, List.setIfInBounds_toArray, List.set_cons_zero, List.set_cons_succ]
        refine kept_want ?va20 (by rfl) ?ya20 ?ra20
        case ya20 => (intro w' hG; clear hG; go_simp; try (with_reducible rfl))
        simp only [Act.put, List.setIfInBounds_toArray, List.set_cons_zero, List.set_cons_succ]
        refine kept_want ?va21 (by rfl) ?ya21 ?ra21
        case ya21 => (intro w' hG; clear hG; go_simp; try (with_reducible rfl))
        simp only [Act.put, List.setIfInBounds_toArray, List.set_cons_zero, List.set_cons_succ]
        refine kept_skip (by rfl) ?_
        simp only [Act.put, List.setIfInBounds_toArray, List.set_cons_zero, List.set_cons_succ]
        refine kept_skip (by rfl) ?_
        simp only [Act.put, List.setIfInBounds_toArray, List.set_cons_zero, List.set_cons_succ]
        refine kept_skip (by rfl) ?_
        simp only [Act.put, List.setIfInBounds_toArray, List.set_cons_zero, List.set_cons_succ]
        refine kept_skip (by rfl) ?_
        simp only [Act.put, List.setIfInBounds_toArray, List.set_cons_zero, List.set_cons_succ]
        refine kept_want ?va26 (by rfl) ?ya26 ?ra26
        case ya26 => (intro w' hG; clear hG; go_simp; try (with_reducible rfl))
        simp only [Act.put, List.setIfInBounds_toArray, List.set_cons_zero, List.set_cons_succ]
        refine kept_want ?va27 (by rfl) ?ya27 ?ra27
        case ya27 => (intro w' hG; clear hG; go_simp; try (with_reducible rfl))
        simp only [Act.put, List.setIfInBounds_toArray, List.set_cons_zero, List.set_cons_succ]
        refine kept_nil ?_
        intro V3 hV3
        clear qSa0 qSa1 qSa2 qSa3
        go_wp2
        go_meet
        case rel => exact ⟨rfl, hV3⟩
      · obtain rfl := n1.out (.inr rfl)
        clear n1
        have qSb0 : Hid (∀ w', Grew M w' → (w'.cell? ⟨w.heap.size, 0, none⟩ = some (.int .i64 X0.l) ∧ w'.cell? ⟨w.heap.size, 1, none⟩ = some (.int .i64 X0.m) ∧ w'.cell? ⟨w.heap.size, 2, none⟩ = some (.int .i64 X0.h) ∧ w'.cell? ⟨w.heap.size, 3, none⟩ = some (.int .i64 X0.k))) := fun w' g => ⟨g.cell a0, g.cell a1, g.cell a2, g.cell a3⟩
        have qSb1 : Hid (∀ w', Grew M w' → (w'.cell? ⟨w.heap.size + 1, 0, none⟩ = some (.int .i64 X1.l) ∧ w'.cell? ⟨w.heap.size + 1, 1, none⟩ = some (.int .i64 X1.m) ∧ w'.cell? ⟨w.heap.size + 1, 2, none⟩ = some (.int .i64 X1.h) ∧ w'.cell? ⟨w.heap.size + 1, 3, none⟩ = some (.int .i64 X1.k))) := fun w' g => ⟨g.cell b0, g.cell b1, g.cell b2, g.cell b3⟩
        have qSb2 : Hid (∀ w', Grew M w' → (w'.cell? ⟨w.heap.size + 2, 0, none⟩ = some (.int .i64 x2) ∧ w'.cell? ⟨w.heap.size + 2, 1, none⟩ = some (.int .i64 y2))) := fun w' g => ⟨g.cell c0, g.cell c1⟩
        have qSb3 : Hid (∀ w', Grew M w' → (w'.cell? ⟨V2.heap.size, 0, none⟩ = some (.int .i64 l) ∧ w'.cell? ⟨V2.heap.size, 1, none⟩ = some (.int .i64 m) ∧ w'.cell? ⟨V2.heap.size, 2, none⟩ = some (.int .i64 h) ∧ w'.cell? ⟨V2.heap.size, 3, none⟩ = some (.int .i64 k))) := fun w' g => ⟨g.cell d0, g.cell d1, g.cell d2, g.cell d3⟩
        refine kept_region M (by kernel_rfl) (by kernel_rfl) ?_
        refine kept_want ?vb0 (by rfl) ?yb0 ?rb0
        case yb0 => (intro w' hG; obtain ⟨q3_0, q3_1, q3_2, q3_3⟩ := qSb3.out w' hG; clear hG; go_simp; try (with_reducible rfl))
        simp only [Act.put, List.setIfInBounds_toArray, List.set_cons_zero, List.set_cons_succ]
        refine kept_want ?vb1 (by rfl) ?yb1 ?rb1
        case yb1 => (intro w' hG; obtain ⟨q1_0, q1_1, q1_2, q1_3⟩ := qSb1.out w' hG; clear hG; go_simp; try (with_reducible rfl))
        simp only [Act.put, List.setIfInBounds_toArray, List.set_cons_zero, List.set_cons_succ]
        refine kept_want ?vb2 (by rfl) ?yb2 ?rb2
        case yb2 => (intro w' hG; obtain ⟨q0_0, q0_1, q0_2, q0_3⟩ := qSb0.out w' hG; clear hG; go_simp; try (with_reducible rfl))
        simp only [Act.put, List.setIfInBounds_toArray, List.set_cons_zero, List.set_cons_succ]
        refine kept_want ?vb3 (by rfl) ?yb3 ?rb3
        case yb3 => (intro w' hG; go_simp; refine (HB2.out _).mono ?_; rintro e w'' ⟨rfl, U⟩; refine ⟨?_, hG.trans U⟩; with_reducible rfl)
        simp only [Act.put, List.setIfInBounds_toArray, List.set_cons_zero, List.set_cons_succ]
        refine kept_want ?vb4 (by rfl) ?yb4 ?rb4
        case yb4 => (intro w' hG; clear hG; go_simp; try (with_reducible rfl))
        simp only [Act.put, List.setIfInBounds_toArray, List.set_cons_zero, List.set_cons_succ]
        refine kept_want ?vb5 (by rfl) ?yb5 ?rb5
        case yb5 => (intro w' hG; clear hG; go_simp; try (with_reducible rfl))
        simp only [Act.put, List.setIfInBounds_toArray, List.set_cons_zero, List.set_cons_succ]
        refine kept_want ?vb6 (by rfl) ?yb6 ?rb6
        case yb6 => (intro w' hG; obtain ⟨q0_0, q0_1, q0_2, q0_3⟩ := qSb0.out w' hG; clear hG; go_simp; try (with_reducible rfl))
        simp only [Act.put, List.setIfInBounds_toArray, List.set_cons_zero, List.set_cons_succ]
        refine kept_want ?vb7 (by rfl) ?yb7 ?rb7
        case yb7 => (intro w' hG; obtain ⟨q0_0, q0_1, q0_2, q0_3⟩ := qSb0.out w' hG; clear hG; go_simp; try (with_reducible rfl))
        simp only [Act.put, List.setIfInBounds_toArray, List.set_cons_zero, List.set_cons_succ]
        refine kept_want ?vb8 (by rfl) ?yb8 ?rb8
        case yb8 => (intro w' hG; go_simp; refine (HB3.out _).mono ?_; rintro e w'' ⟨rfl, U⟩; refine ⟨?_, hG.trans U⟩; with_reducible rfl)
        simp only [Act.put, List.setIfInBounds_toArray, List.set_cons_zero, List.set_cons_succ]
        refine kept_want ?vb9 (by rfl) ?yb9 ?rb9
        case yb9 => (intro w' hG; obtain ⟨q0_0, q0_1, q0_2, q0_3⟩ := qSb0.out w' hG; clear hG; go_simp; try (with_reducible rfl))
        simp only [Act.put, List.setIfInBounds_toArray, List.set_cons_zero, List.set_cons_succ]
        refine kept_want ?vb10 (by rfl) ?yb10 ?rb10
        case yb10 => (intro w' hG; clear hG; go_simp; try (with_reducible rfl))
        simp only [Act.put, List.setIfInBounds_toArray, List.set_cons_zero, List.set_cons_succ]
        refine kept_want ?vb11 (by rfl) ?yb11 ?rb11
        case yb11 => (intro w' hG; clear hG; go_simp; try (with_reducible rfl))
        simp only [Act.put, List.setIfInBounds_toArray, List.set_cons_zero, List.set_cons_succ]
        refine kept_want ?vb12 (by rfl) ?yb12 ?rb12
        case yb12 => (intro w' hG; clear hG; go_simp; try (with_reducible rfl))
        simp only [Act.put, List.setIfInBounds_toArray, List.set_cons_zero, List.set_cons_succ]
        refine kept_want ?vb13 (by rfl) ?yb13 ?rb13
        case yb13 => (intro w' hG; obtain ⟨q2_0, q2_1⟩ := qSb2.out w' hG; clear hG; go_simp; try (with_reducible rfl))
        simp only [Act.put, List.setIfInBounds_toArray, List.set_cons_zero, List.set_cons_succ]
        refine kept_want ?vb14 (by rfl) ?yb14 ?rb14
        case yb14 => (intro w' hG; obtain ⟨q0_0, q0_1, q0_2, q0_3⟩ := qSb0.out w' hG; clear hG; go_simp; try (with_reducible rfl))
        simp only [Act.put, List.setIfInBounds_toArray, List.set_cons_zero, List.set_cons_succ]
        refine kept_want ?vb15 (by rfl) ?yb15 ?rb15
        case yb15 => (intro w' hG; go_simp; refine (HI.out _).mono ?_; rintro e w'' ⟨rfl, U⟩; refine ⟨?_, hG.trans U⟩; with_reducible rfl)
        simp only [Act.put, List.setIfInBounds_toArray, List.set_cons_zero, List.set_cons_succ]
        refine kept_want ?vb16 (by rfl) ?yb16 ?rb16
        case yb16 => (intro w' hG; clear hG; go_simp; try (with_reducible rfl))
        simp only [Act.put, List.setIfInBounds_toArray, List.set_cons_zero, List.set_cons_succ]
        refine kept_want ?vb17 (by rfl) ?yb17 ?rb17
        case yb17 => (intro w' hG; obtain ⟨q2_0, q2_1⟩ := qSb2.out w' hG; clear hG; go_simp; try (with_reducible rfl))
        simp only [Act.put, List.setIfInBounds_toArray, List.set_cons_zero, List.set_cons_succ]
        refine kept_want ?vb18 (by rfl) ?yb18 ?rb18
        case yb18 => (intro w' hG; obtain ⟨q1_0, q1_1, q1_2, q1_3⟩ := qSb1.out w' hG; clear hG; go_simp; try (with_reducible rfl))
        simp only [Act.put, List.setIfInBounds_toArray, List.set_cons_zero, List.set_cons_succ]
        refine kept_want ?vb19 (by rfl) ?yb19 ?rb19
        case yb19 => (intro w' hG; go_simp; refine (HJ.out _).mono ?_; rintro e w'' ⟨rfl, U⟩; refine ⟨?_, hG.trans U⟩; with_reducible rfl)
        simp only [Act.put, List.setIfInBounds_toArray, List.set_cons_zero, List.set_cons_succ]
        refine kept_want ?vb20 (by rfl) ?yb20 ?rb20
        case yb20 => (intro w' hG; clear hG; go_simp; try (with_reducible rfl))
        simp only [Act.put, List.setIfInBounds_toArray, List.set_cons_zero, List.set_cons_succ]
        refine kept_want ?vb21 (by rfl) ?yb21 ?rb21
        case yb21 => (intro w' hG; clear hG; go_simp; try (with_reducible rfl))
        simp only [Act.put, List.setIfInBounds_toArray, List.set_cons_zero, List.set_cons_succ]
        refine kept_want ?vb22 (by rfl) ?yb22 ?rb22
        case yb22 => (intro w' hG; obtain ⟨q2_0, q2_1⟩ := qSb2.out w' hG; clear hG; go_simp; try (with_reducible rfl))
        simp only [Act.put, List.setIfInBounds_toArray, List.set_cons_zero, List.set_cons_succ]
        refine kept_want ?vb23 (by rfl) ?yb23 ?rb23
        case yb23 => (intro w' hG; obtain ⟨q3_0, q3_1, q3_2, q3_3⟩ := qSb3.out w' hG; clear hG; go_simp; try (with_reducible rfl))
        simp only [Act.put, List.setIfInBounds_toArray, List.set_cons_zero, List.set_cons_succ]
        refine kept_want ?vb24 (by rfl) ?yb24 ?rb24
        case yb24 => (intro w' hG; go_simp; refine (HK.out _).mono ?_; rintro e w'' ⟨rfl, U⟩; refine ⟨?_, hG.trans U⟩; with_reducible rfl)
        simp only [Act.put, List.setIfInBounds_toArray, List.set_cons_zero, List.set_cons_succ]
        refine kept_want ?vb25 (by rfl) ?yb25 ?rb25
        case yb25 => (intro w' hG; clear hG; go_simp; try (with_reducible rfl))
        simp only [Act.put, List.setIfInBounds_toArray, List.set_cons_zero, List.set_cons_succ]
        refine kept_want ?vb26 (by rfl) ?yb26 ?rb26
        case yb26 => (intro w' hG; clear hG; go_simp; try (with_reducible rfl))
        simp only [Act.put, List.setIfInBounds_toArray, List.set_cons_zero, List.set_cons_succ]
        refine kept_want ?vb27 (by rfl) ?yb27 ?rb27
        case yb27 => (intro w' hG; clear hG; go_simp; try (with_reducible rfl))
        simp only [Act.put, List.setIfInBounds_toArray, List.set_cons_zero, List.set_cons_succ]
        refine kept_nil ?_
        intro V3 hV3
        clear qSb0 qSb1 qSb2 qSb3
        go_wp2
        go_meet
        case rel => exact ⟨rfl, hV3⟩
    · obtain rfl := n1.out (.inl rfl)
      clear n1
      have qSc0 : Hid (∀ w', Grew M w' → (w'.cell? ⟨w.heap.size, 0, none⟩ = some (.int .i64 X0.l) ∧ w'.cell? ⟨w.heap.size, 1, none⟩ = some (.int .i64 X0.m) ∧ w'.cell? ⟨w.heap.size, 2, none⟩ = some (.int .i64 X0.h) ∧ w'.cell? ⟨w.heap.size, 3, none⟩ = some (.int .i64 X0.k))) := fun w' g => ⟨g.cell a0, g.cell a1, g.cell a2, g.cell a3⟩
      have qSc1 : Hid (∀ w', Grew M w' → (w'.cell? ⟨w.heap.size + 1, 0, none⟩ = some (.int .i64 X1.l) ∧ w'.cell? ⟨w.heap.size + 1, 1, none⟩ = some (.int .i64 X1.m) ∧ w'.cell? ⟨w.heap.size + 1, 2, none⟩ = some (.int .i64 X1.h) ∧ w'.cell? ⟨w.heap.size + 1, 3, none⟩ = some (.int .i64 X1.k))) := fun w' g => ⟨g.cell b0, g.cell b1, g.cell b2, g.cell b3⟩
      have qSc2 : Hid (∀ w', Grew M w' → (w'.cell? ⟨w.heap.size + 2, 0, none⟩ = some (.int .i64 x2) ∧ w'.cell? ⟨w.heap.size + 2, 1, none⟩ = some (.int .i64 y2))) := fun w' g => ⟨g.cell c0, g.cell c1⟩
      have qSc3 : Hid (∀ w', Grew M w' → (w'.cell? ⟨V2.heap.size, 0, none⟩ = some (.int .i64 l) ∧ w'.cell? ⟨V2.heap.size, 1, none⟩ = some (.int .i64 m) ∧ w'.cell? ⟨V2.heap.size, 2, none⟩ = some (.int .i64 h) ∧ w'.cell? ⟨V2.heap.size, 3, none⟩ = some (.int .i64 k))) := fun w' g => ⟨g.cell d0, g.cell d1, g.cell d2, g.cell d3⟩
      refine kept_region M (by kernel_rfl) (by kernel_rfl) ?_
      refine kept_want ?vc0 (by rfl) ?yc0 ?rc0
      case yc0 => (intro w' hG; obtain ⟨q3_0, q3_1, q3_2, q3_3⟩ := qSc3.out w' hG; clear hG; go_simp; try (with_reducible rfl))
      simp only [Act.put, List.setIfInBounds_toArray, List.set_cons_zero, List.set_cons_succ]
      refine kept_want ?vc1 (by rfl) ?yc1 ?rc1
      case yc1 => (intro w' hG; obtain ⟨q1_0, q1_1, q1_2, q1_3⟩ := qSc1.out w' hG; clear hG; go_simp; try (with_reducible rfl))
      simp only [Act.put, List.setIfInBounds_toArray, List.set_cons_zero, List.set_cons_succ]
      refine kept_want ?vc2 (by rfl) ?yc2 ?rc2
      case yc2 => (intro w' hG; obtain ⟨q0_0, q0_1, q0_2, q0_3⟩ := qSc0.out w' hG; clear hG; go_simp; try (with_reducible rfl))
      simp only [Act.put, List.setIfInBounds_toArray, List.set_cons_zero, List.set_cons_succ]
      refine kept_want ?vc3 (by rfl) ?yc3 ?rc3
      case yc3 => (intro w' hG; go_simp; refine (HB2.out _).mono ?_; rintro e w'' ⟨rfl, U⟩; refine ⟨?_, hG.trans U⟩; with_reducible rfl)
      simp only [Act.put, List.setIfInBounds_toArray, List.set_cons_zero, List.set_cons_succ]
      refine kept_want ?vc4 (by rfl) ?yc4 ?rc4
      case yc4 => (intro w' hG; clear hG; go_simp; try (with_reducible rfl))
      simp only [Act.put, List.setIfInBounds_toArray, List.set_cons_zero, List.set_cons_succ]
      refine kept_want ?vc5 (by rfl) ?yc5 ?rc5
      case yc5 => (intro w' hG; clear hG; go_simp; try (with_reducible rfl))
      simp only [Act.put, List.setIfInBounds_toArray, List.set_cons_zero, List.set_cons_succ]
      refine kept_want ?vc6 (by rfl) ?yc6 ?rc6
      case yc6 => (intro w' hG; obtain ⟨q0_0, q0_1, q0_2, q0_3⟩ := qSc0.out w' hG; clear hG; go_simp; try (with_reducible rfl))
      simp only [Act.put, List.setIfInBounds_toArray, List.set_cons_zero, List.set_cons_succ]
      refine kept_want ?vc7 (by rfl) ?yc7 ?rc7
      case yc7 => (intro w' hG; obtain ⟨q0_0, q0_1, q0_2, q0_3⟩ := qSc0.out w' hG; clear hG; go_simp; try (with_reducible rfl))
      simp only [Act.put, List.setIfInBounds_toArray, List.set_cons_zero, List.set_cons_succ]
      refine kept_want ?vc8 (by rfl) ?yc8 ?rc8
      case yc8 => (intro w' hG; go_simp; refine (HB3.out _).mono ?_; rintro e w'' ⟨rfl, U⟩; refine ⟨?_, hG.trans U⟩; with_reducible rfl)
      simp only [Act.put, List.setIfInBounds_toArray, List.set_cons_zero, List.set_cons_succ]
      refine kept_want ?vc9 (by rfl) ?yc9 ?rc9
      case yc9 => (intro w' hG; obtain ⟨q0_0, q0_1, q0_2, q0_3⟩ := qSc0.out w' hG; clear hG; go_simp; try (with_reducible rfl))
      simp only [Act.put, List.setIfInBounds_toArray, List.set_cons_zero, List.set_cons_succ]
      refine kept_want ?vc10 (by rfl) ?yc10 ?rc10
      case yc10 => (intro w' hG; clear hG; go_simp; try (with_reducible rfl))
      simp only [Act.put, List.setIfInBounds_toArray, List.set_cons_zero, List.set_cons_succ]
      refine kept_want ?vc11 (by rfl) ?yc11 ?rc11
      case yc11 => (intro w' hG; clear hG; go_simp; try (with_reducible rfl))
      simp only [Act.put, List.setIfInBounds_toArray, List.set_cons_zero, List.set_cons_succ]
      refine kept_want ?vc12 (by rfl) ?yc12 ?rc12
      case yc12 => (intro w' hG; clear hG; go_simp; try (with_reducible rfl))
      simp only [Act.put, List.setIfInBounds_toArray, List.set_cons_zero, List.set_cons_succ]
      refine kept_want ?vc13 (by rfl) ?yc13 ?rc13
      case yc13 => (intro w' hG; obtain ⟨q2_0, q2_1⟩ := qSc2.out w' hG; clear hG; go_simp; try (with_reducible rfl))
      simp only [Act.put, List.setIfInBounds_toArray, List.set_cons_zero, List.set_cons_succ]
      refine kept_want ?vc14 (by rfl) ?yc14 ?rc14
      case yc14 => (intro w' hG; obtain ⟨q0_0, q0_1, q0_2, q0_3⟩ := qSc0.out w' hG; clear hG; go_simp; try (with_reducible rfl))
      simp only [Act.put, List.setIfInBounds_toArray, List.set_cons_zero, List.set_cons_succ]
      refine kept_want ?vc15 (by rfl) ?yc15 ?rc15
      case yc15 => (intro w' hG; go_simp; refine (HI.out _).mono ?_; rintro e w'' ⟨rfl, U⟩; refine ⟨?_, hG.trans U⟩; with_reducible rfl)
      simp only [Act.put, List.setIfInBounds_toArray, List.set_cons_zero, List.set_cons_succ]
      refine kept_want ?vc16 (by rfl) ?yc16 ?rc16
      case yc16 => (intro w' hG; clear hG; go_simp; try (with_reducible rfl))
      simp only [Act.put, List.setIfInBounds_toArray, List.set_cons_zero, List.set_cons_succ]
      refine kept_skip (by rfl) ?_
      simp only [Act.put, List.setIfInBounds_toArray, List.set_cons_zero, List.set_cons_succ]
      refine kept_skip (by rfl) ?_
      simp only [Act.put, List.setIfInBounds_toArray, List.set_cons_zero, List.set_cons_succ]
      refine kept_skip (by rfl) ?_
      simp only [Act.put, List.setIfInBounds_toArray, List.set_cons_zero, List.set_cons_succ]
      refine kept_want ?vc20 (by rfl) ?yc20 ?rc20
      case yc20 => (intro w' hG; clear hG; go_simp; try (with_reducible rfl))
      simp only [Act.put, List.setIfInBounds_toArray, List.set_cons_zero, List.set_cons_succ]
      refine kept_want ?vc21 (by rfl) ?yc21 ?rc21
      case yc21 => (intro w' hG; clear hG; go_simp; try (with_reducible rfl))
      simp only [Act.put, List.setIfInBounds_toArray, List.set_cons_zero, List.set_cons_succ]
      refine kept_want ?vc22 (by rfl) ?yc22 ?rc22
      case yc22 => (intro w' hG; obtain ⟨q2_0, q2_1⟩ := qSc2.out w' hG; clear hG; go_simp; try (with_reducible rfl))
      simp only [Act.put, List.setIfInBounds_toArray, List.set_cons_zero, List.set_cons_succ]
      refine kept_want ?vc23 (by rfl) ?yc23 ?rc23
      case yc23 => (intro w' hG; obtain ⟨q3_0, q3_1, q3_2, q3_3⟩ := qSc3.out w' hG; clear hG; go_simp; try (with_reducible rfl))
      simp only [Act.put, List.setIfInBounds_toArray, List.set_cons_zero, List.set_cons_succ]
      refine kept_want ?vc24 (by rfl) ?yc24 ?rc24
      case yc24 => (intro w' hG; go_simp; refine (HK.out _).mono ?_; rintro e w'' ⟨rfl, U⟩; refine ⟨?_, hG.trans U⟩; with_reducible rfl)
      simp only [Act.put, List.setIfInBounds_toArray, List.set_cons_zero, List.set_cons_succ]
      refine kept_want ?vc25 (by rfl) ?yc25 ?rc25
      case yc25 => (intro w' hG; clear hG; go_simp; try (with_reducible rfl))
      simp only [Act.put, List.setIfInBounds_toArray, List.set_cons_zero, List.set_cons_succ]
      refine kept_want ?vc26 (by rfl) ?yc26 ?rc26
      case yc26 => (intro w' hG; clear hG; go_simp; try (with_reducible rfl))
      simp only [Act.put, List.setIfInBounds_toArray, List.set_cons_zero, List.set_cons_succ]
      refine kept_want ?vc27 (by rfl) ?yc27 ?rc27
      case yc27 => (intro w' hG; clear hG; go_simp; try (with_reducible rfl))
      simp only [Act.put, List.setIfInBounds_toArray, List.set_cons_zero, List.set_cons_succ]
      refine kept_nil ?_
      intro V3 hV3
      clear qSc0 qSc1 qSc2 qSc3
      go_wp2
      go_meet
      case rel => exact ⟨rfl, hV3⟩
  obtain ⟨rfl, hc⟩ := hcut
  replace a0 := hc.cell a0
  replace a1 := hc.cell a1
  replace a2 := hc.cell a2
  replace a3 := hc.cell a3
  replace b0 := hc.cell b0
  replace b1 := hc.cell b1
  replace b2 := hc.cell b2
  replace b3 := hc.cell b3
  replace c0 := hc.cell c0
  replace c1 := hc.cell c1
  replace d0 := hc.cell d0
  replace d1 := hc.cell d1
  replace d2 := hc.cell d2
  replace d3 := hc.cell d3
  have GW : Hid (Grew w wc) := GN.out.trans hc
  clear hc GN HB2 HB3 HI HJ HK n1 e2 e3
  go_wp2_with (fail)
  by_cases gl : l = X0.l
  · have tl : (l == X0.l) = true := by simpa using gl
    clear gl
    by_cases gk : k = X0.k
    · have tk : (k == X0.k) = true := by simpa using gk
      clear gk
      clear n2 n3
      have qSd0 : Hid (∀ w', Grew wc w' → (w'.cell? ⟨w.heap.size, 0, none⟩ = some (.int .i64 X0.l) ∧ w'.cell? ⟨w.heap.size, 1, none⟩ = some (.int .i64 X0.m) ∧ w'.cell? ⟨w.heap.size, 2, none⟩ = some (.int .i64 X0.h) ∧ w'.cell? ⟨w.heap.size, 3, none⟩ = some (.int .i64 X0.k))) := fun w' g => ⟨g.cell a0, g.cell a1, g.cell a2, g.cell a3⟩
      have qSd1 : Hid (∀ w', Grew wc w' → (w'.cell? ⟨w.heap.size + 1, 0, none⟩ = some (.int .i64 X1.l) ∧ w'.cell? ⟨w.heap.size + 1, 1, none⟩ = some (.int .i64 X1.m) ∧ w'.cell? ⟨w.heap.size + 1, 2, none⟩ = some (.int .i64 X1.h) ∧ w'.cell? ⟨w.heap.size + 1, 3, none⟩ = some (.int .i64 X1.k))) := fun w' g => ⟨g.cell b0, g.cell b1, g.cell b2, g.cell b3⟩
      have qSd2 : Hid (∀ w', Grew wc w' → (w'.cell? ⟨w.heap.size + 2, 0, none⟩ = some (.int .i64 x2) ∧ w'.cell? ⟨w.heap.size + 2, 1, none⟩ = some (.int .i64 y2))) := fun w' g => ⟨g.cell c0, g.cell c1⟩
      have qSd3 : Hid (∀ w', Grew wc w' → (w'.cell? ⟨V2.heap.size, 0, none⟩ = some (.int .i64 l) ∧ w'.cell? ⟨V2.heap.size, 1, none⟩ = some (.int .i64 m) ∧ w'.cell? ⟨V2.heap.size, 2, none⟩ = some (.int .i64 h) ∧ w'.cell? ⟨V2.heap.size, 3, none⟩ = some (.int .i64 k))) := fun w' g => ⟨g.cell d0, g.cell d1, g.cell d2, g.cell d3⟩
      refine kept_region wc (by kernel_rfl) (by kernel_rfl) ?_
      refine kept_want ?vd0 (by rfl) ?yd0 ?rd0
      case yd0 => (intro w' hG; clear hG; go_simp; try (with_reducible rfl))
      simp only [Act.put, List.setIfInBounds_toArray, List.set_cons_zero, List.set_cons_succ]
      refine kept_want ?vd1 (by rfl) ?yd1 ?rd1
      case yd1 => (intro w' hG; clear hG; go_simp; try (with_reducible rfl))
      simp only [Act.put, List.setIfInBounds_toArray, List.set_cons_zero, List.set_cons_succ]
      refine kept_want ?vd2 (by rfl) ?yd2 ?rd2
      case yd2 => (intro w' hG; obtain ⟨q3_0, q3_1, q3_2, q3_3⟩ := qSd3.out w' hG; clear hG; go_simp; try (with_reducible rfl))
      simp only [Act.put, List.setIfInBounds_toArray, List.set_cons_zero, List.set_cons_succ]
      refine kept_want ?vd3 (by rfl) ?yd3 ?rd3
      case yd3 => (intro w' hG; clear hG; go_simp; try (with_reducible rfl))
      simp only [Act.put, List.setIfInBounds_toArray, List.set_cons_zero, List.set_cons_succ]
      refine kept_want ?vd4 (by rfl) ?yd4 ?rd4
      case yd4 => (intro w' hG; clear hG; go_simp; try (with_reducible rfl))
      simp only [Act.put, List.setIfInBounds_toArray, List.set_cons_zero, List.set_cons_succ]
      refine kept_want ?vd5 (by rfl) ?yd5 ?rd5
      case yd5 => (intro w' hG; obtain ⟨q0_0, q0_1, q0_2, q0_3⟩ := qSd0.out w' hG; clear hG; go_simp; try (with_reducible rfl))
      simp only [Act.put, List.setIfInBounds_toArray, List.set_cons_zero, List.set_cons_succ]
      refine kept_want ?vd6 (by rfl) ?yd6 ?rd6
      case yd6 => (intro w' hG; clear hG; go_simp; try (with_reducible rfl))
      simp only [Act.put, List.setIfInBounds_toArray, List.set_cons_zero, List.set_cons_succ]
      refine kept_want ?vd7 (by rfl) ?yd7 ?rd7
      case yd7 => (intro w' hG; clear hG; go_simp; try (with_reducible rfl))
      simp only [Act.put, List.setIfInBounds_toArray, List.set_cons_zero, List.set_cons_succ]
      refine kept_skip (by rfl) ?_
      simp only [Act.put, List.setIfInBounds_toArray, List.set_cons_zero, List.set_cons_succ]
      refine kept_skip (by rfl) ?_
      simp only [Act.put, List.setIfInBounds_toArray, List.set_cons_zero, List.set_cons_succ]
      refine kept_skip (by rfl) ?_
      simp only [Act.put, List.setIfInBounds_toArray, List.set_cons_zero, List.set_cons_succ]
      refine kept_skip (by rfl) ?_
      simp only [Act.put, List.setIfInBounds_toArray, List.set_cons_zero, List.set_cons_succ]
      refine kept_skip (by rfl) ?_
      simp only [Act.put, List.setIfInBounds_toArray, List.set_cons_zero, List.set_cons_succ]
      refine kept_skip (by rfl) ?_
      simp only [Act.put, List.setIfInBounds_toArray, List.set_cons_zero, List.set_cons_succ]
      refine kept_skip (by rfl) ?_
      simp only [Act.put, List.setIfInBounds_toArray, List.set_cons_zero, List.set_cons_succ]
      refine kept_want ?vd15 (by rfl) ?yd15 ?rd15
      case yd15 => (intro w' hG; clear hG; go_simp; try (with_reducible rfl))
      simp only [Act.put, List.setIfInBounds_toArray, List.set_cons_zero, List.set_cons_succ]
      refine kept_want ?vd16 (by rfl) ?yd16 ?rd16
      case yd16 => (intro w' hG; clear hG; go_simp; try (with_reducible rfl))
      simp only [Act.put, List.setIfInBounds_toArray, List.set_cons_zero, List.set_cons_succ]
      refine kept_want ?vd17 (by rfl) ?yd17 ?rd17
      case yd17 => (intro w' hG; clear hG; go_simp; try (with_reducible rfl))
      simp only [Act.put, List.setIfInBounds_toArray, List.set_cons_zero, List.set_cons_succ]
      refine kept_want ?vd18 (by rfl) ?yd18 ?rd18
      case yd18 => (intro w' hG; clear hG; go_simp; try (with_reducible rfl))
      simp only [Act.put, List.setIfInBounds_toArray, List.set_cons_zero, List.set_cons_succ]
      refine kept_want ?vd19 (by rfl) ?yd19 ?rd19
      case yd19 => (intro w' hG; obtain ⟨q3_0, q3_1, q3_2, q3_3⟩ := qSd3.out w' hG; clear hG; go_simp; try (with_reducible rfl))
      simp only [Act.put, List.setIfInBounds_toArray, List.set_cons_zero, List.set_cons_succ]
      refine kept_want ?vd20 (by rfl) ?yd20 ?rd20
      case yd20 => (intro w' hG; clear hG; go_simp; try (with_reducible rfl))
      simp only [Act.put, List.setIfInBounds_toArray, List.set_cons_zero, List.set_cons_succ]
      refine kept_want ?vd21 (by rfl) ?yd21 ?rd21
      case yd21 => (intro w' hG; clear hG; go_simp; try (with_reducible rfl))
      simp only [Act.put, List.setIfInBounds_toArray, List.set_cons_zero, List.set_cons_succ]
      refine kept_want ?vd22 (by rfl) ?yd22 ?rd22
      case yd22 => (intro w' hG; obtain ⟨q0_0, q0_1, q0_2, q0_3⟩ := qSd0.out w' hG; clear hG; go_simp; try (with_reducible rfl))
      simp only [Act.put, List.setIfInBounds_toArray, List.set_cons_zero, List.set_cons_succ]
      refine kept_want ?vd23 (by rfl) ?yd23 ?rd23
      case yd23 => (intro w' hG; clear hG; go_simp; try (with_reducible rfl))
      simp only [Act.put, List.setIfInBounds_toArray, List.set_cons_zero, List.set_cons_succ]
      refine kept_want ?vd24 (by rfl) ?yd24 ?rd24
      case yd24 => (intro w' hG; clear hG; go_simp; try (with_reducible rfl))
      simp only [Act.put, List.setIfInBounds_toArray, List.set_cons_zero, List.set_cons_succ]
      refine kept_skip (by rfl) ?_
      simp only [Act.put, List.setIfInBounds_toArray, List.set_cons_zero, List.set_cons_succ]
      refine kept_skip (by rfl) ?_
      simp only [Act.put, List.setIfInBounds_toArray, List.set_cons_zero, List.set_cons_succ]
      refine kept_skip (by rfl) ?_
      simp only [Act.put, List.setIfInBounds_toArray, List.set_cons_zero, List.set_cons_succ]
      refine kept_skip (by rfl) ?_
      simp only [Act.put, List.setIfInBounds_toArray, List.set_cons_zero, List.set_cons_succ]
      refine kept_skip (by rfl) ?_
      simp only [Act.put, List.setIfInBounds_toArray, List.set_cons_zero, List.set_cons_succ]
      refine kept_skip (by rfl) ?_
      simp only [Act.put, List.setIfInBounds_toArray, List.set_cons_zero, List.set_cons_succ]
      refine kept_skip (by rfl) ?_
      simp only [Act.put, List.setIfInBounds_toArray, List.set_cons_zero, List.set_cons_succ]
      refine kept_want ?vd32 (by rfl) ?yd32 ?rd32
      case yd32 => (intro w' hG; clear hG; go_simp; try (with_reducible rfl))
      simp only [Act.put, List.setIfInBounds_toArray, List.set_cons_zero, List.set_cons_succ]
      refine kept_want ?vd33 (by rfl) ?yd33 ?rd33
      case yd33 => (intro w' hG; clear hG; go_simp; try (with_reducible rfl))
      simp only [Act.put, List.setIfInBounds_toArray, List.set_cons_zero, List.set_cons_succ]
      refine kept_want ?vd34 (by rfl) ?yd34 ?rd34
      case yd34 => (intro w' hG; clear hG; go_simp; try (with_reducible rfl))
      simp only [Act.put, List.setIfInBounds_toArray, List.set_cons_zero, List.set_cons_succ]
      refine kept_want ?vd35 (by rfl) ?yd35 ?rd35
      case yd35 => (intro w' hG; obtain ⟨q3_0, q3_1, q3_2, q3_3⟩ := qSd3.out w' hG; clear hG; go_simp; try (with_reducible rfl))
      simp only [Act.put, List.setIfInBounds_toArray, List.set_cons_zero, List.set_cons_succ]
      refine kept_want ?vd36 (by rfl) ?yd36 ?rd36
      case yd36 => (intro w' hG; obtain ⟨q0_0, q0_1, q0_2, q0_3⟩ := qSd0.out w' hG; clear hG; go_simp; try (with_reducible rfl))
      simp only [Act.put, List.setIfInBounds_toArray, List.set_cons_zero, List.set_cons_succ]
      refine kept_want ?vd37 (by rfl) ?yd37 ?rd37
      case yd37 => (intro w' hG; go_simp; refine (HB4.out _).mono ?_; rintro e w'' ⟨rfl, U⟩; refine ⟨?_, hG.trans U⟩; with_reducible rfl)
      simp only [Act.put, List.setIfInBounds_toArray, List.set_cons_zero, List.set_cons_succ]
      refine kept_want ?vd38 (by rfl) ?yd38 ?rd38
      case yd38 => (intro w' hG; obtain ⟨q3_0, q3_1, q3_2, q3_3⟩ := qSd3.out w' hG; clear hG; go_simp; try (with_reducible rfl))
      simp only [Act.put, List.setIfInBounds_toArray, List.set_cons_zero, List.set_cons_succ]
      refine kept_want ?vd39 (by rfl) ?yd39 ?rd39
      case yd39 => (intro w' hG; clear hG; go_simp; try (with_reducible rfl))
      simp only [Act.put, List.setIfInBounds_toArray, List.set_cons_zero, List.set_cons_succ]
      refine kept_want ?vd40 (by rfl) ?yd40 ?rd40
      case yd40 => (intro w' hG; clear hG; go_simp; try (with_reducible rfl))
      simp only [Act.put, List.setIfInBounds_toArray, List.set_cons_zero, List.set_cons_succ]
      refine kept_want ?vd41 (by rfl) ?yd41 ?rd41
      case yd41 => (intro w' hG; clear hG; go_simp; try (with_reducible rfl))
      simp only [Act.put, List.setIfInBounds_toArray, List.set_cons_zero, List.set_cons_succ]
      refine kept_nil ?_
      intro V4 hV4
      clear qSd0 qSd1 qSd2 qSd3
      go_wp2
      go_ret
      exact ⟨rfl, (GW.out.trans hV4).grown⟩
    · have tk : (k == X0.k) = false := by simpa using gk
      have sk : (k == X1.k) = true := by simpa using n3.out.resolve_left gk
      clear gk
      clear n2 n3
      have qSe0 : Hid (∀ w', Grew wc w' → (w'.cell? ⟨w.heap.size, 0, none⟩ = some (.int .i64 X0.l) ∧ w'.cell? ⟨w.heap.size, 1, none⟩ = some (.int .i64 X0.m) ∧ w'.cell? ⟨w.heap.size, 2, none⟩ = some (.int .i64 X0.h) ∧ w'.cell? ⟨w.heap.size, 3, none⟩ = some (.int .i64 X0.k))) := fun w' g => ⟨g.cell a0, g.cell a1, g.cell a2, g.cell a3⟩
      have qSe1 : Hid (∀ w', Grew wc w' → (w'.cell? ⟨w.heap.size + 1, 0, none⟩ = some (.int .i64 X1.l) ∧ w'.cell? ⟨w.heap.size + 1, 1, none⟩ = some (.int .i64 X1.m) ∧ w'.cell? ⟨w.heap.size + 1, 2, none⟩ = some (.int .i64 X1.h) ∧ w'.cell? ⟨w.heap.size + 1, 3, none⟩ = some (.int .i64 X1.k))) := fun w' g => ⟨g.cell b0, g.cell b1, g.cell b2, g.cell b3⟩
      have qSe2 : Hid (∀ w', Grew wc w' → (w'.cell? ⟨w.heap.size + 2, 0, none⟩ = some (.int .i64 x2) ∧ w'.cell? ⟨w.heap.size + 2, 1, none⟩ = some (.int .i64 y2))) := fun w' g => ⟨g.cell c0, g.cell c1⟩
      have qSe3 : Hid (∀ w', Grew wc w' → (w'.cell? ⟨V2.heap.size, 0, none⟩ = some (.int .i64 l) ∧ w'.cell? ⟨V2.heap.size, 1, none⟩ = some (.int .i64 m) ∧ w'.cell? ⟨V2.heap.size, 2, none⟩ = some (.int .i64 h) ∧ w'.cell? ⟨V2.heap.size, 3, none⟩ = some (.int .i64 k))) := fun w' g => ⟨g.cell d0, g.cell d1, g.cell d2, g.cell d3⟩
      refine kept_region wc (by kernel_rfl) (by kernel_rfl) ?_
      refine kept_want ?ve0 (by rfl) ?ye0 ?re0
      case ye0 => (intro w' hG; clear hG; go_simp; try (with_reducible rfl))
      simp only [Act.put, List.setIfInBounds_toArray, List.set_cons_zero, List.set_cons_succ]
      refine kept_want ?ve1 (by rfl) ?ye1 ?re1
      case ye1 => (intro w' hG; clear hG; go_simp; try (with_reducible rfl))
      simp only [Act.put, List.setIfInBounds_toArray, List.set_cons_zero, List.set_cons_succ]
      refine kept_want ?ve2 (by rfl) ?ye2 ?re2
      case ye2 => (intro w' hG; obtain ⟨q3_0, q3_1, q3_2, q3_3⟩ := qSe3.out w' hG; clear hG; go_simp; try (with_reducible rfl))
      simp only [Act.put, List.setIfInBounds_toArray, List.set_cons_zero, List.set_cons_succ]
      refine kept_want ?ve3 (by rfl) ?ye3 ?re3
      case ye3 => (intro w' hG; clear hG; go_simp; try (with_reducible rfl))
      simp only [Act.put, List.setIfInBounds_toArray, List.set_cons_zero, List.set_cons_succ]
      refine kept_want ?ve4 (by rfl) ?ye4 ?re4
      case ye4 => (intro w' hG; clear hG; go_simp; try (with_reducible rfl))
      simp only [Act.put, List.setIfInBounds_toArray, List.set_cons_zero, List.set_cons_succ]
      refine kept_want ?ve5 (by rfl) ?ye5 ?re5
      case ye5 => (intro w' hG; obtain ⟨q0_0, q0_1, q0_2, q0_3⟩ := qSe0.out w' hG; clear hG; go_simp; try (with_reducible rfl))
      simp only [Act.put, List.setIfInBounds_toArray, List.set_cons_zero, List.set_cons_succ]
      refine kept_want ?ve6 (by rfl) ?ye6 ?re6
      case ye6 => (intro w' hG; clear hG; go_simp; try (with_reducible rfl))
      simp only [Act.put, List.setIfInBounds_toArray, List.set_cons_zero, List.set_cons_succ]
      refine kept_want ?ve7 (by rfl) ?ye7 ?re7
      case ye7 => (intro w' hG; clear hG; go_simp; try (with_reducible rfl))
      simp only [Act.put, List.setIfInBounds_toArray, List.set_cons_zero, List.set_cons_succ]
      refine kept_skip (by rfl) ?_
      simp only [Act.put, List.setIfInBounds_toArray, List.set_cons_zero, List.set_cons_succ]
      refine kept_skip (by rfl) ?_
      simp only [Act.put, List.setIfInBounds_toArray, List.set_cons_zero, List.set_cons_succ]
      refine kept_skip (by rfl) ?_
      simp only [Act.put, List.setIfInBounds_toArray, List.set_cons_zero, List.set_cons_succ]
      refine kept_skip (by rfl) ?_
      simp only [Act.put, List.setIfInBounds_toArray, List.set_cons_zero, List.set_cons_succ]
      refine kept_skip (by rfl) ?_
      simp only [Act.put, List.setIfInBounds_toArray, List.set_cons_zero, List.set_cons_succ]
      refine kept_skip (by rfl) ?_
      simp only [Act.put, List.setIfInBounds_toArray, List.set_cons_zero, List.set_cons_succ]
      refine kept_skip (by rfl) ?_
      simp only [Act.put, List.setIfInBounds_toArray, List.set_cons_zero, List.set_cons_succ]
      refine kept_want ?ve15 (by rfl) ?ye15 ?re15
      case ye15 => (intro w' hG; clear hG; go_simp; try (with_reducible rfl))
      simp only [Act.put, List.setIfInBounds_toArray, List.set_cons_zero, List.set_cons_succ]
      refine kept_want ?ve16 (by rfl) ?ye16 ?re16
      case ye16 => (intro w' hG; clear hG; go_simp; try (with_reducible rfl))
      simp only [Act.put, List.setIfInBounds_toArray, List.set_cons_zero, List.set_cons_succ]
      refine kept_want ?ve17 (by rfl) ?ye17 ?re17
      case ye17 => (intro w' hG; clear hG; go_simp; try (with_reducible rfl))
      simp only [Act.put, List.setIfInBounds_toArray, List.set_cons_zero, List.set_cons_succ]
      refine kept_want ?ve18 (by rfl) ?ye18 ?re18
      case ye18 => (intro w' hG; clear hG; go_simp; try (with_reducible rfl))
      simp only [Act.put, List.setIfInBounds_toArray, List.set_cons_zero, List.set_cons_succ]
      refine kept_want ?ve19 (by rfl) ?ye19 ?re19
      case ye19 => (intro w' hG; obtain ⟨q3_0, q3_1, q3_2, q3_3⟩ := qSe3.out w' hG; clear hG; go_simp; try (with_reducible rfl))
      simp only [Act.put, List.setIfInBounds_toArray, List.set_cons_zero, List.set_cons_succ]
      refine kept_want ?ve20 (by rfl) ?ye20 ?re20
      case ye20 => (intro w' hG; clear hG; go_simp; try (with_reducible rfl))
      simp only [Act.put, List.setIfInBounds_toArray, List.set_cons_zero, List.set_cons_succ]
      refine kept_want ?ve21 (by rfl) ?ye21 ?re21
      case ye21 => (intro w' hG; clear hG; go_simp; try (with_reducible rfl))
      simp only [Act.put, List.setIfInBounds_toArray, List.set_cons_zero, List.set_cons_succ]
      refine kept_want ?ve22 (by rfl) ?ye22 ?re22
      case ye22 => (intro w' hG; obtain ⟨q0_0, q0_1, q0_2, q0_3⟩ := qSe0.out w' hG; clear hG; go_simp; try (with_reducible rfl))
      simp only [Act.put, List.setIfInBounds_toArray, List.set_cons_zero, List.set_cons_succ]
      refine kept_want ?ve23 (by rfl) ?ye23 ?re23
      case ye23 => (intro w' hG; clear hG; go_simp; try (with_reducible rfl))
      simp only [Act.put, List.setIfInBounds_toArray, List.set_cons_zero, List.set_cons_succ]
      refine kept_want ?ve24 (by rfl) ?ye24 ?re24
      case ye24 => (intro w' hG; clear hG; go_simp; try (with_reducible rfl))
      simp only [Act.put, List.setIfInBounds_toArray, List.set_cons_zero, List.set_cons_succ]
      refine kept_want ?ve25 (by rfl) ?ye25 ?re25
      case ye25 => (intro w' hG; clear hG; go_simp; try (with_reducible rfl))
      simp only [Act.put, List.setIfInBounds_toArray, List.set_cons_zero, List.set_cons_succ]
      refine kept_want ?ve26 (by rfl) ?ye26 ?re26
      case ye26 => (intro w' hG; clear hG; go_simp; try (with_reducible rfl))
      simp only [Act.put, List.setIfInBounds_toArray, List.set_cons_zero, List.set_cons_succ]
      refine kept_want ?ve27 (by rfl) ?ye27 ?re27
      case ye27 => (intro w' hG; obtain ⟨q3_0, q3_1, q3_2, q3_3⟩ := qSe3.out w' hG; clear hG; go_simp; try (with_reducible rfl))
      simp only [Act.put, List.setIfInBounds_toArray, List.set_cons_zero, List.set_cons_succ]
      refine kept_want ?ve28 (by rfl) ?ye28 ?re28
      case ye28 => (intro w' hG; clear hG; go_simp; try (with_reducible rfl))
      simp only [Act.put, List.setIfInBounds_toArray, List.set_cons_zero, List.set_cons_succ]
      refine kept_want ?ve29 (by rfl) ?ye29 ?re29
      case ye29 => (intro w' hG; clear hG; go_simp; try (with_reducible rfl))
      simp only [Act.put, List.setIfInBounds_toArray, List.set_cons_zero, List.set_cons_succ]
      refine kept_want ?ve30 (by rfl) ?ye30 ?re30
      case ye30 => (intro w' hG; obtain ⟨q1_0, q1_1, q1_2, q1_3⟩ := qSe1.out w' hG; clear hG; go_simp; try (with_reducible rfl))
      simp only [Act.put, List.setIfInBounds_toArray, List.set_cons_zero, List.set_cons_succ]
      refine kept_want ?ve31 (by rfl) ?ye31 ?re31
      case ye31 => (intro w' hG; clear hG; go_simp; try (with_reducible rfl))
      simp only [Act.put, List.setIfInBounds_toArray, List.set_cons_zero, List.set_cons_succ]
      refine kept_want ?ve32 (by rfl) ?ye32 ?re32
      case ye32 => (intro w' hG; clear hG; go_simp; try (with_reducible rfl))
      simp only [Act.put, List.setIfInBounds_toArray, List.set_cons_zero, List.set_cons_succ]
      refine kept_want ?ve33 (by rfl) ?ye33 ?re33
      case ye33 => (intro w' hG; clear hG; go_simp; try (with_reducible rfl))
      simp only [Act.put, List.setIfInBounds_toArray, List.set_cons_zero, List.set_cons_succ]
      refine kept_want ?ve34 (by rfl) ?ye34 ?re34
      case ye34 => (intro w' hG; clear hG; go_simp; try (with_reducible rfl))
      simp only [Act.put, List.setIfInBounds_toArray, List.set_cons_zero, List.set_cons_succ]
      refine kept_want ?ve35 (by rfl) ?ye35 ?re35
      case ye35 => (intro w' hG; obtain ⟨q3_0, q3_1, q3_2, q3_3⟩ := qSe3.out w' hG; clear hG; go_simp; try (with_reducible rfl))
      simp only [Act.put, List.setIfInBounds_toArray, List.set_cons_zero, List.set_cons_succ]
      refine kept_want ?ve36 (by rfl) ?ye36 ?re36
      case ye36 => (intro w' hG; obtain ⟨q0_0, q0_1, q0_2, q0_3⟩ := qSe0.out w' hG; clear hG; go_simp; try (with_reducible rfl))
      simp only [Act.put, List.setIfInBounds_toArray, List.set_cons_zero, List.set_cons_succ]
      refine kept_want ?ve37 (by rfl) ?ye37 ?re37
      case ye37 => (intro w' hG; go_simp; refine (HB4.out _).mono ?_; rintro e w'' ⟨rfl, U⟩; refine ⟨?_, hG.trans U⟩; with_reducible rfl)
      simp only [Act.put, List.setIfInBounds_toArray, List.set_cons_zero, List.set_cons_succ]
      refine kept_want ?ve38 (by rfl) ?ye38 ?re38
      case ye38 => (intro w' hG; obtain ⟨q3_0, q3_1, q3_2, q3_3⟩ := qSe3.out w' hG; clear hG; go_simp; try (with_reducible rfl))
      simp only [Act.put, List.setIfInBounds_toArray, List.set_cons_zero, List.set_cons_succ]
      refine kept_want ?ve39 (by rfl) ?ye39 ?re39
      case ye39 => (intro w' hG; clear hG; go_simp; try (with_reducible rfl))
      simp only [Act.put, List.setIfInBounds_toArray, List.set_cons_zero, List.set_cons_succ]
      refine kept_want ?ve40 (by rfl) ?ye40 ?re40
      case ye40 => (intro w' hG; clear hG; go_simp; try (with_reducible rfl))
      simp only [Act.put, List.setIfInBounds_toArray, List.set_cons_zero, List.set_cons_succ]
      refine kept_want ?ve41 (by rfl) ?ye41 ?re41
      case ye41 => (intro w' hG; clear hG; go_simp; try (with_reducible rfl))
      simp only [Act.put, List.setIfInBounds_toArray, List.set_cons_zero, List.set_cons_succ]
      refine kept_nil ?_
      intro V4 hV4
      clear qSe0 qSe1 qSe2 qSe3
      go_wp2
      go_ret
      exact ⟨rfl, (GW.out.trans hV4).grown⟩
  · have tl : (l == X0.l) = false := by simpa using gl
    have sl : (l == X1.l) = true := by simpa using n2.out.resolve_left gl
    clear gl
    by_cases gk : k = X0.k
    · have tk : (k == X0.k) = true := by simpa using gk
      clear gk
      clear n2 n3
      have qSf0 : Hid (∀ w', Grew wc w' → (w'.cell? ⟨w.heap.size, 0, none⟩ = some (.int .i64 X0.l) ∧ w'.cell? ⟨w.heap.size, 1, none⟩ = some (.int .i64 X0.m) ∧ w'.cell? ⟨w.heap.size, 2, none⟩ = some (.int .i64 X0.h) ∧ w'.cell? ⟨w.heap.size, 3, none⟩ = some (.int .i64 X0.k))) := fun w' g => ⟨g.cell a0, g.cell a1, g.cell a2, g.cell a3⟩
      have qSf1 : Hid (∀ w', Grew wc w' → (w'.cell? ⟨w.heap.size + 1, 0, none⟩ = some (.int .i64 X1.l) ∧ w'.cell? ⟨w.heap.size + 1, 1, none⟩ = some (.int .i64 X1.m) ∧ w'.cell? ⟨w.heap.size + 1, 2, none⟩ = some (.int .i64 X1.h) ∧ w'.cell? ⟨w.heap.size + 1, 3, none⟩ = some (.int .i64 X1.k))) := fun w' g => ⟨g.cell b0, g.cell b1, g.cell b2, g.cell b3⟩
      have qSf2 : Hid (∀ w', Grew wc w' → (w'.cell? ⟨w.heap.size + 2, 0, none⟩ = some (.int .i64 x2) ∧ w'.cell? ⟨w.heap.size + 2, 1, none⟩ = some (.int .i64 y2))) := fun w' g => ⟨g.cell c0, g.cell c1⟩
      have qSf3 : Hid (∀ w', Grew wc w' → (w'.cell? ⟨V2.heap.size, 0, none⟩ = some (.int .i64 l) ∧ w'.cell? ⟨V2.heap.size, 1, none⟩ = some (.int .i64 m) ∧ w'.cell? ⟨V2.heap.size, 2, none⟩ = some (.int .i64 h) ∧ w'.cell? ⟨V2.heap.size, 3, none⟩ = some (.int .i64 k))) := fun w' g => ⟨g.cell d0, g.cell d1, g.cell d2, g.cell d3⟩
      refine kept_region wc (by kernel_rfl) (by kernel_rfl) ?_
      refine kept_want ?vf0 (by rfl) ?yf0 ?rf0
      case yf0 => (intro w' hG; clear hG; go_simp; try (with_reducible rfl))
      simp only [Act.put, List.setIfInBounds_toArray, List.set_cons_zero, List.set_cons_succ]
      refine kept_want ?vf1 (by rfl) ?yf1 ?rf1
      case yf1 => (intro w' hG; clear hG; go_simp; try (with_reducible rfl))
      simp only [Act.put, List.setIfInBounds_toArray, List.set_cons_zero, List.set_cons_succ]
      refine kept_want ?vf2 (by rfl) ?yf2 ?rf2
      case yf2 => (intro w' hG; obtain ⟨q3_0, q3_1, q3_2, q3_3⟩ := qSf3.out w' hG; clear hG; go_simp; try (with_reducible rfl))
      simp only [Act.put, List.setIfInBounds_toArray, List.set_cons_zero, List.set_cons_succ]
      refine kept_want ?vf3 (by rfl) ?yf3 ?rf3
      case yf3 => (intro w' hG; clear hG; go_simp; try (with_reducible rfl))
      simp only [Act.put, List.setIfInBounds_toArray, List.set_cons_zero, List.set_cons_succ]
      refine kept_want ?vf4 (by rfl) ?yf4 ?rf4
      case yf4 => (intro w' hG; clear hG; go_simp; try (with_reducible rfl))
      simp only [Act.put, List.setIfInBounds_toArray, List.set_cons_zero, List.set_cons_succ]
      refine kept_want ?vf5 (by rfl) ?yf5 ?rf5
      case yf5 => (intro w' hG; obtain ⟨q0_0, q0_1, q0_2, q0_3⟩ := qSf0.out w' hG; clear hG; go_simp; try (with_reducible rfl))
      simp only [Act.put, List.setIfInBounds_toArray, List.set_cons_zero, List.set_cons_succ]
      refine kept_want ?vf6 (by rfl) ?yf6 ?rf6
      case yf6 => (intro w' hG; clear hG; go_simp; try (with_reducible rfl))
      simp only [Act.put, List.setIfInBounds_toArray, List.set_cons_zero, List.set_cons_succ]
      refine kept_want ?vf7 (by rfl) ?yf7 ?rf7
      case yf7 => (intro w' hG; clear hG; go_simp; try (with_reducible rfl))
      simp only [Act.put, List.setIfInBounds_toArray, List.set_cons_zero, List.set_cons_succ]
      refine kept_want ?vf8 (by rfl) ?yf8 ?rf8
      case yf8 => (intro w' hG; clear hG; go_simp; try (with_reducible rfl))
      simp only [Act.put, List.setIfInBounds_toArray, List.set_cons_zero, List.set_cons_succ]
      refine kept_want ?vf9 (by rfl) ?yf9 ?rf9
      case yf9 => (intro w' hG; clear hG; go_simp; try (with_reducible rfl))
      simp only [Act.put, List.setIfInBounds_toArray, List.set_cons_zero, List.set_cons_succ]
      refine kept_want ?vf10 (by rfl) ?yf10 ?rf10
      case yf10 => (intro w' hG; obtain ⟨q3_0, q3_1, q3_2, q3_3⟩ := qSf3.out w' hG; clear hG; go_simp; try (with_reducible rfl))
      simp only [Act.put, List.setIfInBounds_toArray, List.set_cons_zero, List.set_cons_succ]
      refine kept_want ?vf11 (by rfl) ?yf11 ?rf11
      case yf11 => (intro w' hG; clear hG; go_simp; try (with_reducible rfl))
      simp only [Act.put, List.setIfInBounds_toArray, List.set_cons_zero, List.set_cons_succ]
      refine kept_want ?vf12 (by rfl) ?yf12 ?rf12
      case yf12 => (intro w' hG; clear hG; go_simp; try (with_reducible rfl))
      simp only [Act.put, List.setIfInBounds_toArray, List.set_cons_zero, List.set_cons_succ]
      refine kept_want ?vf13 (by rfl) ?yf13 ?rf13
      case yf13 => (intro w' hG; obtain ⟨q1_0, q1_1, q1_2, q1_3⟩ := qSf1.out w' hG; clear hG; go_simp; try (with_reducible rfl))
      simp only [Act.put, List.setIfInBounds_toArray, List.set_cons_zero, List.set_cons_succ]
      refine kept_want ?vf14 (by rfl) ?yf14 ?rf14
      case yf14 => (intro w' hG; clear hG; go_simp; try (with_reducible rfl))
      simp only [Act.put, List.setIfInBounds_toArray, List.set_cons_zero, List.set_cons_succ]
      refine kept_want ?vf15 (by rfl) ?yf15 ?rf15
      case yf15 => (intro w' hG; clear hG; go_simp; try (with_reducible rfl))
      simp only [Act.put, List.setIfInBounds_toArray, List.set_cons_zero, List.set_cons_succ]
      refine kept_want ?vf16 (by rfl) ?yf16 ?rf16
      case yf16 => (intro w' hG; clear hG; go_simp; try (with_reducible rfl))
      simp only [Act.put, List.setIfInBounds_toArray, List.set_cons_zero, List.set_cons_succ]
      refine kept_want ?vf17 (by rfl) ?yf17 ?rf17
      case yf17 => (intro w' hG; clear hG; go_simp; try (with_reducible rfl))
      simp only [Act.put, List.setIfInBounds_toArray, List.set_cons_zero, List.set_cons_succ]
      refine kept_want ?vf18 (by rfl) ?yf18 ?rf18
      case yf18 => (intro w' hG; clear hG; go_simp; try (with_reducible rfl))
      simp only [Act.put, List.setIfInBounds_toArray, List.set_cons_zero, List.set_cons_succ]
      refine kept_want ?vf19 (by rfl) ?yf19 ?rf19
      case yf19 => (intro w' hG; obtain ⟨q3_0, q3_1, q3_2, q3_3⟩ := qSf3.out w' hG; clear hG; go_simp; try (with_reducible rfl))
      simp only [Act.put, List.setIfInBounds_toArray, List.set_cons_zero, List.set_cons_succ]
      refine kept_want ?vf20 (by rfl) ?yf20 ?rf20
      case yf20 => (intro w' hG; clear hG; go_simp; try (with_reducible rfl))
      simp only [Act.put, List.setIfInBounds_toArray, List.set_cons_zero, List.set_cons_succ]
      refine kept_want ?vf21 (by rfl) ?yf21 ?rf21
      case yf21 => (intro w' hG; clear hG; go_simp; try (with_reducible rfl))
      simp only [Act.put, List.setIfInBounds_toArray, List.set_cons_zero, List.set_cons_succ]
      refine kept_want ?vf22 (by rfl) ?yf22 ?rf22
      case yf22 => (intro w' hG; obtain ⟨q0_0, q0_1, q0_2, q0_3⟩ := qSf0.out w' hG; clear hG; go_simp; try (with_reducible rfl))
      simp only [Act.put, List.setIfInBounds_toArray, List.set_cons_zero, List.set_cons_succ]
      refine kept_want ?vf23 (by rfl) ?yf23 ?rf23
      case yf23 => (intro w' hG; clear hG; go_simp; try (with_reducible rfl))
      simp only [Act.put, List.setIfInBounds_toArray, List.set_cons_zero, List.set_cons_succ]
      refine kept_want ?vf24 (by rfl) ?yf24 ?rf24
      case yf24 => (intro w' hG; clear hG; go_simp; try (with_reducible rfl))
      simp only [Act.put, List.setIfInBounds_toArray, List.set_cons_zero, List.set_cons_succ]
      refine kept_skip (by rfl) ?_
      simp only [Act.put, List.setIfInBounds_toArray, List.set_cons_zero, List.set_cons_succ]
      refine kept_skip (by rfl) ?_
      simp only [Act.put, List.setIfInBounds_toArray, List.set_cons_zero, List.set_cons_succ]
      refine kept_skip (by rfl) ?_
      simp only [Act.put, List.setIfInBounds_toArray, List.set_cons_zero, List.set_cons_succ]
      refine kept_skip (by rfl) ?_
      simp only [Act.put, List.setIfInBounds_toArray, List.set_cons_zero, List.set_cons_succ]
      refine kept_skip (by rfl) ?_
      simp only [Act.put, List.setIfInBounds_toArray, List.set_cons_zero, List.set_cons_succ]
      refine kept_skip (by rfl) ?_
      simp only [Act.put, List.setIfInBounds_toArray, List.set_cons_zero, List.set_cons_succ]
      refine kept_skip (by rfl) ?_
      simp only [Act.put, List.setIfInBounds_toArray, List.set_cons_zero, List.set_cons_succ]
      refine kept_want ?vf32 (by rfl) ?yf32 ?rf32
      case yf32 => (intro w' hG; clear hG; go_simp; try (with_reducible rfl))
      simp only [Act.put, List.setIfInBounds_toArray, List.set_cons_zero, List.set_cons_succ]
      refine kept_want ?vf33 (by rfl) ?yf33 ?rf33
      case yf33 => (intro w' hG; clear hG; go_simp; try (with_reducible rfl))
      simp only [Act.put, List.setIfInBounds_toArray, List.set_cons_zero, List.set_cons_succ]
      refine kept_want ?vf34 (by rfl) ?yf34 ?rf34
      case yf34 => (intro w' hG; clear hG; go_simp; try (with_reducible rfl))
      simp only [Act.put, List.setIfInBounds_toArray, List.set_cons_zero, List.set_cons_succ]
      refine kept_want ?vf35 (by rfl) ?yf35 ?rf35
      case yf35 => (intro w' hG; obtain ⟨q3_0, q3_1, q3_2, q3_3⟩ := qSf3.out w' hG; clear hG; go_simp; try (with_reducible rfl))
      simp only [Act.put, List.setIfInBounds_toArray, List.set_cons_zero, List.set_cons_succ]
      refine kept_want ?vf36 (by rfl) ?yf36 ?rf36
      case yf36 => (intro w' hG; obtain ⟨q0_0, q0_1, q0_2, q0_3⟩ := qSf0.out w' hG; clear hG; go_simp; try (with_reducible rfl))
      simp only [Act.put, List.setIfInBounds_toArray, List.set_cons_zero, List.set_cons_succ]
      refine kept_want ?vf37 (by rfl) ?yf37 ?rf37
      case yf37 => (intro w' hG; go_simp; refine (HB4.out _).mono ?_; rintro e w'' ⟨rfl, U⟩; refine ⟨?_, hG.trans U⟩; with_reducible rfl)
      simp only [Act.put, List.setIfInBounds_toArray, List.set_cons_zero, List.set_cons_succ]
      refine kept_want ?vf38 (by rfl) ?yf38 ?rf38
      case yf38 => (intro w' hG; obtain ⟨q3_0, q3_1, q3_2, q3_3⟩ := qSf3.out w' hG; clear hG; go_simp; try (with_reducible rfl))
      simp only [Act.put, List.setIfInBounds_toArray, List.set_cons_zero, List.set_cons_succ]
      refine kept_want ?vf39 (by rfl) ?yf39 ?rf39
      case yf39 => (intro w' hG; clear hG; go_simp; try (with_reducible rfl))
      simp only [Act.put, List.setIfInBounds_toArray, List.set_cons_zero, List.set_cons_succ]
      refine kept_want ?vf40 (by rfl) ?yf40 ?rf40
      case yf40 => (intro w' hG; clear hG; go_simp; try (with_reducible rfl))
      simp only [Act.put, List.setIfInBounds_toArray, List.set_cons_zero, List.set_cons_succ]
      refine kept_want ?vf41 (by rfl) ?yf41 ?rf41
      case yf41 => (intro w' hG; clear hG; go_simp; try (with_reducible rfl))
      simp only [Act.put, List.setIfInBounds_toArray, List.set_cons_zero, List.set_cons_succ]
      refine kept_nil ?_
      intro V4 hV4
      clear qSf0 qSf1 qSf2 qSf3
      go_wp2
      go_ret
      exact ⟨rfl, (GW.out.trans hV4).grown⟩
    · have tk : (k == X0.k) = false := by simpa using gk
      have sk : (k == X1.k) = true := by simpa using n3.out.resolve_left gk
      clear gk
      clear n2 n3
      have qSg0 : Hid (∀ w', Grew wc w' → (w'.cell? ⟨w.heap.size, 0, none⟩ = some (.int .i64 X0.l) ∧ w'.cell? ⟨w.heap.size, 1, none⟩ = some (.int .i64 X0.m) ∧ w'.cell? ⟨w.heap.size, 2, none⟩ = some (.int .i64 X0.h) ∧ w'.cell? ⟨w.heap.size, 3, none⟩ = some (.int .i64 X0.k))) := fun w' g => ⟨g.cell a0, g.cell a1, g.cell a2, g.cell a3⟩
      have qSg1 : Hid (∀ w', Grew wc w' → (w'.cell? ⟨w.heap.size + 1, 0, none⟩ = some (.int .i64 X1.l) ∧ w'.cell? ⟨w.heap.size + 1, 1, none⟩ = some (.int .i64 X1.m) ∧ w'.cell? ⟨w.heap.size + 1, 2, none⟩ = some (.int .i64 X1.h) ∧ w'.cell? ⟨w.heap.size + 1, 3, none⟩ = some (.int .i64 X1.k))) := fun w' g => ⟨g.cell b0, g.cell b1, g.cell b2, g.cell b3⟩
      have qSg2 : Hid (∀ w', Grew wc w' → (w'.cell? ⟨w.heap.size + 2, 0, none⟩ = some (.int .i64 x2) ∧ w'.cell? ⟨w.heap.size + 2, 1, none⟩ = some (.int .i64 y2))) := fun w' g => ⟨g.cell c0, g.cell c1⟩
      have qSg3 : Hid (∀ w', Grew wc w' → (w'.cell? ⟨V2.heap.size, 0, none⟩ = some (.int .i64 l) ∧ w'.cell? ⟨V2.heap.size, 1, none⟩ = some (.int .i64 m) ∧ w'.cell? ⟨V2.heap.size, 2, none⟩ = some (.int .i64 h) ∧ w'.cell? ⟨V2.heap.size, 3, none⟩ = some (.int .i64 k))) := fun w' g => ⟨g.cell d0, g.cell d1, g.cell d2, g.cell d3⟩
      refine kept_region wc (by kernel_rfl) (by kernel_rfl) ?_
      refine kept_want ?vg0 (by rfl) ?yg0 ?rg0
      case yg0 => (intro w' hG; clear hG; go_simp; try (with_reducible rfl))
      simp only [Act.put, List.setIfInBounds_toArray, List.set_cons_zero, List.set_cons_succ]
      refine kept_want ?vg1 (by rfl) ?yg1 ?rg1
      case yg1 => (intro w' hG; clear hG; go_simp; try (with_reducible rfl))
      simp only [Act.put, List.setIfInBounds_toArray, List.set_cons_zero, List.set_cons_succ]
      refine kept_want ?vg2 (by rfl) ?yg2 ?rg2
      case yg2 => (intro w' hG; obtain ⟨q3_0, q3_1, q3_2, q3_3⟩ := qSg3.out w' hG; clear hG; go_simp; try (with_reducible rfl))
      simp only [Act.put, List.setIfInBounds_toArray, List.set_cons_zero, List.set_cons_succ]
      refine kept_want ?vg3 (by rfl) ?yg3 ?rg3
      case yg3 => (intro w' hG; clear hG; go_simp; try (with_reducible rfl))
      simp only [Act.put, List.setIfInBounds_toArray, List.set_cons_zero, List.set_cons_succ]
      refine kept_want ?vg4 (by rfl) ?yg4 ?rg4
      case yg4 => (intro w' hG; clear hG; go_simp; try (with_reducible rfl))
      simp only [Act.put, List.setIfInBounds_toArray, List.set_cons_zero, List.set_cons_succ]
      refine kept_want ?vg5 (by rfl) ?yg5 ?rg5
      case yg5 => (intro w' hG; obtain ⟨q0_0, q0_1, q0_2, q0_3⟩ := qSg0.out w' hG; clear hG; go_simp; try (with_reducible rfl))
      simp only [Act.put, List.setIfInBounds_toArray, List.set_cons_zero, List.set_cons_succ]
      refine kept_want ?vg6 (by rfl) ?yg6 ?rg6
      case yg6 => (intro w' hG; clear hG; go_simp; try (with_reducible rfl))
      simp only [Act.put, List.setIfInBounds_toArray, List.set_cons_zero, List.set_cons_succ]
      refine kept_want ?vg7 (by rfl) ?yg7 ?rg7
      case yg7 => (intro w' hG; clear hG; go_simp; try (with_reducible rfl))
      simp only [Act.put, List.setIfInBounds_toArray, List.set_cons_zero, List.set_cons_succ]
      refine kept_want ?vg8 (by rfl) ?yg8 ?rg8
      case yg8 => (intro w' hG; clear hG; go_simp; try (with_reducible rfl))
      simp only [Act.put, List.setIfInBounds_toArray, List.set_cons_zero, List.set_cons_succ]
      refine kept_want ?vg9 (by rfl) ?yg9 ?rg9
      case yg9 => (intro w' hG; clear hG; go_simp; try (with_reducible rfl))
      simp only [Act.put, List.setIfInBounds_toArray, List.set_cons_zero, List.set_cons_succ]
      refine kept_want ?vg10 (by rfl) ?yg10 ?rg10
      case yg10 => (intro w' hG; obtain ⟨q3_0, q3_1, q3_2, q3_3⟩ := qSg3.out w' hG; clear hG; go_simp; try (with_reducible rfl))
      simp only [Act.put, List.setIfInBounds_toArray, List.set_cons_zero, List.set_cons_succ]
      refine kept_want ?vg11 (by rfl) ?yg11 ?rg11
      case yg11 => (intro w' hG; clear hG; go_simp; try (with_reducible rfl))
      simp only [Act.put, List.setIfInBounds_toArray, List.set_cons_zero, List.set_cons_succ]
      refine kept_want ?vg12 (by rfl) ?yg12 ?rg12
      case yg12 => (intro w' hG; clear hG; go_simp; try (with_reducible rfl))
      simp only [Act.put, List.setIfInBounds_toArray, List.set_cons_zero, List.set_cons_succ]
      refine kept_want ?vg13 (by rfl) ?yg13 ?rg13
      case yg13 => (intro w' hG; obtain ⟨q1_0, q1_1, q1_2, q1_3⟩ := qSg1.out w' hG; clear hG; go_simp; try (with_reducible rfl))
      simp only [Act.put, List.setIfInBounds_toArray, List.set_cons_zero, List.set_cons_succ]
      refine kept_want ?vg14 (by rfl) ?yg14 ?rg14
      case yg14 => (intro w' hG; clear hG; go_simp; try (with_reducible rfl))
      simp only [Act.put, List.setIfInBounds_toArray, List.set_cons_zero, List.set_cons_succ]
      refine kept_want ?vg15 (by rfl) ?yg15 ?rg15
      case yg15 => (intro w' hG; clear hG; go_simp; try (with_reducible rfl))
      simp only [Act.put, List.setIfInBounds_toArray, List.set_cons_zero, List.set_cons_succ]
      refine kept_want ?vg16 (by rfl) ?yg16 ?rg16
      case yg16 => (intro w' hG; clear hG; go_simp; try (with_reducible rfl))
      simp only [Act.put, List.setIfInBounds_toArray, List.set_cons_zero, List.set_cons_succ]
      refine kept_want ?vg17 (by rfl) ?yg17 ?rg17
      case yg17 => (intro w' hG; clear hG; go_simp; try (with_reducible rfl))
      simp only [Act.put, List.setIfInBounds_toArray, List.set_cons_zero, List.set_cons_succ]
      refine kept_want ?vg18 (by rfl) ?yg18 ?rg18
      case yg18 => (intro w' hG; clear hG; go_simp; try (with_reducible rfl))
      simp only [Act.put, List.setIfInBounds_toArray, List.set_cons_zero, List.set_cons_succ]
      refine kept_want ?vg19 (by rfl) ?yg19 ?rg19
      case yg19 => (intro w' hG; obtain ⟨q3_0, q3_1, q3_2, q3_3⟩ := qSg3.out w' hG; clear hG; go_simp; try (with_reducible rfl))
      simp only [Act.put, List.setIfInBounds_toArray, List.set_cons_zero, List.set_cons_succ]
      refine kept_want ?vg20 (by rfl) ?yg20 ?rg20
      case yg20 => (intro w' hG; clear hG; go_simp; try (with_reducible rfl))
      simp only [Act.put, List.setIfInBounds_toArray, List.set_cons_zero, List.set_cons_succ]
      refine kept_want ?vg21 (by rfl) ?yg21 ?rg21
      case yg21 => (intro w' hG; clear hG; go_simp; try (with_reducible rfl))
      simp only [Act.put, List.setIfInBounds_toArray, List.set_cons_zero, List.set_cons_succ]
      refine kept_want ?vg22 (by rfl) ?yg22 ?rg22
      case yg22 => (intro w' hG; obtain ⟨q0_0, q0_1, q0_2, q0_3⟩ := qSg0.out w' hG; clear hG; go_simp; try (with_reducible rfl))
      simp only [Act.put, List.setIfInBounds_toArray, List.set_cons_zero, List.set_cons_succ]
      refine kept_want ?vg23 (by rfl) ?yg23 ?rg23
      case yg23 => (intro w' hG; clear hG; go_simp; try (with_reducible rfl))
      simp only [Act.put, List.setIfInBounds_toArray, List.set_cons_zero, List.set_cons_succ]
      refine kept_want ?vg24 (by rfl) ?yg24 ?rg24
      case yg24 => (intro w' hG; clear hG; go_simp; try (with_reducible rfl))
      simp only [Act.put, List.setIfInBounds_toArray, List.set_cons_zero, List.set_cons_succ]
      refine kept_want ?vg25 (by rfl) ?yg25 ?rg25
      case yg25 => (intro w' hG; clear hG; go_simp; try (with_reducible rfl))
      simp only [Act.put, List.setIfInBounds_toArray, List.set_cons_zero, List.set_cons_succ]
      refine kept_want ?vg26 (by rfl) ?yg26 ?rg26
      case yg26 => (intro w' hG; clear hG; go_simp; try (with_reducible rfl))
      simp only [Act.put, List.setIfInBounds_toArray, List.set_cons_zero, List.set_cons_succ]
      refine kept_want ?vg27 (by rfl) ?yg27 ?rg27
      case yg27 => (intro w' hG; obtain ⟨q3_0, q3_1, q3_2, q3_3⟩ := qSg3.out w' hG; clear hG; go_simp; try (with_reducible rfl))
      simp only [Act.put, List.setIfInBounds_toArray, List.set_cons_zero, List.set_cons_succ]
      refine kept_want ?vg28 (by rfl) ?yg28 ?rg28
      case yg28 => (intro w' hG; clear hG; go_simp; try (with_reducible rfl))
      simp only [Act.put, List.setIfInBounds_toArray, List.set_cons_zero, List.set_cons_succ]
      refine kept_want ?vg29 (by rfl) ?yg29 ?rg29
      case yg29 => (intro w' hG; clear hG; go_simp; try (with_reducible rfl))
      simp only [Act.put, List.setIfInBounds_toArray, List.set_cons_zero, List.set_cons_succ]
      refine kept_want ?vg30 (by rfl) ?yg30 ?rg30
      case yg30 => (intro w' hG; obtain ⟨q1_0, q1_1, q1_2, q1_3⟩ := qSg1.out w' hG; clear hG; go_simp; try (with_reducible rfl))
      simp only [Act.put, List.setIfInBounds_toArray, List.set_cons_zero, List.set_cons_succ]
      refine kept_want ?vg31 (by rfl) ?yg31 ?rg31
      case yg31 => (intro w' hG; clear hG; go_simp; try (with_reducible rfl))
      simp only [Act.put, List.setIfInBounds_toArray, List.set_cons_zero, List.set_cons_succ]
      refine kept_want ?vg32 (by rfl) ?yg32 ?rg32
      case yg32 => (intro w' hG; clear hG; go_simp; try (with_reducible rfl))
      simp only [Act.put, List.setIfInBounds_toArray, List.set_cons_zero, List.set_cons_succ]
      refine kept_want ?vg33 (by rfl) ?yg33 ?rg33
      case yg33 => (intro w' hG; clear hG; go_simp; try (with_reducible rfl))
      simp only [Act.put, List.setIfInBounds_toArray, List.set_cons_zero, List.set_cons_succ]
      refine kept_want ?vg34 (by rfl) ?yg34 ?rg34
      case yg34 => (intro w' hG; clear hG; go_simp; try (with_reducible rfl))
      simp only [Act.put, List.setIfInBounds_toArray, List.set_cons_zero, List.set_cons_succ]
      refine kept_want ?vg35 (by rfl) ?yg35 ?rg35
      case yg35 => (intro w' hG; obtain ⟨q3_0, q3_1, q3_2, q3_3⟩ := qSg3.out w' hG; clear hG; go_simp; try (with_reducible rfl))
      simp only [Act.put, List.setIfInBounds_toArray, List.set_cons_zero, List.set_cons_succ]
      refine kept_want ?vg36 (by rfl) ?yg36 ?rg36
      case yg36 => (intro w' hG; obtain ⟨q0_0, q0_1, q0_2, q0_3⟩ := qSg0.out w' hG; clear hG; go_simp; try (with_reducible rfl))
      simp only [Act.put, List.setIfInBounds_toArray, List.set_cons_zero, List.set_cons_succ]
      refine kept_want ?vg37 (by rfl) ?yg37 ?rg37
      case yg37 => (intro w' hG; go_simp; refine (HB4.out _).mono ?_; rintro e w'' ⟨rfl, U⟩; refine ⟨?_, hG.trans U⟩; with_reducible rfl)
      simp only [Act.put, List.setIfInBounds_toArray, List.set_cons_zero, List.set_cons_succ]
      refine kept_want ?vg38 (by rfl) ?yg38 ?rg38
      case yg38 => (intro w' hG; obtain ⟨q3_0, q3_1, q3_2, q3_3⟩ := qSg3.out w' hG; clear hG; go_simp; try (with_reducible rfl))
      simp only [Act.put, List.setIfInBounds_toArray, List.set_cons_zero, List.set_cons_succ]
      refine kept_want ?vg39 (by rfl) ?yg39 ?rg39
      case yg39 => (intro w' hG; clear hG; go_simp; try (with_reducible rfl))
      simp only [Act.put, List.setIfInBounds_toArray, List.set_cons_zero, List.set_cons_succ]
      refine kept_want ?vg40 (by rfl) ?yg40 ?rg40
      case yg40 => (intro w' hG; clear hG; go_simp; try (with_reducible rfl))
      simp only [Act.put, List.setIfInBounds_toArray, List.set_cons_zero, List.set_cons_succ]
      refine kept_want ?vg41 (by rfl) ?yg41 ?rg41
      case yg41 => (intro w' hG; clear hG; go_simp; try (with_reducible rfl))
      simp only [Act.put, List.setIfInBounds_toArray, List.set_cons_zero, List.set_cons_succ]
      refine kept_nil ?_
      intro V4 hV4
      clear qSg0 qSg1 qSg2 qSg3
      go_wp2
      go_ret
      exact ⟨rfl, (GW.out.trans hV4).grown⟩

set_option maxRecDepth 100000 in
theorem lifted (os : Os) (started : os.Started) (H : Type) (enc : TypeId × Value → H) :
    ReturnsInHanded {} Try.checked os 5 .any (Rows.boundsBothSpec.pre6 enc Try.prog Try.f5 Rows.boundsBothRow.domain false) (Rows.boundsBothSpec.post enc Try.prog Try.f5 false true false false) := by
  refine returnsInHanded_of_change (C := Try.checked) own started (by kernel_rfl) Try.func5
    (ChangeSpec.witness6 (enc := enc) (C := Try.checked) false ⟨#[], #[.agg #[.int .i64 0, .int .i64 0, .int .i64 0, .int .i64 0], .agg #[.int .i64 0, .int .i64 0, .int .i64 0, .int .i64 0], .agg #[.int .i64 0, .int .i64 0]], []⟩ 8 (by kernel_rfl) (by kernel_rfl) (by kernel_rfl) (by kernel_rfl)) ?_
  intro W base args ds gs before hval0 hW hcnd _
  have hval : ∀ (j : Nat) t v, Try.f5.params[j]? = some t → args[j]? = some v → Value.okWide Try.prog W .any base t v := hval0
  have hW' := hW
  obtain ⟨p, q, hA0, hV, rfl, hfz, hnd⟩ := hW
  have hA : DataW.TrodAll enc Try.prog W 0 (fun _ => true) true Try.f5.params.toList args.toList ds p := hA0
  rw [Try.params5] at hA hval
  obtain ⟨v0, vs0, d0, ds0, p0, q0, hargs, rfl, rfl, h0, r0⟩ := trodAll_cons hA
  obtain ⟨v1, vs1, d1, ds1, p1, q1, rfl, rfl, rfl, h1, r1⟩ := trodAll_cons r0
  obtain ⟨v2, vs2, d2, ds2, p2, q2, rfl, rfl, rfl, h2, r2⟩ := trodAll_cons r1
  obtain ⟨rfl, rfl, rfl⟩ := trodAll_nil r2
  obtain rfl : args = #[v0, v1, v2] := by cases args; simp_all
  obtain ⟨rfl, rfl⟩ := trodVars_none hV
  obtain ⟨X0, rfl, rfl, rfl, o0⟩ := open_box (hval 0 28 v0 rfl rfl) h0
  obtain ⟨X1, rfl, rfl, rfl, o1⟩ := open_box (hval 1 28 v1 rfl rfl) h1
  obtain ⟨x2, y2, rfl, rfl, rfl, f2, g2⟩ := open_vec (hval 2 24 v2 rfl rfl) h2
  clear hA0 hval0
  simp only [List.append_nil] at hW'
  refine (walk X0 o0 X1 o1 x2 y2 f2 g2 W).mono fun e W' ⟨he, hg⟩ => ?_
  subst he
  exact ⟨_, rfl, post_of_same (pa := []) (pv := []) hW' (fun _ _ _ => (trodAll_cons_mk (shut_bool Try.underlying4 _) trodAll_mk0)) (fun sp _ => (trodAll_cons_mk (shut_box o0) (trodAll_cons_mk (shut_box o1) (trodAll_cons_mk (shut_vec f2 g2) trodAll_mk0)))) (fun _ _ => rfl) rfl
    (hg.frame _) hg.2.1 (ok_one (by kernel_rfl) rfl (okWide_bool_mk Try.underlying4 _))⟩

theorem over : Rows.boundsBothRow.holds Try.pinned (OpenSpec.ofChange Rows.boundsBothSpec) :=
  OpenClaim.holds_of_wide 5 Try.f5 rfl rfl rfl rfl rfl rfl rfl ⟨rfl, rfl, rfl, rfl, rfl⟩ rfl rfl rfl rfl rfl (by kernel_rfl) Try.func5 (by kernel_rfl)
    (of_decide_eq_true (by kernel_rfl)) (by unfold Func.isWrapper; first | (rw [if_pos (by decide +kernel)]; kernel_rfl) | (rw [if_neg (by decide +kernel)]; exact ⟨rfl, rfl⟩))
    (fun os started H enc _ => lifted os started H enc)

theorem proved : Rows.BoundsBothSaid :=
  over
end Go.Proofs.Ytlfncfjlfccfhaa.boundsBoth

namespace Go.Proofs.Ytlfncfjlfccfhaa
theorem boundsBoth_holds : Rows.BoundsBothSaid := boundsBoth.proved
end Go.Proofs.Ytlfncfjlfccfhaa

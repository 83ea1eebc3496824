/-
  Proved: maquettelaw8.BoundsMeet returns true for every two boxes x and y and every place v (who meets is met; a box that is not turned inside out meets itself; two that meet meet in a place that is in both), and leaves what it was given as it was; no condition.
-/
import Derived.Test.YtlfncfjlfccfhaaRows
import Derived.Test.YtlfncfjlfccfhaaXAlive
import Derived.Test.YtlfncfjlfccfhaaXData
import Derived.Test.YtlfncfjlfccfhaaXQuiet
import Derived.WalkKit
import Derived.Deep.QuietTactic
import Derived.BigQuiet
import Derived.WalkSpells
import Derived.Deep.CutRange
import Derived.Deep.CutBlock
import Derived.WalkLawsBesides
import Derived.ProofKit
import Derived.OpenShut
namespace Go.Proofs.Ytlfncfjlfccfhaa.boundsMeet
open Go.ChangeShapes Go.WideShapes Go.ChangeAt Go.RowKit
set_option linter.unusedVariables false

theorem own : ownKnob Try.prog.godebug = none := by kernel_rfl

theorem meet_comm (a b : Bx) : meetB b a = meetB a b := by unfold meetB; rw [Bool.and_comm]
theorem meet_of_in {x y : Int} {a b : Bx} (h : inB x y a = true) (g : inB x y b = true) : meetB a b = true := by
  have h := (inB_iff _ _ _).1 h
  have g := (inB_iff _ _ _).1 g
  refine (meetB_iff _ _).2 ?_
  omega
theorem right_self {b : Bx} (h : b.l ≤ b.h) (g : b.m ≤ b.k) : meetB b b = true := (meetB_iff _ _).2 ⟨⟨h, g⟩, h, g⟩
theorem near_bounds {a l h : Int} (g : l ≤ h) : l ≤ nearI a l h ∧ nearI a l h ≤ h := by
  rcases near_cases a l h with ⟨_, e⟩ | ⟨_, _, e⟩ | ⟨_, _, e⟩ <;> rw [e] <;> omega
theorem near_in_box {x y : Int} {b : Bx} (h : b.l ≤ b.h) (g : b.m ≤ b.k) : inB (nearI x b.l b.h) (nearI y b.m b.k) b = true := by
  have := @near_bounds x _ _ h
  have := @near_bounds y _ _ g
  refine (inB_iff _ _ _).2 ?_
  omega
theorem near_near {a l h : Int} (g : l ≤ h) : nearI (nearI a l h) l h = nearI a l h := by
  have := @near_bounds a _ _ g
  exact near_self (by omega) (by omega)
theorem in_iff_near {x y : Int} {b : Bx} : inB x y b = (nearI x b.l b.h == x && nearI y b.m b.k == y) ∨ b.h < b.l ∨ b.k < b.m := by
  by_cases h : b.h < b.l ∨ b.k < b.m
  · exact .inr h
  · left
    rw [Bool.eq_iff_iff, inB_iff]
    simp
    rcases near_cases x b.l b.h with ⟨_, e⟩ | ⟨_, _, e⟩ | ⟨_, _, e⟩ <;> rcases near_cases y b.m b.k with ⟨_, e'⟩ | ⟨_, _, e'⟩ | ⟨_, _, e'⟩ <;> rw [e, e'] <;> omega

set_option maxHeartbeats 4000000 in
theorem walk (X0 : Bx) (o0 : X0.ok) (X1 : Bx) (o1 : X1.ok) (x2 y2 : Int) (f2 : inF x2) (g2 : inF y2) (w : World) :
    Calls Try.prog 4 #[X0.val, X1.val, vec x2 y2] w fun e w' => e = .returned (.bool true) ∧ Grown w w' := by
  have HC : Hid (∀ W, _) := fun W => clamp_any x2 y2 X0 W
  have HXY : Hid (∀ W, _) := fun W => meet_any X0 X1 W
  have HYX : Hid (∀ W, _) := fun W => meet_any X1 X0 W
  rw [meet_comm] at HYX
  have HXX : Hid (∀ W, _) := fun W => meet_any X0 X0 W
  have HI : Hid (∀ W, _) := fun W => in_any x2 y2 X0 W
  have HJ : Hid (∀ W, _) := fun W => in_any x2 y2 X1 W
  have HK : Hid (∀ W, _) := fun W => in_any (nearI x2 X0.l X0.h) (nearI y2 X0.m X0.k) X0 W
  have HD : Hid (∀ W, _) := fun W => clamp_any (nearI x2 X0.l X0.h) (nearI y2 X0.m X0.k) X0 W
  have n1 : Hid (X0.l ≤ X0.h → X0.m ≤ X0.k → (meetB X0 X0 = true ∧ inB (nearI x2 X0.l X0.h) (nearI y2 X0.m X0.k) X0 = true) ∧ nearI x2 X0.l X0.h = nearI (nearI x2 X0.l X0.h) X0.l X0.h ∧ nearI y2 X0.m X0.k = nearI (nearI y2 X0.m X0.k) X0.m X0.k ∧ inB x2 y2 X0 = (nearI x2 X0.l X0.h == x2 && nearI y2 X0.m X0.k == y2)) := fun h g => ⟨⟨right_self h g, near_in_box h g⟩, (near_near h).symm, (near_near g).symm, by rcases @in_iff_near x2 y2 X0 with h' | h' | h'; exact h'; omega; omega⟩
  have n2 : Hid (_ → _ → _) := @meet_of_in x2 y2 X0 X1
  unfold Bx.val at HC HXY HYX HXX HI HJ HK HD ⊢
  unfold vec
  generalize meetB X0 X1 = m at *
  generalize meetB X0 X0 = m0 at *
  generalize inB x2 y2 X0 = i0 at *
  generalize inB x2 y2 X1 = i1 at *
  generalize inB (nearI x2 X0.l X0.h) (nearI y2 X0.m X0.k) X0 = i2 at *
  generalize nearI (nearI x2 X0.l X0.h) X0.l X0.h = r0 at *
  generalize nearI (nearI y2 X0.m X0.k) X0.m X0.k = r1 at *
  generalize nearI x2 X0.l X0.h = p at *
  generalize nearI y2 X0.m X0.k = q at *
  clear o0 o1 f2 g2
  have hq := eq_vec p q p q
  have hq2 := eq_vec p q x2 y2
  go_enter Try.func4, Try.ntmps4
  go_wp2_with (first
    | (go_at_call 8; go_fit (alive_any _); rintro e V ⟨rfl, G⟩))
  have a0 := G.cell (p := ⟨w.heap.size, 0, none⟩) (v := .int .i64 X0.l) (by simp [go_sem])
  have a1 := G.cell (p := ⟨w.heap.size, 1, none⟩) (v := .int .i64 X0.m) (by simp [go_sem])
  have a2 := G.cell (p := ⟨w.heap.size, 2, none⟩) (v := .int .i64 X0.h) (by simp [go_sem])
  have a3 := G.cell (p := ⟨w.heap.size, 3, none⟩) (v := .int .i64 X0.k) (by simp [go_sem])
  have b0 := G.cell (p := ⟨w.heap.size + 1, 0, none⟩) (v := .int .i64 X1.l) (by simp [go_sem])
  have b1 := G.cell (p := ⟨w.heap.size + 1, 1, none⟩) (v := .int .i64 X1.m) (by simp [go_sem])
  have b2 := G.cell (p := ⟨w.heap.size + 1, 2, none⟩) (v := .int .i64 X1.h) (by simp [go_sem])
  have b3 := G.cell (p := ⟨w.heap.size + 1, 3, none⟩) (v := .int .i64 X1.k) (by simp [go_sem])
  have c0 := G.cell (p := ⟨w.heap.size + 2, 0, none⟩) (v := .int .i64 x2) (by simp [go_sem])
  have c1 := G.cell (p := ⟨w.heap.size + 2, 1, none⟩) (v := .int .i64 y2) (by simp [go_sem])
  have GV : Hid (Grew w V) := ((((Grew.refl w).alloc _ _).alloc _ _).alloc _ _).trans G
  clear G
  go_cut [33] from 11 to 33 (fun s wx => s = .bool false ∧ Grew V wx)
  case first =>
    clear n1 HC HK HD hq hq2 HXX
    cases i0
    · clear n2 HJ
      have qSma : Hid (∀ w', Grew V w' → (w'.cell? ⟨w.heap.size, 0, none⟩ = some (.int .i64 X0.l) ∧ w'.cell? ⟨w.heap.size, 1, none⟩ = some (.int .i64 X0.m) ∧ w'.cell? ⟨w.heap.size, 2, none⟩ = some (.int .i64 X0.h) ∧ w'.cell? ⟨w.heap.size, 3, none⟩ = some (.int .i64 X0.k) ∧ w'.cell? ⟨w.heap.size + 1, 0, none⟩ = some (.int .i64 X1.l) ∧ w'.cell? ⟨w.heap.size + 1, 1, none⟩ = some (.int .i64 X1.m) ∧ w'.cell? ⟨w.heap.size + 1, 2, none⟩ = some (.int .i64 X1.h) ∧ w'.cell? ⟨w.heap.size + 1, 3, none⟩ = some (.int .i64 X1.k) ∧ w'.cell? ⟨w.heap.size + 2, 0, none⟩ = some (.int .i64 x2) ∧ w'.cell? ⟨w.heap.size + 2, 1, none⟩ = some (.int .i64 y2))) := fun w' g => ⟨g.cell a0, g.cell a1, g.cell a2, g.cell a3, g.cell b0, g.cell b1, g.cell b2, g.cell b3, g.cell c0, g.cell c1⟩
      refine kept_region V (by kernel_rfl) (by kernel_rfl) ?_
      refine kept_want ?vma0 (by rfl) ?yma0 ?rma0
      case yma0 => (intro w' hG; obtain ⟨q0, q1, q2, q3, q4, q5, q6, q7, q8, q9⟩ := qSma.out w' hG; clear hG; go_simp; try (with_reducible rfl))
      simp only [Act.put, List.setIfInBounds_toArray, List.set_cons_zero, List.set_cons_succ]
      refine kept_want ?vma1 (by rfl) ?yma1 ?rma1
      case yma1 => (intro w' hG; obtain ⟨q0, q1, q2, q3, q4, q5, q6, q7, q8, q9⟩ := qSma.out w' hG; clear hG; go_simp; try (with_reducible rfl))
      simp only [Act.put, List.setIfInBounds_toArray, List.set_cons_zero, List.set_cons_succ]
      refine kept_want ?vma2 (by rfl) ?yma2 ?rma2
      case yma2 => (intro w' hG; go_simp; refine (HXY.out _).mono ?_; rintro e w'' ⟨rfl, U⟩; refine ⟨?_, hG.trans U⟩; with_reducible rfl)
      simp only [Act.put, List.setIfInBounds_toArray, List.set_cons_zero, List.set_cons_succ]
      refine kept_want ?vma3 (by rfl) ?yma3 ?rma3
      case yma3 => (intro w' hG; obtain ⟨q0, q1, q2, q3, q4, q5, q6, q7, q8, q9⟩ := qSma.out w' hG; clear hG; go_simp; try (with_reducible rfl))
      simp only [Act.put, List.setIfInBounds_toArray, List.set_cons_zero, List.set_cons_succ]
      refine kept_want ?vma4 (by rfl) ?yma4 ?rma4
      case yma4 => (intro w' hG; obtain ⟨q0, q1, q2, q3, q4, q5, q6, q7, q8, q9⟩ := qSma.out w' hG; clear hG; go_simp; try (with_reducible rfl))
      simp only [Act.put, List.setIfInBounds_toArray, List.set_cons_zero, List.set_cons_succ]
      refine kept_want ?vma5 (by rfl) ?yma5 ?rma5
      case yma5 => (intro w' hG; go_simp; refine (HYX.out _).mono ?_; rintro e w'' ⟨rfl, U⟩; refine ⟨?_, hG.trans U⟩; with_reducible rfl)
      simp only [Act.put, List.setIfInBounds_toArray, List.set_cons_zero, List.set_cons_succ]
      refine kept_want ?vma6 (by rfl) ?yma6 ?rma6
      case yma6 => (intro w' hG; obtain ⟨q0, q1, q2, q3, q4, q5, q6, q7, q8, q9⟩ := qSma.out w' hG; clear hG; go_simp; try (with_reducible rfl))
      simp only [Act.put, List.setIfInBounds_toArray, List.set_cons_zero, List.set_cons_succ]
      refine kept_want ?vma7 (by rfl) ?yma7 ?rma7
      case yma7 => (intro w' hG; obtain ⟨q0, q1, q2, q3, q4, q5, q6, q7, q8, q9⟩ := qSma.out w' hG; clear hG; go_simp; try (with_reducible rfl))
      simp only [Act.put, List.setIfInBounds_toArray, List.set_cons_zero, List.set_cons_succ]
      refine kept_want ?vma8 (by rfl) ?yma8 ?rma8
      case yma8 => (intro w' hG; obtain ⟨q0, q1, q2, q3, q4, q5, q6, q7, q8, q9⟩ := qSma.out w' hG; clear hG; go_simp; try (with_reducible rfl))
      simp only [Act.put, List.setIfInBounds_toArray, List.set_cons_zero, List.set_cons_succ]
      refine kept_want ?vma9 (by rfl) ?yma9 ?rma9
      case yma9 => (intro w' hG; obtain ⟨q0, q1, q2, q3, q4, q5, q6, q7, q8, q9⟩ := qSma.out w' hG; clear hG; go_simp; try (with_reducible rfl))
      simp only [Act.put, List.setIfInBounds_toArray, List.set_cons_zero, List.set_cons_succ]
      refine kept_want ?vma10 (by rfl) ?yma10 ?rma10
      case yma10 => (intro w' hG; go_simp; refine (HI.out _).mono ?_; rintro e w'' ⟨rfl, U⟩; refine ⟨?_, hG.trans U⟩; with_reducible rfl)
      simp only [Act.put, List.setIfInBounds_toArray, List.set_cons_zero, List.set_cons_succ]
      refine kept_want ?vma11 (by rfl) ?yma11 ?rma11
      case yma11 => (intro w' hG; obtain ⟨q0, q1, q2, q3, q4, q5, q6, q7, q8, q9⟩ := qSma.out w' hG; clear hG; go_simp; try (with_reducible rfl))
      simp only [Act.put, List.setIfInBounds_toArray, List.set_cons_zero, List.set_cons_succ]
      refine kept_skip (by rfl) ?_
      simp only [Act.put, List.setIfInBounds_toArray, List.set_cons_zero, List.set_cons_succ]
      refine kept_skip (by rfl) ?_
      simp only [Act.put, List.setIfInBounds_toArray, List.set_cons_zero, List.set_cons_succ]
      refine kept_skip (by rfl) ?_
      simp only [Act.put, List.setIfInBounds_toArray, List.set_cons_zero, List.set_cons_succ]
      refine kept_want ?vma15 (by rfl) ?yma15 ?rma15
      case yma15 => (intro w' hG; obtain ⟨q0, q1, q2, q3, q4, q5, q6, q7, q8, q9⟩ := qSma.out w' hG; clear hG; go_simp; try (with_reducible rfl))
      simp only [Act.put, List.setIfInBounds_toArray, List.set_cons_zero, List.set_cons_succ]
      refine kept_want ?vma16 (by rfl) ?yma16 ?rma16
      case yma16 => (intro w' hG; obtain ⟨q0, q1, q2, q3, q4, q5, q6, q7, q8, q9⟩ := qSma.out w' hG; clear hG; go_simp; try (with_reducible rfl))
      simp only [Act.put, List.setIfInBounds_toArray, List.set_cons_zero, List.set_cons_succ]
      refine kept_skip (by rfl) ?_
      simp only [Act.put, List.setIfInBounds_toArray, List.set_cons_zero, List.set_cons_succ]
      refine kept_skip (by rfl) ?_
      simp only [Act.put, List.setIfInBounds_toArray, List.set_cons_zero, List.set_cons_succ]
      refine kept_skip (by rfl) ?_
      simp only [Act.put, List.setIfInBounds_toArray, List.set_cons_zero, List.set_cons_succ]
      refine kept_skip (by rfl) ?_
      simp only [Act.put, List.setIfInBounds_toArray, List.set_cons_zero, List.set_cons_succ]
      refine kept_want ?vma21 (by rfl) ?yma21 ?rma21
      case yma21 => (intro w' hG; obtain ⟨q0, q1, q2, q3, q4, q5, q6, q7, q8, q9⟩ := qSma.out w' hG; clear hG; go_simp; try (with_reducible rfl))
      simp only [Act.put, List.setIfInBounds_toArray, List.set_cons_zero, List.set_cons_succ]
      refine kept_want ?vma22 (by rfl) ?yma22 ?rma22
      case yma22 => (intro w' hG; obtain ⟨q0, q1, q2, q3, q4, q5, q6, q7, q8, q9⟩ := qSma.out w' hG; clear hG; go_simp; try (with_reducible rfl))
      simp only [Act.put, List.setIfInBounds_toArray, List.set_cons_zero, List.set_cons_succ]
      refine kept_nil ?_
      intro V1 hV1
      clear qSma
      go_wp2
      go_meet
      case rel => exact ⟨rfl, hV1⟩
    · cases i1
      · clear n2
        have qSmb : Hid (∀ w', Grew V w' → (w'.cell? ⟨w.heap.size, 0, none⟩ = some (.int .i64 X0.l) ∧ w'.cell? ⟨w.heap.size, 1, none⟩ = some (.int .i64 X0.m) ∧ w'.cell? ⟨w.heap.size, 2, none⟩ = some (.int .i64 X0.h) ∧ w'.cell? ⟨w.heap.size, 3, none⟩ = some (.int .i64 X0.k) ∧ w'.cell? ⟨w.heap.size + 1, 0, none⟩ = some (.int .i64 X1.l) ∧ w'.cell? ⟨w.heap.size + 1, 1, none⟩ = some (.int .i64 X1.m) ∧ w'.cell? ⟨w.heap.size + 1, 2, none⟩ = some (.int .i64 X1.h) ∧ w'.cell? ⟨w.heap.size + 1, 3, none⟩ = some (.int .i64 X1.k) ∧ w'.cell? ⟨w.heap.size + 2, 0, none⟩ = some (.int .i64 x2) ∧ w'.cell? ⟨w.heap.size + 2, 1, none⟩ = some (.int .i64 y2))) := fun w' g => ⟨g.cell a0, g.cell a1, g.cell a2, g.cell a3, g.cell b0, g.cell b1, g.cell b2, g.cell b3, g.cell c0, g.cell c1⟩
        refine kept_region V (by kernel_rfl) (by kernel_rfl) ?_
        refine kept_want ?vmb0 (by rfl) ?ymb0 ?rmb0
        case ymb0 => (intro w' hG; obtain ⟨q0, q1, q2, q3, q4, q5, q6, q7, q8, q9⟩ := qSmb.out w' hG; clear hG; go_simp; try (with_reducible rfl))
        simp only [Act.put, List.setIfInBounds_toArray, List.set_cons_zero, List.set_cons_succ]
        refine kept_want ?vmb1 (by rfl) ?ymb1 ?rmb1
        case ymb1 => (intro w' hG; obtain ⟨q0, q1, q2, q3, q4, q5, q6, q7, q8, q9⟩ := qSmb.out w' hG; clear hG; go_simp; try (with_reducible rfl))
        simp only [Act.put, List.setIfInBounds_toArray, List.set_cons_zero, List.set_cons_succ]
        refine kept_want ?vmb2 (by rfl) ?ymb2 ?rmb2
        case ymb2 => (intro w' hG; go_simp; refine (HXY.out _).mono ?_; rintro e w'' ⟨rfl, U⟩; refine ⟨?_, hG.trans U⟩; with_reducible rfl)
        simp only [Act.put, List.setIfInBounds_toArray, List.set_cons_zero, List.set_cons_succ]
        refine kept_want ?vmb3 (by rfl) ?ymb3 ?rmb3
        case ymb3 => (intro w' hG; obtain ⟨q0, q1, q2, q3, q4, q5, q6, q7, q8, q9⟩ := qSmb.out w' hG; clear hG; go_simp; try (with_reducible rfl))
        simp only [Act.put, List.setIfInBounds_toArray, List.set_cons_zero, List.set_cons_succ]
        refine kept_want ?vmb4 (by rfl) ?ymb4 ?rmb4
        case ymb4 => (intro w' hG; obtain ⟨q0, q1, q2, q3, q4, q5, q6, q7, q8, q9⟩ := qSmb.out w' hG; clear hG; go_simp; try (with_reducible rfl))
        simp only [Act.put, List.setIfInBounds_toArray, List.set_cons_zero, List.set_cons_succ]
        refine kept_want ?vmb5 (by rfl) ?ymb5 ?rmb5
        case ymb5 => (intro w' hG; go_simp; refine (HYX.out _).mono ?_; rintro e w'' ⟨rfl, U⟩; refine ⟨?_, hG.trans U⟩; with_reducible rfl)
        simp only [Act.put, List.setIfInBounds_toArray, List.set_cons_zero, List.set_cons_succ]
        refine kept_want ?vmb6 (by rfl) ?ymb6 ?rmb6
        case ymb6 => (intro w' hG; obtain ⟨q0, q1, q2, q3, q4, q5, q6, q7, q8, q9⟩ := qSmb.out w' hG; clear hG; go_simp; try (with_reducible rfl))
        simp only [Act.put, List.setIfInBounds_toArray, List.set_cons_zero, List.set_cons_succ]
        refine kept_want ?vmb7 (by rfl) ?ymb7 ?rmb7
        case ymb7 => (intro w' hG; obtain ⟨q0, q1, q2, q3, q4, q5, q6, q7, q8, q9⟩ := qSmb.out w' hG; clear hG; go_simp; try (with_reducible rfl))
        simp only [Act.put, List.setIfInBounds_toArray, List.set_cons_zero, List.set_cons_succ]
        refine kept_want ?vmb8 (by rfl) ?ymb8 ?rmb8
        case ymb8 => (intro w' hG; obtain ⟨q0, q1, q2, q3, q4, q5, q6, q7, q8, q9⟩ := qSmb.out w' hG; clear hG; go_simp; try (with_reducible rfl))
        simp only [Act.put, List.setIfInBounds_toArray, List.set_cons_zero, List.set_cons_succ]
        refine kept_want ?vmb9 (by rfl) ?ymb9 ?rmb9
        case ymb9 => (intro w' hG; obtain ⟨q0, q1, q2, q3, q4, q5, q6, q7, q8, q9⟩ := qSmb.out w' hG; clear hG; go_simp; try (with_reducible rfl))
        simp only [Act.put, List.setIfInBounds_toArray, List.set_cons_zero, List.set_cons_succ]
        refine kept_want ?vmb10 (by rfl) ?ymb10 ?rmb10
        case ymb10 => (intro w' hG; go_simp; refine (HI.out _).mono ?_; rintro e w'' ⟨rfl, U⟩; refine ⟨?_, hG.trans U⟩; with_reducible rfl)
        simp only [Act.put, List.setIfInBounds_toArray, List.set_cons_zero, List.set_cons_succ]
        refine kept_want ?vmb11 (by rfl) ?ymb11 ?rmb11
        case ymb11 => (intro w' hG; obtain ⟨q0, q1, q2, q3, q4, q5, q6, q7, q8, q9⟩ := qSmb.out w' hG; clear hG; go_simp; try (with_reducible rfl))
        simp only [Act.put, List.setIfInBounds_toArray, List.set_cons_zero, List.set_cons_succ]
        refine kept_want ?vmb12 (by rfl) ?ymb12 ?rmb12
        case ymb12 => (intro w' hG; obtain ⟨q0, q1, q2, q3, q4, q5, q6, q7, q8, q9⟩ := qSmb.out w' hG; clear hG; go_simp; try (with_reducible rfl))
        simp only [Act.put, List.setIfInBounds_toArray, List.set_cons_zero, List.set_cons_succ]
        refine kept_want ?vmb13 (by rfl) ?ymb13 ?rmb13
        case ymb13 => (intro w' hG; obtain ⟨q0, q1, q2, q3, q4, q5, q6, q7, q8, q9⟩ := qSmb.out w' hG; clear hG; go_simp; try (with_reducible rfl))
        simp only [Act.put, List.setIfInBounds_toArray, List.set_cons_zero, List.set_cons_succ]
        refine kept_want ?vmb14 (by rfl) ?ymb14 ?rmb14
        case ymb14 => (intro w' hG; go_simp; refine (HJ.out _).mono ?_; rintro e w'' ⟨rfl, U⟩; refine ⟨?_, hG.trans U⟩; with_reducible rfl)
        simp only [Act.put, List.setIfInBounds_toArray, List.set_cons_zero, List.set_cons_succ]
        refine kept_want ?vmb15 (by rfl) ?ymb15 ?rmb15
        case ymb15 => (intro w' hG; obtain ⟨q0, q1, q2, q3, q4, q5, q6, q7, q8, q9⟩ := qSmb.out w' hG; clear hG; go_simp; try (with_reducible rfl))
        simp only [Act.put, List.setIfInBounds_toArray, List.set_cons_zero, List.set_cons_succ]
        refine kept_want ?vmb16 (by rfl) ?ymb16 ?rmb16
        case ymb16 => (intro w' hG; obtain ⟨q0, q1, q2, q3, q4, q5, q6, q7, q8, q9⟩ := qSmb.out w' hG; clear hG; go_simp; try (with_reducible rfl))
        simp only [Act.put, List.setIfInBounds_toArray, List.set_cons_zero, List.set_cons_succ]
        refine kept_skip (by rfl) ?_
        simp only [Act.put, List.setIfInBounds_toArray, List.set_cons_zero, List.set_cons_succ]
        refine kept_skip (by rfl) ?_
        simp only [Act.put, List.setIfInBounds_toArray, List.set_cons_zero, List.set_cons_succ]
        refine kept_skip (by rfl) ?_
        simp only [Act.put, List.setIfInBounds_toArray, List.set_cons_zero, List.set_cons_succ]
        refine kept_skip (by rfl) ?_
        simp only [Act.put, List.setIfInBounds_toArray, List.set_cons_zero, List.set_cons_succ]
        refine kept_want ?vmb21 (by rfl) ?ymb21 ?rmb21
        case ymb21 => (intro w' hG; obtain ⟨q0, q1, q2, q3, q4, q5, q6, q7, q8, q9⟩ := qSmb.out w' hG; clear hG; go_simp; try (with_reducible rfl))
        simp only [Act.put, List.setIfInBounds_toArray, List.set_cons_zero, List.set_cons_succ]
        refine kept_want ?vmb22 (by rfl) ?ymb22 ?rmb22
        case ymb22 => (intro w' hG; obtain ⟨q0, q1, q2, q3, q4, q5, q6, q7, q8, q9⟩ := qSmb.out w' hG; clear hG; go_simp; try (with_reducible rfl))
        simp only [Act.put, List.setIfInBounds_toArray, List.set_cons_zero, List.set_cons_succ]
        refine kept_nil ?_
        intro V1 hV1
        clear qSmb
        go_wp2
        go_meet
        case rel => exact ⟨rfl, hV1⟩
      · obtain rfl := n2.out rfl rfl
        clear n2
        have qSmc : Hid (∀ w', Grew V w' → (w'.cell? ⟨w.heap.size, 0, none⟩ = some (.int .i64 X0.l) ∧ w'.cell? ⟨w.heap.size, 1, none⟩ = some (.int .i64 X0.m) ∧ w'.cell? ⟨w.heap.size, 2, none⟩ = some (.int .i64 X0.h) ∧ w'.cell? ⟨w.heap.size, 3, none⟩ = some (.int .i64 X0.k) ∧ w'.cell? ⟨w.heap.size + 1, 0, none⟩ = some (.int .i64 X1.l) ∧ w'.cell? ⟨w.heap.size + 1, 1, none⟩ = some (.int .i64 X1.m) ∧ w'.cell? ⟨w.heap.size + 1, 2, none⟩ = some (.int .i64 X1.h) ∧ w'.cell? ⟨w.heap.size + 1, 3, none⟩ = some (.int .i64 X1.k) ∧ w'.cell? ⟨w.heap.size + 2, 0, none⟩ = some (.int .i64 x2) ∧ w'.cell? ⟨w.heap.size + 2, 1, none⟩ = some (.int .i64 y2))) := fun w' g => ⟨g.cell a0, g.cell a1, g.cell a2, g.cell a3, g.cell b0, g.cell b1, g.cell b2, g.cell b3, g.cell c0, g.cell c1⟩
        refine kept_region V (by kernel_rfl) (by kernel_rfl) ?_
        refine kept_want ?vmc0 (by rfl) ?ymc0 ?rmc0
        case ymc0 => (intro w' hG; obtain ⟨q0, q1, q2, q3, q4, q5, q6, q7, q8, q9⟩ := qSmc.out w' hG; clear hG; go_simp; try (with_reducible rfl))
        simp only [Act.put, List.setIfInBounds_toArray, List.set_cons_zero, List.set_cons_succ]
        refine kept_want ?vmc1 (by rfl) ?ymc1 ?rmc1
        case ymc1 => (intro w' hG; obtain ⟨q0, q1, q2, q3, q4, q5, q6, q7, q8, q9⟩ := qSmc.out w' hG; clear hG; go_simp; try (with_reducible rfl))
        simp only [Act.put, List.setIfInBounds_toArray, List.set_cons_zero, List.set_cons_succ]
        refine kept_want ?vmc2 (by rfl) ?ymc2 ?rmc2
        case ymc2 => (intro w' hG; go_simp; refine (HXY.out _).mono ?_; rintro e w'' ⟨rfl, U⟩; refine ⟨?_, hG.trans U⟩; with_reducible rfl)
        simp only [Act.put, List.setIfInBounds_toArray, List.set_cons_zero, List.set_cons_succ]
        refine kept_want ?vmc3 (by rfl) ?ymc3 ?rmc3
        case ymc3 => (intro w' hG; obtain ⟨q0, q1, q2, q3, q4, q5, q6, q7, q8, q9⟩ := qSmc.out w' hG; clear hG; go_simp; try (with_reducible rfl))
        simp only [Act.put, List.setIfInBounds_toArray, List.set_cons_zero, List.set_cons_succ]
        refine kept_want ?vmc4 (by rfl) ?ymc4 ?rmc4
        case ymc4 => (intro w' hG; obtain ⟨q0, q1, q2, q3, q4, q5, q6, q7, q8, q9⟩ := qSmc.out w' hG; clear hG; go_simp; try (with_reducible rfl))
        simp only [Act.put, List.setIfInBounds_toArray, List.set_cons_zero, List.set_cons_succ]
        refine kept_want ?vmc5 (by rfl) ?ymc5 ?rmc5
        case ymc5 => (intro w' hG; go_simp; refine (HYX.out _).mono ?_; rintro e w'' ⟨rfl, U⟩; refine ⟨?_, hG.trans U⟩; with_reducible rfl)
        simp only [Act.put, List.setIfInBounds_toArray, List.set_cons_zero, List.set_cons_succ]
        refine kept_want ?vmc6 (by rfl) ?ymc6 ?rmc6
        case ymc6 => (intro w' hG; obtain ⟨q0, q1, q2, q3, q4, q5, q6, q7, q8, q9⟩ := qSmc.out w' hG; clear hG; go_simp; try (with_reducible rfl))
        simp only [Act.put, List.setIfInBounds_toArray, List.set_cons_zero, List.set_cons_succ]
        refine kept_want ?vmc7 (by rfl) ?ymc7 ?rmc7
        case ymc7 => (intro w' hG; obtain ⟨q0, q1, q2, q3, q4, q5, q6, q7, q8, q9⟩ := qSmc.out w' hG; clear hG; go_simp; try (with_reducible rfl))
        simp only [Act.put, List.setIfInBounds_toArray, List.set_cons_zero, List.set_cons_succ]
        refine kept_want ?vmc8 (by rfl) ?ymc8 ?rmc8
        case ymc8 => (intro w' hG; obtain ⟨q0, q1, q2, q3, q4, q5, q6, q7, q8, q9⟩ := qSmc.out w' hG; clear hG; go_simp; try (with_reducible rfl))
        simp only [Act.put, List.setIfInBounds_toArray, List.set_cons_zero, List.set_cons_succ]
        refine kept_want ?vmc9 (by rfl) ?ymc9 ?rmc9
        case ymc9 => (intro w' hG; obtain ⟨q0, q1, q2, q3, q4, q5, q6, q7, q8, q9⟩ := qSmc.out w' hG; clear hG; go_simp; try (with_reducible rfl))
        simp only [Act.put, List.setIfInBounds_toArray, List.set_cons_zero, List.set_cons_succ]
        refine kept_want ?vmc10 (by rfl) ?ymc10 ?rmc10
        case ymc10 => (intro w' hG; go_simp; refine (HI.out _).mono ?_; rintro e w'' ⟨rfl, U⟩; refine ⟨?_, hG.trans U⟩; with_reducible rfl)
        simp only [Act.put, List.setIfInBounds_toArray, List.set_cons_zero, List.set_cons_succ]
        refine kept_want ?vmc11 (by rfl) ?ymc11 ?rmc11
        case ymc11 => (intro w' hG; obtain ⟨q0, q1, q2, q3, q4, q5, q6, q7, q8, q9⟩ := qSmc.out w' hG; clear hG; go_simp; try (with_reducible rfl))
        simp only [Act.put, List.setIfInBounds_toArray, List.set_cons_zero, List.set_cons_succ]
        refine kept_want ?vmc12 (by rfl) ?ymc12 ?rmc12
        case ymc12 => (intro w' hG; obtain ⟨q0, q1, q2, q3, q4, q5, q6, q7, q8, q9⟩ := qSmc.out w' hG; clear hG; go_simp; try (with_reducible rfl))
        simp only [Act.put, List.setIfInBounds_toArray, List.set_cons_zero, List.set_cons_succ]
        refine kept_want ?vmc13 (by rfl) ?ymc13 ?rmc13
        case ymc13 => (intro w' hG; obtain ⟨q0, q1, q2, q3, q4, q5, q6, q7, q8, q9⟩ := qSmc.out w' hG; clear hG; go_simp; try (with_reducible rfl))
        simp only [Act.put, List.setIfInBounds_toArray, List.set_cons_zero, List.set_cons_succ]
        refine kept_want ?vmc14 (by rfl) ?ymc14 ?rmc14
        case ymc14 => (intro w' hG; go_simp; refine (HJ.out _).mono ?_; rintro e w'' ⟨rfl, U⟩; refine ⟨?_, hG.trans U⟩; with_reducible rfl)
        simp only [Act.put, List.setIfInBounds_toArray, List.set_cons_zero, List.set_cons_succ]
        refine kept_want ?vmc15 (by rfl) ?ymc15 ?rmc15
        case ymc15 => (intro w' hG; obtain ⟨q0, q1, q2, q3, q4, q5, q6, q7, q8, q9⟩ := qSmc.out w' hG; clear hG; go_simp; try (with_reducible rfl))
        simp only [Act.put, List.setIfInBounds_toArray, List.set_cons_zero, List.set_cons_succ]
        refine kept_want ?vmc16 (by rfl) ?ymc16 ?rmc16
        case ymc16 => (intro w' hG; obtain ⟨q0, q1, q2, q3, q4, q5, q6, q7, q8, q9⟩ := qSmc.out w' hG; clear hG; go_simp; try (with_reducible rfl))
        simp only [Act.put, List.setIfInBounds_toArray, List.set_cons_zero, List.set_cons_succ]
        refine kept_want ?vmc17 (by rfl) ?ymc17 ?rmc17
        case ymc17 => (intro w' hG; obtain ⟨q0, q1, q2, q3, q4, q5, q6, q7, q8, q9⟩ := qSmc.out w' hG; clear hG; go_simp; try (with_reducible rfl))
        simp only [Act.put, List.setIfInBounds_toArray, List.set_cons_zero, List.set_cons_succ]
        refine kept_want ?vmc18 (by rfl) ?ymc18 ?rmc18
        case ymc18 => (intro w' hG; obtain ⟨q0, q1, q2, q3, q4, q5, q6, q7, q8, q9⟩ := qSmc.out w' hG; clear hG; go_simp; try (with_reducible rfl))
        simp only [Act.put, List.setIfInBounds_toArray, List.set_cons_zero, List.set_cons_succ]
        refine kept_want ?vmc19 (by rfl) ?ymc19 ?rmc19
        case ymc19 => (intro w' hG; go_simp; refine (HXY.out _).mono ?_; rintro e w'' ⟨rfl, U⟩; refine ⟨?_, hG.trans U⟩; with_reducible rfl)
        simp only [Act.put, List.setIfInBounds_toArray, List.set_cons_zero, List.set_cons_succ]
        refine kept_want ?vmc20 (by rfl) ?ymc20 ?rmc20
        case ymc20 => (intro w' hG; obtain ⟨q0, q1, q2, q3, q4, q5, q6, q7, q8, q9⟩ := qSmc.out w' hG; clear hG; go_simp; try (with_reducible rfl))
        simp only [Act.put, List.setIfInBounds_toArray, List.set_cons_zero, List.set_cons_succ]
        refine kept_want ?vmc21 (by rfl) ?ymc21 ?rmc21
        case ymc21 => (intro w' hG; obtain ⟨q0, q1, q2, q3, q4, q5, q6, q7, q8, q9⟩ := qSmc.out w' hG; clear hG; go_simp; try (with_reducible rfl))
        simp only [Act.put, List.setIfInBounds_toArray, List.set_cons_zero, List.set_cons_succ]
        refine kept_want ?vmc22 (by rfl) ?ymc22 ?rmc22
        case ymc22 => (intro w' hG; obtain ⟨q0, q1, q2, q3, q4, q5, q6, q7, q8, q9⟩ := qSmc.out w' hG; clear hG; go_simp; try (with_reducible rfl))
        simp only [Act.put, List.setIfInBounds_toArray, List.set_cons_zero, List.set_cons_succ]
        refine kept_nil ?_
        intro V1 hV1
        clear qSmc
        go_wp2
        go_meet
        case rel => exact ⟨rfl, hV1⟩
  obtain ⟨rfl, hc⟩ := hcut
  replace a0 := hc.cell a0
  replace a1 := hc.cell a1
  replace a2 := hc.cell a2
  replace a3 := hc.cell a3
  replace c0 := hc.cell c0
  replace c1 := hc.cell c1
  have GW : Hid (Grew w wc) := GV.out.trans hc
  clear hc GV b0 b1 b2 b3 HXY HYX HJ n2
  by_cases h1 : X0.l ≤ X0.h
  · by_cases h2 : X0.m ≤ X0.k
    · obtain ⟨⟨rfl, rfl⟩, rfl, rfl, hin⟩ := n1.out h1 h2
      have HN : Hid _ := hin
      clear n1 hin
      go_wp2_with (first
        | (go_at_call 17; go_fit (HC.out _); rintro e V2 ⟨rfl, U2⟩; replace a0 := U2.cell a0; replace a1 := U2.cell a1; replace a2 := U2.cell a2; replace a3 := U2.cell a3; replace c0 := U2.cell c0; replace c1 := U2.cell c1))
      obtain ⟨M, hM⟩ : ∃ M, M = V2.alloc (.cells #[.int .i64 p, .int .i64 q] 24) := ⟨_, rfl⟩
      rw [← hM]
      have GM : Grew V2 M := by rw [hM]; exact (Grew.refl V2).alloc _ _
      have GN : Hid (Grew w M) := (GW.out.trans U2).trans GM
      replace a0 := GM.cell a0
      replace a1 := GM.cell a1
      replace a2 := GM.cell a2
      replace a3 := GM.cell a3
      replace c0 := GM.cell c0
      replace c1 := GM.cell c1
      have d0 : M.cell? ⟨V2.heap.size, 0, none⟩ = some (.int .i64 p) := by rw [hM]; simp [go_sem]
      have d1 : M.cell? ⟨V2.heap.size, 1, none⟩ = some (.int .i64 q) := by rw [hM]; simp [go_sem]
      clear hM GM GW U2 HC
      have qSr : Hid (∀ w', Grew M w' → (w'.cell? ⟨w.heap.size, 0, none⟩ = some (.int .i64 X0.l) ∧ w'.cell? ⟨w.heap.size, 1, none⟩ = some (.int .i64 X0.m) ∧ w'.cell? ⟨w.heap.size, 2, none⟩ = some (.int .i64 X0.h) ∧ w'.cell? ⟨w.heap.size, 3, none⟩ = some (.int .i64 X0.k) ∧ w'.cell? ⟨w.heap.size + 2, 0, none⟩ = some (.int .i64 x2) ∧ w'.cell? ⟨w.heap.size + 2, 1, none⟩ = some (.int .i64 y2) ∧ w'.cell? ⟨V2.heap.size, 0, none⟩ = some (.int .i64 p) ∧ w'.cell? ⟨V2.heap.size, 1, none⟩ = some (.int .i64 q))) := fun w' g => ⟨g.cell a0, g.cell a1, g.cell a2, g.cell a3, g.cell c0, g.cell c1, g.cell d0, g.cell d1⟩
      refine kept_region M (by kernel_rfl) (by kernel_rfl) ?_
      refine kept_want ?vr0 (by rfl) ?yr0 ?rr0
      case yr0 => (intro w' hG; obtain ⟨q0, q1, q2, q3, q4, q5, q6, q7⟩ := qSr.out w' hG; clear hG; go_simp; try (with_reducible rfl))
      simp only [Act.put, List.setIfInBounds_toArray, List.set_cons_zero, List.set_cons_succ]
      refine kept_want ?vr1 (by rfl) ?yr1 ?rr1
      case yr1 => (intro w' hG; obtain ⟨q0, q1, q2, q3, q4, q5, q6, q7⟩ := qSr.out w' hG; clear hG; go_simp; try (with_reducible rfl))
      simp only [Act.put, List.setIfInBounds_toArray, List.set_cons_zero, List.set_cons_succ]
      refine kept_want ?vr2 (by rfl) ?yr2 ?rr2
      case yr2 => (intro w' hG; obtain ⟨q0, q1, q2, q3, q4, q5, q6, q7⟩ := qSr.out w' hG; clear hG; go_simp; try (with_reducible rfl))
      simp only [Act.put, List.setIfInBounds_toArray, List.set_cons_zero, List.set_cons_succ]
      refine kept_want ?vr3 (by rfl) ?yr3 ?rr3
      case yr3 => (intro w' hG; obtain ⟨q0, q1, q2, q3, q4, q5, q6, q7⟩ := qSr.out w' hG; clear hG; go_simp; try (with_reducible rfl))
      simp only [Act.put, List.setIfInBounds_toArray, List.set_cons_zero, List.set_cons_succ]
      refine kept_want ?vr4 (by rfl) ?yr4 ?rr4
      case yr4 => (intro w' hG; obtain ⟨q0, q1, q2, q3, q4, q5, q6, q7⟩ := qSr.out w' hG; clear hG; go_simp; try (with_reducible rfl))
      simp only [Act.put, List.setIfInBounds_toArray, List.set_cons_zero, List.set_cons_succ]
      refine kept_want ?vr5 (by rfl) ?yr5 ?rr5
      case yr5 => (intro w' hG; go_simp; refine (HXX.out _).mono ?_; rintro e w'' ⟨rfl, U⟩; refine ⟨?_, hG.trans U⟩; with_reducible rfl)
      simp only [Act.put, List.setIfInBounds_toArray, List.set_cons_zero, List.set_cons_succ]
      refine kept_want ?vr6 (by rfl) ?yr6 ?rr6
      case yr6 => (intro w' hG; obtain ⟨q0, q1, q2, q3, q4, q5, q6, q7⟩ := qSr.out w' hG; clear hG; go_simp; try (with_reducible rfl))
      simp only [Act.put, List.setIfInBounds_toArray, List.set_cons_zero, List.set_cons_succ]
      refine kept_want ?vr7 (by rfl) ?yr7 ?rr7
      case yr7 => (intro w' hG; obtain ⟨q0, q1, q2, q3, q4, q5, q6, q7⟩ := qSr.out w' hG; clear hG; go_simp; try (with_reducible rfl))
      simp only [Act.put, List.setIfInBounds_toArray, List.set_cons_zero, List.set_cons_succ]
      refine kept_want ?vr8 (by rfl) ?yr8 ?rr8
      case yr8 => (intro w' hG; obtain ⟨q0, q1, q2, q3, q4, q5, q6, q7⟩ := qSr.out w' hG; clear hG; go_simp; try (with_reducible rfl))
      simp only [Act.put, List.setIfInBounds_toArray, List.set_cons_zero, List.set_cons_succ]
      refine kept_want ?vr9 (by rfl) ?yr9 ?rr9
      case yr9 => (intro w' hG; go_simp; refine (HK.out _).mono ?_; rintro e w'' ⟨rfl, U⟩; refine ⟨?_, hG.trans U⟩; with_reducible rfl)
      simp only [Act.put, List.setIfInBounds_toArray, List.set_cons_zero, List.set_cons_succ]
      refine kept_want ?vr10 (by rfl) ?yr10 ?rr10
      case yr10 => (intro w' hG; obtain ⟨q0, q1, q2, q3, q4, q5, q6, q7⟩ := qSr.out w' hG; clear hG; go_simp; try (with_reducible rfl))
      simp only [Act.put, List.setIfInBounds_toArray, List.set_cons_zero, List.set_cons_succ]
      refine kept_want ?vr11 (by rfl) ?yr11 ?rr11
      case yr11 => (intro w' hG; obtain ⟨q0, q1, q2, q3, q4, q5, q6, q7⟩ := qSr.out w' hG; clear hG; go_simp; try (with_reducible rfl))
      simp only [Act.put, List.setIfInBounds_toArray, List.set_cons_zero, List.set_cons_succ]
      refine kept_want ?vr12 (by rfl) ?yr12 ?rr12
      case yr12 => (intro w' hG; obtain ⟨q0, q1, q2, q3, q4, q5, q6, q7⟩ := qSr.out w' hG; clear hG; go_simp; try (with_reducible rfl))
      simp only [Act.put, List.setIfInBounds_toArray, List.set_cons_zero, List.set_cons_succ]
      refine kept_want ?vr13 (by rfl) ?yr13 ?rr13
      case yr13 => (intro w' hG; obtain ⟨q0, q1, q2, q3, q4, q5, q6, q7⟩ := qSr.out w' hG; clear hG; go_simp; try (with_reducible rfl))
      simp only [Act.put, List.setIfInBounds_toArray, List.set_cons_zero, List.set_cons_succ]
      refine kept_want ?vr14 (by rfl) ?yr14 ?rr14
      case yr14 => (intro w' hG; go_simp; refine (HD.out _).mono ?_; rintro e w'' ⟨rfl, U⟩; refine ⟨?_, hG.trans U⟩; with_reducible rfl)
      simp only [Act.put, List.setIfInBounds_toArray, List.set_cons_zero, List.set_cons_succ]
      refine kept_want ?vr15 (by rfl) ?yr15 ?rr15
      case yr15 => (intro w' hG; obtain ⟨q0, q1, q2, q3, q4, q5, q6, q7⟩ := qSr.out w' hG; clear hG; go_simp; try (with_reducible rfl))
      simp only [Act.put, List.setIfInBounds_toArray, List.set_cons_zero, List.set_cons_succ]
      refine kept_want ?vr16 (by rfl) ?yr16 ?rr16
      case yr16 => (intro w' hG; obtain ⟨q0, q1, q2, q3, q4, q5, q6, q7⟩ := qSr.out w' hG; clear hG; go_simp; try (with_reducible rfl))
      simp only [Act.put, List.setIfInBounds_toArray, List.set_cons_zero, List.set_cons_succ]
      refine kept_want ?vr17 (by rfl) ?yr17 ?rr17
      case yr17 => (intro w' hG; obtain ⟨q0, q1, q2, q3, q4, q5, q6, q7⟩ := qSr.out w' hG; clear hG; go_simp; try (with_reducible rfl))
      simp only [Act.put, List.setIfInBounds_toArray, List.set_cons_zero, List.set_cons_succ]
      refine kept_want ?vr18 (by rfl) ?yr18 ?rr18
      case yr18 => (intro w' hG; obtain ⟨q0, q1, q2, q3, q4, q5, q6, q7⟩ := qSr.out w' hG; clear hG; go_simp; try (with_reducible rfl))
      simp only [Act.put, List.setIfInBounds_toArray, List.set_cons_zero, List.set_cons_succ]
      refine kept_want ?vr19 (by rfl) ?yr19 ?rr19
      case yr19 => (intro w' hG; obtain ⟨q0, q1, q2, q3, q4, q5, q6, q7⟩ := qSr.out w' hG; clear hG; go_simp; try (with_reducible rfl))
      simp only [Act.put, List.setIfInBounds_toArray, List.set_cons_zero, List.set_cons_succ]
      refine kept_want ?vr20 (by rfl) ?yr20 ?rr20
      case yr20 => (intro w' hG; obtain ⟨q0, q1, q2, q3, q4, q5, q6, q7⟩ := qSr.out w' hG; clear hG; go_simp; try (with_reducible rfl))
      simp only [Act.put, List.setIfInBounds_toArray, List.set_cons_zero, List.set_cons_succ]
      refine kept_want ?vr21 (by rfl) ?yr21 ?rr21
      case yr21 => (intro w' hG; go_simp; refine (HI.out _).mono ?_; rintro e w'' ⟨rfl, U⟩; refine ⟨?_, hG.trans U⟩; with_reducible rfl)
      simp only [Act.put, List.setIfInBounds_toArray, List.set_cons_zero, List.set_cons_succ]
      refine kept_want ?vr22 (by rfl) ?yr22 ?rr22
      case yr22 => (intro w' hG; obtain ⟨q0, q1, q2, q3, q4, q5, q6, q7⟩ := qSr.out w' hG; clear hG; go_simp; try (with_reducible rfl))
      simp only [Act.put, List.setIfInBounds_toArray, List.set_cons_zero, List.set_cons_succ]
      refine kept_want ?vr23 (by rfl) ?yr23 ?rr23
      case yr23 => (intro w' hG; obtain ⟨q0, q1, q2, q3, q4, q5, q6, q7⟩ := qSr.out w' hG; clear hG; go_simp; try (with_reducible rfl))
      simp only [Act.put, List.setIfInBounds_toArray, List.set_cons_zero, List.set_cons_succ]
      refine kept_want ?vr24 (by rfl) ?yr24 ?rr24
      case yr24 => (intro w' hG; obtain ⟨q0, q1, q2, q3, q4, q5, q6, q7⟩ := qSr.out w' hG; clear hG; go_simp; try (with_reducible rfl))
      simp only [Act.put, List.setIfInBounds_toArray, List.set_cons_zero, List.set_cons_succ]
      refine kept_want ?vr25 (by rfl) ?yr25 ?rr25
      case yr25 => (intro w' hG; obtain ⟨q0, q1, q2, q3, q4, q5, q6, q7⟩ := qSr.out w' hG; clear hG; go_simp; try (with_reducible rfl))
      simp only [Act.put, List.setIfInBounds_toArray, List.set_cons_zero, List.set_cons_succ]
      refine kept_want ?vr26 (by rfl) ?yr26 ?rr26
      case yr26 => (intro w' hG; obtain ⟨q0, q1, q2, q3, q4, q5, q6, q7⟩ := qSr.out w' hG; clear hG; go_simp; try (with_reducible rfl))
      simp only [Act.put, List.setIfInBounds_toArray, List.set_cons_zero, List.set_cons_succ]
      refine kept_want ?vr27 (by rfl) ?yr27 ?rr27
      case yr27 => (intro w' hG; obtain ⟨q0, q1, q2, q3, q4, q5, q6, q7⟩ := qSr.out w' hG; clear hG; go_simp; try (with_reducible rfl))
      simp only [Act.put, List.setIfInBounds_toArray, List.set_cons_zero, List.set_cons_succ]
      refine kept_want ?vr28 (by rfl) ?yr28 ?rr28
      case yr28 => (intro w' hG; obtain ⟨q0, q1, q2, q3, q4, q5, q6, q7⟩ := qSr.out w' hG; clear hG; go_simp; try (with_reducible rfl))
      simp only [Act.put, List.setIfInBounds_toArray, List.set_cons_zero, List.set_cons_succ]
      refine kept_nil ?_
      intro V3 hV3
      clear qSr
      go_wp2
      go_ret
      exact ⟨ret_bool (by rw [HN.out]; exact beq_self_eq_true _), (GN.out.trans hV3).grown⟩
    · clear n1
      go_wp2_with (first
        | (go_at_call 17; go_fit (HC.out _); rintro e V2 ⟨rfl, U2⟩; replace a0 := U2.cell a0; replace a1 := U2.cell a1; replace a2 := U2.cell a2; replace a3 := U2.cell a3; replace c0 := U2.cell c0; replace c1 := U2.cell c1))
      obtain ⟨M, hM⟩ : ∃ M, M = V2.alloc (.cells #[.int .i64 p, .int .i64 q] 24) := ⟨_, rfl⟩
      rw [← hM]
      have GM : Grew V2 M := by rw [hM]; exact (Grew.refl V2).alloc _ _
      have GN : Hid (Grew w M) := (GW.out.trans U2).trans GM
      replace a0 := GM.cell a0
      replace a1 := GM.cell a1
      replace a2 := GM.cell a2
      replace a3 := GM.cell a3
      replace c0 := GM.cell c0
      replace c1 := GM.cell c1
      have d0 : M.cell? ⟨V2.heap.size, 0, none⟩ = some (.int .i64 p) := by rw [hM]; simp [go_sem]
      have d1 : M.cell? ⟨V2.heap.size, 1, none⟩ = some (.int .i64 q) := by rw [hM]; simp [go_sem]
      clear hM GM GW U2 HC
      have qSs : Hid (∀ w', Grew M w' → (w'.cell? ⟨w.heap.size, 0, none⟩ = some (.int .i64 X0.l) ∧ w'.cell? ⟨w.heap.size, 1, none⟩ = some (.int .i64 X0.m) ∧ w'.cell? ⟨w.heap.size, 2, none⟩ = some (.int .i64 X0.h) ∧ w'.cell? ⟨w.heap.size, 3, none⟩ = some (.int .i64 X0.k) ∧ w'.cell? ⟨w.heap.size + 2, 0, none⟩ = some (.int .i64 x2) ∧ w'.cell? ⟨w.heap.size + 2, 1, none⟩ = some (.int .i64 y2) ∧ w'.cell? ⟨V2.heap.size, 0, none⟩ = some (.int .i64 p) ∧ w'.cell? ⟨V2.heap.size, 1, none⟩ = some (.int .i64 q))) := fun w' g => ⟨g.cell a0, g.cell a1, g.cell a2, g.cell a3, g.cell c0, g.cell c1, g.cell d0, g.cell d1⟩
      refine kept_region M (by kernel_rfl) (by kernel_rfl) ?_
      refine kept_want ?vs0 (by rfl) ?ys0 ?rs0
      case ys0 => (intro w' hG; obtain ⟨q0, q1, q2, q3, q4, q5, q6, q7⟩ := qSs.out w' hG; clear hG; go_simp; try (with_reducible rfl))
      simp only [Act.put, List.setIfInBounds_toArray, List.set_cons_zero, List.set_cons_succ]
      refine kept_want ?vs1 (by rfl) ?ys1 ?rs1
      case ys1 => (intro w' hG; obtain ⟨q0, q1, q2, q3, q4, q5, q6, q7⟩ := qSs.out w' hG; clear hG; go_simp; try (with_reducible rfl))
      simp only [Act.put, List.setIfInBounds_toArray, List.set_cons_zero, List.set_cons_succ]
      refine kept_want ?vs2 (by rfl) ?ys2 ?rs2
      case ys2 => (intro w' hG; obtain ⟨q0, q1, q2, q3, q4, q5, q6, q7⟩ := qSs.out w' hG; clear hG; go_simp; try (with_reducible rfl))
      simp only [Act.put, List.setIfInBounds_toArray, List.set_cons_zero, List.set_cons_succ]
      refine kept_skip (by rfl) ?_
      simp only [Act.put, List.setIfInBounds_toArray, List.set_cons_zero, List.set_cons_succ]
      refine kept_skip (by rfl) ?_
      simp only [Act.put, List.setIfInBounds_toArray, List.set_cons_zero, List.set_cons_succ]
      refine kept_skip (by rfl) ?_
      simp only [Act.put, List.setIfInBounds_toArray, List.set_cons_zero, List.set_cons_succ]
      refine kept_skip (by rfl) ?_
      simp only [Act.put, List.setIfInBounds_toArray, List.set_cons_zero, List.set_cons_succ]
      refine kept_skip (by rfl) ?_
      simp only [Act.put, List.setIfInBounds_toArray, List.set_cons_zero, List.set_cons_succ]
      refine kept_skip (by rfl) ?_
      simp only [Act.put, List.setIfInBounds_toArray, List.set_cons_zero, List.set_cons_succ]
      refine kept_skip (by rfl) ?_
      simp only [Act.put, List.setIfInBounds_toArray, List.set_cons_zero, List.set_cons_succ]
      refine kept_skip (by rfl) ?_
      simp only [Act.put, List.setIfInBounds_toArray, List.set_cons_zero, List.set_cons_succ]
      refine kept_skip (by rfl) ?_
      simp only [Act.put, List.setIfInBounds_toArray, List.set_cons_zero, List.set_cons_succ]
      refine kept_skip (by rfl) ?_
      simp only [Act.put, List.setIfInBounds_toArray, List.set_cons_zero, List.set_cons_succ]
      refine kept_skip (by rfl) ?_
      simp only [Act.put, List.setIfInBounds_toArray, List.set_cons_zero, List.set_cons_succ]
      refine kept_skip (by rfl) ?_
      simp only [Act.put, List.setIfInBounds_toArray, List.set_cons_zero, List.set_cons_succ]
      refine kept_skip (by rfl) ?_
      simp only [Act.put, List.setIfInBounds_toArray, List.set_cons_zero, List.set_cons_succ]
      refine kept_skip (by rfl) ?_
      simp only [Act.put, List.setIfInBounds_toArray, List.set_cons_zero, List.set_cons_succ]
      refine kept_skip (by rfl) ?_
      simp only [Act.put, List.setIfInBounds_toArray, List.set_cons_zero, List.set_cons_succ]
      refine kept_skip (by rfl) ?_
      simp only [Act.put, List.setIfInBounds_toArray, List.set_cons_zero, List.set_cons_succ]
      refine kept_skip (by rfl) ?_
      simp only [Act.put, List.setIfInBounds_toArray, List.set_cons_zero, List.set_cons_succ]
      refine kept_skip (by rfl) ?_
      simp only [Act.put, List.setIfInBounds_toArray, List.set_cons_zero, List.set_cons_succ]
      refine kept_skip (by rfl) ?_
      simp only [Act.put, List.setIfInBounds_toArray, List.set_cons_zero, List.set_cons_succ]
      refine kept_skip (by rfl) ?_
      simp only [Act.put, List.setIfInBounds_toArray, List.set_cons_zero, List.set_cons_succ]
      refine kept_skip (by rfl) ?_
      simp only [Act.put, List.setIfInBounds_toArray, List.set_cons_zero, List.set_cons_succ]
      refine kept_skip (by rfl) ?_
      simp only [Act.put, List.setIfInBounds_toArray, List.set_cons_zero, List.set_cons_succ]
      refine kept_skip (by rfl) ?_
      simp only [Act.put, List.setIfInBounds_toArray, List.set_cons_zero, List.set_cons_succ]
      refine kept_skip (by rfl) ?_
      simp only [Act.put, List.setIfInBounds_toArray, List.set_cons_zero, List.set_cons_succ]
      refine kept_want ?vs27 (by rfl) ?ys27 ?rs27
      case ys27 => (intro w' hG; obtain ⟨q0, q1, q2, q3, q4, q5, q6, q7⟩ := qSs.out w' hG; clear hG; go_simp; try (with_reducible rfl))
      simp only [Act.put, List.setIfInBounds_toArray, List.set_cons_zero, List.set_cons_succ]
      refine kept_want ?vs28 (by rfl) ?ys28 ?rs28
      case ys28 => (intro w' hG; obtain ⟨q0, q1, q2, q3, q4, q5, q6, q7⟩ := qSs.out w' hG; clear hG; go_simp; try (with_reducible rfl))
      simp only [Act.put, List.setIfInBounds_toArray, List.set_cons_zero, List.set_cons_succ]
      refine kept_nil ?_
      intro V3 hV3
      clear qSs
      go_wp2
      go_ret
      exact ⟨rfl, (GN.out.trans hV3).grown⟩
  · clear n1
    go_wp2_with (first
      | (go_at_call 17; go_fit (HC.out _); rintro e V2 ⟨rfl, U2⟩; replace a0 := U2.cell a0; replace a1 := U2.cell a1; replace a2 := U2.cell a2; replace a3 := U2.cell a3; replace c0 := U2.cell c0; replace c1 := U2.cell c1))
    obtain ⟨M, hM⟩ : ∃ M, M = V2.alloc (.cells #[.int .i64 p, .int .i64 q] 24) := ⟨_, rfl⟩
    rw [← hM]
    have GM : Grew V2 M := by rw [hM]; exact (Grew.refl V2).alloc _ _
    have GN : Hid (Grew w M) := (GW.out.trans U2).trans GM
    replace a0 := GM.cell a0
    replace a1 := GM.cell a1
    replace a2 := GM.cell a2
    replace a3 := GM.cell a3
    replace c0 := GM.cell c0
    replace c1 := GM.cell c1
    have d0 : M.cell? ⟨V2.heap.size, 0, none⟩ = some (.int .i64 p) := by rw [hM]; simp [go_sem]
    have d1 : M.cell? ⟨V2.heap.size, 1, none⟩ = some (.int .i64 q) := by rw [hM]; simp [go_sem]
    clear hM GM GW U2 HC
    have qSt : Hid (∀ w', Grew M w' → (w'.cell? ⟨w.heap.size, 0, none⟩ = some (.int .i64 X0.l) ∧ w'.cell? ⟨w.heap.size, 1, none⟩ = some (.int .i64 X0.m) ∧ w'.cell? ⟨w.heap.size, 2, none⟩ = some (.int .i64 X0.h) ∧ w'.cell? ⟨w.heap.size, 3, none⟩ = some (.int .i64 X0.k) ∧ w'.cell? ⟨w.heap.size + 2, 0, none⟩ = some (.int .i64 x2) ∧ w'.cell? ⟨w.heap.size + 2, 1, none⟩ = some (.int .i64 y2) ∧ w'.cell? ⟨V2.heap.size, 0, none⟩ = some (.int .i64 p) ∧ w'.cell? ⟨V2.heap.size, 1, none⟩ = some (.int .i64 q))) := fun w' g => ⟨g.cell a0, g.cell a1, g.cell a2, g.cell a3, g.cell c0, g.cell c1, g.cell d0, g.cell d1⟩
    refine kept_region M (by kernel_rfl) (by kernel_rfl) ?_
    refine kept_want ?vt0 (by rfl) ?yt0 ?rt0
    case yt0 => (intro w' hG; obtain ⟨q0, q1, q2, q3, q4, q5, q6, q7⟩ := qSt.out w' hG; clear hG; go_simp; try (with_reducible rfl))
    simp only [Act.put, List.setIfInBounds_toArray, List.set_cons_zero, List.set_cons_succ]
    refine kept_want ?vt1 (by rfl) ?yt1 ?rt1
    case yt1 => (intro w' hG; obtain ⟨q0, q1, q2, q3, q4, q5, q6, q7⟩ := qSt.out w' hG; clear hG; go_simp; try (with_reducible rfl))
    simp only [Act.put, List.setIfInBounds_toArray, List.set_cons_zero, List.set_cons_succ]
    refine kept_want ?vt2 (by rfl) ?yt2 ?rt2
    case yt2 => (intro w' hG; obtain ⟨q0, q1, q2, q3, q4, q5, q6, q7⟩ := qSt.out w' hG; clear hG; go_simp; try (with_reducible rfl))
    simp only [Act.put, List.setIfInBounds_toArray, List.set_cons_zero, List.set_cons_succ]
    refine kept_skip (by rfl) ?_
    simp only [Act.put, List.setIfInBounds_toArray, List.set_cons_zero, List.set_cons_succ]
    refine kept_skip (by rfl) ?_
    simp only [Act.put, List.setIfInBounds_toArray, List.set_cons_zero, List.set_cons_succ]
    refine kept_skip (by rfl) ?_
    simp only [Act.put, List.setIfInBounds_toArray, List.set_cons_zero, List.set_cons_succ]
    refine kept_skip (by rfl) ?_
    simp only [Act.put, List.setIfInBounds_toArray, List.set_cons_zero, List.set_cons_succ]
    refine kept_skip (by rfl) ?_
    simp only [Act.put, List.setIfInBounds_toArray, List.set_cons_zero, List.set_cons_succ]
    refine kept_skip (by rfl) ?_
    simp only [Act.put, List.setIfInBounds_toArray, List.set_cons_zero, List.set_cons_succ]
    refine kept_skip (by rfl) ?_
    simp only [Act.put, List.setIfInBounds_toArray, List.set_cons_zero, List.set_cons_succ]
    refine kept_skip (by rfl) ?_
    simp only [Act.put, List.setIfInBounds_toArray, List.set_cons_zero, List.set_cons_succ]
    refine kept_skip (by rfl) ?_
    simp only [Act.put, List.setIfInBounds_toArray, List.set_cons_zero, List.set_cons_succ]
    refine kept_skip (by rfl) ?_
    simp only [Act.put, List.setIfInBounds_toArray, List.set_cons_zero, List.set_cons_succ]
    refine kept_skip (by rfl) ?_
    simp only [Act.put, List.setIfInBounds_toArray, List.set_cons_zero, List.set_cons_succ]
    refine kept_skip (by rfl) ?_
    simp only [Act.put, List.setIfInBounds_toArray, List.set_cons_zero, List.set_cons_succ]
    refine kept_skip (by rfl) ?_
    simp only [Act.put, List.setIfInBounds_toArray, List.set_cons_zero, List.set_cons_succ]
    refine kept_skip (by rfl) ?_
    simp only [Act.put, List.setIfInBounds_toArray, List.set_cons_zero, List.set_cons_succ]
    refine kept_skip (by rfl) ?_
    simp only [Act.put, List.setIfInBounds_toArray, List.set_cons_zero, List.set_cons_succ]
    refine kept_skip (by rfl) ?_
    simp only [Act.put, List.setIfInBounds_toArray, List.set_cons_zero, List.set_cons_succ]
    refine kept_skip (by rfl) ?_
    simp only [Act.put, List.setIfInBounds_toArray, List.set_cons_zero, List.set_cons_succ]
    refine kept_skip (by rfl) ?_
    simp only [Act.put, List.setIfInBounds_toArray, List.set_cons_zero, List.set_cons_succ]
    refine kept_skip (by rfl) ?_
    simp only [Act.put, List.setIfInBounds_toArray, List.set_cons_zero, List.set_cons_succ]
    refine kept_skip (by rfl) ?_
    simp only [Act.put, List.setIfInBounds_toArray, List.set_cons_zero, List.set_cons_succ]
    refine kept_skip (by rfl) ?_
    simp only [Act.put, List.setIfInBounds_toArray, List.set_cons_zero, List.set_cons_succ]
    refine kept_skip (by rfl) ?_
    simp only [Act.put, List.setIfInBounds_toArray, List.set_cons_zero, List.set_cons_succ]
    refine kept_skip (by rfl) ?_
    simp only [Act.put, List.setIfInBounds_toArray, List.set_cons_zero, List.set_cons_succ]
    refine kept_skip (by rfl) ?_
    simp only [Act.put, List.setIfInBounds_toArray, List.set_cons_zero, List.set_cons_succ]
    refine kept_want ?vt27 (by rfl) ?yt27 ?rt27
    case yt27 => (intro w' hG; obtain ⟨q0, q1, q2, q3, q4, q5, q6, q7⟩ := qSt.out w' hG; clear hG; go_simp; try (with_reducible rfl))
    simp only [Act.put, List.setIfInBounds_toArray, List.set_cons_zero, List.set_cons_succ]
    refine kept_want ?vt28 (by rfl) ?yt28 ?rt28
    case yt28 => (intro w' hG; obtain ⟨q0, q1, q2, q3, q4, q5, q6, q7⟩ := qSt.out w' hG; clear hG; go_simp; try (with_reducible rfl))
    simp only [Act.put, List.setIfInBounds_toArray, List.set_cons_zero, List.set_cons_succ]
    refine kept_nil ?_
    intro V3 hV3
    clear qSt
    go_wp2
    go_ret
    exact ⟨rfl, (GN.out.trans hV3).grown⟩

set_option maxRecDepth 100000 in
theorem lifted (os : Os) (started : os.Started) (H : Type) (enc : TypeId × Value → H) :
    ReturnsInHanded {} Try.checked os 4 .any (Rows.boundsMeetSpec.pre6 enc Try.prog Try.f4 Rows.boundsMeetRow.domain false) (Rows.boundsMeetSpec.post enc Try.prog Try.f4 false true false false) := by
  refine returnsInHanded_of_change (C := Try.checked) own started (by kernel_rfl) Try.func4
    (ChangeSpec.witness6 (enc := enc) (C := Try.checked) false ⟨#[], #[.agg #[.int .i64 0, .int .i64 0, .int .i64 0, .int .i64 0], .agg #[.int .i64 0, .int .i64 0, .int .i64 0, .int .i64 0], .agg #[.int .i64 0, .int .i64 0]], []⟩ 8 (by kernel_rfl) (by kernel_rfl) (by kernel_rfl) (by kernel_rfl)) ?_
  intro W base args ds gs before hval0 hW hcnd _
  have hval : ∀ (j : Nat) t v, Try.f4.params[j]? = some t → args[j]? = some v → Value.okWide Try.prog W .any base t v := hval0
  have hW' := hW
  obtain ⟨p, q, hA0, hV, rfl, hfz, hnd⟩ := hW
  have hA : DataW.TrodAll enc Try.prog W 0 (fun _ => true) true Try.f4.params.toList args.toList ds p := hA0
  rw [Try.params4] at hA hval
  obtain ⟨v0, vs0, d0, ds0, p0, q0, hargs, rfl, rfl, h0, r0⟩ := trodAll_cons hA
  obtain ⟨v1, vs1, d1, ds1, p1, q1, rfl, rfl, rfl, h1, r1⟩ := trodAll_cons r0
  obtain ⟨v2, vs2, d2, ds2, p2, q2, rfl, rfl, rfl, h2, r2⟩ := trodAll_cons r1
  obtain ⟨rfl, rfl, rfl⟩ := trodAll_nil r2
  obtain rfl : args = #[v0, v1, v2] := by cases args; simp_all
  obtain ⟨rfl, rfl⟩ := trodVars_none hV
  obtain ⟨X0, rfl, rfl, rfl, o0⟩ := open_box (hval 0 28 v0 rfl rfl) h0
  obtain ⟨X1, rfl, rfl, rfl, o1⟩ := open_box (hval 1 28 v1 rfl rfl) h1
  obtain ⟨x2, y2, rfl, rfl, rfl, f2, g2⟩ := open_vec (hval 2 24 v2 rfl rfl) h2
  clear hA0 hval0
  simp only [List.append_nil] at hW'
  refine (walk X0 o0 X1 o1 x2 y2 f2 g2 W).mono fun e W' ⟨he, hg⟩ => ?_
  subst he
  exact ⟨_, rfl, post_of_same (pa := []) (pv := []) hW' (fun _ _ _ => (trodAll_cons_mk (shut_bool Try.underlying4 _) trodAll_mk0)) (fun sp _ => (trodAll_cons_mk (shut_box o0) (trodAll_cons_mk (shut_box o1) (trodAll_cons_mk (shut_vec f2 g2) trodAll_mk0)))) (fun _ _ => rfl) rfl
    (hg.frame _) hg.2.1 (ok_one (by kernel_rfl) rfl (okWide_bool_mk Try.underlying4 _))⟩

theorem over : Rows.boundsMeetRow.holds Try.pinned (OpenSpec.ofChange Rows.boundsMeetSpec) :=
  OpenClaim.holds_of_wide 4 Try.f4 rfl rfl rfl rfl rfl rfl rfl ⟨rfl, rfl, rfl, rfl, rfl⟩ rfl rfl rfl rfl rfl (by kernel_rfl) Try.func4 (by kernel_rfl)
    (of_decide_eq_true (by kernel_rfl)) (by unfold Func.isWrapper; first | (rw [if_pos (by decide +kernel)]; kernel_rfl) | (rw [if_neg (by decide +kernel)]; exact ⟨rfl, rfl⟩))
    (fun os started H enc _ => lifted os started H enc)

theorem proved : Rows.BoundsMeetSaid :=
  over
end Go.Proofs.Ytlfncfjlfccfhaa.boundsMeet

namespace Go.Proofs.Ytlfncfjlfccfhaa
theorem boundsMeet_holds : Rows.BoundsMeetSaid := boundsMeet.proved
end Go.Proofs.Ytlfncfjlfccfhaa

/-
  Proved: maquettelaw7.ShapeNames returns true for every number n and every body b (each shape has a name of its own; there are two; a body of another shape may not be), and leaves what it was given as it was; no condition.
-/
import Derived.Test.YthfecjmgmnjaoaaRows
import Derived.Test.YthfecjmgmnjaoaaBAlive
import Derived.Test.YthfecjmgmnjaoaaBData
import Derived.WalkKit
import Derived.Deep.QuietTactic
import Derived.BigQuiet
import Derived.WalkSpells
import Derived.WalkLawsBesides
import Derived.ProofKit
import Derived.OpenShut
namespace Go.Proofs.Ythfecjmgmnjaoaa.shapeNames
open Go.ChangeShapes Go.WideShapes Go.ChangeAt Go.RowKit
set_option linter.unusedVariables false

theorem own : ownKnob Try.prog.godebug = none := by kernel_rfl

theorem right_of (s a b m p q u v : Int) (w : World) : Calls Try.prog 16 #[.agg #[.int .i64 s, .int .i64 a, .int .i64 b, .int .i64 m, .int .i64 p, .int .i64 q, .int .i64 u, .int .i64 v]] w fun e w' => e = .returned (.bool (rightB ⟨s, a, b, m, p, q, u, v⟩)) ∧ Grew w w' := shape_right ⟨s, a, b, m, p, q, u, v⟩ w
theorem name_ball (w : World) : Calls Try.prog 18 #[.int .i64 1] w fun e w' => e = .returned (.string ⟨#[98, 97, 108, 108]⟩) ∧ w' = w := by
  go_enter Try.func18, Try.ntmps18
  go_wp2
  go_ret
  exact ⟨rfl, rfl⟩
theorem name_none (n : Int) (h1 : (n == 1) = false) (h2 : (n == 2) = false) (w : World) : Calls Try.prog 18 #[.int .i64 n] w fun e w' => e = .returned (.string ⟨#[]⟩) ∧ w' = w := by
  go_enter Try.func18, Try.ntmps18
  go_wp2
  go_ret
  exact ⟨rfl, rfl⟩
theorem right_no {n : Int} (h1 : ¬ n = 1) (h2 : ¬ n = 2) (a b m p q u v : Int) : rightB ⟨n, a, b, m, p, q, u, v⟩ = false := by
  cases h : rightB ⟨n, a, b, m, p, q, u, v⟩ with
  | false => rfl
  | true => have := (rightB_iff _).1 h; simp at this; omega

set_option maxHeartbeats 1000000 in
theorem walk (a0 : Int) (f0 : inF a0) (B1 : Bd) (o1 : B1.ok) (w : World) :
    Calls Try.prog 6 #[.int .i64 a0, B1.val] w fun e w' => e = .returned (.bool true) ∧ Grown w w' := by
  unfold Bd.val
  by_cases h1 : a0 = 1
  · subst h1
    go_enter Try.func6, Try.ntmps6
    go_wp2_with (first
      | (go_at_call 8; go_fit (alive_any _); rintro e V ⟨rfl, G⟩; have hz := G.size; simp at hz; have z0 := G.cell (p := ⟨w.heap.size, 0, none⟩) (v := .int .i64 B1.s) (by simp [go_sem]); have y0 := G.frozen (p := ⟨w.heap.size, 0, none⟩) (by simp [go_sem]))
      | (go_at_call 18; go_fit (name_ball _); rintro e w' ⟨rfl, rfl⟩)
      | (go_at_call 18; go_fit (name_crate _); rintro e w' ⟨rfl, rfl⟩))
    go_ret
    exact ⟨rfl, ((((Grew.refl w).alloc _ _).trans G).setCell (by simp) _).grown⟩
  · by_cases h2 : a0 = 2
    · subst h2
      go_enter Try.func6, Try.ntmps6
      go_wp2_with (first
        | (go_at_call 8; go_fit (alive_any _); rintro e V ⟨rfl, G⟩; have hz := G.size; simp at hz; have z0 := G.cell (p := ⟨w.heap.size, 0, none⟩) (v := .int .i64 B1.s) (by simp [go_sem]); have y0 := G.frozen (p := ⟨w.heap.size, 0, none⟩) (by simp [go_sem]))
        | (go_at_call 18; go_fit (name_ball _); rintro e w' ⟨rfl, rfl⟩)
        | (go_at_call 18; go_fit (name_crate _); rintro e w' ⟨rfl, rfl⟩))
      go_ret
      exact ⟨rfl, ((((Grew.refl w).alloc _ _).trans G).setCell (by simp) _).grown⟩
    · have k1 : (a0 == 1) = false := by simpa using h1
      have k2 : (a0 == 2) = false := by simpa using h2
      have HR : Hid (∀ W, Calls Try.prog 16 #[.agg #[.int .i64 a0, .int .i64 B1.a, .int .i64 B1.b, .int .i64 B1.m, .int .i64 B1.p, .int .i64 B1.q, .int .i64 B1.u, .int .i64 B1.v]] W fun e w' => e = .returned (.bool false) ∧ Grew W w') := fun W => by
        have := right_of a0 B1.a B1.b B1.m B1.p B1.q B1.u B1.v W
        rw [right_no h1 h2] at this
        exact this
      go_enter Try.func6, Try.ntmps6
      go_wp2_with (first
        | (go_at_call 8; go_fit (alive_any _); rintro e V ⟨rfl, G⟩; have hz := G.size; simp at hz; have z0 := G.cell (p := ⟨w.heap.size, 0, none⟩) (v := .int .i64 B1.s) (by simp [go_sem]); have z1 := G.cell (p := ⟨w.heap.size, 1, none⟩) (v := .int .i64 B1.a) (by simp [go_sem]); have z2 := G.cell (p := ⟨w.heap.size, 2, none⟩) (v := .int .i64 B1.b) (by simp [go_sem]); have z3 := G.cell (p := ⟨w.heap.size, 3, none⟩) (v := .int .i64 B1.m) (by simp [go_sem]); have z4 := G.cell (p := ⟨w.heap.size, 4, none⟩) (v := .int .i64 B1.p) (by simp [go_sem]); have z5 := G.cell (p := ⟨w.heap.size, 5, none⟩) (v := .int .i64 B1.q) (by simp [go_sem]); have z6 := G.cell (p := ⟨w.heap.size, 6, none⟩) (v := .int .i64 B1.u) (by simp [go_sem]); have z7 := G.cell (p := ⟨w.heap.size, 7, none⟩) (v := .int .i64 B1.v) (by simp [go_sem]); have y0 := G.frozen (p := ⟨w.heap.size, 0, none⟩) (by simp [go_sem]))
        | (go_at_call 16; go_fit (HR.out _); rintro e V2 ⟨rfl, G2⟩)
        | (go_at_call 18; go_fit (name_none a0 k1 k2 _); rintro e w' ⟨rfl, rfl⟩)
        | (go_at_call 18; go_fit (name_ball _); rintro e w' ⟨rfl, rfl⟩)
        | (go_at_call 18; go_fit (name_crate _); rintro e w' ⟨rfl, rfl⟩))
      go_ret
      exact ⟨rfl, (((((Grew.refl w).alloc _ _).trans G).setCell (by simp) _).trans G2).grown⟩

set_option maxRecDepth 100000 in
theorem lifted (os : Os) (started : os.Started) (H : Type) (enc : TypeId × Value → H) :
    ReturnsInHanded {} Try.checked os 6 .any (Rows.shapeNamesSpec.pre6 enc Try.prog Try.f6 Rows.shapeNamesRow.domain false) (Rows.shapeNamesSpec.post enc Try.prog Try.f6 false true false false) := by
  refine returnsInHanded_of_change (C := Try.checked) own started (by kernel_rfl) Try.func6
    (ChangeSpec.witness6 (enc := enc) (C := Try.checked) false ⟨#[], #[.int .i64 0, .agg #[.int .i64 0, .int .i64 0, .int .i64 0, .int .i64 0, .int .i64 0, .int .i64 0, .int .i64 0, .int .i64 0]], []⟩ 8 (by kernel_rfl) (by kernel_rfl) (by kernel_rfl) (by kernel_rfl)) ?_
  intro W base args ds gs before hval0 hW hcnd _
  have hval : ∀ (j : Nat) t v, Try.f6.params[j]? = some t → args[j]? = some v → Value.okWide Try.prog W .any base t v := hval0
  have hW' := hW
  obtain ⟨p, q, hA0, hV, rfl, hfz, hnd⟩ := hW
  have hA : DataW.TrodAll enc Try.prog W 0 (fun _ => true) true Try.f6.params.toList args.toList ds p := hA0
  rw [Try.params6] at hA hval
  obtain ⟨v0, vs0, d0, ds0, p0, q0, hargs, rfl, rfl, h0, r0⟩ := trodAll_cons hA
  obtain ⟨v1, vs1, d1, ds1, p1, q1, rfl, rfl, rfl, h1, r1⟩ := trodAll_cons r0
  obtain ⟨rfl, rfl, rfl⟩ := trodAll_nil r1
  obtain rfl : args = #[v0, v1] := by cases args; simp_all
  obtain ⟨rfl, rfl⟩ := trodVars_none hV
  obtain ⟨a0, rfl, rfl, rfl, w0⟩ := open_int Try.underlying3 (hval 0 3 v0 rfl rfl) h0
  have f0 := inF_wf w0
  obtain ⟨B1, rfl, rfl, rfl, o1⟩ := open_body (hval 1 26 v1 rfl rfl) h1
  clear hA0 hval0
  simp only [List.append_nil] at hW'
  refine (walk a0 f0 B1 o1 W).mono fun e W' ⟨he, hg⟩ => ?_
  subst he
  exact ⟨_, rfl, post_of_same (pa := []) (pv := []) hW' (fun _ _ _ => (trodAll_cons_mk (shut_bool Try.underlying4 _) trodAll_mk0)) (fun sp _ => (trodAll_cons_mk (shut_int Try.underlying3 w0) (trodAll_cons_mk (shut_body o1) trodAll_mk0))) (fun _ _ => rfl) rfl
    (hg.frame _) hg.2.1 (ok_one (by kernel_rfl) rfl (okWide_bool_mk Try.underlying4 _))⟩

theorem over : Rows.shapeNamesRow.holds Try.pinned (OpenSpec.ofChange Rows.shapeNamesSpec) :=
  OpenClaim.holds_of_wide 6 Try.f6 rfl rfl rfl rfl rfl rfl rfl ⟨rfl, rfl, rfl, rfl, rfl⟩ rfl rfl rfl rfl rfl (by kernel_rfl) Try.func6 (by kernel_rfl)
    (of_decide_eq_true (by kernel_rfl)) (by unfold Func.isWrapper; first | (rw [if_pos (by decide +kernel)]; kernel_rfl) | (rw [if_neg (by decide +kernel)]; exact ⟨rfl, rfl⟩))
    (fun os started H enc _ => lifted os started H enc)

theorem proved : Rows.ShapeNamesSaid :=
  over
end Go.Proofs.Ythfecjmgmnjaoaa.shapeNames

namespace Go.Proofs.Ythfecjmgmnjaoaa
theorem shapeNames_holds : Rows.ShapeNamesSaid := shapeNames.proved
end Go.Proofs.Ythfecjmgmnjaoaa

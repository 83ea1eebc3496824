/-
  Proved: maquettelaw7.ShapeEdges returns true for every number k and every bit more (the least and the greatest that a body may be, and one bit more); no condition.
-/
import Derived.Test.YthfecjmgmnjaoaaRows
import Derived.Test.YthfecjmgmnjaoaaBAlive
import Derived.Test.YthfecjmgmnjaoaaBData
import Derived.WalkKit
import Derived.Deep.QuietTactic
import Derived.BigQuiet
import Derived.WalkSpells
import Derived.WalkLawsBesides
import Derived.ProofKit
import Derived.OpenShut
namespace Go.Proofs.Ythfecjmgmnjaoaa.shapeEdges
open Go.ChangeShapes Go.WideShapes Go.ChangeAt Go.RowKit
set_option linter.unusedVariables false

theorem own : ownKnob Try.prog.godebug = none := by kernel_rfl

theorem right_of (s a b m p q u v : Int) (w : World) : Calls Try.prog 16 #[.agg #[.int .i64 s, .int .i64 a, .int .i64 b, .int .i64 m, .int .i64 p, .int .i64 q, .int .i64 u, .int .i64 v]] w fun e w' => e = .returned (.bool (rightB ⟨s, a, b, m, p, q, u, v⟩)) ∧ Grew w w' := shape_right ⟨s, a, b, m, p, q, u, v⟩ w
theorem eight (k : Int) : ∃ j, (k.tmod 8 + 8).tmod 8 = j ∧ (k.tmod 8 + 8) % 8 = j ∧ 0 ≤ k.tmod 8 + 8 ∧ -8 < k.tmod 8 ∧ k.tmod 8 < 8 ∧ (j = 0 ∨ j = 1 ∨ j = 2 ∨ j = 3 ∨ j = 4 ∨ j = 5 ∨ j = 6 ∨ j = 7) := by
  have h1 := Int.lt_tmod_of_pos k (show (0 : Int) < 8 by decide)
  have h2 := Int.tmod_lt_of_pos k (show (0 : Int) < 8 by decide)
  have h3 : (k.tmod 8 + 8).tmod 8 = (k.tmod 8 + 8) % 8 := Int.tmod_eq_emod_of_nonneg (by omega)
  exact ⟨_, h3, rfl, by omega, by omega, h2, by omega⟩

set_option maxHeartbeats 1000000 in
theorem walk (a0 : Int) (f0 : inF a0) (k1 : Bool) (w : World) :
    Calls Try.prog 4 #[.int .i64 a0, .bool k1] w fun e w' => e = .returned (.bool true) ∧ Grown w w' := by
  obtain ⟨j, e1, e2, e3, e4, e5, hj⟩ := eight a0
  cases k1
  all_goals
    rcases hj with rfl | rfl | rfl | rfl | rfl | rfl | rfl | rfl
  all_goals
    go_enter Try.func4, Try.ntmps4
    go_wp2_with (first
      | (go_at_call 8; go_fit (alive_any _); rintro e V ⟨rfl, G⟩)
      | (go_at_call 16; go_fit (right_of _ _ _ _ _ _ _ _ _); rintro e V2 ⟨rfl, G2⟩))
    go_ret
    exact ⟨ret_bool (by decide +kernel), ((G.alloc _ _).trans G2).grown⟩

set_option maxRecDepth 100000 in
theorem lifted (os : Os) (started : os.Started) (H : Type) (enc : TypeId × Value → H) :
    ReturnsInHanded {} Try.checked os 4 .any (Rows.shapeEdgesSpec.pre6 enc Try.prog Try.f4 Rows.shapeEdgesRow.domain false) (Rows.shapeEdgesSpec.post enc Try.prog Try.f4 false true false false) := by
  refine returnsInHanded_of_change (C := Try.checked) own started (by kernel_rfl) Try.func4
    (ChangeSpec.witness6 (enc := enc) (C := Try.checked) false ⟨#[], #[.int .i64 0, .bool false], []⟩ 8 (by kernel_rfl) (by kernel_rfl) (by kernel_rfl) (by kernel_rfl)) ?_
  intro W base args ds gs before hval0 hW hcnd _
  have hval : ∀ (j : Nat) t v, Try.f4.params[j]? = some t → args[j]? = some v → Value.okWide Try.prog W .any base t v := hval0
  have hW' := hW
  obtain ⟨p, q, hA0, hV, rfl, hfz, hnd⟩ := hW
  have hA : DataW.TrodAll enc Try.prog W 0 (fun _ => true) true Try.f4.params.toList args.toList ds p := hA0
  rw [Try.params4] at hA hval
  obtain ⟨v0, vs0, d0, ds0, p0, q0, hargs, rfl, rfl, h0, r0⟩ := trodAll_cons hA
  obtain ⟨v1, vs1, d1, ds1, p1, q1, rfl, rfl, rfl, h1, r1⟩ := trodAll_cons r0
  obtain ⟨rfl, rfl, rfl⟩ := trodAll_nil r1
  obtain rfl : args = #[v0, v1] := by cases args; simp_all
  obtain ⟨rfl, rfl⟩ := trodVars_none hV
  obtain ⟨a0, rfl, rfl, rfl, w0⟩ := open_int Try.underlying3 (hval 0 3 v0 rfl rfl) h0
  have f0 := inF_wf w0
  obtain ⟨k1, rfl, rfl, rfl⟩ := open_bool Try.underlying4 (hval 1 4 v1 rfl rfl) h1
  clear hA0 hval0
  simp only [List.append_nil] at hW'
  refine (walk a0 f0 k1 W).mono fun e W' ⟨he, hg⟩ => ?_
  subst he
  exact ⟨_, rfl, post_of_same (pa := []) (pv := []) hW' (fun _ _ _ => (trodAll_cons_mk (shut_bool Try.underlying4 _) trodAll_mk0)) (fun sp _ => (trodAll_cons_mk (shut_int Try.underlying3 w0) (trodAll_cons_mk (shut_bool Try.underlying4 k1) trodAll_mk0))) (fun _ _ => rfl) rfl
    (hg.frame _) hg.2.1 (ok_one (by kernel_rfl) rfl (okWide_bool_mk Try.underlying4 _))⟩

theorem over : Rows.shapeEdgesRow.holds Try.pinned (OpenSpec.ofChange Rows.shapeEdgesSpec) :=
  OpenClaim.holds_of_wide 4 Try.f4 rfl rfl rfl rfl rfl rfl rfl ⟨rfl, rfl, rfl, rfl, rfl⟩ rfl rfl rfl rfl rfl (by kernel_rfl) Try.func4 (by kernel_rfl)
    (of_decide_eq_true (by kernel_rfl)) (by unfold Func.isWrapper; first | (rw [if_pos (by decide +kernel)]; kernel_rfl) | (rw [if_neg (by decide +kernel)]; exact ⟨rfl, rfl⟩))
    (fun os started H enc _ => lifted os started H enc)

theorem proved : Rows.ShapeEdgesSaid :=
  over
end Go.Proofs.Ythfecjmgmnjaoaa.shapeEdges

namespace Go.Proofs.Ythfecjmgmnjaoaa
theorem shapeEdges_holds : Rows.ShapeEdgesSaid := shapeEdges.proved
end Go.Proofs.Ythfecjmgmnjaoaa

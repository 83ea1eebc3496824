/-
  Proved: maquettelaw1.FixLaws returns true for every two int64s, and leaves what it was given as it was; no condition.
-/
import Derived.Test.YtgemflldnplkbaaRows
import Derived.Test.YtgemflldnplkbaaAlive
import Derived.Test.YtgemflldnplkbaaLawNum
import Derived.WalkKit
import Derived.WalkSpells
import Derived.WalkLawsBesides
import Derived.ProofKit
import Derived.OpenShut
import Derived.ShutString
namespace Go.Proofs.Ytgemflldnplkbaa.fixLaws
open Go.ChangeShapes Go.WideShapes Go.ChangeAt Go.RowKit
open Go.ChangeMaps (open_string shut_string)
set_option linter.unusedVariables false

theorem own : ownKnob Try.prog.godebug = none := by kernel_rfl

theorem walk (a0 : Int) (a1 : Int) (w0 : (Lit.int .i64 a0).wf = true) (w1 : (Lit.int .i64 a1).wf = true) (w : World) :
    Calls Try.prog 4 #[.int .i64 a0, .int .i64 a1] w fun e w' => e = .returned (.bool true) ∧ Grown w w' := by
  have ha : inF a0 := inF_wf w0
  have hb : inF a1 := inF_wf w1
  have f1 := mulR_one ha
  have f2 := mulR_zero a0
  have f3 := mulR_comm a1 a0
  rcases inR_cases (a0 + a1) with ⟨h1, h2⟩ | ⟨h1, h2⟩
  · have hs : inF (a0 + a1) := h2
    have f4 : addR a0 a1 = (a0 + a1, 0) := h1
    have f5 : addR a1 a0 = (a0 + a1, 0) := by rw [addR_comm]; exact h1
    have f6 : subR (a0 + a1) a1 = (a0, 0) := by unfold subR; rw [Int.add_sub_cancel]; exact inR_ok ha
    clear h1
    go_enter Try.func4, Try.ntmps4
    go_wp2_with (first
    | (go_at_call 9; refine (alive_any _).mono ?_; rintro e w' ⟨rfl, n, rfl⟩)
    | (go_at_call 14; refine (add_any _ _ _ (by first | assumption | exact ⟨by decide, by decide⟩) (by first | assumption | exact ⟨by decide, by decide⟩)).mono ?_; rintro e w' ⟨rfl, rfl⟩)
    | (go_at_call 15; refine (sub_any _ _ _ (by first | assumption | exact ⟨by decide, by decide⟩) (by first | assumption | exact ⟨by decide, by decide⟩)).mono ?_; rintro e w' ⟨rfl, rfl⟩)
    | (go_at_call 16; refine (mul_any _ _ _ (by first | assumption | exact ⟨by decide, by decide⟩) (by first | assumption | exact ⟨by decide, by decide⟩)).mono ?_; rintro e w' ⟨rfl, rfl⟩)
    | (go_at_call 17; refine (div_any _ _ _ (by first | assumption | exact ⟨by decide, by decide⟩) (by first | assumption | exact ⟨by decide, by decide⟩)).mono ?_; rintro e w' ⟨rfl, n, rfl⟩)
    | fail)
    go_ret
    exact ⟨rfl, grown_drewN _ _⟩
  · have f4 : addR a0 a1 = (0, 3) := h1
    have f5 : addR a1 a0 = (0, 3) := by rw [addR_comm]; exact h1
    clear h1 h2
    go_enter Try.func4, Try.ntmps4
    go_wp2_with (first
    | (go_at_call 9; refine (alive_any _).mono ?_; rintro e w' ⟨rfl, n, rfl⟩)
    | (go_at_call 14; refine (add_any _ _ _ (by first | assumption | exact ⟨by decide, by decide⟩) (by first | assumption | exact ⟨by decide, by decide⟩)).mono ?_; rintro e w' ⟨rfl, rfl⟩)
    | (go_at_call 15; refine (sub_any _ _ _ (by first | assumption | exact ⟨by decide, by decide⟩) (by first | assumption | exact ⟨by decide, by decide⟩)).mono ?_; rintro e w' ⟨rfl, rfl⟩)
    | (go_at_call 16; refine (mul_any _ _ _ (by first | assumption | exact ⟨by decide, by decide⟩) (by first | assumption | exact ⟨by decide, by decide⟩)).mono ?_; rintro e w' ⟨rfl, rfl⟩)
    | (go_at_call 17; refine (div_any _ _ _ (by first | assumption | exact ⟨by decide, by decide⟩) (by first | assumption | exact ⟨by decide, by decide⟩)).mono ?_; rintro e w' ⟨rfl, n, rfl⟩)
    | fail)
    go_ret
    exact ⟨rfl, grown_drewN _ _⟩

set_option maxRecDepth 100000 in
theorem lifted (os : Os) (started : os.Started) (H : Type) (enc : TypeId × Value → H) :
    ReturnsInHanded {} Try.checked os 4 .any (Rows.fixLawsSpec.pre6 enc Try.prog Try.f4 Rows.fixLawsRow.domain false) (Rows.fixLawsSpec.post enc Try.prog Try.f4 false true false false) := by
  refine returnsInHanded_of_change (C := Try.checked) own started (by kernel_rfl) Try.func4
    (ChangeSpec.witness6 (enc := enc) (C := Try.checked) false ⟨#[], #[.int .i64 0, .int .i64 0], []⟩ 8 (by kernel_rfl) (by kernel_rfl) (by kernel_rfl) (by kernel_rfl)) ?_
  intro W base args ds gs before hval0 hW hcnd _
  have hval : ∀ (j : Nat) t v, Try.f4.params[j]? = some t → args[j]? = some v → Value.okWide Try.prog W .any base t v := hval0
  have hW' := hW
  obtain ⟨p, q, hA0, hV, rfl, hfz, hnd⟩ := hW
  have hA : DataW.TrodAll enc Try.prog W 0 (fun _ => true) true Try.f4.params.toList args.toList ds p := hA0
  rw [Try.params4] at hA hval
  obtain ⟨v0, vs0, d0, ds0, p0, q0, hargs, rfl, rfl, h0, r0⟩ := trodAll_cons hA
  obtain ⟨v1, vs1, d1, ds1, p1, q1, rfl, rfl, rfl, h1, r1⟩ := trodAll_cons r0
  obtain ⟨rfl, rfl, rfl⟩ := trodAll_nil r1
  obtain rfl : args = #[v0, v1] := by cases args; simp_all
  obtain ⟨rfl, rfl⟩ := trodVars_none hV
  obtain ⟨a0, rfl, rfl, rfl, w0⟩ := open_int Try.underlying22 (hval 0 22 v0 rfl rfl) h0
  obtain ⟨a1, rfl, rfl, rfl, w1⟩ := open_int Try.underlying22 (hval 1 22 v1 rfl rfl) h1
  clear hA0 hval0
  simp only [List.append_nil] at hW'
  refine (walk a0 a1 w0 w1 W).mono fun e W' ⟨he, hg⟩ => ?_
  subst he
  exact ⟨_, rfl, post_of_same (pa := []) (pv := []) hW' (fun _ _ _ => (trodAll_cons_mk (shut_bool Try.underlying4 _) trodAll_mk0)) (fun sp _ => (trodAll_cons_mk (shut_int Try.underlying22 w0) (trodAll_cons_mk (shut_int Try.underlying22 w1) trodAll_mk0))) (fun _ _ => rfl) rfl
    (hg.frame _) hg.2.1 (ok_one (by kernel_rfl) rfl (okWide_bool_mk Try.underlying4 _))⟩

theorem over : Rows.fixLawsRow.holds Try.pinned (OpenSpec.ofChange Rows.fixLawsSpec) :=
  OpenClaim.holds_of_wide 4 Try.f4 rfl rfl rfl rfl rfl rfl rfl ⟨rfl, rfl, rfl, rfl, rfl⟩ rfl rfl rfl rfl rfl (by kernel_rfl) Try.func4 (by kernel_rfl)
    (of_decide_eq_true (by kernel_rfl)) (by unfold Func.isWrapper; first | (rw [if_pos (by decide +kernel)]; kernel_rfl) | (rw [if_neg (by decide +kernel)]; exact ⟨rfl, rfl⟩))
    (fun os started H enc _ => lifted os started H enc)

theorem proved : Rows.FixLawsSaid :=
  over
end Go.Proofs.Ytgemflldnplkbaa.fixLaws

namespace Go.Proofs.Ytgemflldnplkbaa
theorem fixLaws_holds : Rows.FixLawsSaid := fixLaws.proved
end Go.Proofs.Ytgemflldnplkbaa

/-
  Proved: maquettelaw4.RootBelow returns true for every int64, and leaves what it was given as it was; no condition.
-/
import Derived.Test.YtklgidjogicfbabRows
import Derived.Test.YtklgidjogicfbabQAlive
import Derived.WalkKit
import Derived.WalkSpells
import Derived.WalkLawsBesides
import Derived.ProofKit
import Derived.OpenShut
import Derived.ShutString
namespace Go.Proofs.Ytklgidjogicfbab.rootBelow
open Go.ChangeShapes Go.WideShapes Go.ChangeAt Go.RowKit
open Go.ChangeMaps (open_string shut_string)
set_option linter.unusedVariables false

theorem own : ownKnob Try.prog.godebug = none := by kernel_rfl

theorem sq_zero : sqR 0 = (0, 0) := by unfold sqR; rw [if_neg (by decide), rt_eq (r := 0) ⟨by decide, by decide, by decide⟩ (by decide)]
theorem sq_one : sqR 4294967296 = (4294967296, 0) := by unfold sqR; rw [if_neg (by decide), rt_eq (r := 4294967296) ⟨by decide, by decide, by decide⟩ (by decide)]
theorem rt_zero : rt 0 = 0 := rt_eq ⟨by decide, by decide, by decide⟩ (by decide)
set_option maxHeartbeats 1000000 in
theorem walk (a0 : Int) (w0 : (Lit.int .i64 a0).wf = true) (w : World) :
    Calls Try.prog 3 #[.int .i64 a0] w fun e w' => e = .returned (.bool true) ∧ Grown w w' := by
  have ha : inF a0 := inF_wf w0
  clear w0
  have f3 : Hid (sqR 0 = (0, 0)) := sq_zero
  have f1 : Hid (sqR 4294967296 = (4294967296, 0)) := sq_one
  have s0 : Hid (rt 0 = 0) := rt_zero
  have G := Grew.refl w
  by_cases h : a0 < 0
  · have f2 : Hid (sqR a0 = (0, 9)) := if_pos h
    go_enter Try.func3, Try.ntmps3
    go_wp2_with (first
    | (go_at_call 4; refine (alive_any _).mono ?_; rintro e V ⟨rfl, U⟩; replace G := G.trans U; clear U)
    | (go_at_call 5; refine (sqrt_any _ _ (by first | assumption | exact ⟨by decide, by decide⟩)).mono ?_; rintro e V ⟨rfl, U⟩; (first | rw [(f1).out] | rw [(f2).out] | rw [(f3).out] | rw [(f4).out]); replace G := G.trans U; clear U)
    | (go_at_call 7; refine (len_any _ _ _ (by first | assumption | exact ⟨by decide, by decide⟩) (by first | assumption | exact ⟨by decide, by decide⟩)).mono ?_; rintro e V ⟨rfl, U⟩; (first | rw [(f1).out] | rw [(f2).out] | rw [(f3).out] | rw [(f4).out]); replace G := G.trans U; clear U)
    | (go_at_call 6; refine (int_any _ _ (by first | assumption | decide) (by first | assumption | decide)).mono ?_; rintro e V ⟨rfl, U⟩; (first | rw [(s0).out] | rw [(s1).out]); replace G := G.trans U; clear U)
    | (go_at_call 15; refine (mul64_w (by assumption) _).mono ?_; rintro e w' ⟨rfl, rfl⟩)
    | fail)
    go_ret
    exact ⟨rfl, G.grown⟩
  · obtain ⟨r, f2⟩ : ∃ r, Hid (sqR a0 = (r, 0)) := ⟨_, if_neg h⟩
    have h' : 0 ≤ a0 := Int.not_lt.1 h
    have hd : decide (a0 < 0) = false := decide_eq_false h
    clear h
    go_enter Try.func3, Try.ntmps3
    go_wp2_with (first
    | (go_at_call 4; refine (alive_any _).mono ?_; rintro e V ⟨rfl, U⟩; replace G := G.trans U; clear U)
    | (go_at_call 5; refine (sqrt_any _ _ (by first | assumption | exact ⟨by decide, by decide⟩)).mono ?_; rintro e V ⟨rfl, U⟩; (first | rw [(f1).out] | rw [(f2).out] | rw [(f3).out] | rw [(f4).out]); replace G := G.trans U; clear U)
    | (go_at_call 7; refine (len_any _ _ _ (by first | assumption | exact ⟨by decide, by decide⟩) (by first | assumption | exact ⟨by decide, by decide⟩)).mono ?_; rintro e V ⟨rfl, U⟩; (first | rw [(f1).out] | rw [(f2).out] | rw [(f3).out] | rw [(f4).out]); replace G := G.trans U; clear U)
    | (go_at_call 6; refine (int_any _ _ (by first | assumption | decide) (by first | assumption | decide)).mono ?_; rintro e V ⟨rfl, U⟩; (first | rw [(s0).out] | rw [(s1).out]); replace G := G.trans U; clear U)
    | (go_at_call 15; refine (mul64_w (by assumption) _).mono ?_; rintro e w' ⟨rfl, rfl⟩)
    | fail)
    go_ret
    exact ⟨rfl, G.grown⟩

set_option maxRecDepth 100000 in
theorem lifted (os : Os) (started : os.Started) (H : Type) (enc : TypeId × Value → H) :
    ReturnsInHanded {} Try.checked os 3 .any (Rows.rootBelowSpec.pre6 enc Try.prog Try.f3 Rows.rootBelowRow.domain false) (Rows.rootBelowSpec.post enc Try.prog Try.f3 false true false false) := by
  refine returnsInHanded_of_change (C := Try.checked) own started (by kernel_rfl) Try.func3
    (ChangeSpec.witness6 (enc := enc) (C := Try.checked) false ⟨#[], #[.int .i64 0], []⟩ 8 (by kernel_rfl) (by kernel_rfl) (by kernel_rfl) (by kernel_rfl)) ?_
  intro W base args ds gs before hval0 hW hcnd _
  have hval : ∀ (j : Nat) t v, Try.f3.params[j]? = some t → args[j]? = some v → Value.okWide Try.prog W .any base t v := hval0
  have hW' := hW
  obtain ⟨p, q, hA0, hV, rfl, hfz, hnd⟩ := hW
  have hA : DataW.TrodAll enc Try.prog W 0 (fun _ => true) true Try.f3.params.toList args.toList ds p := hA0
  rw [Try.params3] at hA hval
  obtain ⟨v0, vs0, d0, ds0, p0, q0, hargs, rfl, rfl, h0, r0⟩ := trodAll_cons hA
  obtain ⟨rfl, rfl, rfl⟩ := trodAll_nil r0
  obtain rfl : args = #[v0] := by cases args; simp_all
  obtain ⟨rfl, rfl⟩ := trodVars_none hV
  obtain ⟨a0, rfl, rfl, rfl, w0⟩ := open_int Try.underlying22 (hval 0 22 v0 rfl rfl) h0
  clear hA0 hval0
  simp only [List.append_nil] at hW'
  refine (walk a0 w0 W).mono fun e W' ⟨he, hg⟩ => ?_
  subst he
  exact ⟨_, rfl, post_of_same (pa := []) (pv := []) hW' (fun _ _ _ => (trodAll_cons_mk (shut_bool Try.underlying4 _) trodAll_mk0)) (fun sp _ => (trodAll_cons_mk (shut_int Try.underlying22 w0) trodAll_mk0)) (fun _ _ => rfl) rfl
    (hg.frame _) hg.2.1 (ok_one (by kernel_rfl) rfl (okWide_bool_mk Try.underlying4 _))⟩

theorem over : Rows.rootBelowRow.holds Try.pinned (OpenSpec.ofChange Rows.rootBelowSpec) :=
  OpenClaim.holds_of_wide 3 Try.f3 rfl rfl rfl rfl rfl rfl rfl ⟨rfl, rfl, rfl, rfl, rfl⟩ rfl rfl rfl rfl rfl (by kernel_rfl) Try.func3 (by kernel_rfl)
    (of_decide_eq_true (by kernel_rfl)) (by unfold Func.isWrapper; first | (rw [if_pos (by decide +kernel)]; kernel_rfl) | (rw [if_neg (by decide +kernel)]; exact ⟨rfl, rfl⟩))
    (fun os started H enc _ => lifted os started H enc)

theorem proved : Rows.RootBelowSaid :=
  over
end Go.Proofs.Ytklgidjogicfbab.rootBelow

namespace Go.Proofs.Ytklgidjogicfbab
theorem rootBelow_holds : Rows.RootBelowSaid := rootBelow.proved
end Go.Proofs.Ytklgidjogicfbab

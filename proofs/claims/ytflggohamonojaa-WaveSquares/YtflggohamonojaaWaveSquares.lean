/-
  Proved: maquettelaw5.WaveSquares returns true for every int, and leaves what it was given as it was; no condition.
-/
import Derived.Test.YtflggohamonojaaRows
import Derived.Test.YtflggohamonojaaWAlive
import Derived.WalkKit
import Derived.WalkSpells
import Derived.WalkLawsBesides
import Derived.ProofKit
import Derived.OpenShut
import Derived.ShutString
namespace Go.Proofs.Ytflggohamonojaa.waveSquares
open Go.ChangeShapes Go.WideShapes Go.ChangeAt Go.RowKit
open Go.ChangeMaps (open_string shut_string)
set_option linter.unusedVariables false

theorem own : ownKnob Try.prog.godebug = none := by kernel_rfl

theorem walk (a0 : Int) (w0 : (Lit.int .i64 a0).wf = true) (w : World) :
    Calls Try.prog 7 #[.int .i64 a0] w fun e w' => e = .returned (.bool true) ∧ Grown w w' := by
  have ha : inF a0 := inF_wf w0
  clear w0
  obtain ⟨p, q, k1, k2, k3, k4, k5, k6, k7, k8⟩ := squares_cut a0
  have b1 := sin_in a0
  have b2 : -4294967296 ≤ cosI a0 ∧ cosI a0 ≤ 4294967296 := sin_in _
  obtain ⟨x, e1⟩ : ∃ x, sinI a0 = x := ⟨_, rfl⟩
  obtain ⟨y, e2⟩ : ∃ x, cosI a0 = x := ⟨_, rfl⟩
  rw [e1] at b1 k1; rw [e2] at b2 k2
  have s1 : Hid (_ = _) := e1; have c1 : Hid (_ = _) := e2
  clear e1 e2
  obtain ⟨u, hu⟩ : ∃ u, x / 256 = u := ⟨_, rfl⟩
  obtain ⟨v, hv⟩ : ∃ u, y / 256 = u := ⟨_, rfl⟩
  rw [hu] at k1; rw [hv] at k2
  have u1 : -16777216 ≤ u := by omega
  have u2 : u ≤ 16777216 := by omega
  have v1 : -16777216 ≤ v := by omega
  have v2 : v ≤ 16777216 := by omega
  clear b1 b2
  go_enter Try.func7, Try.ntmps7
  go_wp2_with (first
    | (go_at_call 9; refine (alive_any _).mono ?_; rintro e w' ⟨rfl, rfl⟩)
    | (go_at_call 14; refine (sin_any _ _ (by first | assumption | exact ⟨by omega, by omega⟩)).mono ?_; rintro e w' ⟨rfl, rfl⟩; (first | rw [(s1).out] | rw [(s2).out] | rw [(s3).out] | rw [(s4).out] | skip))
    | (go_at_call 16; refine (cos_any _ _ (by first | assumption | exact ⟨by omega, by omega⟩)).mono ?_; rintro e w' ⟨rfl, rfl⟩; (first | rw [(c1).out] | rw [(c2).out] | rw [(c3).out] | skip))
    | (go_at_call 12; refine (norm_any _ _ (by first | assumption | exact ⟨by omega, by omega⟩)).mono ?_; rintro e w' ⟨rfl, rfl⟩; (first | rw [(n1).out] | rw [(n2).out] | rw [(n3).out] | skip))
    | fail)
  all_goals (go_ret; exact ⟨rfl, Grown.refl _⟩)

set_option maxRecDepth 100000 in
theorem lifted (os : Os) (started : os.Started) (H : Type) (enc : TypeId × Value → H) :
    ReturnsInHanded {} Try.checked os 7 .any (Rows.waveSquaresSpec.pre6 enc Try.prog Try.f7 Rows.waveSquaresRow.domain false) (Rows.waveSquaresSpec.post enc Try.prog Try.f7 false true false false) := by
  refine returnsInHanded_of_change (C := Try.checked) own started (by kernel_rfl) Try.func7
    (ChangeSpec.witness6 (enc := enc) (C := Try.checked) false ⟨#[], #[.int .i64 0], []⟩ 8 (by kernel_rfl) (by kernel_rfl) (by kernel_rfl) (by kernel_rfl)) ?_
  intro W base args ds gs before hval0 hW hcnd _
  have hval : ∀ (j : Nat) t v, Try.f7.params[j]? = some t → args[j]? = some v → Value.okWide Try.prog W .any base t v := hval0
  have hW' := hW
  obtain ⟨p, q, hA0, hV, rfl, hfz, hnd⟩ := hW
  have hA : DataW.TrodAll enc Try.prog W 0 (fun _ => true) true Try.f7.params.toList args.toList ds p := hA0
  rw [Try.params7] at hA hval
  obtain ⟨v0, vs0, d0, ds0, p0, q0, hargs, rfl, rfl, h0, r0⟩ := trodAll_cons hA
  obtain ⟨rfl, rfl, rfl⟩ := trodAll_nil r0
  obtain rfl : args = #[v0] := by cases args; simp_all
  obtain ⟨rfl, rfl⟩ := trodVars_none hV
  obtain ⟨a0, rfl, rfl, rfl, w0⟩ := open_int Try.underlying3 (hval 0 3 v0 rfl rfl) h0
  clear hA0 hval0
  simp only [List.append_nil] at hW'
  refine (walk a0 w0 W).mono fun e W' ⟨he, hg⟩ => ?_
  subst he
  exact ⟨_, rfl, post_of_same (pa := []) (pv := []) hW' (fun _ _ _ => (trodAll_cons_mk (shut_bool Try.underlying4 _) trodAll_mk0)) (fun sp _ => (trodAll_cons_mk (shut_int Try.underlying3 w0) trodAll_mk0)) (fun _ _ => rfl) rfl
    (hg.frame _) hg.2.1 (ok_one (by kernel_rfl) rfl (okWide_bool_mk Try.underlying4 _))⟩

theorem over : Rows.waveSquaresRow.holds Try.pinned (OpenSpec.ofChange Rows.waveSquaresSpec) :=
  OpenClaim.holds_of_wide 7 Try.f7 rfl rfl rfl rfl rfl rfl rfl ⟨rfl, rfl, rfl, rfl, rfl⟩ rfl rfl rfl rfl rfl (by kernel_rfl) Try.func7 (by kernel_rfl)
    (of_decide_eq_true (by kernel_rfl)) (by unfold Func.isWrapper; first | (rw [if_pos (by decide +kernel)]; kernel_rfl) | (rw [if_neg (by decide +kernel)]; exact ⟨rfl, rfl⟩))
    (fun os started H enc _ => lifted os started H enc)

theorem proved : Rows.WaveSquaresSaid :=
  over
end Go.Proofs.Ytflggohamonojaa.waveSquares

namespace Go.Proofs.Ytflggohamonojaa
theorem waveSquares_holds : Rows.WaveSquaresSaid := waveSquares.proved
end Go.Proofs.Ytflggohamonojaa

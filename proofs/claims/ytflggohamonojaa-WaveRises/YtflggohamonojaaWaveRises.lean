/-
  Proved: maquettelaw5.WaveRises returns true for every two ints, and leaves what it was given as it was; no condition.
-/
import Derived.Test.YtflggohamonojaaRows
import Derived.Test.YtflggohamonojaaWAlive
import Derived.WalkKit
import Derived.WalkSpells
import Derived.WalkLawsBesides
import Derived.ProofKit
import Derived.OpenShut
import Derived.ShutString
namespace Go.Proofs.Ytflggohamonojaa.waveRises
open Go.ChangeShapes Go.WideShapes Go.ChangeAt Go.RowKit
open Go.ChangeMaps (open_string shut_string)
set_option linter.unusedVariables false

theorem own : ownKnob Try.prog.godebug = none := by kernel_rfl

theorem sin_rises {a b : Int} (h0 : 0 ≤ a) (h1 : a ≤ 16384) (g0 : 0 ≤ b) (g1 : b ≤ 16384) : (decide (sinI a < sinI b) == decide (a < b)) = true := by
  rw [sin_at (a := a) (n := a) (by omega) (by omega), sin_at (a := b) (n := b) (by omega) (by omega)]
  rcases Int.lt_or_le a b with h | h
  · have := arc_rises h0 h g1
    simp [h, this]
  · have := arc_le g0 h h1
    have e1 : ¬ a < b := by omega
    have e2 : ¬ arc a < arc b := by omega
    simp [e1, e2]
set_option maxHeartbeats 1000000 in
theorem walk (a0 : Int) (a1 : Int) (w0 : (Lit.int .i64 a0).wf = true) (w1 : (Lit.int .i64 a1).wf = true) (w : World) :
    Calls Try.prog 5 #[.int .i64 a0, .int .i64 a1] w fun e w' => e = .returned (.bool true) ∧ Grown w w' := by
  have ha : inF a0 := inF_wf w0
  have hb : inF a1 := inF_wf w1
  clear w0 w1
  by_cases g : a0 < 0
  · go_enter Try.func5, Try.ntmps5
    go_wp2_with (first
    | (go_at_call 9; refine (alive_any _).mono ?_; rintro e w' ⟨rfl, rfl⟩)
    | (go_at_call 14; refine (sin_any _ _ (by first | assumption | exact ⟨by omega, by omega⟩)).mono ?_; rintro e w' ⟨rfl, rfl⟩; (first | rw [(s1).out] | rw [(s2).out] | rw [(s3).out] | rw [(s4).out] | skip))
    | (go_at_call 16; refine (cos_any _ _ (by first | assumption | exact ⟨by omega, by omega⟩)).mono ?_; rintro e w' ⟨rfl, rfl⟩; (first | rw [(c1).out] | rw [(c2).out] | rw [(c3).out] | skip))
    | (go_at_call 12; refine (norm_any _ _ (by first | assumption | exact ⟨by omega, by omega⟩)).mono ?_; rintro e w' ⟨rfl, rfl⟩; (first | rw [(n1).out] | rw [(n2).out] | rw [(n3).out] | skip))
    | fail)
    go_ret
    exact ⟨rfl, Grown.refl _⟩
  have g1 : 0 ≤ a0 := Int.not_lt.1 g
  clear g
  by_cases g : a1 < 0
  · go_enter Try.func5, Try.ntmps5
    go_wp2_with (first
    | (go_at_call 9; refine (alive_any _).mono ?_; rintro e w' ⟨rfl, rfl⟩)
    | (go_at_call 14; refine (sin_any _ _ (by first | assumption | exact ⟨by omega, by omega⟩)).mono ?_; rintro e w' ⟨rfl, rfl⟩; (first | rw [(s1).out] | rw [(s2).out] | rw [(s3).out] | rw [(s4).out] | skip))
    | (go_at_call 16; refine (cos_any _ _ (by first | assumption | exact ⟨by omega, by omega⟩)).mono ?_; rintro e w' ⟨rfl, rfl⟩; (first | rw [(c1).out] | rw [(c2).out] | rw [(c3).out] | skip))
    | (go_at_call 12; refine (norm_any _ _ (by first | assumption | exact ⟨by omega, by omega⟩)).mono ?_; rintro e w' ⟨rfl, rfl⟩; (first | rw [(n1).out] | rw [(n2).out] | rw [(n3).out] | skip))
    | fail)
    go_ret
    exact ⟨rfl, Grown.refl _⟩
  have g2 : 0 ≤ a1 := Int.not_lt.1 g
  clear g
  by_cases g : 16384 < a0
  · go_enter Try.func5, Try.ntmps5
    go_wp2_with (first
    | (go_at_call 9; refine (alive_any _).mono ?_; rintro e w' ⟨rfl, rfl⟩)
    | (go_at_call 14; refine (sin_any _ _ (by first | assumption | exact ⟨by omega, by omega⟩)).mono ?_; rintro e w' ⟨rfl, rfl⟩; (first | rw [(s1).out] | rw [(s2).out] | rw [(s3).out] | rw [(s4).out] | skip))
    | (go_at_call 16; refine (cos_any _ _ (by first | assumption | exact ⟨by omega, by omega⟩)).mono ?_; rintro e w' ⟨rfl, rfl⟩; (first | rw [(c1).out] | rw [(c2).out] | rw [(c3).out] | skip))
    | (go_at_call 12; refine (norm_any _ _ (by first | assumption | exact ⟨by omega, by omega⟩)).mono ?_; rintro e w' ⟨rfl, rfl⟩; (first | rw [(n1).out] | rw [(n2).out] | rw [(n3).out] | skip))
    | fail)
    go_ret
    exact ⟨rfl, Grown.refl _⟩
  have g3 : a0 ≤ 16384 := Int.not_lt.1 g
  clear g
  by_cases g : 16384 < a1
  · go_enter Try.func5, Try.ntmps5
    go_wp2_with (first
    | (go_at_call 9; refine (alive_any _).mono ?_; rintro e w' ⟨rfl, rfl⟩)
    | (go_at_call 14; refine (sin_any _ _ (by first | assumption | exact ⟨by omega, by omega⟩)).mono ?_; rintro e w' ⟨rfl, rfl⟩; (first | rw [(s1).out] | rw [(s2).out] | rw [(s3).out] | rw [(s4).out] | skip))
    | (go_at_call 16; refine (cos_any _ _ (by first | assumption | exact ⟨by omega, by omega⟩)).mono ?_; rintro e w' ⟨rfl, rfl⟩; (first | rw [(c1).out] | rw [(c2).out] | rw [(c3).out] | skip))
    | (go_at_call 12; refine (norm_any _ _ (by first | assumption | exact ⟨by omega, by omega⟩)).mono ?_; rintro e w' ⟨rfl, rfl⟩; (first | rw [(n1).out] | rw [(n2).out] | rw [(n3).out] | skip))
    | fail)
    go_ret
    exact ⟨rfl, Grown.refl _⟩
  have g4 : a1 ≤ 16384 := Int.not_lt.1 g
  clear g
  have r := sin_rises g1 g3 g2 g4
  have f : cosI (16384 - a0) = sinI a0 := sin_mirror (by omega)
  obtain ⟨x, e1⟩ : ∃ x, sinI a0 = x := ⟨_, rfl⟩
  obtain ⟨y, e2⟩ : ∃ x, sinI a1 = x := ⟨_, rfl⟩
  rw [e1] at r f; rw [e2] at r
  have s1 : Hid (_ = _) := e1; have s2 : Hid (_ = _) := e2; have c1 : Hid (_ = _) := f
  clear e1 e2 f
  go_enter Try.func5, Try.ntmps5
  go_wp2_with (first
    | (go_at_call 9; refine (alive_any _).mono ?_; rintro e w' ⟨rfl, rfl⟩)
    | (go_at_call 14; refine (sin_any _ _ (by first | assumption | exact ⟨by omega, by omega⟩)).mono ?_; rintro e w' ⟨rfl, rfl⟩; (first | rw [(s1).out] | rw [(s2).out] | rw [(s3).out] | rw [(s4).out] | skip))
    | (go_at_call 16; refine (cos_any _ _ (by first | assumption | exact ⟨by omega, by omega⟩)).mono ?_; rintro e w' ⟨rfl, rfl⟩; (first | rw [(c1).out] | rw [(c2).out] | rw [(c3).out] | skip))
    | (go_at_call 12; refine (norm_any _ _ (by first | assumption | exact ⟨by omega, by omega⟩)).mono ?_; rintro e w' ⟨rfl, rfl⟩; (first | rw [(n1).out] | rw [(n2).out] | rw [(n3).out] | skip))
    | fail)
  all_goals (go_ret; exact ⟨rfl, Grown.refl _⟩)

set_option maxRecDepth 100000 in
theorem lifted (os : Os) (started : os.Started) (H : Type) (enc : TypeId × Value → H) :
    ReturnsInHanded {} Try.checked os 5 .any (Rows.waveRisesSpec.pre6 enc Try.prog Try.f5 Rows.waveRisesRow.domain false) (Rows.waveRisesSpec.post enc Try.prog Try.f5 false true false false) := by
  refine returnsInHanded_of_change (C := Try.checked) own started (by kernel_rfl) Try.func5
    (ChangeSpec.witness6 (enc := enc) (C := Try.checked) false ⟨#[], #[.int .i64 0, .int .i64 0], []⟩ 8 (by kernel_rfl) (by kernel_rfl) (by kernel_rfl) (by kernel_rfl)) ?_
  intro W base args ds gs before hval0 hW hcnd _
  have hval : ∀ (j : Nat) t v, Try.f5.params[j]? = some t → args[j]? = some v → Value.okWide Try.prog W .any base t v := hval0
  have hW' := hW
  obtain ⟨p, q, hA0, hV, rfl, hfz, hnd⟩ := hW
  have hA : DataW.TrodAll enc Try.prog W 0 (fun _ => true) true Try.f5.params.toList args.toList ds p := hA0
  rw [Try.params5] at hA hval
  obtain ⟨v0, vs0, d0, ds0, p0, q0, hargs, rfl, rfl, h0, r0⟩ := trodAll_cons hA
  obtain ⟨v1, vs1, d1, ds1, p1, q1, rfl, rfl, rfl, h1, r1⟩ := trodAll_cons r0
  obtain ⟨rfl, rfl, rfl⟩ := trodAll_nil r1
  obtain rfl : args = #[v0, v1] := by cases args; simp_all
  obtain ⟨rfl, rfl⟩ := trodVars_none hV
  obtain ⟨a0, rfl, rfl, rfl, w0⟩ := open_int Try.underlying3 (hval 0 3 v0 rfl rfl) h0
  obtain ⟨a1, rfl, rfl, rfl, w1⟩ := open_int Try.underlying3 (hval 1 3 v1 rfl rfl) h1
  clear hA0 hval0
  simp only [List.append_nil] at hW'
  refine (walk a0 a1 w0 w1 W).mono fun e W' ⟨he, hg⟩ => ?_
  subst he
  exact ⟨_, rfl, post_of_same (pa := []) (pv := []) hW' (fun _ _ _ => (trodAll_cons_mk (shut_bool Try.underlying4 _) trodAll_mk0)) (fun sp _ => (trodAll_cons_mk (shut_int Try.underlying3 w0) (trodAll_cons_mk (shut_int Try.underlying3 w1) trodAll_mk0))) (fun _ _ => rfl) rfl
    (hg.frame _) hg.2.1 (ok_one (by kernel_rfl) rfl (okWide_bool_mk Try.underlying4 _))⟩

theorem over : Rows.waveRisesRow.holds Try.pinned (OpenSpec.ofChange Rows.waveRisesSpec) :=
  OpenClaim.holds_of_wide 5 Try.f5 rfl rfl rfl rfl rfl rfl rfl ⟨rfl, rfl, rfl, rfl, rfl⟩ rfl rfl rfl rfl rfl (by kernel_rfl) Try.func5 (by kernel_rfl)
    (of_decide_eq_true (by kernel_rfl)) (by unfold Func.isWrapper; first | (rw [if_pos (by decide +kernel)]; kernel_rfl) | (rw [if_neg (by decide +kernel)]; exact ⟨rfl, rfl⟩))
    (fun os started H enc _ => lifted os started H enc)

theorem proved : Rows.WaveRisesSaid :=
  over
end Go.Proofs.Ytflggohamonojaa.waveRises

namespace Go.Proofs.Ytflggohamonojaa
theorem waveRises_holds : Rows.WaveRisesSaid := waveRises.proved
end Go.Proofs.Ytflggohamonojaa

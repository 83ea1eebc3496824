/-
  Proved: maquettelaw4.RootScales returns true for every int64, and leaves what it was given as it was; no condition.
-/
import Derived.Test.YtklgidjogicfbaaRows
import Derived.Test.YtklgidjogicfbaaQAlive
import Derived.WalkKit
import Derived.WalkSpells
import Derived.WalkLawsBesides
import Derived.ProofKit
import Derived.OpenShut
import Derived.ShutString
namespace Go.Proofs.Ytklgidjogicfbaa.rootScales
open Go.ChangeShapes Go.WideShapes Go.ChangeAt Go.RowKit
open Go.ChangeMaps (open_string shut_string)
set_option linter.unusedVariables false

theorem own : ownKnob Try.prog.godebug = none := by kernel_rfl

/-- Of four times a number the root is twice as much, or one more. -/
theorem rt_four (m : Int) (h0 : 0 ≤ m) (h1 : 4 * m ≤ 340282366920938463463374607431768211455) : rt (4 * m) = 2 * rt m ∨ rt (4 * m) = 2 * rt m + 1 := by
  have a := rt_is (n := m) h0 (by omega)
  have b := rt_is (n := 4 * m) (by omega) h1
  generalize rt m = r at *
  generalize rt (4 * m) = s at *
  have e1 : (2 * r) * (2 * r) = 4 * (r * r) := by grind
  have e2 : (2 * r + 2) * (2 * r + 2) = 4 * ((r + 1) * (r + 1)) := by grind
  obtain ⟨a0, a1, a2⟩ := a
  obtain ⟨b0, b1, b2⟩ := b
  have l := lt_sq (a := s) (b := 2 * r + 2) (by omega) (by omega)
  have k := lt_sq (a := 2 * r) (b := s + 1) (by omega) (by omega)
  omega
theorem sq_four (a : Int) (h0 : 0 ≤ a) (h1 : a ≤ 1152921504606846976) :
    ∃ x y : Int, sqR a = (x, 0) ∧ sqR (4 * a) = (y, 0) ∧ 0 ≤ x ∧ x ≤ 281474976710656 ∧ (y = 2 * x ∨ y = 2 * x + 1) := by
  refine ⟨_, _, if_neg (by omega), if_neg (by omega), ?_, ?_, ?_⟩
  · exact (rt_is (by omega) (by omega)).1
  · exact le_sq (by decide) (by have := (rt_is (n := a * 4294967296) (by omega) (by omega)).2.1; omega)
  · rw [Int.mul_assoc]; exact rt_four _ (by omega) (by omega)
set_option maxHeartbeats 1000000 in
theorem walk (a0 : Int) (w0 : (Lit.int .i64 a0).wf = true) (w : World) :
    Calls Try.prog 8 #[.int .i64 a0] w fun e w' => e = .returned (.bool true) ∧ Grown w w' := by
  have ha : inF a0 := inF_wf w0
  clear w0
  have G := Grew.refl w
  by_cases h : a0 < 0
  · go_enter Try.func8, Try.ntmps8
    go_wp2_with (first
    | (go_at_call 9; refine (alive_any _).mono ?_; rintro e V ⟨rfl, U⟩; replace G := G.trans U; clear U)
    | (go_at_call 12; refine (sqrt_any _ _ (by first | assumption | exact ⟨by decide, by decide⟩)).mono ?_; rintro e V ⟨rfl, U⟩; (first | rw [(f1).out] | rw [(f2).out] | rw [(f3).out] | rw [(f4).out]); replace G := G.trans U; clear U)
    | (go_at_call 13; refine (len_any _ _ _ (by first | assumption | exact ⟨by decide, by decide⟩) (by first | assumption | exact ⟨by decide, by decide⟩)).mono ?_; rintro e V ⟨rfl, U⟩; (first | rw [(f1).out] | rw [(f2).out] | rw [(f3).out] | rw [(f4).out]); replace G := G.trans U; clear U)
    | (go_at_call 14; refine (int_any _ _ (by first | assumption | decide) (by first | assumption | decide)).mono ?_; rintro e V ⟨rfl, U⟩; (first | rw [(s0).out] | rw [(s1).out]); replace G := G.trans U; clear U)
    | (go_at_call 16; refine (mul64_w (by assumption) _).mono ?_; rintro e w' ⟨rfl, rfl⟩)
    | fail)
    go_ret
    exact ⟨rfl, G.grown⟩
  have h' : 0 ≤ a0 := Int.not_lt.1 h
  clear h
  by_cases g : 1152921504606846976 < a0
  · go_enter Try.func8, Try.ntmps8
    go_wp2_with (first
    | (go_at_call 9; refine (alive_any _).mono ?_; rintro e V ⟨rfl, U⟩; replace G := G.trans U; clear U)
    | (go_at_call 12; refine (sqrt_any _ _ (by first | assumption | exact ⟨by decide, by decide⟩)).mono ?_; rintro e V ⟨rfl, U⟩; (first | rw [(f1).out] | rw [(f2).out] | rw [(f3).out] | rw [(f4).out]); replace G := G.trans U; clear U)
    | (go_at_call 13; refine (len_any _ _ _ (by first | assumption | exact ⟨by decide, by decide⟩) (by first | assumption | exact ⟨by decide, by decide⟩)).mono ?_; rintro e V ⟨rfl, U⟩; (first | rw [(f1).out] | rw [(f2).out] | rw [(f3).out] | rw [(f4).out]); replace G := G.trans U; clear U)
    | (go_at_call 14; refine (int_any _ _ (by first | assumption | decide) (by first | assumption | decide)).mono ?_; rintro e V ⟨rfl, U⟩; (first | rw [(s0).out] | rw [(s1).out]); replace G := G.trans U; clear U)
    | (go_at_call 16; refine (mul64_w (by assumption) _).mono ?_; rintro e w' ⟨rfl, rfl⟩)
    | fail)
    go_ret
    exact ⟨rfl, G.grown⟩
  have g' : a0 ≤ 1152921504606846976 := Int.not_lt.1 g
  clear g
  obtain ⟨x, y, e1, e2, x0, x1, hy⟩ := sq_four a0 h' g'
  have f1 : Hid (_ = _) := e1; have f2 : Hid (_ = _) := e2; clear e1 e2
  have h4 : inF (4 * a0) := ⟨by omega, by omega⟩
  rcases hy with rfl | rfl
  · go_enter Try.func8, Try.ntmps8
    go_wp2_with (first
    | (go_at_call 9; refine (alive_any _).mono ?_; rintro e V ⟨rfl, U⟩; replace G := G.trans U; clear U)
    | (go_at_call 12; refine (sqrt_any _ _ (by first | assumption | exact ⟨by decide, by decide⟩)).mono ?_; rintro e V ⟨rfl, U⟩; (first | rw [(f1).out] | rw [(f2).out] | rw [(f3).out] | rw [(f4).out]); replace G := G.trans U; clear U)
    | (go_at_call 13; refine (len_any _ _ _ (by first | assumption | exact ⟨by decide, by decide⟩) (by first | assumption | exact ⟨by decide, by decide⟩)).mono ?_; rintro e V ⟨rfl, U⟩; (first | rw [(f1).out] | rw [(f2).out] | rw [(f3).out] | rw [(f4).out]); replace G := G.trans U; clear U)
    | (go_at_call 14; refine (int_any _ _ (by first | assumption | decide) (by first | assumption | decide)).mono ?_; rintro e V ⟨rfl, U⟩; (first | rw [(s0).out] | rw [(s1).out]); replace G := G.trans U; clear U)
    | (go_at_call 16; refine (mul64_w (by assumption) _).mono ?_; rintro e w' ⟨rfl, rfl⟩)
    | fail)
    go_ret
    exact ⟨rfl, G.grown⟩
  · go_enter Try.func8, Try.ntmps8
    go_wp2_with (first
    | (go_at_call 9; refine (alive_any _).mono ?_; rintro e V ⟨rfl, U⟩; replace G := G.trans U; clear U)
    | (go_at_call 12; refine (sqrt_any _ _ (by first | assumption | exact ⟨by decide, by decide⟩)).mono ?_; rintro e V ⟨rfl, U⟩; (first | rw [(f1).out] | rw [(f2).out] | rw [(f3).out] | rw [(f4).out]); replace G := G.trans U; clear U)
    | (go_at_call 13; refine (len_any _ _ _ (by first | assumption | exact ⟨by decide, by decide⟩) (by first | assumption | exact ⟨by decide, by decide⟩)).mono ?_; rintro e V ⟨rfl, U⟩; (first | rw [(f1).out] | rw [(f2).out] | rw [(f3).out] | rw [(f4).out]); replace G := G.trans U; clear U)
    | (go_at_call 14; refine (int_any _ _ (by first | assumption | decide) (by first | assumption | decide)).mono ?_; rintro e V ⟨rfl, U⟩; (first | rw [(s0).out] | rw [(s1).out]); replace G := G.trans U; clear U)
    | (go_at_call 16; refine (mul64_w (by assumption) _).mono ?_; rintro e w' ⟨rfl, rfl⟩)
    | fail)
    go_ret
    exact ⟨rfl, G.grown⟩

set_option maxRecDepth 100000 in
theorem lifted (os : Os) (started : os.Started) (H : Type) (enc : TypeId × Value → H) :
    ReturnsInHanded {} Try.checked os 8 .any (Rows.rootScalesSpec.pre6 enc Try.prog Try.f8 Rows.rootScalesRow.domain false) (Rows.rootScalesSpec.post enc Try.prog Try.f8 false true false false) := by
  refine returnsInHanded_of_change (C := Try.checked) own started (by kernel_rfl) Try.func8
    (ChangeSpec.witness6 (enc := enc) (C := Try.checked) false ⟨#[], #[.int .i64 0], []⟩ 8 (by kernel_rfl) (by kernel_rfl) (by kernel_rfl) (by kernel_rfl)) ?_
  intro W base args ds gs before hval0 hW hcnd _
  have hval : ∀ (j : Nat) t v, Try.f8.params[j]? = some t → args[j]? = some v → Value.okWide Try.prog W .any base t v := hval0
  have hW' := hW
  obtain ⟨p, q, hA0, hV, rfl, hfz, hnd⟩ := hW
  have hA : DataW.TrodAll enc Try.prog W 0 (fun _ => true) true Try.f8.params.toList args.toList ds p := hA0
  rw [Try.params8] at hA hval
  obtain ⟨v0, vs0, d0, ds0, p0, q0, hargs, rfl, rfl, h0, r0⟩ := trodAll_cons hA
  obtain ⟨rfl, rfl, rfl⟩ := trodAll_nil r0
  obtain rfl : args = #[v0] := by cases args; simp_all
  obtain ⟨rfl, rfl⟩ := trodVars_none hV
  obtain ⟨a0, rfl, rfl, rfl, w0⟩ := open_int Try.underlying23 (hval 0 23 v0 rfl rfl) h0
  clear hA0 hval0
  simp only [List.append_nil] at hW'
  refine (walk a0 w0 W).mono fun e W' ⟨he, hg⟩ => ?_
  subst he
  exact ⟨_, rfl, post_of_same (pa := []) (pv := []) hW' (fun _ _ _ => (trodAll_cons_mk (shut_bool Try.underlying4 _) trodAll_mk0)) (fun sp _ => (trodAll_cons_mk (shut_int Try.underlying23 w0) trodAll_mk0)) (fun _ _ => rfl) rfl
    (hg.frame _) hg.2.1 (ok_one (by kernel_rfl) rfl (okWide_bool_mk Try.underlying4 _))⟩

theorem over : Rows.rootScalesRow.holds Try.pinned (OpenSpec.ofChange Rows.rootScalesSpec) :=
  OpenClaim.holds_of_wide 8 Try.f8 rfl rfl rfl rfl rfl rfl rfl ⟨rfl, rfl, rfl, rfl, rfl⟩ rfl rfl rfl rfl rfl (by kernel_rfl) Try.func8 (by kernel_rfl)
    (of_decide_eq_true (by kernel_rfl)) (by unfold Func.isWrapper; first | (rw [if_pos (by decide +kernel)]; kernel_rfl) | (rw [if_neg (by decide +kernel)]; exact ⟨rfl, rfl⟩))
    (fun os started H enc _ => lifted os started H enc)

theorem proved : Rows.RootScalesSaid :=
  over
end Go.Proofs.Ytklgidjogicfbaa.rootScales

namespace Go.Proofs.Ytklgidjogicfbaa
theorem rootScales_holds : Rows.RootScalesSaid := rootScales.proved
end Go.Proofs.Ytklgidjogicfbaa

/-
  Proved: maquettelaw4.RootRises returns true for every two int64s and every uint64, and leaves what it was given as it was; no condition.
-/
import Derived.Test.YtklgidjogicfbaaRows
import Derived.Test.YtklgidjogicfbaaQAlive
import Derived.WalkKit
import Derived.WalkSpells
import Derived.WalkLawsBesides
import Derived.ProofKit
import Derived.OpenShut
import Derived.ShutString
namespace Go.Proofs.Ytklgidjogicfbaa.rootRises
open Go.ChangeShapes Go.WideShapes Go.ChangeAt Go.RowKit
open Go.ChangeMaps (open_string shut_string)
set_option linter.unusedVariables false

theorem own : ownKnob Try.prog.godebug = none := by kernel_rfl

theorem sq_up (a b : Int) (ha : 0 ≤ a) (hb : 0 ≤ b) (fa : inF a) (fb : inF b) : ∃ x y : Int, sqR a = (x, 0) ∧ sqR b = (y, 0) ∧ (b < a ∨ x ≤ y) := by
  unfold inF at fa fb
  refine ⟨_, _, if_neg (by omega), if_neg (by omega), ?_⟩
  by_cases h : b < a
  · exact .inl h
  · exact .inr (isR_mono (rt_is (by omega) (by omega)) (rt_is (by omega) (by omega)) (by omega))
theorem rt_side (n : Int) (h0 : 0 ≤ n) (h1 : n ≤ 4294967295) : rt (n * n) = n :=
  rt_eq ⟨h0, Int.le_refl _, sq_lt h0 (by omega)⟩ (by have := sq_le h0 h1; omega)
theorem rt_side1 (n : Int) (h0 : 1 ≤ n) (h1 : n ≤ 4294967295) : rt (n * n - 1) = n - 1 := by
  have h := sq_lt (a := n - 1) (b := n) (by omega) (by omega)
  exact rt_eq ⟨by omega, by omega, by rw [show n - 1 + 1 = n by omega]; omega⟩ (by have := sq_le (show 0 ≤ n by omega) h1; omega)
set_option maxHeartbeats 1000000 in
theorem walk (a0 : Int) (a1 : Int) (a2 : Int) (w0 : (Lit.int .i64 a0).wf = true) (w1 : (Lit.int .i64 a1).wf = true) (w2 : (Lit.int .u64 a2).wf = true) (w : World) :
    Calls Try.prog 6 #[.int .i64 a0, .int .i64 a1, .int .u64 a2] w fun e w' => e = .returned (.bool true) ∧ Grown w w' := by
  have ha : inF a0 := inF_wf w0
  have hb : inF a1 := inF_wf w1
  have hn : 0 ≤ a2 ∧ a2 ≤ 18446744073709551615 := by simp [Lit.wf, IntKind.min, IntKind.max, IntKind.signed, IntKind.bits] at w2; omega
  clear w0 w1 w2
  have G := Grew.refl w
  by_cases h : a0 < 0
  · go_enter Try.func6, Try.ntmps6
    go_wp2_with (first
    | (go_at_call 9; refine (alive_any _).mono ?_; rintro e V ⟨rfl, U⟩; replace G := G.trans U; clear U)
    | (go_at_call 12; refine (sqrt_any _ _ (by first | assumption | exact ⟨by decide, by decide⟩)).mono ?_; rintro e V ⟨rfl, U⟩; (first | rw [(f1).out] | rw [(f2).out] | rw [(f3).out] | rw [(f4).out]); replace G := G.trans U; clear U)
    | (go_at_call 13; refine (len_any _ _ _ (by first | assumption | exact ⟨by decide, by decide⟩) (by first | assumption | exact ⟨by decide, by decide⟩)).mono ?_; rintro e V ⟨rfl, U⟩; (first | rw [(f1).out] | rw [(f2).out] | rw [(f3).out] | rw [(f4).out]); replace G := G.trans U; clear U)
    | (go_at_call 14; refine (int_any _ _ (by first | assumption | decide) (by first | assumption | decide)).mono ?_; rintro e V ⟨rfl, U⟩; (first | rw [(s0).out] | rw [(s1).out]); replace G := G.trans U; clear U)
    | (go_at_call 16; refine (mul64_w (by assumption) _).mono ?_; rintro e w' ⟨rfl, rfl⟩)
    | fail)
    go_ret
    exact ⟨rfl, G.grown⟩
  have h' : 0 ≤ a0 := Int.not_lt.1 h
  clear h
  by_cases g : a1 < 0
  · go_enter Try.func6, Try.ntmps6
    go_wp2_with (first
    | (go_at_call 9; refine (alive_any _).mono ?_; rintro e V ⟨rfl, U⟩; replace G := G.trans U; clear U)
    | (go_at_call 12; refine (sqrt_any _ _ (by first | assumption | exact ⟨by decide, by decide⟩)).mono ?_; rintro e V ⟨rfl, U⟩; (first | rw [(f1).out] | rw [(f2).out] | rw [(f3).out] | rw [(f4).out]); replace G := G.trans U; clear U)
    | (go_at_call 13; refine (len_any _ _ _ (by first | assumption | exact ⟨by decide, by decide⟩) (by first | assumption | exact ⟨by decide, by decide⟩)).mono ?_; rintro e V ⟨rfl, U⟩; (first | rw [(f1).out] | rw [(f2).out] | rw [(f3).out] | rw [(f4).out]); replace G := G.trans U; clear U)
    | (go_at_call 14; refine (int_any _ _ (by first | assumption | decide) (by first | assumption | decide)).mono ?_; rintro e V ⟨rfl, U⟩; (first | rw [(s0).out] | rw [(s1).out]); replace G := G.trans U; clear U)
    | (go_at_call 16; refine (mul64_w (by assumption) _).mono ?_; rintro e w' ⟨rfl, rfl⟩)
    | fail)
    go_ret
    exact ⟨rfl, G.grown⟩
  have g' : 0 ≤ a1 := Int.not_lt.1 g
  clear g
  obtain ⟨x, y, e1, e2, f3⟩ := sq_up a0 a1 h' g' ha hb
  have f1 : Hid (_ = _) := e1; have f2 : Hid (_ = _) := e2; clear e1 e2
  have e := low_half a2 hn.1 hn.2
  obtain ⟨n, hN⟩ : ∃ n, n = a2 % 4294967296 := ⟨_, rfl⟩
  rw [← hN] at e
  have n0 : 0 ≤ n := by omega
  have n1 : n ≤ 4294967295 := by omega
  clear hN hn
  by_cases z : n = 0
  · subst z
    have s0 : Hid (rt 0 = 0) := rt_side 0 (by decide) (by decide)
    rcases f3 with f3 | f3
    · go_enter Try.func6, Try.ntmps6
      go_wp2_with (first
    | (go_at_call 9; refine (alive_any _).mono ?_; rintro e V ⟨rfl, U⟩; replace G := G.trans U; clear U)
    | (go_at_call 12; refine (sqrt_any _ _ (by first | assumption | exact ⟨by decide, by decide⟩)).mono ?_; rintro e V ⟨rfl, U⟩; (first | rw [(f1).out] | rw [(f2).out] | rw [(f3).out] | rw [(f4).out]); replace G := G.trans U; clear U)
    | (go_at_call 13; refine (len_any _ _ _ (by first | assumption | exact ⟨by decide, by decide⟩) (by first | assumption | exact ⟨by decide, by decide⟩)).mono ?_; rintro e V ⟨rfl, U⟩; (first | rw [(f1).out] | rw [(f2).out] | rw [(f3).out] | rw [(f4).out]); replace G := G.trans U; clear U)
    | (go_at_call 14; refine (int_any _ _ (by first | assumption | decide) (by first | assumption | decide)).mono ?_; rintro e V ⟨rfl, U⟩; (first | rw [(s0).out] | rw [(s1).out]); replace G := G.trans U; clear U)
    | (go_at_call 16; refine (mul64_w (by assumption) _).mono ?_; rintro e w' ⟨rfl, rfl⟩)
    | fail)
      go_ret
      exact ⟨rfl, G.grown⟩
    · go_enter Try.func6, Try.ntmps6
      go_wp2_with (first
    | (go_at_call 9; refine (alive_any _).mono ?_; rintro e V ⟨rfl, U⟩; replace G := G.trans U; clear U)
    | (go_at_call 12; refine (sqrt_any _ _ (by first | assumption | exact ⟨by decide, by decide⟩)).mono ?_; rintro e V ⟨rfl, U⟩; (first | rw [(f1).out] | rw [(f2).out] | rw [(f3).out] | rw [(f4).out]); replace G := G.trans U; clear U)
    | (go_at_call 13; refine (len_any _ _ _ (by first | assumption | exact ⟨by decide, by decide⟩) (by first | assumption | exact ⟨by decide, by decide⟩)).mono ?_; rintro e V ⟨rfl, U⟩; (first | rw [(f1).out] | rw [(f2).out] | rw [(f3).out] | rw [(f4).out]); replace G := G.trans U; clear U)
    | (go_at_call 14; refine (int_any _ _ (by first | assumption | decide) (by first | assumption | decide)).mono ?_; rintro e V ⟨rfl, U⟩; (first | rw [(s0).out] | rw [(s1).out]); replace G := G.trans U; clear U)
    | (go_at_call 16; refine (mul64_w (by assumption) _).mono ?_; rintro e w' ⟨rfl, rfl⟩)
    | fail)
      all_goals (go_ret; exact ⟨rfl, G.grown⟩)
  · have n2 : 1 ≤ n := by omega
    obtain ⟨N, hN⟩ : ∃ N, n * n = N := ⟨_, rfl⟩
    have e0 := rt_side n n0 n1
    have e1 := rt_side1 n n2 n1
    have q1 : N ≤ 18446744073709551615 := by have := sq_le n0 n1; omega
    have q2 : 1 ≤ N := by have := sq_le (show (0 : Int) ≤ 1 by decide) n2; omega
    rw [hN] at e0 e1
    have s0 : Hid (_ = _) := e0; have s1 : Hid (_ = _) := e1; clear e0 e1
    have q0 : 0 ≤ N := by omega
    have q3 : 0 ≤ N - 1 := by omega
    have q4 : N - 1 ≤ 18446744073709551615 := by omega
    have z' : (n == 0) = false := by simpa using z
    clear z
    rcases f3 with f3 | f3
    · go_enter Try.func6, Try.ntmps6
      go_wp2_with (first
    | (go_at_call 9; refine (alive_any _).mono ?_; rintro e V ⟨rfl, U⟩; replace G := G.trans U; clear U)
    | (go_at_call 12; refine (sqrt_any _ _ (by first | assumption | exact ⟨by decide, by decide⟩)).mono ?_; rintro e V ⟨rfl, U⟩; (first | rw [(f1).out] | rw [(f2).out] | rw [(f3).out] | rw [(f4).out]); replace G := G.trans U; clear U)
    | (go_at_call 13; refine (len_any _ _ _ (by first | assumption | exact ⟨by decide, by decide⟩) (by first | assumption | exact ⟨by decide, by decide⟩)).mono ?_; rintro e V ⟨rfl, U⟩; (first | rw [(f1).out] | rw [(f2).out] | rw [(f3).out] | rw [(f4).out]); replace G := G.trans U; clear U)
    | (go_at_call 14; refine (int_any _ _ (by first | assumption | decide) (by first | assumption | decide)).mono ?_; rintro e V ⟨rfl, U⟩; (first | rw [(s0).out] | rw [(s1).out]); replace G := G.trans U; clear U)
    | (go_at_call 16; refine (mul64_w (by assumption) _).mono ?_; rintro e w' ⟨rfl, rfl⟩)
    | fail)
      go_ret
      exact ⟨rfl, G.grown⟩
    · go_enter Try.func6, Try.ntmps6
      go_wp2_with (first
    | (go_at_call 9; refine (alive_any _).mono ?_; rintro e V ⟨rfl, U⟩; replace G := G.trans U; clear U)
    | (go_at_call 12; refine (sqrt_any _ _ (by first | assumption | exact ⟨by decide, by decide⟩)).mono ?_; rintro e V ⟨rfl, U⟩; (first | rw [(f1).out] | rw [(f2).out] | rw [(f3).out] | rw [(f4).out]); replace G := G.trans U; clear U)
    | (go_at_call 13; refine (len_any _ _ _ (by first | assumption | exact ⟨by decide, by decide⟩) (by first | assumption | exact ⟨by decide, by decide⟩)).mono ?_; rintro e V ⟨rfl, U⟩; (first | rw [(f1).out] | rw [(f2).out] | rw [(f3).out] | rw [(f4).out]); replace G := G.trans U; clear U)
    | (go_at_call 14; refine (int_any _ _ (by first | assumption | decide) (by first | assumption | decide)).mono ?_; rintro e V ⟨rfl, U⟩; (first | rw [(s0).out] | rw [(s1).out]); replace G := G.trans U; clear U)
    | (go_at_call 16; refine (mul64_w (by assumption) _).mono ?_; rintro e w' ⟨rfl, rfl⟩)
    | fail)
      all_goals (go_ret; exact ⟨rfl, G.grown⟩)

set_option maxRecDepth 100000 in
theorem lifted (os : Os) (started : os.Started) (H : Type) (enc : TypeId × Value → H) :
    ReturnsInHanded {} Try.checked os 6 .any (Rows.rootRisesSpec.pre6 enc Try.prog Try.f6 Rows.rootRisesRow.domain false) (Rows.rootRisesSpec.post enc Try.prog Try.f6 false true false false) := by
  refine returnsInHanded_of_change (C := Try.checked) own started (by kernel_rfl) Try.func6
    (ChangeSpec.witness6 (enc := enc) (C := Try.checked) false ⟨#[], #[.int .i64 0, .int .i64 0, .int .u64 0], []⟩ 8 (by kernel_rfl) (by kernel_rfl) (by kernel_rfl) (by kernel_rfl)) ?_
  intro W base args ds gs before hval0 hW hcnd _
  have hval : ∀ (j : Nat) t v, Try.f6.params[j]? = some t → args[j]? = some v → Value.okWide Try.prog W .any base t v := hval0
  have hW' := hW
  obtain ⟨p, q, hA0, hV, rfl, hfz, hnd⟩ := hW
  have hA : DataW.TrodAll enc Try.prog W 0 (fun _ => true) true Try.f6.params.toList args.toList ds p := hA0
  rw [Try.params6] at hA hval
  obtain ⟨v0, vs0, d0, ds0, p0, q0, hargs, rfl, rfl, h0, r0⟩ := trodAll_cons hA
  obtain ⟨v1, vs1, d1, ds1, p1, q1, rfl, rfl, rfl, h1, r1⟩ := trodAll_cons r0
  obtain ⟨v2, vs2, d2, ds2, p2, q2, rfl, rfl, rfl, h2, r2⟩ := trodAll_cons r1
  obtain ⟨rfl, rfl, rfl⟩ := trodAll_nil r2
  obtain rfl : args = #[v0, v1, v2] := by cases args; simp_all
  obtain ⟨rfl, rfl⟩ := trodVars_none hV
  obtain ⟨a0, rfl, rfl, rfl, w0⟩ := open_int Try.underlying23 (hval 0 23 v0 rfl rfl) h0
  obtain ⟨a1, rfl, rfl, rfl, w1⟩ := open_int Try.underlying23 (hval 1 23 v1 rfl rfl) h1
  obtain ⟨a2, rfl, rfl, rfl, w2⟩ := open_int Try.underlying22 (hval 2 22 v2 rfl rfl) h2
  clear hA0 hval0
  simp only [List.append_nil] at hW'
  refine (walk a0 a1 a2 w0 w1 w2 W).mono fun e W' ⟨he, hg⟩ => ?_
  subst he
  exact ⟨_, rfl, post_of_same (pa := []) (pv := []) hW' (fun _ _ _ => (trodAll_cons_mk (shut_bool Try.underlying4 _) trodAll_mk0)) (fun sp _ => (trodAll_cons_mk (shut_int Try.underlying23 w0) (trodAll_cons_mk (shut_int Try.underlying23 w1) (trodAll_cons_mk (shut_int Try.underlying22 w2) trodAll_mk0)))) (fun _ _ => rfl) rfl
    (hg.frame _) hg.2.1 (ok_one (by kernel_rfl) rfl (okWide_bool_mk Try.underlying4 _))⟩

theorem over : Rows.rootRisesRow.holds Try.pinned (OpenSpec.ofChange Rows.rootRisesSpec) :=
  OpenClaim.holds_of_wide 6 Try.f6 rfl rfl rfl rfl rfl rfl rfl ⟨rfl, rfl, rfl, rfl, rfl⟩ rfl rfl rfl rfl rfl (by kernel_rfl) Try.func6 (by kernel_rfl)
    (of_decide_eq_true (by kernel_rfl)) (by unfold Func.isWrapper; first | (rw [if_pos (by decide +kernel)]; kernel_rfl) | (rw [if_neg (by decide +kernel)]; exact ⟨rfl, rfl⟩))
    (fun os started H enc _ => lifted os started H enc)

theorem proved : Rows.RootRisesSaid :=
  over
end Go.Proofs.Ytklgidjogicfbaa.rootRises

namespace Go.Proofs.Ytklgidjogicfbaa
theorem rootRises_holds : Rows.RootRisesSaid := rootRises.proved
end Go.Proofs.Ytklgidjogicfbaa

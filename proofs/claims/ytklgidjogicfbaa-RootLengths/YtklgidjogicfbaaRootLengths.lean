/-
  Proved: maquettelaw4.RootLengths returns true for every two int64s, and leaves what it was given as it was; no condition.
-/
import Derived.Test.YtklgidjogicfbaaRows
import Derived.Test.YtklgidjogicfbaaQAlive
import Derived.WalkKit
import Derived.WalkSpells
import Derived.WalkLawsBesides
import Derived.ProofKit
import Derived.OpenShut
import Derived.ShutString
namespace Go.Proofs.Ytklgidjogicfbaa.rootLengths
open Go.ChangeShapes Go.WideShapes Go.ChangeAt Go.RowKit
open Go.ChangeMaps (open_string shut_string)
set_option linter.unusedVariables false

theorem own : ownKnob Try.prog.godebug = none := by kernel_rfl

/-- What Len answers, both ways. -/
theorem len_both (x y : Int) (hx : inF x) (hy : inF y) :
    ∃ r c : Int, lenR x y = (r, c) ∧ lenR y (-x) = (r, c) ∧ ((r = 0 ∧ c = 3) ∨ (c = 0 ∧ ab x ≤ r ∧ ab y ≤ r ∧ r ≤ ab x + ab y ∧ r ≤ 9223372036854775807)) := by
  obtain ⟨s0, s1⟩ := inF_sum hx hy
  have e : y * y + (-x) * (-x) = x * x + y * y := by grind
  have h := rt_is s0 s1
  unfold lenR
  rw [e]
  generalize rt (x * x + y * y) = r at *
  obtain ⟨a, b, c⟩ := h
  by_cases g : r < 9223372036854775808
  · rw [if_pos g]
    refine ⟨_, _, rfl, rfl, .inr ⟨rfl, ?_⟩⟩
    have x0 := ab_nonneg x; have y0 := ab_nonneg y
    rw [← ab_sq x, ← ab_sq y] at b c
    generalize ab x = X at *
    generalize ab y = Y at *
    have p := Int.mul_nonneg x0 x0; have q := Int.mul_nonneg y0 y0; have t := Int.mul_nonneg x0 y0
    have e2 : (X + Y) * (X + Y) = X * X + Y * Y + 2 * (X * Y) := by grind
    have u1 := lt_sq (a := X) (b := r + 1) (by omega) (by omega)
    have u2 := lt_sq (a := Y) (b := r + 1) (by omega) (by omega)
    have u3 := le_sq (a := r) (b := X + Y) (by omega) (by omega)
    omega
  · rw [if_neg g]
    exact ⟨_, _, rfl, rfl, .inl ⟨rfl, rfl⟩⟩
theorem max_neg (x : Int) : max x (-x) = ab x := by
  rcases ab_of x with ⟨h, e⟩ | ⟨h, e⟩ <;> rw [e]
  · exact Int.max_eq_right (by omega)
  · exact Int.max_eq_left (by omega)
set_option maxHeartbeats 1000000 in
theorem walk (a0 : Int) (a1 : Int) (w0 : (Lit.int .i64 a0).wf = true) (w1 : (Lit.int .i64 a1).wf = true) (w : World) :
    Calls Try.prog 5 #[.int .i64 a0, .int .i64 a1] w fun e w' => e = .returned (.bool true) ∧ Grown w w' := by
  have hx : inF a0 := inF_wf w0
  have hy : inF a1 := inF_wf w1
  clear w0 w1
  have G := Grew.refl w
  by_cases h : a0 = -9223372036854775808
  · subst h
    go_enter Try.func5, Try.ntmps5
    go_wp2_with (first
    | (go_at_call 9; refine (alive_any _).mono ?_; rintro e V ⟨rfl, U⟩; replace G := G.trans U; clear U)
    | (go_at_call 12; refine (sqrt_any _ _ (by first | assumption | exact ⟨by decide, by decide⟩)).mono ?_; rintro e V ⟨rfl, U⟩; (first | rw [(f1).out] | rw [(f2).out] | rw [(f3).out] | rw [(f4).out]); replace G := G.trans U; clear U)
    | (go_at_call 13; refine (len_any _ _ _ (by first | assumption | exact ⟨by decide, by decide⟩) (by first | assumption | exact ⟨by decide, by decide⟩)).mono ?_; rintro e V ⟨rfl, U⟩; (first | rw [(f1).out] | rw [(f2).out] | rw [(f3).out] | rw [(f4).out]); replace G := G.trans U; clear U)
    | (go_at_call 14; refine (int_any _ _ (by first | assumption | decide) (by first | assumption | decide)).mono ?_; rintro e V ⟨rfl, U⟩; (first | rw [(s0).out] | rw [(s1).out]); replace G := G.trans U; clear U)
    | (go_at_call 16; refine (mul64_w (by assumption) _).mono ?_; rintro e w' ⟨rfl, rfl⟩)
    | fail)
    go_ret
    exact ⟨rfl, G.grown⟩
  have h' : (a0 == -9223372036854775808) = false := by simpa using h
  by_cases g : a1 = -9223372036854775808
  · subst g
    clear h
    go_enter Try.func5, Try.ntmps5
    go_wp2_with (first
    | (go_at_call 9; refine (alive_any _).mono ?_; rintro e V ⟨rfl, U⟩; replace G := G.trans U; clear U)
    | (go_at_call 12; refine (sqrt_any _ _ (by first | assumption | exact ⟨by decide, by decide⟩)).mono ?_; rintro e V ⟨rfl, U⟩; (first | rw [(f1).out] | rw [(f2).out] | rw [(f3).out] | rw [(f4).out]); replace G := G.trans U; clear U)
    | (go_at_call 13; refine (len_any _ _ _ (by first | assumption | exact ⟨by decide, by decide⟩) (by first | assumption | exact ⟨by decide, by decide⟩)).mono ?_; rintro e V ⟨rfl, U⟩; (first | rw [(f1).out] | rw [(f2).out] | rw [(f3).out] | rw [(f4).out]); replace G := G.trans U; clear U)
    | (go_at_call 14; refine (int_any _ _ (by first | assumption | decide) (by first | assumption | decide)).mono ?_; rintro e V ⟨rfl, U⟩; (first | rw [(s0).out] | rw [(s1).out]); replace G := G.trans U; clear U)
    | (go_at_call 16; refine (mul64_w (by assumption) _).mono ?_; rintro e w' ⟨rfl, rfl⟩)
    | fail)
    go_ret
    exact ⟨rfl, G.grown⟩
  have g' : (a1 == -9223372036854775808) = false := by simpa using g
  obtain ⟨r, c, e1, e2, k⟩ := len_both a0 a1 hx hy
  have m1 := max_neg a0
  have m2 := max_neg a1
  have p0 := ab_nonneg a0; have q0 := ab_nonneg a1
  have hx1 := hx.1; have hx2 := hx.2; have hy1 := hy.1; have hy2 := hy.2
  have p1 : ab a0 ≤ 9223372036854775807 := by have := ab_of a0; omega
  have q1 : ab a1 ≤ 9223372036854775807 := by have := ab_of a1; omega
  have hx3 : -9223372036854775807 ≤ a0 := by omega
  have hy3 : -9223372036854775807 ≤ a1 := by omega
  have hn : inF (-a0) := ⟨by omega, by omega⟩
  generalize ab a0 = M at *
  generalize ab a1 = N at *
  have f1 : Hid (_ = _) := e1; have f2 : Hid (_ = _) := e2
  clear e1 e2 h g
  rcases k with ⟨rfl, rfl⟩ | ⟨rfl, k1, k2, k3, k4⟩
  all_goals
    go_enter Try.func5, Try.ntmps5
    go_wp2_with (first
    | (go_at_call 9; refine (alive_any _).mono ?_; rintro e V ⟨rfl, U⟩; replace G := G.trans U; clear U)
    | (go_at_call 12; refine (sqrt_any _ _ (by first | assumption | exact ⟨by decide, by decide⟩)).mono ?_; rintro e V ⟨rfl, U⟩; (first | rw [(f1).out] | rw [(f2).out] | rw [(f3).out] | rw [(f4).out]); replace G := G.trans U; clear U)
    | (go_at_call 13; refine (len_any _ _ _ (by first | assumption | exact ⟨by decide, by decide⟩) (by first | assumption | exact ⟨by decide, by decide⟩)).mono ?_; rintro e V ⟨rfl, U⟩; (first | rw [(f1).out] | rw [(f2).out] | rw [(f3).out] | rw [(f4).out]); replace G := G.trans U; clear U)
    | (go_at_call 14; refine (int_any _ _ (by first | assumption | decide) (by first | assumption | decide)).mono ?_; rintro e V ⟨rfl, U⟩; (first | rw [(s0).out] | rw [(s1).out]); replace G := G.trans U; clear U)
    | (go_at_call 16; refine (mul64_w (by assumption) _).mono ?_; rintro e w' ⟨rfl, rfl⟩)
    | fail)
    go_ret
    exact ⟨rfl, G.grown⟩

set_option maxRecDepth 100000 in
theorem lifted (os : Os) (started : os.Started) (H : Type) (enc : TypeId × Value → H) :
    ReturnsInHanded {} Try.checked os 5 .any (Rows.rootLengthsSpec.pre6 enc Try.prog Try.f5 Rows.rootLengthsRow.domain false) (Rows.rootLengthsSpec.post enc Try.prog Try.f5 false true false false) := by
  refine returnsInHanded_of_change (C := Try.checked) own started (by kernel_rfl) Try.func5
    (ChangeSpec.witness6 (enc := enc) (C := Try.checked) false ⟨#[], #[.int .i64 0, .int .i64 0], []⟩ 8 (by kernel_rfl) (by kernel_rfl) (by kernel_rfl) (by kernel_rfl)) ?_
  intro W base args ds gs before hval0 hW hcnd _
  have hval : ∀ (j : Nat) t v, Try.f5.params[j]? = some t → args[j]? = some v → Value.okWide Try.prog W .any base t v := hval0
  have hW' := hW
  obtain ⟨p, q, hA0, hV, rfl, hfz, hnd⟩ := hW
  have hA : DataW.TrodAll enc Try.prog W 0 (fun _ => true) true Try.f5.params.toList args.toList ds p := hA0
  rw [Try.params5] at hA hval
  obtain ⟨v0, vs0, d0, ds0, p0, q0, hargs, rfl, rfl, h0, r0⟩ := trodAll_cons hA
  obtain ⟨v1, vs1, d1, ds1, p1, q1, rfl, rfl, rfl, h1, r1⟩ := trodAll_cons r0
  obtain ⟨rfl, rfl, rfl⟩ := trodAll_nil r1
  obtain rfl : args = #[v0, v1] := by cases args; simp_all
  obtain ⟨rfl, rfl⟩ := trodVars_none hV
  obtain ⟨a0, rfl, rfl, rfl, w0⟩ := open_int Try.underlying23 (hval 0 23 v0 rfl rfl) h0
  obtain ⟨a1, rfl, rfl, rfl, w1⟩ := open_int Try.underlying23 (hval 1 23 v1 rfl rfl) h1
  clear hA0 hval0
  simp only [List.append_nil] at hW'
  refine (walk a0 a1 w0 w1 W).mono fun e W' ⟨he, hg⟩ => ?_
  subst he
  exact ⟨_, rfl, post_of_same (pa := []) (pv := []) hW' (fun _ _ _ => (trodAll_cons_mk (shut_bool Try.underlying4 _) trodAll_mk0)) (fun sp _ => (trodAll_cons_mk (shut_int Try.underlying23 w0) (trodAll_cons_mk (shut_int Try.underlying23 w1) trodAll_mk0))) (fun _ _ => rfl) rfl
    (hg.frame _) hg.2.1 (ok_one (by kernel_rfl) rfl (okWide_bool_mk Try.underlying4 _))⟩

theorem over : Rows.rootLengthsRow.holds Try.pinned (OpenSpec.ofChange Rows.rootLengthsSpec) :=
  OpenClaim.holds_of_wide 5 Try.f5 rfl rfl rfl rfl rfl rfl rfl ⟨rfl, rfl, rfl, rfl, rfl⟩ rfl rfl rfl rfl rfl (by kernel_rfl) Try.func5 (by kernel_rfl)
    (of_decide_eq_true (by kernel_rfl)) (by unfold Func.isWrapper; first | (rw [if_pos (by decide +kernel)]; kernel_rfl) | (rw [if_neg (by decide +kernel)]; exact ⟨rfl, rfl⟩))
    (fun os started H enc _ => lifted os started H enc)

theorem proved : Rows.RootLengthsSaid :=
  over
end Go.Proofs.Ytklgidjogicfbaa.rootLengths

namespace Go.Proofs.Ytklgidjogicfbaa
theorem rootLengths_holds : Rows.RootLengthsSaid := rootLengths.proved
end Go.Proofs.Ytklgidjogicfbaa

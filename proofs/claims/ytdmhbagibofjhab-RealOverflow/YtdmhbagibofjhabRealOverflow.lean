/-
  Proved: maquettelaw2.RealOverflow returns true for every int, and leaves what it was given as it was; no condition.
-/
import Derived.Test.YtdmhbagibofjhabRows
import Derived.Test.YtdmhbagibofjhabRArith
import Derived.WalkKit
import Derived.WalkSpells
import Derived.WalkLawsBesides
import Derived.ProofKit
import Derived.OpenShut
import Derived.ShutString
namespace Go.Proofs.Ytdmhbagibofjhab.realOverflow
open Go.ChangeShapes Go.WideShapes Go.ChangeAt Go.RowKit
open Go.ChangeMaps (open_string shut_string)
set_option linter.unusedVariables false

theorem own : ownKnob Try.prog.godebug = none := by kernel_rfl

theorem overs (K : Ks) (n : Int) (h0 : 0 ≤ n) (h1 : n ≤ 1000) : ∃ W, Ieee.double.add 4746794007248502784 (floatOfInt .f64 n) = some W ∧ W < 18446744073709551616 ∧ gR K W = (0, 3) := by
  have hv : V 4746794007248502784 = 2147483648 * 2 ^ K.u := V_up 4503599627370496 1053 _ _ 21 _ (by decide) (by decide) (by decide) (by decide) (by have := K.u_eq; omega)
  obtain ⟨i1, i2⟩ := int_float (K := K) n (by omega)
  have sx : sV 4746794007248502784 = (2147483648 : Int) * ((2 ^ K.u : Nat) : Int) := by
    rw [sV_pos (r := 4746794007248502784) (by decide) (by decide), hv, Int.natCast_mul]; rfl
  obtain ⟨r, r1, r2, r3⟩ := add_k K.u (by have := K.u_eq; omega) 4746794007248502784 (floatOfInt .f64 n) 2147483648 n (by decide) i1 sx i2 (by omega) (by omega)
  refine ⟨_, r3, lt_wd _ r2, ?_⟩
  rw [gR_wd _ r2, gN_exact (N := (2147483648 + n).natAbs * 2 ^ 32) (by rw [r1, uE_gE, Nat.mul_comm (2 ^ K.g), ← Nat.mul_assoc])]
  have e : (2 : Nat) ^ 32 = 4294967296 := by decide
  rw [e]
  rcases sgR_cases (decide (2147483648 + n < 0)) (((2147483648 + n).natAbs * 4294967296 : Nat) : Int) with ⟨b1, b2, b3⟩ | ⟨b1, b2, b3⟩ | ⟨b1, b2, b3⟩
  · simp at b1; omega
  · omega
  · exact b3
theorem unders (K : Ks) (n : Int) (h0 : 0 ≤ n) (h1 : n ≤ 1000) : ∃ W, Ieee.double.sub 13970166044105375744 (floatOfInt .f64 n) = some W ∧ W < 18446744073709551616 ∧ gR K W = (0, 3) := by
  have hv : V 4746794007250599936 = 2147483649 * 2 ^ K.u := V_up 4503599629467648 1053 _ _ 21 _ (by decide) (by decide) (by decide) (by decide) (by have := K.u_eq; omega)
  obtain ⟨i1, i2⟩ := int_float (K := K) n (by omega)
  have sx : sV 13970166044105375744 = (-2147483649 : Int) * ((2 ^ K.u : Nat) : Int) := by
    rw [sV_neg (r := 4746794007250599936) (by decide) (by decide), hv, Int.natCast_mul, ← Int.neg_mul]; rfl
  obtain ⟨r, s, r1, r2, r3, r4⟩ := sub_k K.u (by have := K.u_eq; omega) 13970166044105375744 (floatOfInt .f64 n) (-2147483649) n (by decide) i1 sx i2 (by omega)
  have hs := r4 (by omega)
  subst hs
  refine ⟨_, r3, lt_wd _ r2, ?_⟩
  rw [gR_wd _ r2, gN_exact (N := (-2147483649 - n).natAbs * 2 ^ 32) (by rw [r1, uE_gE, Nat.mul_comm (2 ^ K.g), ← Nat.mul_assoc])]
  have e : (2 : Nat) ^ 32 = 4294967296 := by decide
  rw [e]
  rcases sgR_cases (decide (-2147483649 - n < 0)) (((-2147483649 - n).natAbs * 4294967296 : Nat) : Int) with ⟨b1, b2, b3⟩ | ⟨b1, b2, b3⟩ | ⟨b1, b2, b3⟩
  · omega
  · simp at b1; omega
  · exact b3
theorem least (K : Ks) : gR K 13970166044103278592 = (-9223372036854775808, 0) := by
  have hv : V 4746794007248502784 = 9223372036854775808 * 2 ^ K.g := V_down 4503599627370496 1053 _ _ 11 _ (by decide) (by decide) (by decide) (by decide) (by have := K.hg; omega)
  have e : (13970166044103278592 : Nat) = wd true 4746794007248502784 := by decide
  rw [e, gR_wd _ (by decide), gN_exact hv]
  decide
theorem most (K : Ks) : gR K 4746794007246405632 = (9223372034707292160, 0) := by
  have hv : V 4746794007246405632 = 9223372034707292160 * 2 ^ K.g := V_down 9007199252643840 1052 _ _ 10 _ (by decide) (by decide) (by decide) (by decide) (by have := K.hg; omega)
  have e : (4746794007246405632 : Nat) = wd false 4746794007246405632 := by decide
  rw [e, gR_wd _ (by decide), gN_exact hv]
  decide
theorem walk (a0 : Int) (w0 : (Lit.int .i64 a0).wf = true) (w : World) :
    Calls Try.prog 3 #[.int .i64 a0] w fun e w' => e = .returned (.bool true) ∧ Grown w w' := by
  obtain ⟨K⟩ : Nonempty Ks := ⟨⟨1042, 1074, rfl, rfl⟩⟩
  have p3 := True.intro
  have q3 := True.intro
  by_cases h0 : a0 < 0
  · go_enter Try.func3, Try.ntmps3
    go_wp2_with (first
    | (go_at_call 9; refine (alive_any _).mono ?_; rintro e w' ⟨rfl, rfl⟩)
    | (go_at_call 19; refine (put_at _ _ (by first | exact p3 | exact q3) _).mono ?_; rintro e w' ⟨rfl, rfl⟩)
    | (go_at_call 10; refine (get_any (K := K) _ (by first | assumption | decide) _).mono ?_; rintro e w' ⟨rfl, rfl⟩)
    | (go_at_call 18; refine (class_any _ (by first | assumption | decide) _).mono ?_; rintro e w' ⟨rfl, rfl⟩)
    | (go_at_call 20; refine (isNaN_any _ _).mono ?_; rintro e w' ⟨rfl, rfl⟩)
    | (go_at_call 21; refine (isAny_any _ _ (by decide) (by first | assumption | decide) _).mono ?_; rintro e w' ⟨rfl, rfl⟩)
    | (go_at_call 29; refine (abs_any _ (by first | assumption | decide) _).mono ?_; rintro e w' ⟨rfl, rfl⟩)
    | fail)
    all_goals (go_ret; exact ⟨rfl, Grown.refl _⟩)
  by_cases h1 : 1000 < a0
  · go_enter Try.func3, Try.ntmps3
    go_wp2_with (first
    | (go_at_call 9; refine (alive_any _).mono ?_; rintro e w' ⟨rfl, rfl⟩)
    | (go_at_call 19; refine (put_at _ _ (by first | exact p3 | exact q3) _).mono ?_; rintro e w' ⟨rfl, rfl⟩)
    | (go_at_call 10; refine (get_any (K := K) _ (by first | assumption | decide) _).mono ?_; rintro e w' ⟨rfl, rfl⟩)
    | (go_at_call 18; refine (class_any _ (by first | assumption | decide) _).mono ?_; rintro e w' ⟨rfl, rfl⟩)
    | (go_at_call 20; refine (isNaN_any _ _).mono ?_; rintro e w' ⟨rfl, rfl⟩)
    | (go_at_call 21; refine (isAny_any _ _ (by decide) (by first | assumption | decide) _).mono ?_; rintro e w' ⟨rfl, rfl⟩)
    | (go_at_call 29; refine (abs_any _ (by first | assumption | decide) _).mono ?_; rintro e w' ⟨rfl, rfl⟩)
    | fail)
    all_goals (go_ret; exact ⟨rfl, Grown.refl _⟩)
  obtain ⟨W, e1, e2, e3⟩ := overs K a0 (by omega) (by omega)
  obtain ⟨Z, f1, f2, f3⟩ := unders K a0 (by omega) (by omega)
  have m1 : ∀ t w, (binOp .add t (.float .f64 4746794007248502784) (.float .f64 (floatOfInt .f64 a0))).run Try.prog w = .ok (.float .f64 W) w := fun t w => run_float_arith w .add t .f64 _ _ _ e1
  have m2 : ∀ t w, (binOp .sub t (.float .f64 13970166044105375744) (.float .f64 (floatOfInt .f64 a0))).run Try.prog w = .ok (.float .f64 Z) w := fun t w => run_float_arith w .sub t .f64 _ _ _ f1
  have c1 := least K
  have c2 := most K
  clear e1 f1
  go_enter Try.func3, Try.ntmps3
  go_wp2_with (first
    | (go_at_call 9; refine (alive_any _).mono ?_; rintro e w' ⟨rfl, rfl⟩)
    | (go_at_call 19; refine (put_at _ _ (by first | exact p3 | exact q3) _).mono ?_; rintro e w' ⟨rfl, rfl⟩)
    | (go_at_call 10; refine (get_any (K := K) _ (by first | assumption | decide) _).mono ?_; rintro e w' ⟨rfl, rfl⟩)
    | (go_at_call 18; refine (class_any _ (by first | assumption | decide) _).mono ?_; rintro e w' ⟨rfl, rfl⟩)
    | (go_at_call 20; refine (isNaN_any _ _).mono ?_; rintro e w' ⟨rfl, rfl⟩)
    | (go_at_call 21; refine (isAny_any _ _ (by decide) (by first | assumption | decide) _).mono ?_; rintro e w' ⟨rfl, rfl⟩)
    | (go_at_call 29; refine (abs_any _ (by first | assumption | decide) _).mono ?_; rintro e w' ⟨rfl, rfl⟩)
    | fail)
  all_goals (go_ret; exact ⟨rfl, Grown.refl _⟩)

set_option maxRecDepth 100000 in
theorem lifted (os : Os) (started : os.Started) (H : Type) (enc : TypeId × Value → H) :
    ReturnsInHanded {} Try.checked os 3 .any (Rows.realOverflowSpec.pre6 enc Try.prog Try.f3 Rows.realOverflowRow.domain false) (Rows.realOverflowSpec.post enc Try.prog Try.f3 false true false false) := by
  refine returnsInHanded_of_change (C := Try.checked) own started (by kernel_rfl) Try.func3
    (ChangeSpec.witness6 (enc := enc) (C := Try.checked) false ⟨#[], #[.int .i64 0], []⟩ 8 (by kernel_rfl) (by kernel_rfl) (by kernel_rfl) (by kernel_rfl)) ?_
  intro W base args ds gs before hval0 hW hcnd _
  have hval : ∀ (j : Nat) t v, Try.f3.params[j]? = some t → args[j]? = some v → Value.okWide Try.prog W .any base t v := hval0
  have hW' := hW
  obtain ⟨p, q, hA0, hV, rfl, hfz, hnd⟩ := hW
  have hA : DataW.TrodAll enc Try.prog W 0 (fun _ => true) true Try.f3.params.toList args.toList ds p := hA0
  rw [Try.params3] at hA hval
  obtain ⟨v0, vs0, d0, ds0, p0, q0, hargs, rfl, rfl, h0, r0⟩ := trodAll_cons hA
  obtain ⟨rfl, rfl, rfl⟩ := trodAll_nil r0
  obtain rfl : args = #[v0] := by cases args; simp_all
  obtain ⟨rfl, rfl⟩ := trodVars_none hV
  obtain ⟨a0, rfl, rfl, rfl, w0⟩ := open_int Try.underlying3 (hval 0 3 v0 rfl rfl) h0
  clear hA0 hval0
  simp only [List.append_nil] at hW'
  refine (walk a0 w0 W).mono fun e W' ⟨he, hg⟩ => ?_
  subst he
  exact ⟨_, rfl, post_of_same (pa := []) (pv := []) hW' (fun _ _ _ => (trodAll_cons_mk (shut_bool Try.underlying4 _) trodAll_mk0)) (fun sp _ => (trodAll_cons_mk (shut_int Try.underlying3 w0) trodAll_mk0)) (fun _ _ => rfl) rfl
    (hg.frame _) hg.2.1 (ok_one (by kernel_rfl) rfl (okWide_bool_mk Try.underlying4 _))⟩

theorem over : Rows.realOverflowRow.holds Try.pinned (OpenSpec.ofChange Rows.realOverflowSpec) :=
  OpenClaim.holds_of_wide 3 Try.f3 rfl rfl rfl rfl rfl rfl rfl ⟨rfl, rfl, rfl, rfl, rfl⟩ rfl rfl rfl rfl rfl (by kernel_rfl) Try.func3 (by kernel_rfl)
    (of_decide_eq_true (by kernel_rfl)) (by unfold Func.isWrapper; first | (rw [if_pos (by decide +kernel)]; kernel_rfl) | (rw [if_neg (by decide +kernel)]; exact ⟨rfl, rfl⟩))
    (fun os started H enc _ => lifted os started H enc)

theorem proved : Rows.RealOverflowSaid :=
  over
end Go.Proofs.Ytdmhbagibofjhab.realOverflow

namespace Go.Proofs.Ytdmhbagibofjhab
theorem realOverflow_holds : Rows.RealOverflowSaid := realOverflow.proved
end Go.Proofs.Ytdmhbagibofjhab

/-
  Proved: maquettelaw2.RealTies returns true for every int, and leaves what it was given as it was; no condition.
-/
import Derived.Test.YtdmhbagibofjhabRows
import Derived.Test.YtdmhbagibofjhabRArith
import Derived.WalkKit
import Derived.WalkSpells
import Derived.WalkLawsBesides
import Derived.ProofKit
import Derived.OpenShut
import Derived.ShutString
namespace Go.Proofs.Ytdmhbagibofjhab.realTies
open Go.ChangeShapes Go.WideShapes Go.ChangeAt Go.RowKit
open Go.ChangeMaps (open_string shut_string)
set_option linter.unusedVariables false

theorem own : ownKnob Try.prog.godebug = none := by kernel_rfl

theorem rne_two (m : Nat) (h : m % 2 = 1) : rne m 2 = m / 2 + m / 2 % 2 := by
  unfold rne
  by_cases g : m / 2 % 2 = 1
  · rw [if_pos (by omega)]; omega
  · rw [if_neg (by omega)]; omega
theorem tie (K : Ks) (n : Int) (h0 : -1073741824 ≤ n) (h1 : n ≤ 1073741824) : ∃ W Z, Ieee.double.add (floatOfInt .f64 n) 4602678819172646912 = some W ∧ Ieee.double.div W 4751297606875873280 = some Z ∧ Z < 18446744073709551616 ∧ gR K Z = (n + n % 2, 0) := by
  have hu := K.u_eq
  have hg := K.hg
  obtain ⟨k, hk⟩ : ∃ k, K.u = k + 1 := ⟨K.u - 1, by omega⟩
  obtain ⟨j, hj⟩ : ∃ j, K.g = j + 1 := ⟨K.g - 1, by omega⟩
  have hkj : k = j + 32 := by have := K.hu; omega
  have hv : V 4602678819172646912 = 1 * 2 ^ k := V_up 4503599627370496 1021 _ _ 52 _ (by decide) (by decide) (by decide) (by decide) (by omega)
  obtain ⟨i1, i2⟩ := int_float (K := K) n (by omega)
  have sx : sV (floatOfInt .f64 n) = (2 * n) * ((2 ^ k : Nat) : Int) := by
    rw [i2, hk, Nat.pow_succ, Int.natCast_mul, ← Int.mul_assoc, Int.mul_right_comm, Int.mul_comm n]; rfl
  have sy : sV 4602678819172646912 = (1 : Int) * ((2 ^ k : Nat) : Int) := by
    rw [sV_pos (r := 4602678819172646912) (by decide) (by decide), hv, Int.natCast_mul]; rfl
  obtain ⟨r, r1, r2, r3⟩ := add_k k (by omega) (floatOfInt .f64 n) 4602678819172646912 (2 * n) 1 i1 (by decide) sx sy (by omega) (by omega)
  obtain ⟨q, hq⟩ := rep (2 * n + 1).natAbs j (by omega)
  have hi := lt_inf hq (by omega) (by omega)
  have hl := infR_lt
  have hd := div_unit (wd (decide (2 * n + 1 < 0)) r) (inf_wd _ r2) q (by rw [rg_wd _ (by omega), r1, hq, hkj, Nat.pow_add, Nat.mul_assoc])
  rw [sg_wd _ (by omega), Nat.min_eq_left (Nat.le_of_lt hi)] at hd
  refine ⟨_, _, r3, hd, lt_wd _ hi, ?_⟩
  rw [gR_wd _ hi]
  have hN : gN K q = rne (2 * n + 1).natAbs 2 := by
    unfold gN
    rw [hq, hj, Nat.pow_succ, Nat.mul_comm (2 ^ j) 2, rne_mul _ _ _ (p_pos _)]
  rw [hN, rne_two _ (by omega)]
  clear hN hd hq hi r1 r2 r3 sx sy i1 i2 hv hk hj hkj hu hg hl
  rcases sgR_cases (decide (2 * n + 1 < 0)) (((2 * n + 1).natAbs / 2 + (2 * n + 1).natAbs / 2 % 2 : Nat) : Int) with ⟨b1, b2, b3⟩ | ⟨b1, b2, b3⟩ | ⟨b1, b2, b3⟩
  · rw [b3]; simp at b1; congr 1; omega
  · rw [b3]; simp at b1; congr 1; omega
  · omega
theorem walk (a0 : Int) (w0 : (Lit.int .i64 a0).wf = true) (w : World) :
    Calls Try.prog 4 #[.int .i64 a0] w fun e w' => e = .returned (.bool true) ∧ Grown w w' := by
  obtain ⟨K⟩ : Nonempty Ks := ⟨⟨1042, 1074, rfl, rfl⟩⟩
  have p3 := True.intro
  have q3 := True.intro
  by_cases h0 : a0 < -1073741824
  · go_enter Try.func4, Try.ntmps4
    go_wp2_with (first
    | (go_at_call 9; refine (alive_any _).mono ?_; rintro e w' ⟨rfl, rfl⟩)
    | (go_at_call 19; refine (put_at _ _ (by first | exact p3 | exact q3) _).mono ?_; rintro e w' ⟨rfl, rfl⟩)
    | (go_at_call 10; refine (get_any (K := K) _ (by first | assumption | decide) _).mono ?_; rintro e w' ⟨rfl, rfl⟩)
    | (go_at_call 18; refine (class_any _ (by first | assumption | decide) _).mono ?_; rintro e w' ⟨rfl, rfl⟩)
    | (go_at_call 20; refine (isNaN_any _ _).mono ?_; rintro e w' ⟨rfl, rfl⟩)
    | (go_at_call 21; refine (isAny_any _ _ (by decide) (by first | assumption | decide) _).mono ?_; rintro e w' ⟨rfl, rfl⟩)
    | (go_at_call 29; refine (abs_any _ (by first | assumption | decide) _).mono ?_; rintro e w' ⟨rfl, rfl⟩)
    | fail)
    all_goals (go_ret; exact ⟨rfl, Grown.refl _⟩)
  by_cases h1 : 1073741824 < a0
  · go_enter Try.func4, Try.ntmps4
    go_wp2_with (first
    | (go_at_call 9; refine (alive_any _).mono ?_; rintro e w' ⟨rfl, rfl⟩)
    | (go_at_call 19; refine (put_at _ _ (by first | exact p3 | exact q3) _).mono ?_; rintro e w' ⟨rfl, rfl⟩)
    | (go_at_call 10; refine (get_any (K := K) _ (by first | assumption | decide) _).mono ?_; rintro e w' ⟨rfl, rfl⟩)
    | (go_at_call 18; refine (class_any _ (by first | assumption | decide) _).mono ?_; rintro e w' ⟨rfl, rfl⟩)
    | (go_at_call 20; refine (isNaN_any _ _).mono ?_; rintro e w' ⟨rfl, rfl⟩)
    | (go_at_call 21; refine (isAny_any _ _ (by decide) (by first | assumption | decide) _).mono ?_; rintro e w' ⟨rfl, rfl⟩)
    | (go_at_call 29; refine (abs_any _ (by first | assumption | decide) _).mono ?_; rintro e w' ⟨rfl, rfl⟩)
    | fail)
    all_goals (go_ret; exact ⟨rfl, Grown.refl _⟩)
  obtain ⟨W, Z, e1, e2, e3, e4⟩ := tie K a0 (by omega) (by omega)
  have m1 : ∀ t w, (binOp .add t (.float .f64 (floatOfInt .f64 a0)) (.float .f64 4602678819172646912)).run Try.prog w = .ok (.float .f64 W) w := fun t w => run_float_arith w .add t .f64 _ _ _ e1
  have m2 : ∀ t w, (binOp .quo t (.float .f64 W) (.float .f64 4751297606875873280)).run Try.prog w = .ok (.float .f64 Z) w := fun t w => run_float_arith w .quo t .f64 _ _ _ e2
  have l1 := low_bit a0
  clear e1 e2
  have par : a0 % 2 = 0 ∨ a0 % 2 = 1 := by omega
  rcases par with g | g
  · rw [g] at e4 l1
    rw [Int.add_zero] at e4
    go_enter Try.func4, Try.ntmps4
    go_wp2_with (first
    | (go_at_call 9; refine (alive_any _).mono ?_; rintro e w' ⟨rfl, rfl⟩)
    | (go_at_call 19; refine (put_at _ _ (by first | exact p3 | exact q3) _).mono ?_; rintro e w' ⟨rfl, rfl⟩)
    | (go_at_call 10; refine (get_any (K := K) _ (by first | assumption | decide) _).mono ?_; rintro e w' ⟨rfl, rfl⟩)
    | (go_at_call 18; refine (class_any _ (by first | assumption | decide) _).mono ?_; rintro e w' ⟨rfl, rfl⟩)
    | (go_at_call 20; refine (isNaN_any _ _).mono ?_; rintro e w' ⟨rfl, rfl⟩)
    | (go_at_call 21; refine (isAny_any _ _ (by decide) (by first | assumption | decide) _).mono ?_; rintro e w' ⟨rfl, rfl⟩)
    | (go_at_call 29; refine (abs_any _ (by first | assumption | decide) _).mono ?_; rintro e w' ⟨rfl, rfl⟩)
    | fail)
    all_goals (go_ret; exact ⟨rfl, Grown.refl _⟩)
  · rw [g] at e4 l1
    go_enter Try.func4, Try.ntmps4
    go_wp2_with (first
    | (go_at_call 9; refine (alive_any _).mono ?_; rintro e w' ⟨rfl, rfl⟩)
    | (go_at_call 19; refine (put_at _ _ (by first | exact p3 | exact q3) _).mono ?_; rintro e w' ⟨rfl, rfl⟩)
    | (go_at_call 10; refine (get_any (K := K) _ (by first | assumption | decide) _).mono ?_; rintro e w' ⟨rfl, rfl⟩)
    | (go_at_call 18; refine (class_any _ (by first | assumption | decide) _).mono ?_; rintro e w' ⟨rfl, rfl⟩)
    | (go_at_call 20; refine (isNaN_any _ _).mono ?_; rintro e w' ⟨rfl, rfl⟩)
    | (go_at_call 21; refine (isAny_any _ _ (by decide) (by first | assumption | decide) _).mono ?_; rintro e w' ⟨rfl, rfl⟩)
    | (go_at_call 29; refine (abs_any _ (by first | assumption | decide) _).mono ?_; rintro e w' ⟨rfl, rfl⟩)
    | fail)
    all_goals (go_ret; exact ⟨rfl, Grown.refl _⟩)

set_option maxRecDepth 100000 in
theorem lifted (os : Os) (started : os.Started) (H : Type) (enc : TypeId × Value → H) :
    ReturnsInHanded {} Try.checked os 4 .any (Rows.realTiesSpec.pre6 enc Try.prog Try.f4 Rows.realTiesRow.domain false) (Rows.realTiesSpec.post enc Try.prog Try.f4 false true false false) := by
  refine returnsInHanded_of_change (C := Try.checked) own started (by kernel_rfl) Try.func4
    (ChangeSpec.witness6 (enc := enc) (C := Try.checked) false ⟨#[], #[.int .i64 0], []⟩ 8 (by kernel_rfl) (by kernel_rfl) (by kernel_rfl) (by kernel_rfl)) ?_
  intro W base args ds gs before hval0 hW hcnd _
  have hval : ∀ (j : Nat) t v, Try.f4.params[j]? = some t → args[j]? = some v → Value.okWide Try.prog W .any base t v := hval0
  have hW' := hW
  obtain ⟨p, q, hA0, hV, rfl, hfz, hnd⟩ := hW
  have hA : DataW.TrodAll enc Try.prog W 0 (fun _ => true) true Try.f4.params.toList args.toList ds p := hA0
  rw [Try.params4] at hA hval
  obtain ⟨v0, vs0, d0, ds0, p0, q0, hargs, rfl, rfl, h0, r0⟩ := trodAll_cons hA
  obtain ⟨rfl, rfl, rfl⟩ := trodAll_nil r0
  obtain rfl : args = #[v0] := by cases args; simp_all
  obtain ⟨rfl, rfl⟩ := trodVars_none hV
  obtain ⟨a0, rfl, rfl, rfl, w0⟩ := open_int Try.underlying3 (hval 0 3 v0 rfl rfl) h0
  clear hA0 hval0
  simp only [List.append_nil] at hW'
  refine (walk a0 w0 W).mono fun e W' ⟨he, hg⟩ => ?_
  subst he
  exact ⟨_, rfl, post_of_same (pa := []) (pv := []) hW' (fun _ _ _ => (trodAll_cons_mk (shut_bool Try.underlying4 _) trodAll_mk0)) (fun sp _ => (trodAll_cons_mk (shut_int Try.underlying3 w0) trodAll_mk0)) (fun _ _ => rfl) rfl
    (hg.frame _) hg.2.1 (ok_one (by kernel_rfl) rfl (okWide_bool_mk Try.underlying4 _))⟩

theorem over : Rows.realTiesRow.holds Try.pinned (OpenSpec.ofChange Rows.realTiesSpec) :=
  OpenClaim.holds_of_wide 4 Try.f4 rfl rfl rfl rfl rfl rfl rfl ⟨rfl, rfl, rfl, rfl, rfl⟩ rfl rfl rfl rfl rfl (by kernel_rfl) Try.func4 (by kernel_rfl)
    (of_decide_eq_true (by kernel_rfl)) (by unfold Func.isWrapper; first | (rw [if_pos (by decide +kernel)]; kernel_rfl) | (rw [if_neg (by decide +kernel)]; exact ⟨rfl, rfl⟩))
    (fun os started H enc _ => lifted os started H enc)

theorem proved : Rows.RealTiesSaid :=
  over
end Go.Proofs.Ytdmhbagibofjhab.realTies

namespace Go.Proofs.Ytdmhbagibofjhab
theorem realTies_holds : Rows.RealTiesSaid := realTies.proved
end Go.Proofs.Ytdmhbagibofjhab

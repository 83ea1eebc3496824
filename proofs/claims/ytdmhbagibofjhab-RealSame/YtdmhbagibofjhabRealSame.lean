/-
  Proved: maquettelaw2.RealSame returns true for every two uint64s, and leaves what it was given as it was; no condition.
-/
import Derived.Test.YtdmhbagibofjhabRows
import Derived.Test.YtdmhbagibofjhabROrder
import Derived.WalkKit
import Derived.WalkSpells
import Derived.WalkLawsBesides
import Derived.ProofKit
import Derived.OpenShut
import Derived.ShutString
namespace Go.Proofs.Ytdmhbagibofjhab.realSame
open Go.ChangeShapes Go.WideShapes Go.ChangeAt Go.RowKit
open Go.ChangeMaps (open_string shut_string)
set_option linter.unusedVariables false

theorem own : ownKnob Try.prog.godebug = none := by kernel_rfl

theorem walk (a0 : Int) (a1 : Int) (w0 : (Lit.int .u64 a0).wf = true) (w1 : (Lit.int .u64 a1).wf = true) (w : World) :
    Calls Try.prog 6 #[.int .u64 a0, .int .u64 a1] w fun e w' => e = .returned (.bool true) ∧ Grown w w' := by
  obtain ⟨X, rfl, hX⟩ := u64_nat w0
  obtain ⟨Y, rfl, hY⟩ := u64_nat w1
  have f1 : bits .and .u64 (X : Int) 4503599627370495 = ((X % 4503599627370496 : Nat) : Int) := by
    have := u64_and_nat X 4503599627370495 hX (by decide)
    refine this.trans ?_
    congr 1
    exact Nat.and_two_pow_sub_one_eq_mod X 52
  have f2 : bits .and .u64 (Y : Int) 2251799813685247 = ((Y % 2251799813685248 : Nat) : Int) := by
    have := u64_and_nat Y 2251799813685247 hY (by decide)
    refine this.trans ?_
    congr 1
    exact Nat.and_two_pow_sub_one_eq_mod Y 51
  have f3 : bits .or .u64 9218868437227405313 ((X % 4503599627370496 : Nat) : Int) = ((9218868437227405313 ||| X % 4503599627370496 : Nat) : Int) := u64_or_nat 9218868437227405313 (X % 4503599627370496) (by decide) (by omega)
  have f4 : bits .or .u64 18444492273895866368 ((Y % 2251799813685248 : Nat) : Int) = ((18444492273895866368 ||| Y % 2251799813685248 : Nat) : Int) := u64_or_nat 18444492273895866368 (Y % 2251799813685248) (by decide) (by omega)
  have a1 : 9218868437227405313 ≤ (9218868437227405313 ||| X % 4503599627370496) := Nat.left_le_or
  have a2 : (9218868437227405313 ||| X % 4503599627370496) < 2 ^ 63 := Nat.or_lt_two_pow (by decide) (Nat.lt_of_lt_of_le (Nat.mod_lt _ (by decide)) (by decide))
  have b1 : 18444492273895866368 ≤ (18444492273895866368 ||| Y % 2251799813685248) := Nat.left_le_or
  have b2 : (18444492273895866368 ||| Y % 2251799813685248) < 2 ^ 64 := Nat.or_lt_two_pow (by decide) (Nat.lt_of_lt_of_le (Nat.mod_lt _ (by decide)) (by decide))
  generalize (9218868437227405313 ||| X % 4503599627370496) = A at *
  generalize (18444492273895866368 ||| Y % 2251799813685248) = B at *
  generalize (X % 4503599627370496) = m at *
  generalize (Y % 2251799813685248) = k at *
  rw [show (2 : Nat) ^ 63 = 9223372036854775808 by decide] at a2
  rw [show (2 : Nat) ^ 64 = 18446744073709551616 by decide] at b2
  have hA : A < 18446744073709551616 := by omega
  have nA : infR < rg A := by unfold infR rg; omega
  have nB : infR < rg B := by unfold infR rg; omega
  have o1 : ordV A B = 0 := by
    unfold ordV key2
    rw [if_pos nA, if_pos nB]; decide
  have k1 : cls A = 1 := by unfold cls; rw [if_pos nA]
  have k2 : cls B = 1 := by unfold cls; rw [if_pos nB]
  have s1 : decide ((A : Int) = (B : Int)) = false := by simp; omega
  have c1 := fun n w => call_fromN n w
  have c2 : wd (sg 13830554455654793216) (rg 0) = 9223372036854775808 := by decide
  have c3 : ordV 9223372036854775808 0 = -1 := by decide
  clear a1 a2 b1 nA nB
  go_enter Try.func6, Try.ntmps6
  go_wp2_with (first
    | (go_at_call 9; refine (alive_any _).mono ?_; rintro e w' ⟨rfl, rfl⟩)
    | (go_at_call 10; refine (get_any (K := K) _ (by first | assumption | decide) _).mono ?_; rintro e w' ⟨rfl, rfl⟩)
    | (go_at_call 18; refine (class_any _ (by first | assumption | decide) _).mono ?_; rintro e w' ⟨rfl, rfl⟩)
    | (go_at_call 17; refine (order_any _ _ (by first | assumption | decide) (by first | assumption | decide) _).mono ?_; rintro e w' ⟨rfl, rfl⟩)
    | (go_at_call 16; refine (same_any _ _ _).mono ?_; rintro e w' ⟨rfl, rfl⟩)
    | (go_at_call 20; refine (isNaN_any _ _).mono ?_; rintro e w' ⟨rfl, rfl⟩)
    | (go_at_call 21; refine (isAny_any _ _ (by decide) (by first | assumption | decide) _).mono ?_; rintro e w' ⟨rfl, rfl⟩)
    | (go_at_call 29; refine (abs_any _ (by first | assumption | decide) _).mono ?_; rintro e w' ⟨rfl, rfl⟩)
    | (go_at_call 15; refine (copysign_any _ _ (by first | assumption | decide) (by first | assumption | decide) _).mono ?_; rintro e w' ⟨rfl, rfl⟩)
    | fail)
  all_goals (go_ret; exact ⟨rfl, Grown.refl _⟩)

set_option maxRecDepth 100000 in
theorem lifted (os : Os) (started : os.Started) (H : Type) (enc : TypeId × Value → H) :
    ReturnsInHanded {} Try.checked os 6 .any (Rows.realSameSpec.pre6 enc Try.prog Try.f6 Rows.realSameRow.domain false) (Rows.realSameSpec.post enc Try.prog Try.f6 false true false false) := by
  refine returnsInHanded_of_change (C := Try.checked) own started (by kernel_rfl) Try.func6
    (ChangeSpec.witness6 (enc := enc) (C := Try.checked) false ⟨#[], #[.int .u64 0, .int .u64 0], []⟩ 8 (by kernel_rfl) (by kernel_rfl) (by kernel_rfl) (by kernel_rfl)) ?_
  intro W base args ds gs before hval0 hW hcnd _
  have hval : ∀ (j : Nat) t v, Try.f6.params[j]? = some t → args[j]? = some v → Value.okWide Try.prog W .any base t v := hval0
  have hW' := hW
  obtain ⟨p, q, hA0, hV, rfl, hfz, hnd⟩ := hW
  have hA : DataW.TrodAll enc Try.prog W 0 (fun _ => true) true Try.f6.params.toList args.toList ds p := hA0
  rw [Try.params6] at hA hval
  obtain ⟨v0, vs0, d0, ds0, p0, q0, hargs, rfl, rfl, h0, r0⟩ := trodAll_cons hA
  obtain ⟨v1, vs1, d1, ds1, p1, q1, rfl, rfl, rfl, h1, r1⟩ := trodAll_cons r0
  obtain ⟨rfl, rfl, rfl⟩ := trodAll_nil r1
  obtain rfl : args = #[v0, v1] := by cases args; simp_all
  obtain ⟨rfl, rfl⟩ := trodVars_none hV
  obtain ⟨a0, rfl, rfl, rfl, w0⟩ := open_int Try.underlying29 (hval 0 29 v0 rfl rfl) h0
  obtain ⟨a1, rfl, rfl, rfl, w1⟩ := open_int Try.underlying29 (hval 1 29 v1 rfl rfl) h1
  clear hA0 hval0
  simp only [List.append_nil] at hW'
  refine (walk a0 a1 w0 w1 W).mono fun e W' ⟨he, hg⟩ => ?_
  subst he
  exact ⟨_, rfl, post_of_same (pa := []) (pv := []) hW' (fun _ _ _ => (trodAll_cons_mk (shut_bool Try.underlying4 _) trodAll_mk0)) (fun sp _ => (trodAll_cons_mk (shut_int Try.underlying29 w0) (trodAll_cons_mk (shut_int Try.underlying29 w1) trodAll_mk0))) (fun _ _ => rfl) rfl
    (hg.frame _) hg.2.1 (ok_one (by kernel_rfl) rfl (okWide_bool_mk Try.underlying4 _))⟩

theorem over : Rows.realSameRow.holds Try.pinned (OpenSpec.ofChange Rows.realSameSpec) :=
  OpenClaim.holds_of_wide 6 Try.f6 rfl rfl rfl rfl rfl rfl rfl ⟨rfl, rfl, rfl, rfl, rfl⟩ rfl rfl rfl rfl rfl (by kernel_rfl) Try.func6 (by kernel_rfl)
    (of_decide_eq_true (by kernel_rfl)) (by unfold Func.isWrapper; first | (rw [if_pos (by decide +kernel)]; kernel_rfl) | (rw [if_neg (by decide +kernel)]; exact ⟨rfl, rfl⟩))
    (fun os started H enc _ => lifted os started H enc)

theorem proved : Rows.RealSameSaid :=
  over
end Go.Proofs.Ytdmhbagibofjhab.realSame

namespace Go.Proofs.Ytdmhbagibofjhab
theorem realSame_holds : Rows.RealSameSaid := realSame.proved
end Go.Proofs.Ytdmhbagibofjhab

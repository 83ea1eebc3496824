/-
  Proved: maquettelaw2.RealBack returns true for every int64, and leaves what it was given as it was; no condition.
-/
import Derived.Test.YtdmhbagibofjhaaRows
import Derived.Test.YtdmhbagibofjhaaRArith
import Derived.WalkKit
import Derived.WalkSpells
import Derived.WalkLawsBesides
import Derived.ProofKit
import Derived.OpenShut
import Derived.ShutString
namespace Go.Proofs.Ytdmhbagibofjhaa.realBack
open Go.ChangeShapes Go.WideShapes Go.ChangeAt Go.RowKit
open Go.ChangeMaps (open_string shut_string)
set_option linter.unusedVariables false

theorem own : ownKnob Try.prog.godebug = none := by kernel_rfl

theorem back (K : Ks) (a : Int) (h : inF a) : ∃ W, Ieee.double.div (floatOfInt .f64 a) 4751297606875873280 = some W ∧ W < 18446744073709551616 ∧ ((-9007199254740992 < a ∧ a < 9007199254740992 ∧ gR K W = (a, 0)) ∨ (¬ (-9007199254740992 < a ∧ a < 9007199254740992) ∧ ((gR K W = (0, 3) ∧ 9223372036854774783 < a) ∨ ∃ b : Int, gR K W = (b, 0) ∧ inF b ∧ -512 ≤ a - b ∧ a - b ≤ 512))) := by
  obtain ⟨r, h1, h2, h3⟩ := put_math (K := K) a h
  have e : gR K (wd (decide (a < 0)) r) = sgR (decide (a < 0)) (fl a.natAbs) := by rw [gR_wd _ h2, gN_exact h1]
  refine ⟨_, h3, lt_wd _ h2, ?_⟩
  rw [e]
  unfold inF at h
  by_cases g : -9007199254740992 < a ∧ a < 9007199254740992
  · refine Or.inl ⟨g.1, g.2, ?_⟩
    rw [fl_small (by omega)]
    rcases sgR_cases (decide (a < 0)) (a.natAbs : Int) with ⟨b1, b2, b3⟩ | ⟨b1, b2, b3⟩ | ⟨b1, b2, b3⟩
    · rw [b3]; simp at b1; congr 1; omega
    · rw [b3]; simp at b1; congr 1; omega
    · omega
  · refine Or.inr ⟨g, ?_⟩
    obtain ⟨f1, f2, f3⟩ := fl_near (show a.natAbs ≤ 9223372036854775808 by omega)
    generalize fl a.natAbs = F at *
    rcases sgR_cases (decide (a < 0)) (F : Int) with ⟨b1, b2, b3⟩ | ⟨b1, b2, b3⟩ | ⟨b1, b2, b3⟩
    · rw [b3]; simp at b1
      exact Or.inr ⟨_, rfl, ⟨by omega, by omega⟩, by omega, by omega⟩
    · rw [b3]; simp at b1
      exact Or.inr ⟨_, rfl, ⟨by omega, by omega⟩, by omega, by omega⟩
    · rw [b3]; simp at b2
      exact Or.inl ⟨rfl, by omega⟩
theorem walk (a0 : Int) (w0 : (Lit.int .i64 a0).wf = true) (w : World) :
    Calls Try.prog 4 #[.int .i64 a0] w fun e w' => e = .returned (.bool true) ∧ Grown w w' := by
  obtain ⟨K⟩ : Nonempty Ks := ⟨⟨1042, 1074, rfl, rfl⟩⟩
  have ha : inF a0 := inF_wf w0
  have q3 := True.intro
  obtain ⟨W, p3, hW, h⟩ := back K a0 ha
  unfold inF at ha
  rcases h with ⟨h1, h2, h3⟩ | ⟨h1, h⟩
  · go_enter Try.func4, Try.ntmps4
    go_wp2_with (first
    | (go_at_call 9; refine (alive_any _).mono ?_; rintro e w' ⟨rfl, rfl⟩)
    | (go_at_call 16; refine (put_at _ _ (by first | exact p3 | exact q3) _).mono ?_; rintro e w' ⟨rfl, rfl⟩)
    | (go_at_call 11; refine (get_any (K := K) _ (by first | assumption | decide) _).mono ?_; rintro e w' ⟨rfl, rfl⟩)
    | (go_at_call 17; refine (class_any _ (by first | assumption | decide) _).mono ?_; rintro e w' ⟨rfl, rfl⟩)
    | (go_at_call 27; refine (isNaN_any _ _).mono ?_; rintro e w' ⟨rfl, rfl⟩)
    | (go_at_call 23; refine (isAny_any _ _ (by decide) (by first | assumption | decide) _).mono ?_; rintro e w' ⟨rfl, rfl⟩)
    | (go_at_call 22; refine (abs_any _ (by first | assumption | decide) _).mono ?_; rintro e w' ⟨rfl, rfl⟩)
    | fail)
    all_goals (go_ret; exact ⟨rfl, Grown.refl _⟩)
  · have h1' : a0 ≤ -9007199254740992 ∨ 9007199254740992 ≤ a0 := by omega
    clear h1
    rcases h with ⟨h2, h3⟩ | ⟨b, h2, h3, h4, h5⟩
    · have h6 : 9007199254740992 ≤ a0 := by omega
      clear h1'
      go_enter Try.func4, Try.ntmps4
      go_wp2_with (first
    | (go_at_call 9; refine (alive_any _).mono ?_; rintro e w' ⟨rfl, rfl⟩)
    | (go_at_call 16; refine (put_at _ _ (by first | exact p3 | exact q3) _).mono ?_; rintro e w' ⟨rfl, rfl⟩)
    | (go_at_call 11; refine (get_any (K := K) _ (by first | assumption | decide) _).mono ?_; rintro e w' ⟨rfl, rfl⟩)
    | (go_at_call 17; refine (class_any _ (by first | assumption | decide) _).mono ?_; rintro e w' ⟨rfl, rfl⟩)
    | (go_at_call 27; refine (isNaN_any _ _).mono ?_; rintro e w' ⟨rfl, rfl⟩)
    | (go_at_call 23; refine (isAny_any _ _ (by decide) (by first | assumption | decide) _).mono ?_; rintro e w' ⟨rfl, rfl⟩)
    | (go_at_call 22; refine (abs_any _ (by first | assumption | decide) _).mono ?_; rintro e w' ⟨rfl, rfl⟩)
    | fail)
      all_goals (go_ret; exact ⟨rfl, Grown.refl _⟩)
    · unfold inF at h3
      rcases h1' with h6 | h6
      · go_enter Try.func4, Try.ntmps4
        go_wp2_with (first
    | (go_at_call 9; refine (alive_any _).mono ?_; rintro e w' ⟨rfl, rfl⟩)
    | (go_at_call 16; refine (put_at _ _ (by first | exact p3 | exact q3) _).mono ?_; rintro e w' ⟨rfl, rfl⟩)
    | (go_at_call 11; refine (get_any (K := K) _ (by first | assumption | decide) _).mono ?_; rintro e w' ⟨rfl, rfl⟩)
    | (go_at_call 17; refine (class_any _ (by first | assumption | decide) _).mono ?_; rintro e w' ⟨rfl, rfl⟩)
    | (go_at_call 27; refine (isNaN_any _ _).mono ?_; rintro e w' ⟨rfl, rfl⟩)
    | (go_at_call 23; refine (isAny_any _ _ (by decide) (by first | assumption | decide) _).mono ?_; rintro e w' ⟨rfl, rfl⟩)
    | (go_at_call 22; refine (abs_any _ (by first | assumption | decide) _).mono ?_; rintro e w' ⟨rfl, rfl⟩)
    | fail)
        all_goals (go_ret; exact ⟨rfl, Grown.refl _⟩)
      · go_enter Try.func4, Try.ntmps4
        go_wp2_with (first
    | (go_at_call 9; refine (alive_any _).mono ?_; rintro e w' ⟨rfl, rfl⟩)
    | (go_at_call 16; refine (put_at _ _ (by first | exact p3 | exact q3) _).mono ?_; rintro e w' ⟨rfl, rfl⟩)
    | (go_at_call 11; refine (get_any (K := K) _ (by first | assumption | decide) _).mono ?_; rintro e w' ⟨rfl, rfl⟩)
    | (go_at_call 17; refine (class_any _ (by first | assumption | decide) _).mono ?_; rintro e w' ⟨rfl, rfl⟩)
    | (go_at_call 27; refine (isNaN_any _ _).mono ?_; rintro e w' ⟨rfl, rfl⟩)
    | (go_at_call 23; refine (isAny_any _ _ (by decide) (by first | assumption | decide) _).mono ?_; rintro e w' ⟨rfl, rfl⟩)
    | (go_at_call 22; refine (abs_any _ (by first | assumption | decide) _).mono ?_; rintro e w' ⟨rfl, rfl⟩)
    | fail)
        all_goals (go_ret; exact ⟨rfl, Grown.refl _⟩)

set_option maxRecDepth 100000 in
theorem lifted (os : Os) (started : os.Started) (H : Type) (enc : TypeId × Value → H) :
    ReturnsInHanded {} Try.checked os 4 .any (Rows.realBackSpec.pre6 enc Try.prog Try.f4 Rows.realBackRow.domain false) (Rows.realBackSpec.post enc Try.prog Try.f4 false true false false) := by
  refine returnsInHanded_of_change (C := Try.checked) own started (by kernel_rfl) Try.func4
    (ChangeSpec.witness6 (enc := enc) (C := Try.checked) false ⟨#[], #[.int .i64 0], []⟩ 8 (by kernel_rfl) (by kernel_rfl) (by kernel_rfl) (by kernel_rfl)) ?_
  intro W base args ds gs before hval0 hW hcnd _
  have hval : ∀ (j : Nat) t v, Try.f4.params[j]? = some t → args[j]? = some v → Value.okWide Try.prog W .any base t v := hval0
  have hW' := hW
  obtain ⟨p, q, hA0, hV, rfl, hfz, hnd⟩ := hW
  have hA : DataW.TrodAll enc Try.prog W 0 (fun _ => true) true Try.f4.params.toList args.toList ds p := hA0
  rw [Try.params4] at hA hval
  obtain ⟨v0, vs0, d0, ds0, p0, q0, hargs, rfl, rfl, h0, r0⟩ := trodAll_cons hA
  obtain ⟨rfl, rfl, rfl⟩ := trodAll_nil r0
  obtain rfl : args = #[v0] := by cases args; simp_all
  obtain ⟨rfl, rfl⟩ := trodVars_none hV
  obtain ⟨a0, rfl, rfl, rfl, w0⟩ := open_int Try.underlying23 (hval 0 23 v0 rfl rfl) h0
  clear hA0 hval0
  simp only [List.append_nil] at hW'
  refine (walk a0 w0 W).mono fun e W' ⟨he, hg⟩ => ?_
  subst he
  exact ⟨_, rfl, post_of_same (pa := []) (pv := []) hW' (fun _ _ _ => (trodAll_cons_mk (shut_bool Try.underlying4 _) trodAll_mk0)) (fun sp _ => (trodAll_cons_mk (shut_int Try.underlying23 w0) trodAll_mk0)) (fun _ _ => rfl) rfl
    (hg.frame _) hg.2.1 (ok_one (by kernel_rfl) rfl (okWide_bool_mk Try.underlying4 _))⟩

theorem over : Rows.realBackRow.holds Try.pinned (OpenSpec.ofChange Rows.realBackSpec) :=
  OpenClaim.holds_of_wide 4 Try.f4 rfl rfl rfl rfl rfl rfl rfl ⟨rfl, rfl, rfl, rfl, rfl⟩ rfl rfl rfl rfl rfl (by kernel_rfl) Try.func4 (by kernel_rfl)
    (of_decide_eq_true (by kernel_rfl)) (by unfold Func.isWrapper; first | (rw [if_pos (by decide +kernel)]; kernel_rfl) | (rw [if_neg (by decide +kernel)]; exact ⟨rfl, rfl⟩))
    (fun os started H enc _ => lifted os started H enc)

theorem proved : Rows.RealBackSaid :=
  over
end Go.Proofs.Ytdmhbagibofjhaa.realBack

namespace Go.Proofs.Ytdmhbagibofjhaa
theorem realBack_holds : Rows.RealBackSaid := realBack.proved
end Go.Proofs.Ytdmhbagibofjhaa

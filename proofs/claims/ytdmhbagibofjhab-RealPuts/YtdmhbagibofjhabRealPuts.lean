/-
  Proved: maquettelaw2.RealPuts returns true for every two int64s, and leaves what it was given as it was; no condition.
-/
import Derived.Test.YtdmhbagibofjhabRows
import Derived.Test.YtdmhbagibofjhabRArith
import Derived.WalkKit
import Derived.WalkSpells
import Derived.WalkLawsBesides
import Derived.ProofKit
import Derived.OpenShut
import Derived.ShutString
namespace Go.Proofs.Ytdmhbagibofjhab.realPuts
open Go.ChangeShapes Go.WideShapes Go.ChangeAt Go.RowKit
open Go.ChangeMaps (open_string shut_string)
set_option linter.unusedVariables false

theorem own : ownKnob Try.prog.godebug = none := by kernel_rfl

theorem put_key {K : Ks} {a b : Int} {r r' : Nat} (h : V r = fl a.natAbs * 2 ^ K.g) (h' : V r' = fl b.natAbs * 2 ^ K.g) (hr : r < infR) (hr' : r' < infR) (hab : a ≤ b) : key (wd (decide (a < 0)) r) ≤ key (wd (decide (b < 0)) r') := by
  have hi := infR_lt
  rw [key_wd _ (by omega), key_wd _ (by omega)]
  by_cases g : a < 0
  · by_cases k : b < 0
    · have := rung_mono h' h (show b.natAbs ≤ a.natAbs by omega)
      simp [g, k]; omega
    · simp [g, k] <;> omega
  · have k : ¬ b < 0 := by omega
    have := rung_mono h h' (show a.natAbs ≤ b.natAbs by omega)
    simp [g, k]; omega
theorem put_cls {K : Ks} {a : Int} {r : Nat} (h : V r = fl a.natAbs * 2 ^ K.g) (hr : r < infR) : (a = 0 ∧ cls (wd (decide (a < 0)) r) = 4) ∨ (a ≠ 0 ∧ (cls (wd (decide (a < 0)) r) = 6 ∨ cls (wd (decide (a < 0)) r) = 7)) := by
  have hi := infR_lt
  unfold cls
  rw [rg_wd _ (by omega), sg_wd _ (by omega)]
  by_cases g : a = 0
  · subst g
    have := rung_zero h
    subst this
    exact Or.inl ⟨rfl, by decide⟩
  · have := rung_pos h (by omega)
    refine Or.inr ⟨g, ?_⟩
    rw [if_neg (by omega), if_neg (by omega), if_neg (by omega)]
    split
    · exact Or.inl rfl
    · exact Or.inr rfl
theorem put_sign {K : Ks} {a : Int} {r : Nat} (h : V r = fl a.natAbs * 2 ^ K.g) (hr : r < infR) : (FloatKind.f64.format.order (wd (decide (a < 0)) r) 0 == some .lt) = decide (a < 0) := by
  have hi := infR_lt
  rw [lt_test _ _ (Nat.le_of_lt (inf_wd _ hr)) (by decide), key_wd _ (by omega), show key 0 = 0 by decide]
  by_cases g : a < 0
  · have := rung_pos h (by omega)
    simp [g]; omega
  · simp [g]
set_option maxHeartbeats 2000000 in
theorem walk (a0 : Int) (a1 : Int) (w0 : (Lit.int .i64 a0).wf = true) (w1 : (Lit.int .i64 a1).wf = true) (w : World) :
    Calls Try.prog 8 #[.int .i64 a0, .int .i64 a1] w fun e w' => e = .returned (.bool true) ∧ Grown w w' := by
  obtain ⟨K⟩ : Nonempty Ks := ⟨⟨1042, 1074, rfl, rfl⟩⟩
  have ha : inF a0 := inF_wf w0
  have hb : inF a1 := inF_wf w1
  obtain ⟨r, p1, p2, p3⟩ := put_math (K := K) a0 ha
  obtain ⟨s, q1, q2, q3⟩ := put_math (K := K) a1 hb
  have k1 := put_key p1 q1 p2 q2
  have k2 := put_cls p1 p2
  have k3 := put_sign p1 p2
  have l1 := lt_wd (decide (a0 < 0)) p2
  have l2 := lt_wd (decide (a1 < 0)) q2
  have n1 := inf_wd (decide (a0 < 0)) p2
  have n2 := inf_wd (decide (a1 < 0)) q2
  clear p1 p2 q1 q2
  generalize wd (decide (a0 < 0)) r = W at *
  generalize wd (decide (a1 < 0)) s = Z at *
  have d1 : decide (infR < rg W) = false := by simp; omega
  have d2 : infV 0 W = false := by unfold infV; simp; omega
  have t1 := lt_test W Z (by omega) (by omega)
  have t2 := eq_test W Z (by omega) (by omega)
  have both : (a1 < a0) ∨ (a0 ≤ a1 ∧ (FloatKind.f64.format.order W Z == some .lt) = true) ∨ (a0 ≤ a1 ∧ (FloatKind.f64.format.order W Z == some .lt) = false ∧ (FloatKind.f64.format.order W Z == some .eq) = true) := by
    rcases Int.lt_or_le a1 a0 with g | g
    · exact Or.inl g
    · have := k1 g
      rcases Int.lt_or_eq_of_le this with h | h
      · exact Or.inr (Or.inl ⟨g, t1.trans (by simp [h])⟩)
      · exact Or.inr (Or.inr ⟨g, t1.trans (by simp [h]), t2.trans (by simp [h])⟩)
  clear k1 t1 t2 n1 n2
  have sign : (a0 < 0 ∧ (cls W = 6 ∨ cls W = 7) ∧ (FloatKind.f64.format.order W 0 == some .lt) = true) ∨ (a0 = 0 ∧ (cls W = 4 ∨ cls W = 4) ∧ (FloatKind.f64.format.order W 0 == some .lt) = false) ∨ (0 < a0 ∧ (cls W = 6 ∨ cls W = 7) ∧ (FloatKind.f64.format.order W 0 == some .lt) = false) := by
    rcases k2 with ⟨g1, g2⟩ | ⟨g1, g2⟩
    · exact Or.inr (Or.inl ⟨g1, Or.inl g2, k3.trans (by simp; omega)⟩)
    · rcases Int.lt_or_le a0 0 with g | g
      · exact Or.inl ⟨g, g2, k3.trans (by simp [g])⟩
      · exact Or.inr (Or.inr ⟨by omega, g2, k3.trans (by simp; omega)⟩)
  clear k2 k3
  rcases sign with ⟨s1, s2, s3⟩ | ⟨s1, s2, s3⟩ | ⟨s1, s2, s3⟩
  · have x1 : (a0 != 0) = true := by simp; omega
    have x2 : decide (a0 < 0) = true := by simp [s1]
    rcases both with g1 | ⟨g1, b1⟩ | ⟨g1, b1, b2⟩ <;> rcases s2 with s2 | s2
    all_goals
      go_enter Try.func8, Try.ntmps8
      go_wp2_with (first
    | (go_at_call 9; refine (alive_any _).mono ?_; rintro e w' ⟨rfl, rfl⟩)
    | (go_at_call 19; refine (put_at _ _ (by first | exact p3 | exact q3) _).mono ?_; rintro e w' ⟨rfl, rfl⟩)
    | (go_at_call 10; refine (get_any (K := K) _ (by first | assumption | decide) _).mono ?_; rintro e w' ⟨rfl, rfl⟩)
    | (go_at_call 18; refine (class_any _ (by first | assumption | decide) _).mono ?_; rintro e w' ⟨rfl, rfl⟩)
    | (go_at_call 20; refine (isNaN_any _ _).mono ?_; rintro e w' ⟨rfl, rfl⟩)
    | (go_at_call 21; refine (isAny_any _ _ (by decide) (by first | assumption | decide) _).mono ?_; rintro e w' ⟨rfl, rfl⟩)
    | (go_at_call 29; refine (abs_any _ (by first | assumption | decide) _).mono ?_; rintro e w' ⟨rfl, rfl⟩)
    | fail)
      all_goals (go_ret; first | exact ⟨rfl, Grown.refl _⟩ | exact ⟨rfl, grown_drewN _ _⟩)
  · subst s1
    rcases both with g1 | ⟨g1, b1⟩ | ⟨g1, b1, b2⟩ <;> rcases s2 with s2 | s2
    all_goals
      go_enter Try.func8, Try.ntmps8
      go_wp2_with (first
    | (go_at_call 9; refine (alive_any _).mono ?_; rintro e w' ⟨rfl, rfl⟩)
    | (go_at_call 19; refine (put_at _ _ (by first | exact p3 | exact q3) _).mono ?_; rintro e w' ⟨rfl, rfl⟩)
    | (go_at_call 10; refine (get_any (K := K) _ (by first | assumption | decide) _).mono ?_; rintro e w' ⟨rfl, rfl⟩)
    | (go_at_call 18; refine (class_any _ (by first | assumption | decide) _).mono ?_; rintro e w' ⟨rfl, rfl⟩)
    | (go_at_call 20; refine (isNaN_any _ _).mono ?_; rintro e w' ⟨rfl, rfl⟩)
    | (go_at_call 21; refine (isAny_any _ _ (by decide) (by first | assumption | decide) _).mono ?_; rintro e w' ⟨rfl, rfl⟩)
    | (go_at_call 29; refine (abs_any _ (by first | assumption | decide) _).mono ?_; rintro e w' ⟨rfl, rfl⟩)
    | fail)
      all_goals (go_ret; first | exact ⟨rfl, Grown.refl _⟩ | exact ⟨rfl, grown_drewN _ _⟩)
  · have x1 : (a0 != 0) = true := by simp; omega
    have x2 : decide (a0 < 0) = false := by simp; omega
    rcases both with g1 | ⟨g1, b1⟩ | ⟨g1, b1, b2⟩ <;> rcases s2 with s2 | s2
    all_goals
      go_enter Try.func8, Try.ntmps8
      go_wp2_with (first
    | (go_at_call 9; refine (alive_any _).mono ?_; rintro e w' ⟨rfl, rfl⟩)
    | (go_at_call 19; refine (put_at _ _ (by first | exact p3 | exact q3) _).mono ?_; rintro e w' ⟨rfl, rfl⟩)
    | (go_at_call 10; refine (get_any (K := K) _ (by first | assumption | decide) _).mono ?_; rintro e w' ⟨rfl, rfl⟩)
    | (go_at_call 18; refine (class_any _ (by first | assumption | decide) _).mono ?_; rintro e w' ⟨rfl, rfl⟩)
    | (go_at_call 20; refine (isNaN_any _ _).mono ?_; rintro e w' ⟨rfl, rfl⟩)
    | (go_at_call 21; refine (isAny_any _ _ (by decide) (by first | assumption | decide) _).mono ?_; rintro e w' ⟨rfl, rfl⟩)
    | (go_at_call 29; refine (abs_any _ (by first | assumption | decide) _).mono ?_; rintro e w' ⟨rfl, rfl⟩)
    | fail)
      all_goals (go_ret; first | exact ⟨rfl, Grown.refl _⟩ | exact ⟨rfl, grown_drewN _ _⟩)

set_option maxRecDepth 100000 in
theorem lifted (os : Os) (started : os.Started) (H : Type) (enc : TypeId × Value → H) :
    ReturnsInHanded {} Try.checked os 8 .any (Rows.realPutsSpec.pre6 enc Try.prog Try.f8 Rows.realPutsRow.domain false) (Rows.realPutsSpec.post enc Try.prog Try.f8 false true false false) := by
  refine returnsInHanded_of_change (C := Try.checked) own started (by kernel_rfl) Try.func8
    (ChangeSpec.witness6 (enc := enc) (C := Try.checked) false ⟨#[], #[.int .i64 0, .int .i64 0], []⟩ 8 (by kernel_rfl) (by kernel_rfl) (by kernel_rfl) (by kernel_rfl)) ?_
  intro W base args ds gs before hval0 hW hcnd _
  have hval : ∀ (j : Nat) t v, Try.f8.params[j]? = some t → args[j]? = some v → Value.okWide Try.prog W .any base t v := hval0
  have hW' := hW
  obtain ⟨p, q, hA0, hV, rfl, hfz, hnd⟩ := hW
  have hA : DataW.TrodAll enc Try.prog W 0 (fun _ => true) true Try.f8.params.toList args.toList ds p := hA0
  rw [Try.params8] at hA hval
  obtain ⟨v0, vs0, d0, ds0, p0, q0, hargs, rfl, rfl, h0, r0⟩ := trodAll_cons hA
  obtain ⟨v1, vs1, d1, ds1, p1, q1, rfl, rfl, rfl, h1, r1⟩ := trodAll_cons r0
  obtain ⟨rfl, rfl, rfl⟩ := trodAll_nil r1
  obtain rfl : args = #[v0, v1] := by cases args; simp_all
  obtain ⟨rfl, rfl⟩ := trodVars_none hV
  obtain ⟨a0, rfl, rfl, rfl, w0⟩ := open_int Try.underlying23 (hval 0 23 v0 rfl rfl) h0
  obtain ⟨a1, rfl, rfl, rfl, w1⟩ := open_int Try.underlying23 (hval 1 23 v1 rfl rfl) h1
  clear hA0 hval0
  simp only [List.append_nil] at hW'
  refine (walk a0 a1 w0 w1 W).mono fun e W' ⟨he, hg⟩ => ?_
  subst he
  exact ⟨_, rfl, post_of_same (pa := []) (pv := []) hW' (fun _ _ _ => (trodAll_cons_mk (shut_bool Try.underlying4 _) trodAll_mk0)) (fun sp _ => (trodAll_cons_mk (shut_int Try.underlying23 w0) (trodAll_cons_mk (shut_int Try.underlying23 w1) trodAll_mk0))) (fun _ _ => rfl) rfl
    (hg.frame _) hg.2.1 (ok_one (by kernel_rfl) rfl (okWide_bool_mk Try.underlying4 _))⟩

theorem over : Rows.realPutsRow.holds Try.pinned (OpenSpec.ofChange Rows.realPutsSpec) :=
  OpenClaim.holds_of_wide 8 Try.f8 rfl rfl rfl rfl rfl rfl rfl ⟨rfl, rfl, rfl, rfl, rfl⟩ rfl rfl rfl rfl rfl (by kernel_rfl) Try.func8 (by kernel_rfl)
    (of_decide_eq_true (by kernel_rfl)) (by unfold Func.isWrapper; first | (rw [if_pos (by decide +kernel)]; kernel_rfl) | (rw [if_neg (by decide +kernel)]; exact ⟨rfl, rfl⟩))
    (fun os started H enc _ => lifted os started H enc)

theorem proved : Rows.RealPutsSaid :=
  over
end Go.Proofs.Ytdmhbagibofjhab.realPuts

namespace Go.Proofs.Ytdmhbagibofjhab
theorem realPuts_holds : Rows.RealPutsSaid := realPuts.proved
end Go.Proofs.Ytdmhbagibofjhab

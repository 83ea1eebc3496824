/-
  Proved: maquettelaw5.WaveTells returns true for every int and every two int64s, and leaves what it was given as it was; no condition.
-/
import Derived.Test.YtflggohamonojaaRows
import Derived.Test.YtflggohamonojaaWAlive
import Derived.Test.YtflggohamonojaaWRot
import Derived.WalkKit
import Derived.WalkSpells
import Derived.WalkLawsBesides
import Derived.ProofKit
import Derived.OpenShut
import Derived.ShutString
namespace Go.Proofs.Ytflggohamonojaa.waveTells
open Go.ChangeShapes Go.WideShapes Go.ChangeAt Go.RowKit
open Go.ChangeMaps (open_string shut_string)
set_option linter.unusedVariables false

theorem own : ownKnob Try.prog.godebug = none := by kernel_rfl

theorem Err.first (w : World) (t : TypeId) : Err (w.alloc (.cells #[.int .i64 0] t)) w.heap.size 0 0 := by
  refine ⟨by simp [go_sem], ?_⟩
  exact (Grew.refl w |>.alloc _ _).free (Nat.le_refl _)
set_option maxHeartbeats 2000000 in
theorem walk (a0 : Int) (a1 : Int) (a2 : Int) (w0 : (Lit.int .i64 a0).wf = true) (w1 : (Lit.int .i64 a1).wf = true) (w2 : (Lit.int .i64 a2).wf = true) (w : World) :
    Calls Try.prog 3 #[.int .i64 a0, .int .i64 a1, .int .i64 a2] w fun e w' => e = .returned (.bool true) ∧ Grown w w' := by
  have ha : inF a0 := inF_wf w0
  have hx : inF a1 := inF_wf w1
  have hy : inF a2 := inF_wf w2
  clear w0 w1 w2
  obtain ⟨s, es⟩ : ∃ s, sinI a0 = s := ⟨_, rfl⟩
  obtain ⟨c, ec⟩ : ∃ c, cosI a0 = c := ⟨_, rfl⟩
  obtain ⟨u, v, k, er⟩ : ∃ u v k, rotR a1 a2 (sinI a0) (cosI a0) = (u, v, k) := ⟨_, _, _, rfl⟩
  have ES : Hid (_ = _) := es; have EC : Hid (_ = _) := ec; have ER : Hid (_ = _) := er; clear es ec er
  go_enter Try.func3, Try.ntmps3
  go_wp2_with (first
    | (go_at_call 9; refine (alive_any _).mono ?_; rintro e w' ⟨rfl, rfl⟩)
    | (go_at_call 10; refine (rrot_any _ 0 _ _ _ _ hx hy ha (Err.first _ _)).mono ?_; rw [ER.out]; rintro e V ⟨rfl, E', U⟩; have G : Hid (Grew _ V) := U.grew _ (Nat.le_refl _) ((Grew.refl _).alloc _ _); have C : V.cell? _ = _ := E'.1; clear U E')
    | (go_at_call 11; refine (rotate_any _ _ _ _ hx hy ha).mono ?_; rw [ER.out]; rintro e V' ⟨rfl, hV⟩; subst hV)
    | (go_at_call 12; refine (norm_any _ _ ha).mono ?_; rintro e V' ⟨rfl, hV⟩; subst hV)
    | (go_at_call 13; refine (rnorm_any _ _ ha).mono ?_; rintro e V' ⟨rfl, hV⟩; subst hV)
    | (go_at_call 14; refine (sin_any _ _ ha).mono ?_; rw [ES.out]; rintro e V' ⟨rfl, hV⟩; subst hV)
    | (go_at_call 16; refine (cos_any _ _ ha).mono ?_; rw [EC.out]; rintro e V' ⟨rfl, hV⟩; subst hV)
    | (go_at_call 15; refine (rsin_any _ _ ha).mono ?_; rw [ES.out]; rintro e V' ⟨rfl, U⟩; replace G : Hid (Grew _ V') := G.out.trans U; replace C : V'.cell? _ = _ := U.cell C; clear U)
    | (go_at_call 17; refine (rcos_any _ _ ha).mono ?_; rw [EC.out]; rintro e V' ⟨rfl, U⟩; replace G : Hid (Grew _ V') := G.out.trans U; replace C : V'.cell? _ = _ := U.cell C; clear U))
  all_goals (go_ret; exact ⟨rfl, G.out.grown⟩)

set_option maxRecDepth 100000 in
theorem lifted (os : Os) (started : os.Started) (H : Type) (enc : TypeId × Value → H) :
    ReturnsInHanded {} Try.checked os 3 .any (Rows.waveTellsSpec.pre6 enc Try.prog Try.f3 Rows.waveTellsRow.domain false) (Rows.waveTellsSpec.post enc Try.prog Try.f3 false true false false) := by
  refine returnsInHanded_of_change (C := Try.checked) own started (by kernel_rfl) Try.func3
    (ChangeSpec.witness6 (enc := enc) (C := Try.checked) false ⟨#[], #[.int .i64 0, .int .i64 0, .int .i64 0], []⟩ 8 (by kernel_rfl) (by kernel_rfl) (by kernel_rfl) (by kernel_rfl)) ?_
  intro W base args ds gs before hval0 hW hcnd _
  have hval : ∀ (j : Nat) t v, Try.f3.params[j]? = some t → args[j]? = some v → Value.okWide Try.prog W .any base t v := hval0
  have hW' := hW
  obtain ⟨p, q, hA0, hV, rfl, hfz, hnd⟩ := hW
  have hA : DataW.TrodAll enc Try.prog W 0 (fun _ => true) true Try.f3.params.toList args.toList ds p := hA0
  rw [Try.params3] at hA hval
  obtain ⟨v0, vs0, d0, ds0, p0, q0, hargs, rfl, rfl, h0, r0⟩ := trodAll_cons hA
  obtain ⟨v1, vs1, d1, ds1, p1, q1, rfl, rfl, rfl, h1, r1⟩ := trodAll_cons r0
  obtain ⟨v2, vs2, d2, ds2, p2, q2, rfl, rfl, rfl, h2, r2⟩ := trodAll_cons r1
  obtain ⟨rfl, rfl, rfl⟩ := trodAll_nil r2
  obtain rfl : args = #[v0, v1, v2] := by cases args; simp_all
  obtain ⟨rfl, rfl⟩ := trodVars_none hV
  obtain ⟨a0, rfl, rfl, rfl, w0⟩ := open_int Try.underlying3 (hval 0 3 v0 rfl rfl) h0
  obtain ⟨a1, rfl, rfl, rfl, w1⟩ := open_int Try.underlying22 (hval 1 22 v1 rfl rfl) h1
  obtain ⟨a2, rfl, rfl, rfl, w2⟩ := open_int Try.underlying22 (hval 2 22 v2 rfl rfl) h2
  clear hA0 hval0
  simp only [List.append_nil] at hW'
  refine (walk a0 a1 a2 w0 w1 w2 W).mono fun e W' ⟨he, hg⟩ => ?_
  subst he
  exact ⟨_, rfl, post_of_same (pa := []) (pv := []) hW' (fun _ _ _ => (trodAll_cons_mk (shut_bool Try.underlying4 _) trodAll_mk0)) (fun sp _ => (trodAll_cons_mk (shut_int Try.underlying3 w0) (trodAll_cons_mk (shut_int Try.underlying22 w1) (trodAll_cons_mk (shut_int Try.underlying22 w2) trodAll_mk0)))) (fun _ _ => rfl) rfl
    (hg.frame _) hg.2.1 (ok_one (by kernel_rfl) rfl (okWide_bool_mk Try.underlying4 _))⟩

theorem over : Rows.waveTellsRow.holds Try.pinned (OpenSpec.ofChange Rows.waveTellsSpec) :=
  OpenClaim.holds_of_wide 3 Try.f3 rfl rfl rfl rfl rfl rfl rfl ⟨rfl, rfl, rfl, rfl, rfl⟩ rfl rfl rfl rfl rfl (by kernel_rfl) Try.func3 (by kernel_rfl)
    (of_decide_eq_true (by kernel_rfl)) (by unfold Func.isWrapper; first | (rw [if_pos (by decide +kernel)]; kernel_rfl) | (rw [if_neg (by decide +kernel)]; exact ⟨rfl, rfl⟩))
    (fun os started H enc _ => lifted os started H enc)

theorem proved : Rows.WaveTellsSaid :=
  over
end Go.Proofs.Ytflggohamonojaa.waveTells

namespace Go.Proofs.Ytflggohamonojaa
theorem waveTells_holds : Rows.WaveTellsSaid := waveTells.proved
end Go.Proofs.Ytflggohamonojaa

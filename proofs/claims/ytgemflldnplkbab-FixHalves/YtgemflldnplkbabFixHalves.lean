/-
  Proved: maquettelaw1.FixHalves returns true for every int64, and leaves what it was given as it was; no condition.
-/
import Derived.Test.YtgemflldnplkbabRows
import Derived.Test.YtgemflldnplkbabAlive
import Derived.Test.YtgemflldnplkbabLawNum
import Derived.WalkKit
import Derived.WalkSpells
import Derived.WalkLawsBesides
import Derived.ProofKit
import Derived.OpenShut
import Derived.ShutString
namespace Go.Proofs.Ytgemflldnplkbab.fixHalves
open Go.ChangeShapes Go.WideShapes Go.ChangeAt Go.RowKit
open Go.ChangeMaps (open_string shut_string)
set_option linter.unusedVariables false

theorem own : ownKnob Try.prog.godebug = none := by kernel_rfl

theorem mulM_half (a : Int) : mulM a 2147483648 = ab a / 2 := by
  unfold mulM
  rw [show ab 2147483648 = 2147483648 by decide]
  have := ab_nonneg a
  omega
theorem divM_two (a : Int) : divM a 8589934592 = ab a / 2 := by
  unfold divM
  rw [show ab 8589934592 = 8589934592 by decide]
  have := ab_nonneg a
  omega
theorem half_told (a : Int) (ha : inF a) : ∃ h, mulR a 2147483648 = (h, 0) ∧ divR a 8589934592 = (h, 0) ∧ addR h h = (h + h, 0) ∧ inF h ∧ (a = h + h ∨ (a = h + h + 1 ∧ 0 ≤ a) ∨ (a = h + h - 1 ∧ a < 0)) := by
  have hm : mulR a 2147483648 = sgR (decide (a < 0)) (ab a / 2) := by unfold mulR; rw [mulM_half, sgn_one (by decide)]
  have hd : divR a 8589934592 = sgR (decide (a < 0)) (ab a / 2) := by unfold divR; rw [if_neg (by decide), divM_two, sgn_one (by decide)]
  rw [hm, hd]
  unfold inF at ha
  rcases ab_of a with ⟨h1, e1⟩ | ⟨h1, e1⟩
  · rw [show decide (a < 0) = true by simp [h1], sgR_neg _ (by omega)]
    exact ⟨_, rfl, rfl, inR_ok (by omega), ⟨by omega, by omega⟩, by omega⟩
  · rw [show decide (a < 0) = false by simp; omega, sgR_pos _ (by omega)]
    exact ⟨_, rfl, rfl, inR_ok (by omega), ⟨by omega, by omega⟩, by omega⟩
theorem bit_one (a : Int) : bits .and .i64 a 1 = a % 2 := by
  have e : bits .and .i64 a 1 = IntKind.i64.wrap (((BitVec.ofInt 64 a &&& BitVec.ofInt 64 1 : BitVec 64)).toNat : Int) := rfl
  rw [e, IntKind.wrap_i64]
  have t : (BitVec.ofInt 64 a &&& BitVec.ofInt 64 1 : BitVec 64).toNat = (BitVec.ofInt 64 a).toNat % 2 := by
    rw [BitVec.toNat_and, show (BitVec.ofInt 64 1).toNat = 1 by decide, Nat.and_one_is_mod]
  rw [t, BitVec.toNat_ofInt]
  omega
set_option maxHeartbeats 1000000 in
theorem walk (a0 : Int) (w0 : (Lit.int .i64 a0).wf = true) (w : World) :
    Calls Try.prog 3 #[.int .i64 a0] w fun e w' => e = .returned (.bool true) ∧ Grown w w' := by
  have ha : inF a0 := inF_wf w0
  obtain ⟨h, f1, f2, f3, i1, c⟩ := half_told a0 ha
  have b := bit_one a0
  have j1 := ha; have j2 := i1
  unfold inF at j1 j2
  rcases c with c | ⟨c, c'⟩ | ⟨c, c'⟩
  · have m : bits .and .i64 a0 1 = 0 := by rw [b]; omega
    have C : Hid (_ = _) := c
    have z : (h + h == a0) = true := by rw [c]; simp
    clear b c
    go_enter Try.func3, Try.ntmps3
    go_wp2_with (first
    | (go_at_call 5; refine (alive_any _).mono ?_; rintro e w' ⟨rfl, n, rfl⟩)
    | (go_at_call 8; refine (add_any _ _ _ (by first | assumption | exact ⟨by decide, by decide⟩) (by first | assumption | exact ⟨by decide, by decide⟩)).mono ?_; rintro e w' ⟨rfl, rfl⟩)
    | (go_at_call 6; refine (mul_any _ _ _ (by first | assumption | exact ⟨by decide, by decide⟩) (by first | assumption | exact ⟨by decide, by decide⟩)).mono ?_; rintro e w' ⟨rfl, rfl⟩)
    | (go_at_call 7; refine (div_any _ _ _ (by first | assumption | exact ⟨by decide, by decide⟩) (by first | assumption | exact ⟨by decide, by decide⟩)).mono ?_; rintro e w' ⟨rfl, n, rfl⟩)
    | fail)
    go_ret
    exact ⟨rfl, grown_drewN _ _⟩
  · have m : bits .and .i64 a0 1 = 1 := by rw [b]; omega
    have z : (h + h == a0 - 1) = true := by rw [c]; simp
    have l : -9223372036854775807 ≤ a0 := by omega
    clear b c
    go_enter Try.func3, Try.ntmps3
    go_wp2_with (first
    | (go_at_call 5; refine (alive_any _).mono ?_; rintro e w' ⟨rfl, n, rfl⟩)
    | (go_at_call 8; refine (add_any _ _ _ (by first | assumption | exact ⟨by decide, by decide⟩) (by first | assumption | exact ⟨by decide, by decide⟩)).mono ?_; rintro e w' ⟨rfl, rfl⟩)
    | (go_at_call 6; refine (mul_any _ _ _ (by first | assumption | exact ⟨by decide, by decide⟩) (by first | assumption | exact ⟨by decide, by decide⟩)).mono ?_; rintro e w' ⟨rfl, rfl⟩)
    | (go_at_call 7; refine (div_any _ _ _ (by first | assumption | exact ⟨by decide, by decide⟩) (by first | assumption | exact ⟨by decide, by decide⟩)).mono ?_; rintro e w' ⟨rfl, n, rfl⟩)
    | fail)
    go_ret
    exact ⟨rfl, grown_drewN _ _⟩
  · have m : bits .and .i64 a0 1 = 1 := by rw [b]; omega
    have z : (h + h == a0 - 1) = false := by simp; omega
    have z2 : (h + h == a0 + 1) = true := by simp; omega
    have l : -9223372036854775807 ≤ a0 := by omega
    clear b c
    go_enter Try.func3, Try.ntmps3
    go_wp2_with (first
    | (go_at_call 5; refine (alive_any _).mono ?_; rintro e w' ⟨rfl, n, rfl⟩)
    | (go_at_call 8; refine (add_any _ _ _ (by first | assumption | exact ⟨by decide, by decide⟩) (by first | assumption | exact ⟨by decide, by decide⟩)).mono ?_; rintro e w' ⟨rfl, rfl⟩)
    | (go_at_call 6; refine (mul_any _ _ _ (by first | assumption | exact ⟨by decide, by decide⟩) (by first | assumption | exact ⟨by decide, by decide⟩)).mono ?_; rintro e w' ⟨rfl, rfl⟩)
    | (go_at_call 7; refine (div_any _ _ _ (by first | assumption | exact ⟨by decide, by decide⟩) (by first | assumption | exact ⟨by decide, by decide⟩)).mono ?_; rintro e w' ⟨rfl, n, rfl⟩)
    | fail)
    go_ret
    exact ⟨rfl, grown_drewN _ _⟩

set_option maxRecDepth 100000 in
theorem lifted (os : Os) (started : os.Started) (H : Type) (enc : TypeId × Value → H) :
    ReturnsInHanded {} Try.checked os 3 .any (Rows.fixHalvesSpec.pre6 enc Try.prog Try.f3 Rows.fixHalvesRow.domain false) (Rows.fixHalvesSpec.post enc Try.prog Try.f3 false true false false) := by
  refine returnsInHanded_of_change (C := Try.checked) own started (by kernel_rfl) Try.func3
    (ChangeSpec.witness6 (enc := enc) (C := Try.checked) false ⟨#[], #[.int .i64 0], []⟩ 8 (by kernel_rfl) (by kernel_rfl) (by kernel_rfl) (by kernel_rfl)) ?_
  intro W base args ds gs before hval0 hW hcnd _
  have hval : ∀ (j : Nat) t v, Try.f3.params[j]? = some t → args[j]? = some v → Value.okWide Try.prog W .any base t v := hval0
  have hW' := hW
  obtain ⟨p, q, hA0, hV, rfl, hfz, hnd⟩ := hW
  have hA : DataW.TrodAll enc Try.prog W 0 (fun _ => true) true Try.f3.params.toList args.toList ds p := hA0
  rw [Try.params3] at hA hval
  obtain ⟨v0, vs0, d0, ds0, p0, q0, hargs, rfl, rfl, h0, r0⟩ := trodAll_cons hA
  obtain ⟨rfl, rfl, rfl⟩ := trodAll_nil r0
  obtain rfl : args = #[v0] := by cases args; simp_all
  obtain ⟨rfl, rfl⟩ := trodVars_none hV
  obtain ⟨a0, rfl, rfl, rfl, w0⟩ := open_int Try.underlying22 (hval 0 22 v0 rfl rfl) h0
  clear hA0 hval0
  simp only [List.append_nil] at hW'
  refine (walk a0 w0 W).mono fun e W' ⟨he, hg⟩ => ?_
  subst he
  exact ⟨_, rfl, post_of_same (pa := []) (pv := []) hW' (fun _ _ _ => (trodAll_cons_mk (shut_bool Try.underlying4 _) trodAll_mk0)) (fun sp _ => (trodAll_cons_mk (shut_int Try.underlying22 w0) trodAll_mk0)) (fun _ _ => rfl) rfl
    (hg.frame _) hg.2.1 (ok_one (by kernel_rfl) rfl (okWide_bool_mk Try.underlying4 _))⟩

theorem over : Rows.fixHalvesRow.holds Try.pinned (OpenSpec.ofChange Rows.fixHalvesSpec) :=
  OpenClaim.holds_of_wide 3 Try.f3 rfl rfl rfl rfl rfl rfl rfl ⟨rfl, rfl, rfl, rfl, rfl⟩ rfl rfl rfl rfl rfl (by kernel_rfl) Try.func3 (by kernel_rfl)
    (of_decide_eq_true (by kernel_rfl)) (by unfold Func.isWrapper; first | (rw [if_pos (by decide +kernel)]; kernel_rfl) | (rw [if_neg (by decide +kernel)]; exact ⟨rfl, rfl⟩))
    (fun os started H enc _ => lifted os started H enc)

theorem proved : Rows.FixHalvesSaid :=
  over
end Go.Proofs.Ytgemflldnplkbab.fixHalves

namespace Go.Proofs.Ytgemflldnplkbab
theorem fixHalves_holds : Rows.FixHalvesSaid := fixHalves.proved
end Go.Proofs.Ytgemflldnplkbab

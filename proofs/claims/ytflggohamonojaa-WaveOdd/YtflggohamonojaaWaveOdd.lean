/-
  Proved: maquettelaw5.WaveOdd returns true for every int, and leaves what it was given as it was; no condition.
-/
import Derived.Test.YtflggohamonojaaRows
import Derived.Test.YtflggohamonojaaWAlive
import Derived.WalkKit
import Derived.WalkSpells
import Derived.WalkLawsBesides
import Derived.ProofKit
import Derived.OpenShut
import Derived.ShutString
namespace Go.Proofs.Ytflggohamonojaa.waveOdd
open Go.ChangeShapes Go.WideShapes Go.ChangeAt Go.RowKit
open Go.ChangeMaps (open_string shut_string)
set_option linter.unusedVariables false

theorem own : ownKnob Try.prog.godebug = none := by kernel_rfl

set_option maxHeartbeats 1000000 in
theorem walk (a0 : Int) (w0 : (Lit.int .i64 a0).wf = true) (w : World) :
    Calls Try.prog 8 #[.int .i64 a0] w fun e w' => e = .returned (.bool true) ∧ Grown w w' := by
  have ha : inF a0 := inF_wf w0
  clear w0
  by_cases h : a0 = -9223372036854775808
  · subst h
    go_enter Try.func8, Try.ntmps8
    go_wp2_with (first
    | (go_at_call 9; refine (alive_any _).mono ?_; rintro e w' ⟨rfl, rfl⟩)
    | (go_at_call 14; refine (sin_any _ _ (by first | assumption | exact ⟨by omega, by omega⟩)).mono ?_; rintro e w' ⟨rfl, rfl⟩; (first | rw [(s1).out] | rw [(s2).out] | rw [(s3).out] | rw [(s4).out] | skip))
    | (go_at_call 16; refine (cos_any _ _ (by first | assumption | exact ⟨by omega, by omega⟩)).mono ?_; rintro e w' ⟨rfl, rfl⟩; (first | rw [(c1).out] | rw [(c2).out] | rw [(c3).out] | skip))
    | (go_at_call 12; refine (norm_any _ _ (by first | assumption | exact ⟨by omega, by omega⟩)).mono ?_; rintro e w' ⟨rfl, rfl⟩; (first | rw [(n1).out] | rw [(n2).out] | rw [(n3).out] | skip))
    | fail)
    go_ret
    exact ⟨rfl, Grown.refl _⟩
  have h' : (a0 == -9223372036854775808) = false := by simpa using h
  have ha' := ha
  unfold inF at ha
  have l : -9223372036854775807 ≤ a0 := by omega
  obtain ⟨na, hna⟩ : ∃ na, -a0 = na := ⟨_, rfl⟩
  have hb : inF na := ⟨by omega, by omega⟩
  have o1 : sinI na = -sinI a0 := sin_odd (by omega)
  have o2 : cosI na = cosI a0 := cos_odd (by omega)
  have b := sin_in a0
  obtain ⟨x, e1⟩ : ∃ x, sinI a0 = x := ⟨_, rfl⟩
  obtain ⟨y, e2⟩ : ∃ x, cosI a0 = x := ⟨_, rfl⟩
  rw [e1] at o1 b; rw [e2] at o2
  obtain ⟨n, m1⟩ : ∃ n, a0 % 65536 = n := ⟨_, rfl⟩
  obtain ⟨m, m2⟩ : ∃ n, na % 65536 = n := ⟨_, rfl⟩
  have m3 : n % 65536 = n := by omega
  have m4 : 0 ≤ n ∧ n ≤ 65535 ∧ 0 ≤ m ∧ m ≤ 65535 := by omega
  have m5 : (n + m).tmod 65536 = 0 := by rw [Int.tmod_eq_emod_of_nonneg (by omega)]; omega
  have s1 : Hid (_ = _) := o1; have s2 : Hid (_ = _) := e1
  have c1 : Hid (_ = _) := o2; have c2 : Hid (_ = _) := e2
  have n1 : Hid (_ = _) := m1; have n2 : Hid (_ = _) := m2; have n3 : Hid (_ = _) := m3
  clear o1 o2 e1 e2 m1 m2 m3 h
  have hn : inF n := ⟨by omega, by omega⟩
  obtain ⟨q1, q2, q3, q4⟩ := m4
  obtain ⟨b1, b2⟩ := b
  go_enter Try.func8, Try.ntmps8
  go_wp2_with (first
    | (go_at_call 9; refine (alive_any _).mono ?_; rintro e w' ⟨rfl, rfl⟩)
    | (go_at_call 14; refine (sin_any _ _ (by first | assumption | exact ⟨by omega, by omega⟩)).mono ?_; rintro e w' ⟨rfl, rfl⟩; (first | rw [(s1).out] | rw [(s2).out] | rw [(s3).out] | rw [(s4).out] | skip))
    | (go_at_call 16; refine (cos_any _ _ (by first | assumption | exact ⟨by omega, by omega⟩)).mono ?_; rintro e w' ⟨rfl, rfl⟩; (first | rw [(c1).out] | rw [(c2).out] | rw [(c3).out] | skip))
    | (go_at_call 12; refine (norm_any _ _ (by first | assumption | exact ⟨by omega, by omega⟩)).mono ?_; rintro e w' ⟨rfl, rfl⟩; (first | rw [(n1).out] | rw [(n2).out] | rw [(n3).out] | skip))
    | fail)
  all_goals (go_ret; exact ⟨rfl, Grown.refl _⟩)

set_option maxRecDepth 100000 in
theorem lifted (os : Os) (started : os.Started) (H : Type) (enc : TypeId × Value → H) :
    ReturnsInHanded {} Try.checked os 8 .any (Rows.waveOddSpec.pre6 enc Try.prog Try.f8 Rows.waveOddRow.domain false) (Rows.waveOddSpec.post enc Try.prog Try.f8 false true false false) := by
  refine returnsInHanded_of_change (C := Try.checked) own started (by kernel_rfl) Try.func8
    (ChangeSpec.witness6 (enc := enc) (C := Try.checked) false ⟨#[], #[.int .i64 0], []⟩ 8 (by kernel_rfl) (by kernel_rfl) (by kernel_rfl) (by kernel_rfl)) ?_
  intro W base args ds gs before hval0 hW hcnd _
  have hval : ∀ (j : Nat) t v, Try.f8.params[j]? = some t → args[j]? = some v → Value.okWide Try.prog W .any base t v := hval0
  have hW' := hW
  obtain ⟨p, q, hA0, hV, rfl, hfz, hnd⟩ := hW
  have hA : DataW.TrodAll enc Try.prog W 0 (fun _ => true) true Try.f8.params.toList args.toList ds p := hA0
  rw [Try.params8] at hA hval
  obtain ⟨v0, vs0, d0, ds0, p0, q0, hargs, rfl, rfl, h0, r0⟩ := trodAll_cons hA
  obtain ⟨rfl, rfl, rfl⟩ := trodAll_nil r0
  obtain rfl : args = #[v0] := by cases args; simp_all
  obtain ⟨rfl, rfl⟩ := trodVars_none hV
  obtain ⟨a0, rfl, rfl, rfl, w0⟩ := open_int Try.underlying3 (hval 0 3 v0 rfl rfl) h0
  clear hA0 hval0
  simp only [List.append_nil] at hW'
  refine (walk a0 w0 W).mono fun e W' ⟨he, hg⟩ => ?_
  subst he
  exact ⟨_, rfl, post_of_same (pa := []) (pv := []) hW' (fun _ _ _ => (trodAll_cons_mk (shut_bool Try.underlying4 _) trodAll_mk0)) (fun sp _ => (trodAll_cons_mk (shut_int Try.underlying3 w0) trodAll_mk0)) (fun _ _ => rfl) rfl
    (hg.frame _) hg.2.1 (ok_one (by kernel_rfl) rfl (okWide_bool_mk Try.underlying4 _))⟩

theorem over : Rows.waveOddRow.holds Try.pinned (OpenSpec.ofChange Rows.waveOddSpec) :=
  OpenClaim.holds_of_wide 8 Try.f8 rfl rfl rfl rfl rfl rfl rfl ⟨rfl, rfl, rfl, rfl, rfl⟩ rfl rfl rfl rfl rfl (by kernel_rfl) Try.func8 (by kernel_rfl)
    (of_decide_eq_true (by kernel_rfl)) (by unfold Func.isWrapper; first | (rw [if_pos (by decide +kernel)]; kernel_rfl) | (rw [if_neg (by decide +kernel)]; exact ⟨rfl, rfl⟩))
    (fun os started H enc _ => lifted os started H enc)

theorem proved : Rows.WaveOddSaid :=
  over
end Go.Proofs.Ytflggohamonojaa.waveOdd

namespace Go.Proofs.Ytflggohamonojaa
theorem waveOdd_holds : Rows.WaveOddSaid := waveOdd.proved
end Go.Proofs.Ytflggohamonojaa

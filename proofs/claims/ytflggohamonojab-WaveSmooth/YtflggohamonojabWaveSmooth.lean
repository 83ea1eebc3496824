/-
  Proved: maquettelaw5.WaveSmooth returns true for every int, and leaves what it was given as it was; no condition.
-/
import Derived.Test.YtflggohamonojabRows
import Derived.Test.YtflggohamonojabWAlive
import Derived.WalkKit
import Derived.WalkSpells
import Derived.WalkLawsBesides
import Derived.ProofKit
import Derived.OpenShut
import Derived.ShutString
namespace Go.Proofs.Ytflggohamonojab.waveSmooth
open Go.ChangeShapes Go.WideShapes Go.ChangeAt Go.RowKit
open Go.ChangeMaps (open_string shut_string)
set_option linter.unusedVariables false

theorem own : ownKnob Try.prog.godebug = none := by kernel_rfl

theorem both_signs {d : Int} (h0 : -4294966 < d) (h1 : d < 4294966) : ∃ n m : Int, -d = n ∧ max d n = m ∧ m < 4294967 ∧ -4294966 < n ∧ n < 4294967 ∧ d < 4294967 := by
  refine ⟨_, _, rfl, rfl, ?_, by omega, by omega, by omega⟩
  omega
theorem cos_step (a : Int) : -4294966 < cosI (a + 1) - cosI a ∧ cosI (a + 1) - cosI a < 4294966 := by
  have h := sin_step (a + 16384)
  unfold cosI
  rw [show a + 1 + 16384 = a + 16384 + 1 by omega]
  exact h
set_option maxHeartbeats 1000000 in
theorem walk (a0 : Int) (w0 : (Lit.int .i64 a0).wf = true) (w : World) :
    Calls Try.prog 3 #[.int .i64 a0] w fun e w' => e = .returned (.bool true) ∧ Grown w w' := by
  have ha : inF a0 := inF_wf w0
  clear w0
  by_cases g : a0 < -1099511627776
  · go_enter Try.func3, Try.ntmps3
    go_wp2_with (first
    | (go_at_call 4; refine (alive_any _).mono ?_; rintro e w' ⟨rfl, rfl⟩)
    | (go_at_call 5; refine (sin_any _ _ (by first | assumption | exact ⟨by omega, by omega⟩)).mono ?_; rintro e w' ⟨rfl, rfl⟩; (first | rw [(s1).out] | rw [(s2).out] | rw [(s3).out] | rw [(s4).out] | skip))
    | (go_at_call 6; refine (cos_any _ _ (by first | assumption | exact ⟨by omega, by omega⟩)).mono ?_; rintro e w' ⟨rfl, rfl⟩; (first | rw [(c1).out] | rw [(c2).out] | rw [(c3).out] | skip))
    | (go_at_call 8; refine (norm_any _ _ (by first | assumption | exact ⟨by omega, by omega⟩)).mono ?_; rintro e w' ⟨rfl, rfl⟩; (first | rw [(n1).out] | rw [(n2).out] | rw [(n3).out] | skip))
    | fail)
    go_ret
    exact ⟨rfl, Grown.refl _⟩
  have g1 : -1099511627776 ≤ a0 := Int.not_lt.1 g
  clear g
  by_cases k : 1099511627776 < a0
  · go_enter Try.func3, Try.ntmps3
    go_wp2_with (first
    | (go_at_call 4; refine (alive_any _).mono ?_; rintro e w' ⟨rfl, rfl⟩)
    | (go_at_call 5; refine (sin_any _ _ (by first | assumption | exact ⟨by omega, by omega⟩)).mono ?_; rintro e w' ⟨rfl, rfl⟩; (first | rw [(s1).out] | rw [(s2).out] | rw [(s3).out] | rw [(s4).out] | skip))
    | (go_at_call 6; refine (cos_any _ _ (by first | assumption | exact ⟨by omega, by omega⟩)).mono ?_; rintro e w' ⟨rfl, rfl⟩; (first | rw [(c1).out] | rw [(c2).out] | rw [(c3).out] | skip))
    | (go_at_call 8; refine (norm_any _ _ (by first | assumption | exact ⟨by omega, by omega⟩)).mono ?_; rintro e w' ⟨rfl, rfl⟩; (first | rw [(n1).out] | rw [(n2).out] | rw [(n3).out] | skip))
    | fail)
    go_ret
    exact ⟨rfl, Grown.refl _⟩
  have k1 : a0 ≤ 1099511627776 := Int.not_lt.1 k
  clear k
  have st := sin_step a0
  have ct := cos_step a0
  have b1 := sin_in (a0 + 1); have b2 := sin_in a0
  have b3 : -4294967296 ≤ cosI (a0 + 1) ∧ cosI (a0 + 1) ≤ 4294967296 := sin_in _; have b4 : -4294967296 ≤ cosI a0 ∧ cosI a0 ≤ 4294967296 := sin_in _
  obtain ⟨x1, e1⟩ : ∃ x, sinI (a0 + 1) = x := ⟨_, rfl⟩
  obtain ⟨x0, e0⟩ : ∃ x, sinI a0 = x := ⟨_, rfl⟩
  obtain ⟨y1, f1⟩ : ∃ x, cosI (a0 + 1) = x := ⟨_, rfl⟩
  obtain ⟨y0, f0⟩ : ∃ x, cosI a0 = x := ⟨_, rfl⟩
  rw [e1] at st b1; rw [e0] at st b2; rw [f1] at ct b3; rw [f0] at ct b4
  obtain ⟨d, hd⟩ : ∃ d, x1 - x0 = d := ⟨_, rfl⟩
  obtain ⟨l, hl⟩ : ∃ l, y1 - y0 = l := ⟨_, rfl⟩
  rw [hd] at st; rw [hl] at ct
  obtain ⟨nd, md, u1, u2, u3, u4, u5, u6⟩ := both_signs st.1 st.2
  obtain ⟨nl, ml, v1, v2, v3, v4, v5, v6⟩ := both_signs ct.1 ct.2
  obtain ⟨st1, st2⟩ := st
  obtain ⟨ct1, ct2⟩ := ct
  have s1 : Hid (_ = _) := e1; have s2 : Hid (_ = _) := e0
  have c1 : Hid (_ = _) := f1; have c2 : Hid (_ = _) := f0
  clear e1 e0 f1 f0
  go_enter Try.func3, Try.ntmps3
  go_wp2_with (first
    | (go_at_call 4; refine (alive_any _).mono ?_; rintro e w' ⟨rfl, rfl⟩)
    | (go_at_call 5; refine (sin_any _ _ (by first | assumption | exact ⟨by omega, by omega⟩)).mono ?_; rintro e w' ⟨rfl, rfl⟩; (first | rw [(s1).out] | rw [(s2).out] | rw [(s3).out] | rw [(s4).out] | skip))
    | (go_at_call 6; refine (cos_any _ _ (by first | assumption | exact ⟨by omega, by omega⟩)).mono ?_; rintro e w' ⟨rfl, rfl⟩; (first | rw [(c1).out] | rw [(c2).out] | rw [(c3).out] | skip))
    | (go_at_call 8; refine (norm_any _ _ (by first | assumption | exact ⟨by omega, by omega⟩)).mono ?_; rintro e w' ⟨rfl, rfl⟩; (first | rw [(n1).out] | rw [(n2).out] | rw [(n3).out] | skip))
    | fail)
  all_goals (go_ret; exact ⟨rfl, Grown.refl _⟩)

set_option maxRecDepth 100000 in
theorem lifted (os : Os) (started : os.Started) (H : Type) (enc : TypeId × Value → H) :
    ReturnsInHanded {} Try.checked os 3 .any (Rows.waveSmoothSpec.pre6 enc Try.prog Try.f3 Rows.waveSmoothRow.domain false) (Rows.waveSmoothSpec.post enc Try.prog Try.f3 false true false false) := by
  refine returnsInHanded_of_change (C := Try.checked) own started (by kernel_rfl) Try.func3
    (ChangeSpec.witness6 (enc := enc) (C := Try.checked) false ⟨#[], #[.int .i64 0], []⟩ 8 (by kernel_rfl) (by kernel_rfl) (by kernel_rfl) (by kernel_rfl)) ?_
  intro W base args ds gs before hval0 hW hcnd _
  have hval : ∀ (j : Nat) t v, Try.f3.params[j]? = some t → args[j]? = some v → Value.okWide Try.prog W .any base t v := hval0
  have hW' := hW
  obtain ⟨p, q, hA0, hV, rfl, hfz, hnd⟩ := hW
  have hA : DataW.TrodAll enc Try.prog W 0 (fun _ => true) true Try.f3.params.toList args.toList ds p := hA0
  rw [Try.params3] at hA hval
  obtain ⟨v0, vs0, d0, ds0, p0, q0, hargs, rfl, rfl, h0, r0⟩ := trodAll_cons hA
  obtain ⟨rfl, rfl, rfl⟩ := trodAll_nil r0
  obtain rfl : args = #[v0] := by cases args; simp_all
  obtain ⟨rfl, rfl⟩ := trodVars_none hV
  obtain ⟨a0, rfl, rfl, rfl, w0⟩ := open_int Try.underlying3 (hval 0 3 v0 rfl rfl) h0
  clear hA0 hval0
  simp only [List.append_nil] at hW'
  refine (walk a0 w0 W).mono fun e W' ⟨he, hg⟩ => ?_
  subst he
  exact ⟨_, rfl, post_of_same (pa := []) (pv := []) hW' (fun _ _ _ => (trodAll_cons_mk (shut_bool Try.underlying4 _) trodAll_mk0)) (fun sp _ => (trodAll_cons_mk (shut_int Try.underlying3 w0) trodAll_mk0)) (fun _ _ => rfl) rfl
    (hg.frame _) hg.2.1 (ok_one (by kernel_rfl) rfl (okWide_bool_mk Try.underlying4 _))⟩

theorem over : Rows.waveSmoothRow.holds Try.pinned (OpenSpec.ofChange Rows.waveSmoothSpec) :=
  OpenClaim.holds_of_wide 3 Try.f3 rfl rfl rfl rfl rfl rfl rfl ⟨rfl, rfl, rfl, rfl, rfl⟩ rfl rfl rfl rfl rfl (by kernel_rfl) Try.func3 (by kernel_rfl)
    (of_decide_eq_true (by kernel_rfl)) (by unfold Func.isWrapper; first | (rw [if_pos (by decide +kernel)]; kernel_rfl) | (rw [if_neg (by decide +kernel)]; exact ⟨rfl, rfl⟩))
    (fun os started H enc _ => lifted os started H enc)

theorem proved : Rows.WaveSmoothSaid :=
  over
end Go.Proofs.Ytflggohamonojab.waveSmooth

namespace Go.Proofs.Ytflggohamonojab
theorem waveSmooth_holds : Rows.WaveSmoothSaid := waveSmooth.proved
end Go.Proofs.Ytflggohamonojab

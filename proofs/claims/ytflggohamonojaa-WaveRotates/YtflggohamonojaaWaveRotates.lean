/-
  Proved: maquettelaw5.WaveRotates returns true for every two int64s and every int, and leaves what it was given as it was; no condition.
-/
import Derived.Test.YtflggohamonojaaRows
import Derived.Test.YtflggohamonojaaWAlive
import Derived.WalkKit
import Derived.WalkSpells
import Derived.WalkLawsBesides
import Derived.ProofKit
import Derived.OpenShut
import Derived.ShutString
namespace Go.Proofs.Ytflggohamonojaa.waveRotates
open Go.ChangeShapes Go.WideShapes Go.ChangeAt Go.RowKit
open Go.ChangeMaps (open_string shut_string)
set_option linter.unusedVariables false

theorem own : ownKnob Try.prog.godebug = none := by kernel_rfl

theorem mulR_minus {a : Int} (ha : inF a) (h : a ≠ -9223372036854775808) : mulR a (-4294967296) = (-a, 0) := by
  unfold inF at ha
  have e := mulR_one (a := -a) ⟨by omega, by omega⟩
  rw [← mulR_neg_neg, Int.neg_neg]
  exact e
theorem rot_told {x y s c p q r t : Int} (h1 : mulR x c = (p, 0)) (h2 : mulR y s = (q, 0)) (h4 : mulR x s = (r, 0)) (h5 : mulR y c = (t, 0)) (i1 : inF (p - q)) (i2 : inF (r + t)) : rotR x y s c = (p - q, r + t, 0) := by
  unfold rotR
  rw [h1, h2, h4, h5, show subR p q = (p - q, 0) from inR_ok i1, show addR r t = (r + t, 0) from inR_ok i2]
  simp
theorem mulR_nought (a : Int) : mulR a 0 = (0, 0) := mulR_zero a
set_option maxHeartbeats 1000000 in
theorem walk (a0 : Int) (a1 : Int) (a2 : Int) (w0 : (Lit.int .i64 a0).wf = true) (w1 : (Lit.int .i64 a1).wf = true) (w2 : (Lit.int .i64 a2).wf = true) (w : World) :
    Calls Try.prog 6 #[.int .i64 a0, .int .i64 a1, .int .i64 a2] w fun e w' => e = .returned (.bool true) ∧ Grown w w' := by
  have ha : inF a0 := inF_wf w0
  have hb : inF a1 := inF_wf w1
  have hn : inF a2 := inF_wf w2
  clear w0 w1 w2
  by_cases h : a0 = -9223372036854775808
  · subst h
    go_enter Try.func6, Try.ntmps6
    go_wp2_with (first
    | (go_at_call 9; refine (alive_any _).mono ?_; rintro e w' ⟨rfl, rfl⟩)
    | (go_at_call 14; refine (sin_any _ _ (by first | assumption | exact ⟨by omega, by omega⟩)).mono ?_; rintro e w' ⟨rfl, rfl⟩; (first | rw [(s1).out] | rw [(s2).out] | rw [(s3).out] | rw [(s4).out] | skip))
    | (go_at_call 16; refine (cos_any _ _ (by first | assumption | exact ⟨by omega, by omega⟩)).mono ?_; rintro e w' ⟨rfl, rfl⟩; (first | rw [(c1).out] | rw [(c2).out] | rw [(c3).out] | skip))
    | (go_at_call 12; refine (norm_any _ _ (by first | assumption | exact ⟨by omega, by omega⟩)).mono ?_; rintro e w' ⟨rfl, rfl⟩; (first | rw [(n1).out] | rw [(n2).out] | rw [(n3).out] | skip))
    | fail)
    go_ret
    exact ⟨rfl, Grown.refl _⟩
  have h' : (a0 == -9223372036854775808) = false := by simpa using h
  by_cases k : a1 = -9223372036854775808
  · subst k
    go_enter Try.func6, Try.ntmps6
    go_wp2_with (first
    | (go_at_call 9; refine (alive_any _).mono ?_; rintro e w' ⟨rfl, rfl⟩)
    | (go_at_call 14; refine (sin_any _ _ (by first | assumption | exact ⟨by omega, by omega⟩)).mono ?_; rintro e w' ⟨rfl, rfl⟩; (first | rw [(s1).out] | rw [(s2).out] | rw [(s3).out] | rw [(s4).out] | skip))
    | (go_at_call 16; refine (cos_any _ _ (by first | assumption | exact ⟨by omega, by omega⟩)).mono ?_; rintro e w' ⟨rfl, rfl⟩; (first | rw [(c1).out] | rw [(c2).out] | rw [(c3).out] | skip))
    | (go_at_call 12; refine (norm_any _ _ (by first | assumption | exact ⟨by omega, by omega⟩)).mono ?_; rintro e w' ⟨rfl, rfl⟩; (first | rw [(n1).out] | rw [(n2).out] | rw [(n3).out] | skip))
    | fail)
    go_ret
    exact ⟨rfl, Grown.refl _⟩
  have k' : (a1 == -9223372036854775808) = false := by simpa using k
  by_cases g : a2 < -1000
  · go_enter Try.func6, Try.ntmps6
    go_wp2_with (first
    | (go_at_call 9; refine (alive_any _).mono ?_; rintro e w' ⟨rfl, rfl⟩)
    | (go_at_call 14; refine (sin_any _ _ (by first | assumption | exact ⟨by omega, by omega⟩)).mono ?_; rintro e w' ⟨rfl, rfl⟩; (first | rw [(s1).out] | rw [(s2).out] | rw [(s3).out] | rw [(s4).out] | skip))
    | (go_at_call 16; refine (cos_any _ _ (by first | assumption | exact ⟨by omega, by omega⟩)).mono ?_; rintro e w' ⟨rfl, rfl⟩; (first | rw [(c1).out] | rw [(c2).out] | rw [(c3).out] | skip))
    | (go_at_call 12; refine (norm_any _ _ (by first | assumption | exact ⟨by omega, by omega⟩)).mono ?_; rintro e w' ⟨rfl, rfl⟩; (first | rw [(n1).out] | rw [(n2).out] | rw [(n3).out] | skip))
    | fail)
    go_ret
    exact ⟨rfl, Grown.refl _⟩
  have g1 : -1000 ≤ a2 := Int.not_lt.1 g
  clear g
  by_cases g : 1000 < a2
  · go_enter Try.func6, Try.ntmps6
    go_wp2_with (first
    | (go_at_call 9; refine (alive_any _).mono ?_; rintro e w' ⟨rfl, rfl⟩)
    | (go_at_call 14; refine (sin_any _ _ (by first | assumption | exact ⟨by omega, by omega⟩)).mono ?_; rintro e w' ⟨rfl, rfl⟩; (first | rw [(s1).out] | rw [(s2).out] | rw [(s3).out] | rw [(s4).out] | skip))
    | (go_at_call 16; refine (cos_any _ _ (by first | assumption | exact ⟨by omega, by omega⟩)).mono ?_; rintro e w' ⟨rfl, rfl⟩; (first | rw [(c1).out] | rw [(c2).out] | rw [(c3).out] | skip))
    | (go_at_call 12; refine (norm_any _ _ (by first | assumption | exact ⟨by omega, by omega⟩)).mono ?_; rintro e w' ⟨rfl, rfl⟩; (first | rw [(n1).out] | rw [(n2).out] | rw [(n3).out] | skip))
    | fail)
    go_ret
    exact ⟨rfl, Grown.refl _⟩
  have g2 : a2 ≤ 1000 := Int.not_lt.1 g
  clear g
  have fx := mulR_one ha; have fy := mulR_one hb; have zx := mulR_zero a0; have zy := mulR_zero a1; have mx := mulR_minus ha h; have my := mulR_minus hb k
  have ha' := ha; have hb' := hb
  unfold inF at ha hb
  have e1 : sinI (a2 * 65536) = 0 := by rw [sin_at (n := 0) (by omega) (by decide), arc_zero]
  have e2 : cosI (a2 * 65536) = 4294967296 := by unfold cosI; rw [sin_at (n := 16384) (by omega) (by decide), arc_quarter]
  have e3 : sinI (a2 * 65536 + 32768) = 0 := by rw [sin_half (a := a2 * 65536) rfl, e1]; rfl
  have e4 : cosI (a2 * 65536 + 32768) = -4294967296 := by unfold cosI; rw [sin_behind (n := 16384) (by omega) (by decide), arc_quarter]
  have e5 : sinI (a2 * 65536 + 16384) = 4294967296 := by rw [sin_at (n := 16384) (by omega) (by decide), arc_quarter]
  have e6 : cosI (a2 * 65536 + 16384) = 0 := by unfold cosI; rw [sin_behind (n := 0) (by omega) (by decide), arc_zero]; rfl
  have t1 := rot_told fx zy zx fy ⟨by omega, by omega⟩ ⟨by omega, by omega⟩
  have t2 := rot_told mx zy zx my ⟨by omega, by omega⟩ ⟨by omega, by omega⟩
  have t3 := rot_told zx fy fx zy ⟨by omega, by omega⟩ ⟨by omega, by omega⟩
  rw [Int.sub_zero, Int.zero_add] at t1 t2
  rw [Int.zero_sub, Int.add_zero] at t3
  have r1 : Hid (rotR a0 a1 (sinI (a2 * 65536)) (cosI (a2 * 65536)) = (a0, a1, 0)) := by rw [e1, e2]; exact t1
  have r2 : Hid (rotR a0 a1 (sinI (a2 * 65536 + 32768)) (cosI (a2 * 65536 + 32768)) = (-a0, -a1, 0)) := by rw [e3, e4]; exact t2
  have r3 : Hid (rotR a0 a1 (sinI (a2 * 65536 + 16384)) (cosI (a2 * 65536 + 16384)) = (-a1, a0, 0)) := by rw [e5, e6]; exact t3
  have l1 : -9223372036854775807 ≤ a0 := by omega
  have l2 : -9223372036854775807 ≤ a1 := by omega
  clear fx fy zx zy mx my e1 e2 e3 e4 e5 e6 t1 t2 t3 h k
  go_enter Try.func6, Try.ntmps6
  go_wp2_with (first
    | (go_at_call 9; refine (alive_any _).mono ?_; rintro e w' ⟨rfl, rfl⟩)
    | (go_at_call 11; refine (rotate_any _ _ _ _ (by assumption) (by assumption) ⟨by omega, by omega⟩).mono ?_; rintro e w' ⟨rfl, rfl⟩; (first | rw [r1.out] | rw [r2.out] | rw [r3.out])))
  all_goals (go_ret; exact ⟨rfl, Grown.refl _⟩)

set_option maxRecDepth 100000 in
theorem lifted (os : Os) (started : os.Started) (H : Type) (enc : TypeId × Value → H) :
    ReturnsInHanded {} Try.checked os 6 .any (Rows.waveRotatesSpec.pre6 enc Try.prog Try.f6 Rows.waveRotatesRow.domain false) (Rows.waveRotatesSpec.post enc Try.prog Try.f6 false true false false) := by
  refine returnsInHanded_of_change (C := Try.checked) own started (by kernel_rfl) Try.func6
    (ChangeSpec.witness6 (enc := enc) (C := Try.checked) false ⟨#[], #[.int .i64 0, .int .i64 0, .int .i64 0], []⟩ 8 (by kernel_rfl) (by kernel_rfl) (by kernel_rfl) (by kernel_rfl)) ?_
  intro W base args ds gs before hval0 hW hcnd _
  have hval : ∀ (j : Nat) t v, Try.f6.params[j]? = some t → args[j]? = some v → Value.okWide Try.prog W .any base t v := hval0
  have hW' := hW
  obtain ⟨p, q, hA0, hV, rfl, hfz, hnd⟩ := hW
  have hA : DataW.TrodAll enc Try.prog W 0 (fun _ => true) true Try.f6.params.toList args.toList ds p := hA0
  rw [Try.params6] at hA hval
  obtain ⟨v0, vs0, d0, ds0, p0, q0, hargs, rfl, rfl, h0, r0⟩ := trodAll_cons hA
  obtain ⟨v1, vs1, d1, ds1, p1, q1, rfl, rfl, rfl, h1, r1⟩ := trodAll_cons r0
  obtain ⟨v2, vs2, d2, ds2, p2, q2, rfl, rfl, rfl, h2, r2⟩ := trodAll_cons r1
  obtain ⟨rfl, rfl, rfl⟩ := trodAll_nil r2
  obtain rfl : args = #[v0, v1, v2] := by cases args; simp_all
  obtain ⟨rfl, rfl⟩ := trodVars_none hV
  obtain ⟨a0, rfl, rfl, rfl, w0⟩ := open_int Try.underlying22 (hval 0 22 v0 rfl rfl) h0
  obtain ⟨a1, rfl, rfl, rfl, w1⟩ := open_int Try.underlying22 (hval 1 22 v1 rfl rfl) h1
  obtain ⟨a2, rfl, rfl, rfl, w2⟩ := open_int Try.underlying3 (hval 2 3 v2 rfl rfl) h2
  clear hA0 hval0
  simp only [List.append_nil] at hW'
  refine (walk a0 a1 a2 w0 w1 w2 W).mono fun e W' ⟨he, hg⟩ => ?_
  subst he
  exact ⟨_, rfl, post_of_same (pa := []) (pv := []) hW' (fun _ _ _ => (trodAll_cons_mk (shut_bool Try.underlying4 _) trodAll_mk0)) (fun sp _ => (trodAll_cons_mk (shut_int Try.underlying22 w0) (trodAll_cons_mk (shut_int Try.underlying22 w1) (trodAll_cons_mk (shut_int Try.underlying3 w2) trodAll_mk0)))) (fun _ _ => rfl) rfl
    (hg.frame _) hg.2.1 (ok_one (by kernel_rfl) rfl (okWide_bool_mk Try.underlying4 _))⟩

theorem over : Rows.waveRotatesRow.holds Try.pinned (OpenSpec.ofChange Rows.waveRotatesSpec) :=
  OpenClaim.holds_of_wide 6 Try.f6 rfl rfl rfl rfl rfl rfl rfl ⟨rfl, rfl, rfl, rfl, rfl⟩ rfl rfl rfl rfl rfl (by kernel_rfl) Try.func6 (by kernel_rfl)
    (of_decide_eq_true (by kernel_rfl)) (by unfold Func.isWrapper; first | (rw [if_pos (by decide +kernel)]; kernel_rfl) | (rw [if_neg (by decide +kernel)]; exact ⟨rfl, rfl⟩))
    (fun os started H enc _ => lifted os started H enc)

theorem proved : Rows.WaveRotatesSaid :=
  over
end Go.Proofs.Ytflggohamonojaa.waveRotates

namespace Go.Proofs.Ytflggohamonojaa
theorem waveRotates_holds : Rows.WaveRotatesSaid := waveRotates.proved
end Go.Proofs.Ytflggohamonojaa

/-
  Proved: maquettelaw11.PushSlows returns true for every x, y, m and n (two that go towards one another go apart behind a contact, no faster than they came), and leaves what it was given as it was; no condition.
-/
import Derived.Test.YtcancbgaejekiabRows
import Derived.Test.YtcancbgaejekiabJAlive
import Derived.Test.YtcancbgaejekiabJSlow
import Derived.WalkKit
import Derived.Deep.QuietTactic
import Derived.BigQuiet
import Derived.WalkSpells
import Derived.Deep.CutRange
import Derived.Deep.CutBlock
import Derived.WalkLawsBesides
import Derived.ProofKit
import Derived.OpenShut
namespace Go.Proofs.Ytcancbgaejekiab.pushSlows
open Go.ChangeShapes Go.WideShapes Go.ChangeAt Go.RowKit
set_option linter.unusedVariables false

theorem own : ownKnob Try.prog.godebug = none := by kernel_rfl

set_option maxHeartbeats 16000000 in
theorem walk (a0 : Int) (f0 : inF a0) (a1 : Int) (f1 : inF a1) (a2 : Int) (f2 : inF a2) (a3 : Int) (f3 : inF a3) (w : World)    :
    Calls Try.prog 3 #[.int .i64 a0, .int .i64 a1, .int .i64 a2, .int .i64 a3] w fun e w' => e = .returned (.bool true) ∧ Grown w w' := by
  have hmf := mk_func
  by_cases hc : (-100 ≤ a0 ∧ a0 ≤ 100) ∧ (-100 ≤ a1 ∧ a1 ≤ 100) ∧ (1 ≤ a2 ∧ a2 ≤ 50) ∧ 1 ≤ a3 ∧ a3 ≤ 50
  rotate_left
  · by_cases c1 : a0 < -100
    · clear hc f0 f1 f2 f3
      go_enter Try.func3, Try.ntmps3
      go_wp2_with (first
        | (go_at_call 4; go_fit (alive_any _); rintro e V1 ⟨rfl, U1⟩))
      go_ret
      exact ⟨rfl, U1.grown⟩
    by_cases c2 : a1 < -100
    · clear hc f0 f1 f2 f3
      go_enter Try.func3, Try.ntmps3
      go_wp2_with (first
        | (go_at_call 4; go_fit (alive_any _); rintro e V1 ⟨rfl, U1⟩))
      go_ret
      exact ⟨rfl, U1.grown⟩
    by_cases c3 : 100 < a0
    · clear hc f0 f1 f2 f3
      go_enter Try.func3, Try.ntmps3
      go_wp2_with (first
        | (go_at_call 4; go_fit (alive_any _); rintro e V1 ⟨rfl, U1⟩))
      go_ret
      exact ⟨rfl, U1.grown⟩
    by_cases c4 : 100 < a1
    · clear hc f0 f1 f2 f3
      go_enter Try.func3, Try.ntmps3
      go_wp2_with (first
        | (go_at_call 4; go_fit (alive_any _); rintro e V1 ⟨rfl, U1⟩))
      go_ret
      exact ⟨rfl, U1.grown⟩
    by_cases c5 : a2 < 1
    · clear hc f0 f1 f2 f3
      go_enter Try.func3, Try.ntmps3
      go_wp2_with (first
        | (go_at_call 4; go_fit (alive_any _); rintro e V1 ⟨rfl, U1⟩))
      go_ret
      exact ⟨rfl, U1.grown⟩
    by_cases c6 : a3 < 1
    · clear hc f0 f1 f2 f3
      go_enter Try.func3, Try.ntmps3
      go_wp2_with (first
        | (go_at_call 4; go_fit (alive_any _); rintro e V1 ⟨rfl, U1⟩))
      go_ret
      exact ⟨rfl, U1.grown⟩
    by_cases c7 : 50 < a2
    · clear hc f0 f1 f2 f3
      go_enter Try.func3, Try.ntmps3
      go_wp2_with (first
        | (go_at_call 4; go_fit (alive_any _); rintro e V1 ⟨rfl, U1⟩))
      go_ret
      exact ⟨rfl, U1.grown⟩
    by_cases c8 : 50 < a3
    · clear hc f0 f1 f2 f3
      go_enter Try.func3, Try.ntmps3
      go_wp2_with (first
        | (go_at_call 4; go_fit (alive_any _); rintro e V1 ⟨rfl, U1⟩))
      go_ret
      exact ⟨rfl, U1.grown⟩
    exact absurd ⟨⟨by omega, by omega⟩, ⟨by omega, by omega⟩, ⟨by omega, by omega⟩, by omega, by omega⟩ hc
  obtain ⟨⟨x1, x2⟩, ⟨y1, y2⟩, ⟨m1, m2⟩, n1, n2⟩ := hc
  have xm : -5000 ≤ a0 * a2 ∧ a0 * a2 ≤ 5000 := by
    have h1 := Int.mul_le_mul_of_nonneg_right x1 (show 0 ≤ a2 by omega)
    have h2 := Int.mul_le_mul_of_nonneg_right x2 (show 0 ≤ a2 by omega)
    omega
  have yn : -5000 ≤ a1 * a3 ∧ a1 * a3 ≤ 5000 := by
    have h1 := Int.mul_le_mul_of_nonneg_right y1 (show 0 ≤ a3 by omega)
    have h2 := Int.mul_le_mul_of_nonneg_right y2 (show 0 ≤ a3 by omega)
    omega
  obtain ⟨xm1, xm2⟩ := xm
  obtain ⟨yn1, yn2⟩ := yn
  have e1 : a0 * 4294967296 * a2 = a0 * a2 * 4294967296 := by grind
  have e2 : a1 * 4294967296 * a3 = a1 * a3 * 4294967296 := by grind
  have cs := @contact_slow a2 a3 (a0 * 4294967296) (a1 * 4294967296) (by omega) m2 (by omega) n2 ⟨by omega, by omega⟩ ⟨by omega, by omega⟩ (by omega) (by omega)
  have ct := @contact_same a2 a3 (a0 * 4294967296) (a1 * 4294967296) (by omega) m2 (by omega) n2 ⟨by omega, by omega⟩ ⟨by omega, by omega⟩
  have sg := @slow_gone a2 a3 (a0 * 4294967296) (a1 * 4294967296) (by omega) m2 (by omega) n2 (by omega)
  have sb := @slow_bound a2 a3 (a0 * 4294967296 - a1 * 4294967296) (by omega) m2 (by omega) n2
  rw [e1, e2] at cs ct sg
  clear e1 e2
  obtain ⟨J, hJ⟩ : ∃ J, J = slowJ a2 a3 (a0 * 4294967296 - a1 * 4294967296) := ⟨_, rfl⟩
  rw [← hJ] at cs sg sb
  clear hJ
  obtain ⟨P, hP⟩ : ∃ P, P = a0 * a2 * 4294967296 := ⟨_, rfl⟩
  obtain ⟨Q, hQ⟩ : ∃ Q, Q = a1 * a3 * 4294967296 := ⟨_, rfl⟩
  rw [← hP, ← hQ] at cs ct sg
  have p1 : -21474836480000 ≤ P := by omega
  have p2 : P ≤ 21474836480000 := by omega
  have q1 : -21474836480000 ≤ Q := by omega
  have q2 : Q ≤ 21474836480000 := by omega
  have oA : (ballM (a2 * 4294967296) P).ok := by constructor <;> constructor <;> simp only [ballM] <;> omega
  have oB : (ballM (a3 * 4294967296) Q).ok := by constructor <;> constructor <;> simp only [ballM] <;> omega
  have CS : Hid _ := cs
  have CT : Hid _ := ct
  have SG : Hid _ := sg
  have SB : Hid _ := sb
  clear cs ct sg sb f0 f1 f2 f3
  go_enter Try.func3, Try.ntmps3
  go_wp2_with (first
    | (go_at_call 4; go_fit (alive_any _); rintro e V1 ⟨rfl, U1⟩))
  rw [← hP, ← hQ]
  obtain ⟨W, hW⟩ : ∃ W, W = (((V1.alloc (.cells #[.int .i64 1, .int .i64 4294967296, .int .i64 0, .int .i64 (a2 * 4294967296), .int .i64 0, .int .i64 0, .int .i64 P, .int .i64 0] 27)).alloc (.cells #[.int .i64 1, .int .i64 4294967296, .int .i64 0, .int .i64 (a3 * 4294967296), .int .i64 0, .int .i64 0, .int .i64 Q, .int .i64 0] 27)).alloc (.cells #[.int .i64 0, .int .i64 0, .int .i64 0, .int .i64 0, .int .i64 0, .int .i64 0, .int .i64 0, .int .i64 0] 27)).alloc (.cells #[.int .i64 0, .int .i64 0, .int .i64 0, .int .i64 0, .int .i64 0, .int .i64 0, .int .i64 0, .int .i64 0] 27) := ⟨_, rfl⟩
  rw [← hW]
  have gW : Grew V1 W := by rw [hW]; exact ((((Grew.refl V1).alloc _ _).alloc _ _).alloc _ _).alloc _ _
  have sz : W.heap.size = V1.heap.size + 1 + 1 + 1 + 1 := by rw [hW]; simp [go_sem]
  have hA : BAt W V1.heap.size (ballM (a2 * 4294967296) P) := by rw [hW]; constructor <;> simp [go_sem, ballM]
  have hB : BAt W (V1.heap.size + 1) (ballM (a3 * 4294967296) Q) := by rw [hW]; constructor <;> simp [go_sem, ballM]
  have hC : BAt W (V1.heap.size + 1 + 1) noB := by rw [hW]; constructor <;> simp [go_sem, noB]
  have hD : BAt W (V1.heap.size + 1 + 1 + 1) noB := by rw [hW]; constructor <;> simp [go_sem, noB]
  clear hW hP hQ
  generalize hX : V1.heap.size = X at *
  refine (try_set (S := fun n => n = X + 1 + 1 ∨ n = X + 1 + 1 + 1) (P := LeftP (X + 1 + 1) (X + 1 + 1 + 1) (contactR (ballM (a2 * 4294967296) P) (ballM (a3 * 4294967296) Q) ⟨4294967296, 0, 0⟩)) _ _ _ (fun _ => by simp [go_sem]) (fun n hn => by omega) (LeftP.keep (by omega) (by omega)) (fun W0 G => ?_)).mono ?_
  · exact ask_slows _ _ _ _ (by omega) _ _ oA oB W0 (hA.grew G) (hB.grew G) noB noB (hC.grew G) (hD.grew G) ((gW.trans G).freeB (by omega)) ((gW.trans G).freeB (by omega))
  rintro e V2 ⟨hW, x', rfl, hx'⟩
  have xA := hA.wrote hW (by omega)
  have xB := hB.wrote hW (by omega)
  have G1 : Hid (Grew w V2) := hW.to (U1.trans gW) (fun n hn => by have := U1.size; omega)
  clear hW hA hB hC hD sz oA oB U1 gW
  by_cases hl : a0 ≤ a1
  · rw [CT.out (by omega)] at hx'
    obtain ⟨rfl, h2⟩ := hx'
    obtain ⟨xC, xD⟩ := h2 rfl
    have ⟨aa0, aa1, aa2, aa3, aa4, aa5, aa6, aa7⟩ := xA
    have ⟨bb0, bb1, bb2, bb3, bb4, bb5, bb6, bb7⟩ := xB
    have ⟨cc0, cc1, cc2, cc3, cc4, cc5, cc6, cc7⟩ := xC
    have ⟨dd0, dd1, dd2, dd3, dd4, dd5, dd6, dd7⟩ := xD
    have hq1 := same_body (ballM (a2 * 4294967296) P)
    have hq2 := same_body (ballM (a3 * 4294967296) Q)
    simp only [ballM, Bd.val] at hq1 hq2 aa0 aa1 aa2 aa3 aa4 aa5 aa6 aa7 bb0 bb1 bb2 bb3 bb4 bb5 bb6 bb7 cc0 cc1 cc2 cc3 cc4 cc5 cc6 cc7 dd0 dd1 dd2 dd3 dd4 dd5 dd6 dd7
    clear h2 xA xB xC xD CS CT SG SB
    go_wp2
    go_ret
    exact ⟨rfl, G1.out.grown⟩
  have hl2 : a1 < a0 := by omega
  rw [CS.out (by omega)] at hx'
  obtain ⟨g1, g2⟩ := SG.out (by omega)
  obtain ⟨j1, j2, _⟩ := SB.out (by omega) (by omega)
  have j3 : J ≤ 33500744908800 := by omega
  clear j2
  obtain ⟨rfl, h2⟩ := hx'
  obtain ⟨xC, xD⟩ := h2 rfl
  have ⟨aa0, aa1, aa2, aa3, aa4, aa5, aa6, aa7⟩ := xA
  have ⟨bb0, bb1, bb2, bb3, bb4, bb5, bb6, bb7⟩ := xB
  have ⟨cc0, cc1, cc2, cc3, cc4, cc5, cc6, cc7⟩ := xC
  have ⟨dd0, dd1, dd2, dd3, dd4, dd5, dd6, dd7⟩ := xD
  simp only [ballM] at aa4 aa5 bb4 bb5 cc4 cc5 cc6 dd4 dd5 dd6
  have hq := same_vec 0 0
  obtain ⟨S, hS⟩ : ∃ S, S = P - J := ⟨_, rfl⟩
  obtain ⟨T, hT⟩ : ∃ T, T = Q + J := ⟨_, rfl⟩
  rw [← hS] at cc6 g1 g2
  rw [← hT] at dd6 g1 g2
  have s1 : -9223372036854775808 ≤ S ∧ S ≤ 9223372036854775807 := by omega
  have t1 : -9223372036854775808 ≤ T ∧ T ≤ 9223372036854775807 := by omega
  have w1 := IntWalk.wrap64_in _ (tdiv_in s1 (show ¬ a2 = 0 by omega) (by omega))
  have w2 := IntWalk.wrap64_in _ (tdiv_in t1 (show ¬ a3 = 0 by omega) (by omega))
  have z2 : (a2 == 0) = false := by simp; omega
  have z3 : (a3 == 0) = false := by simp; omega
  clear h2 xA xB xC xD CS CT SG SB hS hT s1 t1 hl p1 p2 q1 q2 xm1 xm2 yn1 yn2 j1 j3 aa0 aa1 aa2 aa3 aa6 aa7 bb0 bb1 bb2 bb3 bb6 bb7 cc0 cc1 cc2 cc3 cc7 dd0 dd1 dd2 dd3 dd7
  go_upto_region 11 with (fail)
  obtain ⟨u, hu⟩ : ∃ u, u = T.tdiv a3 - S.tdiv a2 := ⟨_, rfl⟩
  rw [← hu] at g1 g2
  have ww : Hid (wrap64 (T.tdiv a3 - S.tdiv a2) = u) := by show _ = _; rw [← hu]; exact IntWalk.wrap64_in _ ⟨by omega, by omega⟩
  have g3 : u ≤ (a0 - a1) * 4294967296 := by omega
  clear hu g2
  go_quiet (fail)
  rw [ww.out]
  go_wp2
  go_ret
  exact ⟨rfl, (G1.out.drewN _).grown⟩

set_option maxRecDepth 100000 in
theorem lifted (os : Os) (started : os.Started) (H : Type) (enc : TypeId × Value → H) :
    ReturnsInHanded {} Try.checked os 3 .any (Rows.pushSlowsSpec.pre6 enc Try.prog Try.f3 Rows.pushSlowsRow.domain false) (Rows.pushSlowsSpec.post enc Try.prog Try.f3 false true false false) := by
  refine returnsInHanded_of_change (C := Try.checked) own started (by kernel_rfl) Try.func3
    (ChangeSpec.witness6 (enc := enc) (C := Try.checked) false ⟨#[], #[.int .i64 0, .int .i64 0, .int .i64 0, .int .i64 0], []⟩ 8 (by kernel_rfl) (by kernel_rfl) (by kernel_rfl) (by kernel_rfl)) ?_
  intro W base args ds gs before hval0 hW hcnd _
  have hval : ∀ (j : Nat) t v, Try.f3.params[j]? = some t → args[j]? = some v → Value.okWide Try.prog W .any base t v := hval0
  have hW' := hW
  obtain ⟨p, q, hA0, hV, rfl, hfz, hnd⟩ := hW
  have hA : DataW.TrodAll enc Try.prog W 0 (fun _ => true) true Try.f3.params.toList args.toList ds p := hA0
  rw [Try.params3] at hA hval
  obtain ⟨v0, vs0, d0, ds0, p0, q0, hargs, rfl, rfl, h0, r0⟩ := trodAll_cons hA
  obtain ⟨v1, vs1, d1, ds1, p1, q1, rfl, rfl, rfl, h1, r1⟩ := trodAll_cons r0
  obtain ⟨v2, vs2, d2, ds2, p2, q2, rfl, rfl, rfl, h2, r2⟩ := trodAll_cons r1
  obtain ⟨v3, vs3, d3, ds3, p3, q3, rfl, rfl, rfl, h3, r3⟩ := trodAll_cons r2
  obtain ⟨rfl, rfl, rfl⟩ := trodAll_nil r3
  obtain rfl : args = #[v0, v1, v2, v3] := by cases args; simp_all
  obtain ⟨rfl, rfl⟩ := trodVars_none hV
  obtain ⟨a0, rfl, rfl, rfl, w0⟩ := open_int Try.underlying3 (hval 0 3 v0 rfl rfl) h0
  have f0 := inF_wf w0
  obtain ⟨a1, rfl, rfl, rfl, w1⟩ := open_int Try.underlying3 (hval 1 3 v1 rfl rfl) h1
  have f1 := inF_wf w1
  obtain ⟨a2, rfl, rfl, rfl, w2⟩ := open_int Try.underlying3 (hval 2 3 v2 rfl rfl) h2
  have f2 := inF_wf w2
  obtain ⟨a3, rfl, rfl, rfl, w3⟩ := open_int Try.underlying3 (hval 3 3 v3 rfl rfl) h3
  have f3 := inF_wf w3
  clear hA0 hval0
  simp only [List.append_nil] at hW'
  refine (walk a0 f0 a1 f1 a2 f2 a3 f3 W    ).mono fun e W' ⟨he, hg⟩ => ?_
  subst he
  exact ⟨_, rfl, post_of_same (pa := []) (pv := []) hW' (fun _ _ _ => (trodAll_cons_mk (shut_bool Try.underlying4 _) trodAll_mk0)) (fun sp _ => (trodAll_cons_mk (shut_int Try.underlying3 w0) (trodAll_cons_mk (shut_int Try.underlying3 w1) (trodAll_cons_mk (shut_int Try.underlying3 w2) (trodAll_cons_mk (shut_int Try.underlying3 w3) trodAll_mk0))))) (fun _ _ => rfl) rfl
    (hg.frame _) hg.2.1 (ok_one (by kernel_rfl) rfl (okWide_bool_mk Try.underlying4 _))⟩

theorem over : Rows.pushSlowsRow.holds Try.pinned (OpenSpec.ofChange Rows.pushSlowsSpec) :=
  OpenClaim.holds_of_wide 3 Try.f3 rfl rfl rfl rfl rfl rfl rfl ⟨rfl, rfl, rfl, rfl, rfl⟩ rfl rfl rfl rfl rfl (by kernel_rfl) Try.func3 (by kernel_rfl)
    (of_decide_eq_true (by kernel_rfl)) (by unfold Func.isWrapper; first | (rw [if_pos (by decide +kernel)]; kernel_rfl) | (rw [if_neg (by decide +kernel)]; exact ⟨rfl, rfl⟩))
    (fun os started H enc _ => lifted os started H enc)

theorem proved : Rows.PushSlowsSaid :=
  over
end Go.Proofs.Ytcancbgaejekiab.pushSlows

namespace Go.Proofs.Ytcancbgaejekiab
theorem pushSlows_holds : Rows.PushSlowsSaid := pushSlows.proved
end Go.Proofs.Ytcancbgaejekiab

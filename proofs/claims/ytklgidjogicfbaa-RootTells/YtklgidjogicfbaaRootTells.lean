/-
  Proved: maquettelaw4.RootTells returns true for every uint64 and every two int64s, and leaves what it was given as it was; no condition.
-/
import Derived.Test.YtklgidjogicfbaaRows
import Derived.Test.YtklgidjogicfbaaQAlive
import Derived.Test.YtklgidjogicfbaaQRef
import Derived.WalkKit
import Derived.WalkSpells
import Derived.WalkLawsBesides
import Derived.ProofKit
import Derived.OpenShut
import Derived.ShutString
namespace Go.Proofs.Ytklgidjogicfbaa.rootTells
open Go.ChangeShapes Go.WideShapes Go.ChangeAt Go.RowKit
open Go.ChangeMaps (open_string shut_string)
set_option linter.unusedVariables false

theorem own : ownKnob Try.prog.godebug = none := by kernel_rfl

theorem pair_of (r : Int × Int) : ∃ p q : Int, Hid (r = (p, q)) := ⟨r.1, r.2, rfl⟩
set_option maxHeartbeats 1000000 in
theorem walk (a0 : Int) (a1 : Int) (a2 : Int) (w0 : (Lit.int .u64 a0).wf = true) (w1 : (Lit.int .i64 a1).wf = true) (w2 : (Lit.int .i64 a2).wf = true) (w : World) :
    Calls Try.prog 3 #[.int .u64 a0, .int .i64 a1, .int .i64 a2] w fun e w' => e = .returned (.bool true) ∧ Grown w w' := by
  have hn : 0 ≤ a0 ∧ a0 ≤ 18446744073709551615 := by simp [Lit.wf, IntKind.min, IntKind.max, IntKind.signed, IntKind.bits] at w0; omega
  have ha : inF a1 := inF_wf w1
  have hb : inF a2 := inF_wf w2
  clear w0 w1 w2
  obtain ⟨n0, n1⟩ := hn
  obtain ⟨p, q, F⟩ := pair_of (sqR a1)
  obtain ⟨s, t, L⟩ := pair_of (lenR a1 a2)
  obtain ⟨r, R⟩ : ∃ r, Hid (rt a0 = r) := ⟨_, rfl⟩
  have K : wordsOf a0 0 a0 := ⟨by omega, by omega, by omega⟩
  go_enter Try.func3, Try.ntmps3
  go_wp2_with (first
    | (go_at_call 9; refine (alive_any _).mono ?_; rintro e V0 ⟨rfl, G0⟩)
    | (go_at_call 10; refine (rsqrt_any _ _ _ _ ha (by simp [go_sem]) (by simp [go_sem])).mono ?_; rintro e w' ⟨rfl, rfl⟩; rw [F.out])
    | (go_at_call 11; refine (rlen_any _ _ _ _ _ ha hb (by simp [go_sem]) (by simp [go_sem])).mono ?_; rintro e w' ⟨rfl, rfl⟩; rw [L.out])
    | (go_at_call 12; refine (sqrt_any _ _ ha).mono ?_; rintro e V1 ⟨rfl, U⟩; rw [F.out]; have c1 := U.cell (p := ⟨V0.heap.size, 0, none⟩) (v := .int .i64 q) (by simp [go_sem]); have c2 := U.cell (p := ⟨V0.heap.size + 1, 0, none⟩) (v := .int .i64 t) (by simp [go_sem]); have G := ((G0.alloc _ _).alloc _ _).trans U; clear U)
    | (go_at_call 13; refine (len_any _ _ _ ha hb).mono ?_; rintro e V2 ⟨rfl, U⟩; rw [L.out]; replace c1 := U.cell c1; replace c2 := U.cell c2; replace G := G.trans U; clear U)
    | (go_at_call 14; refine (int_any _ _ n0 n1).mono ?_; rintro e V3 ⟨rfl, U⟩; rw [R.out]; replace c1 := U.cell c1; replace c2 := U.cell c2; replace G := G.trans U; clear U)
    | (go_at_call 15; refine (rroot_any _ _ _ _ K).mono ?_; rintro e w' ⟨rfl, rfl⟩; rw [R.out]))
  go_ret
  exact ⟨rfl, G.grown⟩

set_option maxRecDepth 100000 in
theorem lifted (os : Os) (started : os.Started) (H : Type) (enc : TypeId × Value → H) :
    ReturnsInHanded {} Try.checked os 3 .any (Rows.rootTellsSpec.pre6 enc Try.prog Try.f3 Rows.rootTellsRow.domain false) (Rows.rootTellsSpec.post enc Try.prog Try.f3 false true false false) := by
  refine returnsInHanded_of_change (C := Try.checked) own started (by kernel_rfl) Try.func3
    (ChangeSpec.witness6 (enc := enc) (C := Try.checked) false ⟨#[], #[.int .u64 0, .int .i64 0, .int .i64 0], []⟩ 8 (by kernel_rfl) (by kernel_rfl) (by kernel_rfl) (by kernel_rfl)) ?_
  intro W base args ds gs before hval0 hW hcnd _
  have hval : ∀ (j : Nat) t v, Try.f3.params[j]? = some t → args[j]? = some v → Value.okWide Try.prog W .any base t v := hval0
  have hW' := hW
  obtain ⟨p, q, hA0, hV, rfl, hfz, hnd⟩ := hW
  have hA : DataW.TrodAll enc Try.prog W 0 (fun _ => true) true Try.f3.params.toList args.toList ds p := hA0
  rw [Try.params3] at hA hval
  obtain ⟨v0, vs0, d0, ds0, p0, q0, hargs, rfl, rfl, h0, r0⟩ := trodAll_cons hA
  obtain ⟨v1, vs1, d1, ds1, p1, q1, rfl, rfl, rfl, h1, r1⟩ := trodAll_cons r0
  obtain ⟨v2, vs2, d2, ds2, p2, q2, rfl, rfl, rfl, h2, r2⟩ := trodAll_cons r1
  obtain ⟨rfl, rfl, rfl⟩ := trodAll_nil r2
  obtain rfl : args = #[v0, v1, v2] := by cases args; simp_all
  obtain ⟨rfl, rfl⟩ := trodVars_none hV
  obtain ⟨a0, rfl, rfl, rfl, w0⟩ := open_int Try.underlying22 (hval 0 22 v0 rfl rfl) h0
  obtain ⟨a1, rfl, rfl, rfl, w1⟩ := open_int Try.underlying23 (hval 1 23 v1 rfl rfl) h1
  obtain ⟨a2, rfl, rfl, rfl, w2⟩ := open_int Try.underlying23 (hval 2 23 v2 rfl rfl) h2
  clear hA0 hval0
  simp only [List.append_nil] at hW'
  refine (walk a0 a1 a2 w0 w1 w2 W).mono fun e W' ⟨he, hg⟩ => ?_
  subst he
  exact ⟨_, rfl, post_of_same (pa := []) (pv := []) hW' (fun _ _ _ => (trodAll_cons_mk (shut_bool Try.underlying4 _) trodAll_mk0)) (fun sp _ => (trodAll_cons_mk (shut_int Try.underlying22 w0) (trodAll_cons_mk (shut_int Try.underlying23 w1) (trodAll_cons_mk (shut_int Try.underlying23 w2) trodAll_mk0)))) (fun _ _ => rfl) rfl
    (hg.frame _) hg.2.1 (ok_one (by kernel_rfl) rfl (okWide_bool_mk Try.underlying4 _))⟩

theorem over : Rows.rootTellsRow.holds Try.pinned (OpenSpec.ofChange Rows.rootTellsSpec) :=
  OpenClaim.holds_of_wide 3 Try.f3 rfl rfl rfl rfl rfl rfl rfl ⟨rfl, rfl, rfl, rfl, rfl⟩ rfl rfl rfl rfl rfl (by kernel_rfl) Try.func3 (by kernel_rfl)
    (of_decide_eq_true (by kernel_rfl)) (by unfold Func.isWrapper; first | (rw [if_pos (by decide +kernel)]; kernel_rfl) | (rw [if_neg (by decide +kernel)]; exact ⟨rfl, rfl⟩))
    (fun os started H enc _ => lifted os started H enc)

theorem proved : Rows.RootTellsSaid :=
  over
end Go.Proofs.Ytklgidjogicfbaa.rootTells

namespace Go.Proofs.Ytklgidjogicfbaa
theorem rootTells_holds : Rows.RootTellsSaid := rootTells.proved
end Go.Proofs.Ytklgidjogicfbaa

/-
  Proved: maquettelaw1.FixTells returns true for every two int64s and every int, and leaves what it was given as it was; no condition.
-/
import Derived.Test.YtgemflldnplkbaaRows
import Derived.Test.YtgemflldnplkbaaAlive
import Derived.Test.YtgemflldnplkbaaLawNum
import Derived.Test.YtgemflldnplkbaaCalc
import Derived.WalkKit
import Derived.WalkSpells
import Derived.WalkLawsBesides
import Derived.ProofKit
import Derived.OpenShut
import Derived.ShutString
namespace Go.Proofs.Ytgemflldnplkbaa.fixTells
open Go.ChangeShapes Go.WideShapes Go.ChangeAt Go.RowKit
open Go.ChangeMaps (open_string shut_string)
set_option linter.unusedVariables false

theorem own : ownKnob Try.prog.godebug = none := by kernel_rfl

theorem rwhole_any (a : Int) (w : World) :
    Calls Try.prog 21 #[.int .i64 a] w fun e w' => e = .returned (.int .i64 (a / 4294967296)) ∧ w' = w := by
  go_enter Try.func21, Try.ntmps21
  go_wp2
  go_ret
  exact ⟨rfl, rfl⟩
/-- Memory behind the calls: the errors of the document's answers, its answers, the code's answers, the code's errors. -/
def four (a b : Int) (W : World) : World :=
  (((W.alloc (.cells #[.int .i64 (addR a b).2, .int .i64 (subR a b).2, .int .i64 (mulR a b).2, .int .i64 (divR a b).2, .int .i64 (subR 0 a).2] 27)).alloc
    (.cells #[.int .i64 (addR a b).1, .int .i64 (subR a b).1, .int .i64 (mulR a b).1, .int .i64 (divR a b).1, .int .i64 (subR 0 a).1] 29)).alloc
    (.cells #[.int .i64 (addR a b).1, .int .i64 (subR a b).1, .int .i64 (mulR a b).1, .int .i64 (divR a b).1, .int .i64 (subR 0 a).1] 29)).alloc
    (.cells #[.int .i64 (addR a b).2, .int .i64 (subR a b).2, .int .i64 (mulR a b).2, .int .i64 (divR a b).2, .int .i64 (subR 0 a).2] 30)
set_option maxHeartbeats 2000000 in
theorem walk (a0 : Int) (a1 : Int) (a2 : Int) (w0 : (Lit.int .i64 a0).wf = true) (w1 : (Lit.int .i64 a1).wf = true) (w2 : (Lit.int .i64 a2).wf = true) (w : World) :
    Calls Try.prog 3 #[.int .i64 a0, .int .i64 a1, .int .i64 a2] w fun e w' => e = .returned (.bool true) ∧ Grown w w' := by
  have ha : inF a0 := inF_wf w0
  have hb : inF a1 := inF_wf w1
  have hn : inF a2 := inF_wf w2
  have hd1 : ∀ (w : World) (n : Nat) (a : Addr) (v : Value), (w.drewN n).setCell a v = (w.setCell a v).drewN n := fun _ _ _ _ => rfl
  have hd2 : ∀ (w : World) (n : Nat) (o : Obj), (w.drewN n).alloc o = (w.alloc o).drewN n := fun _ _ _ => rfl
  go_enter Try.func3, Try.ntmps3
  go_wp2_with (first
    | (go_at_call 9; refine (alive_any _).mono ?_; rintro e W ⟨rfl, n, hw⟩; have G : Hid (Grown w W) := by { rw [hw]; exact grown_drewN _ _ }; clear hw)
    | (go_at_call 10; refine (radd_any _ 0 a0 a1 _ ha hb (by simp [go_sem]) (by simp [go_sem])).mono ?_; rintro e w' ⟨rfl, rfl⟩)
    | (go_at_call 11; refine (rsub_any _ _ _ _ _ (by first | assumption | exact ⟨by decide, by decide⟩) (by assumption) (by simp [go_sem]) (by simp [go_sem])).mono ?_; rintro e w' ⟨rfl, rfl⟩)
    | (go_at_call 12; refine (rmul_any _ 2 a0 a1 _ ha hb (by simp [go_sem]) (by simp [go_sem])).mono ?_; rintro e w' ⟨rfl, rfl⟩)
    | (go_at_call 13; refine (rdiv_any _ 3 a0 a1 _ ha hb (by simp [go_sem]) (by simp [go_sem])).mono ?_; rintro e w' ⟨rfl, n, rfl⟩)
    | (go_at_call 14; refine (add_any _ _ _ ha hb).mono ?_; rintro e w' ⟨rfl, rfl⟩)
    | (go_at_call 15; refine (sub_any _ _ _ ha hb).mono ?_; rintro e w' ⟨rfl, rfl⟩)
    | (go_at_call 16; refine (mul_any _ _ _ ha hb).mono ?_; rintro e w' ⟨rfl, rfl⟩)
    | (go_at_call 17; refine (div_any _ _ _ ha hb).mono ?_; rintro e w' ⟨rfl, n, rfl⟩)
    | (go_at_call 18; refine (neg_any _ _ ha).mono ?_; rintro e w' ⟨rfl, rfl⟩))
  go_loopw [76, 11] (fun s i v => ∃ (k : Int) (m : Nat), 0 ≤ k ∧ k ≤ 5 ∧ s = .int .i64 k ∧ v = (four a0 a1 W).drewN m) (fun s _ _ => 5 - (intOf s).toNat)
  case atStart => exact ⟨0, _, by omega, by omega, rfl, rfl⟩
  case round =>
    obtain ⟨k, m, hk0, hk, rfl, rfl⟩ := hrel
    have hc : k = 0 ∨ k = 1 ∨ k = 2 ∨ k = 3 ∨ k = 4 ∨ k = 5 := by omega
    clear hk0 hk
    have grow : ∀ j, Hid (Grown w ((four a0 a1 W).drewN j)) := fun j => show Grown w (four a0 a1 W) from ((((G.out.alloc _ _).alloc _ _).alloc _ _).alloc _ _)
    rcases hc with rfl | rfl | rfl | rfl | rfl | rfl
    · unfold four
      go_wp2
      go_region
      go_wp2
      go_roundw
      case rel => exact ⟨1, _, by decide, by decide, rfl, rfl⟩
      case measure => simp [intOf]
    · unfold four
      go_wp2
      go_region
      go_wp2
      go_roundw
      case rel => exact ⟨2, _, by decide, by decide, rfl, rfl⟩
      case measure => simp [intOf]
    · unfold four
      go_wp2
      go_region
      go_wp2
      go_roundw
      case rel => exact ⟨3, _, by decide, by decide, rfl, rfl⟩
      case measure => simp [intOf]
    · unfold four
      go_wp2
      go_region
      go_wp2
      go_roundw
      case rel => exact ⟨4, _, by decide, by decide, rfl, rfl⟩
      case measure => simp [intOf]
    · unfold four
      go_wp2
      go_region
      go_wp2
      go_roundw
      case rel => exact ⟨5, _, by decide, by decide, rfl, rfl⟩
      case measure => simp [intOf]
    · by_cases n1 : -2147483648 ≤ a2
      · by_cases n2 : a2 < 2147483648
        · have f : ofR a2 = (a2 * 4294967296, 0) := inR_ok (by omega)
          go_wp2_with (first
            | (go_at_call 19; refine (of_any _ _ hn).mono ?_; rintro e w' ⟨rfl, rfl⟩)
            | (go_at_call 20; refine (whole_any _ _).mono ?_; rintro e w' ⟨rfl, rfl⟩)
            | (go_at_call 21; refine (rwhole_any _ _).mono ?_; rintro e w' ⟨rfl, rfl⟩))
          go_ret
          exact ⟨rfl, (grow _).out⟩
        · have f : ofR a2 = (0, 3) := inR_no (by omega)
          go_wp2_with (first
            | (go_at_call 19; refine (of_any _ _ hn).mono ?_; rintro e w' ⟨rfl, rfl⟩)
            | (go_at_call 20; refine (whole_any _ _).mono ?_; rintro e w' ⟨rfl, rfl⟩)
            | (go_at_call 21; refine (rwhole_any _ _).mono ?_; rintro e w' ⟨rfl, rfl⟩))
          go_ret
          exact ⟨rfl, (grow _).out⟩
      · have f : ofR a2 = (0, 3) := inR_no (by omega)
        go_wp2_with (first
          | (go_at_call 19; refine (of_any _ _ hn).mono ?_; rintro e w' ⟨rfl, rfl⟩)
          | (go_at_call 20; refine (whole_any _ _).mono ?_; rintro e w' ⟨rfl, rfl⟩)
          | (go_at_call 21; refine (rwhole_any _ _).mono ?_; rintro e w' ⟨rfl, rfl⟩))
        go_ret
        exact ⟨rfl, (grow _).out⟩

set_option maxRecDepth 100000 in
theorem lifted (os : Os) (started : os.Started) (H : Type) (enc : TypeId × Value → H) :
    ReturnsInHanded {} Try.checked os 3 .any (Rows.fixTellsSpec.pre6 enc Try.prog Try.f3 Rows.fixTellsRow.domain false) (Rows.fixTellsSpec.post enc Try.prog Try.f3 false true false false) := by
  refine returnsInHanded_of_change (C := Try.checked) own started (by kernel_rfl) Try.func3
    (ChangeSpec.witness6 (enc := enc) (C := Try.checked) false ⟨#[], #[.int .i64 0, .int .i64 0, .int .i64 0], []⟩ 8 (by kernel_rfl) (by kernel_rfl) (by kernel_rfl) (by kernel_rfl)) ?_
  intro W base args ds gs before hval0 hW hcnd _
  have hval : ∀ (j : Nat) t v, Try.f3.params[j]? = some t → args[j]? = some v → Value.okWide Try.prog W .any base t v := hval0
  have hW' := hW
  obtain ⟨p, q, hA0, hV, rfl, hfz, hnd⟩ := hW
  have hA : DataW.TrodAll enc Try.prog W 0 (fun _ => true) true Try.f3.params.toList args.toList ds p := hA0
  rw [Try.params3] at hA hval
  obtain ⟨v0, vs0, d0, ds0, p0, q0, hargs, rfl, rfl, h0, r0⟩ := trodAll_cons hA
  obtain ⟨v1, vs1, d1, ds1, p1, q1, rfl, rfl, rfl, h1, r1⟩ := trodAll_cons r0
  obtain ⟨v2, vs2, d2, ds2, p2, q2, rfl, rfl, rfl, h2, r2⟩ := trodAll_cons r1
  obtain ⟨rfl, rfl, rfl⟩ := trodAll_nil r2
  obtain rfl : args = #[v0, v1, v2] := by cases args; simp_all
  obtain ⟨rfl, rfl⟩ := trodVars_none hV
  obtain ⟨a0, rfl, rfl, rfl, w0⟩ := open_int Try.underlying22 (hval 0 22 v0 rfl rfl) h0
  obtain ⟨a1, rfl, rfl, rfl, w1⟩ := open_int Try.underlying22 (hval 1 22 v1 rfl rfl) h1
  obtain ⟨a2, rfl, rfl, rfl, w2⟩ := open_int Try.underlying3 (hval 2 3 v2 rfl rfl) h2
  clear hA0 hval0
  simp only [List.append_nil] at hW'
  refine (walk a0 a1 a2 w0 w1 w2 W).mono fun e W' ⟨he, hg⟩ => ?_
  subst he
  exact ⟨_, rfl, post_of_same (pa := []) (pv := []) hW' (fun _ _ _ => (trodAll_cons_mk (shut_bool Try.underlying4 _) trodAll_mk0)) (fun sp _ => (trodAll_cons_mk (shut_int Try.underlying22 w0) (trodAll_cons_mk (shut_int Try.underlying22 w1) (trodAll_cons_mk (shut_int Try.underlying3 w2) trodAll_mk0)))) (fun _ _ => rfl) rfl
    (hg.frame _) hg.2.1 (ok_one (by kernel_rfl) rfl (okWide_bool_mk Try.underlying4 _))⟩

theorem over : Rows.fixTellsRow.holds Try.pinned (OpenSpec.ofChange Rows.fixTellsSpec) :=
  OpenClaim.holds_of_wide 3 Try.f3 rfl rfl rfl rfl rfl rfl rfl ⟨rfl, rfl, rfl, rfl, rfl⟩ rfl rfl rfl rfl rfl (by kernel_rfl) Try.func3 (by kernel_rfl)
    (of_decide_eq_true (by kernel_rfl)) (by unfold Func.isWrapper; first | (rw [if_pos (by decide +kernel)]; kernel_rfl) | (rw [if_neg (by decide +kernel)]; exact ⟨rfl, rfl⟩))
    (fun os started H enc _ => lifted os started H enc)

theorem proved : Rows.FixTellsSaid :=
  over
end Go.Proofs.Ytgemflldnplkbaa.fixTells

namespace Go.Proofs.Ytgemflldnplkbaa
theorem fixTells_holds : Rows.FixTellsSaid := fixTells.proved
end Go.Proofs.Ytgemflldnplkbaa

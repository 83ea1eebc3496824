/-
  Proved: maquettelaw13.PlatterTears returns true for every two texts and every int, and leaves what it was given as it was; no condition.
-/
import Derived.Test.YtjmblichomchpaaRows
import Derived.Test.YtjmblichomchpaaTAlive
import Derived.WalkKit
import Derived.Deep.QuietTactic
import Derived.BigQuiet
import Derived.WalkSpells
import Derived.Deep.CutRange
import Derived.Deep.CutBlock
import Derived.WalkLawsBesides
import Derived.ProofKit
import Derived.OpenShut
import Derived.ShutString
import Derived.ChangeOld
import Derived.Below
namespace Go.Proofs.Ytjmblichomchpaa.platterTears
open Go.ChangeShapes Go.WideShapes Go.ChangeAt Go.RowKit
open Go.ChangeMaps (open_string shut_string)
set_option linter.unusedVariables false

theorem own : ownKnob Try.prog.godebug = none := by kernel_rfl
theorem laidOut : laidOutB Try.prog = true := by kernel_rfl

def tr1 (X : ByteArray) : Pl := ⟨[zerosB 128, X], [zerosB 128, zerosB 128], [⟨1, X⟩], -1, false⟩
def tr2 (X : ByteArray) : Pl := ⟨[zerosB 128, X], [zerosB 128, X], [], -1, false⟩
def tr3 (X Y : ByteArray) : Pl := ⟨[zerosB 128, Y], [zerosB 128, X], [⟨1, Y⟩], -1, false⟩
def tr4 (T : ByteArray) : Pl := ⟨[zerosB 128, T], [zerosB 128, T], [], -1, false⟩
theorem tr_s1 {X : ByteArray} (h : X.size = 128) : storeP (newP 2) 1 X = (0, tr1 X) := storeP_go (k := 1) lt12 h (by decide)
theorem tr_s2 (X : ByteArray) : settleP (tr1 X) = (0, tr2 X) := rfl
theorem tr_s3 {X Y : ByteArray} (h : Y.size = 128) : storeP (tr2 X) 1 Y = (0, tr3 X Y) := storeP_go (k := 1) lt12 h (by decide)
theorem tr_s4 (X Y : ByteArray) (k : Int) : failP (tr3 X Y) [k] = (if 0 < cutN [k] 0 then 1 else 0, tr4 (tear X Y (cutN [k] 0))) := rfl
theorem tr_s5 (T : ByteArray) : loadP (tr4 T) 1 = (T, 0) := loadP_go (k := 1) lt12

set_option maxRecDepth 10000 in
set_option maxHeartbeats 8000000 in
theorem walk (s0 : ByteArray) (z0 : s0.size ≤ maxLen) (s1 : ByteArray) (z1 : s1.size ≤ maxLen) (a2 : Int) (f2 : inF a2) (w : World)   :
    Calls Try.prog 4 #[.string s0, .string s1, .int .i64 a2] w fun e w' => e = .returned (.bool true) ∧ Below w.heap.size w w' := by
  obtain ⟨X, hX⟩ : ∃ X, X = fillB s0 := ⟨_, rfl⟩
  obtain ⟨Y, hY⟩ : ∃ Y, Y = fillB s1 := ⟨_, rfl⟩
  have HX : Hid (X.size = 128) := by rw [hX]; exact fillB_size _
  have HY : Hid (Y.size = 128) := by rw [hY]; exact fillB_size _
  have hF0 : Hid (∀ W, Calls Try.prog 15 #[.string s0] W fun e w' => e = .returned (.string X) ∧ Grew W w') := by rw [hX]; exact fun W => fill_any W s0
  have hF1 : Hid (∀ W, Calls Try.prog 15 #[.string s1] W fun e w' => e = .returned (.string Y) ∧ Grew W w') := by rw [hY]; exact fun W => fill_any W s1
  have hNew : Hid (∀ W, Below w.heap.size w W → Calls Try.prog 10 #[.int .i64 2] W fun e w' => ∃ b, e = .returned (.pointer (some ⟨b, 0, none⟩)) ∧ One w w' b (newP 2)) := fun W h => one_new (k := 2) h (by decide) (by decide)
  clear hX hY
  have hal : Hid (∀ W, Calls Try.prog 9 #[] W fun e w' => e = .returned (.bool true) ∧ Below W.heap.size W w') := alive_any
  by_cases h0 : 200 < s0.size
  · have h0' : (200 : Int) < s0.size := by omega
    go_enter Try.func4, Try.ntmps4
    go_wp2_with (first | (go_at_call 9; go_fit (hal.out w); rintro e w1 ⟨rfl, hB⟩))
    go_ret
    exact ⟨rfl, hB⟩
  by_cases h1 : 200 < s1.size
  · have h0' : ¬ (200 : Int) < s0.size := by omega
    have h1' : (200 : Int) < s1.size := by omega
    go_enter Try.func4, Try.ntmps4
    go_wp2_with (first | (go_at_call 9; go_fit (hal.out w); rintro e w1 ⟨rfl, hB⟩))
    go_ret
    exact ⟨rfl, hB⟩
  have h0' : ¬ (200 : Int) < s0.size := by omega
  have h1' : ¬ (200 : Int) < s1.size := by omega
  obtain ⟨c, hc⟩ : ∃ c, c = cutN [a2] 0 := ⟨_, rfl⟩
  have hc128 : c ≤ 128 := by rw [hc]; exact cutN_le _ _
  obtain ⟨m, hm⟩ : ∃ m, m = max a2 0 := ⟨_, rfl⟩
  have hcm : min m 128 = (c : Int) := by
    rw [hc, hm]
    unfold cutN
    simp [List.getD]
    omega
  have hm' : max a2 0 = m := hm.symm
  have hS4 : Hid (failP (tr3 X Y) [a2] = (if 0 < c then 1 else 0, tr4 (tear X Y c))) := by rw [hc]; exact tr_s4 X Y a2
  have hT : Hid (tear X Y c = Y.extract 0 c ++ X.extract c 128) := tear_eq HX.out
  have hci : (c : Int) ≤ 128 := by omega
  clear hc hm
  replace hcm : min m 128 = (c : Int) := hcm
  have hXs := HX.out
  have hYs := HY.out
  have hz : ¬ 9223372036854775807 < (Y.extract 0 c).size + (X.extract c 128).size := by rw [ByteArray.size_extract, ByteArray.size_extract]; omega
  by_cases hp : 0 < c
  · have hpi : (0 : Int) < c := by omega
    rw [if_pos hp] at hS4
    go_enter Try.func4, Try.ntmps4
    go_upto_region 14 with (first
      | (go_at_call 9; go_fit (hal.out w); rintro e w1 ⟨rfl, hB⟩)
      | (go_at_call 10; go_fit (hNew.out _ hB); rintro e w1 ⟨b, rfl, hO⟩)
      | (go_at_call 15; go_fit (hF0.out _); rintro e w1 ⟨rfl, G⟩; replace hO := hO.grew G)
      | (go_at_call 15; go_fit (hF1.out _); rintro e w1 ⟨rfl, G⟩; replace hO := hO.grew G)
      | (go_at_call 14; go_fit (one_store hO (tr_s1 HX.out) few0); rintro e w1 ⟨rfl, hO⟩)
      | (go_at_call 14; go_fit (one_store hO (tr_s3 HY.out) few0); rintro e w1 ⟨rfl, hO⟩)
      | (go_at_call 16; go_fit (one_settle hO (tr_s2 X)); rintro e w1 ⟨rfl, hO⟩)
      | (go_at_call 18; go_fit (one_fails hO [a2] hS4.out (by intro x hx; simp at hx; subst hx; exact f2) #[.int .i64 a2] rfl 1 rfl); rintro e w1 ⟨rfl, hO⟩)
      | (go_at_call 12; go_fit (one_load hO (tr_s5 _)); rintro e w1 ⟨rfl, e⟩; have e := e.symm; subst e)
      | fail)
    all_goals
      rw [hT.out]
      go_quiet (fail)
      go_wp2_with (fail)
    all_goals
      go_ret
      refine ⟨ret_bool ?_, (hO.grew ((Grew.refl _).drewN _)).2⟩
      clear hO
      first
        | (have e : a2.toNat = c := by omega
           rw [e]; simp)
        | (have e : c = 128 := by omega
           rw [e]; simp)
        | (have e : c = 0 := by omega
           rw [e]; simp)
  · have hpi : ¬ (0 : Int) < c := by omega
    rw [if_neg hp] at hS4
    go_enter Try.func4, Try.ntmps4
    go_upto_region 14 with (first
      | (go_at_call 9; go_fit (hal.out w); rintro e w1 ⟨rfl, hB⟩)
      | (go_at_call 10; go_fit (hNew.out _ hB); rintro e w1 ⟨b, rfl, hO⟩)
      | (go_at_call 15; go_fit (hF0.out _); rintro e w1 ⟨rfl, G⟩; replace hO := hO.grew G)
      | (go_at_call 15; go_fit (hF1.out _); rintro e w1 ⟨rfl, G⟩; replace hO := hO.grew G)
      | (go_at_call 14; go_fit (one_store hO (tr_s1 HX.out) few0); rintro e w1 ⟨rfl, hO⟩)
      | (go_at_call 14; go_fit (one_store hO (tr_s3 HY.out) few0); rintro e w1 ⟨rfl, hO⟩)
      | (go_at_call 16; go_fit (one_settle hO (tr_s2 X)); rintro e w1 ⟨rfl, hO⟩)
      | (go_at_call 18; go_fit (one_fails hO [a2] hS4.out (by intro x hx; simp at hx; subst hx; exact f2) #[.int .i64 a2] rfl 1 rfl); rintro e w1 ⟨rfl, hO⟩)
      | (go_at_call 12; go_fit (one_load hO (tr_s5 _)); rintro e w1 ⟨rfl, e⟩; have e := e.symm; subst e)
      | fail)
    all_goals
      rw [hT.out]
      go_quiet (fail)
      go_wp2_with (fail)
    all_goals
      go_ret
      refine ⟨ret_bool ?_, (hO.grew ((Grew.refl _).drewN _)).2⟩
      clear hO
      first
        | (have e : a2.toNat = c := by omega
           rw [e]; simp)
        | (have e : c = 128 := by omega
           rw [e]; simp)
        | (have e : c = 0 := by omega
           rw [e]; simp)

set_option maxRecDepth 100000 in
theorem lifted (os : Os) (started : os.Started) (H : Type) (enc : TypeId × Value → H) :
    ReturnsInHanded {} Try.checked os 4 .any (Rows.platterTearsSpec.pre6 enc Try.prog Try.f4 Rows.platterTearsRow.domain false) (Rows.platterTearsSpec.post enc Try.prog Try.f4 false true false false) := by
  refine returnsInHanded_of_change (C := Try.checked) own started (by kernel_rfl) Try.func4
    (ChangeSpec.witness6 (enc := enc) (C := Try.checked) false ⟨#[], #[.string ByteArray.empty, .string ByteArray.empty, .int .i64 0], []⟩ 8 (by kernel_rfl) (by kernel_rfl) (by kernel_rfl) (by kernel_rfl)) ?_
  intro W base args ds gs before hval0 hW hcnd _
  have hval : ∀ (j : Nat) t v, Try.f4.params[j]? = some t → args[j]? = some v → Value.okWide Try.prog W .any base t v := hval0
  have hW' := hW
  obtain ⟨p, q, hA0, hV, rfl, hfz, hnd⟩ := hW
  have hA : DataW.TrodAll enc Try.prog W 0 (fun _ => true) true Try.f4.params.toList args.toList ds p := hA0
  rw [Try.params4] at hA hval
  obtain ⟨v0, vs0, d0, ds0, p0, q0, hargs, rfl, rfl, h0, r0⟩ := trodAll_cons hA
  obtain ⟨v1, vs1, d1, ds1, p1, q1, rfl, rfl, rfl, h1, r1⟩ := trodAll_cons r0
  obtain ⟨v2, vs2, d2, ds2, p2, q2, rfl, rfl, rfl, h2, r2⟩ := trodAll_cons r1
  obtain ⟨rfl, rfl, rfl⟩ := trodAll_nil r2
  obtain rfl : args = #[v0, v1, v2] := by cases args; simp_all
  obtain ⟨rfl, rfl⟩ := trodVars_none hV
  obtain ⟨s0, rfl, rfl, rfl, z0⟩ := open_string Try.underlying9 (hval 0 9 v0 rfl rfl) h0
  obtain ⟨s1, rfl, rfl, rfl, z1⟩ := open_string Try.underlying9 (hval 1 9 v1 rfl rfl) h1
  obtain ⟨a2, rfl, rfl, rfl, w2⟩ := open_int Try.underlying3 (hval 2 3 v2 rfl rfl) h2
  have f2 := inF_wf w2
  clear hA0 hval0
  refine (walk s0 z0 s1 z1 a2 f2 W   ).mono fun e W' ⟨he, bel⟩ => ?_
  subst he
  exact ⟨_, rfl, _, _, _, [], _, [], hW', trodAll_mk1 (shut_bool Try.underlying4 _), (trodAll_cons_mk (shut_string Try.underlying9 z0) (trodAll_cons_mk (shut_string Try.underlying9 z1) (trodAll_cons_mk (shut_int Try.underlying3 w2) trodAll_mk0))), rfl, bel.frame _, fun h => by cases h⟩

theorem over : Rows.platterTearsRow.holds Try.pinned (OpenSpec.ofChange Rows.platterTearsSpec) :=
  OpenClaim.holds_of_wide 4 Try.f4 rfl rfl rfl rfl rfl rfl rfl ⟨rfl, rfl, rfl, rfl, rfl⟩ rfl rfl rfl rfl rfl (by kernel_rfl) Try.func4 (by kernel_rfl)
    (of_decide_eq_true (by kernel_rfl)) (by unfold Func.isWrapper; first | (rw [if_pos (by decide +kernel)]; kernel_rfl) | (rw [if_neg (by decide +kernel)]; exact ⟨rfl, rfl⟩))
    (fun os started H enc _ => lifted os started H enc)

theorem proved : Rows.PlatterTearsSaid :=
  over
end Go.Proofs.Ytjmblichomchpaa.platterTears

namespace Go.Proofs.Ytjmblichomchpaa
theorem platterTears_holds : Rows.PlatterTearsSaid := platterTears.proved
end Go.Proofs.Ytjmblichomchpaa

/-
  Proved: maquettelaw13.PlatterOrder returns true for every two texts and every two ints, and leaves what it was given as it was; no condition.
-/
import Derived.Test.YtjmblichomchpaaRows
import Derived.Test.YtjmblichomchpaaTAlive
import Derived.WalkKit
import Derived.Deep.QuietTactic
import Derived.BigQuiet
import Derived.WalkSpells
import Derived.Deep.CutRange
import Derived.Deep.CutBlock
import Derived.WalkLawsBesides
import Derived.ProofKit
import Derived.OpenShut
import Derived.ShutString
import Derived.ChangeOld
import Derived.Below
namespace Go.Proofs.Ytjmblichomchpaa.platterOrder
open Go.ChangeShapes Go.WideShapes Go.ChangeAt Go.RowKit
open Go.ChangeMaps (open_string shut_string)
set_option linter.unusedVariables false

theorem own : ownKnob Try.prog.godebug = none := by kernel_rfl
theorem laidOut : laidOutB Try.prog = true := by kernel_rfl

def or1 (X : ByteArray) : Pl := ⟨[X], [zerosB 128], [⟨0, X⟩], -1, false⟩
def or2 (X Y : ByteArray) : Pl := ⟨[Y], [zerosB 128], [⟨0, X⟩, ⟨0, Y⟩], -1, false⟩
def or3 (T : ByteArray) : Pl := ⟨[T], [T], [], -1, false⟩
theorem or_s1 {X : ByteArray} (h : X.size = 128) : storeP (newP 1) 0 X = (0, or1 X) := storeP_go (k := 0) lt01 h (by decide)
theorem or_s2 {X Y : ByteArray} (h : Y.size = 128) : storeP (or1 X) 0 Y = (0, or2 X Y) := storeP_go (k := 0) lt01 h (by decide)
theorem or_s3 (X Y : ByteArray) : loadP (or2 X Y) 0 = (Y, 0) := loadP_go (k := 0) lt01
theorem or_s4 (X Y : ByteArray) (j k : Int) : failP (or2 X Y) [j, k] = ((failP (or2 X Y) [j, k]).1, or3 (tear (tear (zerosB 128) X (cutN [j, k] 0)) Y (cutN [j, k] 1))) := rfl
theorem or_s5 (T : ByteArray) : loadP (or3 T) 0 = (T, 0) := loadP_go (k := 0) lt01
theorem few1 : (1 : Nat) < 1000000 := by decide
theorem cut0 (j k : Int) (h0 : 0 ≤ j) (h1 : j ≤ 128) : cutN [j, k] 0 = j.toNat := by
  unfold cutN
  simp [List.getD]
  omega
theorem cut1 (j k : Int) (h0 : 0 ≤ k) (h1 : k ≤ 128) : cutN [j, k] 1 = k.toNat := by
  unfold cutN
  simp [List.getD]
  omega
theorem zeros_tail (j : Nat) (hj : j ≤ 128) : (zerosB 128).extract j 128 = zerosB (128 - j) := by
  apply ByteArray.ext
  apply Array.ext'
  simp only [zerosB, ByteArray.data_extract, Array.toList_extract, List.extract_eq_take_drop, List.toList_toArray]
  rw [List.drop_replicate, List.take_replicate]
  congr 1
  omega

set_option maxRecDepth 10000 in
set_option maxHeartbeats 8000000 in
theorem walk (s0 : ByteArray) (z0 : s0.size ≤ maxLen) (s1 : ByteArray) (z1 : s1.size ≤ maxLen) (a2 : Int) (f2 : inF a2) (a3 : Int) (f3 : inF a3) (w : World)    :
    Calls Try.prog 7 #[.string s0, .string s1, .int .i64 a2, .int .i64 a3] w fun e w' => e = .returned (.bool true) ∧ Below w.heap.size w w' := by
  obtain ⟨X, hX⟩ : ∃ X, X = fillB s0 := ⟨_, rfl⟩
  obtain ⟨Y, hY⟩ : ∃ Y, Y = fillB s1 := ⟨_, rfl⟩
  have HX : Hid (X.size = 128) := by rw [hX]; exact fillB_size _
  have HY : Hid (Y.size = 128) := by rw [hY]; exact fillB_size _
  have hF0 : Hid (∀ W, Calls Try.prog 15 #[.string s0] W fun e w' => e = .returned (.string X) ∧ Grew W w') := by rw [hX]; exact fun W => fill_any W s0
  have hF1 : Hid (∀ W, Calls Try.prog 15 #[.string s1] W fun e w' => e = .returned (.string Y) ∧ Grew W w') := by rw [hY]; exact fun W => fill_any W s1
  have hNew : Hid (∀ W, Below w.heap.size w W → Calls Try.prog 10 #[.int .i64 1] W fun e w' => ∃ b, e = .returned (.pointer (some ⟨b, 0, none⟩)) ∧ One w w' b (newP 1)) := fun W h => one_new (k := 1) h (by decide) (by decide)
  clear hX hY
  have hal : Hid (∀ W, Calls Try.prog 9 #[] W fun e w' => e = .returned (.bool true) ∧ Below W.heap.size W w') := alive_any
  by_cases hbad : 200 < s0.size ∨ 200 < s1.size ∨ a2 < 0 ∨ a3 < 0 ∨ 128 < a2 ∨ 128 < a3
  · go_enter Try.func7, Try.ntmps7
    by_cases h0 : (200 : Int) < s0.size
    · go_wp2_with (first | (go_at_call 9; go_fit (hal.out w); rintro e w1 ⟨rfl, hB⟩))
      go_ret
      exact ⟨rfl, hB⟩
    by_cases h1 : (200 : Int) < s1.size
    · go_wp2_with (first | (go_at_call 9; go_fit (hal.out w); rintro e w1 ⟨rfl, hB⟩))
      go_ret
      exact ⟨rfl, hB⟩
    by_cases h2 : a2 < 0
    · go_wp2_with (first | (go_at_call 9; go_fit (hal.out w); rintro e w1 ⟨rfl, hB⟩))
      go_ret
      exact ⟨rfl, hB⟩
    by_cases h3 : a3 < 0
    · go_wp2_with (first | (go_at_call 9; go_fit (hal.out w); rintro e w1 ⟨rfl, hB⟩))
      go_ret
      exact ⟨rfl, hB⟩
    by_cases h4 : 128 < a2
    · go_wp2_with (first | (go_at_call 9; go_fit (hal.out w); rintro e w1 ⟨rfl, hB⟩))
      go_ret
      exact ⟨rfl, hB⟩
    have h5 : 128 < a3 := by omega
    go_wp2_with (first | (go_at_call 9; go_fit (hal.out w); rintro e w1 ⟨rfl, hB⟩))
    go_ret
    exact ⟨rfl, hB⟩
  · have h0 : ¬ (200 : Int) < s0.size := by omega
    have h1 : ¬ (200 : Int) < s1.size := by omega
    have h2 : ¬ a2 < 0 := by omega
    have h3 : ¬ a3 < 0 := by omega
    have h4 : ¬ 128 < a2 := by omega
    have h5 : ¬ 128 < a3 := by omega
    have e0 := cut0 a2 a3 (by omega) (by omega)
    have e1 := cut1 a2 a3 (by omega) (by omega)
    obtain ⟨j, rfl⟩ := Int.eq_ofNat_of_zero_le (a := a2) (by omega)
    obtain ⟨k, rfl⟩ := Int.eq_ofNat_of_zero_le (a := a3) (by omega)
    simp only [Int.toNat_natCast] at e0 e1
    obtain ⟨r, hr⟩ : ∃ r, r = (failP (or2 X Y) [(j : Int), (k : Int)]).1 := ⟨_, rfl⟩
    have hj : j ≤ 128 := by omega
    have hk : k ≤ 128 := by omega
    have hS4 : Hid (failP (or2 X Y) [(j : Int), (k : Int)] = (r, or3 (tear (tear (zerosB 128) X j) Y k))) := by
      have := or_s4 X Y j k
      rw [e0, e1, ← hr] at this
      exact this
    have ht1 : tear (zerosB 128) X j = X.extract 0 j ++ zerosB (128 - j) := by rw [tear_eq (zerosB_size _), zeros_tail j hj]
    obtain ⟨U, hU⟩ : ∃ U, U = X.extract 0 j ++ zerosB (128 - j) := ⟨_, rfl⟩
    have hUs : U.size = 128 := by rw [hU, ByteArray.size_append, ByteArray.size_extract, zerosB_size, HX.out]; omega
    have hT : Hid (tear (tear (zerosB 128) X j) Y k = Y.extract 0 k ++ U.extract k 128) := by rw [ht1, ← hU]; exact tear_eq hUs
    have hz1 : ¬ 9223372036854775807 < (X.extract 0 j).size + (zerosB (128 - j)).size := by rw [ByteArray.size_extract, zerosB_size, HX.out]; omega
    have hz2 : ¬ 9223372036854775807 < (Y.extract 0 k).size + (U.extract k 128).size := by rw [ByteArray.size_extract, ByteArray.size_extract, HY.out]; omega
    have hzs : (zerosB (128 - j)).size = 128 - j := zerosB_size _
    have hjs : ¬ 9223372036854775807 < j + (128 - j) := by omega
    have hms : min j 128 = j := by omega
    have hu : X.extract 0 j ++ zerosB (128 - j) = U := hU.symm
    have hZ : Hid (∀ W, Calls Try.prog 27 #[.int .i64 (128 - (j : Int))] W fun e w' => e = .returned (.string (zerosB (128 - j))) ∧ Grew W w') := fun W => by
      have := zeros_any W (128 - (j : Int)) (by omega) (by omega)
      rw [show (128 - (j : Int)).toNat = 128 - j by omega] at this
      exact this
    have hw : wrap64 (128 - (j : Int)) = 128 - j := IntWalk.wrap64_in _ ⟨by omega, by omega⟩
    have hw2 : IntKind.i64.wrap (128 - (j : Int)) = 128 - j := by rw [IntKind.wrap_i64]; omega
    have hji : (j : Int) ≤ 128 := by omega
    have hki : (k : Int) ≤ 128 := by omega
    have hXs := HX.out
    have hYs := HY.out
    clear hr e0 e1 ht1 hbad hU
    go_enter Try.func7, Try.ntmps7
    go_upto_region 12 with (first
      | (go_at_call 9; go_fit (hal.out w); rintro e w1 ⟨rfl, hB⟩)
      | (go_at_call 10; go_fit (hNew.out _ hB); rintro e w1 ⟨b, rfl, hO⟩)
      | (go_at_call 15; go_fit (hF0.out _); rintro e w1 ⟨rfl, G⟩; replace hO := hO.grew G)
      | (go_at_call 15; go_fit (hF1.out _); rintro e w1 ⟨rfl, G⟩; replace hO := hO.grew G)
      | (go_at_call 14; go_fit (one_store hO (or_s1 HX.out) few0); rintro e w1 ⟨rfl, hO⟩)
      | (go_at_call 14; go_fit (one_store hO (or_s2 HY.out) few1); rintro e w1 ⟨rfl, hO⟩)
      | (go_at_call 18; go_fit (one_fails hO [(j : Int), (k : Int)] hS4.out (by intro x hx; simp at hx; rcases hx with rfl | rfl; exact f2; exact f3) #[.int .i64 (j : Int), .int .i64 (k : Int)] rfl 2 rfl); rintro e w1 ⟨rfl, hO⟩)
      | (go_at_call 12; go_fit (one_load hO (or_s3 _ _)); rintro e w1 ⟨rfl, e⟩; have e := e.symm; subst e)
      | (go_at_call 12; go_fit (one_load hO (or_s5 _)); rintro e w1 ⟨rfl, e⟩; have e := e.symm; subst e)
      | fail)
    rw [hT.out]
    go_region_with (first
      | (go_at_call 27; go_fit (hZ.out _); rintro e w1 ⟨rfl, G⟩; replace hO := hO.grew ((Grew.refl _).drew.trans G)))
    all_goals
      go_upto_region 13 with (fail)
      go_quiet (fail)
      go_wp2_with (fail)
      go_ret
      exact ⟨rfl, (hO.grew ((Grew.refl _).drewN _)).2⟩

set_option maxRecDepth 100000 in
theorem lifted (os : Os) (started : os.Started) (H : Type) (enc : TypeId × Value → H) :
    ReturnsInHanded {} Try.checked os 7 .any (Rows.platterOrderSpec.pre6 enc Try.prog Try.f7 Rows.platterOrderRow.domain false) (Rows.platterOrderSpec.post enc Try.prog Try.f7 false true false false) := by
  refine returnsInHanded_of_change (C := Try.checked) own started (by kernel_rfl) Try.func7
    (ChangeSpec.witness6 (enc := enc) (C := Try.checked) false ⟨#[], #[.string ByteArray.empty, .string ByteArray.empty, .int .i64 0, .int .i64 0], []⟩ 8 (by kernel_rfl) (by kernel_rfl) (by kernel_rfl) (by kernel_rfl)) ?_
  intro W base args ds gs before hval0 hW hcnd _
  have hval : ∀ (j : Nat) t v, Try.f7.params[j]? = some t → args[j]? = some v → Value.okWide Try.prog W .any base t v := hval0
  have hW' := hW
  obtain ⟨p, q, hA0, hV, rfl, hfz, hnd⟩ := hW
  have hA : DataW.TrodAll enc Try.prog W 0 (fun _ => true) true Try.f7.params.toList args.toList ds p := hA0
  rw [Try.params7] at hA hval
  obtain ⟨v0, vs0, d0, ds0, p0, q0, hargs, rfl, rfl, h0, r0⟩ := trodAll_cons hA
  obtain ⟨v1, vs1, d1, ds1, p1, q1, rfl, rfl, rfl, h1, r1⟩ := trodAll_cons r0
  obtain ⟨v2, vs2, d2, ds2, p2, q2, rfl, rfl, rfl, h2, r2⟩ := trodAll_cons r1
  obtain ⟨v3, vs3, d3, ds3, p3, q3, rfl, rfl, rfl, h3, r3⟩ := trodAll_cons r2
  obtain ⟨rfl, rfl, rfl⟩ := trodAll_nil r3
  obtain rfl : args = #[v0, v1, v2, v3] := by cases args; simp_all
  obtain ⟨rfl, rfl⟩ := trodVars_none hV
  obtain ⟨s0, rfl, rfl, rfl, z0⟩ := open_string Try.underlying9 (hval 0 9 v0 rfl rfl) h0
  obtain ⟨s1, rfl, rfl, rfl, z1⟩ := open_string Try.underlying9 (hval 1 9 v1 rfl rfl) h1
  obtain ⟨a2, rfl, rfl, rfl, w2⟩ := open_int Try.underlying3 (hval 2 3 v2 rfl rfl) h2
  have f2 := inF_wf w2
  obtain ⟨a3, rfl, rfl, rfl, w3⟩ := open_int Try.underlying3 (hval 3 3 v3 rfl rfl) h3
  have f3 := inF_wf w3
  clear hA0 hval0
  refine (walk s0 z0 s1 z1 a2 f2 a3 f3 W    ).mono fun e W' ⟨he, bel⟩ => ?_
  subst he
  exact ⟨_, rfl, _, _, _, [], _, [], hW', trodAll_mk1 (shut_bool Try.underlying4 _), (trodAll_cons_mk (shut_string Try.underlying9 z0) (trodAll_cons_mk (shut_string Try.underlying9 z1) (trodAll_cons_mk (shut_int Try.underlying3 w2) (trodAll_cons_mk (shut_int Try.underlying3 w3) trodAll_mk0)))), rfl, bel.frame _, fun h => by cases h⟩

theorem over : Rows.platterOrderRow.holds Try.pinned (OpenSpec.ofChange Rows.platterOrderSpec) :=
  OpenClaim.holds_of_wide 7 Try.f7 rfl rfl rfl rfl rfl rfl rfl ⟨rfl, rfl, rfl, rfl, rfl⟩ rfl rfl rfl rfl rfl (by kernel_rfl) Try.func7 (by kernel_rfl)
    (of_decide_eq_true (by kernel_rfl)) (by unfold Func.isWrapper; first | (rw [if_pos (by decide +kernel)]; kernel_rfl) | (rw [if_neg (by decide +kernel)]; exact ⟨rfl, rfl⟩))
    (fun os started H enc _ => lifted os started H enc)

theorem proved : Rows.PlatterOrderSaid :=
  over
end Go.Proofs.Ytjmblichomchpaa.platterOrder

namespace Go.Proofs.Ytjmblichomchpaa
theorem platterOrder_holds : Rows.PlatterOrderSaid := platterOrder.proved
end Go.Proofs.Ytjmblichomchpaa

/-
  Proved: maquettelaw13.PlatterTwins returns true for every two texts and either bool, and leaves what it was given as it was; no condition.
-/
import Derived.Test.YtjmblichomchpaaRows
import Derived.Test.YtjmblichomchpaaTTwo
import Derived.WalkKit
import Derived.Deep.QuietTactic
import Derived.BigQuiet
import Derived.WalkSpells
import Derived.Deep.CutRange
import Derived.Deep.CutBlock
import Derived.WalkLawsBesides
import Derived.ProofKit
import Derived.OpenShut
import Derived.ShutString
import Derived.ChangeOld
import Derived.Below
namespace Go.Proofs.Ytjmblichomchpaa.platterTwins
open Go.ChangeShapes Go.WideShapes Go.ChangeAt Go.RowKit
open Go.ChangeMaps (open_string shut_string)
set_option linter.unusedVariables false

theorem own : ownKnob Try.prog.godebug = none := by kernel_rfl
theorem laidOut : laidOutB Try.prog = true := by kernel_rfl

def tw1a (X : ByteArray) : Pl := ⟨[X, zerosB 128], [zerosB 128, zerosB 128], [⟨0, X⟩], -1, false⟩
def tw1b (X : ByteArray) : Pl := ⟨[X, zerosB 128], [X, zerosB 128], [], -1, false⟩
def tw2a (X Y : ByteArray) : Pl := ⟨[Y, zerosB 128], [zerosB 128, zerosB 128], [⟨0, X⟩, ⟨0, Y⟩], -1, false⟩
def tw2b (X Y : ByteArray) : Pl := ⟨[Y, zerosB 128], [X, zerosB 128], [⟨0, Y⟩], -1, false⟩
def tw3 (Y : ByteArray) : Pl := ⟨[Y, zerosB 128], [Y, zerosB 128], [], -1, false⟩
theorem tw_s1 {X : ByteArray} (h : X.size = 128) : storeP (newP 2) 0 X = (0, tw1a X) := storeP_go (k := 0) lt02 h (by decide)
theorem tw_s2 (X : ByteArray) : settleP (tw1a X) = (0, tw1b X) := rfl
theorem tw_s3a (X : ByteArray) {Y : ByteArray} (h : Y.size = 128) : storeP (tw1a X) 0 Y = (0, tw2a X Y) := storeP_go (k := 0) lt02 h (by decide)
theorem tw_s3b (X : ByteArray) {Y : ByteArray} (h : Y.size = 128) : storeP (tw1b X) 0 Y = (0, tw2b X Y) := storeP_go (k := 0) lt02 h (by decide)
theorem tw_s4a (X Y : ByteArray) : settleP (tw2a X Y) = (0, tw3 Y) := rfl
theorem tw_s4b (X Y : ByteArray) : settleP (tw2b X Y) = (0, tw3 Y) := rfl
theorem tear_none (old new : ByteArray) : tear old new 0 = old := by
  unfold tear
  rw [List.take_zero, List.drop_zero, List.nil_append]
theorem tw_s5a (X : ByteArray) : failP (tw1a X) [] = (0, tw3 (zerosB 128)) := by
  have : failP (tw1a X) [] = (0, tw3 (tear (zerosB 128) X 0)) := rfl
  rw [this, tear_none]
theorem tw_s5b (X : ByteArray) : failP (tw1b X) [] = (0, tw3 X) := rfl
theorem tw_s6a (_ : ByteArray) : loadP (tw3 (zerosB 128)) 0 = (zerosB 128, 0) := loadP_go (k := 0) lt02
theorem tw_s6b (X : ByteArray) : loadP (tw3 X) 0 = (X, 0) := loadP_go (k := 0) lt02
theorem tw_s7 (Y : ByteArray) : loadP (tw3 Y) 0 = (Y, 0) := loadP_go (k := 0) lt02
theorem few1 : (1 : Nat) < 1000000 := by decide
theorem fill_empty : fillB ⟨#[]⟩ = zerosB 128 := by decide +kernel

set_option maxRecDepth 10000 in
set_option maxHeartbeats 8000000 in
theorem walk (s0 : ByteArray) (z0 : s0.size ≤ maxLen) (s1 : ByteArray) (z1 : s1.size ≤ maxLen) (k2 : Bool) (w : World)   :
    Calls Try.prog 8 #[.string s0, .string s1, .bool k2] w fun e w' => e = .returned (.bool true) ∧ Below w.heap.size w w' := by
  obtain ⟨X, hX⟩ : ∃ X, X = fillB s0 := ⟨_, rfl⟩
  obtain ⟨Y, hY⟩ : ∃ Y, Y = fillB s1 := ⟨_, rfl⟩
  have HX : Hid (X.size = 128) := by rw [hX]; exact fillB_size _
  have HY : Hid (Y.size = 128) := by rw [hY]; exact fillB_size _
  have hF0 : Hid (∀ W, Calls Try.prog 15 #[.string s0] W fun e w' => e = .returned (.string X) ∧ Grew W w') := by rw [hX]; exact fun W => fill_any W s0
  have hF1 : Hid (∀ W, Calls Try.prog 15 #[.string s1] W fun e w' => e = .returned (.string Y) ∧ Grew W w') := by rw [hY]; exact fun W => fill_any W s1
  have hFe : Hid (∀ W, Calls Try.prog 15 #[.string ⟨#[]⟩] W fun e w' => e = .returned (.string (zerosB 128)) ∧ Grew W w') := by rw [← fill_empty]; exact fun W => fill_any W ⟨#[]⟩
  have hNew : Hid (∀ W, Below w.heap.size w W → Calls Try.prog 10 #[.int .i64 2] W fun e w' => ∃ b, e = .returned (.pointer (some ⟨b, 0, none⟩)) ∧ One w w' b (newP 2)) := fun W h => one_new (k := 2) h (by decide) (by decide)
  clear hX hY
  have hal : Hid (∀ W, Calls Try.prog 9 #[] W fun e w' => e = .returned (.bool true) ∧ Below W.heap.size W w') := alive_any
  by_cases h0 : (200 : Int) < s0.size
  · go_enter Try.func8, Try.ntmps8
    go_wp2_with (first | (go_at_call 9; go_fit (hal.out w); rintro e w1 ⟨rfl, hB⟩))
    go_ret
    exact ⟨rfl, hB⟩
  by_cases h1 : (200 : Int) < s1.size
  · go_enter Try.func8, Try.ntmps8
    go_wp2_with (first | (go_at_call 9; go_fit (hal.out w); rintro e w1 ⟨rfl, hB⟩))
    go_ret
    exact ⟨rfl, hB⟩
  cases k2
  · go_enter Try.func8, Try.ntmps8
    go_wp2_with (first
      | (go_at_call 9; go_fit (hal.out w); rintro e w1 ⟨rfl, hB⟩)
      | (go_at_call 10; go_fit (hNew.out _ hB); rintro e w1 ⟨b, rfl, hO⟩)
      | (go_at_call 15; go_fit (hF0.out _); rintro e w1 ⟨rfl, G⟩; first | replace hT := hT.grew G | replace hO := hO.grew G)
      | (go_at_call 15; go_fit (hF1.out _); rintro e w1 ⟨rfl, G⟩; first | replace hT := hT.grew G | replace hO := hO.grew G)
      | (go_at_call 15; go_fit (hFe.out _); rintro e w1 ⟨rfl, G⟩; first | replace hT := hT.grew G | replace hO := hO.grew G)
      | (go_at_call 21; go_fit (one_twin hO); rintro e w1 ⟨d, rfl, hT⟩; clear hO)
      | (go_at_call 14; go_fit (one_store hO (tw_s1 HX.out) few0); rintro e w1 ⟨rfl, hO⟩)
      | (go_at_call 14; go_fit (two_store hT (tw_s3a X HY.out) few1); rintro e w1 ⟨rfl, hT⟩)
      | (go_at_call 16; go_fit (two_settle hT (tw_s4a X Y)); rintro e w1 ⟨rfl, hT⟩)
      | (go_at_call 19; go_fit (one_afloat hT.one (n := 1) rfl); rintro e w1 ⟨rfl, e⟩; have e := e.symm; subst e)
      | (go_at_call 19; go_fit (one_afloat hT.swap.one (n := 1) rfl); rintro e w1 ⟨rfl, e⟩; have e := e.symm; subst e)
      | (go_at_call 18; go_fit (two_fail0 hT.swap (tw_s5a X)); rintro e w1 ⟨rfl, hT⟩; replace hT := hT.swap)
      | (go_at_call 12; go_fit (one_load hT.swap.one (tw_s6a X)); rintro e w1 ⟨rfl, e⟩; have e := e.symm; subst e)
      | (go_at_call 12; go_fit (one_load hT.one (tw_s7 Y)); rintro e w1 ⟨rfl, e⟩; have e := e.symm; subst e)
      | (go_at_call 20; go_fit (one_pages hT.swap.one (n := 2) rfl); rintro e w1 ⟨rfl, e⟩; have e := e.symm; subst e)
      | fail)
    go_ret
    exact ⟨rfl, hT.one.2⟩
  · go_enter Try.func8, Try.ntmps8
    go_wp2_with (first
      | (go_at_call 9; go_fit (hal.out w); rintro e w1 ⟨rfl, hB⟩)
      | (go_at_call 10; go_fit (hNew.out _ hB); rintro e w1 ⟨b, rfl, hO⟩)
      | (go_at_call 15; go_fit (hF0.out _); rintro e w1 ⟨rfl, G⟩; first | replace hT := hT.grew G | replace hO := hO.grew G)
      | (go_at_call 15; go_fit (hF1.out _); rintro e w1 ⟨rfl, G⟩; first | replace hT := hT.grew G | replace hO := hO.grew G)
      | (go_at_call 15; go_fit (hFe.out _); rintro e w1 ⟨rfl, G⟩; first | replace hT := hT.grew G | replace hO := hO.grew G)
      | (go_at_call 21; go_fit (one_twin hO); rintro e w1 ⟨d, rfl, hT⟩; clear hO)
      | (go_at_call 14; go_fit (one_store hO (tw_s1 HX.out) few0); rintro e w1 ⟨rfl, hO⟩)
      | (go_at_call 14; go_fit (two_store hT (tw_s3b X HY.out) few0); rintro e w1 ⟨rfl, hT⟩)
      | (go_at_call 16; go_fit (one_settle hO (tw_s2 X)); rintro e w1 ⟨rfl, hO⟩)
      | (go_at_call 16; go_fit (two_settle hT (tw_s4b X Y)); rintro e w1 ⟨rfl, hT⟩)
      | (go_at_call 19; go_fit (one_afloat hT.one (n := 0) rfl); rintro e w1 ⟨rfl, e⟩; have e := e.symm; subst e)
      | (go_at_call 19; go_fit (one_afloat hT.swap.one (n := 0) rfl); rintro e w1 ⟨rfl, e⟩; have e := e.symm; subst e)
      | (go_at_call 18; go_fit (two_fail0 hT.swap (tw_s5b X)); rintro e w1 ⟨rfl, hT⟩; replace hT := hT.swap)
      | (go_at_call 12; go_fit (one_load hT.swap.one (tw_s6b X)); rintro e w1 ⟨rfl, e⟩; have e := e.symm; subst e)
      | (go_at_call 12; go_fit (one_load hT.one (tw_s7 Y)); rintro e w1 ⟨rfl, e⟩; have e := e.symm; subst e)
      | (go_at_call 20; go_fit (one_pages hT.swap.one (n := 2) rfl); rintro e w1 ⟨rfl, e⟩; have e := e.symm; subst e)
      | fail)
    go_ret
    exact ⟨rfl, hT.one.2⟩

set_option maxRecDepth 100000 in
theorem lifted (os : Os) (started : os.Started) (H : Type) (enc : TypeId × Value → H) :
    ReturnsInHanded {} Try.checked os 8 .any (Rows.platterTwinsSpec.pre6 enc Try.prog Try.f8 Rows.platterTwinsRow.domain false) (Rows.platterTwinsSpec.post enc Try.prog Try.f8 false true false false) := by
  refine returnsInHanded_of_change (C := Try.checked) own started (by kernel_rfl) Try.func8
    (ChangeSpec.witness6 (enc := enc) (C := Try.checked) false ⟨#[], #[.string ByteArray.empty, .string ByteArray.empty, .bool false], []⟩ 8 (by kernel_rfl) (by kernel_rfl) (by kernel_rfl) (by kernel_rfl)) ?_
  intro W base args ds gs before hval0 hW hcnd _
  have hval : ∀ (j : Nat) t v, Try.f8.params[j]? = some t → args[j]? = some v → Value.okWide Try.prog W .any base t v := hval0
  have hW' := hW
  obtain ⟨p, q, hA0, hV, rfl, hfz, hnd⟩ := hW
  have hA : DataW.TrodAll enc Try.prog W 0 (fun _ => true) true Try.f8.params.toList args.toList ds p := hA0
  rw [Try.params8] at hA hval
  obtain ⟨v0, vs0, d0, ds0, p0, q0, hargs, rfl, rfl, h0, r0⟩ := trodAll_cons hA
  obtain ⟨v1, vs1, d1, ds1, p1, q1, rfl, rfl, rfl, h1, r1⟩ := trodAll_cons r0
  obtain ⟨v2, vs2, d2, ds2, p2, q2, rfl, rfl, rfl, h2, r2⟩ := trodAll_cons r1
  obtain ⟨rfl, rfl, rfl⟩ := trodAll_nil r2
  obtain rfl : args = #[v0, v1, v2] := by cases args; simp_all
  obtain ⟨rfl, rfl⟩ := trodVars_none hV
  obtain ⟨s0, rfl, rfl, rfl, z0⟩ := open_string Try.underlying9 (hval 0 9 v0 rfl rfl) h0
  obtain ⟨s1, rfl, rfl, rfl, z1⟩ := open_string Try.underlying9 (hval 1 9 v1 rfl rfl) h1
  obtain ⟨k2, rfl, rfl, rfl⟩ := open_bool Try.underlying4 (hval 2 4 v2 rfl rfl) h2
  clear hA0 hval0
  refine (walk s0 z0 s1 z1 k2 W   ).mono fun e W' ⟨he, bel⟩ => ?_
  subst he
  exact ⟨_, rfl, _, _, _, [], _, [], hW', trodAll_mk1 (shut_bool Try.underlying4 _), (trodAll_cons_mk (shut_string Try.underlying9 z0) (trodAll_cons_mk (shut_string Try.underlying9 z1) (trodAll_cons_mk (shut_bool Try.underlying4 k2) trodAll_mk0))), rfl, bel.frame _, fun h => by cases h⟩

theorem over : Rows.platterTwinsRow.holds Try.pinned (OpenSpec.ofChange Rows.platterTwinsSpec) :=
  OpenClaim.holds_of_wide 8 Try.f8 rfl rfl rfl rfl rfl rfl rfl ⟨rfl, rfl, rfl, rfl, rfl⟩ rfl rfl rfl rfl rfl (by kernel_rfl) Try.func8 (by kernel_rfl)
    (of_decide_eq_true (by kernel_rfl)) (by unfold Func.isWrapper; first | (rw [if_pos (by decide +kernel)]; kernel_rfl) | (rw [if_neg (by decide +kernel)]; exact ⟨rfl, rfl⟩))
    (fun os started H enc _ => lifted os started H enc)

theorem proved : Rows.PlatterTwinsSaid :=
  over
end Go.Proofs.Ytjmblichomchpaa.platterTwins

namespace Go.Proofs.Ytjmblichomchpaa
theorem platterTwins_holds : Rows.PlatterTwinsSaid := platterTwins.proved
end Go.Proofs.Ytjmblichomchpaa

/-
  Proved: maquettelaw15.SheetKinds returns true for every int and every string, and leaves what it was given as it was; no condition.
-/
import Derived.Test.YtjcocmoidboamaaRows
import Derived.Test.YtjcocmoidboamaaZZero
import Derived.WalkKit
import Derived.Deep.QuietTactic
import Derived.BigQuiet
import Derived.WalkSpells
import Derived.Deep.CutRange
import Derived.Deep.CutBlock
import Derived.WalkLawsBesides
import Derived.ProofKit
import Derived.OpenShut
import Derived.ShutString
import Derived.ChangeOld
import Derived.Below
namespace Go.Proofs.Ytjcocmoidboamaa.sheetKinds
open Go.ChangeShapes Go.WideShapes Go.ChangeAt Go.RowKit
open Go.ChangeMaps (open_string shut_string)
set_option linter.unusedVariables false

theorem own : ownKnob Try.prog.godebug = none := by kernel_rfl
theorem laidOut : laidOutB Try.prog = true := by kernel_rfl

set_option maxRecDepth 100000 in
set_option maxHeartbeats 16000000 in
theorem walk (a0 : Int) (f0 : inF a0) (s1 : ByteArray) (z1 : s1.size ≤ maxLen) (w : World)  :
    Calls Try.prog 8 #[.int .i64 a0, .string s1] w fun e w' => e = .returned (.bool true) ∧ Below w.heap.size w w' := by
  have hal : Hid (∀ W, Calls Try.prog 9 #[] W fun e w' => e = .returned (.bool true) ∧ Below W.heap.size W w') := alive15
  by_cases hbad : a0 < 0 ∨ (¬ a0 < 0 ∧ 300 < a0) ∨ (¬ a0 < 0 ∧ ¬ 300 < a0 ∧ (200 : Int) < s1.size)
  · rcases hbad with h1 | ⟨h1, h2⟩ | ⟨h1, h2, h3⟩
    all_goals
      go_enter Try.func8, Try.ntmps8
      go_wp2_with (first | (go_at_call 9; go_fit (hal.out _); rintro e w1 ⟨rfl, hB⟩) | fail)
      go_ret
      exact ⟨rfl, hB⟩
  have h1 : ¬ a0 < 0 := by omega
  have h2 : ¬ 300 < a0 := by omega
  have h3 : ¬ (200 : Int) < s1.size := by omega
  obtain ⟨n, rfl⟩ := Int.eq_ofNat_of_zero_le (show 0 ≤ a0 by omega)
  obtain ⟨mk, cv⟩ := made_zeros n (by omega)
  have hKz : Hid (∀ W, Calls Try.prog 27 #[.string (zerosB n)] W fun e w' => e = .returned (.int .u8 0) ∧ Below W.heap.size W w') := fun W => kind_is _ W (by rw [zerosB_size]; omega) (kind_zeros n)
  have hsz : s1.size ≤ 1000000000 := by omega
  have hq := four_kinds s1
  generalize zerosB n = Z at *
  rcases hq with ⟨q1, q2, q3, q4⟩ | ⟨q1, q2, q3, q4⟩ | ⟨q1, q2, q3, q4⟩ | ⟨q1, q2, q3, q4⟩
  · have hS : Hid (∀ W, _) := fun W => slots_is s1 W hsz q1
    have hC : Hid (∀ W, _) := fun W => cells_is s1 W hsz q2
    have hL : Hid (∀ W, _) := fun W => link_is' s1 W hsz q3
    have hK : Hid (∀ W, _) := fun W => kind_is s1 W hsz q4
    clear q1 q2 q3 q4
    go_enter Try.func8, Try.ntmps8
    go_wp2_with (first
      | (go_at_call 9; go_fit (hal.out _); rintro e w1 ⟨rfl, hB1⟩)
      | (go_at_call 19; go_fit (hS.out _); rintro e w2 ⟨v2, rfl, hB2⟩)
      | (go_at_call 21; go_fit (hC.out _); rintro e w3 ⟨v3, rfl, hB3⟩)
      | (go_at_call 23; go_fit (hL.out _); rintro e w4 ⟨a4, b4, rfl, hB4⟩)
      | fail)
    have hB5 : Hid (Below w.heap.size w (w4.alloc (.cells #[.bool true, .bool false, .bool false] 4))) := ((on_two (on_two ((hB1.alloc hB1.size _).trans (hB2.mono (by have := hB1.size; simp; omega))) hB3) hB4).alloc (by have := hB1.size; have := hB2.size; have := hB3.size; have := hB4.size; simp at *; omega) _)
    refine wp_loop_rounds 4 ?_
    iterate 4
      rw [rounds_succ]
      go_wp2_with (first
        | (go_at_call 27; go_fit (hKz.out _); rintro e w5 ⟨rfl, hB6⟩)
        | (go_at_call 27; go_fit (hK.out _); rintro e w6 ⟨rfl, hB7⟩)
        | fail)
    go_ret
    exact ⟨rfl, on_two (on_two hB5.out hB6) hB7⟩
  · have hS : Hid (∀ W, _) := fun W => slots_is s1 W hsz q1
    have hC : Hid (∀ W, _) := fun W => cells_is s1 W hsz q2
    have hL : Hid (∀ W, _) := fun W => link_is' s1 W hsz q3
    have hK : Hid (∀ W, _) := fun W => kind_is s1 W hsz q4
    clear q1 q2 q3 q4
    go_enter Try.func8, Try.ntmps8
    go_wp2_with (first
      | (go_at_call 9; go_fit (hal.out _); rintro e w1 ⟨rfl, hB1⟩)
      | (go_at_call 19; go_fit (hS.out _); rintro e w2 ⟨v2, rfl, hB2⟩)
      | (go_at_call 21; go_fit (hC.out _); rintro e w3 ⟨v3, rfl, hB3⟩)
      | (go_at_call 23; go_fit (hL.out _); rintro e w4 ⟨a4, b4, rfl, hB4⟩)
      | fail)
    have hB5 : Hid (Below w.heap.size w (w4.alloc (.cells #[.bool false, .bool true, .bool false] 4))) := ((on_two (on_two ((hB1.alloc hB1.size _).trans (hB2.mono (by have := hB1.size; simp; omega))) hB3) hB4).alloc (by have := hB1.size; have := hB2.size; have := hB3.size; have := hB4.size; simp at *; omega) _)
    refine wp_loop_rounds 4 ?_
    iterate 4
      rw [rounds_succ]
      go_wp2_with (first
        | (go_at_call 27; go_fit (hKz.out _); rintro e w5 ⟨rfl, hB6⟩)
        | (go_at_call 27; go_fit (hK.out _); rintro e w6 ⟨rfl, hB7⟩)
        | fail)
    go_ret
    exact ⟨rfl, on_two (on_two hB5.out hB6) hB7⟩
  · have hS : Hid (∀ W, _) := fun W => slots_is s1 W hsz q1
    have hC : Hid (∀ W, _) := fun W => cells_is s1 W hsz q2
    have hL : Hid (∀ W, _) := fun W => link_is' s1 W hsz q3
    have hK : Hid (∀ W, _) := fun W => kind_is s1 W hsz q4
    clear q1 q2 q3 q4
    go_enter Try.func8, Try.ntmps8
    go_wp2_with (first
      | (go_at_call 9; go_fit (hal.out _); rintro e w1 ⟨rfl, hB1⟩)
      | (go_at_call 19; go_fit (hS.out _); rintro e w2 ⟨v2, rfl, hB2⟩)
      | (go_at_call 21; go_fit (hC.out _); rintro e w3 ⟨v3, rfl, hB3⟩)
      | (go_at_call 23; go_fit (hL.out _); rintro e w4 ⟨a4, b4, rfl, hB4⟩)
      | fail)
    have hB5 : Hid (Below w.heap.size w (w4.alloc (.cells #[.bool false, .bool false, .bool true] 4))) := ((on_two (on_two ((hB1.alloc hB1.size _).trans (hB2.mono (by have := hB1.size; simp; omega))) hB3) hB4).alloc (by have := hB1.size; have := hB2.size; have := hB3.size; have := hB4.size; simp at *; omega) _)
    refine wp_loop_rounds 4 ?_
    iterate 4
      rw [rounds_succ]
      go_wp2_with (first
        | (go_at_call 27; go_fit (hKz.out _); rintro e w5 ⟨rfl, hB6⟩)
        | (go_at_call 27; go_fit (hK.out _); rintro e w6 ⟨rfl, hB7⟩)
        | fail)
    go_ret
    exact ⟨rfl, on_two (on_two hB5.out hB6) hB7⟩
  · have hS : Hid (∀ W, _) := fun W => slots_is s1 W hsz q1
    have hC : Hid (∀ W, _) := fun W => cells_is s1 W hsz q2
    have hL : Hid (∀ W, _) := fun W => link_is' s1 W hsz q3
    have hK : Hid (∀ W, _) := fun W => kind_is s1 W hsz q4
    clear q1 q2 q3 q4
    go_enter Try.func8, Try.ntmps8
    go_wp2_with (first
      | (go_at_call 9; go_fit (hal.out _); rintro e w1 ⟨rfl, hB1⟩)
      | (go_at_call 19; go_fit (hS.out _); rintro e w2 ⟨v2, rfl, hB2⟩)
      | (go_at_call 21; go_fit (hC.out _); rintro e w3 ⟨v3, rfl, hB3⟩)
      | (go_at_call 23; go_fit (hL.out _); rintro e w4 ⟨a4, b4, rfl, hB4⟩)
      | fail)
    have hB5 : Hid (Below w.heap.size w (w4.alloc (.cells #[.bool false, .bool false, .bool false] 4))) := ((on_two (on_two ((hB1.alloc hB1.size _).trans (hB2.mono (by have := hB1.size; simp; omega))) hB3) hB4).alloc (by have := hB1.size; have := hB2.size; have := hB3.size; have := hB4.size; simp at *; omega) _)
    refine wp_loop_rounds 4 ?_
    iterate 4
      rw [rounds_succ]
      go_wp2_with (first
        | (go_at_call 27; go_fit (hKz.out _); rintro e w5 ⟨rfl, hB6⟩)
        | (go_at_call 27; go_fit (hK.out _); rintro e w6 ⟨rfl, hB7⟩)
        | fail)
    go_ret
    exact ⟨rfl, on_two (on_two hB5.out hB6) hB7⟩

set_option maxRecDepth 100000 in
theorem lifted (os : Os) (started : os.Started) (H : Type) (enc : TypeId × Value → H) :
    ReturnsInHanded {} Try.checked os 8 .any (Rows.sheetKindsSpec.pre6 enc Try.prog Try.f8 Rows.sheetKindsRow.domain false) (Rows.sheetKindsSpec.post enc Try.prog Try.f8 false true false false) := by
  refine returnsInHanded_of_change (C := Try.checked) own started (by kernel_rfl) Try.func8
    (ChangeSpec.witness6 (enc := enc) (C := Try.checked) false ⟨#[], #[.int .i64 0, .string ByteArray.empty], []⟩ 8 (by kernel_rfl) (by kernel_rfl) (by kernel_rfl) (by kernel_rfl)) ?_
  intro W base args ds gs before hval0 hW hcnd _
  have hval : ∀ (j : Nat) t v, Try.f8.params[j]? = some t → args[j]? = some v → Value.okWide Try.prog W .any base t v := hval0
  have hW' := hW
  obtain ⟨p, q, hA0, hV, rfl, hfz, hnd⟩ := hW
  have hA : DataW.TrodAll enc Try.prog W 0 (fun _ => true) true Try.f8.params.toList args.toList ds p := hA0
  rw [Try.params8] at hA hval
  obtain ⟨v0, vs0, d0, ds0, p0, q0, hargs, rfl, rfl, h0, r0⟩ := trodAll_cons hA
  obtain ⟨v1, vs1, d1, ds1, p1, q1, rfl, rfl, rfl, h1, r1⟩ := trodAll_cons r0
  obtain ⟨rfl, rfl, rfl⟩ := trodAll_nil r1
  obtain rfl : args = #[v0, v1] := by cases args; simp_all
  obtain ⟨rfl, rfl⟩ := trodVars_none hV
  obtain ⟨a0, rfl, rfl, rfl, w0⟩ := open_int Try.underlying3 (hval 0 3 v0 rfl rfl) h0
  have f0 := inF_wf w0
  obtain ⟨s1, rfl, rfl, rfl, z1⟩ := open_string Try.underlying9 (hval 1 9 v1 rfl rfl) h1
  clear hA0 hval0
  refine (walk a0 f0 s1 z1 W  ).mono fun e W' ⟨he, bel⟩ => ?_
  subst he
  exact ⟨_, rfl, _, _, _, [], _, [], hW', trodAll_mk1 (shut_bool Try.underlying4 _), (trodAll_cons_mk (shut_int Try.underlying3 w0) (trodAll_cons_mk (shut_string Try.underlying9 z1) trodAll_mk0)), rfl, bel.frame _, fun h => by cases h⟩

theorem over : Rows.sheetKindsRow.holds Try.pinned (OpenSpec.ofChange Rows.sheetKindsSpec) :=
  OpenClaim.holds_of_wide 8 Try.f8 rfl rfl rfl rfl rfl rfl rfl ⟨rfl, rfl, rfl, rfl, rfl⟩ rfl rfl rfl rfl rfl (by kernel_rfl) Try.func8 (by kernel_rfl)
    (of_decide_eq_true (by kernel_rfl)) (by unfold Func.isWrapper; first | (rw [if_pos (by decide +kernel)]; kernel_rfl) | (rw [if_neg (by decide +kernel)]; exact ⟨rfl, rfl⟩))
    (fun os started H enc _ => lifted os started H enc)

theorem proved : Rows.SheetKindsSaid :=
  over
end Go.Proofs.Ytjcocmoidboamaa.sheetKinds

namespace Go.Proofs.Ytjcocmoidboamaa
theorem sheetKinds_holds : Rows.SheetKindsSaid := sheetKinds.proved
end Go.Proofs.Ytjcocmoidboamaa

/-
  Proved: maquettelaw15.SheetChains returns true for every string and every int, and leaves what it was given as it was; no condition.
-/
import Derived.Test.YtjcocmoidboamaaRows
import Derived.Test.YtjcocmoidboamaaZAlive
import Derived.WalkKit
import Derived.Deep.QuietTactic
import Derived.BigQuiet
import Derived.WalkSpells
import Derived.Deep.CutRange
import Derived.Deep.CutBlock
import Derived.WalkLawsBesides
import Derived.ProofKit
import Derived.OpenShut
import Derived.ShutString
import Derived.ChangeOld
import Derived.Below
namespace Go.Proofs.Ytjcocmoidboamaa.sheetChains
open Go.ChangeShapes Go.WideShapes Go.ChangeAt Go.RowKit
open Go.ChangeMaps (open_string shut_string)
set_option linter.unusedVariables false

theorem own : ownKnob Try.prog.godebug = none := by kernel_rfl
theorem laidOut : laidOutB Try.prog = true := by kernel_rfl

theorem link_empty : isLink (ByteArray.empty).data.toList = false := by decide
theorem linkV_empty : linkV ByteArray.empty = (0, ByteArray.empty) := by
  unfold linkV
  rw [link_empty, if_neg (by decide)]
theorem kind_link {s : ByteArray} (h : isLink s.data.toList = true) : kindV s = 67 := by
  unfold kindV
  cases e : isIdx s with
  | true => rw [((one_kind s).1 e).2] at h; cases h
  | false =>
    cases e2 : isLeaf s with
    | true => rw [(one_kind s).2 e2] at h; cases h
    | false => rw [h]; rfl

set_option maxRecDepth 100000 in
set_option maxHeartbeats 16000000 in
theorem walk (s0 : ByteArray) (z0 : s0.size ≤ maxLen) (a1 : Int) (f1 : inF a1) (w : World)  :
    Calls Try.prog 6 #[.string s0, .int .i64 a1] w fun e w' => e = .returned (.bool true) ∧ Below w.heap.size w w' := by
  have hal : Hid (∀ W, Calls Try.prog 9 #[] W fun e w' => e = .returned (.bool true) ∧ Below W.heap.size W w') := alive15
  by_cases hbig : 200 < s0.size
  · have hi : (200 : Int) < s0.size := by omega
    go_enter Try.func6, Try.ntmps6
    go_wp2_with (first | (go_at_call 9; go_fit (hal.out _); rintro e w1 ⟨rfl, hB⟩) | fail)
    go_ret
    exact ⟨rfl, hB⟩
  have hi : ¬ (200 : Int) < s0.size := by omega
  have hC : Hid (∀ W, Calls Try.prog 16 #[.int .i64 a1, .string s0] W fun e w' => e = .returned (.tuple #[.string (chainV a1 s0.data.toList), .bool (chainOk a1 s0.data.toList)]) ∧ Below W.heap.size W w') := fun W => by
    have := schain_any a1 s0.data.toList W
    rw [txt_list] at this
    exact this
  have hsl : s0.data.toList.length = s0.size := Array.length_toList ..
  cases hk : chainOk a1 s0.data.toList with
  | false =>
    have hv : chainV a1 s0.data.toList = ByteArray.empty := by unfold chainV; rw [hk, if_neg (by decide)]
    rw [hk, hv] at hC
    have hL : Hid (∀ W, Calls Try.prog 23 #[.string ByteArray.empty] W fun e w' => e = .returned (.tuple #[.int .i64 0, .string ByteArray.empty, .bool false]) ∧ Below W.heap.size W w') := fun W => by
      have := link_any ByteArray.empty W (by decide)
      rw [link_empty, linkV_empty] at this
      exact this
    have hcase : (s0.size : Int) < 1 ∨ (120 : Int) < s0.size ∧ ¬ (s0.size : Int) < 1 ∨ (¬ (120 : Int) < s0.size ∧ ¬ (s0.size : Int) < 1) ∧ (¬ a1 = 0 ∧ a1 < 2) ∨ (¬ (120 : Int) < s0.size ∧ ¬ (s0.size : Int) < 1) ∧ (¬ a1 = 0 ∧ ¬ a1 < 2 ∧ 200 ≤ a1) := by
      have hno : ¬ ((a1 = 0 ∨ 2 ≤ a1 ∧ a1 < 200) ∧ 1 ≤ s0.data.toList.length ∧ s0.data.toList.length ≤ 120) := fun e => by rw [(chainOk_iff _ _).2 e] at hk; cases hk
      omega
    clear hk hv hsl
    rcases hcase with c | ⟨c, d⟩ | ⟨⟨c, d⟩, m, n⟩ | ⟨⟨c, d⟩, m, n, o⟩
    all_goals
      go_enter Try.func6, Try.ntmps6
      go_wp2_with (first
        | (go_at_call 9; go_fit (hal.out _); rintro e w1 ⟨rfl, hB⟩)
        | (go_at_call 16; go_fit (hC.out _); rintro e w2 ⟨rfl, hB2⟩)
        | (go_at_call 23; go_fit (hL.out _); rintro e w3 ⟨rfl, hB3⟩)
        | fail)
      go_ret
      first | exact ⟨rfl, on_three hB hB2 hB3⟩ | exact ⟨ret_bool (by simp; omega), on_three hB hB2 hB3⟩
  | true =>
    have hh := (chainOk_iff _ _).1 hk
    rw [hsl] at hh
    have hv : chainV a1 s0.data.toList = txt (chainL a1 s0.data.toList) := if_pos hk
    rw [hk, hv] at hC
    obtain ⟨q1, q2, _⟩ := link_chain hk
    have hi : isLink (chainL a1 s0.data.toList) = true := (isLink_iff _).2 ⟨_, _, hk, rfl⟩
    have hz : (txt (chainL a1 s0.data.toList)).size = 128 := by rw [txt_size]; exact isLink_128 hi
    have hlv : linkV (txt (chainL a1 s0.data.toList)) = (a1, s0) := by
      unfold linkV
      rw [list_txt, if_pos hi, q1, q2, txt_list]
    have hL : Hid (∀ W, Calls Try.prog 23 #[.string (txt (chainL a1 s0.data.toList))] W fun e w' => e = .returned (.tuple #[.int .i64 a1, .string s0, .bool true]) ∧ Below W.heap.size W w') := fun W => by
      have := link_any (txt (chainL a1 s0.data.toList)) W (by rw [hz]; omega)
      rw [hlv, list_txt, hi] at this
      exact this
    have hK : Hid (∀ W, Calls Try.prog 27 #[.string (txt (chainL a1 s0.data.toList))] W fun e w' => e = .returned (.int .u8 67) ∧ Below W.heap.size W w') := fun W => by
      have := kind_any (txt (chainL a1 s0.data.toList)) W (by rw [hz]; omega)
      rw [kind_link (by rw [list_txt]; exact hi)] at this
      exact this
    clear hk hv hsl q1 q2 hi hlv
    generalize txt (chainL a1 s0.data.toList) = P at *
    have hz' : (P.size : Int) = 128 := by omega
    clear hz
    have c : ¬ (120 : Int) < s0.size := by omega
    have d : ¬ (s0.size : Int) < 1 := by omega
    rcases hh.1 with hn | ⟨hn, hm⟩
    · subst hn
      clear hh
      go_enter Try.func6, Try.ntmps6
      go_wp2_with (first
        | (go_at_call 9; go_fit (hal.out _); rintro e w1 ⟨rfl, hB⟩)
        | (go_at_call 16; go_fit (hC.out _); rintro e w2 ⟨rfl, hB2⟩)
        | (go_at_call 23; go_fit (hL.out _); rintro e w3 ⟨rfl, hB3⟩)
        | (go_at_call 27; go_fit (hK.out _); rintro e w4 ⟨rfl, hB4⟩)
        | fail)
      go_ret
      exact ⟨rfl, on_two (on_three hB hB2 hB3) hB4⟩
    · have hn0 : ¬ a1 = 0 := by omega
      have hn2 : ¬ a1 < 2 := by omega
      clear hh
      go_enter Try.func6, Try.ntmps6
      go_wp2_with (first
        | (go_at_call 9; go_fit (hal.out _); rintro e w1 ⟨rfl, hB⟩)
        | (go_at_call 16; go_fit (hC.out _); rintro e w2 ⟨rfl, hB2⟩)
        | (go_at_call 23; go_fit (hL.out _); rintro e w3 ⟨rfl, hB3⟩)
        | (go_at_call 27; go_fit (hK.out _); rintro e w4 ⟨rfl, hB4⟩)
        | fail)
      go_ret
      exact ⟨rfl, on_two (on_three hB hB2 hB3) hB4⟩

set_option maxRecDepth 100000 in
theorem lifted (os : Os) (started : os.Started) (H : Type) (enc : TypeId × Value → H) :
    ReturnsInHanded {} Try.checked os 6 .any (Rows.sheetChainsSpec.pre6 enc Try.prog Try.f6 Rows.sheetChainsRow.domain false) (Rows.sheetChainsSpec.post enc Try.prog Try.f6 false true false false) := by
  refine returnsInHanded_of_change (C := Try.checked) own started (by kernel_rfl) Try.func6
    (ChangeSpec.witness6 (enc := enc) (C := Try.checked) false ⟨#[], #[.string ByteArray.empty, .int .i64 0], []⟩ 8 (by kernel_rfl) (by kernel_rfl) (by kernel_rfl) (by kernel_rfl)) ?_
  intro W base args ds gs before hval0 hW hcnd _
  have hval : ∀ (j : Nat) t v, Try.f6.params[j]? = some t → args[j]? = some v → Value.okWide Try.prog W .any base t v := hval0
  have hW' := hW
  obtain ⟨p, q, hA0, hV, rfl, hfz, hnd⟩ := hW
  have hA : DataW.TrodAll enc Try.prog W 0 (fun _ => true) true Try.f6.params.toList args.toList ds p := hA0
  rw [Try.params6] at hA hval
  obtain ⟨v0, vs0, d0, ds0, p0, q0, hargs, rfl, rfl, h0, r0⟩ := trodAll_cons hA
  obtain ⟨v1, vs1, d1, ds1, p1, q1, rfl, rfl, rfl, h1, r1⟩ := trodAll_cons r0
  obtain ⟨rfl, rfl, rfl⟩ := trodAll_nil r1
  obtain rfl : args = #[v0, v1] := by cases args; simp_all
  obtain ⟨rfl, rfl⟩ := trodVars_none hV
  obtain ⟨s0, rfl, rfl, rfl, z0⟩ := open_string Try.underlying9 (hval 0 9 v0 rfl rfl) h0
  obtain ⟨a1, rfl, rfl, rfl, w1⟩ := open_int Try.underlying3 (hval 1 3 v1 rfl rfl) h1
  have f1 := inF_wf w1
  clear hA0 hval0
  refine (walk s0 z0 a1 f1 W  ).mono fun e W' ⟨he, bel⟩ => ?_
  subst he
  exact ⟨_, rfl, _, _, _, [], _, [], hW', trodAll_mk1 (shut_bool Try.underlying4 _), (trodAll_cons_mk (shut_string Try.underlying9 z0) (trodAll_cons_mk (shut_int Try.underlying3 w1) trodAll_mk0)), rfl, bel.frame _, fun h => by cases h⟩

theorem over : Rows.sheetChainsRow.holds Try.pinned (OpenSpec.ofChange Rows.sheetChainsSpec) :=
  OpenClaim.holds_of_wide 6 Try.f6 rfl rfl rfl rfl rfl rfl rfl ⟨rfl, rfl, rfl, rfl, rfl⟩ rfl rfl rfl rfl rfl (by kernel_rfl) Try.func6 (by kernel_rfl)
    (of_decide_eq_true (by kernel_rfl)) (by unfold Func.isWrapper; first | (rw [if_pos (by decide +kernel)]; kernel_rfl) | (rw [if_neg (by decide +kernel)]; exact ⟨rfl, rfl⟩))
    (fun os started H enc _ => lifted os started H enc)

theorem proved : Rows.SheetChainsSaid :=
  over
end Go.Proofs.Ytjcocmoidboamaa.sheetChains

namespace Go.Proofs.Ytjcocmoidboamaa
theorem sheetChains_holds : Rows.SheetChainsSaid := sheetChains.proved
end Go.Proofs.Ytjcocmoidboamaa

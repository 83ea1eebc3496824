/-
  Proved: maquettelaw14.CrownTurns returns true for every three ints, and leaves what it was given as it was; no condition.
-/
import Derived.Test.YtehlbcjfbofnnaaRows
import Derived.Test.YtehlbcjfbofnnaaYAlive
import Derived.Test.YtehlbcjfbofnnaaYData
import Derived.WalkKit
import Derived.Deep.QuietTactic
import Derived.BigQuiet
import Derived.WalkSpells
import Derived.Deep.CutRange
import Derived.Deep.CutBlock
import Derived.WalkLawsBesides
import Derived.ProofKit
import Derived.OpenShut
import Derived.ChangeOld
import Derived.Below
namespace Go.Proofs.Ytehlbcjfbofnnaa.crownTurns
open Go.ChangeShapes Go.WideShapes Go.ChangeAt Go.RowKit
set_option linter.unusedVariables false

theorem own : ownKnob Try.prog.godebug = none := by kernel_rfl
theorem laidOut : laidOutB Try.prog = true := by kernel_rfl

theorem turns_put {C : Cr} {k : Bool} {x : ByteArray} (hk : okC C = k) (hx : putV C = x) : Hid (∀ W, Calls Try.prog 10 #[.agg #[.int .i64 C.g, .int .i64 C.r, .int .i64 C.p]] W fun e w' => e = .returned (.tuple #[.string x, .bool k]) ∧ Below W.heap.size W w') := fun W => by
  have := put_any C W
  rw [hk, hx] at this
  exact this
theorem zeros_none : getL (zerosB 128).data.toList = noC ∧ isC (zerosB 128).data.toList = false := by
  have e : isC (zerosB 128).data.toList = false := by decide +kernel
  exact ⟨get_no e, e⟩

set_option maxRecDepth 100000 in
set_option maxHeartbeats 16000000 in
theorem walk (a0 : Int) (f0 : inF a0) (a1 : Int) (f1 : inF a1) (a2 : Int) (f2 : inF a2) (w : World)   :
    Calls Try.prog 5 #[.int .i64 a0, .int .i64 a1, .int .i64 a2] w fun e w' => e = .returned (.bool true) ∧ Below w.heap.size w w' := by
  have hal : Hid (∀ W, Calls Try.prog 9 #[] W fun e w' => e = .returned (.bool true) ∧ Below W.heap.size W w') := alive_any
  have B0 := Below.refl w.heap.size w
  cases hk0 : okC ⟨a0, a1, a2⟩ with
  | false =>
    have h0 := turns_put hk0 rfl
    generalize putV ⟨a0, a1, a2⟩ = x at *
    dsimp only at h0
    clear hk0
    go_enter Try.func5, Try.ntmps5
    go_wp2_with (first
      | (go_at_call 10; go_fit (h0.out _); rintro e W1 ⟨rfl, K1⟩; have B1 := chain B0 K1)
      | (go_at_call 9; go_fit (hal.out _); rintro e W3 ⟨rfl, K3⟩; have B3 := chain B1 K3)
      | fail)
    go_ret
    exact ⟨rfl, B3⟩
  | true =>
    have h0 := turns_put hk0 (x := putB ⟨a0, a1, a2⟩) (by unfold putV; rw [if_pos hk0])
    dsimp only at h0
    by_cases hg : 4611686018427387904 ≤ a0
    · generalize putB ⟨a0, a1, a2⟩ = x at *
      clear hk0
      go_enter Try.func5, Try.ntmps5
      go_wp2_with (first
        | (go_at_call 10; go_fit (h0.out _); rintro e W1 ⟨rfl, K1⟩; have B1 := chain B0 K1)
        | (go_at_call 9; go_fit (hal.out _); rintro e W3 ⟨rfl, K3⟩; have B3 := chain B1 K3)
        | fail)
      go_ret
      exact ⟨rfl, B3⟩
    · have hk := (okC_iff _).1 hk0
      dsimp only at hk
      have hk1 : okC ⟨a0 + 1, a1, a2⟩ = true := by rw [okC_iff]; dsimp only; omega
      have h1 := turns_put hk1 (x := putB ⟨a0 + 1, a1, a2⟩) (by unfold putV; rw [if_pos hk1])
      have h2 : Hid (∀ W, _) := fun W => pick_puts hk0 hk1 W
      have h3 : Hid (∀ W, _) := fun W => pick_puts hk1 hk0 W
      have h4 : Hid (∀ W, _) := fun W => pick_any (zerosB 128) (putB ⟨a0, a1, a2⟩) W
      have h5 : Hid (∀ W, _) := fun W => pick_any (zerosB 128) (zerosB 128) W
      have lt1 : a0 < a0 + 1 := by omega
      have lt2 : ¬ a0 + 1 < a0 := by omega
      have lt3 : (0 : Int) < a0 := by omega
      rw [put_list] at h4
      unfold pickC pickI pickO at h4 h5
      rw [zeros_none.1, zeros_none.2] at h4 h5
      rw [get_put hk0, isC_put hk0] at h4
      unfold noC at h4 h5
      unfold Cr.val at h2 h3 h4 h5
      simp only [lt1, lt2, lt3, if_true, if_false, Bool.or_true, Bool.or_false] at h2 h3 h4 h5
      simp only [Int.lt_irrefl, if_false] at h5
      have hz : Hid (∀ W, Calls Try.prog 17 #[.int .i64 128] W fun e w' => e = .returned (.string (zerosB 128)) ∧ Grew W w') := fun W => zeros_any W 128 (by decide) (by decide)
      generalize putB ⟨a0, a1, a2⟩ = x at *
      generalize putB ⟨a0 + 1, a1, a2⟩ = y at *
      generalize zerosB 128 = z at *
      have hp : wrap64 (a0 + 1) = a0 + 1 := IntWalk.wrap64_in _ ⟨by omega, by omega⟩
      have hm : ¬ a0 % 2 = (a0 + 1) % 2 := by omega
      dsimp only at h1
      clear hk0 hk1 lt1 lt2 lt3
      obtain ⟨hk1, hk2, _⟩ := hk
      go_enter Try.func5, Try.ntmps5
      go_wp2_with (first
        | (go_at_call 10; go_fit (h0.out _); rintro e W1 ⟨rfl, K1⟩; have B1 := chain B0 K1; clear K1)
        | (go_at_call 10; go_fit (h1.out _); rintro e W2 ⟨rfl, K2⟩; have B2 := chain B3 K2; clear K2)
        | (go_at_call 9; go_fit (hal.out _); rintro e W3 ⟨rfl, K3⟩; have B3 := chain B1 K3; clear K3)
        | (go_at_call 14; go_fit (h2.out _); rintro e W4 ⟨rfl, K4⟩; have B4 := chain B2 K4; clear K4)
        | (go_at_call 14; go_fit (h3.out _); rintro e W5 ⟨rfl, K5⟩; have B5 := chain (B4.alloc B4.size _) K5; have x5 := ((cat_new W4 ⟨a0 + 1, a1, a2⟩ _).below K5).g; dsimp only at x5; clear K5)
        | (go_at_call 17; go_fit (hz.out _); rintro e W6 ⟨rfl, K6⟩; have B6 := chain (B5.alloc B5.size _) K6.below; have x6 := K6.cell (((Grew.refl W5).alloc _ _).cell x5); have y6 := ((cat_new W5 ⟨a0 + 1, a1, a2⟩ _).grew K6).g; dsimp only at y6; clear K6)
        | (go_at_call 14; go_fit (h4.out _); rintro e W7 ⟨rfl, K7⟩; have B7 := chain B6 K7; have x7 := below_cell K7 x6; have y7 := below_cell K7 y6; have l7 := cell_block x7; have m7 := cell_block y7; dsimp only at l7 m7; clear K7)
        | (go_at_call 14; go_fit (h5.out _); rintro e W8 ⟨rfl, K8⟩; have B8 := chain (B7.alloc B7.size _) K8; have x8 := below_cell K8 (((Grew.refl W7).alloc _ _).cell x7); have y8 := below_cell K8 (((Grew.refl W7).alloc _ _).cell y7); have z8 := ((cat_new W7 ⟨a0, a1, a2⟩ _).below K8).g; have l8 := cell_block x8; have m8 := cell_block y8; have n8 := cell_block z8; dsimp only at l8 m8 n8 z8; clear K8)
        | (go_at_call 16; go_fit (slot_any a0 _); rintro e W9 ⟨rfl, rfl⟩)
        | (go_at_call 16; go_fit (slot_any (a0 + 1) _); rintro e W9 ⟨rfl, rfl⟩)
        | fail)
      go_ret
      exact ⟨ret_bool (by simp; omega), B8.alloc B8.size _⟩

set_option maxRecDepth 100000 in
theorem lifted (os : Os) (started : os.Started) (H : Type) (enc : TypeId × Value → H) :
    ReturnsInHanded {} Try.checked os 5 .any (Rows.crownTurnsSpec.pre6 enc Try.prog Try.f5 Rows.crownTurnsRow.domain false) (Rows.crownTurnsSpec.post enc Try.prog Try.f5 false true false false) := by
  refine returnsInHanded_of_change (C := Try.checked) own started (by kernel_rfl) Try.func5
    (ChangeSpec.witness6 (enc := enc) (C := Try.checked) false ⟨#[], #[.int .i64 0, .int .i64 0, .int .i64 0], []⟩ 8 (by kernel_rfl) (by kernel_rfl) (by kernel_rfl) (by kernel_rfl)) ?_
  intro W base args ds gs before hval0 hW hcnd _
  have hval : ∀ (j : Nat) t v, Try.f5.params[j]? = some t → args[j]? = some v → Value.okWide Try.prog W .any base t v := hval0
  have hW' := hW
  obtain ⟨p, q, hA0, hV, rfl, hfz, hnd⟩ := hW
  have hA : DataW.TrodAll enc Try.prog W 0 (fun _ => true) true Try.f5.params.toList args.toList ds p := hA0
  rw [Try.params5] at hA hval
  obtain ⟨v0, vs0, d0, ds0, p0, q0, hargs, rfl, rfl, h0, r0⟩ := trodAll_cons hA
  obtain ⟨v1, vs1, d1, ds1, p1, q1, rfl, rfl, rfl, h1, r1⟩ := trodAll_cons r0
  obtain ⟨v2, vs2, d2, ds2, p2, q2, rfl, rfl, rfl, h2, r2⟩ := trodAll_cons r1
  obtain ⟨rfl, rfl, rfl⟩ := trodAll_nil r2
  obtain rfl : args = #[v0, v1, v2] := by cases args; simp_all
  obtain ⟨rfl, rfl⟩ := trodVars_none hV
  obtain ⟨a0, rfl, rfl, rfl, w0⟩ := open_int Try.underlying3 (hval 0 3 v0 rfl rfl) h0
  have f0 := inF_wf w0
  obtain ⟨a1, rfl, rfl, rfl, w1⟩ := open_int Try.underlying3 (hval 1 3 v1 rfl rfl) h1
  have f1 := inF_wf w1
  obtain ⟨a2, rfl, rfl, rfl, w2⟩ := open_int Try.underlying3 (hval 2 3 v2 rfl rfl) h2
  have f2 := inF_wf w2
  clear hA0 hval0
  refine (walk a0 f0 a1 f1 a2 f2 W   ).mono fun e W' ⟨he, bel⟩ => ?_
  subst he
  exact ⟨_, rfl, _, _, _, [], _, [], hW', trodAll_mk1 (shut_bool Try.underlying4 _), (trodAll_cons_mk (shut_int Try.underlying3 w0) (trodAll_cons_mk (shut_int Try.underlying3 w1) (trodAll_cons_mk (shut_int Try.underlying3 w2) trodAll_mk0))), rfl, bel.frame _, fun h => by cases h⟩

theorem over : Rows.crownTurnsRow.holds Try.pinned (OpenSpec.ofChange Rows.crownTurnsSpec) :=
  OpenClaim.holds_of_wide 5 Try.f5 rfl rfl rfl rfl rfl rfl rfl ⟨rfl, rfl, rfl, rfl, rfl⟩ rfl rfl rfl rfl rfl (by kernel_rfl) Try.func5 (by kernel_rfl)
    (of_decide_eq_true (by kernel_rfl)) (by unfold Func.isWrapper; first | (rw [if_pos (by decide +kernel)]; kernel_rfl) | (rw [if_neg (by decide +kernel)]; exact ⟨rfl, rfl⟩))
    (fun os started H enc _ => lifted os started H enc)

theorem proved : Rows.CrownTurnsSaid :=
  over
end Go.Proofs.Ytehlbcjfbofnnaa.crownTurns

namespace Go.Proofs.Ytehlbcjfbofnnaa
theorem crownTurns_holds : Rows.CrownTurnsSaid := crownTurns.proved
end Go.Proofs.Ytehlbcjfbofnnaa

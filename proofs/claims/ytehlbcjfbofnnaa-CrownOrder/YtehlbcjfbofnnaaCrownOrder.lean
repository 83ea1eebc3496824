/-
  Proved: maquettelaw14.CrownOrder returns true for every two crowns, and leaves what it was given as it was; no condition.
-/
import Derived.Test.YtehlbcjfbofnnaaRows
import Derived.Test.YtehlbcjfbofnnaaYAlive
import Derived.Test.YtehlbcjfbofnnaaYData
import Derived.WalkKit
import Derived.Deep.QuietTactic
import Derived.BigQuiet
import Derived.WalkSpells
import Derived.Deep.CutRange
import Derived.Deep.CutBlock
import Derived.WalkLawsBesides
import Derived.ProofKit
import Derived.OpenShut
import Derived.ChangeOld
import Derived.Below
namespace Go.Proofs.Ytehlbcjfbofnnaa.crownOrder
open Go.ChangeShapes Go.WideShapes Go.ChangeAt Go.RowKit
set_option linter.unusedVariables false

theorem own : ownKnob Try.prog.godebug = none := by kernel_rfl
theorem laidOut : laidOutB Try.prog = true := by kernel_rfl

theorem order_put {C : Cr} {k : Bool} {x : ByteArray} (hk : okC C = k) (hx : putV C = x) : Hid (∀ W, Calls Try.prog 10 #[.agg #[.int .i64 C.g, .int .i64 C.r, .int .i64 C.p]] W fun e w' => e = .returned (.tuple #[.string x, .bool k]) ∧ Below W.heap.size W w') := fun W => by
  have := put_any C W
  rw [hk, hx] at this
  exact this

set_option maxRecDepth 100000 in
set_option maxHeartbeats 16000000 in
theorem walk (C0 : Cr) (o0 : C0.ok) (C1 : Cr) (o1 : C1.ok) (w : World)  :
    Calls Try.prog 8 #[C0.val, C1.val] w fun e w' => e = .returned (.bool true) ∧ Below w.heap.size w w' := by
  have hal : Hid (∀ W, Calls Try.prog 9 #[] W fun e w' => e = .returned (.bool true) ∧ Below W.heap.size W w') := alive_any
  cases hk0 : okC C0 with
  | false =>
    have h0 := order_put hk0 rfl
    have h1 := order_put (C := C1) rfl rfl
    generalize putV C0 = x at *
    generalize putV C1 = y at *
    generalize okC C1 = k at *
    clear hk0
    unfold Cr.val
    go_enter Try.func8, Try.ntmps8
    go_wp2_with (first
      | (go_at_call 10; go_fit (h0.out _); rintro e W1 ⟨rfl, K1⟩; obtain ⟨B1, D0, D1, l1⟩ := boxes2 C0 C1 K1; have x0 := D1.g; have x1 := D1.r; have x2 := D1.p; clear K1 D0 D1)
      | (go_at_call 10; go_fit (h1.out _); rintro e W2 ⟨rfl, K2⟩; have B2 := chain B1 K2)
      | (go_at_call 9; go_fit (hal.out _); rintro e W3 ⟨rfl, K3⟩; have B3 := chain B2 K3)
      | fail)
    go_ret
    exact ⟨rfl, B3⟩
  | true =>
   cases hk1 : okC C1 with
   | false =>
    have h0 := order_put hk0 rfl
    have h1 := order_put hk1 rfl
    generalize putV C0 = x at *
    generalize putV C1 = y at *
    clear hk0 hk1
    unfold Cr.val
    go_enter Try.func8, Try.ntmps8
    go_wp2_with (first
      | (go_at_call 10; go_fit (h0.out _); rintro e W1 ⟨rfl, K1⟩; obtain ⟨B1, D0, D1, l1⟩ := boxes2 C0 C1 K1; have x0 := D1.g; have x1 := D1.r; have x2 := D1.p; clear K1 D0 D1)
      | (go_at_call 10; go_fit (h1.out _); rintro e W2 ⟨rfl, K2⟩; have B2 := chain B1 K2)
      | (go_at_call 9; go_fit (hal.out _); rintro e W3 ⟨rfl, K3⟩; have B3 := chain B2 K3)
      | fail)
    go_ret
    exact ⟨rfl, B3⟩
   | true =>
    have h0 := order_put hk0 (x := putB C0) (by unfold putV; rw [if_pos hk0])
    have h1 := order_put hk1 (x := putB C1) (by unfold putV; rw [if_pos hk1])
    have h2 : Hid (∀ W, _) := fun W => pick_puts hk0 hk1 W
    have he := same_bytes (put_ends C0)
    have hs := putB_size C0
    generalize putB C0 = x at *
    generalize putB C1 = y at *
    clear hk0 hk1
    have heq := fun W => same_crown C0.g C0.r C0.p W
    have heq2 := fun W => same_crown C1.g C1.r C1.p W
    by_cases hlt : C0.g < C1.g
    · simp only [hlt, if_true] at h2
      unfold Cr.val at h2
      unfold Cr.val
      go_enter Try.func8, Try.ntmps8
      go_upto_region 9 with (first
        | (go_at_call 10; go_fit (h0.out _); rintro e W1 ⟨rfl, K1⟩; obtain ⟨B1, D0, D1, l1⟩ := boxes2 C0 C1 K1; have x0 := D1.g; have x1 := D1.r; have x2 := D1.p; clear K1)
        | (go_at_call 10; go_fit (h1.out _); rintro e W2 ⟨rfl, K2⟩; have B2 := chain B1 K2; have E0 := D0.below K2; have E1 := D1.below K2; clear K2 D0 D1 x0 x1 x2)
        | (go_at_call 9; go_fit (hal.out _); rintro e W3 ⟨rfl, K3⟩; have B3 := chain B2 K3; replace E0 := E0.below K3; replace E1 := E1.below K3; clear K3)
        | (go_at_call 14; go_fit (h2.out _); rintro e W4 ⟨rfl, K4⟩; have B4 := chain B3 K4; have y0 := (E0.below K4).g; have y1 := (E0.below K4).r; have y2 := (E0.below K4).p; have z0 := (E1.below K4).g; have z1 := (E1.below K4).r; have z2 := (E1.below K4).p; have l4 : w.heap.size + 1 < W4.heap.size := cell_block z0; have l5 : w.heap.size < W4.heap.size := cell_block y0; clear K4 E0 E1)
        | fail)
      have B5 := below_drewN ((B4.alloc B4.size (.cells #[.int .i64 C1.g, .int .i64 C1.r, .int .i64 C1.p] 23)).alloc (Nat.le_trans B4.size (by simp)) (.cells #[.int .i64 C1.g, .int .i64 C1.r, .int .i64 C1.p] 23))
      go_quiet (fail)
      go_wp2_with (fail)
      go_ret
      exact ⟨rfl, B5 _⟩
    · simp only [hlt, if_false] at h2
      unfold Cr.val at h2
      unfold Cr.val
      go_enter Try.func8, Try.ntmps8
      go_upto_region 9 with (first
        | (go_at_call 10; go_fit (h0.out _); rintro e W1 ⟨rfl, K1⟩; obtain ⟨B1, D0, D1, l1⟩ := boxes2 C0 C1 K1; have x0 := D1.g; have x1 := D1.r; have x2 := D1.p; clear K1)
        | (go_at_call 10; go_fit (h1.out _); rintro e W2 ⟨rfl, K2⟩; have B2 := chain B1 K2; have E0 := D0.below K2; have E1 := D1.below K2; clear K2 D0 D1 x0 x1 x2)
        | (go_at_call 9; go_fit (hal.out _); rintro e W3 ⟨rfl, K3⟩; have B3 := chain B2 K3; replace E0 := E0.below K3; replace E1 := E1.below K3; clear K3)
        | (go_at_call 14; go_fit (h2.out _); rintro e W4 ⟨rfl, K4⟩; have B4 := chain B3 K4; have y0 := (E0.below K4).g; have y1 := (E0.below K4).r; have y2 := (E0.below K4).p; have z0 := (E1.below K4).g; have z1 := (E1.below K4).r; have z2 := (E1.below K4).p; have l4 : w.heap.size + 1 < W4.heap.size := cell_block z0; have l5 : w.heap.size < W4.heap.size := cell_block y0; clear K4 E0 E1)
        | fail)
      have B5 := below_drewN ((B4.alloc B4.size (.cells #[.int .i64 C0.g, .int .i64 C0.r, .int .i64 C0.p] 23)).alloc (Nat.le_trans B4.size (by simp)) (.cells #[.int .i64 C0.g, .int .i64 C0.r, .int .i64 C0.p] 23))
      go_quiet (fail)
      go_wp2_with (fail)
      go_ret
      exact ⟨rfl, B5 _⟩

set_option maxRecDepth 100000 in
theorem lifted (os : Os) (started : os.Started) (H : Type) (enc : TypeId × Value → H) :
    ReturnsInHanded {} Try.checked os 8 .any (Rows.crownOrderSpec.pre6 enc Try.prog Try.f8 Rows.crownOrderRow.domain false) (Rows.crownOrderSpec.post enc Try.prog Try.f8 false true false false) := by
  refine returnsInHanded_of_change (C := Try.checked) own started (by kernel_rfl) Try.func8
    (ChangeSpec.witness6 (enc := enc) (C := Try.checked) false ⟨#[], #[.agg #[.int .i64 0, .int .i64 0, .int .i64 0], .agg #[.int .i64 0, .int .i64 0, .int .i64 0]], []⟩ 8 (by kernel_rfl) (by kernel_rfl) (by kernel_rfl) (by kernel_rfl)) ?_
  intro W base args ds gs before hval0 hW hcnd _
  have hval : ∀ (j : Nat) t v, Try.f8.params[j]? = some t → args[j]? = some v → Value.okWide Try.prog W .any base t v := hval0
  have hW' := hW
  obtain ⟨p, q, hA0, hV, rfl, hfz, hnd⟩ := hW
  have hA : DataW.TrodAll enc Try.prog W 0 (fun _ => true) true Try.f8.params.toList args.toList ds p := hA0
  rw [Try.params8] at hA hval
  obtain ⟨v0, vs0, d0, ds0, p0, q0, hargs, rfl, rfl, h0, r0⟩ := trodAll_cons hA
  obtain ⟨v1, vs1, d1, ds1, p1, q1, rfl, rfl, rfl, h1, r1⟩ := trodAll_cons r0
  obtain ⟨rfl, rfl, rfl⟩ := trodAll_nil r1
  obtain rfl : args = #[v0, v1] := by cases args; simp_all
  obtain ⟨rfl, rfl⟩ := trodVars_none hV
  obtain ⟨C0, rfl, rfl, rfl, o0⟩ := open_crown (hval 0 23 v0 rfl rfl) h0
  obtain ⟨C1, rfl, rfl, rfl, o1⟩ := open_crown (hval 1 23 v1 rfl rfl) h1
  clear hA0 hval0
  refine (walk C0 o0 C1 o1 W  ).mono fun e W' ⟨he, bel⟩ => ?_
  subst he
  exact ⟨_, rfl, _, _, _, [], _, [], hW', trodAll_mk1 (shut_bool Try.underlying4 _), (trodAll_cons_mk (shut_crown o0) (trodAll_cons_mk (shut_crown o1) trodAll_mk0)), rfl, bel.frame _, fun h => by cases h⟩

theorem over : Rows.crownOrderRow.holds Try.pinned (OpenSpec.ofChange Rows.crownOrderSpec) :=
  OpenClaim.holds_of_wide 8 Try.f8 rfl rfl rfl rfl rfl rfl rfl ⟨rfl, rfl, rfl, rfl, rfl⟩ rfl rfl rfl rfl rfl (by kernel_rfl) Try.func8 (by kernel_rfl)
    (of_decide_eq_true (by kernel_rfl)) (by unfold Func.isWrapper; first | (rw [if_pos (by decide +kernel)]; kernel_rfl) | (rw [if_neg (by decide +kernel)]; exact ⟨rfl, rfl⟩))
    (fun os started H enc _ => lifted os started H enc)

theorem proved : Rows.CrownOrderSaid :=
  over
end Go.Proofs.Ytehlbcjfbofnnaa.crownOrder

namespace Go.Proofs.Ytehlbcjfbofnnaa
theorem crownOrder_holds : Rows.CrownOrderSaid := crownOrder.proved
end Go.Proofs.Ytehlbcjfbofnnaa

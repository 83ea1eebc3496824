/-
  Proved: maquettelaw14.CrownEdges returns true for every two ints, and leaves what it was given as it was; no condition.
-/
import Derived.Test.YtehlbcjfbofnnaaRows
import Derived.Test.YtehlbcjfbofnnaaYAlive
import Derived.Test.YtehlbcjfbofnnaaYData
import Derived.WalkKit
import Derived.Deep.QuietTactic
import Derived.BigQuiet
import Derived.WalkSpells
import Derived.Deep.CutRange
import Derived.Deep.CutBlock
import Derived.WalkLawsBesides
import Derived.ProofKit
import Derived.OpenShut
import Derived.ChangeOld
import Derived.Below
namespace Go.Proofs.Ytehlbcjfbofnnaa.crownEdges
open Go.ChangeShapes Go.WideShapes Go.ChangeAt Go.RowKit
set_option linter.unusedVariables false

theorem own : ownKnob Try.prog.godebug = none := by kernel_rfl
theorem laidOut : laidOutB Try.prog = true := by kernel_rfl

theorem edges_put {C : Cr} {k : Bool} {x : ByteArray} (hk : okC C = k) (hx : putV C = x) : Hid (∀ W, Calls Try.prog 10 #[.agg #[.int .i64 C.g, .int .i64 C.r, .int .i64 C.p]] W fun e w' => e = .returned (.tuple #[.string x, .bool k]) ∧ Below W.heap.size W w') := fun W => by
  have := put_any C W
  rw [hk, hx] at this
  exact this
theorem edges_get {C : Cr} (hk : okC C = true) : Hid (∀ W, Calls Try.prog 12 #[.string (putB C)] W fun e w' => e = .returned (.tuple #[.agg #[.int .i64 C.g, .int .i64 C.r, .int .i64 C.p], .bool true]) ∧ Below W.heap.size W w') := fun W => by
  have := get_any (putB C) W
  rw [put_list, get_put hk, isC_put hk] at this
  exact this
theorem edges_none : Hid (∀ W, Calls Try.prog 12 #[.string ByteArray.empty] W fun e w' => e = .returned (.tuple #[.agg #[.int .i64 0, .int .i64 0, .int .i64 0], .bool false]) ∧ Below W.heap.size W w') := fun W => by
  have := get_any ByteArray.empty W
  have e : isC ByteArray.empty.data.toList = false := none_is _ (by decide)
  rw [get_no e, e] at this
  exact this

set_option maxRecDepth 100000 in
set_option maxHeartbeats 16000000 in
theorem walk (a0 : Int) (f0 : inF a0) (a1 : Int) (f1 : inF a1) (w : World)  :
    Calls Try.prog 6 #[.int .i64 a0, .int .i64 a1] w fun e w' => e = .returned (.bool true) ∧ Below w.heap.size w w' := by
  have hal : Hid (∀ W, Calls Try.prog 9 #[] W fun e w' => e = .returned (.bool true) ∧ Below W.heap.size W w') := alive_any
  have B0 := Below.refl w.heap.size w
  obtain ⟨m, hm⟩ : ∃ m, Int.tmod a0 3 = m := ⟨_, rfl⟩
  have hm3 : -3 < m ∧ m < 3 := by rw [← hm]; have := Int.tmod_lt_of_pos a0 (show (0 : Int) < 3 by decide); have := Int.lt_tmod_of_pos a0 (show (0 : Int) < 3 by decide); omega
  have hw : wrap64 (m + 3) = m + 3 := IntWalk.wrap64_in _ ⟨by omega, by omega⟩
  have hq : (m + 3) % 3 = 0 ∨ (m + 3) % 3 = 1 ∨ (m + 3) % 3 = 2 := by omega
  have hn : (0 : Int) ≤ m + 3 := by omega
  rcases hq with hq | hq | hq
  · cases hk : okC ⟨a1, 4, 20⟩ with
    | true =>
      have h0 := edges_put hk (x := putB ⟨a1, 4, 20⟩) (by unfold putV; rw [if_pos hk])
      have h1 := edges_get hk
      have hs := putB_size ⟨a1, 4, 20⟩
      generalize putB ⟨a1, 4, 20⟩ = x at *
      have hk := (okC_iff _).1 hk
      dsimp only at h0 h1 hk
      go_enter Try.func6, Try.ntmps6
      go_wp2_with (first
        | (go_at_call 9; go_fit (hal.out _); rintro e W1 ⟨rfl, K1⟩; have B1 := chain B0 K1; clear K1)
        | (go_at_call 10; go_fit (h0.out _); rintro e W2 ⟨rfl, K2⟩; have B2 := chain (B1.alloc B1.size _) K2; have D2 := (cat_new W1 ⟨a1, 4, 20⟩ _).below K2; clear K2)
        | (go_at_call 12; go_fit (h1.out _); rintro e W3 ⟨rfl, K3⟩; have B3 := chain B2 K3; have D3 := D2.below K3; have x3 := D3.g; have y3 := D3.r; have z3 := D3.p; have l3 := cell_block x3; dsimp only at x3 y3 z3 l3; clear K3 D3)
        | fail)
      all_goals
        go_ret
        exact ⟨ret_bool (by first | rfl | (simp; omega)), B3.alloc B3.size _⟩
    | false =>
      have h0 := edges_put hk (x := ByteArray.empty) (by unfold putV; rw [if_neg (by rw [hk]; decide)])
      have h1 := edges_none
      have hs : ByteArray.empty.size = 0 := rfl
      generalize ByteArray.empty = x at *
      have hk := (okC_no _).1 hk
      dsimp only at h0 h1 hk
      go_enter Try.func6, Try.ntmps6
      go_wp2_with (first
        | (go_at_call 9; go_fit (hal.out _); rintro e W1 ⟨rfl, K1⟩; have B1 := chain B0 K1; clear K1)
        | (go_at_call 10; go_fit (h0.out _); rintro e W2 ⟨rfl, K2⟩; have B2 := chain (B1.alloc B1.size _) K2; have D2 := (cat_new W1 ⟨a1, 4, 20⟩ _).below K2; clear K2)
        | (go_at_call 12; go_fit (h1.out _); rintro e W3 ⟨rfl, K3⟩; have B3 := chain B2 K3; have D3 := D2.below K3; have x3 := D3.g; have y3 := D3.r; have z3 := D3.p; have l3 := cell_block x3; dsimp only at x3 y3 z3 l3; clear K3 D3)
        | fail)
      all_goals
        go_ret
        exact ⟨ret_bool (by first | rfl | (simp; omega)), B3.alloc B3.size _⟩
  · cases hk : okC ⟨5, a1, 20⟩ with
    | true =>
      have h0 := edges_put hk (x := putB ⟨5, a1, 20⟩) (by unfold putV; rw [if_pos hk])
      have h1 := edges_get hk
      have hs := putB_size ⟨5, a1, 20⟩
      generalize putB ⟨5, a1, 20⟩ = x at *
      have hk := (okC_iff _).1 hk
      dsimp only at h0 h1 hk
      go_enter Try.func6, Try.ntmps6
      go_wp2_with (first
        | (go_at_call 9; go_fit (hal.out _); rintro e W1 ⟨rfl, K1⟩; have B1 := chain B0 K1; clear K1)
        | (go_at_call 10; go_fit (h0.out _); rintro e W2 ⟨rfl, K2⟩; have B2 := chain (B1.alloc B1.size _) K2; have D2 := (cat_new W1 ⟨5, a1, 20⟩ _).below K2; clear K2)
        | (go_at_call 12; go_fit (h1.out _); rintro e W3 ⟨rfl, K3⟩; have B3 := chain B2 K3; have D3 := D2.below K3; have x3 := D3.g; have y3 := D3.r; have z3 := D3.p; have l3 := cell_block x3; dsimp only at x3 y3 z3 l3; clear K3 D3)
        | fail)
      all_goals
        go_ret
        exact ⟨ret_bool (by first | rfl | (simp; omega)), B3.alloc B3.size _⟩
    | false =>
      have h0 := edges_put hk (x := ByteArray.empty) (by unfold putV; rw [if_neg (by rw [hk]; decide)])
      have h1 := edges_none
      have hs : ByteArray.empty.size = 0 := rfl
      generalize ByteArray.empty = x at *
      have hk := (okC_no _).1 hk
      dsimp only at h0 h1 hk
      go_enter Try.func6, Try.ntmps6
      go_wp2_with (first
        | (go_at_call 9; go_fit (hal.out _); rintro e W1 ⟨rfl, K1⟩; have B1 := chain B0 K1; clear K1)
        | (go_at_call 10; go_fit (h0.out _); rintro e W2 ⟨rfl, K2⟩; have B2 := chain (B1.alloc B1.size _) K2; have D2 := (cat_new W1 ⟨5, a1, 20⟩ _).below K2; clear K2)
        | (go_at_call 12; go_fit (h1.out _); rintro e W3 ⟨rfl, K3⟩; have B3 := chain B2 K3; have D3 := D2.below K3; have x3 := D3.g; have y3 := D3.r; have z3 := D3.p; have l3 := cell_block x3; dsimp only at x3 y3 z3 l3; clear K3 D3)
        | fail)
      all_goals
        go_ret
        exact ⟨ret_bool (by first | rfl | (simp; omega)), B3.alloc B3.size _⟩
  · cases hk : okC ⟨5, 2, a1⟩ with
    | true =>
      have h0 := edges_put hk (x := putB ⟨5, 2, a1⟩) (by unfold putV; rw [if_pos hk])
      have h1 := edges_get hk
      have hs := putB_size ⟨5, 2, a1⟩
      generalize putB ⟨5, 2, a1⟩ = x at *
      have hk := (okC_iff _).1 hk
      dsimp only at h0 h1 hk
      go_enter Try.func6, Try.ntmps6
      go_wp2_with (first
        | (go_at_call 9; go_fit (hal.out _); rintro e W1 ⟨rfl, K1⟩; have B1 := chain B0 K1; clear K1)
        | (go_at_call 10; go_fit (h0.out _); rintro e W2 ⟨rfl, K2⟩; have B2 := chain (B1.alloc B1.size _) K2; have D2 := (cat_new W1 ⟨5, 2, a1⟩ _).below K2; clear K2)
        | (go_at_call 12; go_fit (h1.out _); rintro e W3 ⟨rfl, K3⟩; have B3 := chain B2 K3; have D3 := D2.below K3; have x3 := D3.g; have y3 := D3.r; have z3 := D3.p; have l3 := cell_block x3; dsimp only at x3 y3 z3 l3; clear K3 D3)
        | fail)
      all_goals
        go_ret
        exact ⟨ret_bool (by first | rfl | (simp; omega)), B3.alloc B3.size _⟩
    | false =>
      have h0 := edges_put hk (x := ByteArray.empty) (by unfold putV; rw [if_neg (by rw [hk]; decide)])
      have h1 := edges_none
      have hs : ByteArray.empty.size = 0 := rfl
      generalize ByteArray.empty = x at *
      have hk := (okC_no _).1 hk
      dsimp only at h0 h1 hk
      go_enter Try.func6, Try.ntmps6
      go_wp2_with (first
        | (go_at_call 9; go_fit (hal.out _); rintro e W1 ⟨rfl, K1⟩; have B1 := chain B0 K1; clear K1)
        | (go_at_call 10; go_fit (h0.out _); rintro e W2 ⟨rfl, K2⟩; have B2 := chain (B1.alloc B1.size _) K2; have D2 := (cat_new W1 ⟨5, 2, a1⟩ _).below K2; clear K2)
        | (go_at_call 12; go_fit (h1.out _); rintro e W3 ⟨rfl, K3⟩; have B3 := chain B2 K3; have D3 := D2.below K3; have x3 := D3.g; have y3 := D3.r; have z3 := D3.p; have l3 := cell_block x3; dsimp only at x3 y3 z3 l3; clear K3 D3)
        | fail)
      all_goals
        go_ret
        exact ⟨ret_bool (by first | rfl | (simp; omega)), B3.alloc B3.size _⟩

set_option maxRecDepth 100000 in
theorem lifted (os : Os) (started : os.Started) (H : Type) (enc : TypeId × Value → H) :
    ReturnsInHanded {} Try.checked os 6 .any (Rows.crownEdgesSpec.pre6 enc Try.prog Try.f6 Rows.crownEdgesRow.domain false) (Rows.crownEdgesSpec.post enc Try.prog Try.f6 false true false false) := by
  refine returnsInHanded_of_change (C := Try.checked) own started (by kernel_rfl) Try.func6
    (ChangeSpec.witness6 (enc := enc) (C := Try.checked) false ⟨#[], #[.int .i64 0, .int .i64 0], []⟩ 8 (by kernel_rfl) (by kernel_rfl) (by kernel_rfl) (by kernel_rfl)) ?_
  intro W base args ds gs before hval0 hW hcnd _
  have hval : ∀ (j : Nat) t v, Try.f6.params[j]? = some t → args[j]? = some v → Value.okWide Try.prog W .any base t v := hval0
  have hW' := hW
  obtain ⟨p, q, hA0, hV, rfl, hfz, hnd⟩ := hW
  have hA : DataW.TrodAll enc Try.prog W 0 (fun _ => true) true Try.f6.params.toList args.toList ds p := hA0
  rw [Try.params6] at hA hval
  obtain ⟨v0, vs0, d0, ds0, p0, q0, hargs, rfl, rfl, h0, r0⟩ := trodAll_cons hA
  obtain ⟨v1, vs1, d1, ds1, p1, q1, rfl, rfl, rfl, h1, r1⟩ := trodAll_cons r0
  obtain ⟨rfl, rfl, rfl⟩ := trodAll_nil r1
  obtain rfl : args = #[v0, v1] := by cases args; simp_all
  obtain ⟨rfl, rfl⟩ := trodVars_none hV
  obtain ⟨a0, rfl, rfl, rfl, w0⟩ := open_int Try.underlying3 (hval 0 3 v0 rfl rfl) h0
  have f0 := inF_wf w0
  obtain ⟨a1, rfl, rfl, rfl, w1⟩ := open_int Try.underlying3 (hval 1 3 v1 rfl rfl) h1
  have f1 := inF_wf w1
  clear hA0 hval0
  refine (walk a0 f0 a1 f1 W  ).mono fun e W' ⟨he, bel⟩ => ?_
  subst he
  exact ⟨_, rfl, _, _, _, [], _, [], hW', trodAll_mk1 (shut_bool Try.underlying4 _), (trodAll_cons_mk (shut_int Try.underlying3 w0) (trodAll_cons_mk (shut_int Try.underlying3 w1) trodAll_mk0)), rfl, bel.frame _, fun h => by cases h⟩

theorem over : Rows.crownEdgesRow.holds Try.pinned (OpenSpec.ofChange Rows.crownEdgesSpec) :=
  OpenClaim.holds_of_wide 6 Try.f6 rfl rfl rfl rfl rfl rfl rfl ⟨rfl, rfl, rfl, rfl, rfl⟩ rfl rfl rfl rfl rfl (by kernel_rfl) Try.func6 (by kernel_rfl)
    (of_decide_eq_true (by kernel_rfl)) (by unfold Func.isWrapper; first | (rw [if_pos (by decide +kernel)]; kernel_rfl) | (rw [if_neg (by decide +kernel)]; exact ⟨rfl, rfl⟩))
    (fun os started H enc _ => lifted os started H enc)

theorem proved : Rows.CrownEdgesSaid :=
  over
end Go.Proofs.Ytehlbcjfbofnnaa.crownEdges

namespace Go.Proofs.Ytehlbcjfbofnnaa
theorem crownEdges_holds : Rows.CrownEdgesSaid := crownEdges.proved
end Go.Proofs.Ytehlbcjfbofnnaa

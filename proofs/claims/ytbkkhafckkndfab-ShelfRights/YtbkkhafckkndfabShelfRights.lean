/-
  Proved: maquettelaw16.ShelfRights returns true for every three ints; no condition.
-/
import Derived.Test.YtbkkhafckkndfabRows
import Derived.Test.YtbkkhafckkndfabPk09
import Derived.WalkKit
import Derived.Deep.QuietTactic
import Derived.BigQuiet
import Derived.WalkSpells
import Derived.Deep.CutRange
import Derived.Deep.CutBlock
import Derived.WalkLawsBesides
import Derived.ProofKit
import Derived.OpenShut
import Derived.ChangeOld
import Derived.Below
namespace Go.Proofs.Ytbkkhafckkndfab.shelfRights
open Go.ChangeShapes Go.WideShapes Go.ChangeAt Go.RowKit
set_option linter.unusedVariables false

theorem own : ownKnob Try.prog.godebug = none := by kernel_rfl
theorem laidOut : laidOutB Try.prog = true := by kernel_rfl

theorem in_any (x : Int) (w : World) : Calls Try.prog 6 #[.int .i64 x] w fun e w' => e = .returned (.bool (keyB x)) ∧ w' = w := by
  have hp : keyB x = (decide (0 ≤ x) && decide (x ≤ 2147483647)) := by unfold keyB; rw [Bool.decide_and]
  rw [hp]
  go_enter Try.func6, Try.ntmps6
  by_cases h1 : 0 ≤ x <;> by_cases h2 : x ≤ 2147483647 <;> simp only [h1, h2, decide_true, decide_false, Bool.and_true, Bool.and_false] <;> go_wp2 <;> go_ret <;> exact ⟨rfl, rfl⟩
theorem two_at (W : World) (a b : Int) (Z : ByteArray) : PrsAt (W.alloc (.cells #[.int .i64 a, .string Z, .int .i64 b, .string ⟨#[]⟩] 25)) (some ⟨W.heap.size, 0, none⟩) (two a b Z) := by
  refine .inr ⟨W.heap.size, 0, rfl, fun i hi => ?_⟩
  have : i = 0 ∨ i = 1 := by simp [two] at hi; omega
  rcases this with rfl | rfl
  · exact ⟨new_at W [.int .i64 a, .string Z, .int .i64 b, .string ⟨#[]⟩] 25 _ rfl 0 _ rfl, new_at W [.int .i64 a, .string Z, .int .i64 b, .string ⟨#[]⟩] 25 _ rfl 1 _ rfl⟩
  · exact ⟨new_at W [.int .i64 a, .string Z, .int .i64 b, .string ⟨#[]⟩] 25 _ rfl 2 _ rfl, new_at W [.int .i64 a, .string Z, .int .i64 b, .string ⟨#[]⟩] 25 _ rfl 3 _ rfl⟩

set_option maxRecDepth 100000 in
set_option maxHeartbeats 16000000 in
theorem walk (a0 : Int) (f0 : inF a0) (a1 : Int) (f1 : inF a1) (a2 : Int) (f2 : inF a2) (w : World)   :
    Calls Try.prog 3 #[.int .i64 a0, .int .i64 a1, .int .i64 a2] w fun e w' => e = .returned (.bool true) ∧ Below w.heap.size w w' := by
  have hal : Hid (∀ W, Calls Try.prog 5 #[] W fun e w' => e = .returned (.bool true) ∧ Below W.heap.size W w') := alive16
  by_cases hbad : a2 < 0 ∨ (¬ a2 < 0 ∧ 1200 < a2)
  · rcases hbad with h1 | ⟨h1, h2⟩
    all_goals
      go_enter Try.func3, Try.ntmps3
      go_wp2_with (first | (go_at_call 5; go_fit (hal.out _); rintro e w1 ⟨rfl, hB⟩) | fail)
      go_ret
      exact ⟨rfl, hB⟩
  have h1 : ¬ a2 < 0 := by omega
  have h2 : ¬ 1200 < a2 := by omega
  obtain ⟨n, rfl⟩ := Int.eq_ofNat_of_zero_le (show 0 ≤ a2 by omega)
  obtain ⟨mk, cv⟩ := made_zeros n (by omega)
  have hzs : (zerosB n).size = n := zerosB_size n
  generalize zerosB n = Z at *
  have hIn0 : Hid (∀ W, Calls Try.prog 6 #[.int .i64 a0] W fun e w' => e = .returned (.bool (keyB a0)) ∧ w' = W) := fun W => in_any a0 W
  have hIn1 : Hid (∀ W, Calls Try.prog 6 #[.int .i64 a1] W fun e w' => e = .returned (.bool (keyB a1)) ∧ w' = W) := fun W => in_any a1 W
  have hAt : Hid (∀ (W : World) (B : Obj), PrsAt ((W.alloc B).alloc (.cells #[.int .i64 a0, .string Z, .int .i64 a1, .string ⟨#[]⟩] 25)) (some ⟨W.heap.size + 1, 0, none⟩) (two a0 a1 Z)) := fun W B => by have := two_at (W.alloc B) a0 a1 Z; rw [World.size_alloc] at this; exact this
  have hR : Hid (∀ W q, PrsAt W (some ⟨q, 0, none⟩) (two a0 a1 Z) → Calls Try.prog 7 #[.slice (some ⟨q, 0, none⟩) 2 2] W fun e w' => e = .returned (.bool (recsOk (two a0 a1 Z))) ∧ Grew W w') := fun W q h => kright_any (two a0 a1 Z) _ 2 W h (by simp [two])
  have hN : Hid (∀ W q, PrsAt W (some ⟨q, 0, none⟩) (two a0 a1 Z) → Calls Try.prog 8 #[.slice (some ⟨q, 0, none⟩) 2 2] W fun e w' => e = .returned (.int .i64 (needN (two a0 a1 Z))) ∧ Below W.heap.size W w') := fun W q h => kneed_any (two a0 a1 Z) _ 2 W h (by simp [two])
  have hR0 : Hid (∀ W, Calls Try.prog 7 #[.slice none 0 0] W fun e w' => e = .returned (.bool true) ∧ Grew W w') := fun W => by
    have := kright_any [] none 0 W (.inl rfl) (by decide)
    rw [recs_none] at this
    exact this
  have hN0 : Hid (∀ W, Calls Try.prog 8 #[.slice none 0 0] W fun e w' => e = .returned (.int .i64 1) ∧ Below W.heap.size W w') := fun W => by
    have := kneed_any [] none 0 W (.inl rfl) (by decide)
    rw [need_none] at this
    exact this
  have htn := two_need a0 a1 Z
  have hto := two_ok a0 a1 Z
  rw [hzs] at hto
  clear hzs
  generalize needN (two a0 a1 Z) = N at *
  generalize hrr : recsOk (two a0 a1 Z) = r at *
  replace hrr : Hid _ := hrr
  by_cases hall : (keyB a0 = true ∧ keyB a1 = true) ∧ a0 < a1 ∧ n ≤ 900
  · obtain ⟨⟨k0, k1⟩, k2, k3⟩ := hall
    have hr1 : r = true := by rw [hto, k0, k1, decide_eq_true k2, decide_eq_true k3]; rfl
    subst hr1
    have hNp : 0 < N := by rw [htn]
    have hNi : (0 : Int) < N := by omega
    have k3i : (n : Int) ≤ 900 := by omega
    rw [k0] at hIn0
    rw [k1] at hIn1
    clear htn hto k0 k1
    go_enter Try.func3, Try.ntmps3
    go_wp2_with (first
      | (go_at_call 5; go_fit (hal.out _); rintro e w1 ⟨rfl, hB1⟩)
      | (go_at_call 6; go_fit (hIn0.out _); rintro e w2 ⟨rfl, rfl⟩)
      | (go_at_call 6; go_fit (hIn1.out _); rintro e w2 ⟨rfl, rfl⟩)
      | (go_at_call 7; go_fit (hR.out _ _ (hAt.out _ _)); rintro e w3 ⟨rfl, g3⟩)
      | (go_at_call 8; go_fit (hN.out _ _ ((hAt.out _ _).below g3.below)); rintro e w4 ⟨rfl, g4⟩)
      | (go_at_call 7; go_fit (hR0.out _); rintro e w5 ⟨rfl, g5⟩)
      | (go_at_call 8; go_fit (hN0.out _); rintro e w6 ⟨rfl, g6⟩)
      | fail)
    go_ret
    exact ⟨by first | rfl | (simp; omega), on_two (on_two (on_two (on_two (on_two hB1 (((Grew.refl w1).alloc _ _).alloc _ _).below) g3.below) g4) g5.below) g6⟩
  · cases k0 : keyB a0 with
    | false =>
      have hr1 : r = false := by rw [hto]; rw [k0]; rfl
      subst hr1
      have hNp : N = 0 := by
        have : ¬ 0 < N := by rw [htn]; decide
        omega
      subst hNp
      clear htn hto
      rw [k0] at hIn0
      clear hall
      go_enter Try.func3, Try.ntmps3
      go_wp2_with (first
        | (go_at_call 5; go_fit (hal.out _); rintro e w1 ⟨rfl, hB1⟩)
        | (go_at_call 6; go_fit (hIn0.out _); rintro e w2 ⟨rfl, rfl⟩)
        | (go_at_call 6; go_fit (hIn1.out _); rintro e w2 ⟨rfl, rfl⟩)
        | (go_at_call 7; go_fit (hR.out _ _ (hAt.out _ _)); rintro e w3 ⟨rfl, g3⟩)
        | (go_at_call 8; go_fit (hN.out _ _ ((hAt.out _ _).below g3.below)); rintro e w4 ⟨rfl, g4⟩)
        | (go_at_call 7; go_fit (hR0.out _); rintro e w5 ⟨rfl, g5⟩)
        | (go_at_call 8; go_fit (hN0.out _); rintro e w6 ⟨rfl, g6⟩)
        | fail)
      go_ret
      exact ⟨by first | rfl | (simp; omega), on_two (on_two (on_two (on_two (on_two hB1 (((Grew.refl w1).alloc _ _).alloc _ _).below) g3.below) g4) g5.below) g6⟩
    | true =>
      rw [k0] at hIn0
      cases k1 : keyB a1 with
      | false =>
        have hr1 : r = false := by rw [hto]; rw [k0, k1]; rfl
        subst hr1
        have hNp : N = 0 := by
          have : ¬ 0 < N := by rw [htn]; decide
          omega
        subst hNp
        clear htn hto
        rw [k1] at hIn1
        clear hall
        go_enter Try.func3, Try.ntmps3
        go_wp2_with (first
          | (go_at_call 5; go_fit (hal.out _); rintro e w1 ⟨rfl, hB1⟩)
          | (go_at_call 6; go_fit (hIn0.out _); rintro e w2 ⟨rfl, rfl⟩)
          | (go_at_call 6; go_fit (hIn1.out _); rintro e w2 ⟨rfl, rfl⟩)
          | (go_at_call 7; go_fit (hR.out _ _ (hAt.out _ _)); rintro e w3 ⟨rfl, g3⟩)
          | (go_at_call 8; go_fit (hN.out _ _ ((hAt.out _ _).below g3.below)); rintro e w4 ⟨rfl, g4⟩)
          | (go_at_call 7; go_fit (hR0.out _); rintro e w5 ⟨rfl, g5⟩)
          | (go_at_call 8; go_fit (hN0.out _); rintro e w6 ⟨rfl, g6⟩)
          | fail)
        go_ret
        exact ⟨by first | rfl | (simp; omega), on_two (on_two (on_two (on_two (on_two hB1 (((Grew.refl w1).alloc _ _).alloc _ _).below) g3.below) g4) g5.below) g6⟩
      | true =>
        rw [k1] at hIn1
        by_cases k2 : a0 < a1
        · have k3 : ¬ n ≤ 900 := fun e => hall ⟨⟨k0, k1⟩, k2, e⟩
          have k3i : ¬ (n : Int) ≤ 900 := by omega
          have hr1 : r = false := by rw [hto]; rw [k0, k1, decide_eq_true k2, decide_eq_false k3]; rfl
          subst hr1
          have hNp : N = 0 := by
            have : ¬ 0 < N := by rw [htn]; decide
            omega
          subst hNp
          clear htn hto
          clear hall
          go_enter Try.func3, Try.ntmps3
          go_wp2_with (first
            | (go_at_call 5; go_fit (hal.out _); rintro e w1 ⟨rfl, hB1⟩)
            | (go_at_call 6; go_fit (hIn0.out _); rintro e w2 ⟨rfl, rfl⟩)
            | (go_at_call 6; go_fit (hIn1.out _); rintro e w2 ⟨rfl, rfl⟩)
            | (go_at_call 7; go_fit (hR.out _ _ (hAt.out _ _)); rintro e w3 ⟨rfl, g3⟩)
            | (go_at_call 8; go_fit (hN.out _ _ ((hAt.out _ _).below g3.below)); rintro e w4 ⟨rfl, g4⟩)
            | (go_at_call 7; go_fit (hR0.out _); rintro e w5 ⟨rfl, g5⟩)
            | (go_at_call 8; go_fit (hN0.out _); rintro e w6 ⟨rfl, g6⟩)
            | fail)
          go_ret
          exact ⟨by first | rfl | (simp; omega), on_two (on_two (on_two (on_two (on_two hB1 (((Grew.refl w1).alloc _ _).alloc _ _).below) g3.below) g4) g5.below) g6⟩
        · skip
          have hr1 : r = false := by rw [hto]; rw [k0, k1, decide_eq_false k2]; rfl
          subst hr1
          have hNp : N = 0 := by
            have : ¬ 0 < N := by rw [htn]; decide
            omega
          subst hNp
          clear htn hto
          clear hall
          go_enter Try.func3, Try.ntmps3
          go_wp2_with (first
            | (go_at_call 5; go_fit (hal.out _); rintro e w1 ⟨rfl, hB1⟩)
            | (go_at_call 6; go_fit (hIn0.out _); rintro e w2 ⟨rfl, rfl⟩)
            | (go_at_call 6; go_fit (hIn1.out _); rintro e w2 ⟨rfl, rfl⟩)
            | (go_at_call 7; go_fit (hR.out _ _ (hAt.out _ _)); rintro e w3 ⟨rfl, g3⟩)
            | (go_at_call 8; go_fit (hN.out _ _ ((hAt.out _ _).below g3.below)); rintro e w4 ⟨rfl, g4⟩)
            | (go_at_call 7; go_fit (hR0.out _); rintro e w5 ⟨rfl, g5⟩)
            | (go_at_call 8; go_fit (hN0.out _); rintro e w6 ⟨rfl, g6⟩)
            | fail)
          go_ret
          exact ⟨by first | rfl | (simp; omega), on_two (on_two (on_two (on_two (on_two hB1 (((Grew.refl w1).alloc _ _).alloc _ _).below) g3.below) g4) g5.below) g6⟩

set_option maxRecDepth 100000 in
theorem lifted (os : Os) (started : os.Started) (H : Type) (enc : TypeId × Value → H) :
    ReturnsInHanded {} Try.checked os 3 .any (Rows.shelfRightsSpec.pre6 enc Try.prog Try.f3 Rows.shelfRightsRow.domain false) (Rows.shelfRightsSpec.post enc Try.prog Try.f3 false true false false) := by
  refine returnsInHanded_of_change (C := Try.checked) own started (by kernel_rfl) Try.func3
    (ChangeSpec.witness6 (enc := enc) (C := Try.checked) false ⟨#[], #[.int .i64 0, .int .i64 0, .int .i64 0], []⟩ 8 (by kernel_rfl) (by kernel_rfl) (by kernel_rfl) (by kernel_rfl)) ?_
  intro W base args ds gs before hval0 hW hcnd _
  have hval : ∀ (j : Nat) t v, Try.f3.params[j]? = some t → args[j]? = some v → Value.okWide Try.prog W .any base t v := hval0
  have hW' := hW
  obtain ⟨p, q, hA0, hV, rfl, hfz, hnd⟩ := hW
  have hA : DataW.TrodAll enc Try.prog W 0 (fun _ => true) true Try.f3.params.toList args.toList ds p := hA0
  rw [Try.params3] at hA hval
  obtain ⟨v0, vs0, d0, ds0, p0, q0, hargs, rfl, rfl, h0, r0⟩ := trodAll_cons hA
  obtain ⟨v1, vs1, d1, ds1, p1, q1, rfl, rfl, rfl, h1, r1⟩ := trodAll_cons r0
  obtain ⟨v2, vs2, d2, ds2, p2, q2, rfl, rfl, rfl, h2, r2⟩ := trodAll_cons r1
  obtain ⟨rfl, rfl, rfl⟩ := trodAll_nil r2
  obtain rfl : args = #[v0, v1, v2] := by cases args; simp_all
  obtain ⟨rfl, rfl⟩ := trodVars_none hV
  obtain ⟨a0, rfl, rfl, rfl, w0⟩ := open_int Try.underlying3 (hval 0 3 v0 rfl rfl) h0
  have f0 := inF_wf w0
  obtain ⟨a1, rfl, rfl, rfl, w1⟩ := open_int Try.underlying3 (hval 1 3 v1 rfl rfl) h1
  have f1 := inF_wf w1
  obtain ⟨a2, rfl, rfl, rfl, w2⟩ := open_int Try.underlying3 (hval 2 3 v2 rfl rfl) h2
  have f2 := inF_wf w2
  clear hA0 hval0
  refine (walk a0 f0 a1 f1 a2 f2 W   ).mono fun e W' ⟨he, bel⟩ => ?_
  subst he
  exact ⟨_, rfl, _, _, _, [], _, [], hW', trodAll_mk1 (shut_bool Try.underlying4 _), (trodAll_cons_mk (shut_int Try.underlying3 w0) (trodAll_cons_mk (shut_int Try.underlying3 w1) (trodAll_cons_mk (shut_int Try.underlying3 w2) trodAll_mk0))), rfl, bel.frame _, fun h => by cases h⟩

theorem over : Rows.shelfRightsRow.holds Try.pinned (OpenSpec.ofChange Rows.shelfRightsSpec) :=
  OpenClaim.holds_of_wide 3 Try.f3 rfl rfl rfl rfl rfl rfl rfl ⟨rfl, rfl, rfl, rfl, rfl⟩ rfl rfl rfl rfl rfl (by kernel_rfl) Try.func3 (by kernel_rfl)
    (of_decide_eq_true (by kernel_rfl)) (by unfold Func.isWrapper; first | (rw [if_pos (by decide +kernel)]; kernel_rfl) | (rw [if_neg (by decide +kernel)]; exact ⟨rfl, rfl⟩))
    (fun os started H enc _ => lifted os started H enc)

theorem proved : Rows.ShelfRightsSaid :=
  over
end Go.Proofs.Ytbkkhafckkndfab.shelfRights

namespace Go.Proofs.Ytbkkhafckkndfab
theorem shelfRights_holds : Rows.ShelfRightsSaid := shelfRights.proved
end Go.Proofs.Ytbkkhafckkndfab

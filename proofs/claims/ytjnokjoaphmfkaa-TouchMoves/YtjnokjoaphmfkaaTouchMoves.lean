/-
  Proved: maquettelaw10.TouchMoves returns true for every two bodies a and b and every way by (two bodies that are both moved alike touch as they did), and leaves what it was given as it was; no condition.
-/
import Derived.Test.YtjnokjoaphmfkaaRows
import Derived.Test.YtjnokjoaphmfkaaHAlive
import Derived.Test.YtjnokjoaphmfkaaBData
import Derived.Test.YtjnokjoaphmfkaaBRef
import Derived.WalkKit
import Derived.Deep.QuietTactic
import Derived.BigQuiet
import Derived.WalkSpells
import Derived.Deep.CutRange
import Derived.Deep.CutBlock
import Derived.WalkLawsBesides
import Derived.ProofKit
import Derived.OpenShut
namespace Go.Proofs.Ytjnokjoaphmfkaa.touchMoves
open Go.ChangeShapes Go.WideShapes Go.ChangeAt Go.RowKit
set_option linter.unusedVariables false

theorem own : ownKnob Try.prog.godebug = none := by kernel_rfl

theorem moved_laid (V : World) (a b : Nat) (hab : a ≠ b) (A B : Bd) (x y : Int) (hA : BAt V a A) (hB : BAt V b B) :
    BAt ((((V.setCell ⟨a, 4, none⟩ (.int .i64 (A.p + x))).setCell ⟨a, 5, none⟩ (.int .i64 (A.q + y))).setCell ⟨b, 4, none⟩ (.int .i64 (B.p + x))).setCell ⟨b, 5, none⟩ (.int .i64 (B.q + y))) a (movB A x y) ∧ BAt ((((V.setCell ⟨a, 4, none⟩ (.int .i64 (A.p + x))).setCell ⟨a, 5, none⟩ (.int .i64 (A.q + y))).setCell ⟨b, 4, none⟩ (.int .i64 (B.p + x))).setCell ⟨b, 5, none⟩ (.int .i64 (B.q + y))) b (movB B x y) := by
  have one : ∀ (V : World) (a : Nat) (A : Bd), BAt V a A → BAt ((V.setCell ⟨a, 4, none⟩ (.int .i64 (A.p + x))).setCell ⟨a, 5, none⟩ (.int .i64 (A.q + y))) a (movB A x y) := by
    rintro V a A ⟨c0, c1, c2, c3, c4, c5, c6, c7⟩
    constructor <;> simp [go_sem, movB, *]
  have W2 : ∀ (V : World) (a : Nat) (p q : Value), Wrote (fun n => n = a) V ((V.setCell ⟨a, 4, none⟩ p).setCell ⟨a, 5, none⟩ q) := fun V a p q => ((Wrote.refl _ V).set (S := fun n => n = a) rfl _ _ _).set (S := fun n => n = a) rfl _ _ _
  exact ⟨(one V a A hA).wrote (W2 _ b _ _) hab, one _ b B (hB.wrote (W2 V a _ _) (fun e => hab e.symm))⟩
theorem moved_wrote (V : World) (a b : Nat) (p q r s : Value) : Wrote (fun n => n = a ∨ n = b) V ((((V.setCell ⟨a, 4, none⟩ p).setCell ⟨a, 5, none⟩ q).setCell ⟨b, 4, none⟩ r).setCell ⟨b, 5, none⟩ s) :=
  ((((Wrote.refl _ V).set (S := fun n => n = a ∨ n = b) (.inl rfl) _ _ _).set (S := fun n => n = a ∨ n = b) (.inl rfl) _ _ _).set (S := fun n => n = a ∨ n = b) (.inr rfl) _ _ _).set (S := fun n => n = a ∨ n = b) (.inr rfl) _ _ _
theorem share {G : Prop} (T : Prop) (h : T → G) (t : T) : G := h t

set_option maxRecDepth 10000 in
set_option maxHeartbeats 16000000 in
theorem walk (B0 : Bd) (o0 : B0.ok) (B1 : Bd) (o1 : B1.ok) (x2 y2 : Int) (f2 : inF x2) (g2 : inF y2) (w : World)   :
    Calls Try.prog 6 #[B0.val, B1.val, vec x2 y2] w fun e w' => e = .returned (.bool true) ∧ Grown w w' := by
  have HA : Hid (∀ W, _) := fun W => ref_right B0 W
  have HB : Hid (∀ W, _) := fun W => ref_right B1 W
  have hmf := mk_func
  have G0 : Hid (Grew w (((w.alloc (.cells #[.int .i64 B0.s, .int .i64 B0.a, .int .i64 B0.b, .int .i64 B0.m, .int .i64 B0.p, .int .i64 B0.q, .int .i64 B0.u, .int .i64 B0.v] 26)).alloc (.cells #[.int .i64 B1.s, .int .i64 B1.a, .int .i64 B1.b, .int .i64 B1.m, .int .i64 B1.p, .int .i64 B1.q, .int .i64 B1.u, .int .i64 B1.v] 26)).alloc (.cells #[.int .i64 x2, .int .i64 y2] 24))) := (((Grew.refl w).alloc _ _).alloc _ _).alloc _ _
  obtain ⟨r0, hr0⟩ : ∃ r, rightB B0 = r := ⟨_, rfl⟩
  obtain ⟨r1, hr1⟩ : ∃ r, rightB B1 = r := ⟨_, rfl⟩
  rw [hr0] at HA
  rw [hr1] at HB
  unfold Bd.val at HA HB ⊢
  unfold vec
  cases r0
  ·
    clear HB hr0 hr1
    go_enter Try.func6, Try.ntmps6
    go_wp2_with (first
      | (go_at_call 17; go_fit (HA.out _); rintro e V ⟨rfl, U⟩; have a0 := U.cell (p := ⟨w.heap.size, 0, none⟩) (v := .int .i64 B0.s) (by simp [go_sem]); have a1 := U.cell (p := ⟨w.heap.size, 1, none⟩) (v := .int .i64 B0.a) (by simp [go_sem]); have a2 := U.cell (p := ⟨w.heap.size, 2, none⟩) (v := .int .i64 B0.b) (by simp [go_sem]); have a3 := U.cell (p := ⟨w.heap.size, 3, none⟩) (v := .int .i64 B0.m) (by simp [go_sem]); have a4 := U.cell (p := ⟨w.heap.size, 4, none⟩) (v := .int .i64 B0.p) (by simp [go_sem]); have a5 := U.cell (p := ⟨w.heap.size, 5, none⟩) (v := .int .i64 B0.q) (by simp [go_sem]); have a6 := U.cell (p := ⟨w.heap.size, 6, none⟩) (v := .int .i64 B0.u) (by simp [go_sem]); have a7 := U.cell (p := ⟨w.heap.size, 7, none⟩) (v := .int .i64 B0.v) (by simp [go_sem]); have b0 := U.cell (p := ⟨w.heap.size + 1, 0, none⟩) (v := .int .i64 B1.s) (by simp [go_sem]); have b1 := U.cell (p := ⟨w.heap.size + 1, 1, none⟩) (v := .int .i64 B1.a) (by simp [go_sem]); have b2 := U.cell (p := ⟨w.heap.size + 1, 2, none⟩) (v := .int .i64 B1.b) (by simp [go_sem]); have b3 := U.cell (p := ⟨w.heap.size + 1, 3, none⟩) (v := .int .i64 B1.m) (by simp [go_sem]); have b4 := U.cell (p := ⟨w.heap.size + 1, 4, none⟩) (v := .int .i64 B1.p) (by simp [go_sem]); have b5 := U.cell (p := ⟨w.heap.size + 1, 5, none⟩) (v := .int .i64 B1.q) (by simp [go_sem]); have b6 := U.cell (p := ⟨w.heap.size + 1, 6, none⟩) (v := .int .i64 B1.u) (by simp [go_sem]); have b7 := U.cell (p := ⟨w.heap.size + 1, 7, none⟩) (v := .int .i64 B1.v) (by simp [go_sem]); have c0 := U.cell (p := ⟨w.heap.size + 1 + 1, 0, none⟩) (v := .int .i64 x2) (by simp [go_sem]); have c1 := U.cell (p := ⟨w.heap.size + 1 + 1, 1, none⟩) (v := .int .i64 y2) (by simp [go_sem]))
      | (go_at_call 17; go_fit (HB.out _); rintro e V0 ⟨rfl, U0⟩; replace a0 := U0.cell a0; replace a1 := U0.cell a1; replace a2 := U0.cell a2; replace a3 := U0.cell a3; replace a4 := U0.cell a4; replace a5 := U0.cell a5; replace a6 := U0.cell a6; replace a7 := U0.cell a7; replace b0 := U0.cell b0; replace b1 := U0.cell b1; replace b2 := U0.cell b2; replace b3 := U0.cell b3; replace b4 := U0.cell b4; replace b5 := U0.cell b5; replace b6 := U0.cell b6; replace b7 := U0.cell b7; replace c0 := U0.cell c0; replace c1 := U0.cell c1)
      | (go_at_call 9; go_fit (alive_any _); rintro e V1 ⟨rfl, U1⟩; replace a0 := U1.cell a0; replace a1 := U1.cell a1; replace a2 := U1.cell a2; replace a3 := U1.cell a3; replace a4 := U1.cell a4; replace a5 := U1.cell a5; replace a6 := U1.cell a6; replace a7 := U1.cell a7; replace b0 := U1.cell b0; replace b1 := U1.cell b1; replace b2 := U1.cell b2; replace b3 := U1.cell b3; replace b4 := U1.cell b4; replace b5 := U1.cell b5; replace b6 := U1.cell b6; replace b7 := U1.cell b7; replace c0 := U1.cell c0; replace c1 := U1.cell c1))
    go_ret
    exact ⟨rfl, ((G0.out.trans U).trans U1).grown⟩
  cases r1
  ·
    clear hr0 hr1
    go_enter Try.func6, Try.ntmps6
    go_wp2_with (first
      | (go_at_call 17; go_fit (HA.out _); rintro e V ⟨rfl, U⟩; have a0 := U.cell (p := ⟨w.heap.size, 0, none⟩) (v := .int .i64 B0.s) (by simp [go_sem]); have a1 := U.cell (p := ⟨w.heap.size, 1, none⟩) (v := .int .i64 B0.a) (by simp [go_sem]); have a2 := U.cell (p := ⟨w.heap.size, 2, none⟩) (v := .int .i64 B0.b) (by simp [go_sem]); have a3 := U.cell (p := ⟨w.heap.size, 3, none⟩) (v := .int .i64 B0.m) (by simp [go_sem]); have a4 := U.cell (p := ⟨w.heap.size, 4, none⟩) (v := .int .i64 B0.p) (by simp [go_sem]); have a5 := U.cell (p := ⟨w.heap.size, 5, none⟩) (v := .int .i64 B0.q) (by simp [go_sem]); have a6 := U.cell (p := ⟨w.heap.size, 6, none⟩) (v := .int .i64 B0.u) (by simp [go_sem]); have a7 := U.cell (p := ⟨w.heap.size, 7, none⟩) (v := .int .i64 B0.v) (by simp [go_sem]); have b0 := U.cell (p := ⟨w.heap.size + 1, 0, none⟩) (v := .int .i64 B1.s) (by simp [go_sem]); have b1 := U.cell (p := ⟨w.heap.size + 1, 1, none⟩) (v := .int .i64 B1.a) (by simp [go_sem]); have b2 := U.cell (p := ⟨w.heap.size + 1, 2, none⟩) (v := .int .i64 B1.b) (by simp [go_sem]); have b3 := U.cell (p := ⟨w.heap.size + 1, 3, none⟩) (v := .int .i64 B1.m) (by simp [go_sem]); have b4 := U.cell (p := ⟨w.heap.size + 1, 4, none⟩) (v := .int .i64 B1.p) (by simp [go_sem]); have b5 := U.cell (p := ⟨w.heap.size + 1, 5, none⟩) (v := .int .i64 B1.q) (by simp [go_sem]); have b6 := U.cell (p := ⟨w.heap.size + 1, 6, none⟩) (v := .int .i64 B1.u) (by simp [go_sem]); have b7 := U.cell (p := ⟨w.heap.size + 1, 7, none⟩) (v := .int .i64 B1.v) (by simp [go_sem]); have c0 := U.cell (p := ⟨w.heap.size + 1 + 1, 0, none⟩) (v := .int .i64 x2) (by simp [go_sem]); have c1 := U.cell (p := ⟨w.heap.size + 1 + 1, 1, none⟩) (v := .int .i64 y2) (by simp [go_sem]))
      | (go_at_call 17; go_fit (HB.out _); rintro e V0 ⟨rfl, U0⟩; replace a0 := U0.cell a0; replace a1 := U0.cell a1; replace a2 := U0.cell a2; replace a3 := U0.cell a3; replace a4 := U0.cell a4; replace a5 := U0.cell a5; replace a6 := U0.cell a6; replace a7 := U0.cell a7; replace b0 := U0.cell b0; replace b1 := U0.cell b1; replace b2 := U0.cell b2; replace b3 := U0.cell b3; replace b4 := U0.cell b4; replace b5 := U0.cell b5; replace b6 := U0.cell b6; replace b7 := U0.cell b7; replace c0 := U0.cell c0; replace c1 := U0.cell c1)
      | (go_at_call 9; go_fit (alive_any _); rintro e V1 ⟨rfl, U1⟩; replace a0 := U1.cell a0; replace a1 := U1.cell a1; replace a2 := U1.cell a2; replace a3 := U1.cell a3; replace a4 := U1.cell a4; replace a5 := U1.cell a5; replace a6 := U1.cell a6; replace a7 := U1.cell a7; replace b0 := U1.cell b0; replace b1 := U1.cell b1; replace b2 := U1.cell b2; replace b3 := U1.cell b3; replace b4 := U1.cell b4; replace b5 := U1.cell b5; replace b6 := U1.cell b6; replace b7 := U1.cell b7; replace c0 := U1.cell c0; replace c1 := U1.cell c1))
    go_ret
    exact ⟨rfl, (((G0.out.trans U).trans U0).trans U1).grown⟩
  by_cases k1 : 1125899906842624 < x2
  ·
    clear hr0 hr1
    go_enter Try.func6, Try.ntmps6
    go_wp2_with (first
      | (go_at_call 17; go_fit (HA.out _); rintro e V ⟨rfl, U⟩; have a0 := U.cell (p := ⟨w.heap.size, 0, none⟩) (v := .int .i64 B0.s) (by simp [go_sem]); have a1 := U.cell (p := ⟨w.heap.size, 1, none⟩) (v := .int .i64 B0.a) (by simp [go_sem]); have a2 := U.cell (p := ⟨w.heap.size, 2, none⟩) (v := .int .i64 B0.b) (by simp [go_sem]); have a3 := U.cell (p := ⟨w.heap.size, 3, none⟩) (v := .int .i64 B0.m) (by simp [go_sem]); have a4 := U.cell (p := ⟨w.heap.size, 4, none⟩) (v := .int .i64 B0.p) (by simp [go_sem]); have a5 := U.cell (p := ⟨w.heap.size, 5, none⟩) (v := .int .i64 B0.q) (by simp [go_sem]); have a6 := U.cell (p := ⟨w.heap.size, 6, none⟩) (v := .int .i64 B0.u) (by simp [go_sem]); have a7 := U.cell (p := ⟨w.heap.size, 7, none⟩) (v := .int .i64 B0.v) (by simp [go_sem]); have b0 := U.cell (p := ⟨w.heap.size + 1, 0, none⟩) (v := .int .i64 B1.s) (by simp [go_sem]); have b1 := U.cell (p := ⟨w.heap.size + 1, 1, none⟩) (v := .int .i64 B1.a) (by simp [go_sem]); have b2 := U.cell (p := ⟨w.heap.size + 1, 2, none⟩) (v := .int .i64 B1.b) (by simp [go_sem]); have b3 := U.cell (p := ⟨w.heap.size + 1, 3, none⟩) (v := .int .i64 B1.m) (by simp [go_sem]); have b4 := U.cell (p := ⟨w.heap.size + 1, 4, none⟩) (v := .int .i64 B1.p) (by simp [go_sem]); have b5 := U.cell (p := ⟨w.heap.size + 1, 5, none⟩) (v := .int .i64 B1.q) (by simp [go_sem]); have b6 := U.cell (p := ⟨w.heap.size + 1, 6, none⟩) (v := .int .i64 B1.u) (by simp [go_sem]); have b7 := U.cell (p := ⟨w.heap.size + 1, 7, none⟩) (v := .int .i64 B1.v) (by simp [go_sem]); have c0 := U.cell (p := ⟨w.heap.size + 1 + 1, 0, none⟩) (v := .int .i64 x2) (by simp [go_sem]); have c1 := U.cell (p := ⟨w.heap.size + 1 + 1, 1, none⟩) (v := .int .i64 y2) (by simp [go_sem]))
      | (go_at_call 17; go_fit (HB.out _); rintro e V0 ⟨rfl, U0⟩; replace a0 := U0.cell a0; replace a1 := U0.cell a1; replace a2 := U0.cell a2; replace a3 := U0.cell a3; replace a4 := U0.cell a4; replace a5 := U0.cell a5; replace a6 := U0.cell a6; replace a7 := U0.cell a7; replace b0 := U0.cell b0; replace b1 := U0.cell b1; replace b2 := U0.cell b2; replace b3 := U0.cell b3; replace b4 := U0.cell b4; replace b5 := U0.cell b5; replace b6 := U0.cell b6; replace b7 := U0.cell b7; replace c0 := U0.cell c0; replace c1 := U0.cell c1)
      | (go_at_call 9; go_fit (alive_any _); rintro e V1 ⟨rfl, U1⟩; replace a0 := U1.cell a0; replace a1 := U1.cell a1; replace a2 := U1.cell a2; replace a3 := U1.cell a3; replace a4 := U1.cell a4; replace a5 := U1.cell a5; replace a6 := U1.cell a6; replace a7 := U1.cell a7; replace b0 := U1.cell b0; replace b1 := U1.cell b1; replace b2 := U1.cell b2; replace b3 := U1.cell b3; replace b4 := U1.cell b4; replace b5 := U1.cell b5; replace b6 := U1.cell b6; replace b7 := U1.cell b7; replace c0 := U1.cell c0; replace c1 := U1.cell c1))
    go_ret
    exact ⟨rfl, (((G0.out.trans U).trans U0).trans U1).grown⟩
  by_cases k2 : x2 < -1125899906842624
  ·
    clear hr0 hr1
    go_enter Try.func6, Try.ntmps6
    go_wp2_with (first
      | (go_at_call 17; go_fit (HA.out _); rintro e V ⟨rfl, U⟩; have a0 := U.cell (p := ⟨w.heap.size, 0, none⟩) (v := .int .i64 B0.s) (by simp [go_sem]); have a1 := U.cell (p := ⟨w.heap.size, 1, none⟩) (v := .int .i64 B0.a) (by simp [go_sem]); have a2 := U.cell (p := ⟨w.heap.size, 2, none⟩) (v := .int .i64 B0.b) (by simp [go_sem]); have a3 := U.cell (p := ⟨w.heap.size, 3, none⟩) (v := .int .i64 B0.m) (by simp [go_sem]); have a4 := U.cell (p := ⟨w.heap.size, 4, none⟩) (v := .int .i64 B0.p) (by simp [go_sem]); have a5 := U.cell (p := ⟨w.heap.size, 5, none⟩) (v := .int .i64 B0.q) (by simp [go_sem]); have a6 := U.cell (p := ⟨w.heap.size, 6, none⟩) (v := .int .i64 B0.u) (by simp [go_sem]); have a7 := U.cell (p := ⟨w.heap.size, 7, none⟩) (v := .int .i64 B0.v) (by simp [go_sem]); have b0 := U.cell (p := ⟨w.heap.size + 1, 0, none⟩) (v := .int .i64 B1.s) (by simp [go_sem]); have b1 := U.cell (p := ⟨w.heap.size + 1, 1, none⟩) (v := .int .i64 B1.a) (by simp [go_sem]); have b2 := U.cell (p := ⟨w.heap.size + 1, 2, none⟩) (v := .int .i64 B1.b) (by simp [go_sem]); have b3 := U.cell (p := ⟨w.heap.size + 1, 3, none⟩) (v := .int .i64 B1.m) (by simp [go_sem]); have b4 := U.cell (p := ⟨w.heap.size + 1, 4, none⟩) (v := .int .i64 B1.p) (by simp [go_sem]); have b5 := U.cell (p := ⟨w.heap.size + 1, 5, none⟩) (v := .int .i64 B1.q) (by simp [go_sem]); have b6 := U.cell (p := ⟨w.heap.size + 1, 6, none⟩) (v := .int .i64 B1.u) (by simp [go_sem]); have b7 := U.cell (p := ⟨w.heap.size + 1, 7, none⟩) (v := .int .i64 B1.v) (by simp [go_sem]); have c0 := U.cell (p := ⟨w.heap.size + 1 + 1, 0, none⟩) (v := .int .i64 x2) (by simp [go_sem]); have c1 := U.cell (p := ⟨w.heap.size + 1 + 1, 1, none⟩) (v := .int .i64 y2) (by simp [go_sem]))
      | (go_at_call 17; go_fit (HB.out _); rintro e V0 ⟨rfl, U0⟩; replace a0 := U0.cell a0; replace a1 := U0.cell a1; replace a2 := U0.cell a2; replace a3 := U0.cell a3; replace a4 := U0.cell a4; replace a5 := U0.cell a5; replace a6 := U0.cell a6; replace a7 := U0.cell a7; replace b0 := U0.cell b0; replace b1 := U0.cell b1; replace b2 := U0.cell b2; replace b3 := U0.cell b3; replace b4 := U0.cell b4; replace b5 := U0.cell b5; replace b6 := U0.cell b6; replace b7 := U0.cell b7; replace c0 := U0.cell c0; replace c1 := U0.cell c1)
      | (go_at_call 9; go_fit (alive_any _); rintro e V1 ⟨rfl, U1⟩; replace a0 := U1.cell a0; replace a1 := U1.cell a1; replace a2 := U1.cell a2; replace a3 := U1.cell a3; replace a4 := U1.cell a4; replace a5 := U1.cell a5; replace a6 := U1.cell a6; replace a7 := U1.cell a7; replace b0 := U1.cell b0; replace b1 := U1.cell b1; replace b2 := U1.cell b2; replace b3 := U1.cell b3; replace b4 := U1.cell b4; replace b5 := U1.cell b5; replace b6 := U1.cell b6; replace b7 := U1.cell b7; replace c0 := U1.cell c0; replace c1 := U1.cell c1))
    go_ret
    exact ⟨rfl, (((G0.out.trans U).trans U0).trans U1).grown⟩
  by_cases k3 : 1125899906842624 < y2
  ·
    clear hr0 hr1
    go_enter Try.func6, Try.ntmps6
    go_wp2_with (first
      | (go_at_call 17; go_fit (HA.out _); rintro e V ⟨rfl, U⟩; have a0 := U.cell (p := ⟨w.heap.size, 0, none⟩) (v := .int .i64 B0.s) (by simp [go_sem]); have a1 := U.cell (p := ⟨w.heap.size, 1, none⟩) (v := .int .i64 B0.a) (by simp [go_sem]); have a2 := U.cell (p := ⟨w.heap.size, 2, none⟩) (v := .int .i64 B0.b) (by simp [go_sem]); have a3 := U.cell (p := ⟨w.heap.size, 3, none⟩) (v := .int .i64 B0.m) (by simp [go_sem]); have a4 := U.cell (p := ⟨w.heap.size, 4, none⟩) (v := .int .i64 B0.p) (by simp [go_sem]); have a5 := U.cell (p := ⟨w.heap.size, 5, none⟩) (v := .int .i64 B0.q) (by simp [go_sem]); have a6 := U.cell (p := ⟨w.heap.size, 6, none⟩) (v := .int .i64 B0.u) (by simp [go_sem]); have a7 := U.cell (p := ⟨w.heap.size, 7, none⟩) (v := .int .i64 B0.v) (by simp [go_sem]); have b0 := U.cell (p := ⟨w.heap.size + 1, 0, none⟩) (v := .int .i64 B1.s) (by simp [go_sem]); have b1 := U.cell (p := ⟨w.heap.size + 1, 1, none⟩) (v := .int .i64 B1.a) (by simp [go_sem]); have b2 := U.cell (p := ⟨w.heap.size + 1, 2, none⟩) (v := .int .i64 B1.b) (by simp [go_sem]); have b3 := U.cell (p := ⟨w.heap.size + 1, 3, none⟩) (v := .int .i64 B1.m) (by simp [go_sem]); have b4 := U.cell (p := ⟨w.heap.size + 1, 4, none⟩) (v := .int .i64 B1.p) (by simp [go_sem]); have b5 := U.cell (p := ⟨w.heap.size + 1, 5, none⟩) (v := .int .i64 B1.q) (by simp [go_sem]); have b6 := U.cell (p := ⟨w.heap.size + 1, 6, none⟩) (v := .int .i64 B1.u) (by simp [go_sem]); have b7 := U.cell (p := ⟨w.heap.size + 1, 7, none⟩) (v := .int .i64 B1.v) (by simp [go_sem]); have c0 := U.cell (p := ⟨w.heap.size + 1 + 1, 0, none⟩) (v := .int .i64 x2) (by simp [go_sem]); have c1 := U.cell (p := ⟨w.heap.size + 1 + 1, 1, none⟩) (v := .int .i64 y2) (by simp [go_sem]))
      | (go_at_call 17; go_fit (HB.out _); rintro e V0 ⟨rfl, U0⟩; replace a0 := U0.cell a0; replace a1 := U0.cell a1; replace a2 := U0.cell a2; replace a3 := U0.cell a3; replace a4 := U0.cell a4; replace a5 := U0.cell a5; replace a6 := U0.cell a6; replace a7 := U0.cell a7; replace b0 := U0.cell b0; replace b1 := U0.cell b1; replace b2 := U0.cell b2; replace b3 := U0.cell b3; replace b4 := U0.cell b4; replace b5 := U0.cell b5; replace b6 := U0.cell b6; replace b7 := U0.cell b7; replace c0 := U0.cell c0; replace c1 := U0.cell c1)
      | (go_at_call 9; go_fit (alive_any _); rintro e V1 ⟨rfl, U1⟩; replace a0 := U1.cell a0; replace a1 := U1.cell a1; replace a2 := U1.cell a2; replace a3 := U1.cell a3; replace a4 := U1.cell a4; replace a5 := U1.cell a5; replace a6 := U1.cell a6; replace a7 := U1.cell a7; replace b0 := U1.cell b0; replace b1 := U1.cell b1; replace b2 := U1.cell b2; replace b3 := U1.cell b3; replace b4 := U1.cell b4; replace b5 := U1.cell b5; replace b6 := U1.cell b6; replace b7 := U1.cell b7; replace c0 := U1.cell c0; replace c1 := U1.cell c1))
    go_ret
    exact ⟨rfl, (((G0.out.trans U).trans U0).trans U1).grown⟩
  by_cases k4 : y2 < -1125899906842624
  ·
    clear hr0 hr1
    go_enter Try.func6, Try.ntmps6
    go_wp2_with (first
      | (go_at_call 17; go_fit (HA.out _); rintro e V ⟨rfl, U⟩; have a0 := U.cell (p := ⟨w.heap.size, 0, none⟩) (v := .int .i64 B0.s) (by simp [go_sem]); have a1 := U.cell (p := ⟨w.heap.size, 1, none⟩) (v := .int .i64 B0.a) (by simp [go_sem]); have a2 := U.cell (p := ⟨w.heap.size, 2, none⟩) (v := .int .i64 B0.b) (by simp [go_sem]); have a3 := U.cell (p := ⟨w.heap.size, 3, none⟩) (v := .int .i64 B0.m) (by simp [go_sem]); have a4 := U.cell (p := ⟨w.heap.size, 4, none⟩) (v := .int .i64 B0.p) (by simp [go_sem]); have a5 := U.cell (p := ⟨w.heap.size, 5, none⟩) (v := .int .i64 B0.q) (by simp [go_sem]); have a6 := U.cell (p := ⟨w.heap.size, 6, none⟩) (v := .int .i64 B0.u) (by simp [go_sem]); have a7 := U.cell (p := ⟨w.heap.size, 7, none⟩) (v := .int .i64 B0.v) (by simp [go_sem]); have b0 := U.cell (p := ⟨w.heap.size + 1, 0, none⟩) (v := .int .i64 B1.s) (by simp [go_sem]); have b1 := U.cell (p := ⟨w.heap.size + 1, 1, none⟩) (v := .int .i64 B1.a) (by simp [go_sem]); have b2 := U.cell (p := ⟨w.heap.size + 1, 2, none⟩) (v := .int .i64 B1.b) (by simp [go_sem]); have b3 := U.cell (p := ⟨w.heap.size + 1, 3, none⟩) (v := .int .i64 B1.m) (by simp [go_sem]); have b4 := U.cell (p := ⟨w.heap.size + 1, 4, none⟩) (v := .int .i64 B1.p) (by simp [go_sem]); have b5 := U.cell (p := ⟨w.heap.size + 1, 5, none⟩) (v := .int .i64 B1.q) (by simp [go_sem]); have b6 := U.cell (p := ⟨w.heap.size + 1, 6, none⟩) (v := .int .i64 B1.u) (by simp [go_sem]); have b7 := U.cell (p := ⟨w.heap.size + 1, 7, none⟩) (v := .int .i64 B1.v) (by simp [go_sem]); have c0 := U.cell (p := ⟨w.heap.size + 1 + 1, 0, none⟩) (v := .int .i64 x2) (by simp [go_sem]); have c1 := U.cell (p := ⟨w.heap.size + 1 + 1, 1, none⟩) (v := .int .i64 y2) (by simp [go_sem]))
      | (go_at_call 17; go_fit (HB.out _); rintro e V0 ⟨rfl, U0⟩; replace a0 := U0.cell a0; replace a1 := U0.cell a1; replace a2 := U0.cell a2; replace a3 := U0.cell a3; replace a4 := U0.cell a4; replace a5 := U0.cell a5; replace a6 := U0.cell a6; replace a7 := U0.cell a7; replace b0 := U0.cell b0; replace b1 := U0.cell b1; replace b2 := U0.cell b2; replace b3 := U0.cell b3; replace b4 := U0.cell b4; replace b5 := U0.cell b5; replace b6 := U0.cell b6; replace b7 := U0.cell b7; replace c0 := U0.cell c0; replace c1 := U0.cell c1)
      | (go_at_call 9; go_fit (alive_any _); rintro e V1 ⟨rfl, U1⟩; replace a0 := U1.cell a0; replace a1 := U1.cell a1; replace a2 := U1.cell a2; replace a3 := U1.cell a3; replace a4 := U1.cell a4; replace a5 := U1.cell a5; replace a6 := U1.cell a6; replace a7 := U1.cell a7; replace b0 := U1.cell b0; replace b1 := U1.cell b1; replace b2 := U1.cell b2; replace b3 := U1.cell b3; replace b4 := U1.cell b4; replace b5 := U1.cell b5; replace b6 := U1.cell b6; replace b7 := U1.cell b7; replace c0 := U1.cell c0; replace c1 := U1.cell c1))
    go_ret
    exact ⟨rfl, (((G0.out.trans U).trans U0).trans U1).grown⟩
  have hI : hitR B0 B1 = (hitI B0 B1, 0) := hit_mild (right_mild hr0) (right_mild hr1)
  have m0 := right_moved hr0 (x := x2) (y := y2) (by omega) (by omega)
  have m1 := right_moved hr1 (x := x2) (y := y2) (by omega) (by omega)
  have hJ : hitR (movB B0 x2 y2) (movB B1 x2 y2) = (hitI B0 B1, 0) := by rw [hit_mild m0 m1, hit_moved]
  have p0 := m0.p
  have p1 := m0.q
  have p2 := m1.p
  have p3 := m1.q
  simp only [movB] at p0 p1 p2 p3
  have om0 : (movB B0 x2 y2).ok := ⟨o0.s, o0.a, o0.b, o0.m, ⟨by simp only [movB]; omega, by simp only [movB]; omega⟩, ⟨by simp only [movB]; omega, by simp only [movB]; omega⟩, o0.u, o0.v⟩
  have om1 : (movB B1 x2 y2).ok := ⟨o1.s, o1.a, o1.b, o1.m, ⟨by simp only [movB]; omega, by simp only [movB]; omega⟩, ⟨by simp only [movB]; omega, by simp only [movB]; omega⟩, o1.u, o1.v⟩
  generalize hitI B0 B1 = R at *
  obtain ⟨⟨s0, s1, s2⟩, s3⟩ := R
  clear hr0 hr1 m0 m1 f2 g2
  go_enter Try.func6, Try.ntmps6
  go_wp2_with (first
    | (go_at_call 17; go_fit (HA.out _); rintro e V ⟨rfl, U⟩; have a0 := U.cell (p := ⟨w.heap.size, 0, none⟩) (v := .int .i64 B0.s) (by simp [go_sem]); have a1 := U.cell (p := ⟨w.heap.size, 1, none⟩) (v := .int .i64 B0.a) (by simp [go_sem]); have a2 := U.cell (p := ⟨w.heap.size, 2, none⟩) (v := .int .i64 B0.b) (by simp [go_sem]); have a3 := U.cell (p := ⟨w.heap.size, 3, none⟩) (v := .int .i64 B0.m) (by simp [go_sem]); have a4 := U.cell (p := ⟨w.heap.size, 4, none⟩) (v := .int .i64 B0.p) (by simp [go_sem]); have a5 := U.cell (p := ⟨w.heap.size, 5, none⟩) (v := .int .i64 B0.q) (by simp [go_sem]); have a6 := U.cell (p := ⟨w.heap.size, 6, none⟩) (v := .int .i64 B0.u) (by simp [go_sem]); have a7 := U.cell (p := ⟨w.heap.size, 7, none⟩) (v := .int .i64 B0.v) (by simp [go_sem]); have b0 := U.cell (p := ⟨w.heap.size + 1, 0, none⟩) (v := .int .i64 B1.s) (by simp [go_sem]); have b1 := U.cell (p := ⟨w.heap.size + 1, 1, none⟩) (v := .int .i64 B1.a) (by simp [go_sem]); have b2 := U.cell (p := ⟨w.heap.size + 1, 2, none⟩) (v := .int .i64 B1.b) (by simp [go_sem]); have b3 := U.cell (p := ⟨w.heap.size + 1, 3, none⟩) (v := .int .i64 B1.m) (by simp [go_sem]); have b4 := U.cell (p := ⟨w.heap.size + 1, 4, none⟩) (v := .int .i64 B1.p) (by simp [go_sem]); have b5 := U.cell (p := ⟨w.heap.size + 1, 5, none⟩) (v := .int .i64 B1.q) (by simp [go_sem]); have b6 := U.cell (p := ⟨w.heap.size + 1, 6, none⟩) (v := .int .i64 B1.u) (by simp [go_sem]); have b7 := U.cell (p := ⟨w.heap.size + 1, 7, none⟩) (v := .int .i64 B1.v) (by simp [go_sem]); have c0 := U.cell (p := ⟨w.heap.size + 1 + 1, 0, none⟩) (v := .int .i64 x2) (by simp [go_sem]); have c1 := U.cell (p := ⟨w.heap.size + 1 + 1, 1, none⟩) (v := .int .i64 y2) (by simp [go_sem]))
    | (go_at_call 17; go_fit (HB.out _); rintro e V0 ⟨rfl, U0⟩; replace a0 := U0.cell a0; replace a1 := U0.cell a1; replace a2 := U0.cell a2; replace a3 := U0.cell a3; replace a4 := U0.cell a4; replace a5 := U0.cell a5; replace a6 := U0.cell a6; replace a7 := U0.cell a7; replace b0 := U0.cell b0; replace b1 := U0.cell b1; replace b2 := U0.cell b2; replace b3 := U0.cell b3; replace b4 := U0.cell b4; replace b5 := U0.cell b5; replace b6 := U0.cell b6; replace b7 := U0.cell b7; replace c0 := U0.cell c0; replace c1 := U0.cell c1)
    | (go_at_call 9; go_fit (alive_any _); rintro e V1 ⟨rfl, U1⟩; replace a0 := U1.cell a0; replace a1 := U1.cell a1; replace a2 := U1.cell a2; replace a3 := U1.cell a3; replace a4 := U1.cell a4; replace a5 := U1.cell a5; replace a6 := U1.cell a6; replace a7 := U1.cell a7; replace b0 := U1.cell b0; replace b1 := U1.cell b1; replace b2 := U1.cell b2; replace b3 := U1.cell b3; replace b4 := U1.cell b4; replace b5 := U1.cell b5; replace b6 := U1.cell b6; replace b7 := U1.cell b7; replace c0 := U1.cell c0; replace c1 := U1.cell c1))
  obtain ⟨W, hW⟩ : ∃ W, W = (((V1.alloc (.cells #[.int .i64 0, .int .i64 0, .int .i64 0] 32)).alloc (.cells #[.int .i64 0, .int .i64 0, .int .i64 0] 32)).alloc (.cells #[.bool false] 4)).alloc (.cells #[.bool false] 4) := ⟨_, rfl⟩
  rw [← hW]
  have GV : Grew w V1 := ((G0.out.trans U).trans U0).trans U1
  have gW : Grew V1 W := by rw [hW]; exact ((((Grew.refl V1).alloc _ _).alloc _ _).alloc _ _).alloc _ _
  have sz : W.heap.size = V1.heap.size + 1 + 1 + 1 + 1 := by rw [hW]; simp [go_sem]
  have hA : BAt W w.heap.size B0 := BAt.grew ⟨a0, a1, a2, a3, a4, a5, a6, a7⟩ gW
  have hB : BAt W (w.heap.size + 1) B1 := BAt.grew ⟨b0, b1, b2, b3, b4, b5, b6, b7⟩ gW
  have hC : At W (w.heap.size + 1 + 1) x2 y2 := At.grew ⟨c0, c1⟩ gW
  have lt : w.heap.size + 1 + 1 < V1.heap.size := cell_block c0
  have hv : HAt W V1.heap.size ⟨0, 0, 0⟩ := by rw [hW]; constructor <;> simp [go_sem]
  have hv' : HAt W (V1.heap.size + 1) ⟨0, 0, 0⟩ := by rw [hW]; constructor <;> simp [go_sem]
  have hl : W.cell? ⟨V1.heap.size + 1 + 1, 0, none⟩ = some (.bool false) := by rw [hW]; simp [go_sem]
  have hl' : W.cell? ⟨V1.heap.size + 1 + 1 + 1, 0, none⟩ = some (.bool false) := by rw [hW]; simp [go_sem]
  clear hW a0 a1 a2 a3 a4 a5 a6 a7 b0 b1 b2 b3 b4 b5 b6 b7 c0 c1 U U0 U1 G0 HA HB
  generalize hX : V1.heap.size = X at *
  refine (try_set (S := fun n => n = X ∨ n = X + 1 + 1) (P := LeftH X (X + 1 + 1) (hitR B0 B1)) _ _ _ (fun _ => by simp [go_sem]) (fun n hn => by omega) (LeftH.keep (by omega) (by omega)) (fun W0 G => ?_)).mono ?_
  · exact ask_moves1 _ _ _ _ (by omega) B0 B1 o0 o1 W0 (hA.grew G) (hB.grew G) _ (hv.grew G) false (G.cell hl) ((gW.trans G).freeB (by omega)) ((gW.trans G).freeB (by omega))
  rintro e V2 ⟨hW, x', rfl, hx'⟩
  rw [hI] at hx'
  obtain ⟨rfl, h2⟩ := hx'
  obtain ⟨eH, e3⟩ := h2 rfl
  simp only at eH e3
  have hA2 := hA.wrote hW (by omega)
  have hB2 := hB.wrote hW (by omega)
  obtain ⟨c0, c1⟩ := hC.wrote hW (by omega)
  have hv2 := hv'.wrote hW (by omega)
  have hl2 := hW.cell hl' (by simp only; omega)
  have G2 : Hid (Grew w V2) := hW.to (GV.trans gW) (fun n hn => by have := GV.size; omega)
  have G3 : Hid (Grew V1 V2) := hW.to gW (fun n hn => by omega)
  have lt2 := hW.size
  have a4 := hA2.c4
  have a5 := hA2.c5
  have b4 := hB2.c4
  have b5 := hB2.c5
  have z0 := G2.out.freeB (b := w.heap.size) (Nat.le_refl _) 4 none
  have z1 := G2.out.freeB (b := w.heap.size) (Nat.le_refl _) 5 none
  have z2 := G2.out.freeB (b := w.heap.size + 1) (by omega) 4 none
  have z3 := G2.out.freeB (b := w.heap.size + 1) (by omega) 5 none
  clear hW h2 hA hB hC hv hv' hl hl' gW
  go_wp2_with (fail)
  obtain ⟨D, hD⟩ : ∃ D, D = V2.drew := ⟨_, rfl⟩
  have gV : Grew V2 D := by rw [hD]; exact (Grew.refl V2).drew
  replace a4 := gV.cell a4
  replace a5 := gV.cell a5
  replace b4 := gV.cell b4
  replace b5 := gV.cell b5
  replace z0 := gV.frozen z0
  replace z1 := gV.frozen z1
  replace z2 := gV.frozen z2
  replace z3 := gV.frozen z3
  have w1 : Hid (IntKind.i64.wrap (B0.p + x2) = B0.p + x2) := by show _ = _; rw [IntKind.wrap_i64]; omega
  have w2 : Hid (IntKind.i64.wrap (B0.q + y2) = B0.q + y2) := by show _ = _; rw [IntKind.wrap_i64]; omega
  have w3 : Hid (IntKind.i64.wrap (B1.p + x2) = B1.p + x2) := by show _ = _; rw [IntKind.wrap_i64]; omega
  have w4 : Hid (IntKind.i64.wrap (B1.q + y2) = B1.q + y2) := by show _ = _; rw [IntKind.wrap_i64]; omega
  go_cut [] from 13 to 79 (fun wx => wx = (((D.setCell ⟨w.heap.size, 4, none⟩ (.int .i64 (B0.p + x2))).setCell ⟨w.heap.size, 5, none⟩ (.int .i64 (B0.q + y2))).setCell ⟨w.heap.size + 1, 4, none⟩ (.int .i64 (B1.p + x2))).setCell ⟨w.heap.size + 1, 5, none⟩ (.int .i64 (B1.q + y2)))
  case first =>
    clear hI hJ om0 om1 eH e3 hA2 hB2 hv2 hl2 G2 G3 gV lt lt2 GV p0 p1 p2 p3 k1 k2 k3 k4
    have SW : Hid (∀ (W : World) (b o : Nat) (v : Value), b < w.heap.size + 1 + 1 → (fun w' => w'.cell? ⟨w.heap.size + 1 + 1, 0, none⟩ = some (.int .i64 x2) ∧ w'.cell? ⟨w.heap.size + 1 + 1, 1, none⟩ = some (.int .i64 y2)) W → (fun w' => w'.cell? ⟨w.heap.size + 1 + 1, 0, none⟩ = some (.int .i64 x2) ∧ w'.cell? ⟨w.heap.size + 1 + 1, 1, none⟩ = some (.int .i64 y2)) (W.setCell ⟨b, o, none⟩ v)) := fun W b o v hb h => ⟨(past_setCell b W o none v).cell (by simp only; omega) h.1, (past_setCell b W o none v).cell (by simp only; omega) h.2⟩
    refine wp_region_held_drew (S := (fun w' => w'.cell? ⟨w.heap.size + 1 + 1, 0, none⟩ = some (.int .i64 x2) ∧ w'.cell? ⟨w.heap.size + 1 + 1, 1, none⟩ = some (.int .i64 y2))) (by kernel_rfl) ?_ (fun hH0 => ?_)
    · exact ⟨(Grew.refl V2).drew.cell c0, (Grew.refl V2).drew.cell c1⟩
    rw [← hD] at hH0 ⊢
    clear hD c0 c1
    change wpAnyH _ _ _ _ _ _ #[false, false, false, false, false, false, false, false, false, false, false, false, false, false, false, false, false, false, false, false, false, false, false, false, false, false, false, false, false, false, false, false, false, false, false, false] _ _
    refine wpAnyH_take (i := 0) (oi := { dst := some 48, op := Go.Op.fieldAddr 26 (Go.Operand.tmp 3) 3, type := 0, pos := "more.go:40", after := #[], guard := none }) (v := ?vt1) rfl (by kernel_rfl) (by kernel_rfl) (by kernel_rfl) (fun _ _ _ h => h) (Or.inl ⟨by rfl, ?hyt1⟩) (by assumption) ?restt1
    case hyt1 => (intro w hSw; (try dsimp only at hSw); go_simp; try (with_reducible rfl))
    simp only [Act.put, List.setIfInBounds_toArray, List.set_cons_zero, List.set_cons_succ]
    refine wpAnyH_take (i := 1) (oi := { dst := some 49, op := Go.Op.fieldAddr 24 (Go.Operand.tmp 48) 0, type := 0, pos := "more.go:40", after := #[{ on := 0, ground := Go.Ground.data }], guard := none }) (v := ?vt2) rfl (by kernel_rfl) (by kernel_rfl) (by kernel_rfl) (fun _ _ _ h => h) (Or.inl ⟨by rfl, ?hyt2⟩) (by assumption) ?restt2
    case hyt2 => (intro w hSw; (try dsimp only at hSw); go_simp; try (with_reducible rfl))
    simp only [Act.put, List.setIfInBounds_toArray, List.set_cons_zero, List.set_cons_succ]
    refine wpAnyH_take (i := 3) (oi := { dst := some 51, op := Go.Op.fieldAddr 24 (Go.Operand.tmp 5) 0, type := 0, pos := "more.go:40", after := #[], guard := none }) (v := ?vt3) rfl (by kernel_rfl) (by kernel_rfl) (by kernel_rfl) (fun _ _ _ h => h) (Or.inl ⟨by rfl, ?hyt3⟩) (by assumption) ?restt3
    case hyt3 => (intro w hSw; (try dsimp only at hSw); go_simp; try (with_reducible rfl))
    simp only [Act.put, List.setIfInBounds_toArray, List.set_cons_zero, List.set_cons_succ]
    refine wpAnyH_take (i := 4) (oi := { dst := some 52, op := Go.Op.load 22 (Go.Operand.tmp 51), type := 22, pos := "more.go:40", after := #[{ on := 3, ground := Go.Ground.data }], guard := none }) (v := ?vt4) rfl (by kernel_rfl) (by kernel_rfl) (by kernel_rfl) (fun _ _ _ h => h) (Or.inl ⟨by rfl, ?hyt4⟩) (by assumption) ?restt4
    case hyt4 => (intro w hSw; (try dsimp only at hSw); go_simp; try (with_reducible rfl))
    simp only [Act.put, List.setIfInBounds_toArray, List.set_cons_zero, List.set_cons_succ]
    refine wpAnyH_take (i := 6) (oi := { dst := some 54, op := Go.Op.fieldAddr 26 (Go.Operand.tmp 3) 3, type := 0, pos := "more.go:40", after := #[], guard := none }) (v := ?vt5) rfl (by kernel_rfl) (by kernel_rfl) (by kernel_rfl) (fun _ _ _ h => h) (Or.inl ⟨by rfl, ?hyt5⟩) (by assumption) ?restt5
    case hyt5 => (intro w hSw; (try dsimp only at hSw); go_simp; try (with_reducible rfl))
    simp only [Act.put, List.setIfInBounds_toArray, List.set_cons_zero, List.set_cons_succ]
    refine wpAnyH_take (i := 7) (oi := { dst := some 55, op := Go.Op.fieldAddr 24 (Go.Operand.tmp 54) 1, type := 0, pos := "more.go:40", after := #[{ on := 6, ground := Go.Ground.data }], guard := none }) (v := ?vt6) rfl (by kernel_rfl) (by kernel_rfl) (by kernel_rfl) (fun _ _ _ h => h) (Or.inl ⟨by rfl, ?hyt6⟩) (by assumption) ?restt6
    case hyt6 => (intro w hSw; (try dsimp only at hSw); go_simp; try (with_reducible rfl))
    simp only [Act.put, List.setIfInBounds_toArray, List.set_cons_zero, List.set_cons_succ]
    refine wpAnyH_take (i := 9) (oi := { dst := some 57, op := Go.Op.fieldAddr 24 (Go.Operand.tmp 5) 1, type := 0, pos := "more.go:40", after := #[], guard := none }) (v := ?vt7) rfl (by kernel_rfl) (by kernel_rfl) (by kernel_rfl) (fun _ _ _ h => h) (Or.inl ⟨by rfl, ?hyt7⟩) (by assumption) ?restt7
    case hyt7 => (intro w hSw; (try dsimp only at hSw); go_simp; try (with_reducible rfl))
    simp only [Act.put, List.setIfInBounds_toArray, List.set_cons_zero, List.set_cons_succ]
    refine wpAnyH_take (i := 10) (oi := { dst := some 58, op := Go.Op.load 22 (Go.Operand.tmp 57), type := 22, pos := "more.go:40", after := #[{ on := 9, ground := Go.Ground.data }], guard := none }) (v := ?vt8) rfl (by kernel_rfl) (by kernel_rfl) (by kernel_rfl) (fun _ _ _ h => h) (Or.inl ⟨by rfl, ?hyt8⟩) (by assumption) ?restt8
    case hyt8 => (intro w hSw; (try dsimp only at hSw); go_simp; try (with_reducible rfl))
    simp only [Act.put, List.setIfInBounds_toArray, List.set_cons_zero, List.set_cons_succ]
    refine wpAnyH_take (i := 12) (oi := { dst := some 60, op := Go.Op.fieldAddr 26 (Go.Operand.tmp 4) 3, type := 0, pos := "more.go:40", after := #[], guard := none }) (v := ?vt9) rfl (by kernel_rfl) (by kernel_rfl) (by kernel_rfl) (fun _ _ _ h => h) (Or.inl ⟨by rfl, ?hyt9⟩) (by assumption) ?restt9
    case hyt9 => (intro w hSw; (try dsimp only at hSw); go_simp; try (with_reducible rfl))
    simp only [Act.put, List.setIfInBounds_toArray, List.set_cons_zero, List.set_cons_succ]
    refine wpAnyH_take (i := 13) (oi := { dst := some 61, op := Go.Op.fieldAddr 24 (Go.Operand.tmp 60) 0, type := 0, pos := "more.go:40", after := #[{ on := 12, ground := Go.Ground.data }], guard := none }) (v := ?vt10) rfl (by kernel_rfl) (by kernel_rfl) (by kernel_rfl) (fun _ _ _ h => h) (Or.inl ⟨by rfl, ?hyt10⟩) (by assumption) ?restt10
    case hyt10 => (intro w hSw; (try dsimp only at hSw); go_simp; try (with_reducible rfl))
    simp only [Act.put, List.setIfInBounds_toArray, List.set_cons_zero, List.set_cons_succ]
    refine wpAnyH_take (i := 15) (oi := { dst := some 63, op := Go.Op.fieldAddr 24 (Go.Operand.tmp 5) 0, type := 0, pos := "more.go:40", after := #[], guard := none }) (v := ?vt11) rfl (by kernel_rfl) (by kernel_rfl) (by kernel_rfl) (fun _ _ _ h => h) (Or.inl ⟨by rfl, ?hyt11⟩) (by assumption) ?restt11
    case hyt11 => (intro w hSw; (try dsimp only at hSw); go_simp; try (with_reducible rfl))
    simp only [Act.put, List.setIfInBounds_toArray, List.set_cons_zero, List.set_cons_succ]
    refine wpAnyH_take (i := 16) (oi := { dst := some 64, op := Go.Op.load 22 (Go.Operand.tmp 63), type := 22, pos := "more.go:40", after := #[{ on := 15, ground := Go.Ground.data }], guard := none }) (v := ?vt12) rfl (by kernel_rfl) (by kernel_rfl) (by kernel_rfl) (fun _ _ _ h => h) (Or.inl ⟨by rfl, ?hyt12⟩) (by assumption) ?restt12
    case hyt12 => (intro w hSw; (try dsimp only at hSw); go_simp; try (with_reducible rfl))
    simp only [Act.put, List.setIfInBounds_toArray, List.set_cons_zero, List.set_cons_succ]
    refine wpAnyH_take (i := 18) (oi := { dst := some 66, op := Go.Op.fieldAddr 26 (Go.Operand.tmp 4) 3, type := 0, pos := "more.go:40", after := #[], guard := none }) (v := ?vt13) rfl (by kernel_rfl) (by kernel_rfl) (by kernel_rfl) (fun _ _ _ h => h) (Or.inl ⟨by rfl, ?hyt13⟩) (by assumption) ?restt13
    case hyt13 => (intro w hSw; (try dsimp only at hSw); go_simp; try (with_reducible rfl))
    simp only [Act.put, List.setIfInBounds_toArray, List.set_cons_zero, List.set_cons_succ]
    refine wpAnyH_take (i := 19) (oi := { dst := some 67, op := Go.Op.fieldAddr 24 (Go.Operand.tmp 66) 1, type := 0, pos := "more.go:40", after := #[{ on := 18, ground := Go.Ground.data }], guard := none }) (v := ?vt14) rfl (by kernel_rfl) (by kernel_rfl) (by kernel_rfl) (fun _ _ _ h => h) (Or.inl ⟨by rfl, ?hyt14⟩) (by assumption) ?restt14
    case hyt14 => (intro w hSw; (try dsimp only at hSw); go_simp; try (with_reducible rfl))
    simp only [Act.put, List.setIfInBounds_toArray, List.set_cons_zero, List.set_cons_succ]
    refine wpAnyH_take (i := 21) (oi := { dst := some 69, op := Go.Op.fieldAddr 24 (Go.Operand.tmp 5) 1, type := 0, pos := "more.go:40", after := #[], guard := none }) (v := ?vt15) rfl (by kernel_rfl) (by kernel_rfl) (by kernel_rfl) (fun _ _ _ h => h) (Or.inl ⟨by rfl, ?hyt15⟩) (by assumption) ?restt15
    case hyt15 => (intro w hSw; (try dsimp only at hSw); go_simp; try (with_reducible rfl))
    simp only [Act.put, List.setIfInBounds_toArray, List.set_cons_zero, List.set_cons_succ]
    refine wpAnyH_take (i := 22) (oi := { dst := some 70, op := Go.Op.load 22 (Go.Operand.tmp 69), type := 22, pos := "more.go:40", after := #[{ on := 21, ground := Go.Ground.data }], guard := none }) (v := ?vt16) rfl (by kernel_rfl) (by kernel_rfl) (by kernel_rfl) (fun _ _ _ h => h) (Or.inl ⟨by rfl, ?hyt16⟩) (by assumption) ?restt16
    case hyt16 => (intro w hSw; (try dsimp only at hSw); go_simp; try (with_reducible rfl))
    simp only [Act.put, List.setIfInBounds_toArray, List.set_cons_zero, List.set_cons_succ]
    apply share
    case h =>
      intro tailA
      apply share
      case h =>
        intro tailB
        refine wpAnyH_ready (rs := [2, 8, 14, 20]) (by kernel_rfl) (by simp) ?_
        refine AllReadyH.cons (o := { dst := some 50, op := Go.Op.load 22 (Go.Operand.tmp 49), type := 22, pos := "more.go:40", after := #[{ on := 1, ground := Go.Ground.data }], guard := none }) rfl (fun K hK => ?_) (AllReadyH.cons (o := { dst := some 56, op := Go.Op.load 22 (Go.Operand.tmp 55), type := 22, pos := "more.go:40", after := #[{ on := 7, ground := Go.Ground.data }], guard := none }) rfl (fun K hK => ?_) (AllReadyH.cons (o := { dst := some 62, op := Go.Op.load 22 (Go.Operand.tmp 61), type := 22, pos := "more.go:40", after := #[{ on := 13, ground := Go.Ground.data }], guard := none }) rfl (fun K hK => ?_) (AllReadyH.cons (o := { dst := some 68, op := Go.Op.load 22 (Go.Operand.tmp 67), type := 22, pos := "more.go:40", after := #[{ on := 19, ground := Go.Ground.data }], guard := none }) rfl (fun K hK => ?_) AllReadyH.nil)))
        · go_simp
          refine hK.out _ _ hH0 (fun _ => ?_)
          clear hK K
          simp only [List.setIfInBounds_toArray, List.set_cons_zero, List.set_cons_succ]
          refine wpAnyH_take (i := 5) (oi := { dst := some 53, op := Go.Op.binOp Go.BinOp.add 22 (Go.Operand.tmp 50) (Go.Operand.tmp 52) 22, type := 22, pos := "more.go:40", after := #[{ on := 2, ground := Go.Ground.data }, { on := 4, ground := Go.Ground.data }], guard := none }) (v := ?vt17) rfl (by kernel_rfl) (by kernel_rfl) (by kernel_rfl) (fun _ _ _ h => h) (Or.inl ⟨by rfl, ?hyt17⟩) (by assumption) ?restt17
          case hyt17 => (intro w hSw; (try dsimp only at hSw); go_simp; try (with_reducible rfl))
          simp only [Act.put, List.setIfInBounds_toArray, List.set_cons_zero, List.set_cons_succ]
          refine wpAnyH_ready (rs := [8, 14, 20]) (by kernel_rfl) (by simp) ?_
          refine AllReadyH.cons (o := { dst := some 56, op := Go.Op.load 22 (Go.Operand.tmp 55), type := 22, pos := "more.go:40", after := #[{ on := 7, ground := Go.Ground.data }], guard := none }) rfl (fun K hK => ?_) (AllReadyH.cons (o := { dst := some 62, op := Go.Op.load 22 (Go.Operand.tmp 61), type := 22, pos := "more.go:40", after := #[{ on := 13, ground := Go.Ground.data }], guard := none }) rfl (fun K hK => ?_) (AllReadyH.cons (o := { dst := some 68, op := Go.Op.load 22 (Go.Operand.tmp 67), type := 22, pos := "more.go:40", after := #[{ on := 19, ground := Go.Ground.data }], guard := none }) rfl (fun K hK => ?_) AllReadyH.nil))
          · go_simp
            refine hK.out _ _ hH0 (fun _ => ?_)
            clear hK K
            simp only [List.setIfInBounds_toArray, List.set_cons_zero, List.set_cons_succ]
            refine wpAnyH_take (i := 11) (oi := { dst := some 59, op := Go.Op.binOp Go.BinOp.add 22 (Go.Operand.tmp 56) (Go.Operand.tmp 58) 22, type := 22, pos := "more.go:40", after := #[{ on := 8, ground := Go.Ground.data }, { on := 10, ground := Go.Ground.data }], guard := none }) (v := ?vt18) rfl (by kernel_rfl) (by kernel_rfl) (by kernel_rfl) (fun _ _ _ h => h) (Or.inl ⟨by rfl, ?hyt18⟩) (by assumption) ?restt18
            case hyt18 => (intro w hSw; (try dsimp only at hSw); go_simp; try (with_reducible rfl))
            simp only [Act.put, List.setIfInBounds_toArray, List.set_cons_zero, List.set_cons_succ]
            refine wpAnyH_ready (rs := [14, 20]) (by kernel_rfl) (by simp) ?_
            refine AllReadyH.cons (o := { dst := some 62, op := Go.Op.load 22 (Go.Operand.tmp 61), type := 22, pos := "more.go:40", after := #[{ on := 13, ground := Go.Ground.data }], guard := none }) rfl (fun K hK => ?_) (AllReadyH.cons (o := { dst := some 68, op := Go.Op.load 22 (Go.Operand.tmp 67), type := 22, pos := "more.go:40", after := #[{ on := 19, ground := Go.Ground.data }], guard := none }) rfl (fun K hK => ?_) AllReadyH.nil)
            · go_simp
              refine hK.out _ _ hH0 (fun _ => ?_)
              clear hK K
              simp only [List.setIfInBounds_toArray, List.set_cons_zero, List.set_cons_succ]
              refine wpAnyH_take (i := 17) (oi := { dst := some 65, op := Go.Op.binOp Go.BinOp.add 22 (Go.Operand.tmp 62) (Go.Operand.tmp 64) 22, type := 22, pos := "more.go:40", after := #[{ on := 14, ground := Go.Ground.data }, { on := 16, ground := Go.Ground.data }], guard := none }) (v := ?vt19) rfl (by kernel_rfl) (by kernel_rfl) (by kernel_rfl) (fun _ _ _ h => h) (Or.inl ⟨by rfl, ?hyt19⟩) (by assumption) ?restt19
              case hyt19 => (intro w hSw; (try dsimp only at hSw); go_simp; try (with_reducible rfl))
              simp only [Act.put, List.setIfInBounds_toArray, List.set_cons_zero, List.set_cons_succ]
              refine wpAnyH_ready (rs := [20]) (by kernel_rfl) (by simp) ?_
              refine AllReadyH.cons (o := { dst := some 68, op := Go.Op.load 22 (Go.Operand.tmp 67), type := 22, pos := "more.go:40", after := #[{ on := 19, ground := Go.Ground.data }], guard := none }) rfl (fun K hK => ?_) AllReadyH.nil
              · go_simp
                refine hK.out _ _ hH0 (fun _ => ?_)
                clear hK K
                simp only [List.setIfInBounds_toArray, List.set_cons_zero, List.set_cons_succ]
                refine wpAnyH_take (i := 23) (oi := { dst := some 71, op := Go.Op.binOp Go.BinOp.add 22 (Go.Operand.tmp 68) (Go.Operand.tmp 70) 22, type := 22, pos := "more.go:40", after := #[{ on := 20, ground := Go.Ground.data }, { on := 22, ground := Go.Ground.data }], guard := none }) (v := ?vt20) rfl (by kernel_rfl) (by kernel_rfl) (by kernel_rfl) (fun _ _ _ h => h) (Or.inl ⟨by rfl, ?hyt20⟩) (by assumption) ?restt20
                case hyt20 => (intro w hSw; (try dsimp only at hSw); go_simp; try (with_reducible rfl))
                simp only [Act.put, List.setIfInBounds_toArray, List.set_cons_zero, List.set_cons_succ]
                exact tailA
            · go_simp
              refine hK.out _ _ hH0 (fun _ => ?_)
              clear hK K
              simp only [List.setIfInBounds_toArray, List.set_cons_zero, List.set_cons_succ]
              refine wpAnyH_take (i := 23) (oi := { dst := some 71, op := Go.Op.binOp Go.BinOp.add 22 (Go.Operand.tmp 68) (Go.Operand.tmp 70) 22, type := 22, pos := "more.go:40", after := #[{ on := 20, ground := Go.Ground.data }, { on := 22, ground := Go.Ground.data }], guard := none }) (v := ?vt21) rfl (by kernel_rfl) (by kernel_rfl) (by kernel_rfl) (fun _ _ _ h => h) (Or.inl ⟨by rfl, ?hyt21⟩) (by assumption) ?restt21
              case hyt21 => (intro w hSw; (try dsimp only at hSw); go_simp; try (with_reducible rfl))
              simp only [Act.put, List.setIfInBounds_toArray, List.set_cons_zero, List.set_cons_succ]
              exact tailB
          · go_simp
            refine hK.out _ _ hH0 (fun _ => ?_)
            clear hK K
            simp only [List.setIfInBounds_toArray, List.set_cons_zero, List.set_cons_succ]
            refine wpAnyH_take (i := 17) (oi := { dst := some 65, op := Go.Op.binOp Go.BinOp.add 22 (Go.Operand.tmp 62) (Go.Operand.tmp 64) 22, type := 22, pos := "more.go:40", after := #[{ on := 14, ground := Go.Ground.data }, { on := 16, ground := Go.Ground.data }], guard := none }) (v := ?vt22) rfl (by kernel_rfl) (by kernel_rfl) (by kernel_rfl) (fun _ _ _ h => h) (Or.inl ⟨by rfl, ?hyt22⟩) (by assumption) ?restt22
            case hyt22 => (intro w hSw; (try dsimp only at hSw); go_simp; try (with_reducible rfl))
            simp only [Act.put, List.setIfInBounds_toArray, List.set_cons_zero, List.set_cons_succ]
            refine wpAnyH_ready (rs := [8, 20]) (by kernel_rfl) (by simp) ?_
            refine AllReadyH.cons (o := { dst := some 56, op := Go.Op.load 22 (Go.Operand.tmp 55), type := 22, pos := "more.go:40", after := #[{ on := 7, ground := Go.Ground.data }], guard := none }) rfl (fun K hK => ?_) (AllReadyH.cons (o := { dst := some 68, op := Go.Op.load 22 (Go.Operand.tmp 67), type := 22, pos := "more.go:40", after := #[{ on := 19, ground := Go.Ground.data }], guard := none }) rfl (fun K hK => ?_) AllReadyH.nil)
            · go_simp
              refine hK.out _ _ hH0 (fun _ => ?_)
              clear hK K
              simp only [List.setIfInBounds_toArray, List.set_cons_zero, List.set_cons_succ]
              refine wpAnyH_take (i := 11) (oi := { dst := some 59, op := Go.Op.binOp Go.BinOp.add 22 (Go.Operand.tmp 56) (Go.Operand.tmp 58) 22, type := 22, pos := "more.go:40", after := #[{ on := 8, ground := Go.Ground.data }, { on := 10, ground := Go.Ground.data }], guard := none }) (v := ?vt23) rfl (by kernel_rfl) (by kernel_rfl) (by kernel_rfl) (fun _ _ _ h => h) (Or.inl ⟨by rfl, ?hyt23⟩) (by assumption) ?restt23
              case hyt23 => (intro w hSw; (try dsimp only at hSw); go_simp; try (with_reducible rfl))
              simp only [Act.put, List.setIfInBounds_toArray, List.set_cons_zero, List.set_cons_succ]
              refine wpAnyH_ready (rs := [20]) (by kernel_rfl) (by simp) ?_
              refine AllReadyH.cons (o := { dst := some 68, op := Go.Op.load 22 (Go.Operand.tmp 67), type := 22, pos := "more.go:40", after := #[{ on := 19, ground := Go.Ground.data }], guard := none }) rfl (fun K hK => ?_) AllReadyH.nil
              · go_simp
                refine hK.out _ _ hH0 (fun _ => ?_)
                clear hK K
                simp only [List.setIfInBounds_toArray, List.set_cons_zero, List.set_cons_succ]
                refine wpAnyH_take (i := 23) (oi := { dst := some 71, op := Go.Op.binOp Go.BinOp.add 22 (Go.Operand.tmp 68) (Go.Operand.tmp 70) 22, type := 22, pos := "more.go:40", after := #[{ on := 20, ground := Go.Ground.data }, { on := 22, ground := Go.Ground.data }], guard := none }) (v := ?vt24) rfl (by kernel_rfl) (by kernel_rfl) (by kernel_rfl) (fun _ _ _ h => h) (Or.inl ⟨by rfl, ?hyt24⟩) (by assumption) ?restt24
                case hyt24 => (intro w hSw; (try dsimp only at hSw); go_simp; try (with_reducible rfl))
                simp only [Act.put, List.setIfInBounds_toArray, List.set_cons_zero, List.set_cons_succ]
                exact tailA
            · go_simp
              refine hK.out _ _ hH0 (fun _ => ?_)
              clear hK K
              simp only [List.setIfInBounds_toArray, List.set_cons_zero, List.set_cons_succ]
              refine wpAnyH_take (i := 23) (oi := { dst := some 71, op := Go.Op.binOp Go.BinOp.add 22 (Go.Operand.tmp 68) (Go.Operand.tmp 70) 22, type := 22, pos := "more.go:40", after := #[{ on := 20, ground := Go.Ground.data }, { on := 22, ground := Go.Ground.data }], guard := none }) (v := ?vt25) rfl (by kernel_rfl) (by kernel_rfl) (by kernel_rfl) (fun _ _ _ h => h) (Or.inl ⟨by rfl, ?hyt25⟩) (by assumption) ?restt25
              case hyt25 => (intro w hSw; (try dsimp only at hSw); go_simp; try (with_reducible rfl))
              simp only [Act.put, List.setIfInBounds_toArray, List.set_cons_zero, List.set_cons_succ]
              refine wpAnyH_ready (rs := [8]) (by kernel_rfl) (by simp) ?_
              refine AllReadyH.cons (o := { dst := some 56, op := Go.Op.load 22 (Go.Operand.tmp 55), type := 22, pos := "more.go:40", after := #[{ on := 7, ground := Go.Ground.data }], guard := none }) rfl (fun K hK => ?_) AllReadyH.nil
              · go_simp
                refine hK.out _ _ hH0 (fun _ => ?_)
                clear hK K
                simp only [List.setIfInBounds_toArray, List.set_cons_zero, List.set_cons_succ]
                refine wpAnyH_take (i := 11) (oi := { dst := some 59, op := Go.Op.binOp Go.BinOp.add 22 (Go.Operand.tmp 56) (Go.Operand.tmp 58) 22, type := 22, pos := "more.go:40", after := #[{ on := 8, ground := Go.Ground.data }, { on := 10, ground := Go.Ground.data }], guard := none }) (v := ?vt26) rfl (by kernel_rfl) (by kernel_rfl) (by kernel_rfl) (fun _ _ _ h => h) (Or.inl ⟨by rfl, ?hyt26⟩) (by assumption) ?restt26
                case hyt26 => (intro w hSw; (try dsimp only at hSw); go_simp; try (with_reducible rfl))
                simp only [Act.put, List.setIfInBounds_toArray, List.set_cons_zero, List.set_cons_succ]
                exact tailA
          · go_simp
            refine hK.out _ _ hH0 (fun _ => ?_)
            clear hK K
            simp only [List.setIfInBounds_toArray, List.set_cons_zero, List.set_cons_succ]
            refine wpAnyH_take (i := 23) (oi := { dst := some 71, op := Go.Op.binOp Go.BinOp.add 22 (Go.Operand.tmp 68) (Go.Operand.tmp 70) 22, type := 22, pos := "more.go:40", after := #[{ on := 20, ground := Go.Ground.data }, { on := 22, ground := Go.Ground.data }], guard := none }) (v := ?vt27) rfl (by kernel_rfl) (by kernel_rfl) (by kernel_rfl) (fun _ _ _ h => h) (Or.inl ⟨by rfl, ?hyt27⟩) (by assumption) ?restt27
            case hyt27 => (intro w hSw; (try dsimp only at hSw); go_simp; try (with_reducible rfl))
            simp only [Act.put, List.setIfInBounds_toArray, List.set_cons_zero, List.set_cons_succ]
            refine wpAnyH_ready (rs := [8, 14]) (by kernel_rfl) (by simp) ?_
            refine AllReadyH.cons (o := { dst := some 56, op := Go.Op.load 22 (Go.Operand.tmp 55), type := 22, pos := "more.go:40", after := #[{ on := 7, ground := Go.Ground.data }], guard := none }) rfl (fun K hK => ?_) (AllReadyH.cons (o := { dst := some 62, op := Go.Op.load 22 (Go.Operand.tmp 61), type := 22, pos := "more.go:40", after := #[{ on := 13, ground := Go.Ground.data }], guard := none }) rfl (fun K hK => ?_) AllReadyH.nil)
            · go_simp
              refine hK.out _ _ hH0 (fun _ => ?_)
              clear hK K
              simp only [List.setIfInBounds_toArray, List.set_cons_zero, List.set_cons_succ]
              refine wpAnyH_take (i := 11) (oi := { dst := some 59, op := Go.Op.binOp Go.BinOp.add 22 (Go.Operand.tmp 56) (Go.Operand.tmp 58) 22, type := 22, pos := "more.go:40", after := #[{ on := 8, ground := Go.Ground.data }, { on := 10, ground := Go.Ground.data }], guard := none }) (v := ?vt28) rfl (by kernel_rfl) (by kernel_rfl) (by kernel_rfl) (fun _ _ _ h => h) (Or.inl ⟨by rfl, ?hyt28⟩) (by assumption) ?restt28
              case hyt28 => (intro w hSw; (try dsimp only at hSw); go_simp; try (with_reducible rfl))
              simp only [Act.put, List.setIfInBounds_toArray, List.set_cons_zero, List.set_cons_succ]
              exact tailB
            · go_simp
              refine hK.out _ _ hH0 (fun _ => ?_)
              clear hK K
              simp only [List.setIfInBounds_toArray, List.set_cons_zero, List.set_cons_succ]
              refine wpAnyH_take (i := 17) (oi := { dst := some 65, op := Go.Op.binOp Go.BinOp.add 22 (Go.Operand.tmp 62) (Go.Operand.tmp 64) 22, type := 22, pos := "more.go:40", after := #[{ on := 14, ground := Go.Ground.data }, { on := 16, ground := Go.Ground.data }], guard := none }) (v := ?vt29) rfl (by kernel_rfl) (by kernel_rfl) (by kernel_rfl) (fun _ _ _ h => h) (Or.inl ⟨by rfl, ?hyt29⟩) (by assumption) ?restt29
              case hyt29 => (intro w hSw; (try dsimp only at hSw); go_simp; try (with_reducible rfl))
              simp only [Act.put, List.setIfInBounds_toArray, List.set_cons_zero, List.set_cons_succ]
              refine wpAnyH_ready (rs := [8]) (by kernel_rfl) (by simp) ?_
              refine AllReadyH.cons (o := { dst := some 56, op := Go.Op.load 22 (Go.Operand.tmp 55), type := 22, pos := "more.go:40", after := #[{ on := 7, ground := Go.Ground.data }], guard := none }) rfl (fun K hK => ?_) AllReadyH.nil
              · go_simp
                refine hK.out _ _ hH0 (fun _ => ?_)
                clear hK K
                simp only [List.setIfInBounds_toArray, List.set_cons_zero, List.set_cons_succ]
                refine wpAnyH_take (i := 11) (oi := { dst := some 59, op := Go.Op.binOp Go.BinOp.add 22 (Go.Operand.tmp 56) (Go.Operand.tmp 58) 22, type := 22, pos := "more.go:40", after := #[{ on := 8, ground := Go.Ground.data }, { on := 10, ground := Go.Ground.data }], guard := none }) (v := ?vt30) rfl (by kernel_rfl) (by kernel_rfl) (by kernel_rfl) (fun _ _ _ h => h) (Or.inl ⟨by rfl, ?hyt30⟩) (by assumption) ?restt30
                case hyt30 => (intro w hSw; (try dsimp only at hSw); go_simp; try (with_reducible rfl))
                simp only [Act.put, List.setIfInBounds_toArray, List.set_cons_zero, List.set_cons_succ]
                exact tailA
        · go_simp
          refine hK.out _ _ hH0 (fun _ => ?_)
          clear hK K
          simp only [List.setIfInBounds_toArray, List.set_cons_zero, List.set_cons_succ]
          refine wpAnyH_take (i := 11) (oi := { dst := some 59, op := Go.Op.binOp Go.BinOp.add 22 (Go.Operand.tmp 56) (Go.Operand.tmp 58) 22, type := 22, pos := "more.go:40", after := #[{ on := 8, ground := Go.Ground.data }, { on := 10, ground := Go.Ground.data }], guard := none }) (v := ?vt31) rfl (by kernel_rfl) (by kernel_rfl) (by kernel_rfl) (fun _ _ _ h => h) (Or.inl ⟨by rfl, ?hyt31⟩) (by assumption) ?restt31
          case hyt31 => (intro w hSw; (try dsimp only at hSw); go_simp; try (with_reducible rfl))
          simp only [Act.put, List.setIfInBounds_toArray, List.set_cons_zero, List.set_cons_succ]
          refine wpAnyH_ready (rs := [2, 14, 20]) (by kernel_rfl) (by simp) ?_
          refine AllReadyH.cons (o := { dst := some 50, op := Go.Op.load 22 (Go.Operand.tmp 49), type := 22, pos := "more.go:40", after := #[{ on := 1, ground := Go.Ground.data }], guard := none }) rfl (fun K hK => ?_) (AllReadyH.cons (o := { dst := some 62, op := Go.Op.load 22 (Go.Operand.tmp 61), type := 22, pos := "more.go:40", after := #[{ on := 13, ground := Go.Ground.data }], guard := none }) rfl (fun K hK => ?_) (AllReadyH.cons (o := { dst := some 68, op := Go.Op.load 22 (Go.Operand.tmp 67), type := 22, pos := "more.go:40", after := #[{ on := 19, ground := Go.Ground.data }], guard := none }) rfl (fun K hK => ?_) AllReadyH.nil))
          · go_simp
            refine hK.out _ _ hH0 (fun _ => ?_)
            clear hK K
            simp only [List.setIfInBounds_toArray, List.set_cons_zero, List.set_cons_succ]
            refine wpAnyH_take (i := 5) (oi := { dst := some 53, op := Go.Op.binOp Go.BinOp.add 22 (Go.Operand.tmp 50) (Go.Operand.tmp 52) 22, type := 22, pos := "more.go:40", after := #[{ on := 2, ground := Go.Ground.data }, { on := 4, ground := Go.Ground.data }], guard := none }) (v := ?vt32) rfl (by kernel_rfl) (by kernel_rfl) (by kernel_rfl) (fun _ _ _ h => h) (Or.inl ⟨by rfl, ?hyt32⟩) (by assumption) ?restt32
            case hyt32 => (intro w hSw; (try dsimp only at hSw); go_simp; try (with_reducible rfl))
            simp only [Act.put, List.setIfInBounds_toArray, List.set_cons_zero, List.set_cons_succ]
            refine wpAnyH_ready (rs := [14, 20]) (by kernel_rfl) (by simp) ?_
            refine AllReadyH.cons (o := { dst := some 62, op := Go.Op.load 22 (Go.Operand.tmp 61), type := 22, pos := "more.go:40", after := #[{ on := 13, ground := Go.Ground.data }], guard := none }) rfl (fun K hK => ?_) (AllReadyH.cons (o := { dst := some 68, op := Go.Op.load 22 (Go.Operand.tmp 67), type := 22, pos := "more.go:40", after := #[{ on := 19, ground := Go.Ground.data }], guard := none }) rfl (fun K hK => ?_) AllReadyH.nil)
            · go_simp
              refine hK.out _ _ hH0 (fun _ => ?_)
              clear hK K
              simp only [List.setIfInBounds_toArray, List.set_cons_zero, List.set_cons_succ]
              refine wpAnyH_take (i := 17) (oi := { dst := some 65, op := Go.Op.binOp Go.BinOp.add 22 (Go.Operand.tmp 62) (Go.Operand.tmp 64) 22, type := 22, pos := "more.go:40", after := #[{ on := 14, ground := Go.Ground.data }, { on := 16, ground := Go.Ground.data }], guard := none }) (v := ?vt33) rfl (by kernel_rfl) (by kernel_rfl) (by kernel_rfl) (fun _ _ _ h => h) (Or.inl ⟨by rfl, ?hyt33⟩) (by assumption) ?restt33
              case hyt33 => (intro w hSw; (try dsimp only at hSw); go_simp; try (with_reducible rfl))
              simp only [Act.put, List.setIfInBounds_toArray, List.set_cons_zero, List.set_cons_succ]
              refine wpAnyH_ready (rs := [20]) (by kernel_rfl) (by simp) ?_
              refine AllReadyH.cons (o := { dst := some 68, op := Go.Op.load 22 (Go.Operand.tmp 67), type := 22, pos := "more.go:40", after := #[{ on := 19, ground := Go.Ground.data }], guard := none }) rfl (fun K hK => ?_) AllReadyH.nil
              · go_simp
                refine hK.out _ _ hH0 (fun _ => ?_)
                clear hK K
                simp only [List.setIfInBounds_toArray, List.set_cons_zero, List.set_cons_succ]
                refine wpAnyH_take (i := 23) (oi := { dst := some 71, op := Go.Op.binOp Go.BinOp.add 22 (Go.Operand.tmp 68) (Go.Operand.tmp 70) 22, type := 22, pos := "more.go:40", after := #[{ on := 20, ground := Go.Ground.data }, { on := 22, ground := Go.Ground.data }], guard := none }) (v := ?vt34) rfl (by kernel_rfl) (by kernel_rfl) (by kernel_rfl) (fun _ _ _ h => h) (Or.inl ⟨by rfl, ?hyt34⟩) (by assumption) ?restt34
                case hyt34 => (intro w hSw; (try dsimp only at hSw); go_simp; try (with_reducible rfl))
                simp only [Act.put, List.setIfInBounds_toArray, List.set_cons_zero, List.set_cons_succ]
                exact tailA
            · go_simp
              refine hK.out _ _ hH0 (fun _ => ?_)
              clear hK K
              simp only [List.setIfInBounds_toArray, List.set_cons_zero, List.set_cons_succ]
              refine wpAnyH_take (i := 23) (oi := { dst := some 71, op := Go.Op.binOp Go.BinOp.add 22 (Go.Operand.tmp 68) (Go.Operand.tmp 70) 22, type := 22, pos := "more.go:40", after := #[{ on := 20, ground := Go.Ground.data }, { on := 22, ground := Go.Ground.data }], guard := none }) (v := ?vt35) rfl (by kernel_rfl) (by kernel_rfl) (by kernel_rfl) (fun _ _ _ h => h) (Or.inl ⟨by rfl, ?hyt35⟩) (by assumption) ?restt35
              case hyt35 => (intro w hSw; (try dsimp only at hSw); go_simp; try (with_reducible rfl))
              simp only [Act.put, List.setIfInBounds_toArray, List.set_cons_zero, List.set_cons_succ]
              exact tailB
          · go_simp
            refine hK.out _ _ hH0 (fun _ => ?_)
            clear hK K
            simp only [List.setIfInBounds_toArray, List.set_cons_zero, List.set_cons_succ]
            refine wpAnyH_take (i := 17) (oi := { dst := some 65, op := Go.Op.binOp Go.BinOp.add 22 (Go.Operand.tmp 62) (Go.Operand.tmp 64) 22, type := 22, pos := "more.go:40", after := #[{ on := 14, ground := Go.Ground.data }, { on := 16, ground := Go.Ground.data }], guard := none }) (v := ?vt36) rfl (by kernel_rfl) (by kernel_rfl) (by kernel_rfl) (fun _ _ _ h => h) (Or.inl ⟨by rfl, ?hyt36⟩) (by assumption) ?restt36
            case hyt36 => (intro w hSw; (try dsimp only at hSw); go_simp; try (with_reducible rfl))
            simp only [Act.put, List.setIfInBounds_toArray, List.set_cons_zero, List.set_cons_succ]
            refine wpAnyH_ready (rs := [2, 20]) (by kernel_rfl) (by simp) ?_
            refine AllReadyH.cons (o := { dst := some 50, op := Go.Op.load 22 (Go.Operand.tmp 49), type := 22, pos := "more.go:40", after := #[{ on := 1, ground := Go.Ground.data }], guard := none }) rfl (fun K hK => ?_) (AllReadyH.cons (o := { dst := some 68, op := Go.Op.load 22 (Go.Operand.tmp 67), type := 22, pos := "more.go:40", after := #[{ on := 19, ground := Go.Ground.data }], guard := none }) rfl (fun K hK => ?_) AllReadyH.nil)
            · go_simp
              refine hK.out _ _ hH0 (fun _ => ?_)
              clear hK K
              simp only [List.setIfInBounds_toArray, List.set_cons_zero, List.set_cons_succ]
              refine wpAnyH_take (i := 5) (oi := { dst := some 53, op := Go.Op.binOp Go.BinOp.add 22 (Go.Operand.tmp 50) (Go.Operand.tmp 52) 22, type := 22, pos := "more.go:40", after := #[{ on := 2, ground := Go.Ground.data }, { on := 4, ground := Go.Ground.data }], guard := none }) (v := ?vt37) rfl (by kernel_rfl) (by kernel_rfl) (by kernel_rfl) (fun _ _ _ h => h) (Or.inl ⟨by rfl, ?hyt37⟩) (by assumption) ?restt37
              case hyt37 => (intro w hSw; (try dsimp only at hSw); go_simp; try (with_reducible rfl))
              simp only [Act.put, List.setIfInBounds_toArray, List.set_cons_zero, List.set_cons_succ]
              refine wpAnyH_ready (rs := [20]) (by kernel_rfl) (by simp) ?_
              refine AllReadyH.cons (o := { dst := some 68, op := Go.Op.load 22 (Go.Operand.tmp 67), type := 22, pos := "more.go:40", after := #[{ on := 19, ground := Go.Ground.data }], guard := none }) rfl (fun K hK => ?_) AllReadyH.nil
              · go_simp
                refine hK.out _ _ hH0 (fun _ => ?_)
                clear hK K
                simp only [List.setIfInBounds_toArray, List.set_cons_zero, List.set_cons_succ]
                refine wpAnyH_take (i := 23) (oi := { dst := some 71, op := Go.Op.binOp Go.BinOp.add 22 (Go.Operand.tmp 68) (Go.Operand.tmp 70) 22, type := 22, pos := "more.go:40", after := #[{ on := 20, ground := Go.Ground.data }, { on := 22, ground := Go.Ground.data }], guard := none }) (v := ?vt38) rfl (by kernel_rfl) (by kernel_rfl) (by kernel_rfl) (fun _ _ _ h => h) (Or.inl ⟨by rfl, ?hyt38⟩) (by assumption) ?restt38
                case hyt38 => (intro w hSw; (try dsimp only at hSw); go_simp; try (with_reducible rfl))
                simp only [Act.put, List.setIfInBounds_toArray, List.set_cons_zero, List.set_cons_succ]
                exact tailA
            · go_simp
              refine hK.out _ _ hH0 (fun _ => ?_)
              clear hK K
              simp only [List.setIfInBounds_toArray, List.set_cons_zero, List.set_cons_succ]
              refine wpAnyH_take (i := 23) (oi := { dst := some 71, op := Go.Op.binOp Go.BinOp.add 22 (Go.Operand.tmp 68) (Go.Operand.tmp 70) 22, type := 22, pos := "more.go:40", after := #[{ on := 20, ground := Go.Ground.data }, { on := 22, ground := Go.Ground.data }], guard := none }) (v := ?vt39) rfl (by kernel_rfl) (by kernel_rfl) (by kernel_rfl) (fun _ _ _ h => h) (Or.inl ⟨by rfl, ?hyt39⟩) (by assumption) ?restt39
              case hyt39 => (intro w hSw; (try dsimp only at hSw); go_simp; try (with_reducible rfl))
              simp only [Act.put, List.setIfInBounds_toArray, List.set_cons_zero, List.set_cons_succ]
              refine wpAnyH_ready (rs := [2]) (by kernel_rfl) (by simp) ?_
              refine AllReadyH.cons (o := { dst := some 50, op := Go.Op.load 22 (Go.Operand.tmp 49), type := 22, pos := "more.go:40", after := #[{ on := 1, ground := Go.Ground.data }], guard := none }) rfl (fun K hK => ?_) AllReadyH.nil
              · go_simp
                refine hK.out _ _ hH0 (fun _ => ?_)
                clear hK K
                simp only [List.setIfInBounds_toArray, List.set_cons_zero, List.set_cons_succ]
                refine wpAnyH_take (i := 5) (oi := { dst := some 53, op := Go.Op.binOp Go.BinOp.add 22 (Go.Operand.tmp 50) (Go.Operand.tmp 52) 22, type := 22, pos := "more.go:40", after := #[{ on := 2, ground := Go.Ground.data }, { on := 4, ground := Go.Ground.data }], guard := none }) (v := ?vt40) rfl (by kernel_rfl) (by kernel_rfl) (by kernel_rfl) (fun _ _ _ h => h) (Or.inl ⟨by rfl, ?hyt40⟩) (by assumption) ?restt40
                case hyt40 => (intro w hSw; (try dsimp only at hSw); go_simp; try (with_reducible rfl))
                simp only [Act.put, List.setIfInBounds_toArray, List.set_cons_zero, List.set_cons_succ]
                exact tailA
          · go_simp
            refine hK.out _ _ hH0 (fun _ => ?_)
            clear hK K
            simp only [List.setIfInBounds_toArray, List.set_cons_zero, List.set_cons_succ]
            refine wpAnyH_take (i := 23) (oi := { dst := some 71, op := Go.Op.binOp Go.BinOp.add 22 (Go.Operand.tmp 68) (Go.Operand.tmp 70) 22, type := 22, pos := "more.go:40", after := #[{ on := 20, ground := Go.Ground.data }, { on := 22, ground := Go.Ground.data }], guard := none }) (v := ?vt41) rfl (by kernel_rfl) (by kernel_rfl) (by kernel_rfl) (fun _ _ _ h => h) (Or.inl ⟨by rfl, ?hyt41⟩) (by assumption) ?restt41
            case hyt41 => (intro w hSw; (try dsimp only at hSw); go_simp; try (with_reducible rfl))
            simp only [Act.put, List.setIfInBounds_toArray, List.set_cons_zero, List.set_cons_succ]
            refine wpAnyH_ready (rs := [2, 14]) (by kernel_rfl) (by simp) ?_
            refine AllReadyH.cons (o := { dst := some 50, op := Go.Op.load 22 (Go.Operand.tmp 49), type := 22, pos := "more.go:40", after := #[{ on := 1, ground := Go.Ground.data }], guard := none }) rfl (fun K hK => ?_) (AllReadyH.cons (o := { dst := some 62, op := Go.Op.load 22 (Go.Operand.tmp 61), type := 22, pos := "more.go:40", after := #[{ on := 13, ground := Go.Ground.data }], guard := none }) rfl (fun K hK => ?_) AllReadyH.nil)
            · go_simp
              refine hK.out _ _ hH0 (fun _ => ?_)
              clear hK K
              simp only [List.setIfInBounds_toArray, List.set_cons_zero, List.set_cons_succ]
              refine wpAnyH_take (i := 5) (oi := { dst := some 53, op := Go.Op.binOp Go.BinOp.add 22 (Go.Operand.tmp 50) (Go.Operand.tmp 52) 22, type := 22, pos := "more.go:40", after := #[{ on := 2, ground := Go.Ground.data }, { on := 4, ground := Go.Ground.data }], guard := none }) (v := ?vt42) rfl (by kernel_rfl) (by kernel_rfl) (by kernel_rfl) (fun _ _ _ h => h) (Or.inl ⟨by rfl, ?hyt42⟩) (by assumption) ?restt42
              case hyt42 => (intro w hSw; (try dsimp only at hSw); go_simp; try (with_reducible rfl))
              simp only [Act.put, List.setIfInBounds_toArray, List.set_cons_zero, List.set_cons_succ]
              exact tailB
            · go_simp
              refine hK.out _ _ hH0 (fun _ => ?_)
              clear hK K
              simp only [List.setIfInBounds_toArray, List.set_cons_zero, List.set_cons_succ]
              refine wpAnyH_take (i := 17) (oi := { dst := some 65, op := Go.Op.binOp Go.BinOp.add 22 (Go.Operand.tmp 62) (Go.Operand.tmp 64) 22, type := 22, pos := "more.go:40", after := #[{ on := 14, ground := Go.Ground.data }, { on := 16, ground := Go.Ground.data }], guard := none }) (v := ?vt43) rfl (by kernel_rfl) (by kernel_rfl) (by kernel_rfl) (fun _ _ _ h => h) (Or.inl ⟨by rfl, ?hyt43⟩) (by assumption) ?restt43
              case hyt43 => (intro w hSw; (try dsimp only at hSw); go_simp; try (with_reducible rfl))
              simp only [Act.put, List.setIfInBounds_toArray, List.set_cons_zero, List.set_cons_succ]
              refine wpAnyH_ready (rs := [2]) (by kernel_rfl) (by simp) ?_
              refine AllReadyH.cons (o := { dst := some 50, op := Go.Op.load 22 (Go.Operand.tmp 49), type := 22, pos := "more.go:40", after := #[{ on := 1, ground := Go.Ground.data }], guard := none }) rfl (fun K hK => ?_) AllReadyH.nil
              · go_simp
                refine hK.out _ _ hH0 (fun _ => ?_)
                clear hK K
                simp only [List.setIfInBounds_toArray, List.set_cons_zero, List.set_cons_succ]
                refine wpAnyH_take (i := 5) (oi := { dst := some 53, op := Go.Op.binOp Go.BinOp.add 22 (Go.Operand.tmp 50) (Go.Operand.tmp 52) 22, type := 22, pos := "more.go:40", after := #[{ on := 2, ground := Go.Ground.data }, { on := 4, ground := Go.Ground.data }], guard := none }) (v := ?vt44) rfl (by kernel_rfl) (by kernel_rfl) (by kernel_rfl) (fun _ _ _ h => h) (Or.inl ⟨by rfl, ?hyt44⟩) (by assumption) ?restt44
                case hyt44 => (intro w hSw; (try dsimp only at hSw); go_simp; try (with_reducible rfl))
                simp only [Act.put, List.setIfInBounds_toArray, List.set_cons_zero, List.set_cons_succ]
                exact tailA
        · go_simp
          refine hK.out _ _ hH0 (fun _ => ?_)
          clear hK K
          simp only [List.setIfInBounds_toArray, List.set_cons_zero, List.set_cons_succ]
          refine wpAnyH_take (i := 17) (oi := { dst := some 65, op := Go.Op.binOp Go.BinOp.add 22 (Go.Operand.tmp 62) (Go.Operand.tmp 64) 22, type := 22, pos := "more.go:40", after := #[{ on := 14, ground := Go.Ground.data }, { on := 16, ground := Go.Ground.data }], guard := none }) (v := ?vt45) rfl (by kernel_rfl) (by kernel_rfl) (by kernel_rfl) (fun _ _ _ h => h) (Or.inl ⟨by rfl, ?hyt45⟩) (by assumption) ?restt45
          case hyt45 => (intro w hSw; (try dsimp only at hSw); go_simp; try (with_reducible rfl))
          simp only [Act.put, List.setIfInBounds_toArray, List.set_cons_zero, List.set_cons_succ]
          refine wpAnyH_ready (rs := [2, 8, 20]) (by kernel_rfl) (by simp) ?_
          refine AllReadyH.cons (o := { dst := some 50, op := Go.Op.load 22 (Go.Operand.tmp 49), type := 22, pos := "more.go:40", after := #[{ on := 1, ground := Go.Ground.data }], guard := none }) rfl (fun K hK => ?_) (AllReadyH.cons (o := { dst := some 56, op := Go.Op.load 22 (Go.Operand.tmp 55), type := 22, pos := "more.go:40", after := #[{ on := 7, ground := Go.Ground.data }], guard := none }) rfl (fun K hK => ?_) (AllReadyH.cons (o := { dst := some 68, op := Go.Op.load 22 (Go.Operand.tmp 67), type := 22, pos := "more.go:40", after := #[{ on := 19, ground := Go.Ground.data }], guard := none }) rfl (fun K hK => ?_) AllReadyH.nil))
          · go_simp
            refine hK.out _ _ hH0 (fun _ => ?_)
            clear hK K
            simp only [List.setIfInBounds_toArray, List.set_cons_zero, List.set_cons_succ]
            refine wpAnyH_take (i := 5) (oi := { dst := some 53, op := Go.Op.binOp Go.BinOp.add 22 (Go.Operand.tmp 50) (Go.Operand.tmp 52) 22, type := 22, pos := "more.go:40", after := #[{ on := 2, ground := Go.Ground.data }, { on := 4, ground := Go.Ground.data }], guard := none }) (v := ?vt46) rfl (by kernel_rfl) (by kernel_rfl) (by kernel_rfl) (fun _ _ _ h => h) (Or.inl ⟨by rfl, ?hyt46⟩) (by assumption) ?restt46
            case hyt46 => (intro w hSw; (try dsimp only at hSw); go_simp; try (with_reducible rfl))
            simp only [Act.put, List.setIfInBounds_toArray, List.set_cons_zero, List.set_cons_succ]
            refine wpAnyH_ready (rs := [8, 20]) (by kernel_rfl) (by simp) ?_
            refine AllReadyH.cons (o := { dst := some 56, op := Go.Op.load 22 (Go.Operand.tmp 55), type := 22, pos := "more.go:40", after := #[{ on := 7, ground := Go.Ground.data }], guard := none }) rfl (fun K hK => ?_) (AllReadyH.cons (o := { dst := some 68, op := Go.Op.load 22 (Go.Operand.tmp 67), type := 22, pos := "more.go:40", after := #[{ on := 19, ground := Go.Ground.data }], guard := none }) rfl (fun K hK => ?_) AllReadyH.nil)
            · go_simp
              refine hK.out _ _ hH0 (fun _ => ?_)
              clear hK K
              simp only [List.setIfInBounds_toArray, List.set_cons_zero, List.set_cons_succ]
              refine wpAnyH_take (i := 11) (oi := { dst := some 59, op := Go.Op.binOp Go.BinOp.add 22 (Go.Operand.tmp 56) (Go.Operand.tmp 58) 22, type := 22, pos := "more.go:40", after := #[{ on := 8, ground := Go.Ground.data }, { on := 10, ground := Go.Ground.data }], guard := none }) (v := ?vt47) rfl (by kernel_rfl) (by kernel_rfl) (by kernel_rfl) (fun _ _ _ h => h) (Or.inl ⟨by rfl, ?hyt47⟩) (by assumption) ?restt47
              case hyt47 => (intro w hSw; (try dsimp only at hSw); go_simp; try (with_reducible rfl))
              simp only [Act.put, List.setIfInBounds_toArray, List.set_cons_zero, List.set_cons_succ]
              refine wpAnyH_ready (rs := [20]) (by kernel_rfl) (by simp) ?_
              refine AllReadyH.cons (o := { dst := some 68, op := Go.Op.load 22 (Go.Operand.tmp 67), type := 22, pos := "more.go:40", after := #[{ on := 19, ground := Go.Ground.data }], guard := none }) rfl (fun K hK => ?_) AllReadyH.nil
              · go_simp
                refine hK.out _ _ hH0 (fun _ => ?_)
                clear hK K
                simp only [List.setIfInBounds_toArray, List.set_cons_zero, List.set_cons_succ]
                refine wpAnyH_take (i := 23) (oi := { dst := some 71, op := Go.Op.binOp Go.BinOp.add 22 (Go.Operand.tmp 68) (Go.Operand.tmp 70) 22, type := 22, pos := "more.go:40", after := #[{ on := 20, ground := Go.Ground.data }, { on := 22, ground := Go.Ground.data }], guard := none }) (v := ?vt48) rfl (by kernel_rfl) (by kernel_rfl) (by kernel_rfl) (fun _ _ _ h => h) (Or.inl ⟨by rfl, ?hyt48⟩) (by assumption) ?restt48
                case hyt48 => (intro w hSw; (try dsimp only at hSw); go_simp; try (with_reducible rfl))
                simp only [Act.put, List.setIfInBounds_toArray, List.set_cons_zero, List.set_cons_succ]
                exact tailA
            · go_simp
              refine hK.out _ _ hH0 (fun _ => ?_)
              clear hK K
              simp only [List.setIfInBounds_toArray, List.set_cons_zero, List.set_cons_succ]
              refine wpAnyH_take (i := 23) (oi := { dst := some 71, op := Go.Op.binOp Go.BinOp.add 22 (Go.Operand.tmp 68) (Go.Operand.tmp 70) 22, type := 22, pos := "more.go:40", after := #[{ on := 20, ground := Go.Ground.data }, { on := 22, ground := Go.Ground.data }], guard := none }) (v := ?vt49) rfl (by kernel_rfl) (by kernel_rfl) (by kernel_rfl) (fun _ _ _ h => h) (Or.inl ⟨by rfl, ?hyt49⟩) (by assumption) ?restt49
              case hyt49 => (intro w hSw; (try dsimp only at hSw); go_simp; try (with_reducible rfl))
              simp only [Act.put, List.setIfInBounds_toArray, List.set_cons_zero, List.set_cons_succ]
              refine wpAnyH_ready (rs := [8]) (by kernel_rfl) (by simp) ?_
              refine AllReadyH.cons (o := { dst := some 56, op := Go.Op.load 22 (Go.Operand.tmp 55), type := 22, pos := "more.go:40", after := #[{ on := 7, ground := Go.Ground.data }], guard := none }) rfl (fun K hK => ?_) AllReadyH.nil
              · go_simp
                refine hK.out _ _ hH0 (fun _ => ?_)
                clear hK K
                simp only [List.setIfInBounds_toArray, List.set_cons_zero, List.set_cons_succ]
                refine wpAnyH_take (i := 11) (oi := { dst := some 59, op := Go.Op.binOp Go.BinOp.add 22 (Go.Operand.tmp 56) (Go.Operand.tmp 58) 22, type := 22, pos := "more.go:40", after := #[{ on := 8, ground := Go.Ground.data }, { on := 10, ground := Go.Ground.data }], guard := none }) (v := ?vt50) rfl (by kernel_rfl) (by kernel_rfl) (by kernel_rfl) (fun _ _ _ h => h) (Or.inl ⟨by rfl, ?hyt50⟩) (by assumption) ?restt50
                case hyt50 => (intro w hSw; (try dsimp only at hSw); go_simp; try (with_reducible rfl))
                simp only [Act.put, List.setIfInBounds_toArray, List.set_cons_zero, List.set_cons_succ]
                exact tailA
          · go_simp
            refine hK.out _ _ hH0 (fun _ => ?_)
            clear hK K
            simp only [List.setIfInBounds_toArray, List.set_cons_zero, List.set_cons_succ]
            refine wpAnyH_take (i := 11) (oi := { dst := some 59, op := Go.Op.binOp Go.BinOp.add 22 (Go.Operand.tmp 56) (Go.Operand.tmp 58) 22, type := 22, pos := "more.go:40", after := #[{ on := 8, ground := Go.Ground.data }, { on := 10, ground := Go.Ground.data }], guard := none }) (v := ?vt51) rfl (by kernel_rfl) (by kernel_rfl) (by kernel_rfl) (fun _ _ _ h => h) (Or.inl ⟨by rfl, ?hyt51⟩) (by assumption) ?restt51
            case hyt51 => (intro w hSw; (try dsimp only at hSw); go_simp; try (with_reducible rfl))
            simp only [Act.put, List.setIfInBounds_toArray, List.set_cons_zero, List.set_cons_succ]
            refine wpAnyH_ready (rs := [2, 20]) (by kernel_rfl) (by simp) ?_
            refine AllReadyH.cons (o := { dst := some 50, op := Go.Op.load 22 (Go.Operand.tmp 49), type := 22, pos := "more.go:40", after := #[{ on := 1, ground := Go.Ground.data }], guard := none }) rfl (fun K hK => ?_) (AllReadyH.cons (o := { dst := some 68, op := Go.Op.load 22 (Go.Operand.tmp 67), type := 22, pos := "more.go:40", after := #[{ on := 19, ground := Go.Ground.data }], guard := none }) rfl (fun K hK => ?_) AllReadyH.nil)
            · go_simp
              refine hK.out _ _ hH0 (fun _ => ?_)
              clear hK K
              simp only [List.setIfInBounds_toArray, List.set_cons_zero, List.set_cons_succ]
              refine wpAnyH_take (i := 5) (oi := { dst := some 53, op := Go.Op.binOp Go.BinOp.add 22 (Go.Operand.tmp 50) (Go.Operand.tmp 52) 22, type := 22, pos := "more.go:40", after := #[{ on := 2, ground := Go.Ground.data }, { on := 4, ground := Go.Ground.data }], guard := none }) (v := ?vt52) rfl (by kernel_rfl) (by kernel_rfl) (by kernel_rfl) (fun _ _ _ h => h) (Or.inl ⟨by rfl, ?hyt52⟩) (by assumption) ?restt52
              case hyt52 => (intro w hSw; (try dsimp only at hSw); go_simp; try (with_reducible rfl))
              simp only [Act.put, List.setIfInBounds_toArray, List.set_cons_zero, List.set_cons_succ]
              refine wpAnyH_ready (rs := [20]) (by kernel_rfl) (by simp) ?_
              refine AllReadyH.cons (o := { dst := some 68, op := Go.Op.load 22 (Go.Operand.tmp 67), type := 22, pos := "more.go:40", after := #[{ on := 19, ground := Go.Ground.data }], guard := none }) rfl (fun K hK => ?_) AllReadyH.nil
              · go_simp
                refine hK.out _ _ hH0 (fun _ => ?_)
                clear hK K
                simp only [List.setIfInBounds_toArray, List.set_cons_zero, List.set_cons_succ]
                refine wpAnyH_take (i := 23) (oi := { dst := some 71, op := Go.Op.binOp Go.BinOp.add 22 (Go.Operand.tmp 68) (Go.Operand.tmp 70) 22, type := 22, pos := "more.go:40", after := #[{ on := 20, ground := Go.Ground.data }, { on := 22, ground := Go.Ground.data }], guard := none }) (v := ?vt53) rfl (by kernel_rfl) (by kernel_rfl) (by kernel_rfl) (fun _ _ _ h => h) (Or.inl ⟨by rfl, ?hyt53⟩) (by assumption) ?restt53
                case hyt53 => (intro w hSw; (try dsimp only at hSw); go_simp; try (with_reducible rfl))
                simp only [Act.put, List.setIfInBounds_toArray, List.set_cons_zero, List.set_cons_succ]
                exact tailA
            · go_simp
              refine hK.out _ _ hH0 (fun _ => ?_)
              clear hK K
              simp only [List.setIfInBounds_toArray, List.set_cons_zero, List.set_cons_succ]
              refine wpAnyH_take (i := 23) (oi := { dst := some 71, op := Go.Op.binOp Go.BinOp.add 22 (Go.Operand.tmp 68) (Go.Operand.tmp 70) 22, type := 22, pos := "more.go:40", after := #[{ on := 20, ground := Go.Ground.data }, { on := 22, ground := Go.Ground.data }], guard := none }) (v := ?vt54) rfl (by kernel_rfl) (by kernel_rfl) (by kernel_rfl) (fun _ _ _ h => h) (Or.inl ⟨by rfl, ?hyt54⟩) (by assumption) ?restt54
              case hyt54 => (intro w hSw; (try dsimp only at hSw); go_simp; try (with_reducible rfl))
              simp only [Act.put, List.setIfInBounds_toArray, List.set_cons_zero, List.set_cons_succ]
              refine wpAnyH_ready (rs := [2]) (by kernel_rfl) (by simp) ?_
              refine AllReadyH.cons (o := { dst := some 50, op := Go.Op.load 22 (Go.Operand.tmp 49), type := 22, pos := "more.go:40", after := #[{ on := 1, ground := Go.Ground.data }], guard := none }) rfl (fun K hK => ?_) AllReadyH.nil
              · go_simp
                refine hK.out _ _ hH0 (fun _ => ?_)
                clear hK K
                simp only [List.setIfInBounds_toArray, List.set_cons_zero, List.set_cons_succ]
                refine wpAnyH_take (i := 5) (oi := { dst := some 53, op := Go.Op.binOp Go.BinOp.add 22 (Go.Operand.tmp 50) (Go.Operand.tmp 52) 22, type := 22, pos := "more.go:40", after := #[{ on := 2, ground := Go.Ground.data }, { on := 4, ground := Go.Ground.data }], guard := none }) (v := ?vt55) rfl (by kernel_rfl) (by kernel_rfl) (by kernel_rfl) (fun _ _ _ h => h) (Or.inl ⟨by rfl, ?hyt55⟩) (by assumption) ?restt55
                case hyt55 => (intro w hSw; (try dsimp only at hSw); go_simp; try (with_reducible rfl))
                simp only [Act.put, List.setIfInBounds_toArray, List.set_cons_zero, List.set_cons_succ]
                exact tailA
          · go_simp
            refine hK.out _ _ hH0 (fun _ => ?_)
            clear hK K
            simp only [List.setIfInBounds_toArray, List.set_cons_zero, List.set_cons_succ]
            refine wpAnyH_take (i := 23) (oi := { dst := some 71, op := Go.Op.binOp Go.BinOp.add 22 (Go.Operand.tmp 68) (Go.Operand.tmp 70) 22, type := 22, pos := "more.go:40", after := #[{ on := 20, ground := Go.Ground.data }, { on := 22, ground := Go.Ground.data }], guard := none }) (v := ?vt56) rfl (by kernel_rfl) (by kernel_rfl) (by kernel_rfl) (fun _ _ _ h => h) (Or.inl ⟨by rfl, ?hyt56⟩) (by assumption) ?restt56
            case hyt56 => (intro w hSw; (try dsimp only at hSw); go_simp; try (with_reducible rfl))
            simp only [Act.put, List.setIfInBounds_toArray, List.set_cons_zero, List.set_cons_succ]
            refine wpAnyH_ready (rs := [2, 8]) (by kernel_rfl) (by simp) ?_
            refine AllReadyH.cons (o := { dst := some 50, op := Go.Op.load 22 (Go.Operand.tmp 49), type := 22, pos := "more.go:40", after := #[{ on := 1, ground := Go.Ground.data }], guard := none }) rfl (fun K hK => ?_) (AllReadyH.cons (o := { dst := some 56, op := Go.Op.load 22 (Go.Operand.tmp 55), type := 22, pos := "more.go:40", after := #[{ on := 7, ground := Go.Ground.data }], guard := none }) rfl (fun K hK => ?_) AllReadyH.nil)
            · go_simp
              refine hK.out _ _ hH0 (fun _ => ?_)
              clear hK K
              simp only [List.setIfInBounds_toArray, List.set_cons_zero, List.set_cons_succ]
              refine wpAnyH_take (i := 5) (oi := { dst := some 53, op := Go.Op.binOp Go.BinOp.add 22 (Go.Operand.tmp 50) (Go.Operand.tmp 52) 22, type := 22, pos := "more.go:40", after := #[{ on := 2, ground := Go.Ground.data }, { on := 4, ground := Go.Ground.data }], guard := none }) (v := ?vt57) rfl (by kernel_rfl) (by kernel_rfl) (by kernel_rfl) (fun _ _ _ h => h) (Or.inl ⟨by rfl, ?hyt57⟩) (by assumption) ?restt57
              case hyt57 => (intro w hSw; (try dsimp only at hSw); go_simp; try (with_reducible rfl))
              simp only [Act.put, List.setIfInBounds_toArray, List.set_cons_zero, List.set_cons_succ]
              refine wpAnyH_ready (rs := [8]) (by kernel_rfl) (by simp) ?_
              refine AllReadyH.cons (o := { dst := some 56, op := Go.Op.load 22 (Go.Operand.tmp 55), type := 22, pos := "more.go:40", after := #[{ on := 7, ground := Go.Ground.data }], guard := none }) rfl (fun K hK => ?_) AllReadyH.nil
              · go_simp
                refine hK.out _ _ hH0 (fun _ => ?_)
                clear hK K
                simp only [List.setIfInBounds_toArray, List.set_cons_zero, List.set_cons_succ]
                refine wpAnyH_take (i := 11) (oi := { dst := some 59, op := Go.Op.binOp Go.BinOp.add 22 (Go.Operand.tmp 56) (Go.Operand.tmp 58) 22, type := 22, pos := "more.go:40", after := #[{ on := 8, ground := Go.Ground.data }, { on := 10, ground := Go.Ground.data }], guard := none }) (v := ?vt58) rfl (by kernel_rfl) (by kernel_rfl) (by kernel_rfl) (fun _ _ _ h => h) (Or.inl ⟨by rfl, ?hyt58⟩) (by assumption) ?restt58
                case hyt58 => (intro w hSw; (try dsimp only at hSw); go_simp; try (with_reducible rfl))
                simp only [Act.put, List.setIfInBounds_toArray, List.set_cons_zero, List.set_cons_succ]
                exact tailA
            · go_simp
              refine hK.out _ _ hH0 (fun _ => ?_)
              clear hK K
              simp only [List.setIfInBounds_toArray, List.set_cons_zero, List.set_cons_succ]
              refine wpAnyH_take (i := 11) (oi := { dst := some 59, op := Go.Op.binOp Go.BinOp.add 22 (Go.Operand.tmp 56) (Go.Operand.tmp 58) 22, type := 22, pos := "more.go:40", after := #[{ on := 8, ground := Go.Ground.data }, { on := 10, ground := Go.Ground.data }], guard := none }) (v := ?vt59) rfl (by kernel_rfl) (by kernel_rfl) (by kernel_rfl) (fun _ _ _ h => h) (Or.inl ⟨by rfl, ?hyt59⟩) (by assumption) ?restt59
              case hyt59 => (intro w hSw; (try dsimp only at hSw); go_simp; try (with_reducible rfl))
              simp only [Act.put, List.setIfInBounds_toArray, List.set_cons_zero, List.set_cons_succ]
              refine wpAnyH_ready (rs := [2]) (by kernel_rfl) (by simp) ?_
              refine AllReadyH.cons (o := { dst := some 50, op := Go.Op.load 22 (Go.Operand.tmp 49), type := 22, pos := "more.go:40", after := #[{ on := 1, ground := Go.Ground.data }], guard := none }) rfl (fun K hK => ?_) AllReadyH.nil
              · go_simp
                refine hK.out _ _ hH0 (fun _ => ?_)
                clear hK K
                simp only [List.setIfInBounds_toArray, List.set_cons_zero, List.set_cons_succ]
                refine wpAnyH_take (i := 5) (oi := { dst := some 53, op := Go.Op.binOp Go.BinOp.add 22 (Go.Operand.tmp 50) (Go.Operand.tmp 52) 22, type := 22, pos := "more.go:40", after := #[{ on := 2, ground := Go.Ground.data }, { on := 4, ground := Go.Ground.data }], guard := none }) (v := ?vt60) rfl (by kernel_rfl) (by kernel_rfl) (by kernel_rfl) (fun _ _ _ h => h) (Or.inl ⟨by rfl, ?hyt60⟩) (by assumption) ?restt60
                case hyt60 => (intro w hSw; (try dsimp only at hSw); go_simp; try (with_reducible rfl))
                simp only [Act.put, List.setIfInBounds_toArray, List.set_cons_zero, List.set_cons_succ]
                exact tailA
        · go_simp
          refine hK.out _ _ hH0 (fun _ => ?_)
          clear hK K
          simp only [List.setIfInBounds_toArray, List.set_cons_zero, List.set_cons_succ]
          refine wpAnyH_take (i := 23) (oi := { dst := some 71, op := Go.Op.binOp Go.BinOp.add 22 (Go.Operand.tmp 68) (Go.Operand.tmp 70) 22, type := 22, pos := "more.go:40", after := #[{ on := 20, ground := Go.Ground.data }, { on := 22, ground := Go.Ground.data }], guard := none }) (v := ?vt61) rfl (by kernel_rfl) (by kernel_rfl) (by kernel_rfl) (fun _ _ _ h => h) (Or.inl ⟨by rfl, ?hyt61⟩) (by assumption) ?restt61
          case hyt61 => (intro w hSw; (try dsimp only at hSw); go_simp; try (with_reducible rfl))
          simp only [Act.put, List.setIfInBounds_toArray, List.set_cons_zero, List.set_cons_succ]
          refine wpAnyH_ready (rs := [2, 8, 14]) (by kernel_rfl) (by simp) ?_
          refine AllReadyH.cons (o := { dst := some 50, op := Go.Op.load 22 (Go.Operand.tmp 49), type := 22, pos := "more.go:40", after := #[{ on := 1, ground := Go.Ground.data }], guard := none }) rfl (fun K hK => ?_) (AllReadyH.cons (o := { dst := some 56, op := Go.Op.load 22 (Go.Operand.tmp 55), type := 22, pos := "more.go:40", after := #[{ on := 7, ground := Go.Ground.data }], guard := none }) rfl (fun K hK => ?_) (AllReadyH.cons (o := { dst := some 62, op := Go.Op.load 22 (Go.Operand.tmp 61), type := 22, pos := "more.go:40", after := #[{ on := 13, ground := Go.Ground.data }], guard := none }) rfl (fun K hK => ?_) AllReadyH.nil))
          · go_simp
            refine hK.out _ _ hH0 (fun _ => ?_)
            clear hK K
            simp only [List.setIfInBounds_toArray, List.set_cons_zero, List.set_cons_succ]
            refine wpAnyH_take (i := 5) (oi := { dst := some 53, op := Go.Op.binOp Go.BinOp.add 22 (Go.Operand.tmp 50) (Go.Operand.tmp 52) 22, type := 22, pos := "more.go:40", after := #[{ on := 2, ground := Go.Ground.data }, { on := 4, ground := Go.Ground.data }], guard := none }) (v := ?vt62) rfl (by kernel_rfl) (by kernel_rfl) (by kernel_rfl) (fun _ _ _ h => h) (Or.inl ⟨by rfl, ?hyt62⟩) (by assumption) ?restt62
            case hyt62 => (intro w hSw; (try dsimp only at hSw); go_simp; try (with_reducible rfl))
            simp only [Act.put, List.setIfInBounds_toArray, List.set_cons_zero, List.set_cons_succ]
            refine wpAnyH_ready (rs := [8, 14]) (by kernel_rfl) (by simp) ?_
            refine AllReadyH.cons (o := { dst := some 56, op := Go.Op.load 22 (Go.Operand.tmp 55), type := 22, pos := "more.go:40", after := #[{ on := 7, ground := Go.Ground.data }], guard := none }) rfl (fun K hK => ?_) (AllReadyH.cons (o := { dst := some 62, op := Go.Op.load 22 (Go.Operand.tmp 61), type := 22, pos := "more.go:40", after := #[{ on := 13, ground := Go.Ground.data }], guard := none }) rfl (fun K hK => ?_) AllReadyH.nil)
            · go_simp
              refine hK.out _ _ hH0 (fun _ => ?_)
              clear hK K
              simp only [List.setIfInBounds_toArray, List.set_cons_zero, List.set_cons_succ]
              refine wpAnyH_take (i := 11) (oi := { dst := some 59, op := Go.Op.binOp Go.BinOp.add 22 (Go.Operand.tmp 56) (Go.Operand.tmp 58) 22, type := 22, pos := "more.go:40", after := #[{ on := 8, ground := Go.Ground.data }, { on := 10, ground := Go.Ground.data }], guard := none }) (v := ?vt63) rfl (by kernel_rfl) (by kernel_rfl) (by kernel_rfl) (fun _ _ _ h => h) (Or.inl ⟨by rfl, ?hyt63⟩) (by assumption) ?restt63
              case hyt63 => (intro w hSw; (try dsimp only at hSw); go_simp; try (with_reducible rfl))
              simp only [Act.put, List.setIfInBounds_toArray, List.set_cons_zero, List.set_cons_succ]
              exact tailB
            · go_simp
              refine hK.out _ _ hH0 (fun _ => ?_)
              clear hK K
              simp only [List.setIfInBounds_toArray, List.set_cons_zero, List.set_cons_succ]
              refine wpAnyH_take (i := 17) (oi := { dst := some 65, op := Go.Op.binOp Go.BinOp.add 22 (Go.Operand.tmp 62) (Go.Operand.tmp 64) 22, type := 22, pos := "more.go:40", after := #[{ on := 14, ground := Go.Ground.data }, { on := 16, ground := Go.Ground.data }], guard := none }) (v := ?vt64) rfl (by kernel_rfl) (by kernel_rfl) (by kernel_rfl) (fun _ _ _ h => h) (Or.inl ⟨by rfl, ?hyt64⟩) (by assumption) ?restt64
              case hyt64 => (intro w hSw; (try dsimp only at hSw); go_simp; try (with_reducible rfl))
              simp only [Act.put, List.setIfInBounds_toArray, List.set_cons_zero, List.set_cons_succ]
              refine wpAnyH_ready (rs := [8]) (by kernel_rfl) (by simp) ?_
              refine AllReadyH.cons (o := { dst := some 56, op := Go.Op.load 22 (Go.Operand.tmp 55), type := 22, pos := "more.go:40", after := #[{ on := 7, ground := Go.Ground.data }], guard := none }) rfl (fun K hK => ?_) AllReadyH.nil
              · go_simp
                refine hK.out _ _ hH0 (fun _ => ?_)
                clear hK K
                simp only [List.setIfInBounds_toArray, List.set_cons_zero, List.set_cons_succ]
                refine wpAnyH_take (i := 11) (oi := { dst := some 59, op := Go.Op.binOp Go.BinOp.add 22 (Go.Operand.tmp 56) (Go.Operand.tmp 58) 22, type := 22, pos := "more.go:40", after := #[{ on := 8, ground := Go.Ground.data }, { on := 10, ground := Go.Ground.data }], guard := none }) (v := ?vt65) rfl (by kernel_rfl) (by kernel_rfl) (by kernel_rfl) (fun _ _ _ h => h) (Or.inl ⟨by rfl, ?hyt65⟩) (by assumption) ?restt65
                case hyt65 => (intro w hSw; (try dsimp only at hSw); go_simp; try (with_reducible rfl))
                simp only [Act.put, List.setIfInBounds_toArray, List.set_cons_zero, List.set_cons_succ]
                exact tailA
          · go_simp
            refine hK.out _ _ hH0 (fun _ => ?_)
            clear hK K
            simp only [List.setIfInBounds_toArray, List.set_cons_zero, List.set_cons_succ]
            refine wpAnyH_take (i := 11) (oi := { dst := some 59, op := Go.Op.binOp Go.BinOp.add 22 (Go.Operand.tmp 56) (Go.Operand.tmp 58) 22, type := 22, pos := "more.go:40", after := #[{ on := 8, ground := Go.Ground.data }, { on := 10, ground := Go.Ground.data }], guard := none }) (v := ?vt66) rfl (by kernel_rfl) (by kernel_rfl) (by kernel_rfl) (fun _ _ _ h => h) (Or.inl ⟨by rfl, ?hyt66⟩) (by assumption) ?restt66
            case hyt66 => (intro w hSw; (try dsimp only at hSw); go_simp; try (with_reducible rfl))
            simp only [Act.put, List.setIfInBounds_toArray, List.set_cons_zero, List.set_cons_succ]
            refine wpAnyH_ready (rs := [2, 14]) (by kernel_rfl) (by simp) ?_
            refine AllReadyH.cons (o := { dst := some 50, op := Go.Op.load 22 (Go.Operand.tmp 49), type := 22, pos := "more.go:40", after := #[{ on := 1, ground := Go.Ground.data }], guard := none }) rfl (fun K hK => ?_) (AllReadyH.cons (o := { dst := some 62, op := Go.Op.load 22 (Go.Operand.tmp 61), type := 22, pos := "more.go:40", after := #[{ on := 13, ground := Go.Ground.data }], guard := none }) rfl (fun K hK => ?_) AllReadyH.nil)
            · go_simp
              refine hK.out _ _ hH0 (fun _ => ?_)
              clear hK K
              simp only [List.setIfInBounds_toArray, List.set_cons_zero, List.set_cons_succ]
              refine wpAnyH_take (i := 5) (oi := { dst := some 53, op := Go.Op.binOp Go.BinOp.add 22 (Go.Operand.tmp 50) (Go.Operand.tmp 52) 22, type := 22, pos := "more.go:40", after := #[{ on := 2, ground := Go.Ground.data }, { on := 4, ground := Go.Ground.data }], guard := none }) (v := ?vt67) rfl (by kernel_rfl) (by kernel_rfl) (by kernel_rfl) (fun _ _ _ h => h) (Or.inl ⟨by rfl, ?hyt67⟩) (by assumption) ?restt67
              case hyt67 => (intro w hSw; (try dsimp only at hSw); go_simp; try (with_reducible rfl))
              simp only [Act.put, List.setIfInBounds_toArray, List.set_cons_zero, List.set_cons_succ]
              exact tailB
            · go_simp
              refine hK.out _ _ hH0 (fun _ => ?_)
              clear hK K
              simp only [List.setIfInBounds_toArray, List.set_cons_zero, List.set_cons_succ]
              refine wpAnyH_take (i := 17) (oi := { dst := some 65, op := Go.Op.binOp Go.BinOp.add 22 (Go.Operand.tmp 62) (Go.Operand.tmp 64) 22, type := 22, pos := "more.go:40", after := #[{ on := 14, ground := Go.Ground.data }, { on := 16, ground := Go.Ground.data }], guard := none }) (v := ?vt68) rfl (by kernel_rfl) (by kernel_rfl) (by kernel_rfl) (fun _ _ _ h => h) (Or.inl ⟨by rfl, ?hyt68⟩) (by assumption) ?restt68
              case hyt68 => (intro w hSw; (try dsimp only at hSw); go_simp; try (with_reducible rfl))
              simp only [Act.put, List.setIfInBounds_toArray, List.set_cons_zero, List.set_cons_succ]
              refine wpAnyH_ready (rs := [2]) (by kernel_rfl) (by simp) ?_
              refine AllReadyH.cons (o := { dst := some 50, op := Go.Op.load 22 (Go.Operand.tmp 49), type := 22, pos := "more.go:40", after := #[{ on := 1, ground := Go.Ground.data }], guard := none }) rfl (fun K hK => ?_) AllReadyH.nil
              · go_simp
                refine hK.out _ _ hH0 (fun _ => ?_)
                clear hK K
                simp only [List.setIfInBounds_toArray, List.set_cons_zero, List.set_cons_succ]
                refine wpAnyH_take (i := 5) (oi := { dst := some 53, op := Go.Op.binOp Go.BinOp.add 22 (Go.Operand.tmp 50) (Go.Operand.tmp 52) 22, type := 22, pos := "more.go:40", after := #[{ on := 2, ground := Go.Ground.data }, { on := 4, ground := Go.Ground.data }], guard := none }) (v := ?vt69) rfl (by kernel_rfl) (by kernel_rfl) (by kernel_rfl) (fun _ _ _ h => h) (Or.inl ⟨by rfl, ?hyt69⟩) (by assumption) ?restt69
                case hyt69 => (intro w hSw; (try dsimp only at hSw); go_simp; try (with_reducible rfl))
                simp only [Act.put, List.setIfInBounds_toArray, List.set_cons_zero, List.set_cons_succ]
                exact tailA
          · go_simp
            refine hK.out _ _ hH0 (fun _ => ?_)
            clear hK K
            simp only [List.setIfInBounds_toArray, List.set_cons_zero, List.set_cons_succ]
            refine wpAnyH_take (i := 17) (oi := { dst := some 65, op := Go.Op.binOp Go.BinOp.add 22 (Go.Operand.tmp 62) (Go.Operand.tmp 64) 22, type := 22, pos := "more.go:40", after := #[{ on := 14, ground := Go.Ground.data }, { on := 16, ground := Go.Ground.data }], guard := none }) (v := ?vt70) rfl (by kernel_rfl) (by kernel_rfl) (by kernel_rfl) (fun _ _ _ h => h) (Or.inl ⟨by rfl, ?hyt70⟩) (by assumption) ?restt70
            case hyt70 => (intro w hSw; (try dsimp only at hSw); go_simp; try (with_reducible rfl))
            simp only [Act.put, List.setIfInBounds_toArray, List.set_cons_zero, List.set_cons_succ]
            refine wpAnyH_ready (rs := [2, 8]) (by kernel_rfl) (by simp) ?_
            refine AllReadyH.cons (o := { dst := some 50, op := Go.Op.load 22 (Go.Operand.tmp 49), type := 22, pos := "more.go:40", after := #[{ on := 1, ground := Go.Ground.data }], guard := none }) rfl (fun K hK => ?_) (AllReadyH.cons (o := { dst := some 56, op := Go.Op.load 22 (Go.Operand.tmp 55), type := 22, pos := "more.go:40", after := #[{ on := 7, ground := Go.Ground.data }], guard := none }) rfl (fun K hK => ?_) AllReadyH.nil)
            · go_simp
              refine hK.out _ _ hH0 (fun _ => ?_)
              clear hK K
              simp only [List.setIfInBounds_toArray, List.set_cons_zero, List.set_cons_succ]
              refine wpAnyH_take (i := 5) (oi := { dst := some 53, op := Go.Op.binOp Go.BinOp.add 22 (Go.Operand.tmp 50) (Go.Operand.tmp 52) 22, type := 22, pos := "more.go:40", after := #[{ on := 2, ground := Go.Ground.data }, { on := 4, ground := Go.Ground.data }], guard := none }) (v := ?vt71) rfl (by kernel_rfl) (by kernel_rfl) (by kernel_rfl) (fun _ _ _ h => h) (Or.inl ⟨by rfl, ?hyt71⟩) (by assumption) ?restt71
              case hyt71 => (intro w hSw; (try dsimp only at hSw); go_simp; try (with_reducible rfl))
              simp only [Act.put, List.setIfInBounds_toArray, List.set_cons_zero, List.set_cons_succ]
              refine wpAnyH_ready (rs := [8]) (by kernel_rfl) (by simp) ?_
              refine AllReadyH.cons (o := { dst := some 56, op := Go.Op.load 22 (Go.Operand.tmp 55), type := 22, pos := "more.go:40", after := #[{ on := 7, ground := Go.Ground.data }], guard := none }) rfl (fun K hK => ?_) AllReadyH.nil
              · go_simp
                refine hK.out _ _ hH0 (fun _ => ?_)
                clear hK K
                simp only [List.setIfInBounds_toArray, List.set_cons_zero, List.set_cons_succ]
                refine wpAnyH_take (i := 11) (oi := { dst := some 59, op := Go.Op.binOp Go.BinOp.add 22 (Go.Operand.tmp 56) (Go.Operand.tmp 58) 22, type := 22, pos := "more.go:40", after := #[{ on := 8, ground := Go.Ground.data }, { on := 10, ground := Go.Ground.data }], guard := none }) (v := ?vt72) rfl (by kernel_rfl) (by kernel_rfl) (by kernel_rfl) (fun _ _ _ h => h) (Or.inl ⟨by rfl, ?hyt72⟩) (by assumption) ?restt72
                case hyt72 => (intro w hSw; (try dsimp only at hSw); go_simp; try (with_reducible rfl))
                simp only [Act.put, List.setIfInBounds_toArray, List.set_cons_zero, List.set_cons_succ]
                exact tailA
            · go_simp
              refine hK.out _ _ hH0 (fun _ => ?_)
              clear hK K
              simp only [List.setIfInBounds_toArray, List.set_cons_zero, List.set_cons_succ]
              refine wpAnyH_take (i := 11) (oi := { dst := some 59, op := Go.Op.binOp Go.BinOp.add 22 (Go.Operand.tmp 56) (Go.Operand.tmp 58) 22, type := 22, pos := "more.go:40", after := #[{ on := 8, ground := Go.Ground.data }, { on := 10, ground := Go.Ground.data }], guard := none }) (v := ?vt73) rfl (by kernel_rfl) (by kernel_rfl) (by kernel_rfl) (fun _ _ _ h => h) (Or.inl ⟨by rfl, ?hyt73⟩) (by assumption) ?restt73
              case hyt73 => (intro w hSw; (try dsimp only at hSw); go_simp; try (with_reducible rfl))
              simp only [Act.put, List.setIfInBounds_toArray, List.set_cons_zero, List.set_cons_succ]
              refine wpAnyH_ready (rs := [2]) (by kernel_rfl) (by simp) ?_
              refine AllReadyH.cons (o := { dst := some 50, op := Go.Op.load 22 (Go.Operand.tmp 49), type := 22, pos := "more.go:40", after := #[{ on := 1, ground := Go.Ground.data }], guard := none }) rfl (fun K hK => ?_) AllReadyH.nil
              · go_simp
                refine hK.out _ _ hH0 (fun _ => ?_)
                clear hK K
                simp only [List.setIfInBounds_toArray, List.set_cons_zero, List.set_cons_succ]
                refine wpAnyH_take (i := 5) (oi := { dst := some 53, op := Go.Op.binOp Go.BinOp.add 22 (Go.Operand.tmp 50) (Go.Operand.tmp 52) 22, type := 22, pos := "more.go:40", after := #[{ on := 2, ground := Go.Ground.data }, { on := 4, ground := Go.Ground.data }], guard := none }) (v := ?vt74) rfl (by kernel_rfl) (by kernel_rfl) (by kernel_rfl) (fun _ _ _ h => h) (Or.inl ⟨by rfl, ?hyt74⟩) (by assumption) ?restt74
                case hyt74 => (intro w hSw; (try dsimp only at hSw); go_simp; try (with_reducible rfl))
                simp only [Act.put, List.setIfInBounds_toArray, List.set_cons_zero, List.set_cons_succ]
                exact tailA
      case t =>
        refine wpAnyH_take (i := 24) (oi := { dst := some 72, op := Go.Op.fieldAddr 26 (Go.Operand.tmp 3) 3, type := 0, pos := "more.go:40", after := #[{ on := 0, ground := Go.Ground.phase }, { on := 1, ground := Go.Ground.phase }, { on := 2, ground := Go.Ground.phase }, { on := 3, ground := Go.Ground.phase }, { on := 4, ground := Go.Ground.phase }, { on := 5, ground := Go.Ground.phase }, { on := 6, ground := Go.Ground.phase }, { on := 7, ground := Go.Ground.phase }, { on := 8, ground := Go.Ground.phase }, { on := 9, ground := Go.Ground.textOnly Go.Departure.lateStores }, { on := 10, ground := Go.Ground.textOnly Go.Departure.lateStores }, { on := 11, ground := Go.Ground.textOnly Go.Departure.lateStoresUnsure }, { on := 12, ground := Go.Ground.textOnly Go.Departure.lateStores }, { on := 13, ground := Go.Ground.textOnly Go.Departure.lateStores }, { on := 14, ground := Go.Ground.textOnly Go.Departure.lateStoresUnsure }, { on := 15, ground := Go.Ground.textOnly Go.Departure.lateStores }, { on := 16, ground := Go.Ground.textOnly Go.Departure.lateStores }, { on := 17, ground := Go.Ground.textOnly Go.Departure.lateStoresUnsure }, { on := 18, ground := Go.Ground.phase }, { on := 19, ground := Go.Ground.phase }, { on := 20, ground := Go.Ground.phase }, { on := 21, ground := Go.Ground.textOnly Go.Departure.lateStores }, { on := 22, ground := Go.Ground.textOnly Go.Departure.lateStores }, { on := 23, ground := Go.Ground.textOnly Go.Departure.lateStoresUnsure }], guard := none }) (v := ?vt75) rfl (by kernel_rfl) (by kernel_rfl) (by kernel_rfl) (fun _ _ _ h => h) (Or.inl ⟨by rfl, ?hyt75⟩) (by assumption) ?restt75
        case hyt75 => (intro w hSw; (try dsimp only at hSw); go_simp; try (with_reducible rfl))
        simp only [Act.put, List.setIfInBounds_toArray, List.set_cons_zero, List.set_cons_succ]
        refine wpAnyH_take (i := 25) (oi := { dst := some 73, op := Go.Op.fieldAddr 24 (Go.Operand.tmp 72) 0, type := 0, pos := "more.go:40", after := #[{ on := 24, ground := Go.Ground.data }, { on := 0, ground := Go.Ground.phase }, { on := 1, ground := Go.Ground.phase }, { on := 2, ground := Go.Ground.phase }, { on := 3, ground := Go.Ground.phase }, { on := 4, ground := Go.Ground.phase }, { on := 5, ground := Go.Ground.phase }, { on := 6, ground := Go.Ground.phase }, { on := 7, ground := Go.Ground.phase }, { on := 8, ground := Go.Ground.phase }, { on := 9, ground := Go.Ground.textOnly Go.Departure.lateStores }, { on := 10, ground := Go.Ground.textOnly Go.Departure.lateStores }, { on := 11, ground := Go.Ground.textOnly Go.Departure.lateStoresUnsure }, { on := 12, ground := Go.Ground.textOnly Go.Departure.lateStores }, { on := 13, ground := Go.Ground.textOnly Go.Departure.lateStores }, { on := 14, ground := Go.Ground.textOnly Go.Departure.lateStoresUnsure }, { on := 15, ground := Go.Ground.textOnly Go.Departure.lateStores }, { on := 16, ground := Go.Ground.textOnly Go.Departure.lateStores }, { on := 17, ground := Go.Ground.textOnly Go.Departure.lateStoresUnsure }, { on := 18, ground := Go.Ground.phase }, { on := 19, ground := Go.Ground.phase }, { on := 20, ground := Go.Ground.phase }, { on := 21, ground := Go.Ground.textOnly Go.Departure.lateStores }, { on := 22, ground := Go.Ground.textOnly Go.Departure.lateStores }, { on := 23, ground := Go.Ground.textOnly Go.Departure.lateStoresUnsure }], guard := none }) (v := ?vt76) rfl (by kernel_rfl) (by kernel_rfl) (by kernel_rfl) (fun _ _ _ h => h) (Or.inl ⟨by rfl, ?hyt76⟩) (by assumption) ?restt76
        case hyt76 => (intro w hSw; (try dsimp only at hSw); go_simp; try (with_reducible rfl))
        simp only [Act.put, List.setIfInBounds_toArray, List.set_cons_zero, List.set_cons_succ]
        refine wpAnyH_ready (rs := [14, 26]) (by kernel_rfl) (by simp) ?_
        refine AllReadyH.cons (o := { dst := some 62, op := Go.Op.load 22 (Go.Operand.tmp 61), type := 22, pos := "more.go:40", after := #[{ on := 13, ground := Go.Ground.data }], guard := none }) rfl (fun K hK => ?_) (AllReadyH.cons (o := { dst := none, op := Go.Op.store 22 (Go.Operand.tmp 73) (Go.Operand.tmp 53), type := 0, pos := "more.go:40", after := #[{ on := 25, ground := Go.Ground.data }, { on := 5, ground := Go.Ground.data }, { on := 0, ground := Go.Ground.phase }, { on := 1, ground := Go.Ground.phase }, { on := 2, ground := Go.Ground.phase }, { on := 3, ground := Go.Ground.phase }, { on := 4, ground := Go.Ground.phase }, { on := 5, ground := Go.Ground.phase }, { on := 6, ground := Go.Ground.phase }, { on := 7, ground := Go.Ground.phase }, { on := 8, ground := Go.Ground.phase }, { on := 9, ground := Go.Ground.textOnly Go.Departure.lateStores }, { on := 10, ground := Go.Ground.textOnly Go.Departure.lateStores }, { on := 11, ground := Go.Ground.textOnly Go.Departure.lateStoresUnsure }, { on := 12, ground := Go.Ground.textOnly Go.Departure.lateStores }, { on := 13, ground := Go.Ground.textOnly Go.Departure.lateStores }, { on := 14, ground := Go.Ground.textOnly Go.Departure.lateStoresUnsure }, { on := 15, ground := Go.Ground.textOnly Go.Departure.lateStores }, { on := 16, ground := Go.Ground.textOnly Go.Departure.lateStores }, { on := 17, ground := Go.Ground.textOnly Go.Departure.lateStoresUnsure }, { on := 18, ground := Go.Ground.phase }, { on := 19, ground := Go.Ground.phase }, { on := 20, ground := Go.Ground.phase }, { on := 21, ground := Go.Ground.textOnly Go.Departure.lateStores }, { on := 22, ground := Go.Ground.textOnly Go.Departure.lateStores }, { on := 23, ground := Go.Ground.textOnly Go.Departure.lateStoresUnsure }], guard := none }) rfl (fun K hK => ?_) AllReadyH.nil)
        · go_simp
          refine hK.out _ _ hH0 (fun _ => ?_)
          clear hK K
          simp only [List.setIfInBounds_toArray, List.set_cons_zero, List.set_cons_succ]
          refine wpAnyH_take (i := 17) (oi := { dst := some 65, op := Go.Op.binOp Go.BinOp.add 22 (Go.Operand.tmp 62) (Go.Operand.tmp 64) 22, type := 22, pos := "more.go:40", after := #[{ on := 14, ground := Go.Ground.data }, { on := 16, ground := Go.Ground.data }], guard := none }) (v := ?vt77) rfl (by kernel_rfl) (by kernel_rfl) (by kernel_rfl) (fun _ _ _ h => h) (Or.inl ⟨by rfl, ?hyt77⟩) (by assumption) ?restt77
          case hyt77 => (intro w hSw; (try dsimp only at hSw); go_simp; try (with_reducible rfl))
          simp only [Act.put, List.setIfInBounds_toArray, List.set_cons_zero, List.set_cons_succ]
          refine wpAnyH_ready (rs := [26]) (by kernel_rfl) (by simp) ?_
          refine AllReadyH.cons (o := { dst := none, op := Go.Op.store 22 (Go.Operand.tmp 73) (Go.Operand.tmp 53), type := 0, pos := "more.go:40", after := #[{ on := 25, ground := Go.Ground.data }, { on := 5, ground := Go.Ground.data }, { on := 0, ground := Go.Ground.phase }, { on := 1, ground := Go.Ground.phase }, { on := 2, ground := Go.Ground.phase }, { on := 3, ground := Go.Ground.phase }, { on := 4, ground := Go.Ground.phase }, { on := 5, ground := Go.Ground.phase }, { on := 6, ground := Go.Ground.phase }, { on := 7, ground := Go.Ground.phase }, { on := 8, ground := Go.Ground.phase }, { on := 9, ground := Go.Ground.textOnly Go.Departure.lateStores }, { on := 10, ground := Go.Ground.textOnly Go.Departure.lateStores }, { on := 11, ground := Go.Ground.textOnly Go.Departure.lateStoresUnsure }, { on := 12, ground := Go.Ground.textOnly Go.Departure.lateStores }, { on := 13, ground := Go.Ground.textOnly Go.Departure.lateStores }, { on := 14, ground := Go.Ground.textOnly Go.Departure.lateStoresUnsure }, { on := 15, ground := Go.Ground.textOnly Go.Departure.lateStores }, { on := 16, ground := Go.Ground.textOnly Go.Departure.lateStores }, { on := 17, ground := Go.Ground.textOnly Go.Departure.lateStoresUnsure }, { on := 18, ground := Go.Ground.phase }, { on := 19, ground := Go.Ground.phase }, { on := 20, ground := Go.Ground.phase }, { on := 21, ground := Go.Ground.textOnly Go.Departure.lateStores }, { on := 22, ground := Go.Ground.textOnly Go.Departure.lateStores }, { on := 23, ground := Go.Ground.textOnly Go.Departure.lateStoresUnsure }], guard := none }) rfl (fun K hK => ?_) AllReadyH.nil
          · go_simp
            refine hK.out _ _ (SW.out _ (w.heap.size) 4 _ (by omega) hH0) (fun hH78 => ?_)
            clear hK K
            simp only [List.setIfInBounds_toArray, List.set_cons_zero, List.set_cons_succ]
            refine wpAnyH_take (i := 27) (oi := { dst := some 74, op := Go.Op.fieldAddr 26 (Go.Operand.tmp 3) 3, type := 0, pos := "more.go:40", after := #[{ on := 0, ground := Go.Ground.phase }, { on := 1, ground := Go.Ground.phase }, { on := 2, ground := Go.Ground.phase }, { on := 3, ground := Go.Ground.phase }, { on := 4, ground := Go.Ground.phase }, { on := 5, ground := Go.Ground.phase }, { on := 6, ground := Go.Ground.phase }, { on := 7, ground := Go.Ground.phase }, { on := 8, ground := Go.Ground.phase }, { on := 9, ground := Go.Ground.phase }, { on := 10, ground := Go.Ground.phase }, { on := 11, ground := Go.Ground.phase }, { on := 12, ground := Go.Ground.textOnly Go.Departure.lateStores }, { on := 13, ground := Go.Ground.textOnly Go.Departure.lateStores }, { on := 14, ground := Go.Ground.textOnly Go.Departure.lateStoresUnsure }, { on := 15, ground := Go.Ground.textOnly Go.Departure.lateStores }, { on := 16, ground := Go.Ground.textOnly Go.Departure.lateStores }, { on := 17, ground := Go.Ground.textOnly Go.Departure.lateStoresUnsure }, { on := 18, ground := Go.Ground.phase }, { on := 19, ground := Go.Ground.phase }, { on := 20, ground := Go.Ground.phase }, { on := 21, ground := Go.Ground.textOnly Go.Departure.lateStores }, { on := 22, ground := Go.Ground.textOnly Go.Departure.lateStores }, { on := 23, ground := Go.Ground.textOnly Go.Departure.lateStoresUnsure }, { on := 24, ground := Go.Ground.phase }, { on := 25, ground := Go.Ground.phase }, { on := 26, ground := Go.Ground.phase }], guard := none }) (v := ?vt79) rfl (by kernel_rfl) (by kernel_rfl) (by kernel_rfl) (fun _ _ _ h => h) (Or.inl ⟨by rfl, ?hyt79⟩) (by assumption) ?restt79
            case hyt79 => (intro w hSw; (try dsimp only at hSw); go_simp; try (with_reducible rfl))
            simp only [Act.put, List.setIfInBounds_toArray, List.set_cons_zero, List.set_cons_succ]
            refine wpAnyH_take (i := 28) (oi := { dst := some 75, op := Go.Op.fieldAddr 24 (Go.Operand.tmp 74) 1, type := 0, pos := "more.go:40", after := #[{ on := 27, ground := Go.Ground.data }, { on := 0, ground := Go.Ground.phase }, { on := 1, ground := Go.Ground.phase }, { on := 2, ground := Go.Ground.phase }, { on := 3, ground := Go.Ground.phase }, { on := 4, ground := Go.Ground.phase }, { on := 5, ground := Go.Ground.phase }, { on := 6, ground := Go.Ground.phase }, { on := 7, ground := Go.Ground.phase }, { on := 8, ground := Go.Ground.phase }, { on := 9, ground := Go.Ground.phase }, { on := 10, ground := Go.Ground.phase }, { on := 11, ground := Go.Ground.phase }, { on := 12, ground := Go.Ground.textOnly Go.Departure.lateStores }, { on := 13, ground := Go.Ground.textOnly Go.Departure.lateStores }, { on := 14, ground := Go.Ground.textOnly Go.Departure.lateStoresUnsure }, { on := 15, ground := Go.Ground.textOnly Go.Departure.lateStores }, { on := 16, ground := Go.Ground.textOnly Go.Departure.lateStores }, { on := 17, ground := Go.Ground.textOnly Go.Departure.lateStoresUnsure }, { on := 18, ground := Go.Ground.phase }, { on := 19, ground := Go.Ground.phase }, { on := 20, ground := Go.Ground.phase }, { on := 21, ground := Go.Ground.textOnly Go.Departure.lateStores }, { on := 22, ground := Go.Ground.textOnly Go.Departure.lateStores }, { on := 23, ground := Go.Ground.textOnly Go.Departure.lateStoresUnsure }, { on := 24, ground := Go.Ground.phase }, { on := 25, ground := Go.Ground.phase }, { on := 26, ground := Go.Ground.phase }], guard := none }) (v := ?vt80) rfl (by kernel_rfl) (by kernel_rfl) (by kernel_rfl) (fun _ _ _ h => h) (Or.inl ⟨by rfl, ?hyt80⟩) (by assumption) ?restt80
            case hyt80 => (intro w hSw; (try dsimp only at hSw); go_simp; try (with_reducible rfl))
            simp only [Act.put, List.setIfInBounds_toArray, List.set_cons_zero, List.set_cons_succ]
            refine wpAnyH_ready (rs := [29]) (by kernel_rfl) (by simp) ?_
            refine AllReadyH.cons (o := { dst := none, op := Go.Op.store 22 (Go.Operand.tmp 75) (Go.Operand.tmp 59), type := 0, pos := "more.go:40", after := #[{ on := 28, ground := Go.Ground.data }, { on := 11, ground := Go.Ground.data }, { on := 26, ground := Go.Ground.chain }, { on := 0, ground := Go.Ground.phase }, { on := 1, ground := Go.Ground.phase }, { on := 2, ground := Go.Ground.phase }, { on := 3, ground := Go.Ground.phase }, { on := 4, ground := Go.Ground.phase }, { on := 5, ground := Go.Ground.phase }, { on := 6, ground := Go.Ground.phase }, { on := 7, ground := Go.Ground.phase }, { on := 8, ground := Go.Ground.phase }, { on := 9, ground := Go.Ground.phase }, { on := 10, ground := Go.Ground.phase }, { on := 11, ground := Go.Ground.phase }, { on := 12, ground := Go.Ground.textOnly Go.Departure.lateStores }, { on := 13, ground := Go.Ground.textOnly Go.Departure.lateStores }, { on := 14, ground := Go.Ground.textOnly Go.Departure.lateStoresUnsure }, { on := 15, ground := Go.Ground.textOnly Go.Departure.lateStores }, { on := 16, ground := Go.Ground.textOnly Go.Departure.lateStores }, { on := 17, ground := Go.Ground.textOnly Go.Departure.lateStoresUnsure }, { on := 18, ground := Go.Ground.phase }, { on := 19, ground := Go.Ground.phase }, { on := 20, ground := Go.Ground.phase }, { on := 21, ground := Go.Ground.textOnly Go.Departure.lateStores }, { on := 22, ground := Go.Ground.textOnly Go.Departure.lateStores }, { on := 23, ground := Go.Ground.textOnly Go.Departure.lateStoresUnsure }, { on := 24, ground := Go.Ground.phase }, { on := 25, ground := Go.Ground.phase }, { on := 26, ground := Go.Ground.phase }], guard := none }) rfl (fun K hK => ?_) AllReadyH.nil
            · go_simp
              refine hK.out _ _ (SW.out _ (w.heap.size) 5 _ (by omega) hH78) (fun hH81 => ?_)
              clear hK K
              simp only [List.setIfInBounds_toArray, List.set_cons_zero, List.set_cons_succ]
              refine wpAnyH_take (i := 30) (oi := { dst := some 76, op := Go.Op.fieldAddr 26 (Go.Operand.tmp 4) 3, type := 0, pos := "more.go:40", after := #[{ on := 0, ground := Go.Ground.phase }, { on := 1, ground := Go.Ground.phase }, { on := 2, ground := Go.Ground.phase }, { on := 3, ground := Go.Ground.phase }, { on := 4, ground := Go.Ground.phase }, { on := 5, ground := Go.Ground.phase }, { on := 6, ground := Go.Ground.phase }, { on := 7, ground := Go.Ground.phase }, { on := 8, ground := Go.Ground.phase }, { on := 9, ground := Go.Ground.phase }, { on := 10, ground := Go.Ground.phase }, { on := 11, ground := Go.Ground.phase }, { on := 12, ground := Go.Ground.phase }, { on := 13, ground := Go.Ground.phase }, { on := 14, ground := Go.Ground.phase }, { on := 15, ground := Go.Ground.phase }, { on := 16, ground := Go.Ground.phase }, { on := 17, ground := Go.Ground.phase }, { on := 18, ground := Go.Ground.phase }, { on := 19, ground := Go.Ground.phase }, { on := 20, ground := Go.Ground.phase }, { on := 21, ground := Go.Ground.textOnly Go.Departure.lateStores }, { on := 22, ground := Go.Ground.textOnly Go.Departure.lateStores }, { on := 23, ground := Go.Ground.textOnly Go.Departure.lateStoresUnsure }, { on := 24, ground := Go.Ground.phase }, { on := 25, ground := Go.Ground.phase }, { on := 26, ground := Go.Ground.phase }, { on := 27, ground := Go.Ground.phase }, { on := 28, ground := Go.Ground.phase }, { on := 29, ground := Go.Ground.phase }], guard := none }) (v := ?vt82) rfl (by kernel_rfl) (by kernel_rfl) (by kernel_rfl) (fun _ _ _ h => h) (Or.inl ⟨by rfl, ?hyt82⟩) (by assumption) ?restt82
              case hyt82 => (intro w hSw; (try dsimp only at hSw); go_simp; try (with_reducible rfl))
              simp only [Act.put, List.setIfInBounds_toArray, List.set_cons_zero, List.set_cons_succ]
              refine wpAnyH_take (i := 31) (oi := { dst := some 77, op := Go.Op.fieldAddr 24 (Go.Operand.tmp 76) 0, type := 0, pos := "more.go:40", after := #[{ on := 30, ground := Go.Ground.data }, { on := 0, ground := Go.Ground.phase }, { on := 1, ground := Go.Ground.phase }, { on := 2, ground := Go.Ground.phase }, { on := 3, ground := Go.Ground.phase }, { on := 4, ground := Go.Ground.phase }, { on := 5, ground := Go.Ground.phase }, { on := 6, ground := Go.Ground.phase }, { on := 7, ground := Go.Ground.phase }, { on := 8, ground := Go.Ground.phase }, { on := 9, ground := Go.Ground.phase }, { on := 10, ground := Go.Ground.phase }, { on := 11, ground := Go.Ground.phase }, { on := 12, ground := Go.Ground.phase }, { on := 13, ground := Go.Ground.phase }, { on := 14, ground := Go.Ground.phase }, { on := 15, ground := Go.Ground.phase }, { on := 16, ground := Go.Ground.phase }, { on := 17, ground := Go.Ground.phase }, { on := 18, ground := Go.Ground.phase }, { on := 19, ground := Go.Ground.phase }, { on := 20, ground := Go.Ground.phase }, { on := 21, ground := Go.Ground.textOnly Go.Departure.lateStores }, { on := 22, ground := Go.Ground.textOnly Go.Departure.lateStores }, { on := 23, ground := Go.Ground.textOnly Go.Departure.lateStoresUnsure }, { on := 24, ground := Go.Ground.phase }, { on := 25, ground := Go.Ground.phase }, { on := 26, ground := Go.Ground.phase }, { on := 27, ground := Go.Ground.phase }, { on := 28, ground := Go.Ground.phase }, { on := 29, ground := Go.Ground.phase }], guard := none }) (v := ?vt83) rfl (by kernel_rfl) (by kernel_rfl) (by kernel_rfl) (fun _ _ _ h => h) (Or.inl ⟨by rfl, ?hyt83⟩) (by assumption) ?restt83
              case hyt83 => (intro w hSw; (try dsimp only at hSw); go_simp; try (with_reducible rfl))
              simp only [Act.put, List.setIfInBounds_toArray, List.set_cons_zero, List.set_cons_succ]
              refine wpAnyH_ready (rs := [32]) (by kernel_rfl) (by simp) ?_
              refine AllReadyH.cons (o := { dst := none, op := Go.Op.store 22 (Go.Operand.tmp 77) (Go.Operand.tmp 65), type := 0, pos := "more.go:40", after := #[{ on := 31, ground := Go.Ground.data }, { on := 17, ground := Go.Ground.data }, { on := 29, ground := Go.Ground.chain }, { on := 0, ground := Go.Ground.phase }, { on := 1, ground := Go.Ground.phase }, { on := 2, ground := Go.Ground.phase }, { on := 3, ground := Go.Ground.phase }, { on := 4, ground := Go.Ground.phase }, { on := 5, ground := Go.Ground.phase }, { on := 6, ground := Go.Ground.phase }, { on := 7, ground := Go.Ground.phase }, { on := 8, ground := Go.Ground.phase }, { on := 9, ground := Go.Ground.phase }, { on := 10, ground := Go.Ground.phase }, { on := 11, ground := Go.Ground.phase }, { on := 12, ground := Go.Ground.phase }, { on := 13, ground := Go.Ground.phase }, { on := 14, ground := Go.Ground.phase }, { on := 15, ground := Go.Ground.phase }, { on := 16, ground := Go.Ground.phase }, { on := 17, ground := Go.Ground.phase }, { on := 18, ground := Go.Ground.phase }, { on := 19, ground := Go.Ground.phase }, { on := 20, ground := Go.Ground.phase }, { on := 21, ground := Go.Ground.textOnly Go.Departure.lateStores }, { on := 22, ground := Go.Ground.textOnly Go.Departure.lateStores }, { on := 23, ground := Go.Ground.textOnly Go.Departure.lateStoresUnsure }, { on := 24, ground := Go.Ground.phase }, { on := 25, ground := Go.Ground.phase }, { on := 26, ground := Go.Ground.phase }, { on := 27, ground := Go.Ground.phase }, { on := 28, ground := Go.Ground.phase }, { on := 29, ground := Go.Ground.phase }], guard := none }) rfl (fun K hK => ?_) AllReadyH.nil
              · go_simp
                refine hK.out _ _ (SW.out _ (w.heap.size + 1) 4 _ (by omega) hH81) (fun hH84 => ?_)
                clear hK K
                simp only [List.setIfInBounds_toArray, List.set_cons_zero, List.set_cons_succ]
                refine wpAnyH_take (i := 33) (oi := { dst := some 78, op := Go.Op.fieldAddr 26 (Go.Operand.tmp 4) 3, type := 0, pos := "more.go:40", after := #[{ on := 0, ground := Go.Ground.phase }, { on := 1, ground := Go.Ground.phase }, { on := 2, ground := Go.Ground.phase }, { on := 3, ground := Go.Ground.phase }, { on := 4, ground := Go.Ground.phase }, { on := 5, ground := Go.Ground.phase }, { on := 6, ground := Go.Ground.phase }, { on := 7, ground := Go.Ground.phase }, { on := 8, ground := Go.Ground.phase }, { on := 9, ground := Go.Ground.phase }, { on := 10, ground := Go.Ground.phase }, { on := 11, ground := Go.Ground.phase }, { on := 12, ground := Go.Ground.phase }, { on := 13, ground := Go.Ground.phase }, { on := 14, ground := Go.Ground.phase }, { on := 15, ground := Go.Ground.phase }, { on := 16, ground := Go.Ground.phase }, { on := 17, ground := Go.Ground.phase }, { on := 18, ground := Go.Ground.phase }, { on := 19, ground := Go.Ground.phase }, { on := 20, ground := Go.Ground.phase }, { on := 21, ground := Go.Ground.phase }, { on := 22, ground := Go.Ground.phase }, { on := 23, ground := Go.Ground.phase }, { on := 24, ground := Go.Ground.phase }, { on := 25, ground := Go.Ground.phase }, { on := 26, ground := Go.Ground.phase }, { on := 27, ground := Go.Ground.phase }, { on := 28, ground := Go.Ground.phase }, { on := 29, ground := Go.Ground.phase }, { on := 30, ground := Go.Ground.phase }, { on := 31, ground := Go.Ground.phase }, { on := 32, ground := Go.Ground.phase }], guard := none }) (v := ?vt85) rfl (by kernel_rfl) (by kernel_rfl) (by kernel_rfl) (fun _ _ _ h => h) (Or.inl ⟨by rfl, ?hyt85⟩) (by assumption) ?restt85
                case hyt85 => (intro w hSw; (try dsimp only at hSw); go_simp; try (with_reducible rfl))
                simp only [Act.put, List.setIfInBounds_toArray, List.set_cons_zero, List.set_cons_succ]
                refine wpAnyH_take (i := 34) (oi := { dst := some 79, op := Go.Op.fieldAddr 24 (Go.Operand.tmp 78) 1, type := 0, pos := "more.go:40", after := #[{ on := 33, ground := Go.Ground.data }, { on := 0, ground := Go.Ground.phase }, { on := 1, ground := Go.Ground.phase }, { on := 2, ground := Go.Ground.phase }, { on := 3, ground := Go.Ground.phase }, { on := 4, ground := Go.Ground.phase }, { on := 5, ground := Go.Ground.phase }, { on := 6, ground := Go.Ground.phase }, { on := 7, ground := Go.Ground.phase }, { on := 8, ground := Go.Ground.phase }, { on := 9, ground := Go.Ground.phase }, { on := 10, ground := Go.Ground.phase }, { on := 11, ground := Go.Ground.phase }, { on := 12, ground := Go.Ground.phase }, { on := 13, ground := Go.Ground.phase }, { on := 14, ground := Go.Ground.phase }, { on := 15, ground := Go.Ground.phase }, { on := 16, ground := Go.Ground.phase }, { on := 17, ground := Go.Ground.phase }, { on := 18, ground := Go.Ground.phase }, { on := 19, ground := Go.Ground.phase }, { on := 20, ground := Go.Ground.phase }, { on := 21, ground := Go.Ground.phase }, { on := 22, ground := Go.Ground.phase }, { on := 23, ground := Go.Ground.phase }, { on := 24, ground := Go.Ground.phase }, { on := 25, ground := Go.Ground.phase }, { on := 26, ground := Go.Ground.phase }, { on := 27, ground := Go.Ground.phase }, { on := 28, ground := Go.Ground.phase }, { on := 29, ground := Go.Ground.phase }, { on := 30, ground := Go.Ground.phase }, { on := 31, ground := Go.Ground.phase }, { on := 32, ground := Go.Ground.phase }], guard := none }) (v := ?vt86) rfl (by kernel_rfl) (by kernel_rfl) (by kernel_rfl) (fun _ _ _ h => h) (Or.inl ⟨by rfl, ?hyt86⟩) (by assumption) ?restt86
                case hyt86 => (intro w hSw; (try dsimp only at hSw); go_simp; try (with_reducible rfl))
                simp only [Act.put, List.setIfInBounds_toArray, List.set_cons_zero, List.set_cons_succ]
                refine wpAnyH_ready (rs := [35]) (by kernel_rfl) (by simp) ?_
                refine AllReadyH.cons (o := { dst := none, op := Go.Op.store 22 (Go.Operand.tmp 79) (Go.Operand.tmp 71), type := 0, pos := "more.go:40", after := #[{ on := 34, ground := Go.Ground.data }, { on := 23, ground := Go.Ground.data }, { on := 32, ground := Go.Ground.chain }, { on := 0, ground := Go.Ground.phase }, { on := 1, ground := Go.Ground.phase }, { on := 2, ground := Go.Ground.phase }, { on := 3, ground := Go.Ground.phase }, { on := 4, ground := Go.Ground.phase }, { on := 5, ground := Go.Ground.phase }, { on := 6, ground := Go.Ground.phase }, { on := 7, ground := Go.Ground.phase }, { on := 8, ground := Go.Ground.phase }, { on := 9, ground := Go.Ground.phase }, { on := 10, ground := Go.Ground.phase }, { on := 11, ground := Go.Ground.phase }, { on := 12, ground := Go.Ground.phase }, { on := 13, ground := Go.Ground.phase }, { on := 14, ground := Go.Ground.phase }, { on := 15, ground := Go.Ground.phase }, { on := 16, ground := Go.Ground.phase }, { on := 17, ground := Go.Ground.phase }, { on := 18, ground := Go.Ground.phase }, { on := 19, ground := Go.Ground.phase }, { on := 20, ground := Go.Ground.phase }, { on := 21, ground := Go.Ground.phase }, { on := 22, ground := Go.Ground.phase }, { on := 23, ground := Go.Ground.phase }, { on := 24, ground := Go.Ground.phase }, { on := 25, ground := Go.Ground.phase }, { on := 26, ground := Go.Ground.phase }, { on := 27, ground := Go.Ground.phase }, { on := 28, ground := Go.Ground.phase }, { on := 29, ground := Go.Ground.phase }, { on := 30, ground := Go.Ground.phase }, { on := 31, ground := Go.Ground.phase }, { on := 32, ground := Go.Ground.phase }], guard := none }) rfl (fun K hK => ?_) AllReadyH.nil
                · go_simp
                  refine hK.out _ _ (SW.out _ (w.heap.size + 1) 5 _ (by omega) hH84) (fun hH87 => ?_)
                  clear hK K
                  simp only [List.setIfInBounds_toArray, List.set_cons_zero, List.set_cons_succ]
                  refine wpAnyH_done (by kernel_rfl) ?_ _
                  go_wp2_with (fail)
                  go_meet
                  case rel => first | rfl | rw [w1.out, w2.out, w3.out, w4.out]
        · go_simp
          refine hK.out _ _ (SW.out _ (w.heap.size) 4 _ (by omega) hH0) (fun hH88 => ?_)
          clear hK K
          simp only [List.setIfInBounds_toArray, List.set_cons_zero, List.set_cons_succ]
          refine wpAnyH_take (i := 27) (oi := { dst := some 74, op := Go.Op.fieldAddr 26 (Go.Operand.tmp 3) 3, type := 0, pos := "more.go:40", after := #[{ on := 0, ground := Go.Ground.phase }, { on := 1, ground := Go.Ground.phase }, { on := 2, ground := Go.Ground.phase }, { on := 3, ground := Go.Ground.phase }, { on := 4, ground := Go.Ground.phase }, { on := 5, ground := Go.Ground.phase }, { on := 6, ground := Go.Ground.phase }, { on := 7, ground := Go.Ground.phase }, { on := 8, ground := Go.Ground.phase }, { on := 9, ground := Go.Ground.phase }, { on := 10, ground := Go.Ground.phase }, { on := 11, ground := Go.Ground.phase }, { on := 12, ground := Go.Ground.textOnly Go.Departure.lateStores }, { on := 13, ground := Go.Ground.textOnly Go.Departure.lateStores }, { on := 14, ground := Go.Ground.textOnly Go.Departure.lateStoresUnsure }, { on := 15, ground := Go.Ground.textOnly Go.Departure.lateStores }, { on := 16, ground := Go.Ground.textOnly Go.Departure.lateStores }, { on := 17, ground := Go.Ground.textOnly Go.Departure.lateStoresUnsure }, { on := 18, ground := Go.Ground.phase }, { on := 19, ground := Go.Ground.phase }, { on := 20, ground := Go.Ground.phase }, { on := 21, ground := Go.Ground.textOnly Go.Departure.lateStores }, { on := 22, ground := Go.Ground.textOnly Go.Departure.lateStores }, { on := 23, ground := Go.Ground.textOnly Go.Departure.lateStoresUnsure }, { on := 24, ground := Go.Ground.phase }, { on := 25, ground := Go.Ground.phase }, { on := 26, ground := Go.Ground.phase }], guard := none }) (v := ?vt89) rfl (by kernel_rfl) (by kernel_rfl) (by kernel_rfl) (fun _ _ _ h => h) (Or.inl ⟨by rfl, ?hyt89⟩) (by assumption) ?restt89
          case hyt89 => (intro w hSw; (try dsimp only at hSw); go_simp; try (with_reducible rfl))
          simp only [Act.put, List.setIfInBounds_toArray, List.set_cons_zero, List.set_cons_succ]
          refine wpAnyH_take (i := 28) (oi := { dst := some 75, op := Go.Op.fieldAddr 24 (Go.Operand.tmp 74) 1, type := 0, pos := "more.go:40", after := #[{ on := 27, ground := Go.Ground.data }, { on := 0, ground := Go.Ground.phase }, { on := 1, ground := Go.Ground.phase }, { on := 2, ground := Go.Ground.phase }, { on := 3, ground := Go.Ground.phase }, { on := 4, ground := Go.Ground.phase }, { on := 5, ground := Go.Ground.phase }, { on := 6, ground := Go.Ground.phase }, { on := 7, ground := Go.Ground.phase }, { on := 8, ground := Go.Ground.phase }, { on := 9, ground := Go.Ground.phase }, { on := 10, ground := Go.Ground.phase }, { on := 11, ground := Go.Ground.phase }, { on := 12, ground := Go.Ground.textOnly Go.Departure.lateStores }, { on := 13, ground := Go.Ground.textOnly Go.Departure.lateStores }, { on := 14, ground := Go.Ground.textOnly Go.Departure.lateStoresUnsure }, { on := 15, ground := Go.Ground.textOnly Go.Departure.lateStores }, { on := 16, ground := Go.Ground.textOnly Go.Departure.lateStores }, { on := 17, ground := Go.Ground.textOnly Go.Departure.lateStoresUnsure }, { on := 18, ground := Go.Ground.phase }, { on := 19, ground := Go.Ground.phase }, { on := 20, ground := Go.Ground.phase }, { on := 21, ground := Go.Ground.textOnly Go.Departure.lateStores }, { on := 22, ground := Go.Ground.textOnly Go.Departure.lateStores }, { on := 23, ground := Go.Ground.textOnly Go.Departure.lateStoresUnsure }, { on := 24, ground := Go.Ground.phase }, { on := 25, ground := Go.Ground.phase }, { on := 26, ground := Go.Ground.phase }], guard := none }) (v := ?vt90) rfl (by kernel_rfl) (by kernel_rfl) (by kernel_rfl) (fun _ _ _ h => h) (Or.inl ⟨by rfl, ?hyt90⟩) (by assumption) ?restt90
          case hyt90 => (intro w hSw; (try dsimp only at hSw); go_simp; try (with_reducible rfl))
          simp only [Act.put, List.setIfInBounds_toArray, List.set_cons_zero, List.set_cons_succ]
          refine wpAnyH_ready (rs := [14, 29]) (by kernel_rfl) (by simp) ?_
          refine AllReadyH.cons (o := { dst := some 62, op := Go.Op.load 22 (Go.Operand.tmp 61), type := 22, pos := "more.go:40", after := #[{ on := 13, ground := Go.Ground.data }], guard := none }) rfl (fun K hK => ?_) (AllReadyH.cons (o := { dst := none, op := Go.Op.store 22 (Go.Operand.tmp 75) (Go.Operand.tmp 59), type := 0, pos := "more.go:40", after := #[{ on := 28, ground := Go.Ground.data }, { on := 11, ground := Go.Ground.data }, { on := 26, ground := Go.Ground.chain }, { on := 0, ground := Go.Ground.phase }, { on := 1, ground := Go.Ground.phase }, { on := 2, ground := Go.Ground.phase }, { on := 3, ground := Go.Ground.phase }, { on := 4, ground := Go.Ground.phase }, { on := 5, ground := Go.Ground.phase }, { on := 6, ground := Go.Ground.phase }, { on := 7, ground := Go.Ground.phase }, { on := 8, ground := Go.Ground.phase }, { on := 9, ground := Go.Ground.phase }, { on := 10, ground := Go.Ground.phase }, { on := 11, ground := Go.Ground.phase }, { on := 12, ground := Go.Ground.textOnly Go.Departure.lateStores }, { on := 13, ground := Go.Ground.textOnly Go.Departure.lateStores }, { on := 14, ground := Go.Ground.textOnly Go.Departure.lateStoresUnsure }, { on := 15, ground := Go.Ground.textOnly Go.Departure.lateStores }, { on := 16, ground := Go.Ground.textOnly Go.Departure.lateStores }, { on := 17, ground := Go.Ground.textOnly Go.Departure.lateStoresUnsure }, { on := 18, ground := Go.Ground.phase }, { on := 19, ground := Go.Ground.phase }, { on := 20, ground := Go.Ground.phase }, { on := 21, ground := Go.Ground.textOnly Go.Departure.lateStores }, { on := 22, ground := Go.Ground.textOnly Go.Departure.lateStores }, { on := 23, ground := Go.Ground.textOnly Go.Departure.lateStoresUnsure }, { on := 24, ground := Go.Ground.phase }, { on := 25, ground := Go.Ground.phase }, { on := 26, ground := Go.Ground.phase }], guard := none }) rfl (fun K hK => ?_) AllReadyH.nil)
          · go_simp
            refine hK.out _ _ hH88 (fun _ => ?_)
            clear hK K
            simp only [List.setIfInBounds_toArray, List.set_cons_zero, List.set_cons_succ]
            refine wpAnyH_take (i := 17) (oi := { dst := some 65, op := Go.Op.binOp Go.BinOp.add 22 (Go.Operand.tmp 62) (Go.Operand.tmp 64) 22, type := 22, pos := "more.go:40", after := #[{ on := 14, ground := Go.Ground.data }, { on := 16, ground := Go.Ground.data }], guard := none }) (v := ?vt91) rfl (by kernel_rfl) (by kernel_rfl) (by kernel_rfl) (fun _ _ _ h => h) (Or.inl ⟨by rfl, ?hyt91⟩) (by assumption) ?restt91
            case hyt91 => (intro w hSw; (try dsimp only at hSw); go_simp; try (with_reducible rfl))
            simp only [Act.put, List.setIfInBounds_toArray, List.set_cons_zero, List.set_cons_succ]
            refine wpAnyH_ready (rs := [29]) (by kernel_rfl) (by simp) ?_
            refine AllReadyH.cons (o := { dst := none, op := Go.Op.store 22 (Go.Operand.tmp 75) (Go.Operand.tmp 59), type := 0, pos := "more.go:40", after := #[{ on := 28, ground := Go.Ground.data }, { on := 11, ground := Go.Ground.data }, { on := 26, ground := Go.Ground.chain }, { on := 0, ground := Go.Ground.phase }, { on := 1, ground := Go.Ground.phase }, { on := 2, ground := Go.Ground.phase }, { on := 3, ground := Go.Ground.phase }, { on := 4, ground := Go.Ground.phase }, { on := 5, ground := Go.Ground.phase }, { on := 6, ground := Go.Ground.phase }, { on := 7, ground := Go.Ground.phase }, { on := 8, ground := Go.Ground.phase }, { on := 9, ground := Go.Ground.phase }, { on := 10, ground := Go.Ground.phase }, { on := 11, ground := Go.Ground.phase }, { on := 12, ground := Go.Ground.textOnly Go.Departure.lateStores }, { on := 13, ground := Go.Ground.textOnly Go.Departure.lateStores }, { on := 14, ground := Go.Ground.textOnly Go.Departure.lateStoresUnsure }, { on := 15, ground := Go.Ground.textOnly Go.Departure.lateStores }, { on := 16, ground := Go.Ground.textOnly Go.Departure.lateStores }, { on := 17, ground := Go.Ground.textOnly Go.Departure.lateStoresUnsure }, { on := 18, ground := Go.Ground.phase }, { on := 19, ground := Go.Ground.phase }, { on := 20, ground := Go.Ground.phase }, { on := 21, ground := Go.Ground.textOnly Go.Departure.lateStores }, { on := 22, ground := Go.Ground.textOnly Go.Departure.lateStores }, { on := 23, ground := Go.Ground.textOnly Go.Departure.lateStoresUnsure }, { on := 24, ground := Go.Ground.phase }, { on := 25, ground := Go.Ground.phase }, { on := 26, ground := Go.Ground.phase }], guard := none }) rfl (fun K hK => ?_) AllReadyH.nil
            · go_simp
              refine hK.out _ _ (SW.out _ (w.heap.size) 5 _ (by omega) hH88) (fun hH92 => ?_)
              clear hK K
              simp only [List.setIfInBounds_toArray, List.set_cons_zero, List.set_cons_succ]
              refine wpAnyH_take (i := 30) (oi := { dst := some 76, op := Go.Op.fieldAddr 26 (Go.Operand.tmp 4) 3, type := 0, pos := "more.go:40", after := #[{ on := 0, ground := Go.Ground.phase }, { on := 1, ground := Go.Ground.phase }, { on := 2, ground := Go.Ground.phase }, { on := 3, ground := Go.Ground.phase }, { on := 4, ground := Go.Ground.phase }, { on := 5, ground := Go.Ground.phase }, { on := 6, ground := Go.Ground.phase }, { on := 7, ground := Go.Ground.phase }, { on := 8, ground := Go.Ground.phase }, { on := 9, ground := Go.Ground.phase }, { on := 10, ground := Go.Ground.phase }, { on := 11, ground := Go.Ground.phase }, { on := 12, ground := Go.Ground.phase }, { on := 13, ground := Go.Ground.phase }, { on := 14, ground := Go.Ground.phase }, { on := 15, ground := Go.Ground.phase }, { on := 16, ground := Go.Ground.phase }, { on := 17, ground := Go.Ground.phase }, { on := 18, ground := Go.Ground.phase }, { on := 19, ground := Go.Ground.phase }, { on := 20, ground := Go.Ground.phase }, { on := 21, ground := Go.Ground.textOnly Go.Departure.lateStores }, { on := 22, ground := Go.Ground.textOnly Go.Departure.lateStores }, { on := 23, ground := Go.Ground.textOnly Go.Departure.lateStoresUnsure }, { on := 24, ground := Go.Ground.phase }, { on := 25, ground := Go.Ground.phase }, { on := 26, ground := Go.Ground.phase }, { on := 27, ground := Go.Ground.phase }, { on := 28, ground := Go.Ground.phase }, { on := 29, ground := Go.Ground.phase }], guard := none }) (v := ?vt93) rfl (by kernel_rfl) (by kernel_rfl) (by kernel_rfl) (fun _ _ _ h => h) (Or.inl ⟨by rfl, ?hyt93⟩) (by assumption) ?restt93
              case hyt93 => (intro w hSw; (try dsimp only at hSw); go_simp; try (with_reducible rfl))
              simp only [Act.put, List.setIfInBounds_toArray, List.set_cons_zero, List.set_cons_succ]
              refine wpAnyH_take (i := 31) (oi := { dst := some 77, op := Go.Op.fieldAddr 24 (Go.Operand.tmp 76) 0, type := 0, pos := "more.go:40", after := #[{ on := 30, ground := Go.Ground.data }, { on := 0, ground := Go.Ground.phase }, { on := 1, ground := Go.Ground.phase }, { on := 2, ground := Go.Ground.phase }, { on := 3, ground := Go.Ground.phase }, { on := 4, ground := Go.Ground.phase }, { on := 5, ground := Go.Ground.phase }, { on := 6, ground := Go.Ground.phase }, { on := 7, ground := Go.Ground.phase }, { on := 8, ground := Go.Ground.phase }, { on := 9, ground := Go.Ground.phase }, { on := 10, ground := Go.Ground.phase }, { on := 11, ground := Go.Ground.phase }, { on := 12, ground := Go.Ground.phase }, { on := 13, ground := Go.Ground.phase }, { on := 14, ground := Go.Ground.phase }, { on := 15, ground := Go.Ground.phase }, { on := 16, ground := Go.Ground.phase }, { on := 17, ground := Go.Ground.phase }, { on := 18, ground := Go.Ground.phase }, { on := 19, ground := Go.Ground.phase }, { on := 20, ground := Go.Ground.phase }, { on := 21, ground := Go.Ground.textOnly Go.Departure.lateStores }, { on := 22, ground := Go.Ground.textOnly Go.Departure.lateStores }, { on := 23, ground := Go.Ground.textOnly Go.Departure.lateStoresUnsure }, { on := 24, ground := Go.Ground.phase }, { on := 25, ground := Go.Ground.phase }, { on := 26, ground := Go.Ground.phase }, { on := 27, ground := Go.Ground.phase }, { on := 28, ground := Go.Ground.phase }, { on := 29, ground := Go.Ground.phase }], guard := none }) (v := ?vt94) rfl (by kernel_rfl) (by kernel_rfl) (by kernel_rfl) (fun _ _ _ h => h) (Or.inl ⟨by rfl, ?hyt94⟩) (by assumption) ?restt94
              case hyt94 => (intro w hSw; (try dsimp only at hSw); go_simp; try (with_reducible rfl))
              simp only [Act.put, List.setIfInBounds_toArray, List.set_cons_zero, List.set_cons_succ]
              refine wpAnyH_ready (rs := [32]) (by kernel_rfl) (by simp) ?_
              refine AllReadyH.cons (o := { dst := none, op := Go.Op.store 22 (Go.Operand.tmp 77) (Go.Operand.tmp 65), type := 0, pos := "more.go:40", after := #[{ on := 31, ground := Go.Ground.data }, { on := 17, ground := Go.Ground.data }, { on := 29, ground := Go.Ground.chain }, { on := 0, ground := Go.Ground.phase }, { on := 1, ground := Go.Ground.phase }, { on := 2, ground := Go.Ground.phase }, { on := 3, ground := Go.Ground.phase }, { on := 4, ground := Go.Ground.phase }, { on := 5, ground := Go.Ground.phase }, { on := 6, ground := Go.Ground.phase }, { on := 7, ground := Go.Ground.phase }, { on := 8, ground := Go.Ground.phase }, { on := 9, ground := Go.Ground.phase }, { on := 10, ground := Go.Ground.phase }, { on := 11, ground := Go.Ground.phase }, { on := 12, ground := Go.Ground.phase }, { on := 13, ground := Go.Ground.phase }, { on := 14, ground := Go.Ground.phase }, { on := 15, ground := Go.Ground.phase }, { on := 16, ground := Go.Ground.phase }, { on := 17, ground := Go.Ground.phase }, { on := 18, ground := Go.Ground.phase }, { on := 19, ground := Go.Ground.phase }, { on := 20, ground := Go.Ground.phase }, { on := 21, ground := Go.Ground.textOnly Go.Departure.lateStores }, { on := 22, ground := Go.Ground.textOnly Go.Departure.lateStores }, { on := 23, ground := Go.Ground.textOnly Go.Departure.lateStoresUnsure }, { on := 24, ground := Go.Ground.phase }, { on := 25, ground := Go.Ground.phase }, { on := 26, ground := Go.Ground.phase }, { on := 27, ground := Go.Ground.phase }, { on := 28, ground := Go.Ground.phase }, { on := 29, ground := Go.Ground.phase }], guard := none }) rfl (fun K hK => ?_) AllReadyH.nil
              · go_simp
                refine hK.out _ _ (SW.out _ (w.heap.size + 1) 4 _ (by omega) hH92) (fun hH95 => ?_)
                clear hK K
                simp only [List.setIfInBounds_toArray, List.set_cons_zero, List.set_cons_succ]
                refine wpAnyH_take (i := 33) (oi := { dst := some 78, op := Go.Op.fieldAddr 26 (Go.Operand.tmp 4) 3, type := 0, pos := "more.go:40", after := #[{ on := 0, ground := Go.Ground.phase }, { on := 1, ground := Go.Ground.phase }, { on := 2, ground := Go.Ground.phase }, { on := 3, ground := Go.Ground.phase }, { on := 4, ground := Go.Ground.phase }, { on := 5, ground := Go.Ground.phase }, { on := 6, ground := Go.Ground.phase }, { on := 7, ground := Go.Ground.phase }, { on := 8, ground := Go.Ground.phase }, { on := 9, ground := Go.Ground.phase }, { on := 10, ground := Go.Ground.phase }, { on := 11, ground := Go.Ground.phase }, { on := 12, ground := Go.Ground.phase }, { on := 13, ground := Go.Ground.phase }, { on := 14, ground := Go.Ground.phase }, { on := 15, ground := Go.Ground.phase }, { on := 16, ground := Go.Ground.phase }, { on := 17, ground := Go.Ground.phase }, { on := 18, ground := Go.Ground.phase }, { on := 19, ground := Go.Ground.phase }, { on := 20, ground := Go.Ground.phase }, { on := 21, ground := Go.Ground.phase }, { on := 22, ground := Go.Ground.phase }, { on := 23, ground := Go.Ground.phase }, { on := 24, ground := Go.Ground.phase }, { on := 25, ground := Go.Ground.phase }, { on := 26, ground := Go.Ground.phase }, { on := 27, ground := Go.Ground.phase }, { on := 28, ground := Go.Ground.phase }, { on := 29, ground := Go.Ground.phase }, { on := 30, ground := Go.Ground.phase }, { on := 31, ground := Go.Ground.phase }, { on := 32, ground := Go.Ground.phase }], guard := none }) (v := ?vt96) rfl (by kernel_rfl) (by kernel_rfl) (by kernel_rfl) (fun _ _ _ h => h) (Or.inl ⟨by rfl, ?hyt96⟩) (by assumption) ?restt96
                case hyt96 => (intro w hSw; (try dsimp only at hSw); go_simp; try (with_reducible rfl))
                simp only [Act.put, List.setIfInBounds_toArray, List.set_cons_zero, List.set_cons_succ]
                refine wpAnyH_take (i := 34) (oi := { dst := some 79, op := Go.Op.fieldAddr 24 (Go.Operand.tmp 78) 1, type := 0, pos := "more.go:40", after := #[{ on := 33, ground := Go.Ground.data }, { on := 0, ground := Go.Ground.phase }, { on := 1, ground := Go.Ground.phase }, { on := 2, ground := Go.Ground.phase }, { on := 3, ground := Go.Ground.phase }, { on := 4, ground := Go.Ground.phase }, { on := 5, ground := Go.Ground.phase }, { on := 6, ground := Go.Ground.phase }, { on := 7, ground := Go.Ground.phase }, { on := 8, ground := Go.Ground.phase }, { on := 9, ground := Go.Ground.phase }, { on := 10, ground := Go.Ground.phase }, { on := 11, ground := Go.Ground.phase }, { on := 12, ground := Go.Ground.phase }, { on := 13, ground := Go.Ground.phase }, { on := 14, ground := Go.Ground.phase }, { on := 15, ground := Go.Ground.phase }, { on := 16, ground := Go.Ground.phase }, { on := 17, ground := Go.Ground.phase }, { on := 18, ground := Go.Ground.phase }, { on := 19, ground := Go.Ground.phase }, { on := 20, ground := Go.Ground.phase }, { on := 21, ground := Go.Ground.phase }, { on := 22, ground := Go.Ground.phase }, { on := 23, ground := Go.Ground.phase }, { on := 24, ground := Go.Ground.phase }, { on := 25, ground := Go.Ground.phase }, { on := 26, ground := Go.Ground.phase }, { on := 27, ground := Go.Ground.phase }, { on := 28, ground := Go.Ground.phase }, { on := 29, ground := Go.Ground.phase }, { on := 30, ground := Go.Ground.phase }, { on := 31, ground := Go.Ground.phase }, { on := 32, ground := Go.Ground.phase }], guard := none }) (v := ?vt97) rfl (by kernel_rfl) (by kernel_rfl) (by kernel_rfl) (fun _ _ _ h => h) (Or.inl ⟨by rfl, ?hyt97⟩) (by assumption) ?restt97
                case hyt97 => (intro w hSw; (try dsimp only at hSw); go_simp; try (with_reducible rfl))
                simp only [Act.put, List.setIfInBounds_toArray, List.set_cons_zero, List.set_cons_succ]
                refine wpAnyH_ready (rs := [35]) (by kernel_rfl) (by simp) ?_
                refine AllReadyH.cons (o := { dst := none, op := Go.Op.store 22 (Go.Operand.tmp 79) (Go.Operand.tmp 71), type := 0, pos := "more.go:40", after := #[{ on := 34, ground := Go.Ground.data }, { on := 23, ground := Go.Ground.data }, { on := 32, ground := Go.Ground.chain }, { on := 0, ground := Go.Ground.phase }, { on := 1, ground := Go.Ground.phase }, { on := 2, ground := Go.Ground.phase }, { on := 3, ground := Go.Ground.phase }, { on := 4, ground := Go.Ground.phase }, { on := 5, ground := Go.Ground.phase }, { on := 6, ground := Go.Ground.phase }, { on := 7, ground := Go.Ground.phase }, { on := 8, ground := Go.Ground.phase }, { on := 9, ground := Go.Ground.phase }, { on := 10, ground := Go.Ground.phase }, { on := 11, ground := Go.Ground.phase }, { on := 12, ground := Go.Ground.phase }, { on := 13, ground := Go.Ground.phase }, { on := 14, ground := Go.Ground.phase }, { on := 15, ground := Go.Ground.phase }, { on := 16, ground := Go.Ground.phase }, { on := 17, ground := Go.Ground.phase }, { on := 18, ground := Go.Ground.phase }, { on := 19, ground := Go.Ground.phase }, { on := 20, ground := Go.Ground.phase }, { on := 21, ground := Go.Ground.phase }, { on := 22, ground := Go.Ground.phase }, { on := 23, ground := Go.Ground.phase }, { on := 24, ground := Go.Ground.phase }, { on := 25, ground := Go.Ground.phase }, { on := 26, ground := Go.Ground.phase }, { on := 27, ground := Go.Ground.phase }, { on := 28, ground := Go.Ground.phase }, { on := 29, ground := Go.Ground.phase }, { on := 30, ground := Go.Ground.phase }, { on := 31, ground := Go.Ground.phase }, { on := 32, ground := Go.Ground.phase }], guard := none }) rfl (fun K hK => ?_) AllReadyH.nil
                · go_simp
                  refine hK.out _ _ (SW.out _ (w.heap.size + 1) 5 _ (by omega) hH95) (fun hH98 => ?_)
                  clear hK K
                  simp only [List.setIfInBounds_toArray, List.set_cons_zero, List.set_cons_succ]
                  refine wpAnyH_done (by kernel_rfl) ?_ _
                  go_wp2_with (fail)
                  go_meet
                  case rel => first | rfl | rw [w1.out, w2.out, w3.out, w4.out]
          · go_simp
            refine hK.out _ _ (SW.out _ (w.heap.size) 5 _ (by omega) hH88) (fun hH99 => ?_)
            clear hK K
            simp only [List.setIfInBounds_toArray, List.set_cons_zero, List.set_cons_succ]
            refine wpAnyH_ready (rs := [14]) (by kernel_rfl) (by simp) ?_
            refine AllReadyH.cons (o := { dst := some 62, op := Go.Op.load 22 (Go.Operand.tmp 61), type := 22, pos := "more.go:40", after := #[{ on := 13, ground := Go.Ground.data }], guard := none }) rfl (fun K hK => ?_) AllReadyH.nil
            · go_simp
              refine hK.out _ _ hH99 (fun _ => ?_)
              clear hK K
              simp only [List.setIfInBounds_toArray, List.set_cons_zero, List.set_cons_succ]
              refine wpAnyH_take (i := 17) (oi := { dst := some 65, op := Go.Op.binOp Go.BinOp.add 22 (Go.Operand.tmp 62) (Go.Operand.tmp 64) 22, type := 22, pos := "more.go:40", after := #[{ on := 14, ground := Go.Ground.data }, { on := 16, ground := Go.Ground.data }], guard := none }) (v := ?vt100) rfl (by kernel_rfl) (by kernel_rfl) (by kernel_rfl) (fun _ _ _ h => h) (Or.inl ⟨by rfl, ?hyt100⟩) (by assumption) ?restt100
              case hyt100 => (intro w hSw; (try dsimp only at hSw); go_simp; try (with_reducible rfl))
              simp only [Act.put, List.setIfInBounds_toArray, List.set_cons_zero, List.set_cons_succ]
              refine wpAnyH_take (i := 30) (oi := { dst := some 76, op := Go.Op.fieldAddr 26 (Go.Operand.tmp 4) 3, type := 0, pos := "more.go:40", after := #[{ on := 0, ground := Go.Ground.phase }, { on := 1, ground := Go.Ground.phase }, { on := 2, ground := Go.Ground.phase }, { on := 3, ground := Go.Ground.phase }, { on := 4, ground := Go.Ground.phase }, { on := 5, ground := Go.Ground.phase }, { on := 6, ground := Go.Ground.phase }, { on := 7, ground := Go.Ground.phase }, { on := 8, ground := Go.Ground.phase }, { on := 9, ground := Go.Ground.phase }, { on := 10, ground := Go.Ground.phase }, { on := 11, ground := Go.Ground.phase }, { on := 12, ground := Go.Ground.phase }, { on := 13, ground := Go.Ground.phase }, { on := 14, ground := Go.Ground.phase }, { on := 15, ground := Go.Ground.phase }, { on := 16, ground := Go.Ground.phase }, { on := 17, ground := Go.Ground.phase }, { on := 18, ground := Go.Ground.phase }, { on := 19, ground := Go.Ground.phase }, { on := 20, ground := Go.Ground.phase }, { on := 21, ground := Go.Ground.textOnly Go.Departure.lateStores }, { on := 22, ground := Go.Ground.textOnly Go.Departure.lateStores }, { on := 23, ground := Go.Ground.textOnly Go.Departure.lateStoresUnsure }, { on := 24, ground := Go.Ground.phase }, { on := 25, ground := Go.Ground.phase }, { on := 26, ground := Go.Ground.phase }, { on := 27, ground := Go.Ground.phase }, { on := 28, ground := Go.Ground.phase }, { on := 29, ground := Go.Ground.phase }], guard := none }) (v := ?vt101) rfl (by kernel_rfl) (by kernel_rfl) (by kernel_rfl) (fun _ _ _ h => h) (Or.inl ⟨by rfl, ?hyt101⟩) (by assumption) ?restt101
              case hyt101 => (intro w hSw; (try dsimp only at hSw); go_simp; try (with_reducible rfl))
              simp only [Act.put, List.setIfInBounds_toArray, List.set_cons_zero, List.set_cons_succ]
              refine wpAnyH_take (i := 31) (oi := { dst := some 77, op := Go.Op.fieldAddr 24 (Go.Operand.tmp 76) 0, type := 0, pos := "more.go:40", after := #[{ on := 30, ground := Go.Ground.data }, { on := 0, ground := Go.Ground.phase }, { on := 1, ground := Go.Ground.phase }, { on := 2, ground := Go.Ground.phase }, { on := 3, ground := Go.Ground.phase }, { on := 4, ground := Go.Ground.phase }, { on := 5, ground := Go.Ground.phase }, { on := 6, ground := Go.Ground.phase }, { on := 7, ground := Go.Ground.phase }, { on := 8, ground := Go.Ground.phase }, { on := 9, ground := Go.Ground.phase }, { on := 10, ground := Go.Ground.phase }, { on := 11, ground := Go.Ground.phase }, { on := 12, ground := Go.Ground.phase }, { on := 13, ground := Go.Ground.phase }, { on := 14, ground := Go.Ground.phase }, { on := 15, ground := Go.Ground.phase }, { on := 16, ground := Go.Ground.phase }, { on := 17, ground := Go.Ground.phase }, { on := 18, ground := Go.Ground.phase }, { on := 19, ground := Go.Ground.phase }, { on := 20, ground := Go.Ground.phase }, { on := 21, ground := Go.Ground.textOnly Go.Departure.lateStores }, { on := 22, ground := Go.Ground.textOnly Go.Departure.lateStores }, { on := 23, ground := Go.Ground.textOnly Go.Departure.lateStoresUnsure }, { on := 24, ground := Go.Ground.phase }, { on := 25, ground := Go.Ground.phase }, { on := 26, ground := Go.Ground.phase }, { on := 27, ground := Go.Ground.phase }, { on := 28, ground := Go.Ground.phase }, { on := 29, ground := Go.Ground.phase }], guard := none }) (v := ?vt102) rfl (by kernel_rfl) (by kernel_rfl) (by kernel_rfl) (fun _ _ _ h => h) (Or.inl ⟨by rfl, ?hyt102⟩) (by assumption) ?restt102
              case hyt102 => (intro w hSw; (try dsimp only at hSw); go_simp; try (with_reducible rfl))
              simp only [Act.put, List.setIfInBounds_toArray, List.set_cons_zero, List.set_cons_succ]
              refine wpAnyH_ready (rs := [32]) (by kernel_rfl) (by simp) ?_
              refine AllReadyH.cons (o := { dst := none, op := Go.Op.store 22 (Go.Operand.tmp 77) (Go.Operand.tmp 65), type := 0, pos := "more.go:40", after := #[{ on := 31, ground := Go.Ground.data }, { on := 17, ground := Go.Ground.data }, { on := 29, ground := Go.Ground.chain }, { on := 0, ground := Go.Ground.phase }, { on := 1, ground := Go.Ground.phase }, { on := 2, ground := Go.Ground.phase }, { on := 3, ground := Go.Ground.phase }, { on := 4, ground := Go.Ground.phase }, { on := 5, ground := Go.Ground.phase }, { on := 6, ground := Go.Ground.phase }, { on := 7, ground := Go.Ground.phase }, { on := 8, ground := Go.Ground.phase }, { on := 9, ground := Go.Ground.phase }, { on := 10, ground := Go.Ground.phase }, { on := 11, ground := Go.Ground.phase }, { on := 12, ground := Go.Ground.phase }, { on := 13, ground := Go.Ground.phase }, { on := 14, ground := Go.Ground.phase }, { on := 15, ground := Go.Ground.phase }, { on := 16, ground := Go.Ground.phase }, { on := 17, ground := Go.Ground.phase }, { on := 18, ground := Go.Ground.phase }, { on := 19, ground := Go.Ground.phase }, { on := 20, ground := Go.Ground.phase }, { on := 21, ground := Go.Ground.textOnly Go.Departure.lateStores }, { on := 22, ground := Go.Ground.textOnly Go.Departure.lateStores }, { on := 23, ground := Go.Ground.textOnly Go.Departure.lateStoresUnsure }, { on := 24, ground := Go.Ground.phase }, { on := 25, ground := Go.Ground.phase }, { on := 26, ground := Go.Ground.phase }, { on := 27, ground := Go.Ground.phase }, { on := 28, ground := Go.Ground.phase }, { on := 29, ground := Go.Ground.phase }], guard := none }) rfl (fun K hK => ?_) AllReadyH.nil
              · go_simp
                refine hK.out _ _ (SW.out _ (w.heap.size + 1) 4 _ (by omega) hH99) (fun hH103 => ?_)
                clear hK K
                simp only [List.setIfInBounds_toArray, List.set_cons_zero, List.set_cons_succ]
                refine wpAnyH_take (i := 33) (oi := { dst := some 78, op := Go.Op.fieldAddr 26 (Go.Operand.tmp 4) 3, type := 0, pos := "more.go:40", after := #[{ on := 0, ground := Go.Ground.phase }, { on := 1, ground := Go.Ground.phase }, { on := 2, ground := Go.Ground.phase }, { on := 3, ground := Go.Ground.phase }, { on := 4, ground := Go.Ground.phase }, { on := 5, ground := Go.Ground.phase }, { on := 6, ground := Go.Ground.phase }, { on := 7, ground := Go.Ground.phase }, { on := 8, ground := Go.Ground.phase }, { on := 9, ground := Go.Ground.phase }, { on := 10, ground := Go.Ground.phase }, { on := 11, ground := Go.Ground.phase }, { on := 12, ground := Go.Ground.phase }, { on := 13, ground := Go.Ground.phase }, { on := 14, ground := Go.Ground.phase }, { on := 15, ground := Go.Ground.phase }, { on := 16, ground := Go.Ground.phase }, { on := 17, ground := Go.Ground.phase }, { on := 18, ground := Go.Ground.phase }, { on := 19, ground := Go.Ground.phase }, { on := 20, ground := Go.Ground.phase }, { on := 21, ground := Go.Ground.phase }, { on := 22, ground := Go.Ground.phase }, { on := 23, ground := Go.Ground.phase }, { on := 24, ground := Go.Ground.phase }, { on := 25, ground := Go.Ground.phase }, { on := 26, ground := Go.Ground.phase }, { on := 27, ground := Go.Ground.phase }, { on := 28, ground := Go.Ground.phase }, { on := 29, ground := Go.Ground.phase }, { on := 30, ground := Go.Ground.phase }, { on := 31, ground := Go.Ground.phase }, { on := 32, ground := Go.Ground.phase }], guard := none }) (v := ?vt104) rfl (by kernel_rfl) (by kernel_rfl) (by kernel_rfl) (fun _ _ _ h => h) (Or.inl ⟨by rfl, ?hyt104⟩) (by assumption) ?restt104
                case hyt104 => (intro w hSw; (try dsimp only at hSw); go_simp; try (with_reducible rfl))
                simp only [Act.put, List.setIfInBounds_toArray, List.set_cons_zero, List.set_cons_succ]
                refine wpAnyH_take (i := 34) (oi := { dst := some 79, op := Go.Op.fieldAddr 24 (Go.Operand.tmp 78) 1, type := 0, pos := "more.go:40", after := #[{ on := 33, ground := Go.Ground.data }, { on := 0, ground := Go.Ground.phase }, { on := 1, ground := Go.Ground.phase }, { on := 2, ground := Go.Ground.phase }, { on := 3, ground := Go.Ground.phase }, { on := 4, ground := Go.Ground.phase }, { on := 5, ground := Go.Ground.phase }, { on := 6, ground := Go.Ground.phase }, { on := 7, ground := Go.Ground.phase }, { on := 8, ground := Go.Ground.phase }, { on := 9, ground := Go.Ground.phase }, { on := 10, ground := Go.Ground.phase }, { on := 11, ground := Go.Ground.phase }, { on := 12, ground := Go.Ground.phase }, { on := 13, ground := Go.Ground.phase }, { on := 14, ground := Go.Ground.phase }, { on := 15, ground := Go.Ground.phase }, { on := 16, ground := Go.Ground.phase }, { on := 17, ground := Go.Ground.phase }, { on := 18, ground := Go.Ground.phase }, { on := 19, ground := Go.Ground.phase }, { on := 20, ground := Go.Ground.phase }, { on := 21, ground := Go.Ground.phase }, { on := 22, ground := Go.Ground.phase }, { on := 23, ground := Go.Ground.phase }, { on := 24, ground := Go.Ground.phase }, { on := 25, ground := Go.Ground.phase }, { on := 26, ground := Go.Ground.phase }, { on := 27, ground := Go.Ground.phase }, { on := 28, ground := Go.Ground.phase }, { on := 29, ground := Go.Ground.phase }, { on := 30, ground := Go.Ground.phase }, { on := 31, ground := Go.Ground.phase }, { on := 32, ground := Go.Ground.phase }], guard := none }) (v := ?vt105) rfl (by kernel_rfl) (by kernel_rfl) (by kernel_rfl) (fun _ _ _ h => h) (Or.inl ⟨by rfl, ?hyt105⟩) (by assumption) ?restt105
                case hyt105 => (intro w hSw; (try dsimp only at hSw); go_simp; try (with_reducible rfl))
                simp only [Act.put, List.setIfInBounds_toArray, List.set_cons_zero, List.set_cons_succ]
                refine wpAnyH_ready (rs := [35]) (by kernel_rfl) (by simp) ?_
                refine AllReadyH.cons (o := { dst := none, op := Go.Op.store 22 (Go.Operand.tmp 79) (Go.Operand.tmp 71), type := 0, pos := "more.go:40", after := #[{ on := 34, ground := Go.Ground.data }, { on := 23, ground := Go.Ground.data }, { on := 32, ground := Go.Ground.chain }, { on := 0, ground := Go.Ground.phase }, { on := 1, ground := Go.Ground.phase }, { on := 2, ground := Go.Ground.phase }, { on := 3, ground := Go.Ground.phase }, { on := 4, ground := Go.Ground.phase }, { on := 5, ground := Go.Ground.phase }, { on := 6, ground := Go.Ground.phase }, { on := 7, ground := Go.Ground.phase }, { on := 8, ground := Go.Ground.phase }, { on := 9, ground := Go.Ground.phase }, { on := 10, ground := Go.Ground.phase }, { on := 11, ground := Go.Ground.phase }, { on := 12, ground := Go.Ground.phase }, { on := 13, ground := Go.Ground.phase }, { on := 14, ground := Go.Ground.phase }, { on := 15, ground := Go.Ground.phase }, { on := 16, ground := Go.Ground.phase }, { on := 17, ground := Go.Ground.phase }, { on := 18, ground := Go.Ground.phase }, { on := 19, ground := Go.Ground.phase }, { on := 20, ground := Go.Ground.phase }, { on := 21, ground := Go.Ground.phase }, { on := 22, ground := Go.Ground.phase }, { on := 23, ground := Go.Ground.phase }, { on := 24, ground := Go.Ground.phase }, { on := 25, ground := Go.Ground.phase }, { on := 26, ground := Go.Ground.phase }, { on := 27, ground := Go.Ground.phase }, { on := 28, ground := Go.Ground.phase }, { on := 29, ground := Go.Ground.phase }, { on := 30, ground := Go.Ground.phase }, { on := 31, ground := Go.Ground.phase }, { on := 32, ground := Go.Ground.phase }], guard := none }) rfl (fun K hK => ?_) AllReadyH.nil
                · go_simp
                  refine hK.out _ _ (SW.out _ (w.heap.size + 1) 5 _ (by omega) hH103) (fun hH106 => ?_)
                  clear hK K
                  simp only [List.setIfInBounds_toArray, List.set_cons_zero, List.set_cons_succ]
                  refine wpAnyH_done (by kernel_rfl) ?_ _
                  go_wp2_with (fail)
                  go_meet
                  case rel => first | rfl | rw [w1.out, w2.out, w3.out, w4.out]
    case t =>
      refine wpAnyH_take (i := 24) (oi := { dst := some 72, op := Go.Op.fieldAddr 26 (Go.Operand.tmp 3) 3, type := 0, pos := "more.go:40", after := #[{ on := 0, ground := Go.Ground.phase }, { on := 1, ground := Go.Ground.phase }, { on := 2, ground := Go.Ground.phase }, { on := 3, ground := Go.Ground.phase }, { on := 4, ground := Go.Ground.phase }, { on := 5, ground := Go.Ground.phase }, { on := 6, ground := Go.Ground.phase }, { on := 7, ground := Go.Ground.phase }, { on := 8, ground := Go.Ground.phase }, { on := 9, ground := Go.Ground.textOnly Go.Departure.lateStores }, { on := 10, ground := Go.Ground.textOnly Go.Departure.lateStores }, { on := 11, ground := Go.Ground.textOnly Go.Departure.lateStoresUnsure }, { on := 12, ground := Go.Ground.textOnly Go.Departure.lateStores }, { on := 13, ground := Go.Ground.textOnly Go.Departure.lateStores }, { on := 14, ground := Go.Ground.textOnly Go.Departure.lateStoresUnsure }, { on := 15, ground := Go.Ground.textOnly Go.Departure.lateStores }, { on := 16, ground := Go.Ground.textOnly Go.Departure.lateStores }, { on := 17, ground := Go.Ground.textOnly Go.Departure.lateStoresUnsure }, { on := 18, ground := Go.Ground.phase }, { on := 19, ground := Go.Ground.phase }, { on := 20, ground := Go.Ground.phase }, { on := 21, ground := Go.Ground.textOnly Go.Departure.lateStores }, { on := 22, ground := Go.Ground.textOnly Go.Departure.lateStores }, { on := 23, ground := Go.Ground.textOnly Go.Departure.lateStoresUnsure }], guard := none }) (v := ?vt107) rfl (by kernel_rfl) (by kernel_rfl) (by kernel_rfl) (fun _ _ _ h => h) (Or.inl ⟨by rfl, ?hyt107⟩) (by assumption) ?restt107
      case hyt107 => (intro w hSw; (try dsimp only at hSw); go_simp; try (with_reducible rfl))
      simp only [Act.put, List.setIfInBounds_toArray, List.set_cons_zero, List.set_cons_succ]
      refine wpAnyH_take (i := 25) (oi := { dst := some 73, op := Go.Op.fieldAddr 24 (Go.Operand.tmp 72) 0, type := 0, pos := "more.go:40", after := #[{ on := 24, ground := Go.Ground.data }, { on := 0, ground := Go.Ground.phase }, { on := 1, ground := Go.Ground.phase }, { on := 2, ground := Go.Ground.phase }, { on := 3, ground := Go.Ground.phase }, { on := 4, ground := Go.Ground.phase }, { on := 5, ground := Go.Ground.phase }, { on := 6, ground := Go.Ground.phase }, { on := 7, ground := Go.Ground.phase }, { on := 8, ground := Go.Ground.phase }, { on := 9, ground := Go.Ground.textOnly Go.Departure.lateStores }, { on := 10, ground := Go.Ground.textOnly Go.Departure.lateStores }, { on := 11, ground := Go.Ground.textOnly Go.Departure.lateStoresUnsure }, { on := 12, ground := Go.Ground.textOnly Go.Departure.lateStores }, { on := 13, ground := Go.Ground.textOnly Go.Departure.lateStores }, { on := 14, ground := Go.Ground.textOnly Go.Departure.lateStoresUnsure }, { on := 15, ground := Go.Ground.textOnly Go.Departure.lateStores }, { on := 16, ground := Go.Ground.textOnly Go.Departure.lateStores }, { on := 17, ground := Go.Ground.textOnly Go.Departure.lateStoresUnsure }, { on := 18, ground := Go.Ground.phase }, { on := 19, ground := Go.Ground.phase }, { on := 20, ground := Go.Ground.phase }, { on := 21, ground := Go.Ground.textOnly Go.Departure.lateStores }, { on := 22, ground := Go.Ground.textOnly Go.Departure.lateStores }, { on := 23, ground := Go.Ground.textOnly Go.Departure.lateStoresUnsure }], guard := none }) (v := ?vt108) rfl (by kernel_rfl) (by kernel_rfl) (by kernel_rfl) (fun _ _ _ h => h) (Or.inl ⟨by rfl, ?hyt108⟩) (by assumption) ?restt108
      case hyt108 => (intro w hSw; (try dsimp only at hSw); go_simp; try (with_reducible rfl))
      simp only [Act.put, List.setIfInBounds_toArray, List.set_cons_zero, List.set_cons_succ]
      refine wpAnyH_ready (rs := [26]) (by kernel_rfl) (by simp) ?_
      refine AllReadyH.cons (o := { dst := none, op := Go.Op.store 22 (Go.Operand.tmp 73) (Go.Operand.tmp 53), type := 0, pos := "more.go:40", after := #[{ on := 25, ground := Go.Ground.data }, { on := 5, ground := Go.Ground.data }, { on := 0, ground := Go.Ground.phase }, { on := 1, ground := Go.Ground.phase }, { on := 2, ground := Go.Ground.phase }, { on := 3, ground := Go.Ground.phase }, { on := 4, ground := Go.Ground.phase }, { on := 5, ground := Go.Ground.phase }, { on := 6, ground := Go.Ground.phase }, { on := 7, ground := Go.Ground.phase }, { on := 8, ground := Go.Ground.phase }, { on := 9, ground := Go.Ground.textOnly Go.Departure.lateStores }, { on := 10, ground := Go.Ground.textOnly Go.Departure.lateStores }, { on := 11, ground := Go.Ground.textOnly Go.Departure.lateStoresUnsure }, { on := 12, ground := Go.Ground.textOnly Go.Departure.lateStores }, { on := 13, ground := Go.Ground.textOnly Go.Departure.lateStores }, { on := 14, ground := Go.Ground.textOnly Go.Departure.lateStoresUnsure }, { on := 15, ground := Go.Ground.textOnly Go.Departure.lateStores }, { on := 16, ground := Go.Ground.textOnly Go.Departure.lateStores }, { on := 17, ground := Go.Ground.textOnly Go.Departure.lateStoresUnsure }, { on := 18, ground := Go.Ground.phase }, { on := 19, ground := Go.Ground.phase }, { on := 20, ground := Go.Ground.phase }, { on := 21, ground := Go.Ground.textOnly Go.Departure.lateStores }, { on := 22, ground := Go.Ground.textOnly Go.Departure.lateStores }, { on := 23, ground := Go.Ground.textOnly Go.Departure.lateStoresUnsure }], guard := none }) rfl (fun K hK => ?_) AllReadyH.nil
      · go_simp
        refine hK.out _ _ (SW.out _ (w.heap.size) 4 _ (by omega) hH0) (fun hH109 => ?_)
        clear hK K
        simp only [List.setIfInBounds_toArray, List.set_cons_zero, List.set_cons_succ]
        refine wpAnyH_take (i := 27) (oi := { dst := some 74, op := Go.Op.fieldAddr 26 (Go.Operand.tmp 3) 3, type := 0, pos := "more.go:40", after := #[{ on := 0, ground := Go.Ground.phase }, { on := 1, ground := Go.Ground.phase }, { on := 2, ground := Go.Ground.phase }, { on := 3, ground := Go.Ground.phase }, { on := 4, ground := Go.Ground.phase }, { on := 5, ground := Go.Ground.phase }, { on := 6, ground := Go.Ground.phase }, { on := 7, ground := Go.Ground.phase }, { on := 8, ground := Go.Ground.phase }, { on := 9, ground := Go.Ground.phase }, { on := 10, ground := Go.Ground.phase }, { on := 11, ground := Go.Ground.phase }, { on := 12, ground := Go.Ground.textOnly Go.Departure.lateStores }, { on := 13, ground := Go.Ground.textOnly Go.Departure.lateStores }, { on := 14, ground := Go.Ground.textOnly Go.Departure.lateStoresUnsure }, { on := 15, ground := Go.Ground.textOnly Go.Departure.lateStores }, { on := 16, ground := Go.Ground.textOnly Go.Departure.lateStores }, { on := 17, ground := Go.Ground.textOnly Go.Departure.lateStoresUnsure }, { on := 18, ground := Go.Ground.phase }, { on := 19, ground := Go.Ground.phase }, { on := 20, ground := Go.Ground.phase }, { on := 21, ground := Go.Ground.textOnly Go.Departure.lateStores }, { on := 22, ground := Go.Ground.textOnly Go.Departure.lateStores }, { on := 23, ground := Go.Ground.textOnly Go.Departure.lateStoresUnsure }, { on := 24, ground := Go.Ground.phase }, { on := 25, ground := Go.Ground.phase }, { on := 26, ground := Go.Ground.phase }], guard := none }) (v := ?vt110) rfl (by kernel_rfl) (by kernel_rfl) (by kernel_rfl) (fun _ _ _ h => h) (Or.inl ⟨by rfl, ?hyt110⟩) (by assumption) ?restt110
        case hyt110 => (intro w hSw; (try dsimp only at hSw); go_simp; try (with_reducible rfl))
        simp only [Act.put, List.setIfInBounds_toArray, List.set_cons_zero, List.set_cons_succ]
        refine wpAnyH_take (i := 28) (oi := { dst := some 75, op := Go.Op.fieldAddr 24 (Go.Operand.tmp 74) 1, type := 0, pos := "more.go:40", after := #[{ on := 27, ground := Go.Ground.data }, { on := 0, ground := Go.Ground.phase }, { on := 1, ground := Go.Ground.phase }, { on := 2, ground := Go.Ground.phase }, { on := 3, ground := Go.Ground.phase }, { on := 4, ground := Go.Ground.phase }, { on := 5, ground := Go.Ground.phase }, { on := 6, ground := Go.Ground.phase }, { on := 7, ground := Go.Ground.phase }, { on := 8, ground := Go.Ground.phase }, { on := 9, ground := Go.Ground.phase }, { on := 10, ground := Go.Ground.phase }, { on := 11, ground := Go.Ground.phase }, { on := 12, ground := Go.Ground.textOnly Go.Departure.lateStores }, { on := 13, ground := Go.Ground.textOnly Go.Departure.lateStores }, { on := 14, ground := Go.Ground.textOnly Go.Departure.lateStoresUnsure }, { on := 15, ground := Go.Ground.textOnly Go.Departure.lateStores }, { on := 16, ground := Go.Ground.textOnly Go.Departure.lateStores }, { on := 17, ground := Go.Ground.textOnly Go.Departure.lateStoresUnsure }, { on := 18, ground := Go.Ground.phase }, { on := 19, ground := Go.Ground.phase }, { on := 20, ground := Go.Ground.phase }, { on := 21, ground := Go.Ground.textOnly Go.Departure.lateStores }, { on := 22, ground := Go.Ground.textOnly Go.Departure.lateStores }, { on := 23, ground := Go.Ground.textOnly Go.Departure.lateStoresUnsure }, { on := 24, ground := Go.Ground.phase }, { on := 25, ground := Go.Ground.phase }, { on := 26, ground := Go.Ground.phase }], guard := none }) (v := ?vt111) rfl (by kernel_rfl) (by kernel_rfl) (by kernel_rfl) (fun _ _ _ h => h) (Or.inl ⟨by rfl, ?hyt111⟩) (by assumption) ?restt111
        case hyt111 => (intro w hSw; (try dsimp only at hSw); go_simp; try (with_reducible rfl))
        simp only [Act.put, List.setIfInBounds_toArray, List.set_cons_zero, List.set_cons_succ]
        refine wpAnyH_ready (rs := [29]) (by kernel_rfl) (by simp) ?_
        refine AllReadyH.cons (o := { dst := none, op := Go.Op.store 22 (Go.Operand.tmp 75) (Go.Operand.tmp 59), type := 0, pos := "more.go:40", after := #[{ on := 28, ground := Go.Ground.data }, { on := 11, ground := Go.Ground.data }, { on := 26, ground := Go.Ground.chain }, { on := 0, ground := Go.Ground.phase }, { on := 1, ground := Go.Ground.phase }, { on := 2, ground := Go.Ground.phase }, { on := 3, ground := Go.Ground.phase }, { on := 4, ground := Go.Ground.phase }, { on := 5, ground := Go.Ground.phase }, { on := 6, ground := Go.Ground.phase }, { on := 7, ground := Go.Ground.phase }, { on := 8, ground := Go.Ground.phase }, { on := 9, ground := Go.Ground.phase }, { on := 10, ground := Go.Ground.phase }, { on := 11, ground := Go.Ground.phase }, { on := 12, ground := Go.Ground.textOnly Go.Departure.lateStores }, { on := 13, ground := Go.Ground.textOnly Go.Departure.lateStores }, { on := 14, ground := Go.Ground.textOnly Go.Departure.lateStoresUnsure }, { on := 15, ground := Go.Ground.textOnly Go.Departure.lateStores }, { on := 16, ground := Go.Ground.textOnly Go.Departure.lateStores }, { on := 17, ground := Go.Ground.textOnly Go.Departure.lateStoresUnsure }, { on := 18, ground := Go.Ground.phase }, { on := 19, ground := Go.Ground.phase }, { on := 20, ground := Go.Ground.phase }, { on := 21, ground := Go.Ground.textOnly Go.Departure.lateStores }, { on := 22, ground := Go.Ground.textOnly Go.Departure.lateStores }, { on := 23, ground := Go.Ground.textOnly Go.Departure.lateStoresUnsure }, { on := 24, ground := Go.Ground.phase }, { on := 25, ground := Go.Ground.phase }, { on := 26, ground := Go.Ground.phase }], guard := none }) rfl (fun K hK => ?_) AllReadyH.nil
        · go_simp
          refine hK.out _ _ (SW.out _ (w.heap.size) 5 _ (by omega) hH109) (fun hH112 => ?_)
          clear hK K
          simp only [List.setIfInBounds_toArray, List.set_cons_zero, List.set_cons_succ]
          refine wpAnyH_take (i := 30) (oi := { dst := some 76, op := Go.Op.fieldAddr 26 (Go.Operand.tmp 4) 3, type := 0, pos := "more.go:40", after := #[{ on := 0, ground := Go.Ground.phase }, { on := 1, ground := Go.Ground.phase }, { on := 2, ground := Go.Ground.phase }, { on := 3, ground := Go.Ground.phase }, { on := 4, ground := Go.Ground.phase }, { on := 5, ground := Go.Ground.phase }, { on := 6, ground := Go.Ground.phase }, { on := 7, ground := Go.Ground.phase }, { on := 8, ground := Go.Ground.phase }, { on := 9, ground := Go.Ground.phase }, { on := 10, ground := Go.Ground.phase }, { on := 11, ground := Go.Ground.phase }, { on := 12, ground := Go.Ground.phase }, { on := 13, ground := Go.Ground.phase }, { on := 14, ground := Go.Ground.phase }, { on := 15, ground := Go.Ground.phase }, { on := 16, ground := Go.Ground.phase }, { on := 17, ground := Go.Ground.phase }, { on := 18, ground := Go.Ground.phase }, { on := 19, ground := Go.Ground.phase }, { on := 20, ground := Go.Ground.phase }, { on := 21, ground := Go.Ground.textOnly Go.Departure.lateStores }, { on := 22, ground := Go.Ground.textOnly Go.Departure.lateStores }, { on := 23, ground := Go.Ground.textOnly Go.Departure.lateStoresUnsure }, { on := 24, ground := Go.Ground.phase }, { on := 25, ground := Go.Ground.phase }, { on := 26, ground := Go.Ground.phase }, { on := 27, ground := Go.Ground.phase }, { on := 28, ground := Go.Ground.phase }, { on := 29, ground := Go.Ground.phase }], guard := none }) (v := ?vt113) rfl (by kernel_rfl) (by kernel_rfl) (by kernel_rfl) (fun _ _ _ h => h) (Or.inl ⟨by rfl, ?hyt113⟩) (by assumption) ?restt113
          case hyt113 => (intro w hSw; (try dsimp only at hSw); go_simp; try (with_reducible rfl))
          simp only [Act.put, List.setIfInBounds_toArray, List.set_cons_zero, List.set_cons_succ]
          refine wpAnyH_take (i := 31) (oi := { dst := some 77, op := Go.Op.fieldAddr 24 (Go.Operand.tmp 76) 0, type := 0, pos := "more.go:40", after := #[{ on := 30, ground := Go.Ground.data }, { on := 0, ground := Go.Ground.phase }, { on := 1, ground := Go.Ground.phase }, { on := 2, ground := Go.Ground.phase }, { on := 3, ground := Go.Ground.phase }, { on := 4, ground := Go.Ground.phase }, { on := 5, ground := Go.Ground.phase }, { on := 6, ground := Go.Ground.phase }, { on := 7, ground := Go.Ground.phase }, { on := 8, ground := Go.Ground.phase }, { on := 9, ground := Go.Ground.phase }, { on := 10, ground := Go.Ground.phase }, { on := 11, ground := Go.Ground.phase }, { on := 12, ground := Go.Ground.phase }, { on := 13, ground := Go.Ground.phase }, { on := 14, ground := Go.Ground.phase }, { on := 15, ground := Go.Ground.phase }, { on := 16, ground := Go.Ground.phase }, { on := 17, ground := Go.Ground.phase }, { on := 18, ground := Go.Ground.phase }, { on := 19, ground := Go.Ground.phase }, { on := 20, ground := Go.Ground.phase }, { on := 21, ground := Go.Ground.textOnly Go.Departure.lateStores }, { on := 22, ground := Go.Ground.textOnly Go.Departure.lateStores }, { on := 23, ground := Go.Ground.textOnly Go.Departure.lateStoresUnsure }, { on := 24, ground := Go.Ground.phase }, { on := 25, ground := Go.Ground.phase }, { on := 26, ground := Go.Ground.phase }, { on := 27, ground := Go.Ground.phase }, { on := 28, ground := Go.Ground.phase }, { on := 29, ground := Go.Ground.phase }], guard := none }) (v := ?vt114) rfl (by kernel_rfl) (by kernel_rfl) (by kernel_rfl) (fun _ _ _ h => h) (Or.inl ⟨by rfl, ?hyt114⟩) (by assumption) ?restt114
          case hyt114 => (intro w hSw; (try dsimp only at hSw); go_simp; try (with_reducible rfl))
          simp only [Act.put, List.setIfInBounds_toArray, List.set_cons_zero, List.set_cons_succ]
          refine wpAnyH_ready (rs := [32]) (by kernel_rfl) (by simp) ?_
          refine AllReadyH.cons (o := { dst := none, op := Go.Op.store 22 (Go.Operand.tmp 77) (Go.Operand.tmp 65), type := 0, pos := "more.go:40", after := #[{ on := 31, ground := Go.Ground.data }, { on := 17, ground := Go.Ground.data }, { on := 29, ground := Go.Ground.chain }, { on := 0, ground := Go.Ground.phase }, { on := 1, ground := Go.Ground.phase }, { on := 2, ground := Go.Ground.phase }, { on := 3, ground := Go.Ground.phase }, { on := 4, ground := Go.Ground.phase }, { on := 5, ground := Go.Ground.phase }, { on := 6, ground := Go.Ground.phase }, { on := 7, ground := Go.Ground.phase }, { on := 8, ground := Go.Ground.phase }, { on := 9, ground := Go.Ground.phase }, { on := 10, ground := Go.Ground.phase }, { on := 11, ground := Go.Ground.phase }, { on := 12, ground := Go.Ground.phase }, { on := 13, ground := Go.Ground.phase }, { on := 14, ground := Go.Ground.phase }, { on := 15, ground := Go.Ground.phase }, { on := 16, ground := Go.Ground.phase }, { on := 17, ground := Go.Ground.phase }, { on := 18, ground := Go.Ground.phase }, { on := 19, ground := Go.Ground.phase }, { on := 20, ground := Go.Ground.phase }, { on := 21, ground := Go.Ground.textOnly Go.Departure.lateStores }, { on := 22, ground := Go.Ground.textOnly Go.Departure.lateStores }, { on := 23, ground := Go.Ground.textOnly Go.Departure.lateStoresUnsure }, { on := 24, ground := Go.Ground.phase }, { on := 25, ground := Go.Ground.phase }, { on := 26, ground := Go.Ground.phase }, { on := 27, ground := Go.Ground.phase }, { on := 28, ground := Go.Ground.phase }, { on := 29, ground := Go.Ground.phase }], guard := none }) rfl (fun K hK => ?_) AllReadyH.nil
          · go_simp
            refine hK.out _ _ (SW.out _ (w.heap.size + 1) 4 _ (by omega) hH112) (fun hH115 => ?_)
            clear hK K
            simp only [List.setIfInBounds_toArray, List.set_cons_zero, List.set_cons_succ]
            refine wpAnyH_take (i := 33) (oi := { dst := some 78, op := Go.Op.fieldAddr 26 (Go.Operand.tmp 4) 3, type := 0, pos := "more.go:40", after := #[{ on := 0, ground := Go.Ground.phase }, { on := 1, ground := Go.Ground.phase }, { on := 2, ground := Go.Ground.phase }, { on := 3, ground := Go.Ground.phase }, { on := 4, ground := Go.Ground.phase }, { on := 5, ground := Go.Ground.phase }, { on := 6, ground := Go.Ground.phase }, { on := 7, ground := Go.Ground.phase }, { on := 8, ground := Go.Ground.phase }, { on := 9, ground := Go.Ground.phase }, { on := 10, ground := Go.Ground.phase }, { on := 11, ground := Go.Ground.phase }, { on := 12, ground := Go.Ground.phase }, { on := 13, ground := Go.Ground.phase }, { on := 14, ground := Go.Ground.phase }, { on := 15, ground := Go.Ground.phase }, { on := 16, ground := Go.Ground.phase }, { on := 17, ground := Go.Ground.phase }, { on := 18, ground := Go.Ground.phase }, { on := 19, ground := Go.Ground.phase }, { on := 20, ground := Go.Ground.phase }, { on := 21, ground := Go.Ground.phase }, { on := 22, ground := Go.Ground.phase }, { on := 23, ground := Go.Ground.phase }, { on := 24, ground := Go.Ground.phase }, { on := 25, ground := Go.Ground.phase }, { on := 26, ground := Go.Ground.phase }, { on := 27, ground := Go.Ground.phase }, { on := 28, ground := Go.Ground.phase }, { on := 29, ground := Go.Ground.phase }, { on := 30, ground := Go.Ground.phase }, { on := 31, ground := Go.Ground.phase }, { on := 32, ground := Go.Ground.phase }], guard := none }) (v := ?vt116) rfl (by kernel_rfl) (by kernel_rfl) (by kernel_rfl) (fun _ _ _ h => h) (Or.inl ⟨by rfl, ?hyt116⟩) (by assumption) ?restt116
            case hyt116 => (intro w hSw; (try dsimp only at hSw); go_simp; try (with_reducible rfl))
            simp only [Act.put, List.setIfInBounds_toArray, List.set_cons_zero, List.set_cons_succ]
            refine wpAnyH_take (i := 34) (oi := { dst := some 79, op := Go.Op.fieldAddr 24 (Go.Operand.tmp 78) 1, type := 0, pos := "more.go:40", after := #[{ on := 33, ground := Go.Ground.data }, { on := 0, ground := Go.Ground.phase }, { on := 1, ground := Go.Ground.phase }, { on := 2, ground := Go.Ground.phase }, { on := 3, ground := Go.Ground.phase }, { on := 4, ground := Go.Ground.phase }, { on := 5, ground := Go.Ground.phase }, { on := 6, ground := Go.Ground.phase }, { on := 7, ground := Go.Ground.phase }, { on := 8, ground := Go.Ground.phase }, { on := 9, ground := Go.Ground.phase }, { on := 10, ground := Go.Ground.phase }, { on := 11, ground := Go.Ground.phase }, { on := 12, ground := Go.Ground.phase }, { on := 13, ground := Go.Ground.phase }, { on := 14, ground := Go.Ground.phase }, { on := 15, ground := Go.Ground.phase }, { on := 16, ground := Go.Ground.phase }, { on := 17, ground := Go.Ground.phase }, { on := 18, ground := Go.Ground.phase }, { on := 19, ground := Go.Ground.phase }, { on := 20, ground := Go.Ground.phase }, { on := 21, ground := Go.Ground.phase }, { on := 22, ground := Go.Ground.phase }, { on := 23, ground := Go.Ground.phase }, { on := 24, ground := Go.Ground.phase }, { on := 25, ground := Go.Ground.phase }, { on := 26, ground := Go.Ground.phase }, { on := 27, ground := Go.Ground.phase }, { on := 28, ground := Go.Ground.phase }, { on := 29, ground := Go.Ground.phase }, { on := 30, ground := Go.Ground.phase }, { on := 31, ground := Go.Ground.phase }, { on := 32, ground := Go.Ground.phase }], guard := none }) (v := ?vt117) rfl (by kernel_rfl) (by kernel_rfl) (by kernel_rfl) (fun _ _ _ h => h) (Or.inl ⟨by rfl, ?hyt117⟩) (by assumption) ?restt117
            case hyt117 => (intro w hSw; (try dsimp only at hSw); go_simp; try (with_reducible rfl))
            simp only [Act.put, List.setIfInBounds_toArray, List.set_cons_zero, List.set_cons_succ]
            refine wpAnyH_ready (rs := [35]) (by kernel_rfl) (by simp) ?_
            refine AllReadyH.cons (o := { dst := none, op := Go.Op.store 22 (Go.Operand.tmp 79) (Go.Operand.tmp 71), type := 0, pos := "more.go:40", after := #[{ on := 34, ground := Go.Ground.data }, { on := 23, ground := Go.Ground.data }, { on := 32, ground := Go.Ground.chain }, { on := 0, ground := Go.Ground.phase }, { on := 1, ground := Go.Ground.phase }, { on := 2, ground := Go.Ground.phase }, { on := 3, ground := Go.Ground.phase }, { on := 4, ground := Go.Ground.phase }, { on := 5, ground := Go.Ground.phase }, { on := 6, ground := Go.Ground.phase }, { on := 7, ground := Go.Ground.phase }, { on := 8, ground := Go.Ground.phase }, { on := 9, ground := Go.Ground.phase }, { on := 10, ground := Go.Ground.phase }, { on := 11, ground := Go.Ground.phase }, { on := 12, ground := Go.Ground.phase }, { on := 13, ground := Go.Ground.phase }, { on := 14, ground := Go.Ground.phase }, { on := 15, ground := Go.Ground.phase }, { on := 16, ground := Go.Ground.phase }, { on := 17, ground := Go.Ground.phase }, { on := 18, ground := Go.Ground.phase }, { on := 19, ground := Go.Ground.phase }, { on := 20, ground := Go.Ground.phase }, { on := 21, ground := Go.Ground.phase }, { on := 22, ground := Go.Ground.phase }, { on := 23, ground := Go.Ground.phase }, { on := 24, ground := Go.Ground.phase }, { on := 25, ground := Go.Ground.phase }, { on := 26, ground := Go.Ground.phase }, { on := 27, ground := Go.Ground.phase }, { on := 28, ground := Go.Ground.phase }, { on := 29, ground := Go.Ground.phase }, { on := 30, ground := Go.Ground.phase }, { on := 31, ground := Go.Ground.phase }, { on := 32, ground := Go.Ground.phase }], guard := none }) rfl (fun K hK => ?_) AllReadyH.nil
            · go_simp
              refine hK.out _ _ (SW.out _ (w.heap.size + 1) 5 _ (by omega) hH115) (fun hH118 => ?_)
              clear hK K
              simp only [List.setIfInBounds_toArray, List.set_cons_zero, List.set_cons_succ]
              refine wpAnyH_done (by kernel_rfl) ?_ _
              go_wp2_with (fail)
              go_meet
              case rel => first | rfl | rw [w1.out, w2.out, w3.out, w4.out]
  subst hcut
  obtain ⟨N, hN⟩ : ∃ N, N = (((D.setCell ⟨w.heap.size, 4, none⟩ (.int .i64 (B0.p + x2))).setCell ⟨w.heap.size, 5, none⟩ (.int .i64 (B0.q + y2))).setCell ⟨w.heap.size + 1, 4, none⟩ (.int .i64 (B1.p + x2))).setCell ⟨w.heap.size + 1, 5, none⟩ (.int .i64 (B1.q + y2)) := ⟨_, rfl⟩
  rw [← hN]
  have KM : Wrote (fun n => n = w.heap.size ∨ n = w.heap.size + 1) V2 N := gV.wrote.trans (by rw [hN]; exact moved_wrote _ _ _ _ _ _ _)
  obtain ⟨hA, hB⟩ : BAt N w.heap.size (movB B0 x2 y2) ∧ BAt N (w.heap.size + 1) (movB B1 x2 y2) := by rw [hN]; exact moved_laid D _ _ (by omega) B0 B1 x2 y2 (hA2.grew gV) (hB2.grew gV)
  have eM := eH.wrote KM (by omega)
  have e3M := KM.cell e3 (by simp only; omega)
  have hvM := hv2.wrote KM (by omega)
  have hlM := KM.cell hl2 (by simp only; omega)
  have sM := KM.size
  have GM : Hid (Grew w N) := KM.to G2.out (fun n hn => by omega)
  have FM : Free N (X + 1) := (G3.out.freeB (by omega)).wrote KM (by omega) (by omega)
  have FM' : Free N (X + 1 + 1 + 1) := (G3.out.freeB (by omega)).wrote KM (by omega) (by omega)
  clear hN hD gV KM hA2 hB2 eH e3 hv2 hl2 G2 G3 a4 a5 b4 b5 c0 c1 z0 z1 z2 z3 w1 w2 w3 w4
  go_wp2_with (fail)
  refine (try_set (S := fun n => n = X + 1 ∨ n = X + 1 + 1 + 1) (P := LeftH (X + 1) (X + 1 + 1 + 1) (hitR (movB B0 x2 y2) (movB B1 x2 y2))) _ _ _ (fun _ => by simp [go_sem]) (fun n hn => by omega) (LeftH.keep (by omega) (by omega)) (fun W0 G => ?_)).mono ?_
  · exact ask_moves2 _ _ _ _ (by omega) _ _ om0 om1 W0 (hA.grew G) (hB.grew G) _ (hvM.grew G) false (G.cell hlM) (FM.grew G) (FM'.grew G)
  rintro e V3 ⟨hW, x', rfl, hx'⟩
  rw [hJ] at hx'
  obtain ⟨rfl, h2⟩ := hx'
  obtain ⟨⟨q0, q1, q2⟩, q3⟩ := h2 rfl
  obtain ⟨t0, t1, t2⟩ := eM.wrote hW (by omega)
  have t3 := hW.cell e3M (by simp only; omega)
  simp only at q0 q1 q2 q3 t0 t1 t2 t3
  have G4 : Hid (Grew w V3) := hW.to GM.out (fun n hn => by have := GV.size; omega)
  clear hW h2 hA hB hvM hlM eM e3M GM GV
  have hq := same_hit s0 s1 s2
  go_wp2
  go_ret
  exact ⟨rfl, G4.out.grown⟩

set_option maxRecDepth 100000 in
theorem lifted (os : Os) (started : os.Started) (H : Type) (enc : TypeId × Value → H) :
    ReturnsInHanded {} Try.checked os 6 .any (Rows.touchMovesSpec.pre6 enc Try.prog Try.f6 Rows.touchMovesRow.domain false) (Rows.touchMovesSpec.post enc Try.prog Try.f6 false true false false) := by
  refine returnsInHanded_of_change (C := Try.checked) own started (by kernel_rfl) Try.func6
    (ChangeSpec.witness6 (enc := enc) (C := Try.checked) false ⟨#[], #[.agg #[.int .i64 0, .int .i64 0, .int .i64 0, .int .i64 0, .int .i64 0, .int .i64 0, .int .i64 0, .int .i64 0], .agg #[.int .i64 0, .int .i64 0, .int .i64 0, .int .i64 0, .int .i64 0, .int .i64 0, .int .i64 0, .int .i64 0], .agg #[.int .i64 0, .int .i64 0]], []⟩ 8 (by kernel_rfl) (by kernel_rfl) (by kernel_rfl) (by kernel_rfl)) ?_
  intro W base args ds gs before hval0 hW hcnd _
  have hval : ∀ (j : Nat) t v, Try.f6.params[j]? = some t → args[j]? = some v → Value.okWide Try.prog W .any base t v := hval0
  have hW' := hW
  obtain ⟨p, q, hA0, hV, rfl, hfz, hnd⟩ := hW
  have hA : DataW.TrodAll enc Try.prog W 0 (fun _ => true) true Try.f6.params.toList args.toList ds p := hA0
  rw [Try.params6] at hA hval
  obtain ⟨v0, vs0, d0, ds0, p0, q0, hargs, rfl, rfl, h0, r0⟩ := trodAll_cons hA
  obtain ⟨v1, vs1, d1, ds1, p1, q1, rfl, rfl, rfl, h1, r1⟩ := trodAll_cons r0
  obtain ⟨v2, vs2, d2, ds2, p2, q2, rfl, rfl, rfl, h2, r2⟩ := trodAll_cons r1
  obtain ⟨rfl, rfl, rfl⟩ := trodAll_nil r2
  obtain rfl : args = #[v0, v1, v2] := by cases args; simp_all
  obtain ⟨rfl, rfl⟩ := trodVars_none hV
  obtain ⟨B0, rfl, rfl, rfl, o0⟩ := open_body (hval 0 26 v0 rfl rfl) h0
  obtain ⟨B1, rfl, rfl, rfl, o1⟩ := open_body (hval 1 26 v1 rfl rfl) h1
  obtain ⟨x2, y2, rfl, rfl, rfl, f2, g2⟩ := open_vec (hval 2 24 v2 rfl rfl) h2
  clear hA0 hval0
  simp only [List.append_nil] at hW'
  refine (walk B0 o0 B1 o1 x2 y2 f2 g2 W   ).mono fun e W' ⟨he, hg⟩ => ?_
  subst he
  exact ⟨_, rfl, post_of_same (pa := []) (pv := []) hW' (fun _ _ _ => (trodAll_cons_mk (shut_bool Try.underlying4 _) trodAll_mk0)) (fun sp _ => (trodAll_cons_mk (shut_body o0) (trodAll_cons_mk (shut_body o1) (trodAll_cons_mk (shut_vec f2 g2) trodAll_mk0)))) (fun _ _ => rfl) rfl
    (hg.frame _) hg.2.1 (ok_one (by kernel_rfl) rfl (okWide_bool_mk Try.underlying4 _))⟩

theorem over : Rows.touchMovesRow.holds Try.pinned (OpenSpec.ofChange Rows.touchMovesSpec) :=
  OpenClaim.holds_of_wide 6 Try.f6 rfl rfl rfl rfl rfl rfl rfl ⟨rfl, rfl, rfl, rfl, rfl⟩ rfl rfl rfl rfl rfl (by kernel_rfl) Try.func6 (by kernel_rfl)
    (of_decide_eq_true (by kernel_rfl)) (by unfold Func.isWrapper; first | (rw [if_pos (by decide +kernel)]; kernel_rfl) | (rw [if_neg (by decide +kernel)]; exact ⟨rfl, rfl⟩))
    (fun os started H enc _ => lifted os started H enc)

theorem proved : Rows.TouchMovesSaid :=
  over
end Go.Proofs.Ytjnokjoaphmfkaa.touchMoves

namespace Go.Proofs.Ytjnokjoaphmfkaa
theorem touchMoves_holds : Rows.TouchMovesSaid := touchMoves.proved
end Go.Proofs.Ytjnokjoaphmfkaa

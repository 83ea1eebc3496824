/-
  Proved: maquettelaw7.ShapeMoves returns true for every body b and every two numbers x and y (a body that may be may be anywhere within its bounds, however it moves there), and leaves what it was given as it was; no condition.
-/
import Derived.Test.YthfecjmgmnjaoaaRows
import Derived.Test.YthfecjmgmnjaoaaBAlive
import Derived.Test.YthfecjmgmnjaoaaBData
import Derived.WalkKit
import Derived.Deep.QuietTactic
import Derived.BigQuiet
import Derived.WalkSpells
import Derived.WalkLawsBesides
import Derived.ProofKit
import Derived.OpenShut
namespace Go.Proofs.Ythfecjmgmnjaoaa.shapeMoves
open Go.ChangeShapes Go.WideShapes Go.ChangeAt Go.RowKit
set_option linter.unusedVariables false

theorem own : ownKnob Try.prog.godebug = none := by kernel_rfl

theorem right_of (s a b m p q u v : Int) (w : World) : Calls Try.prog 16 #[.agg #[.int .i64 s, .int .i64 a, .int .i64 b, .int .i64 m, .int .i64 p, .int .i64 q, .int .i64 u, .int .i64 v]] w fun e w' => e = .returned (.bool (rightB ⟨s, a, b, m, p, q, u, v⟩)) ∧ Grew w w' := shape_right ⟨s, a, b, m, p, q, u, v⟩ w
theorem moved {s a b m p q u v : Int} (h : rightB ⟨s, a, b, m, p, q, u, v⟩ = true) (x y : Int) : rightB ⟨s, a, b, m, x * 4294967296, y * 4294967296, u, v⟩ = true ↔ (-10000 ≤ x ∧ x ≤ 10000 ∧ -10000 ≤ y ∧ y ≤ 10000) := by
  have := (rightB_iff _).1 h
  rw [rightB_iff]
  simp at *
  omega

set_option maxHeartbeats 1000000 in
theorem walk (B0 : Bd) (o0 : B0.ok) (a1 : Int) (f1 : inF a1) (a2 : Int) (f2 : inF a2) (w : World) :
    Calls Try.prog 7 #[B0.val, .int .i64 a1, .int .i64 a2] w fun e w' => e = .returned (.bool true) ∧ Grown w w' := by
  obtain ⟨s, a, b, m, p, q, u, v⟩ := B0
  have HR : Hid (∀ W, Calls Try.prog 16 #[.agg #[.int .i64 s, .int .i64 a, .int .i64 b, .int .i64 m, .int .i64 p, .int .i64 q, .int .i64 u, .int .i64 v]] W fun e w' => e = .returned (.bool (rightB ⟨s, a, b, m, p, q, u, v⟩)) ∧ Grew W w') := fun W => right_of _ _ _ _ _ _ _ _ W
  have HM : Hid (∀ W, Calls Try.prog 16 #[.agg #[.int .i64 s, .int .i64 a, .int .i64 b, .int .i64 m, .int .i64 (a1 * 4294967296), .int .i64 (a2 * 4294967296), .int .i64 u, .int .i64 v]] W fun e w' => e = .returned (.bool (rightB ⟨s, a, b, m, a1 * 4294967296, a2 * 4294967296, u, v⟩)) ∧ Grew W w') := fun W => right_of _ _ _ _ _ _ _ _ W
  have hM : Hid (_ → _) := fun h => @moved s a b m p q u v h a1 a2
  unfold Bd.val
  generalize rightB ⟨s, a, b, m, p, q, u, v⟩ = r at *
  generalize rightB ⟨s, a, b, m, a1 * 4294967296, a2 * 4294967296, u, v⟩ = t at *
  clear o0
  cases r
  · clear HM hM
    go_enter Try.func7, Try.ntmps7
    go_wp2_with (first
      | (go_at_call 8; go_fit (alive_any _); rintro e V ⟨rfl, G⟩)
      | (go_at_call 16; go_fit (HR.out _); rintro e V2 ⟨rfl, G2⟩))
    go_ret
    exact ⟨rfl, ((((Grew.refl w).alloc _ _).trans G2).trans G).grown⟩
  · have hM' : Hid (_ ↔ _) := hM.out rfl
    clear hM
    unfold inF at f1 f2
    by_cases hx : -1073741824 ≤ a1 ∧ a1 ≤ 1073741824 ∧ -1073741824 ≤ a2 ∧ a2 ≤ 1073741824
    · obtain ⟨x1, x2, x3, x4⟩ := hx
      go_enter Try.func7, Try.ntmps7
      go_wp2_with (first
        | (go_at_call 8; go_fit (alive_any _); rintro e V ⟨rfl, G⟩; have z0 := G.cell (G2.cell (p := ⟨w.heap.size, 0, none⟩) (v := .int .i64 s) (by simp [go_sem])); have z1 := G.cell (G2.cell (p := ⟨w.heap.size, 1, none⟩) (v := .int .i64 a) (by simp [go_sem])); have z2 := G.cell (G2.cell (p := ⟨w.heap.size, 2, none⟩) (v := .int .i64 b) (by simp [go_sem])); have z3 := G.cell (G2.cell (p := ⟨w.heap.size, 3, none⟩) (v := .int .i64 m) (by simp [go_sem])); have z4 := G.cell (G2.cell (p := ⟨w.heap.size, 4, none⟩) (v := .int .i64 p) (by simp [go_sem])); have z5 := G.cell (G2.cell (p := ⟨w.heap.size, 5, none⟩) (v := .int .i64 q) (by simp [go_sem])); have z6 := G.cell (G2.cell (p := ⟨w.heap.size, 6, none⟩) (v := .int .i64 u) (by simp [go_sem])); have z7 := G.cell (G2.cell (p := ⟨w.heap.size, 7, none⟩) (v := .int .i64 v) (by simp [go_sem])); have y4 := G.frozen (G2.frozen (p := ⟨w.heap.size, 4, none⟩) (by simp [go_sem])); have y5 := G.frozen (G2.frozen (p := ⟨w.heap.size, 5, none⟩) (by simp [go_sem])))
        | (go_at_call 16; go_fit (HR.out _); rintro e V2 ⟨rfl, G2⟩)
        | (go_at_call 16; go_fit (HM.out _); rintro e V3 ⟨rfl, G3⟩))
      all_goals
        go_ret
        refine ⟨ret_bool ?_, ((((((Grew.refl w).alloc _ _).trans G2).trans G).setCell (by simp) _).setCell (by simp) _ |>.trans G3).grown⟩
        have h := hM'.out
        clear hM' HM HR G3
        cases t <;> simp at h ⊢ <;> omega
    · have hd : a1 < -1073741824 ∨ (-1073741824 ≤ a1 ∧ 1073741824 < a1) ∨ (-1073741824 ≤ a1 ∧ a1 ≤ 1073741824 ∧ a2 < -1073741824) ∨ (-1073741824 ≤ a1 ∧ a1 ≤ 1073741824 ∧ -1073741824 ≤ a2 ∧ 1073741824 < a2) := by omega
      clear hx HM hM'
      rcases hd with x1 | ⟨x1, x2⟩ | ⟨x1, x2, x3⟩ | ⟨x1, x2, x3, x4⟩
      all_goals
        go_enter Try.func7, Try.ntmps7
        go_wp2_with (first
          | (go_at_call 8; go_fit (alive_any _); rintro e V ⟨rfl, G⟩)
          | (go_at_call 16; go_fit (HR.out _); rintro e V2 ⟨rfl, G2⟩))
        all_goals
          go_ret
          exact ⟨rfl, ((((Grew.refl w).alloc _ _).trans G2).trans G).grown⟩

set_option maxRecDepth 100000 in
theorem lifted (os : Os) (started : os.Started) (H : Type) (enc : TypeId × Value → H) :
    ReturnsInHanded {} Try.checked os 7 .any (Rows.shapeMovesSpec.pre6 enc Try.prog Try.f7 Rows.shapeMovesRow.domain false) (Rows.shapeMovesSpec.post enc Try.prog Try.f7 false true false false) := by
  refine returnsInHanded_of_change (C := Try.checked) own started (by kernel_rfl) Try.func7
    (ChangeSpec.witness6 (enc := enc) (C := Try.checked) false ⟨#[], #[.agg #[.int .i64 0, .int .i64 0, .int .i64 0, .int .i64 0, .int .i64 0, .int .i64 0, .int .i64 0, .int .i64 0], .int .i64 0, .int .i64 0], []⟩ 8 (by kernel_rfl) (by kernel_rfl) (by kernel_rfl) (by kernel_rfl)) ?_
  intro W base args ds gs before hval0 hW hcnd _
  have hval : ∀ (j : Nat) t v, Try.f7.params[j]? = some t → args[j]? = some v → Value.okWide Try.prog W .any base t v := hval0
  have hW' := hW
  obtain ⟨p, q, hA0, hV, rfl, hfz, hnd⟩ := hW
  have hA : DataW.TrodAll enc Try.prog W 0 (fun _ => true) true Try.f7.params.toList args.toList ds p := hA0
  rw [Try.params7] at hA hval
  obtain ⟨v0, vs0, d0, ds0, p0, q0, hargs, rfl, rfl, h0, r0⟩ := trodAll_cons hA
  obtain ⟨v1, vs1, d1, ds1, p1, q1, rfl, rfl, rfl, h1, r1⟩ := trodAll_cons r0
  obtain ⟨v2, vs2, d2, ds2, p2, q2, rfl, rfl, rfl, h2, r2⟩ := trodAll_cons r1
  obtain ⟨rfl, rfl, rfl⟩ := trodAll_nil r2
  obtain rfl : args = #[v0, v1, v2] := by cases args; simp_all
  obtain ⟨rfl, rfl⟩ := trodVars_none hV
  obtain ⟨B0, rfl, rfl, rfl, o0⟩ := open_body (hval 0 26 v0 rfl rfl) h0
  obtain ⟨a1, rfl, rfl, rfl, w1⟩ := open_int Try.underlying3 (hval 1 3 v1 rfl rfl) h1
  have f1 := inF_wf w1
  obtain ⟨a2, rfl, rfl, rfl, w2⟩ := open_int Try.underlying3 (hval 2 3 v2 rfl rfl) h2
  have f2 := inF_wf w2
  clear hA0 hval0
  simp only [List.append_nil] at hW'
  refine (walk B0 o0 a1 f1 a2 f2 W).mono fun e W' ⟨he, hg⟩ => ?_
  subst he
  exact ⟨_, rfl, post_of_same (pa := []) (pv := []) hW' (fun _ _ _ => (trodAll_cons_mk (shut_bool Try.underlying4 _) trodAll_mk0)) (fun sp _ => (trodAll_cons_mk (shut_body o0) (trodAll_cons_mk (shut_int Try.underlying3 w1) (trodAll_cons_mk (shut_int Try.underlying3 w2) trodAll_mk0)))) (fun _ _ => rfl) rfl
    (hg.frame _) hg.2.1 (ok_one (by kernel_rfl) rfl (okWide_bool_mk Try.underlying4 _))⟩

theorem over : Rows.shapeMovesRow.holds Try.pinned (OpenSpec.ofChange Rows.shapeMovesSpec) :=
  OpenClaim.holds_of_wide 7 Try.f7 rfl rfl rfl rfl rfl rfl rfl ⟨rfl, rfl, rfl, rfl, rfl⟩ rfl rfl rfl rfl rfl (by kernel_rfl) Try.func7 (by kernel_rfl)
    (of_decide_eq_true (by kernel_rfl)) (by unfold Func.isWrapper; first | (rw [if_pos (by decide +kernel)]; kernel_rfl) | (rw [if_neg (by decide +kernel)]; exact ⟨rfl, rfl⟩))
    (fun os started H enc _ => lifted os started H enc)

theorem proved : Rows.ShapeMovesSaid :=
  over
end Go.Proofs.Ythfecjmgmnjaoaa.shapeMoves

namespace Go.Proofs.Ythfecjmgmnjaoaa
theorem shapeMoves_holds : Rows.ShapeMovesSaid := shapeMoves.proved
end Go.Proofs.Ythfecjmgmnjaoaa

/-
  Proved: maquettelaw10.TouchBalls returns true for every x, y and d (two balls of one row touch just if they are nearer than both radii; how deep is what lacks), and leaves what it was given as it was; no condition.
-/
import Derived.Test.YtjnokjoaphmfkaaRows
import Derived.Test.YtjnokjoaphmfkaaHAlive
import Derived.Test.YtjnokjoaphmfkaaBData
import Derived.WalkKit
import Derived.Deep.QuietTactic
import Derived.BigQuiet
import Derived.WalkSpells
import Derived.Deep.CutRange
import Derived.Deep.CutBlock
import Derived.WalkLawsBesides
import Derived.ProofKit
import Derived.OpenShut
namespace Go.Proofs.Ytjnokjoaphmfkaa.touchBalls
open Go.ChangeShapes Go.WideShapes Go.ChangeAt Go.RowKit
set_option linter.unusedVariables false

theorem own : ownKnob Try.prog.godebug = none := by kernel_rfl

set_option maxHeartbeats 8000000 in
theorem walk (a0 : Int) (f0 : inF a0) (a1 : Int) (f1 : inF a1) (a2 : Int) (f2 : inF a2) (w : World)   :
    Calls Try.prog 5 #[.int .i64 a0, .int .i64 a1, .int .i64 a2] w fun e w' => e = .returned (.bool true) ∧ Grown w w' := by
  have hmf := mk_func
  by_cases hc : (1 ≤ a0 ∧ a0 ≤ 100) ∧ (1 ≤ a1 ∧ a1 ≤ 100) ∧ 0 ≤ a2 ∧ a2 ≤ 1000
  rotate_left
  · by_cases c1 : a0 < 1
    all_goals (try by_cases c2 : a1 < 1)
    all_goals (try by_cases c3 : a2 < 0)
    all_goals (try by_cases c4 : 100 < a0)
    all_goals (try by_cases c5 : 100 < a1)
    all_goals (try by_cases c6 : 1000 < a2)
    all_goals first
      | (exfalso; omega)
      | (clear hc f0 f1 f2
         go_enter Try.func5, Try.ntmps5
         go_wp2_with (first
           | (go_at_call 9; go_fit (alive_any _); rintro e V1 ⟨rfl, U1⟩))
         go_ret
         exact ⟨rfl, U1.grown⟩)
  obtain ⟨⟨x1, x2⟩, ⟨y1, y2⟩, d1, d2⟩ := hc
  have hI : hitR ⟨1, a0 * 4294967296, 0, 0, 0, 0, 0, 0⟩ ⟨1, a1 * 4294967296, 0, 0, 0, a2 * 4294967296, 0, 0⟩ = (rowI a0 a1 a2, 0) := by
    rw [hit_mild (by constructor <;> simp only <;> omega) (by constructor <;> simp only <;> omega), hit_row ⟨x1, x2⟩ ⟨y1, y2⟩ ⟨d1, d2⟩]
  have oA : Bd.ok ⟨1, a0 * 4294967296, 0, 0, 0, 0, 0, 0⟩ := by constructor <;> constructor <;> simp only <;> omega
  have oB : Bd.ok ⟨1, a1 * 4294967296, 0, 0, 0, a2 * 4294967296, 0, 0⟩ := by constructor <;> constructor <;> simp only <;> omega
  obtain ⟨x, hx⟩ : ∃ x, x = a0 * 4294967296 := ⟨_, rfl⟩
  obtain ⟨y, hy⟩ : ∃ y, y = a1 * 4294967296 := ⟨_, rfl⟩
  obtain ⟨d, hd⟩ : ∃ d, d = a2 * 4294967296 := ⟨_, rfl⟩
  rw [← hx, ← hy, ← hd] at hI
  rw [← hx] at oA
  rw [← hy, ← hd] at oB
  clear f0 f1 f2
  go_enter Try.func5, Try.ntmps5
  go_wp2_with (first
    | (go_at_call 9; go_fit (alive_any _); rintro e V1 ⟨rfl, U1⟩))
  rw [← hx, ← hy, ← hd]
  obtain ⟨W, hW⟩ : ∃ W, W = (((V1.alloc (.cells #[.int .i64 1, .int .i64 x, .int .i64 0, .int .i64 0, .int .i64 0, .int .i64 0, .int .i64 0, .int .i64 0] 26)).alloc (.cells #[.int .i64 1, .int .i64 y, .int .i64 0, .int .i64 0, .int .i64 0, .int .i64 d, .int .i64 0, .int .i64 0] 26)).alloc (.cells #[.int .i64 0, .int .i64 0, .int .i64 0] 32)).alloc (.cells #[.bool false] 4) := ⟨_, rfl⟩
  rw [← hW]
  have gW : Grew V1 W := by rw [hW]; exact ((((Grew.refl V1).alloc _ _).alloc _ _).alloc _ _).alloc _ _
  have sz : W.heap.size = V1.heap.size + 1 + 1 + 1 + 1 := by rw [hW]; simp [go_sem]
  have hA : BAt W V1.heap.size ⟨1, x, 0, 0, 0, 0, 0, 0⟩ := by rw [hW]; constructor <;> simp [go_sem]
  have hB : BAt W (V1.heap.size + 1) ⟨1, y, 0, 0, 0, d, 0, 0⟩ := by rw [hW]; constructor <;> simp [go_sem]
  have hv : HAt W (V1.heap.size + 1 + 1) ⟨0, 0, 0⟩ := by rw [hW]; constructor <;> simp [go_sem]
  have hl : W.cell? ⟨V1.heap.size + 1 + 1 + 1, 0, none⟩ = some (.bool false) := by rw [hW]; simp [go_sem]
  clear hW
  generalize hX : V1.heap.size = X at *
  refine (try_set (S := fun n => n = X + 1 + 1 ∨ n = X + 1 + 1 + 1) (P := LeftH (X + 1 + 1) (X + 1 + 1 + 1) (hitR ⟨1, x, 0, 0, 0, 0, 0, 0⟩ ⟨1, y, 0, 0, 0, d, 0, 0⟩)) _ _ _ (fun _ => by simp [go_sem]) (fun n hn => by omega) (LeftH.keep (by omega) (by omega)) (fun W0 G => ?_)).mono ?_
  · exact ask_balls _ _ _ _ (by omega) _ _ oA oB W0 (hA.grew G) (hB.grew G) _ (hv.grew G) false (G.cell hl) ((gW.trans G).freeB (by omega)) ((gW.trans G).freeB (by omega))
  rintro e V2 ⟨hW, x', rfl, hx'⟩
  rw [hI] at hx'
  obtain ⟨rfl, h2⟩ := hx'
  obtain ⟨⟨e0, e1, e2⟩, e3⟩ := h2 rfl
  simp only at e0 e1 e2 e3
  have G1 : Hid (Grew w V2) := hW.to (U1.trans gW) (fun n hn => by have := U1.size; omega)
  have lt2 := hW.size
  have l1 : X + 1 + 1 < V2.heap.size := by omega
  have l2 : X + 1 + 1 + 1 < V2.heap.size := by omega
  clear hW h2 hA hB hv hl gW U1 hI oA oB hx hy hd
  have hq := same_vec 4294967296 0
  have hq2 := same_vec 0 4294967296
  unfold rowI at e0 e1 e2 e3
  by_cases hs : a2 < a0 + a1
  · rw [if_pos hs] at e0 e1 e2 e3
    have hs' : decide (a2 < a0 + a1) = true := decide_eq_true hs
    obtain ⟨q, hq'⟩ : ∃ q, q = (a0 + a1 - a2) * 4294967296 := ⟨_, rfl⟩
    by_cases hz : a2 = 0
    · rw [if_pos hz] at e0 e1 e2
      simp only at e0 e1 e2 e3
      subst hz
      go_wp2
      go_ret
      exact ⟨rfl, (G1.out.alloc _ _).grown⟩
    · rw [if_neg hz] at e0 e1 e2
      simp only at e0 e1 e2 e3
      have hz' : (a2 == 0) = false := by simpa using hz
      go_wp2
      go_ret
      exact ⟨rfl, (G1.out.alloc _ _).grown⟩
  · rw [if_neg hs] at e0 e1 e2 e3
    simp only at e0 e1 e2 e3
    have hs' : decide (a2 < a0 + a1) = false := decide_eq_false hs
    have hz' : (a2 == 0) = false := by simp; omega
    go_wp2
    go_ret
    exact ⟨rfl, (G1.out.alloc _ _).grown⟩

set_option maxRecDepth 100000 in
theorem lifted (os : Os) (started : os.Started) (H : Type) (enc : TypeId × Value → H) :
    ReturnsInHanded {} Try.checked os 5 .any (Rows.touchBallsSpec.pre6 enc Try.prog Try.f5 Rows.touchBallsRow.domain false) (Rows.touchBallsSpec.post enc Try.prog Try.f5 false true false false) := by
  refine returnsInHanded_of_change (C := Try.checked) own started (by kernel_rfl) Try.func5
    (ChangeSpec.witness6 (enc := enc) (C := Try.checked) false ⟨#[], #[.int .i64 0, .int .i64 0, .int .i64 0], []⟩ 8 (by kernel_rfl) (by kernel_rfl) (by kernel_rfl) (by kernel_rfl)) ?_
  intro W base args ds gs before hval0 hW hcnd _
  have hval : ∀ (j : Nat) t v, Try.f5.params[j]? = some t → args[j]? = some v → Value.okWide Try.prog W .any base t v := hval0
  have hW' := hW
  obtain ⟨p, q, hA0, hV, rfl, hfz, hnd⟩ := hW
  have hA : DataW.TrodAll enc Try.prog W 0 (fun _ => true) true Try.f5.params.toList args.toList ds p := hA0
  rw [Try.params5] at hA hval
  obtain ⟨v0, vs0, d0, ds0, p0, q0, hargs, rfl, rfl, h0, r0⟩ := trodAll_cons hA
  obtain ⟨v1, vs1, d1, ds1, p1, q1, rfl, rfl, rfl, h1, r1⟩ := trodAll_cons r0
  obtain ⟨v2, vs2, d2, ds2, p2, q2, rfl, rfl, rfl, h2, r2⟩ := trodAll_cons r1
  obtain ⟨rfl, rfl, rfl⟩ := trodAll_nil r2
  obtain rfl : args = #[v0, v1, v2] := by cases args; simp_all
  obtain ⟨rfl, rfl⟩ := trodVars_none hV
  obtain ⟨a0, rfl, rfl, rfl, w0⟩ := open_int Try.underlying3 (hval 0 3 v0 rfl rfl) h0
  have f0 := inF_wf w0
  obtain ⟨a1, rfl, rfl, rfl, w1⟩ := open_int Try.underlying3 (hval 1 3 v1 rfl rfl) h1
  have f1 := inF_wf w1
  obtain ⟨a2, rfl, rfl, rfl, w2⟩ := open_int Try.underlying3 (hval 2 3 v2 rfl rfl) h2
  have f2 := inF_wf w2
  clear hA0 hval0
  simp only [List.append_nil] at hW'
  refine (walk a0 f0 a1 f1 a2 f2 W   ).mono fun e W' ⟨he, hg⟩ => ?_
  subst he
  exact ⟨_, rfl, post_of_same (pa := []) (pv := []) hW' (fun _ _ _ => (trodAll_cons_mk (shut_bool Try.underlying4 _) trodAll_mk0)) (fun sp _ => (trodAll_cons_mk (shut_int Try.underlying3 w0) (trodAll_cons_mk (shut_int Try.underlying3 w1) (trodAll_cons_mk (shut_int Try.underlying3 w2) trodAll_mk0)))) (fun _ _ => rfl) rfl
    (hg.frame _) hg.2.1 (ok_one (by kernel_rfl) rfl (okWide_bool_mk Try.underlying4 _))⟩

theorem over : Rows.touchBallsRow.holds Try.pinned (OpenSpec.ofChange Rows.touchBallsSpec) :=
  OpenClaim.holds_of_wide 5 Try.f5 rfl rfl rfl rfl rfl rfl rfl ⟨rfl, rfl, rfl, rfl, rfl⟩ rfl rfl rfl rfl rfl (by kernel_rfl) Try.func5 (by kernel_rfl)
    (of_decide_eq_true (by kernel_rfl)) (by unfold Func.isWrapper; first | (rw [if_pos (by decide +kernel)]; kernel_rfl) | (rw [if_neg (by decide +kernel)]; exact ⟨rfl, rfl⟩))
    (fun os started H enc _ => lifted os started H enc)

theorem proved : Rows.TouchBallsSaid :=
  over
end Go.Proofs.Ytjnokjoaphmfkaa.touchBalls

namespace Go.Proofs.Ytjnokjoaphmfkaa
theorem touchBalls_holds : Rows.TouchBallsSaid := touchBalls.proved
end Go.Proofs.Ytjnokjoaphmfkaa

/-
  Proved: maquettelaw11.PushPulls returns true for every n and every length (a joint that is too long pulls, one that is too short pushes: both alike, along it), and leaves what it was given as it was; no condition.
-/
import Derived.Test.YtcancbgaejekiaaRows
import Derived.Test.YtcancbgaejekiaaJAlive
import Derived.WalkKit
import Derived.Deep.QuietTactic
import Derived.BigQuiet
import Derived.WalkSpells
import Derived.Deep.CutRange
import Derived.Deep.CutBlock
import Derived.WalkLawsBesides
import Derived.ProofKit
import Derived.OpenShut
namespace Go.Proofs.Ytcancbgaejekiaa.pushPulls
open Go.ChangeShapes Go.WideShapes Go.ChangeAt Go.RowKit
set_option linter.unusedVariables false

theorem own : ownKnob Try.prog.godebug = none := by kernel_rfl

set_option maxHeartbeats 8000000 in
theorem walk (a0 : Int) (f0 : inF a0) (a1 : Int) (f1 : inF a1) (w : World)  :
    Calls Try.prog 8 #[.int .i64 a0, .int .i64 a1] w fun e w' => e = .returned (.bool true) ∧ Grown w w' := by
  have hmf := mk_func
  by_cases hc : (1 ≤ a0 ∧ a0 ≤ 500) ∧ 0 ≤ a1 ∧ a1 ≤ 500
  rotate_left
  · by_cases c1 : a0 < 1
    all_goals (try by_cases c2 : 500 < a0)
    all_goals (try by_cases c3 : a1 < 0)
    all_goals (try by_cases c4 : 500 < a1)
    all_goals first
      | (exfalso; omega)
      | (clear hc f0 f1
         have G : Hid (Grew w (w.alloc (.cells #[.int .i64 a1] 3))) := (Grew.refl w).alloc _ _
         go_enter Try.func8, Try.ntmps8
         go_wp2_with (first
           | (go_at_call 9; go_fit (alive_any _); rintro e V1 ⟨rfl, U1⟩))
         go_ret
         exact ⟨rfl, (G.out.trans U1).grown⟩)
  obtain ⟨⟨x1, x2⟩, y1, y2⟩ := hc
  have G : Hid (Grew w (w.alloc (.cells #[.int .i64 a1] 3))) := (Grew.refl w).alloc _ _
  have hI : jointR alJ (alJ.pos (a0 * 4294967296) 0) (a1 * 4294967296) = ((alJ.mom ((a0 - a1) * 4 * 4294967296) 0, (alJ.pos (a0 * 4294967296) 0).mom (-((a0 - a1) * 4 * 4294967296)) 0), 0) := by
    rw [joint_pulls (by omega) (by omega) (by omega) (by omega), show 4 * (a0 * 4294967296 - a1 * 4294967296) = (a0 - a1) * 4 * 4294967296 by omega]
  have oB : (alJ.pos (a0 * 4294967296) 0).ok := alJ_ok.pos ⟨by omega, by omega⟩ inF0
  have om : inF (a1 * 4294967296) := ⟨by omega, by omega⟩
  obtain ⟨s, hs⟩ : ∃ s, s = a0 * 4294967296 := ⟨_, rfl⟩
  obtain ⟨z, hz⟩ : ∃ z, z = (a0 - a1) * 4 * 4294967296 := ⟨_, rfl⟩
  rw [← hs] at hI oB
  rw [← hz] at hI
  have zl : -8796093022208 ≤ z ∧ z ≤ 8796093022208 := by omega
  clear f0 f1
  go_enter Try.func8, Try.ntmps8
  go_wp2_with (first
    | (go_at_call 9; go_fit (alive_any _); rintro e V1 ⟨rfl, U1⟩; have k0 := U1.cell (p := ⟨w.heap.size, 0, none⟩) (v := .int .i64 a1) (by simp [go_sem])))
  rw [← hs]
  obtain ⟨W, hW⟩ : ∃ W, W = (((V1.alloc (.cells #[.int .i64 1, .int .i64 4294967296, .int .i64 0, .int .i64 4294967296, .int .i64 0, .int .i64 0, .int .i64 0, .int .i64 0] 26)).alloc (.cells #[.int .i64 1, .int .i64 4294967296, .int .i64 0, .int .i64 4294967296, .int .i64 s, .int .i64 0, .int .i64 0, .int .i64 0] 26)).alloc (.cells #[.int .i64 0, .int .i64 0, .int .i64 0, .int .i64 0, .int .i64 0, .int .i64 0, .int .i64 0, .int .i64 0] 26)).alloc (.cells #[.int .i64 0, .int .i64 0, .int .i64 0, .int .i64 0, .int .i64 0, .int .i64 0, .int .i64 0, .int .i64 0] 26) := ⟨_, rfl⟩
  rw [← hW]
  have gW : Grew V1 W := by rw [hW]; exact ((((Grew.refl V1).alloc _ _).alloc _ _).alloc _ _).alloc _ _
  have sz : W.heap.size = V1.heap.size + 1 + 1 + 1 + 1 := by rw [hW]; simp [go_sem]
  have hA : BAt W V1.heap.size alJ := by rw [hW]; constructor <;> simp [go_sem, alJ]
  have hB : BAt W (V1.heap.size + 1) (alJ.pos s 0) := by rw [hW]; constructor <;> simp [go_sem, alJ, Bd.pos]
  have hC : BAt W (V1.heap.size + 1 + 1) noB := by rw [hW]; constructor <;> simp [go_sem, noB]
  have hD : BAt W (V1.heap.size + 1 + 1 + 1) noB := by rw [hW]; constructor <;> simp [go_sem, noB]
  have kW := gW.cell k0
  have lt : w.heap.size < V1.heap.size := cell_block k0
  clear hW k0
  generalize hX : V1.heap.size = X at *
  refine (try_set (S := fun n => n = X + 1 + 1 ∨ n = X + 1 + 1 + 1) (P := LeftP (X + 1 + 1) (X + 1 + 1 + 1) (jointR alJ (alJ.pos s 0) (a1 * 4294967296))) _ _ _ (fun _ => by simp [go_sem]) (fun n hn => by omega) (LeftP.keep (by omega) (by omega)) (fun W0 G => ?_)).mono ?_
  · exact ask_pulls _ _ _ _ (by omega) alJ (alJ.pos s 0) alJ_ok oB a1 om W0 (hA.grew G) (hB.grew G) noB noB (hC.grew G) (hD.grew G) ((gW.trans G).freeB (by omega)) ((gW.trans G).freeB (by omega)) _ (G.cell kW)
  rintro e V2 ⟨hW, x', rfl, hx'⟩
  rw [hI] at hx'
  obtain ⟨rfl, h2⟩ := hx'
  obtain ⟨⟨c0, c1, c2, c3, c4, c5, c6, c7⟩, ⟨d0, d1, d2, d3, d4, d5, d6, d7⟩⟩ := h2 rfl
  obtain ⟨a0', a1', a2', a3', a4, a5, a6, a7⟩ := hA.wrote hW (by omega)
  obtain ⟨b0, b1, b2, b3, b4, b5, b6, b7⟩ := hB.wrote hW (by omega)
  have k1 := hW.cell kW (show ¬ (w.heap.size = X + 1 + 1 ∨ w.heap.size = X + 1 + 1 + 1) by omega)
  have G1 : Hid (Grew w V2) := hW.to ((G.out.trans U1).trans gW) (fun n hn => by have := U1.size; have := G.out.size; omega)
  simp only [Bd.mom, Bd.pos, alJ] at c4 c5 c6 c7 d4 d5 d6 d7 a4 a5 b4 b5
  have hq := same_vec 0 0
  have hq2 := same_vec s 0
  clear hW h2 hA hB hC hD gW U1 hI oB om kW c0 c1 c2 c3 d0 d1 d2 d3 a0' a1' a2' a3' a6 a7 b0 b1 b2 b3 b6 b7
  go_wp2
  go_ret
  exact ⟨rfl, G1.out.grown⟩

set_option maxRecDepth 100000 in
theorem lifted (os : Os) (started : os.Started) (H : Type) (enc : TypeId × Value → H) :
    ReturnsInHanded {} Try.checked os 8 .any (Rows.pushPullsSpec.pre6 enc Try.prog Try.f8 Rows.pushPullsRow.domain false) (Rows.pushPullsSpec.post enc Try.prog Try.f8 false true false false) := by
  refine returnsInHanded_of_change (C := Try.checked) own started (by kernel_rfl) Try.func8
    (ChangeSpec.witness6 (enc := enc) (C := Try.checked) false ⟨#[], #[.int .i64 0, .int .i64 0], []⟩ 8 (by kernel_rfl) (by kernel_rfl) (by kernel_rfl) (by kernel_rfl)) ?_
  intro W base args ds gs before hval0 hW hcnd _
  have hval : ∀ (j : Nat) t v, Try.f8.params[j]? = some t → args[j]? = some v → Value.okWide Try.prog W .any base t v := hval0
  have hW' := hW
  obtain ⟨p, q, hA0, hV, rfl, hfz, hnd⟩ := hW
  have hA : DataW.TrodAll enc Try.prog W 0 (fun _ => true) true Try.f8.params.toList args.toList ds p := hA0
  rw [Try.params8] at hA hval
  obtain ⟨v0, vs0, d0, ds0, p0, q0, hargs, rfl, rfl, h0, r0⟩ := trodAll_cons hA
  obtain ⟨v1, vs1, d1, ds1, p1, q1, rfl, rfl, rfl, h1, r1⟩ := trodAll_cons r0
  obtain ⟨rfl, rfl, rfl⟩ := trodAll_nil r1
  obtain rfl : args = #[v0, v1] := by cases args; simp_all
  obtain ⟨rfl, rfl⟩ := trodVars_none hV
  obtain ⟨a0, rfl, rfl, rfl, w0⟩ := open_int Try.underlying3 (hval 0 3 v0 rfl rfl) h0
  have f0 := inF_wf w0
  obtain ⟨a1, rfl, rfl, rfl, w1⟩ := open_int Try.underlying3 (hval 1 3 v1 rfl rfl) h1
  have f1 := inF_wf w1
  clear hA0 hval0
  simp only [List.append_nil] at hW'
  refine (walk a0 f0 a1 f1 W  ).mono fun e W' ⟨he, hg⟩ => ?_
  subst he
  exact ⟨_, rfl, post_of_same (pa := []) (pv := []) hW' (fun _ _ _ => (trodAll_cons_mk (shut_bool Try.underlying4 _) trodAll_mk0)) (fun sp _ => (trodAll_cons_mk (shut_int Try.underlying3 w0) (trodAll_cons_mk (shut_int Try.underlying3 w1) trodAll_mk0))) (fun _ _ => rfl) rfl
    (hg.frame _) hg.2.1 (ok_one (by kernel_rfl) rfl (okWide_bool_mk Try.underlying4 _))⟩

theorem over : Rows.pushPullsRow.holds Try.pinned (OpenSpec.ofChange Rows.pushPullsSpec) :=
  OpenClaim.holds_of_wide 8 Try.f8 rfl rfl rfl rfl rfl rfl rfl ⟨rfl, rfl, rfl, rfl, rfl⟩ rfl rfl rfl rfl rfl (by kernel_rfl) Try.func8 (by kernel_rfl)
    (of_decide_eq_true (by kernel_rfl)) (by unfold Func.isWrapper; first | (rw [if_pos (by decide +kernel)]; kernel_rfl) | (rw [if_neg (by decide +kernel)]; exact ⟨rfl, rfl⟩))
    (fun os started H enc _ => lifted os started H enc)

theorem proved : Rows.PushPullsSaid :=
  over
end Go.Proofs.Ytcancbgaejekiaa.pushPulls

namespace Go.Proofs.Ytcancbgaejekiaa
theorem pushPulls_holds : Rows.PushPullsSaid := pushPulls.proved
end Go.Proofs.Ytcancbgaejekiaa

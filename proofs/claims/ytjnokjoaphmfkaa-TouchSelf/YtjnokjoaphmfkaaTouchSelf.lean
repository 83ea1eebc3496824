/-
  Proved: maquettelaw10.TouchSelf returns true for every body b (a body that may be touches one that is at its very place; how deep is what both are together), and leaves what it was given as it was; no condition.
-/
import Derived.Test.YtjnokjoaphmfkaaRows
import Derived.Test.YtjnokjoaphmfkaaHAlive
import Derived.Test.YtjnokjoaphmfkaaBData
import Derived.Test.YtjnokjoaphmfkaaBRef
import Derived.WalkKit
import Derived.Deep.QuietTactic
import Derived.BigQuiet
import Derived.WalkSpells
import Derived.Deep.CutRange
import Derived.Deep.CutBlock
import Derived.WalkLawsBesides
import Derived.ProofKit
import Derived.OpenShut
namespace Go.Proofs.Ytjnokjoaphmfkaa.touchSelf
open Go.ChangeShapes Go.WideShapes Go.ChangeAt Go.RowKit
set_option linter.unusedVariables false

theorem own : ownKnob Try.prog.godebug = none := by kernel_rfl

set_option maxHeartbeats 4000000 in
theorem walk (B0 : Bd) (o0 : B0.ok) (w : World) :
    Calls Try.prog 7 #[B0.val] w fun e w' => e = .returned (.bool true) ∧ Grown w w' := by
  have HR : Hid (∀ W, _) := fun W => ref_right B0 W
  have hmf := mk_func
  have G0 : Hid (Grew w (w.alloc (.cells #[.int .i64 B0.s, .int .i64 B0.a, .int .i64 B0.b, .int .i64 B0.m, .int .i64 B0.p, .int .i64 B0.q, .int .i64 B0.u, .int .i64 B0.v] 26))) := (Grew.refl w).alloc _ _
  by_cases hr : rightB B0 = true
  rotate_left
  · have hr' : rightB B0 = false := by simpa using hr
    rw [hr'] at HR
    clear hr hr'
    unfold Bd.val at HR ⊢
    go_enter Try.func7, Try.ntmps7
    go_wp2_with (first
      | (go_at_call 17; go_fit (HR.out _); rintro e V ⟨rfl, U⟩)
      | (go_at_call 9; go_fit (alive_any _); rintro e V1 ⟨rfl, U1⟩))
    go_ret
    exact ⟨rfl, ((G0.out.trans U).trans U1).grown⟩
  have hI : hitR B0 B0 = ((selfI B0, true), 0) := by rw [hit_mild (right_mild hr) (right_mild hr), hit_self hr]
  obtain ⟨k1, k2, k3, _⟩ := (rightB_iff B0).1 hr
  rw [hr] at HR
  clear hr
  unfold Bd.val at HR ⊢
  go_enter Try.func7, Try.ntmps7
  go_wp2_with (first
    | (go_at_call 17; go_fit (HR.out _); rintro e V ⟨rfl, U⟩; have b0 := U.cell (p := ⟨w.heap.size, 0, none⟩) (v := .int .i64 B0.s) (by simp [go_sem]); have b1 := U.cell (p := ⟨w.heap.size, 1, none⟩) (v := .int .i64 B0.a) (by simp [go_sem]); have b2 := U.cell (p := ⟨w.heap.size, 2, none⟩) (v := .int .i64 B0.b) (by simp [go_sem]); have b3 := U.cell (p := ⟨w.heap.size, 3, none⟩) (v := .int .i64 B0.m) (by simp [go_sem]); have b4 := U.cell (p := ⟨w.heap.size, 4, none⟩) (v := .int .i64 B0.p) (by simp [go_sem]); have b5 := U.cell (p := ⟨w.heap.size, 5, none⟩) (v := .int .i64 B0.q) (by simp [go_sem]); have b6 := U.cell (p := ⟨w.heap.size, 6, none⟩) (v := .int .i64 B0.u) (by simp [go_sem]); have b7 := U.cell (p := ⟨w.heap.size, 7, none⟩) (v := .int .i64 B0.v) (by simp [go_sem]))
    | (go_at_call 9; go_fit (alive_any _); rintro e V1 ⟨rfl, U1⟩; replace b0 := U1.cell b0; replace b1 := U1.cell b1; replace b2 := U1.cell b2; replace b3 := U1.cell b3; replace b4 := U1.cell b4; replace b5 := U1.cell b5; replace b6 := U1.cell b6; replace b7 := U1.cell b7))
  obtain ⟨W, hW⟩ : ∃ W, W = (V1.alloc (.cells #[.int .i64 0, .int .i64 0, .int .i64 0] 32)).alloc (.cells #[.bool false] 4) := ⟨_, rfl⟩
  rw [← hW]
  have GV : Grew w V1 := (G0.out.trans U).trans U1
  have gW : Grew V1 W := by rw [hW]; exact ((Grew.refl V1).alloc _ _).alloc _ _
  have sz : W.heap.size = V1.heap.size + 1 + 1 := by rw [hW]; simp [go_sem]
  have hB : BAt W w.heap.size B0 := BAt.grew ⟨b0, b1, b2, b3, b4, b5, b6, b7⟩ gW
  have hv : HAt W V1.heap.size ⟨0, 0, 0⟩ := by rw [hW]; constructor <;> simp [go_sem]
  have hl : W.cell? ⟨V1.heap.size + 1, 0, none⟩ = some (.bool false) := by rw [hW]; simp [go_sem]
  have lt := (show BAt V1 w.heap.size B0 from ⟨b0, b1, b2, b3, b4, b5, b6, b7⟩).size
  clear hW b0 b1 b2 b3 b4 b5 b6 b7 U U1 G0 HR
  generalize hX : V1.heap.size = X at *
  refine (try_set (S := fun n => n = X ∨ n = X + 1) (P := LeftH X (X + 1) (hitR B0 B0)) _ _ _ (fun _ => by simp [go_sem]) (fun n hn => by omega) (LeftH.keep (by omega) (by omega)) (fun W0 G => ?_)).mono ?_
  · exact ask_self _ _ _ (by omega) B0 o0 W0 (hB.grew G) _ (hv.grew G) false (G.cell hl) ((gW.trans G).freeB (by omega)) ((gW.trans G).freeB (by omega))
  rintro e V2 ⟨hW, x, rfl, hx⟩
  rw [hI] at hx
  obtain ⟨rfl, h2⟩ := hx
  obtain ⟨⟨e0, e1, e2⟩, e3⟩ := h2 rfl
  simp only at e0 e1 e2 e3
  obtain ⟨b0, b1, b2, b3, b4, b5, b6, b7⟩ := hB.wrote hW (by omega)
  have G1 : Hid (Grew w V2) := hW.to (GV.trans gW) (fun n hn => by have := GV.size; omega)
  have lt2 := hW.size
  have l0 : w.heap.size < V2.heap.size := by omega
  have l1 : X < V2.heap.size := by omega
  have l2 : X + 1 < V2.heap.size := by omega
  clear hW h2 hB hv hl gW GV hI o0
  have hq := same_vec 4294967296 0
  have hq2 := same_vec 0 4294967296
  unfold selfI at e0 e1 e2
  by_cases hs : B0.s = 2
  · have hz : (B0.s == 2) = true := by simpa using hs
    by_cases hb : B0.b < B0.a
    · rw [if_pos ⟨hs, hb⟩] at e0 e1 e2
      simp only at e0 e1 e2
      have kb : 67108864 ≤ B0.b := by omega
      clear k1 hs
      go_wp2
      go_ret
      exact ⟨rfl, (G1.out.alloc _ _).grown⟩
    · rw [if_neg (by omega)] at e0 e1 e2
      simp only at e0 e1 e2
      clear k1 hs
      go_wp2
      go_ret
      exact ⟨rfl, (G1.out.alloc _ _).grown⟩
  · have hz : (B0.s == 2) = false := by simpa using hs
    rw [if_neg (by omega)] at e0 e1 e2
    simp only at e0 e1 e2
    clear k1 hs
    go_wp2
    go_ret
    exact ⟨rfl, (G1.out.alloc _ _).grown⟩

set_option maxRecDepth 100000 in
theorem lifted (os : Os) (started : os.Started) (H : Type) (enc : TypeId × Value → H) :
    ReturnsInHanded {} Try.checked os 7 .any (Rows.touchSelfSpec.pre6 enc Try.prog Try.f7 Rows.touchSelfRow.domain false) (Rows.touchSelfSpec.post enc Try.prog Try.f7 false true false false) := by
  refine returnsInHanded_of_change (C := Try.checked) own started (by kernel_rfl) Try.func7
    (ChangeSpec.witness6 (enc := enc) (C := Try.checked) false ⟨#[], #[.agg #[.int .i64 0, .int .i64 0, .int .i64 0, .int .i64 0, .int .i64 0, .int .i64 0, .int .i64 0, .int .i64 0]], []⟩ 8 (by kernel_rfl) (by kernel_rfl) (by kernel_rfl) (by kernel_rfl)) ?_
  intro W base args ds gs before hval0 hW hcnd _
  have hval : ∀ (j : Nat) t v, Try.f7.params[j]? = some t → args[j]? = some v → Value.okWide Try.prog W .any base t v := hval0
  have hW' := hW
  obtain ⟨p, q, hA0, hV, rfl, hfz, hnd⟩ := hW
  have hA : DataW.TrodAll enc Try.prog W 0 (fun _ => true) true Try.f7.params.toList args.toList ds p := hA0
  rw [Try.params7] at hA hval
  obtain ⟨v0, vs0, d0, ds0, p0, q0, hargs, rfl, rfl, h0, r0⟩ := trodAll_cons hA
  obtain ⟨rfl, rfl, rfl⟩ := trodAll_nil r0
  obtain rfl : args = #[v0] := by cases args; simp_all
  obtain ⟨rfl, rfl⟩ := trodVars_none hV
  obtain ⟨B0, rfl, rfl, rfl, o0⟩ := open_body (hval 0 26 v0 rfl rfl) h0
  clear hA0 hval0
  simp only [List.append_nil] at hW'
  refine (walk B0 o0 W ).mono fun e W' ⟨he, hg⟩ => ?_
  subst he
  exact ⟨_, rfl, post_of_same (pa := []) (pv := []) hW' (fun _ _ _ => (trodAll_cons_mk (shut_bool Try.underlying4 _) trodAll_mk0)) (fun sp _ => (trodAll_cons_mk (shut_body o0) trodAll_mk0)) (fun _ _ => rfl) rfl
    (hg.frame _) hg.2.1 (ok_one (by kernel_rfl) rfl (okWide_bool_mk Try.underlying4 _))⟩

theorem over : Rows.touchSelfRow.holds Try.pinned (OpenSpec.ofChange Rows.touchSelfSpec) :=
  OpenClaim.holds_of_wide 7 Try.f7 rfl rfl rfl rfl rfl rfl rfl ⟨rfl, rfl, rfl, rfl, rfl⟩ rfl rfl rfl rfl rfl (by kernel_rfl) Try.func7 (by kernel_rfl)
    (of_decide_eq_true (by kernel_rfl)) (by unfold Func.isWrapper; first | (rw [if_pos (by decide +kernel)]; kernel_rfl) | (rw [if_neg (by decide +kernel)]; exact ⟨rfl, rfl⟩))
    (fun os started H enc _ => lifted os started H enc)

theorem proved : Rows.TouchSelfSaid :=
  over
end Go.Proofs.Ytjnokjoaphmfkaa.touchSelf

namespace Go.Proofs.Ytjnokjoaphmfkaa
theorem touchSelf_holds : Rows.TouchSelfSaid := touchSelf.proved
end Go.Proofs.Ytjnokjoaphmfkaa

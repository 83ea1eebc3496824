/-
  Proved: maquettelaw8.BoundsOf returns true for every body b (the box around a body that may be has its place in its middle, and is as large as it), and leaves what it was given as it was; no condition.
-/
import Derived.Test.YtlfncfjlfccfhaaRows
import Derived.Test.YtlfncfjlfccfhaaXAlive
import Derived.Test.YtlfncfjlfccfhaaXData
import Derived.Test.YtlfncfjlfccfhaaBRef
import Derived.WalkKit
import Derived.Deep.QuietTactic
import Derived.BigQuiet
import Derived.WalkSpells
import Derived.Deep.CutRange
import Derived.Deep.CutBlock
import Derived.WalkLawsBesides
import Derived.ProofKit
import Derived.OpenShut
namespace Go.Proofs.Ytlfncfjlfccfhaa.boundsOf
open Go.ChangeShapes Go.WideShapes Go.ChangeAt Go.RowKit
set_option linter.unusedVariables false

theorem own : ownKnob Try.prog.godebug = none := by kernel_rfl

theorem inR_ok {x : Int} (h : inF x) : inR x = (x, 0) := if_pos h
theorem box_right {B : Bd} (h : rightB B = true) : boxR B = (⟨B.p - B.a, B.q - reachY B, B.p + B.a, B.q + reachY B⟩, 0) ∧ 67108864 ≤ B.a ∧ B.a ≤ 4294967296000 ∧ 67108864 ≤ reachY B ∧ reachY B ≤ 4294967296000 ∧ -42949672960000 ≤ B.p ∧ B.p ≤ 42949672960000 ∧ -42949672960000 ≤ B.q ∧ B.q ≤ 42949672960000 := by
  obtain ⟨h1, h2, h3, _, h5, h6, h7, h8, _⟩ := (rightB_iff B).1 h
  have hr : 67108864 ≤ reachY B ∧ reachY B ≤ 4294967296000 := by
    rcases h1 with ⟨g, _⟩ | ⟨g, g1, g2⟩
    · rw [reach_ball g]; exact ⟨h2, h3⟩
    · rw [reach_else (by omega)]; exact ⟨g1, g2⟩
  refine ⟨?_, h2, h3, hr.1, hr.2, h5, h6, h7, h8⟩
  unfold boxR subR addR
  rw [inR_ok (show inF (B.p - B.a) from ⟨by omega, by omega⟩), inR_ok (show inF (B.q - reachY B) from ⟨by omega, by omega⟩), inR_ok (show inF (B.p + B.a) from ⟨by omega, by omega⟩), inR_ok (show inF (B.q + reachY B) from ⟨by omega, by omega⟩)]
  rfl

set_option maxHeartbeats 400000 in
theorem of1_any (C X : Nat) (hCX : C ≠ X) (B : Bd) (hB : B.ok) (W : World) (t : Bx × Int) (ht : boxR B = t) (hC : BAt W C B) (hX : XAt W X ⟨0, 0, 0, 0⟩) (z : Free W X) :
    Calls Try.prog 20 #[.pointer (some ⟨C, 0, none⟩), .pointer (some ⟨X, 0, none⟩)] W fun e w' =>
      Wrote (fun n => n = X) W w' ∧ ∃ k, (e = .returned (.tuple #[]) ∧ k = 0 ∨ e = .panicked [fault k]) ∧ LeftX X t k w' := by
  have HO : Hid (∀ W, _) := fun W => waysX_of (of_box B hB W)
  rw [ht] at HO
  unfold Bd.val Bx.val at HO
  obtain ⟨b0, b1, b2, b3, b4, b5, b6, b7⟩ := hC
  obtain ⟨u0, u1, u2, u3⟩ := hX
  simp only at u0 u1 u2 u3
  go_enter Try.func20, Try.ntmps20
  go_wp2_with (first
    | (go_at_call 12; go_fit (HO.out _); rintro e V ⟨(⟨rfl, h1⟩ | ⟨rfl, h1⟩), U⟩; have c0 := U.cell u0; have c1 := U.cell u1; have c2 := U.cell u2; have c3 := U.cell u3; have z0 := U.frozen (z 0 none); have z1 := U.frozen (z 1 none); have z2 := U.frozen (z 2 none); have z3 := U.frozen (z 3 none)))
  · go_end0
    exact ⟨U.set4 X _ _ _ _, 0, .inl ⟨rfl, rfl⟩, h1.out.symm, fun _ => xat_set V X ⟨0, 0, 0, 0⟩ t.1 ⟨c0, c1, c2, c3⟩⟩
  · exact ⟨rfl, U.wrote, t.2, .inr rfl, rfl, fun h => (h1.out h).elim⟩

set_option maxHeartbeats 1000000 in
theorem walk (B0 : Bd) (o0 : B0.ok) (w : World) :
    Calls Try.prog 6 #[B0.val] w fun e w' => e = .returned (.bool true) ∧ Grown w w' := by
  have hmf := mk_func
  have HR : Hid (∀ W, _) := fun W => ref_right B0 W
  have hQ := @box_right B0
  unfold Bd.val at HR ⊢
  obtain ⟨r, hr⟩ : ∃ r, rightB B0 = r := ⟨_, rfl⟩
  rw [hr] at HR
  cases r
  · clear hQ
    go_enter Try.func6, Try.ntmps6
    go_wp2_with (first
      | (go_at_call 8; go_fit (alive_any _); rintro e V ⟨rfl, G⟩)
      | (go_at_call 19; go_fit (HR.out _); rintro e V2 ⟨rfl, G2⟩))
    go_ret
    exact ⟨rfl, ((((Grew.refl w).alloc _ _).trans G2).trans G).grown⟩
  · obtain ⟨hbx, a0, a1, r0, r1, p0, p1, q0, q1⟩ := hQ hr
    go_enter Try.func6, Try.ntmps6
    go_wp2_with (first
      | (go_at_call 8; go_fit (alive_any _); rintro e V ⟨rfl, G⟩)
      | (go_at_call 19; go_fit (HR.out _); rintro e V2 ⟨rfl, G2⟩))
    have GB : Grew w V := ((((Grew.refl w).alloc _ _).trans G2).trans G)
    have hB0 : BAt V w.heap.size B0 := BAt.grew (BAt.grew (by constructor <;> simp [go_sem]) G2) G
    have sz := hB0.size
    obtain ⟨W, hW⟩ : ∃ W, W = V.alloc (.cells #[.int .i64 0, .int .i64 0, .int .i64 0, .int .i64 0] 28) := ⟨_, rfl⟩
    rw [← hW]
    have GW : Grew V W := by rw [hW]; exact (Grew.refl V).alloc _ _
    have hX : XAt W V.heap.size ⟨0, 0, 0, 0⟩ := by rw [hW]; constructor <;> simp [go_sem]
    have sW : W.heap.size = V.heap.size + 1 := by rw [hW]; simp [go_sem]
    have hB1 := hB0.grew GW
    clear hW HR hB0 G2 G
    refine (try_set (S := fun n => n = V.heap.size) (P := fun k W => k = 0 ∧ XAt W V.heap.size ⟨B0.p - B0.a, B0.q - reachY B0, B0.p + B0.a, B0.q + reachY B0⟩) _ _ _ (fun _ => by simp [go_sem]) (fun n hn => by omega) ?_ ?_).mono ?_
    · rintro x W1 W2 hh ⟨h1, h2⟩
      exact ⟨h1, h2.heap (hh _ (by omega))⟩
    · intro W0 G
      refine (of1_any _ _ (by omega) B0 o0 W0 _ hbx (hB1.grew G) (hX.grew G) ((GW.trans G).freeB (Nat.le_refl _))).mono ?_
      rintro e w' ⟨k1, k, k2, k3, k4⟩
      exact ⟨k1, k, k2, k3, k4 k3⟩
    rintro e N ⟨hN, x, rfl, rfl, hx⟩
    have G1 : Grew w N := hN.to (GB.trans GW) (fun n hn => by have := GB.size; omega)
    obtain ⟨b0, b1, b2, b3, b4, b5, b6, b7⟩ := hB1.wrote hN (by omega)
    clear hN hB1 hX GB GW sW sz hr V2
    have hI : Hid (inB B0.p B0.q ⟨B0.p - B0.a, B0.q - reachY B0, B0.p + B0.a, B0.q + reachY B0⟩ = true) := by
      refine (inB_iff _ _ _).2 ?_
      simp only
      omega
    have hM : Hid (meetB ⟨B0.p - B0.a, B0.q - reachY B0, B0.p + B0.a, B0.q + reachY B0⟩ ⟨B0.p - B0.a, B0.q - reachY B0, B0.p + B0.a, B0.q + reachY B0⟩ = true) := by
      refine (meetB_iff _ _).2 ?_
      simp only
      omega
    have HI : Hid (∀ W, _) := fun W => in_any B0.p B0.q ⟨B0.p - B0.a, B0.q - reachY B0, B0.p + B0.a, B0.q + reachY B0⟩ W
    have HM : Hid (∀ W, _) := fun W => meet_any ⟨B0.p - B0.a, B0.q - reachY B0, B0.p + B0.a, B0.q + reachY B0⟩ ⟨B0.p - B0.a, B0.q - reachY B0, B0.p + B0.a, B0.q + reachY B0⟩ W
    rw [hI.out] at HI
    rw [hM.out] at HM
    unfold Bx.val at HI HM
    simp only at HI HM
    clear hI hM
    have e1 : (B0.p + B0.a - (B0.p - B0.a) == 2 * B0.a) = true := by simp; omega
    have e2 : (B0.q + reachY B0 - (B0.q - reachY B0) == 2 * reachY B0) = true := by simp; omega
    have e3 : (B0.p - B0.a + B0.a == B0.p) = true := by simp
    have e4 : (B0.q - reachY B0 + reachY B0 == B0.q) = true := by simp
    obtain ⟨c0, c1, c2, c3⟩ := hx
    simp only at c0 c1 c2 c3
    by_cases hs : B0.s = 1
    · rw [reach_ball hs] at *
      have hz : (B0.s == 1) = true := by simpa using hs
      clear hs hbx r0 r1
      go_wp2_with (first
        | (go_at_call 16; go_fit (HI.out _); rintro e V3 ⟨rfl, U3⟩; have d0 := U3.cell c0; have d1 := U3.cell c1; have d2 := U3.cell c2; have d3 := U3.cell c3)
        | (go_at_call 13; go_fit (HM.out _); rintro e V4 ⟨rfl, U4⟩))
      go_ret
      exact ⟨rfl, ((G1.trans U3).trans U4).grown⟩
    · rw [reach_else hs] at *
      have hz : (B0.s == 1) = false := by simpa using hs
      clear hs hbx
      go_wp2_with (first
        | (go_at_call 16; go_fit (HI.out _); rintro e V3 ⟨rfl, U3⟩; have d0 := U3.cell c0; have d1 := U3.cell c1; have d2 := U3.cell c2; have d3 := U3.cell c3)
        | (go_at_call 13; go_fit (HM.out _); rintro e V4 ⟨rfl, U4⟩))
      go_ret
      exact ⟨rfl, ((G1.trans U3).trans U4).grown⟩

set_option maxRecDepth 100000 in
theorem lifted (os : Os) (started : os.Started) (H : Type) (enc : TypeId × Value → H) :
    ReturnsInHanded {} Try.checked os 6 .any (Rows.boundsOfSpec.pre6 enc Try.prog Try.f6 Rows.boundsOfRow.domain false) (Rows.boundsOfSpec.post enc Try.prog Try.f6 false true false false) := by
  refine returnsInHanded_of_change (C := Try.checked) own started (by kernel_rfl) Try.func6
    (ChangeSpec.witness6 (enc := enc) (C := Try.checked) false ⟨#[], #[.agg #[.int .i64 0, .int .i64 0, .int .i64 0, .int .i64 0, .int .i64 0, .int .i64 0, .int .i64 0, .int .i64 0]], []⟩ 8 (by kernel_rfl) (by kernel_rfl) (by kernel_rfl) (by kernel_rfl)) ?_
  intro W base args ds gs before hval0 hW hcnd _
  have hval : ∀ (j : Nat) t v, Try.f6.params[j]? = some t → args[j]? = some v → Value.okWide Try.prog W .any base t v := hval0
  have hW' := hW
  obtain ⟨p, q, hA0, hV, rfl, hfz, hnd⟩ := hW
  have hA : DataW.TrodAll enc Try.prog W 0 (fun _ => true) true Try.f6.params.toList args.toList ds p := hA0
  rw [Try.params6] at hA hval
  obtain ⟨v0, vs0, d0, ds0, p0, q0, hargs, rfl, rfl, h0, r0⟩ := trodAll_cons hA
  obtain ⟨rfl, rfl, rfl⟩ := trodAll_nil r0
  obtain rfl : args = #[v0] := by cases args; simp_all
  obtain ⟨rfl, rfl⟩ := trodVars_none hV
  obtain ⟨B0, rfl, rfl, rfl, o0⟩ := open_body (hval 0 26 v0 rfl rfl) h0
  clear hA0 hval0
  simp only [List.append_nil] at hW'
  refine (walk B0 o0 W).mono fun e W' ⟨he, hg⟩ => ?_
  subst he
  exact ⟨_, rfl, post_of_same (pa := []) (pv := []) hW' (fun _ _ _ => (trodAll_cons_mk (shut_bool Try.underlying4 _) trodAll_mk0)) (fun sp _ => (trodAll_cons_mk (shut_body o0) trodAll_mk0)) (fun _ _ => rfl) rfl
    (hg.frame _) hg.2.1 (ok_one (by kernel_rfl) rfl (okWide_bool_mk Try.underlying4 _))⟩

theorem over : Rows.boundsOfRow.holds Try.pinned (OpenSpec.ofChange Rows.boundsOfSpec) :=
  OpenClaim.holds_of_wide 6 Try.f6 rfl rfl rfl rfl rfl rfl rfl ⟨rfl, rfl, rfl, rfl, rfl⟩ rfl rfl rfl rfl rfl (by kernel_rfl) Try.func6 (by kernel_rfl)
    (of_decide_eq_true (by kernel_rfl)) (by unfold Func.isWrapper; first | (rw [if_pos (by decide +kernel)]; kernel_rfl) | (rw [if_neg (by decide +kernel)]; exact ⟨rfl, rfl⟩))
    (fun os started H enc _ => lifted os started H enc)

theorem proved : Rows.BoundsOfSaid :=
  over
end Go.Proofs.Ytlfncfjlfccfhaa.boundsOf

namespace Go.Proofs.Ytlfncfjlfccfhaa
theorem boundsOf_holds : Rows.BoundsOfSaid := boundsOf.proved
end Go.Proofs.Ytlfncfjlfccfhaa

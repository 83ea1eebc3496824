/-
  Proved: maquettelaw13.PlatterEdges returns true for every three ints, and leaves what it was given as it was; no condition.
-/
import Derived.Test.YtjmblichomchpabRows
import Derived.Test.YtjmblichomchpabTAlive
import Derived.WalkKit
import Derived.Deep.QuietTactic
import Derived.BigQuiet
import Derived.WalkSpells
import Derived.Deep.CutRange
import Derived.Deep.CutBlock
import Derived.WalkLawsBesides
import Derived.ProofKit
import Derived.OpenShut
import Derived.ChangeOld
import Derived.Below
namespace Go.Proofs.Ytjmblichomchpab.platterEdges
open Go.ChangeShapes Go.WideShapes Go.ChangeAt Go.RowKit
set_option linter.unusedVariables false

theorem own : ownKnob Try.prog.godebug = none := by kernel_rfl
theorem laidOut : laidOutB Try.prog = true := by kernel_rfl

def xB : ByteArray := ⟨#[120]⟩
theorem ed_ok {P : Pl} {k : Nat} {x : ByteArray} (hd : P.dead = false) (hk : k < P.now.length) (hx : x.size = 128) (hl : 0 < P.left) :
    ∃ P', storeP P (k : Int) x = (0, P') ∧ P'.left = P.left - 1 ∧ P'.dead = false ∧ P'.now.length = P.now.length ∧ P'.float.length = P.float.length + 1 := by
  refine ⟨{ P with now := P.now.set k x, float := P.float ++ [⟨k, x⟩], left := P.left - 1 }, ?_, rfl, hd, by simp, by simp⟩
  unfold storeP
  rw [if_neg (by rw [hd]; decide), if_neg (not_not_intro ⟨by omega, by omega⟩), if_neg (not_not_intro hx), if_neg (by omega), if_pos hl, Int.toNat_natCast]
theorem ed_no {P : Pl} {x : ByteArray} (hd : P.dead = false) (h0 : 0 < P.now.length) (hx : x.size = 128) (hl : P.left = 0) : ∃ P', storeP P 0 x = (7, P') := by
  refine ⟨{ P with dead := true }, ?_⟩
  unfold storeP
  rw [if_neg (by rw [hd]; decide), if_neg (not_not_intro ⟨by omega, by omega⟩), if_neg (not_not_intro hx), if_pos hl]
theorem ed_range {P : Pl} {n : Int} {x : ByteArray} (hd : P.dead = false) (h : ¬ (0 ≤ n ∧ n < P.now.length)) : storeP P n x = (6, P) := by
  unfold storeP
  rw [if_neg (by rw [hd]; decide), if_pos h]
theorem ed_size {P : Pl} {n : Int} {x : ByteArray} (hd : P.dead = false) (h : 0 ≤ n ∧ n < P.now.length) (hx : ¬ x.size = 128) : storeP P n x = (9, P) := by
  unfold storeP
  rw [if_neg (by rw [hd]; decide), if_neg (not_not_intro h), if_pos hx]

set_option maxRecDepth 10000 in
set_option maxHeartbeats 8000000 in
theorem walk (a0 : Int) (f0 : inF a0) (a1 : Int) (f1 : inF a1) (a2 : Int) (f2 : inF a2) (w : World)   :
    Calls Try.prog 3 #[.int .i64 a0, .int .i64 a1, .int .i64 a2] w fun e w' => e = .returned (.bool true) ∧ Below w.heap.size w w' := by
  have hal : Hid (∀ W, Calls Try.prog 5 #[] W fun e w' => e = .returned (.bool true) ∧ Below W.heap.size W w') := alive_any
  by_cases hbad : a0 < 1 ∨ 30 < a0 ∨ a2 < 0 ∨ 300 < a2
  · go_enter Try.func3, Try.ntmps3
    by_cases h0 : a0 < 1
    · go_wp2_with (first | (go_at_call 5; go_fit (hal.out w); rintro e w1 ⟨rfl, hB⟩))
      go_ret
      exact ⟨rfl, hB⟩
    by_cases h1 : 30 < a0
    · go_wp2_with (first | (go_at_call 5; go_fit (hal.out w); rintro e w1 ⟨rfl, hB⟩))
      go_ret
      exact ⟨rfl, hB⟩
    by_cases h2 : a2 < 0
    · go_wp2_with (first | (go_at_call 5; go_fit (hal.out w); rintro e w1 ⟨rfl, hB⟩))
      go_ret
      exact ⟨rfl, hB⟩
    have h3 : 300 < a2 := by omega
    go_wp2_with (first | (go_at_call 5; go_fit (hal.out w); rintro e w1 ⟨rfl, hB⟩))
    go_ret
    exact ⟨rfl, hB⟩
  have h0 : ¬ a0 < 1 := by omega
  have h1 : ¬ 30 < a0 := by omega
  have h2 : ¬ a2 < 0 := by omega
  have h3 : ¬ 300 < a2 := by omega
  obtain ⟨n, rfl⟩ := Int.eq_ofNat_of_zero_le (a := a0) (by omega)
  obtain ⟨m, rfl⟩ := Int.eq_ofNat_of_zero_le (a := a2) (by omega)
  have hn0 : 0 < n := by omega
  have hn1 : n ≤ 200 := by omega
  obtain ⟨cs, hmk, hcv⟩ := made_zeros m (by omega)
  clear hbad
  have hNew : Hid (∀ W, Below w.heap.size w W → Calls Try.prog 6 #[.int .i64 (n : Int)] W fun e w' => ∃ b, e = .returned (.pointer (some ⟨b, 0, none⟩)) ∧ One w w' b (newP n)) := fun W h => one_new (k := n) h hn0 hn1
  have hX : Hid (∀ W, Calls Try.prog 9 #[.string xB] W fun e w' => e = .returned (.string (fillB xB)) ∧ Grew W w') := fun W => fill_any W xB
  obtain ⟨P1, hP1, e1, e2, e3, e4⟩ : ∃ P1, haltP (newP n) 1 = P1 ∧ P1.left = 1 ∧ P1.dead = false ∧ P1.now.length = n ∧ P1.float.length = 0 := ⟨_, rfl, rfl, rfl, by simp [haltP, newP], rfl⟩
  replace hP1 : Hid (haltP (newP n) 1 = P1) := hP1
  have hm1 : P1.float.length < 1000000 := by rw [e4]; decide
  by_cases hr : 0 ≤ a1 ∧ a1 < n
  · obtain ⟨k, rfl⟩ := Int.eq_ofNat_of_zero_le hr.1
    have r1 : ¬ (k : Int) < 0 := by omega
    have r2 : ¬ (n : Int) ≤ k := by omega
    have hk : k < P1.now.length := by rw [e3]; omega
    by_cases hz : m = 128
    · obtain ⟨P2, hs1, q1, q2, q3, q4⟩ := ed_ok (x := zerosB m) e2 hk (by rw [zerosB_size]; exact hz) (by rw [e1]; decide)
      obtain ⟨P3, hs2⟩ := ed_no (x := fillB xB) q2 (by rw [q3, e3]; exact hn0) (fillB_size _) (by rw [q1, e1]; decide)
      have hm2 : P2.float.length < 1000000 := by rw [q4, e4]; decide
      subst hz
      replace hmk : ∀ W : World, (Instr.makeSlice 28 (.int .i64 128) (.int .i64 128)).run Try.prog W = .ok (.slice (some ⟨W.heap.size, 0, none⟩) 128 128) (W.alloc (.cells cs 5)) := hmk
      replace hs1 : Hid (storeP P1 (k : Int) (zerosB 128) = (0, P2)) := hs1
      replace hs2 : Hid (storeP P2 0 (fillB xB) = (7, P3)) := hs2
      clear e1 e2 e3 e4 q1 q2 q3 q4
      go_enter Try.func3, Try.ntmps3
      go_wp2_with (first
        | (go_at_call 5; go_fit (hal.out w); rintro e w1 ⟨rfl, hB⟩)
        | (go_at_call 6; go_fit (hNew.out _ hB); rintro e w1 ⟨b, rfl, hO⟩)
        | (go_at_call 7; go_fit (one_halt hO (n := 1) ⟨by decide, by decide⟩ hP1.out); rintro e w1 ⟨rfl, hO⟩)
        | (go_at_call 9; go_fit (hX.out _); rintro e w1 ⟨rfl, G⟩; replace hO := hO.grew G)
        | (go_at_call 8; go_fit (one_store (hO.grew ((Grew.refl _).alloc _ _)) hs1.out hm1); rintro e w1 ⟨rfl, hO⟩)
        | (go_at_call 8; go_fit (one_store hO hs2.out hm2); rintro e w1 ⟨rfl, hO⟩)
        | fail)
      go_ret
      exact ⟨rfl, hO.2⟩
    · have hs1 := ed_size (n := (k : Int)) (x := zerosB m) e2 ⟨by omega, by omega⟩ (by rw [zerosB_size]; exact hz)
      obtain ⟨P3, hs2, _⟩ := ed_ok (k := 0) (x := fillB xB) e2 (by rw [e3]; exact hn0) (fillB_size _) (by rw [e1]; decide)
      have hm2 := hm1
      have z1 : ((m : Int) != 128) = true := by simp; omega
      replace hs1 : Hid (storeP P1 (k : Int) (zerosB m) = (9, P1)) := hs1
      replace hs2 : Hid (storeP P1 0 (fillB xB) = (0, P3)) := hs2
      clear e1 e2 e3 e4
      go_enter Try.func3, Try.ntmps3
      go_wp2_with (first
        | (go_at_call 5; go_fit (hal.out w); rintro e w1 ⟨rfl, hB⟩)
        | (go_at_call 6; go_fit (hNew.out _ hB); rintro e w1 ⟨b, rfl, hO⟩)
        | (go_at_call 7; go_fit (one_halt hO (n := 1) ⟨by decide, by decide⟩ hP1.out); rintro e w1 ⟨rfl, hO⟩)
        | (go_at_call 9; go_fit (hX.out _); rintro e w1 ⟨rfl, G⟩; replace hO := hO.grew G)
        | (go_at_call 8; go_fit (one_store (hO.grew ((Grew.refl _).alloc _ _)) hs1.out hm1); rintro e w1 ⟨rfl, hO⟩)
        | (go_at_call 8; go_fit (one_store hO hs2.out hm2); rintro e w1 ⟨rfl, hO⟩)
        | fail)
      go_ret
      exact ⟨rfl, hO.2⟩
  · have hs1 := ed_range (x := zerosB m) e2 (by rw [e3]; exact hr)
    obtain ⟨P3, hs2, _⟩ := ed_ok (k := 0) (x := fillB xB) e2 (by rw [e3]; exact hn0) (fillB_size _) (by rw [e1]; decide)
    have hm2 := hm1
    replace hs1 : Hid (storeP P1 a1 (zerosB m) = (6, P1)) := hs1
    replace hs2 : Hid (storeP P1 0 (fillB xB) = (0, P3)) := hs2
    clear e1 e2 e3 e4
    by_cases hneg : a1 < 0
    · have r0 := hneg
      go_enter Try.func3, Try.ntmps3
      go_wp2_with (first
        | (go_at_call 5; go_fit (hal.out w); rintro e w1 ⟨rfl, hB⟩)
        | (go_at_call 6; go_fit (hNew.out _ hB); rintro e w1 ⟨b, rfl, hO⟩)
        | (go_at_call 7; go_fit (one_halt hO (n := 1) ⟨by decide, by decide⟩ hP1.out); rintro e w1 ⟨rfl, hO⟩)
        | (go_at_call 9; go_fit (hX.out _); rintro e w1 ⟨rfl, G⟩; replace hO := hO.grew G)
        | (go_at_call 8; go_fit (one_store (hO.grew ((Grew.refl _).alloc _ _)) hs1.out hm1); rintro e w1 ⟨rfl, hO⟩)
        | (go_at_call 8; go_fit (one_store hO hs2.out hm2); rintro e w1 ⟨rfl, hO⟩)
        | fail)
      go_ret
      exact ⟨rfl, hO.2⟩
    · have r2 : (n : Int) ≤ a1 := by omega
      go_enter Try.func3, Try.ntmps3
      go_wp2_with (first
        | (go_at_call 5; go_fit (hal.out w); rintro e w1 ⟨rfl, hB⟩)
        | (go_at_call 6; go_fit (hNew.out _ hB); rintro e w1 ⟨b, rfl, hO⟩)
        | (go_at_call 7; go_fit (one_halt hO (n := 1) ⟨by decide, by decide⟩ hP1.out); rintro e w1 ⟨rfl, hO⟩)
        | (go_at_call 9; go_fit (hX.out _); rintro e w1 ⟨rfl, G⟩; replace hO := hO.grew G)
        | (go_at_call 8; go_fit (one_store (hO.grew ((Grew.refl _).alloc _ _)) hs1.out hm1); rintro e w1 ⟨rfl, hO⟩)
        | (go_at_call 8; go_fit (one_store hO hs2.out hm2); rintro e w1 ⟨rfl, hO⟩)
        | fail)
      go_ret
      exact ⟨rfl, hO.2⟩

set_option maxRecDepth 100000 in
theorem lifted (os : Os) (started : os.Started) (H : Type) (enc : TypeId × Value → H) :
    ReturnsInHanded {} Try.checked os 3 .any (Rows.platterEdgesSpec.pre6 enc Try.prog Try.f3 Rows.platterEdgesRow.domain false) (Rows.platterEdgesSpec.post enc Try.prog Try.f3 false true false false) := by
  refine returnsInHanded_of_change (C := Try.checked) own started (by kernel_rfl) Try.func3
    (ChangeSpec.witness6 (enc := enc) (C := Try.checked) false ⟨#[], #[.int .i64 0, .int .i64 0, .int .i64 0], []⟩ 8 (by kernel_rfl) (by kernel_rfl) (by kernel_rfl) (by kernel_rfl)) ?_
  intro W base args ds gs before hval0 hW hcnd _
  have hval : ∀ (j : Nat) t v, Try.f3.params[j]? = some t → args[j]? = some v → Value.okWide Try.prog W .any base t v := hval0
  have hW' := hW
  obtain ⟨p, q, hA0, hV, rfl, hfz, hnd⟩ := hW
  have hA : DataW.TrodAll enc Try.prog W 0 (fun _ => true) true Try.f3.params.toList args.toList ds p := hA0
  rw [Try.params3] at hA hval
  obtain ⟨v0, vs0, d0, ds0, p0, q0, hargs, rfl, rfl, h0, r0⟩ := trodAll_cons hA
  obtain ⟨v1, vs1, d1, ds1, p1, q1, rfl, rfl, rfl, h1, r1⟩ := trodAll_cons r0
  obtain ⟨v2, vs2, d2, ds2, p2, q2, rfl, rfl, rfl, h2, r2⟩ := trodAll_cons r1
  obtain ⟨rfl, rfl, rfl⟩ := trodAll_nil r2
  obtain rfl : args = #[v0, v1, v2] := by cases args; simp_all
  obtain ⟨rfl, rfl⟩ := trodVars_none hV
  obtain ⟨a0, rfl, rfl, rfl, w0⟩ := open_int Try.underlying3 (hval 0 3 v0 rfl rfl) h0
  have f0 := inF_wf w0
  obtain ⟨a1, rfl, rfl, rfl, w1⟩ := open_int Try.underlying3 (hval 1 3 v1 rfl rfl) h1
  have f1 := inF_wf w1
  obtain ⟨a2, rfl, rfl, rfl, w2⟩ := open_int Try.underlying3 (hval 2 3 v2 rfl rfl) h2
  have f2 := inF_wf w2
  clear hA0 hval0
  refine (walk a0 f0 a1 f1 a2 f2 W   ).mono fun e W' ⟨he, bel⟩ => ?_
  subst he
  exact ⟨_, rfl, _, _, _, [], _, [], hW', trodAll_mk1 (shut_bool Try.underlying4 _), (trodAll_cons_mk (shut_int Try.underlying3 w0) (trodAll_cons_mk (shut_int Try.underlying3 w1) (trodAll_cons_mk (shut_int Try.underlying3 w2) trodAll_mk0))), rfl, bel.frame _, fun h => by cases h⟩

theorem over : Rows.platterEdgesRow.holds Try.pinned (OpenSpec.ofChange Rows.platterEdgesSpec) :=
  OpenClaim.holds_of_wide 3 Try.f3 rfl rfl rfl rfl rfl rfl rfl ⟨rfl, rfl, rfl, rfl, rfl⟩ rfl rfl rfl rfl rfl (by kernel_rfl) Try.func3 (by kernel_rfl)
    (of_decide_eq_true (by kernel_rfl)) (by unfold Func.isWrapper; first | (rw [if_pos (by decide +kernel)]; kernel_rfl) | (rw [if_neg (by decide +kernel)]; exact ⟨rfl, rfl⟩))
    (fun os started H enc _ => lifted os started H enc)

theorem proved : Rows.PlatterEdgesSaid :=
  over
end Go.Proofs.Ytjmblichomchpab.platterEdges

namespace Go.Proofs.Ytjmblichomchpab
theorem platterEdges_holds : Rows.PlatterEdgesSaid := platterEdges.proved
end Go.Proofs.Ytjmblichomchpab

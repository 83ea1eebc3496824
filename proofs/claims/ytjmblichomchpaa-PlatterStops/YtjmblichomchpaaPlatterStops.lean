/-
  Proved: maquettelaw13.PlatterStops returns true for every two ints, and leaves what it was given as it was; no condition.
-/
import Derived.Test.YtjmblichomchpaaRows
import Derived.Test.YtjmblichomchpaaTAlive
import Derived.WalkKit
import Derived.Deep.QuietTactic
import Derived.BigQuiet
import Derived.WalkSpells
import Derived.Deep.CutRange
import Derived.Deep.CutBlock
import Derived.WalkLawsBesides
import Derived.ProofKit
import Derived.OpenShut
import Derived.ChangeOld
import Derived.Below
namespace Go.Proofs.Ytjmblichomchpaa.platterStops
open Go.ChangeShapes Go.WideShapes Go.ChangeAt Go.RowKit
set_option linter.unusedVariables false

theorem own : ownKnob Try.prog.godebug = none := by kernel_rfl
theorem laidOut : laidOutB Try.prog = true := by kernel_rfl

theorem st_ok {P : Pl} {k : Nat} {x : ByteArray} (hd : P.dead = false) (hk : k < P.now.length) (hx : x.size = 128) (hl : 0 < P.left) :
    ∃ P', storeP P (k : Int) x = (0, P') ∧ P'.left = P.left - 1 ∧ P'.dead = false ∧ P'.now.length = P.now.length ∧ P'.float.length = P.float.length + 1 := by
  refine ⟨{ P with now := P.now.set k x, float := P.float ++ [⟨k, x⟩], left := P.left - 1 }, ?_, rfl, hd, by simp, by simp⟩
  unfold storeP
  rw [if_neg (by rw [hd]; decide), if_neg (not_not_intro ⟨by omega, by omega⟩), if_neg (not_not_intro hx), if_neg (by omega), if_pos hl, Int.toNat_natCast]
theorem st_no {P : Pl} {x : ByteArray} (h0 : 0 < P.now.length) (hx : x.size = 128) (hl : P.dead = true ∨ P.left = 0) :
    ∃ P', storeP P 0 x = (7, P') ∧ P'.dead = true ∧ P'.now.length = P.now.length ∧ P'.float.length = P.float.length := by
  by_cases hd : P.dead = true
  · exact ⟨P, by unfold storeP; rw [if_pos hd], hd, rfl, rfl⟩
  · have hl := hl.resolve_left hd
    refine ⟨{ P with dead := true }, ?_, rfl, rfl, rfl⟩
    unfold storeP
    rw [if_neg hd, if_neg (not_not_intro ⟨by omega, by omega⟩), if_neg (not_not_intro hx), if_pos hl]
theorem fail_none : ∀ (F : List Wr) (k : Nat) (r : Int × List ByteArray), (failL [] k F r).1 = r.1
  | [], _, _ => rfl
  | x :: F, k, r => by
    rw [failL, fail_none F]
    have : cutN [] k = 0 := by simp [cutN]
    simp [this]
theorem st_fail {P : Pl} (ok : P.ok) : ∃ P', failP P [] = (0, P') ∧ P'.dead = false ∧ P'.left = -1 ∧ P'.now.length = P.now.length ∧ P'.float = [] := by
  have h := failL_ok [] P.float 0 (0, P.last) ok.last (fun x hx => by rw [ok.len]; exact ok.float x hx)
  exact ⟨(failP P []).2, Prod.ext (fail_none P.float 0 (0, P.last)) rfl, rfl, rfl, h.2.trans ok.len, rfl⟩
theorem st_last {P : Pl} {x : ByteArray} (hd : P.dead = false) (h0 : 0 < P.now.length) (hx : x.size = 128) (hl : P.left = -1) : ∃ P', storeP P 0 x = (0, P') := by
  refine ⟨{ P with now := P.now.set 0 x, float := P.float ++ [⟨0, x⟩], left := if 0 < P.left then P.left - 1 else P.left }, ?_⟩
  unfold storeP
  rw [if_neg (by rw [hd]; decide), if_neg (not_not_intro ⟨by omega, by omega⟩), if_neg (not_not_intro hx), if_neg (by omega)]
  rfl
theorem st_lt {a : Nat} (h : a ≤ 15) : a < 1000000 := by omega
def xB : ByteArray := ⟨#[120]⟩
def yB : ByteArray := ⟨#[121]⟩
def zB : ByteArray := ⟨#[122]⟩

set_option maxRecDepth 10000 in
set_option maxHeartbeats 8000000 in
theorem walk (a0 : Int) (f0 : inF a0) (a1 : Int) (f1 : inF a1) (w : World)  :
    Calls Try.prog 6 #[.int .i64 a0, .int .i64 a1] w fun e w' => e = .returned (.bool true) ∧ Below w.heap.size w w' := by
  have hal : Hid (∀ W, Calls Try.prog 9 #[] W fun e w' => e = .returned (.bool true) ∧ Below W.heap.size W w') := alive_any
  by_cases hbad : a0 < 0 ∨ 15 < a0 ∨ a1 < 0 ∨ 6 < a1
  · go_enter Try.func6, Try.ntmps6
    by_cases h0 : a0 < 0
    · go_wp2_with (first | (go_at_call 9; go_fit (hal.out w); rintro e w1 ⟨rfl, hB⟩))
      go_ret
      exact ⟨rfl, hB⟩
    by_cases h1 : 15 < a0
    · go_wp2_with (first | (go_at_call 9; go_fit (hal.out w); rintro e w1 ⟨rfl, hB⟩))
      go_ret
      exact ⟨rfl, hB⟩
    by_cases h2 : a1 < 0
    · go_wp2_with (first | (go_at_call 9; go_fit (hal.out w); rintro e w1 ⟨rfl, hB⟩))
      go_ret
      exact ⟨rfl, hB⟩
    have h3 : 6 < a1 := by omega
    go_wp2_with (first | (go_at_call 9; go_fit (hal.out w); rintro e w1 ⟨rfl, hB⟩))
    go_ret
    exact ⟨rfl, hB⟩
  have h0 : ¬ a0 < 0 := by omega
  have h1 : ¬ 15 < a0 := by omega
  have h2 : ¬ a1 < 0 := by omega
  have h3 : ¬ 6 < a1 := by omega
  obtain ⟨n, rfl⟩ := Int.eq_ofNat_of_zero_le (a := a0) (by omega)
  obtain ⟨m, rfl⟩ := Int.eq_ofNat_of_zero_le (a := a1) (by omega)
  have hn : n ≤ 15 := by omega
  have hm : m ≤ 6 := by omega
  clear hbad
  have hNew : Hid (∀ W, Below w.heap.size w W → Calls Try.prog 10 #[.int .i64 20] W fun e w' => ∃ b, e = .returned (.pointer (some ⟨b, 0, none⟩)) ∧ One w w' b (newP 20)) := fun W h => one_new (k := 20) h (by decide) (by decide)
  have hX : Hid (∀ W, Calls Try.prog 15 #[.string xB] W fun e w' => e = .returned (.string (fillB xB)) ∧ Grew W w') := fun W => fill_any W xB
  have hY : Hid (∀ W, Calls Try.prog 15 #[.string yB] W fun e w' => e = .returned (.string (fillB yB)) ∧ Grew W w') := fun W => fill_any W yB
  have hZ : Hid (∀ W, Calls Try.prog 15 #[.string zB] W fun e w' => e = .returned (.string (fillB zB)) ∧ Grew W w') := fun W => fill_any W zB
  obtain ⟨P1, hP1, e1⟩ : ∃ P1, haltP (newP 20) (n : Int) = P1 ∧ (P1.left = n ∧ P1.dead = false ∧ P1.now.length = 20 ∧ P1.float.length = 0) := ⟨_, rfl, rfl, rfl, by simp [haltP, newP], rfl⟩
  obtain ⟨e1, e2, e3, e4⟩ := e1
  replace hP1 : Hid (haltP (newP 20) (n : Int) = P1) := hP1
  go_enter Try.func6, Try.ntmps6
  go_wp2_with (first
    | (go_at_call 9; go_fit (hal.out w); rintro e w1 ⟨rfl, hB⟩)
    | (go_at_call 10; go_fit (hNew.out _ hB); rintro e w1 ⟨b, rfl, hO⟩)
    | (go_at_call 13; go_fit (one_halt hO f0 hP1.out); rintro e w1 ⟨rfl, hO⟩)
    | fail)
  go_loopw [6] (fun i wr => ∃ (k : Nat) (P : Pl), k ≤ n ∧ i = .int .i64 k ∧ One w wr b P ∧ P.left = (n : Int) - k ∧ P.dead = false ∧ P.now.length = 20 ∧ P.float.length = k) (fun i _ => n - (intOf i).toNat)
  case atStart => exact ⟨0, P1, by omega, rfl, hO, by rw [e1]; simp, e2, e3, e4⟩
  case round =>
    obtain ⟨k, P, hk, rfl, hO2, p1, p2, p3, p4⟩ := hrel
    clear hO e1 e2 e3 e4 hP1
    by_cases hlt : k < n
    · have hi : (k : Int) < n := by omega
      have hw : wrap64 ((k : Int) + 1) = k + 1 := IntWalk.wrap64_in _ ⟨by omega, by omega⟩
      obtain ⟨P', hs, q1, q2, q3, q4⟩ := st_ok (P := P) (k := k) p2 (by rw [p3]; omega) (fillB_size xB) (by rw [p1]; omega)
      replace hs : Hid (storeP P (k : Int) (fillB xB) = (0, P')) := hs
      go_wp2_with (first
        | (go_at_call 15; go_fit (hX.out _); rintro e w1 ⟨rfl, G⟩; replace hO2 := hO2.grew G)
        | (go_at_call 14; go_fit (one_store hO2 hs.out (st_lt (by omega))); rintro e w1 ⟨rfl, hO2⟩)
        | (go_at_call 17; go_fit (one_halted hO2 q2); rintro e w1 ⟨rfl, e⟩; have e := e.symm; subst e)
        | fail)
      refine ⟨⟨k + 1, P', hlt, by simp, hO2, ?_, q2, q3.trans p3, by rw [q4, p4]⟩, ?_⟩
      · rw [q1, p1]; simp; omega
      · simp only [intOf]; omega
    · have hi : ¬ (k : Int) < n := by omega
      obtain rfl : k = n := by omega
      go_wp2_with (fail)
      have p1' : P.left = 0 := by rw [p1]; omega
      go_loopw [7] (fun i wr => ∃ (j : Nat) (P : Pl), j ≤ m + 1 ∧ i = .int .i64 j ∧ One w wr b P ∧ (P.left = 0 ∨ P.dead = true) ∧ (0 < j → P.dead = true) ∧ P.now.length = 20 ∧ P.float.length = k) (fun i _ => m + 1 - (intOf i).toNat)
      case atStart => exact ⟨0, P, by omega, rfl, hO2, .inl p1', fun e => absurd e (by omega), p3, p4⟩
      case round =>
        clear hO2 p1 p2 p3 p4 p1'
        obtain ⟨j, Q, hj, rfl, hO3, p1, p2, p3, p4⟩ := hrel
        by_cases hjt : j ≤ m
        · have hi : (j : Int) ≤ m := by omega
          have hw : wrap64 ((j : Int) + 1) = j + 1 := IntWalk.wrap64_in _ ⟨by omega, by omega⟩
          obtain ⟨Q', hs, q1, q2, q3⟩ := st_no (P := Q) (by rw [p3]; omega) (fillB_size yB) p1.symm
          have hset : Hid (settleP Q' = (7, Q')) := by show _ = _; unfold settleP; rw [if_pos q1]
          have hfl : Hid ((Q'.float.length : Int) = k) := by show _ = _; rw [q3, p4]
          replace hs : Hid (storeP Q 0 (fillB yB) = (7, Q')) := hs
          go_wp2_with (first
            | (go_at_call 15; go_fit (hY.out _); rintro e w1 ⟨rfl, G⟩; replace hO3 := hO3.grew G)
            | (go_at_call 14; go_fit (one_store hO3 hs.out (st_lt (by omega))); rintro e w1 ⟨rfl, hO3⟩)
            | (go_at_call 17; go_fit (one_halted hO3 q1); rintro e w1 ⟨rfl, e⟩; have e := e.symm; subst e)
            | (go_at_call 16; go_fit (one_settle hO3 hset.out); rintro e w1 ⟨rfl, hO3⟩)
            | (go_at_call 19; go_fit (one_afloat hO3 hfl.out); rintro e w1 ⟨rfl, e⟩; have e := e.symm; subst e)
            | fail)
          refine ⟨⟨j + 1, Q', by omega, by simp, hO3, .inr q1, fun _ => q1, q2.trans p3, q3.trans p4⟩, ?_⟩
          simp only [intOf]; omega
        · have hi : ¬ (j : Int) ≤ m := by omega
          have hd : Q.dead = true := p2 (by omega)
          have hh : Hid (haltP Q (-1) = Q) := by show _ = _; unfold haltP; rw [if_pos hd]
          have hld : Hid (loadP Q 0 = (ByteArray.empty, 7)) := by show _ = _; unfold loadP; rw [if_pos hd]
          obtain ⟨Q1, hf, r1, r2, r3, r4⟩ := st_fail hO3.ok
          obtain ⟨Q2, hs⟩ := st_last (x := fillB zB) r1 (by rw [r3, p3]; omega) (fillB_size zB) r2
          have hm1 : Q1.float.length < 1000000 := by rw [r4]; decide
          replace hs : Hid (storeP Q1 0 (fillB zB) = (0, Q2)) := hs
          replace hf : Hid (failP Q [] = (0, Q1)) := hf
          go_wp2_with (first
            | (go_at_call 15; go_fit (hZ.out _); rintro e w1 ⟨rfl, G⟩; replace hO3 := hO3.grew G)
            | (go_at_call 13; go_fit (one_halt hO3 (n := -1) ⟨by decide, by decide⟩ hh.out); rintro e w1 ⟨rfl, hO3⟩)
            | (go_at_call 12; go_fit (one_load hO3 hld.out); rintro e w1 ⟨rfl, e⟩; have e := e.symm; subst e)
            | (go_at_call 17; go_fit (one_halted hO3 hd); rintro e w1 ⟨rfl, e⟩; have e := e.symm; subst e)
            | (go_at_call 17; go_fit (one_halted hO3 r1); rintro e w1 ⟨rfl, e⟩; have e := e.symm; subst e)
            | (go_at_call 18; go_fit (one_fail0 hO3 hf.out); rintro e w1 ⟨rfl, hO3⟩)
            | (go_at_call 14; go_fit (one_store hO3 hs.out hm1); rintro e w1 ⟨rfl, hO3⟩)
            | fail)
          go_ret
          exact ⟨rfl, hO3.2⟩

set_option maxRecDepth 100000 in
theorem lifted (os : Os) (started : os.Started) (H : Type) (enc : TypeId × Value → H) :
    ReturnsInHanded {} Try.checked os 6 .any (Rows.platterStopsSpec.pre6 enc Try.prog Try.f6 Rows.platterStopsRow.domain false) (Rows.platterStopsSpec.post enc Try.prog Try.f6 false true false false) := by
  refine returnsInHanded_of_change (C := Try.checked) own started (by kernel_rfl) Try.func6
    (ChangeSpec.witness6 (enc := enc) (C := Try.checked) false ⟨#[], #[.int .i64 0, .int .i64 0], []⟩ 8 (by kernel_rfl) (by kernel_rfl) (by kernel_rfl) (by kernel_rfl)) ?_
  intro W base args ds gs before hval0 hW hcnd _
  have hval : ∀ (j : Nat) t v, Try.f6.params[j]? = some t → args[j]? = some v → Value.okWide Try.prog W .any base t v := hval0
  have hW' := hW
  obtain ⟨p, q, hA0, hV, rfl, hfz, hnd⟩ := hW
  have hA : DataW.TrodAll enc Try.prog W 0 (fun _ => true) true Try.f6.params.toList args.toList ds p := hA0
  rw [Try.params6] at hA hval
  obtain ⟨v0, vs0, d0, ds0, p0, q0, hargs, rfl, rfl, h0, r0⟩ := trodAll_cons hA
  obtain ⟨v1, vs1, d1, ds1, p1, q1, rfl, rfl, rfl, h1, r1⟩ := trodAll_cons r0
  obtain ⟨rfl, rfl, rfl⟩ := trodAll_nil r1
  obtain rfl : args = #[v0, v1] := by cases args; simp_all
  obtain ⟨rfl, rfl⟩ := trodVars_none hV
  obtain ⟨a0, rfl, rfl, rfl, w0⟩ := open_int Try.underlying3 (hval 0 3 v0 rfl rfl) h0
  have f0 := inF_wf w0
  obtain ⟨a1, rfl, rfl, rfl, w1⟩ := open_int Try.underlying3 (hval 1 3 v1 rfl rfl) h1
  have f1 := inF_wf w1
  clear hA0 hval0
  refine (walk a0 f0 a1 f1 W  ).mono fun e W' ⟨he, bel⟩ => ?_
  subst he
  exact ⟨_, rfl, _, _, _, [], _, [], hW', trodAll_mk1 (shut_bool Try.underlying4 _), (trodAll_cons_mk (shut_int Try.underlying3 w0) (trodAll_cons_mk (shut_int Try.underlying3 w1) trodAll_mk0)), rfl, bel.frame _, fun h => by cases h⟩

theorem over : Rows.platterStopsRow.holds Try.pinned (OpenSpec.ofChange Rows.platterStopsSpec) :=
  OpenClaim.holds_of_wide 6 Try.f6 rfl rfl rfl rfl rfl rfl rfl ⟨rfl, rfl, rfl, rfl, rfl⟩ rfl rfl rfl rfl rfl (by kernel_rfl) Try.func6 (by kernel_rfl)
    (of_decide_eq_true (by kernel_rfl)) (by unfold Func.isWrapper; first | (rw [if_pos (by decide +kernel)]; kernel_rfl) | (rw [if_neg (by decide +kernel)]; exact ⟨rfl, rfl⟩))
    (fun os started H enc _ => lifted os started H enc)

theorem proved : Rows.PlatterStopsSaid :=
  over
end Go.Proofs.Ytjmblichomchpaa.platterStops

namespace Go.Proofs.Ytjmblichomchpaa
theorem platterStops_holds : Rows.PlatterStopsSaid := platterStops.proved
end Go.Proofs.Ytjmblichomchpaa

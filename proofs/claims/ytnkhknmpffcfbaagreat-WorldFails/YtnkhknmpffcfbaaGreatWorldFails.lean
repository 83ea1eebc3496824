/-
  Proved: maquettelaw12.WorldFails returns true for every gravity, bodies, joints and number of steps (the step that fails is the first one that does; up to it all goes), and leaves what it was given as it was; no condition.
-/
import Derived.Test.YtnkhknmpffcfbaaGreatRows
import Derived.Test.YtnkhknmpffcfbaaGreatPk13
import Derived.WalkKit
import Derived.Deep.QuietTactic
import Derived.BigQuiet
import Derived.WalkSpells
import Derived.Deep.CutRange
import Derived.Deep.CutBlock
import Derived.WalkLawsBesides
import Derived.ProofKit
import Derived.OpenShut
import Derived.ChangeOld
import Derived.Below
namespace Go.Proofs.YtnkhknmpffcfbaaGreat.worldFails
open Go.ChangeShapes Go.WideShapes Go.ChangeAt Go.RowKit
set_option linter.unusedVariables false

theorem own : ownKnob Tryz.prog.godebug = none := by kernel_rfl
theorem laidOut : laidOutB Tryz.prog = true := by kernel_rfl

/-- Run's answer, of n steps from 1 on: it goes through, or the first step that fails is told. -/
theorem fails_at {x y : Int} {J : List Jt} {L : List Bd} {n : Nat} (h0 : 0 < n) (h1 : n ≤ 200) (h : ¬ (runE x y J L n).2 = 0) :
    ∃ k C, k < n ∧ (runE x y J L n).1 = ([], (k : Int) + 1) ∧ (0 < k → runE x y J L k = ((C, 0), 0)) ∧ (k = 0 → C = L) ∧ (stepE x y J C).2 = (runE x y J L n).2 := by
  rw [runE_go h0 h1] at h ⊢
  obtain ⟨j, C, h2, h3, h4, h5⟩ := goE_err h
  refine ⟨j, C, h2, by rw [h3]; simp, fun hj => by rw [runE_go hj (by omega)]; exact h4, fun hj => ?_, h5⟩
  subst hj
  have h4 : ((L, (0 : Int)), (0 : Int)) = ((C, 0), 0) := h4
  cases h4
  rfl

set_option maxRecDepth 100000 in
set_option maxHeartbeats 16000000 in
theorem walk (x0 y0 : Int) (f0 : inF x0) (g0 : inF y0) (a1 : Option Addr) (cap1 : Nat) (L1 : List Bd) (a2 : Option Addr) (cap2 : Nat) (L2 : List Jt) (a3 : Int) (f3 : inF a3) (w : World)  (b1 : Bodies w a1 L1) (b2 : Joints w a2 L2) :
    Calls Tryz.prog 7 #[vec x0 y0, .slice a1 L1.length cap1, .slice a2 L2.length cap2, .int .i64 a3] w fun e w' => e = .returned (.bool true) ∧ Below w.heap.size w w' := by
  by_cases hc : L1.length ≤ 8 ∧ L2.length ≤ 6 ∧ 1 ≤ a3 ∧ a3 ≤ 10
  rotate_left
  · have HG : Hid (∀ c, Below w.heap.size w (w.alloc (.cells c 24))) := fun c => onto_alloc (Below.refl _ _) _
    clear b1 b2
    by_cases c1 : 8 < (L1.length : Int)
    all_goals (try by_cases c2 : 6 < (L2.length : Int))
    all_goals (try by_cases c3 : a3 < 1)
    all_goals (try by_cases c4 : 10 < a3)
    all_goals first
      | (exfalso; omega)
      | (clear hc f0 g0 f3
         unfold vec
         go_enter Tryz.func7, Tryz.ntmps7
         go_wp2_with (first
           | (go_at_call 9; go_fit (alive_any _); rintro e V1 ⟨rfl, U1⟩))
         go_ret
         exact ⟨rfl, onto (HG.out _) U1⟩)
  obtain ⟨hl1, hl2, h0, h1⟩ := hc
  obtain ⟨n, rfl⟩ : ∃ n : Nat, a3 = n := ⟨a3.toNat, by omega⟩
  have HG : Hid (∀ c, Below w.heap.size w (w.alloc (.cells c 24))) := fun c => onto_alloc (Below.refl _ _) _
  have HR : Hid (∀ N W, Below w.heap.size w W → Calls Tryz.prog 10 #[.agg #[.int .i64 x0, .int .i64 y0, .slice a1 L1.length cap1, .slice a2 L2.length cap2], .int .i64 N] W (RanTo x0 y0 (runE x0 y0 L2 L1 N) L2 W)) := fun N W h => runv_any x0 y0 f0 g0 L1 L2 N a1 cap1 a2 cap2 W (b1.below h) (b2.below h) (by omega) (by omega)
  have HS : Hid (∀ C a c b d W, C.length ≤ 500 → Bodies W a C → Joints W b L2 → Calls Tryz.prog 18 #[.agg #[.int .i64 x0, .int .i64 y0, .slice a C.length c, .slice b L2.length d]] W (StepsTo x0 y0 (stepE x0 y0 L2 C) L2 W)) := fun C a c b d W h h1 h2 => stepv_any x0 y0 f0 g0 C L2 a c b d W h1 h2 h (by omega)
  have HBd : Hid (∀ W, Below w.heap.size w W → Bodies W a1 L1 ∧ Joints W a2 L2) := fun W h => ⟨b1.below h, b2.below h⟩
  have hfail := @fails_at x0 y0 L2 L1 n (by omega) (by omega)
  have hlen : ∀ k C, k ≤ 200 → runE x0 y0 L2 L1 (k : Nat) = ((C, 0), 0) → C.length ≤ 500 := fun k C hk h => by have := runE_len hk b1.ok h; omega
  have hok := @runE_ok x0 y0 L2 L1 n
  have HRn : Hid (∀ W, Below w.heap.size w W → Calls Tryz.prog 10 #[.agg #[.int .i64 x0, .int .i64 y0, .slice a1 L1.length cap1, .slice a2 L2.length cap2], .int .i64 n] W (RanTo x0 y0 (runE x0 y0 L2 L1 n) L2 W)) := fun W h => HR.out n W h
  have hl3 : L1.length ≤ 500 := by omega
  clear b1 b2 f0 g0 f3
  unfold vec
  have c1 : ¬ 8 < (L1.length : Int) := by omega
  have c2 : ¬ 6 < (L2.length : Int) := by omega
  generalize runE x0 y0 L2 L1 (n : Nat) = r at *
  by_cases hr : r.2 = 0
  · have hr2 := hok hr
    have HRn : Hid (∀ W, Below w.heap.size w W → Calls Tryz.prog 10 #[.agg #[.int .i64 x0, .int .i64 y0, .slice a1 L1.length cap1, .slice a2 L2.length cap2], .int .i64 n] W fun e w' => Below W.heap.size W w' ∧ ∃ a' c' b' d', e = .returned (.tuple #[.agg #[.int .i64 x0, .int .i64 y0, .slice a' r.1.1.length c', .slice b' L2.length d'], .int .i64 0, .int .i64 0]) ∧ Bodies w' a' r.1.1 ∧ Joints w' b' L2) := fun W h => ran_ok (by rw [← hr2]; exact HRn.out W h)
    clear hfail hlen hok hr hr2 HS HR HBd
    go_enter Tryz.func7, Tryz.ntmps7
    go_wp2_with (first
      | (go_at_call 9; go_fit (alive_any _); rintro e V1 ⟨rfl, U1⟩; (have B1 : Hid (Below w.heap.size w V1) := onto (HG.out _) U1); (have ⟨⟨k0, k1⟩, kz⟩ := box_after U1))
      | (go_at_call 10; go_fit (HRn.out _ (onto_alloc B1.out _)); rintro e V2 ⟨U2, a', c', b', d', rfl, _, _⟩))
    go_ret
    exact ⟨rfl, onto_alloc (onto (onto_alloc B1.out _) U2) _⟩
  have HRn : Hid (∀ W, Below w.heap.size w W → Calls Tryz.prog 10 #[.agg #[.int .i64 x0, .int .i64 y0, .slice a1 L1.length cap1, .slice a2 L2.length cap2], .int .i64 n] W fun e w' => Below W.heap.size W w' ∧ e = .returned (.tuple #[.agg #[.int .i64 0, .int .i64 0, .slice none 0 0, .slice none 0 0], .int .i64 r.1.2, .int .i64 r.2])) := fun W h => ran_no (HRn.out W h) hr
  obtain ⟨k, C, hk, hat, hrun, hC0, hst⟩ := hfail hr
  clear hfail hok
  obtain ⟨⟨rc, rat⟩, re⟩ := r
  simp only [Prod.mk.injEq] at hat hst hr
  obtain ⟨rfl, rfl⟩ := hat
  have hre : (re == 0) = false := by simpa using hr
  simp only at HRn
  by_cases hk0 : k = 0
  · subst hk0
    obtain rfl := hC0 rfl
    have HS1 : Hid (∀ W, Below w.heap.size w W → Calls Tryz.prog 18 #[.agg #[.int .i64 x0, .int .i64 y0, .slice a1 C.length cap1, .slice a2 L2.length cap2]] W fun e w' => Below W.heap.size W w' ∧ e = .returned (.tuple #[.agg #[.int .i64 0, .int .i64 0, .slice none 0 0, .slice none 0 0], .int .i64 re])) := fun W h => by
      have := stepped_no (HS.out C a1 cap1 a2 cap2 W hl3 (HBd.out W h).1 (HBd.out W h).2) (by rw [hst]; exact hr)
      rw [hst] at this
      exact this
    have HR0 : Hid (∀ W, Below w.heap.size w W → Calls Tryz.prog 10 #[.agg #[.int .i64 x0, .int .i64 y0, .slice a1 C.length cap1, .slice a2 L2.length cap2], .int .i64 0] W fun e w' => Below W.heap.size W w' ∧ ∃ (v0 v1 : Int) (v2 : Option Addr) (v3 v4 : Nat) (v5 : Option Addr) (v6 v7 : Nat) (p q : Int), e = .returned (.tuple #[.agg #[.int .i64 v0, .int .i64 v1, .slice v2 v3 v4, .slice v5 v6 v7], .int .i64 p, .int .i64 q])) := fun W h => (HR.out 0 W h).mono (by
      rintro e w' ⟨h1, ⟨_, _, a', c', b', d', rfl, _⟩ | ⟨_, rfl⟩⟩
      · exact ⟨h1, _, _, _, _, _, _, _, _, _, _, rfl⟩
      · exact ⟨h1, _, _, _, _, _, _, _, _, _, _, rfl⟩)
    clear HS HR hrun hlen hC0 hst HBd
    go_enter Tryz.func7, Tryz.ntmps7
    go_upto_region 9 with (first
      | (go_at_call 9; go_fit (alive_any _); rintro e V1 ⟨rfl, U1⟩; (have B1 : Hid (Below w.heap.size w V1) := onto (HG.out _) U1); (have ⟨⟨k0, k1⟩, kz⟩ := box_after U1))
      | (go_at_call 10; go_fit (HRn.out _ (onto_alloc B1.out _)); rintro e V2 ⟨U2, rfl⟩; (have B2 : Hid (Below w.heap.size w V2) := onto (onto_alloc B1.out _) U2); (have ⟨⟨m0, m1, m2, m3⟩, mz⟩ := w4_after U2)))
    go_wp2_with (first
      | (go_at_call 10; go_fit (HR0.out _ (onto_alloc B2.out _)); rintro e V3 ⟨U3, v0, v1, v2, v3, v4, v5, v6, v7, p, q, rfl⟩; (have B3 : Hid (Below w.heap.size w V3) := onto (onto_alloc B2.out _) U3); (have ⟨⟨n0, n1, n2, n3⟩, nz⟩ := (W4.mk m0 m1 m2 m3).later U3))
      | (go_at_call 18; go_fit (HS1.out _ (onto_alloc B3.out _)); rintro e V4 ⟨U4, rfl⟩))
    go_ret
    exact ⟨rfl, onto (onto_alloc B3.out _) U4⟩
  have hrun := hrun (by omega)
  have hlC := hlen k C (by omega) hrun
  have HRk : Hid (∀ W, Below w.heap.size w W → Calls Tryz.prog 10 #[.agg #[.int .i64 x0, .int .i64 y0, .slice a1 L1.length cap1, .slice a2 L2.length cap2], .int .i64 k] W fun e w' => Below W.heap.size W w' ∧ ∃ a' c' b' d', e = .returned (.tuple #[.agg #[.int .i64 x0, .int .i64 y0, .slice a' C.length c', .slice b' L2.length d'], .int .i64 0, .int .i64 0]) ∧ Bodies w' a' C ∧ Joints w' b' L2) := fun W h => ran_ok (by rw [← hrun]; exact HR.out k W h)
  have HS1 : Hid (∀ a c b d W, Bodies W a C → Joints W b L2 → Calls Tryz.prog 18 #[.agg #[.int .i64 x0, .int .i64 y0, .slice a C.length c, .slice b L2.length d]] W fun e w' => Below W.heap.size W w' ∧ e = .returned (.tuple #[.agg #[.int .i64 0, .int .i64 0, .slice none 0 0, .slice none 0 0], .int .i64 re])) := fun a c b d W h1 h2 => by
    have := stepped_no (HS.out C a c b d W hlC h1 h2) (by rw [hst]; exact hr)
    rw [hst] at this
    exact this
  clear HS HR hrun hlen hC0 hst HBd hlC
  have e1 : ((k : Int) + 1 == 1) = false := by simp; omega
  have e2 : ¬ (k : Int) + 1 < 1 := by omega
  have e3 : ¬ (n : Int) < (k : Int) + 1 := by omega
  go_enter Tryz.func7, Tryz.ntmps7
  go_upto_region 9 with (first
    | (go_at_call 9; go_fit (alive_any _); rintro e V1 ⟨rfl, U1⟩; (have B1 : Hid (Below w.heap.size w V1) := onto (HG.out _) U1); (have ⟨⟨k0, k1⟩, kz⟩ := box_after U1))
    | (go_at_call 10; go_fit (HRn.out _ (onto_alloc B1.out _)); rintro e V2 ⟨U2, rfl⟩; (have B2 : Hid (Below w.heap.size w V2) := onto (onto_alloc B1.out _) U2); (have ⟨⟨m0, m1, m2, m3⟩, mz⟩ := w4_after U2)))
  go_wp2_with (first
    | (go_at_call 10; go_fit (HRk.out _ (onto_alloc B2.out _)); rintro e V3 ⟨U3, a', c', b', d', rfl, hB3, hJ3⟩; (have B3 : Hid (Below w.heap.size w V3) := onto (onto_alloc B2.out _) U3); (have hB4 := hB3.below (below_alloc (Below.refl _ V3) (Nat.le_refl _) (.cells #[.int .i64 x0, .int .i64 y0, .slice a' C.length c', .slice b' L2.length d'] 29))); (have hJ4 := hJ3.below (below_alloc (Below.refl _ V3) (Nat.le_refl _) (.cells #[.int .i64 x0, .int .i64 y0, .slice a' C.length c', .slice b' L2.length d'] 29))))
    | (go_at_call 18; go_fit (HS1.out _ _ _ _ _ hB4 hJ4); rintro e V4 ⟨U4, rfl⟩))
  go_ret
  exact ⟨rfl, onto_alloc (onto (onto_alloc B3.out _) U4) _⟩

set_option maxRecDepth 100000 in
theorem lifted (os : Os) (started : os.Started) (H : Type) (enc : TypeId × Value → H) :
    ReturnsInHanded {} Tryz.checked os 7 .any (Rows.worldFailsSpec.pre6 enc Tryz.prog Tryz.f7 Rows.worldFailsRow.domain false) (Rows.worldFailsSpec.post enc Tryz.prog Tryz.f7 false true false false) := by
  refine returnsInHanded_of_change (C := Tryz.checked) own started (by kernel_rfl) Tryz.func7
    (ChangeSpec.witness6 (enc := enc) (C := Tryz.checked) false ⟨#[], #[.agg #[.int .i64 0, .int .i64 0], .slice none 0 0, .slice none 0 0, .int .i64 0], []⟩ 8 (by kernel_rfl) (by kernel_rfl) (by kernel_rfl) (by kernel_rfl)) ?_
  intro W base args ds gs before hval0 hW hcnd _
  have hval : ∀ (j : Nat) t v, Tryz.f7.params[j]? = some t → args[j]? = some v → Value.okWide Tryz.prog W .any base t v := hval0
  have hW' := hW
  obtain ⟨p, q, hA0, hV, rfl, hfz, hnd⟩ := hW
  have hA : DataW.TrodAll enc Tryz.prog W 0 (fun _ => true) true Tryz.f7.params.toList args.toList ds p := hA0
  rw [Tryz.params7] at hA hval
  obtain ⟨v0, vs0, d0, ds0, p0, q0, hargs, rfl, rfl, h0, r0⟩ := trodAll_cons hA
  obtain ⟨v1, vs1, d1, ds1, p1, q1, rfl, rfl, rfl, h1, r1⟩ := trodAll_cons r0
  obtain ⟨v2, vs2, d2, ds2, p2, q2, rfl, rfl, rfl, h2, r2⟩ := trodAll_cons r1
  obtain ⟨v3, vs3, d3, ds3, p3, q3, rfl, rfl, rfl, h3, r3⟩ := trodAll_cons r2
  obtain ⟨rfl, rfl, rfl⟩ := trodAll_nil r3
  obtain rfl : args = #[v0, v1, v2, v3] := by cases args; simp_all
  obtain ⟨rfl, rfl⟩ := trodVars_none hV
  obtain ⟨x0, y0, rfl, rfl, rfl, f0, g0⟩ := open_vec (hval 0 24 v0 rfl rfl) h0
  obtain ⟨a1, len1, cap1, rfl⟩ := okWide_slice Tryz.underlying25 (hval 1 25 v1 rfl rfl)
  have k1 := h1
  have lt1 : ∀ x ∈ p1, x.block < W.heap.size := by obtain ⟨m, hm⟩ := k1; exact DataW.trod_lt m _ _ _ hm
  obtain ⟨L1, rfl, b1⟩ := open_bodies h1
  obtain ⟨a2, len2, cap2, rfl⟩ := okWide_slice Tryz.underlying26 (hval 2 26 v2 rfl rfl)
  have k2 := h2
  have lt2 : ∀ x ∈ p2, x.block < W.heap.size := by obtain ⟨m, hm⟩ := k2; exact DataW.trod_lt m _ _ _ hm
  obtain ⟨L2, rfl, b2⟩ := open_joints h2
  obtain ⟨a3, rfl, rfl, rfl, w3⟩ := open_int Tryz.underlying3 (hval 3 3 v3 rfl rfl) h3
  have f3 := inF_wf w3
  clear hA0 hval0
  refine (walk x0 y0 f0 g0 a1 cap1 L1 a2 cap2 L2 a3 f3 W  b1 b2 ).mono fun e W' ⟨he, bel⟩ => ?_
  subst he
  exact ⟨_, rfl, _, _, _, [], _, [], hW', trodAll_mk1 (shut_bool Tryz.underlying4 _), (trodAll_cons_mk (shut_vec f0 g0) (trodAll_cons_mk (Below.trod laidOut (by kernel_rfl) (of_decide_eq_true (by kernel_rfl)) k1 bel lt1) (trodAll_cons_mk (Below.trod laidOut (by kernel_rfl) (of_decide_eq_true (by kernel_rfl)) k2 bel lt2) (trodAll_cons_mk (shut_int Tryz.underlying3 w3) trodAll_mk0)))), rfl, bel.frame _, fun h => by cases h⟩

theorem over : Rows.worldFailsRow.holds Tryz.pinned (OpenSpec.ofChange Rows.worldFailsSpec) :=
  OpenClaim.holds_of_wide 7 Tryz.f7 rfl rfl rfl rfl rfl rfl rfl ⟨rfl, rfl, rfl, rfl, rfl⟩ rfl rfl rfl rfl rfl (by kernel_rfl) Tryz.func7 (by kernel_rfl)
    (of_decide_eq_true (by kernel_rfl)) (by unfold Func.isWrapper; first | (rw [if_pos (by decide +kernel)]; kernel_rfl) | (rw [if_neg (by decide +kernel)]; exact ⟨rfl, rfl⟩))
    (fun os started H enc _ => lifted os started H enc)

theorem proved : Rows.WorldFailsSaid :=
  over
end Go.Proofs.YtnkhknmpffcfbaaGreat.worldFails

namespace Go.Proofs.YtnkhknmpffcfbaaGreat
theorem worldFails_holds : Rows.WorldFailsSaid := worldFails.proved
end Go.Proofs.YtnkhknmpffcfbaaGreat

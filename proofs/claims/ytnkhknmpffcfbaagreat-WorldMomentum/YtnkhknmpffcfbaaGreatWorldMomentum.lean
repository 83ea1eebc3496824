/-
  Proved: maquettelaw12.WorldMomentum returns true for every bodies, joints and number of steps (without gravity what moves is kept to the last bit by joints and contacts), and leaves what it was given as it was; no condition.
-/
import Derived.Test.YtnkhknmpffcfbaaGreatRows
import Derived.Test.YtnkhknmpffcfbaaGreatPxSMass
import Derived.Test.YtnkhknmpffcfbaaGreatPk13
import Derived.WalkKit
import Derived.Deep.QuietTactic
import Derived.BigQuiet
import Derived.WalkSpells
import Derived.Deep.CutRange
import Derived.Deep.CutBlock
import Derived.WalkLawsBesides
import Derived.ProofKit
import Derived.OpenShut
import Derived.ChangeOld
import Derived.Below
namespace Go.Proofs.YtnkhknmpffcfbaaGreat.worldMomentum
open Go.ChangeShapes Go.WideShapes Go.ChangeAt Go.RowKit
set_option linter.unusedVariables false

theorem own : ownKnob Tryz.prog.godebug = none := by kernel_rfl
theorem laidOut : laidOutB Tryz.prog = true := by kernel_rfl

theorem zero_all {L : List Bd} (h : ∀ j, j < L.length → ¬ (bd L j).m = 0) : ∀ B ∈ L, ¬ B.m = 0 := by
  intro B hB
  obtain ⟨i, hi, rfl⟩ := List.mem_iff_getElem.1 hB
  have := h i hi
  rw [show bd L i = L[i] by simp [bd, List.getD, hi]] at this
  exact this

set_option maxRecDepth 100000 in
set_option maxHeartbeats 16000000 in
theorem walk (a0 : Option Addr) (cap0 : Nat) (L0 : List Bd) (a1 : Option Addr) (cap1 : Nat) (L1 : List Jt) (a2 : Int) (f2 : inF a2) (w : World) (b0 : Bodies w a0 L0) (b1 : Joints w a1 L1) :
    Calls Tryz.prog 4 #[.slice a0 L0.length cap0, .slice a1 L1.length cap1, .int .i64 a2] w fun e w' => e = .returned (.bool true) ∧ Below w.heap.size w w' := by
  by_cases hc : L0.length ≤ 10 ∧ L1.length ≤ 8 ∧ 0 ≤ a2 ∧ a2 ≤ 10
  rotate_left
  · clear b0 b1
    by_cases c1 : 10 < (L0.length : Int)
    all_goals (try by_cases c2 : 8 < (L1.length : Int))
    all_goals (try by_cases c3 : a2 < 0)
    all_goals (try by_cases c4 : 10 < a2)
    all_goals first
      | (exfalso; omega)
      | (clear hc f2
         go_enter Tryz.func4, Tryz.ntmps4
         go_wp2_with (first
           | (go_at_call 9; go_fit (alive_any _); rintro e V1 ⟨rfl, U1⟩))
         go_ret
         exact ⟨rfl, U1⟩)
  obtain ⟨hl1, hl2, h0, h1⟩ := hc
  obtain ⟨n, rfl⟩ : ∃ n : Nat, a2 = n := ⟨a2.toNat, by omega⟩
  have c1 : ¬ 10 < (L0.length : Int) := by omega
  have c2 : ¬ 8 < (L1.length : Int) := by omega
  have HB : Hid (∀ W, Below w.heap.size w W → Bodies W a0 L0) := fun W h => b0.below h
  have HR : Hid (∀ W, Below w.heap.size w W → Calls Tryz.prog 10 #[.agg #[.int .i64 0, .int .i64 0, .slice a0 L0.length cap0, .slice a1 L1.length cap1], .int .i64 n] W (RanTo 0 0 (runE 0 0 L1 L0 n) L1 W)) := fun W h => runv_any 0 0 inF0 inF0 L0 L1 n a0 cap0 a1 cap1 W (b0.below h) (b1.below h) (by omega) (by omega)
  have HM : Hid (∀ W, Below w.heap.size w W → Calls Tryz.prog 14 #[.agg #[.int .i64 0, .int .i64 0, .slice a0 L0.length cap0, .slice a1 L1.length cap1]] W fun e w' => e = .returned (.tuple #[.agg #[.int .i64 (sumE L0 0 0).1, .int .i64 (sumE L0 0 0).2.1], .int .i64 (sumE L0 0 0).2.2]) ∧ Below W.heap.size W w') := fun W h => momentum_any 0 0 L0 a0 cap0 a1 L1.length cap1 W (b0.below h) (by omega)
  have HMD : Hid (∀ D : List Bd, D.length ≤ 500 → ∀ a c b d W, Bodies W a D → Calls Tryz.prog 14 #[.agg #[.int .i64 0, .int .i64 0, .slice a D.length c, .slice b L1.length d]] W fun e w' => e = .returned (.tuple #[.agg #[.int .i64 (sumE D 0 0).1, .int .i64 (sumE D 0 0).2.1], .int .i64 (sumE D 0 0).2.2]) ∧ Below W.heap.size W w') := fun D hD a c b d W h => momentum_any 0 0 D a c b L1.length d W h hD
  have HS : Hid (∀ D, (∀ B ∈ L0, ¬ B.m = 0) → runE 0 0 L1 L0 n = ((D, 0), 0) → (∃ p q, sumE L0 0 0 = (p, q, 0) ∧ sumE D 0 0 = (p, q, 0)) ∧ D.length ≤ 500) := fun D hm e => ⟨run_sum (by omega) b0.ok hm (by omega) e, by have := runE_len (by omega) b0.ok e; omega⟩
  have HK : Hid ((runE 0 0 L1 L0 n).2 = 0 → runE 0 0 L1 L0 n = (((runE 0 0 L1 L0 n).1.1, 0), 0)) := runE_ok
  clear b0 b1 f2
  go_enter Tryz.func4, Tryz.ntmps4
  go_wp2_with (first
    | (go_at_call 9; go_fit (alive_any _); rintro e V1 ⟨rfl, U1⟩))
  go_loopw [40] (fun i wr => ∃ k : Nat, k ≤ L0.length ∧ i = .int .i64 k ∧ Hid (∀ j, j < k → ¬ (bd L0 j).m = 0) ∧ Below w.heap.size w wr) (fun i _ => L0.length - (intOf i).toNat)
  case atStart => exact ⟨0, by omega, rfl, fun j hj => by omega, U1⟩
  case round =>
    obtain ⟨k, hk, rfl, hall, hB⟩ := hrel
    clear U1
    by_cases hlt : k < L0.length
    · have hi : (k : Int) < (L0.length : Int) := by omega
      obtain ⟨b, off, rfl, hc⟩ := (HB.out _ hB).block hlt
      obtain ⟨B, eB⟩ : ∃ B, bd L0 k = B := ⟨_, rfl⟩
      have hup : ¬ B.m = 0 → ∀ j, j < k + 1 → ¬ (bd L0 j).m = 0 := fun g => upto_more hall.out (by rw [eB]; exact g)
      rw [eB] at hc
      obtain ⟨c0, c1', c2', c3, c4, c5, c6, c7⟩ := hc
      have HUp : Hid (¬ B.m = 0 → ∀ j, j < k + 1 → ¬ (bd L0 j).m = 0) := hup
      clear eB hup HR HM HMD HS HK
      by_cases hm : B.m = 0
      · rw [hm] at c3
        go_wp2_with (fail)
        go_ret
        exact ⟨rfl, below_alloc hB hB.size _⟩
      · have hm0 : (B.m == 0) = false := by simpa using hm
        go_wp2_with (fail)
        refine ⟨⟨k + 1, by omega, rfl, HUp.out hm, below_alloc hB hB.size _⟩, ?_⟩
        simp [intOf]; omega
    · have hi : ¬ (k : Int) < (L0.length : Int) := by omega
      obtain rfl : k = L0.length := by omega
      have hS := fun D => HS.out D (zero_all hall.out)
      have hK := HK.out
      have HR := HR.out
      clear hall HS HK HB
      generalize runE 0 0 L1 L0 (n : Int) = r at *
      by_cases hr : r.2 = 0
      rotate_left
      · have HR : Hid (∀ W, Below w.heap.size w W → Calls Tryz.prog 10 #[.agg #[.int .i64 0, .int .i64 0, .slice a0 L0.length cap0, .slice a1 L1.length cap1], .int .i64 n] W fun e w' => Below W.heap.size W w' ∧ e = .returned (.tuple #[.agg #[.int .i64 0, .int .i64 0, .slice none 0 0, .slice none 0 0], .int .i64 r.1.2, .int .i64 r.2])) := fun W h => ran_no (HR W h) hr
        have hr0 : (r.2 != 0) = true := by simpa using hr
        clear hS hK hr HM HMD
        go_wp2_with (first
          | (go_at_call 10; go_fit (HR.out _ (below_alloc hB hB.size _)); rintro e V2 ⟨U2, rfl⟩))
        go_ret
        exact ⟨rfl, onto_alloc (onto (below_alloc hB hB.size _) U2) _⟩
      obtain ⟨⟨D, rat⟩, re⟩ := r
      have hK := hK hr
      simp only [Prod.mk.injEq, true_and] at hK
      obtain ⟨rfl, rfl⟩ := hK
      obtain ⟨⟨p, q, s1, s2⟩, hD⟩ := hS D rfl
      have HR : Hid (∀ W, Below w.heap.size w W → Calls Tryz.prog 10 #[.agg #[.int .i64 0, .int .i64 0, .slice a0 L0.length cap0, .slice a1 L1.length cap1], .int .i64 n] W fun e w' => Below W.heap.size W w' ∧ ∃ a' c' b' d', e = .returned (.tuple #[.agg #[.int .i64 0, .int .i64 0, .slice a' D.length c', .slice b' L1.length d'], .int .i64 0, .int .i64 0]) ∧ Bodies w' a' D ∧ Joints w' b' L1) := fun W h => ran_ok (HR W h)
      have HM2 : Hid (∀ W, Below w.heap.size w W → Calls Tryz.prog 14 #[.agg #[.int .i64 0, .int .i64 0, .slice a0 L0.length cap0, .slice a1 L1.length cap1]] W fun e w' => e = .returned (.tuple #[.agg #[.int .i64 p, .int .i64 q], .int .i64 0]) ∧ Below W.heap.size W w') := fun W h => by
        have := HM.out W h
        rw [s1] at this
        exact this
      have HM3 : Hid (∀ a c b d W, Bodies W a D → Calls Tryz.prog 14 #[.agg #[.int .i64 0, .int .i64 0, .slice a D.length c, .slice b L1.length d]] W fun e w' => e = .returned (.tuple #[.agg #[.int .i64 p, .int .i64 q], .int .i64 0]) ∧ Below W.heap.size W w') := fun a c b d W h => by
        have := HMD.out D hD a c b d W h
        rw [s2] at this
        exact this
      have hvv := same_vec p q
      clear hS hr HM HMD s1 s2 hD
      go_upto_region 13 with (first
        | (go_at_call 10; go_fit (HR.out _ (below_alloc hB hB.size _)); rintro e V2 ⟨U2, a', c', b', d', rfl, hB2, hJ2⟩; (have B2 : Hid (Below w.heap.size w V2) := onto (below_alloc hB hB.size _) U2); (have ⟨⟨m0, m1, m2, m3⟩, mz⟩ := w4_after U2)))
      have hB3 := hB2.below (below_alloc (Below.refl _ V2) (Nat.le_refl _) (.cells #[.int .i64 0, .int .i64 0, .slice a' D.length c', .slice b' L1.length d'] 29))
      go_upto_region 14 with (first
        | (go_at_call 14; go_fit (HM2.out _ (onto_alloc B2.out _)); rintro e V3 ⟨rfl, U3⟩; (have B3 : Hid (Below w.heap.size w V3) := onto (onto_alloc B2.out _) U3); (have ⟨⟨n0, n1, n2, n3⟩, nz⟩ := w4_after U3)))
      have hB4 := (hB3.below U3).below (below_alloc (Below.refl _ V3) (Nat.le_refl _) (.cells #[.int .i64 p, .int .i64 q] 24))
      go_upto_region 15 with (first
        | (go_at_call 14; go_fit (HM3.out _ _ _ _ _ hB4); rintro e V4 ⟨rfl, U4⟩; (have B4 : Hid (Below w.heap.size w V4) := onto (onto_alloc B3.out _) U4); (have ⟨⟨p0, p1⟩, pz⟩ := box_after U4)))
      go_wp2_with (fail)
      go_ret
      exact ⟨rfl, onto_alloc B4.out _⟩

set_option maxRecDepth 100000 in
theorem lifted (os : Os) (started : os.Started) (H : Type) (enc : TypeId × Value → H) :
    ReturnsInHanded {} Tryz.checked os 4 .any (Rows.worldMomentumSpec.pre6 enc Tryz.prog Tryz.f4 Rows.worldMomentumRow.domain false) (Rows.worldMomentumSpec.post enc Tryz.prog Tryz.f4 false true false false) := by
  refine returnsInHanded_of_change (C := Tryz.checked) own started (by kernel_rfl) Tryz.func4
    (ChangeSpec.witness6 (enc := enc) (C := Tryz.checked) false ⟨#[], #[.slice none 0 0, .slice none 0 0, .int .i64 0], []⟩ 8 (by kernel_rfl) (by kernel_rfl) (by kernel_rfl) (by kernel_rfl)) ?_
  intro W base args ds gs before hval0 hW hcnd _
  have hval : ∀ (j : Nat) t v, Tryz.f4.params[j]? = some t → args[j]? = some v → Value.okWide Tryz.prog W .any base t v := hval0
  have hW' := hW
  obtain ⟨p, q, hA0, hV, rfl, hfz, hnd⟩ := hW
  have hA : DataW.TrodAll enc Tryz.prog W 0 (fun _ => true) true Tryz.f4.params.toList args.toList ds p := hA0
  rw [Tryz.params4] at hA hval
  obtain ⟨v0, vs0, d0, ds0, p0, q0, hargs, rfl, rfl, h0, r0⟩ := trodAll_cons hA
  obtain ⟨v1, vs1, d1, ds1, p1, q1, rfl, rfl, rfl, h1, r1⟩ := trodAll_cons r0
  obtain ⟨v2, vs2, d2, ds2, p2, q2, rfl, rfl, rfl, h2, r2⟩ := trodAll_cons r1
  obtain ⟨rfl, rfl, rfl⟩ := trodAll_nil r2
  obtain rfl : args = #[v0, v1, v2] := by cases args; simp_all
  obtain ⟨rfl, rfl⟩ := trodVars_none hV
  obtain ⟨a0, len0, cap0, rfl⟩ := okWide_slice Tryz.underlying25 (hval 0 25 v0 rfl rfl)
  have k0 := h0
  have lt0 : ∀ x ∈ p0, x.block < W.heap.size := by obtain ⟨m, hm⟩ := k0; exact DataW.trod_lt m _ _ _ hm
  obtain ⟨L0, rfl, b0⟩ := open_bodies h0
  obtain ⟨a1, len1, cap1, rfl⟩ := okWide_slice Tryz.underlying26 (hval 1 26 v1 rfl rfl)
  have k1 := h1
  have lt1 : ∀ x ∈ p1, x.block < W.heap.size := by obtain ⟨m, hm⟩ := k1; exact DataW.trod_lt m _ _ _ hm
  obtain ⟨L1, rfl, b1⟩ := open_joints h1
  obtain ⟨a2, rfl, rfl, rfl, w2⟩ := open_int Tryz.underlying3 (hval 2 3 v2 rfl rfl) h2
  have f2 := inF_wf w2
  clear hA0 hval0
  refine (walk a0 cap0 L0 a1 cap1 L1 a2 f2 W b0 b1 ).mono fun e W' ⟨he, bel⟩ => ?_
  subst he
  exact ⟨_, rfl, _, _, _, [], _, [], hW', trodAll_mk1 (shut_bool Tryz.underlying4 _), (trodAll_cons_mk (Below.trod laidOut (by kernel_rfl) (of_decide_eq_true (by kernel_rfl)) k0 bel lt0) (trodAll_cons_mk (Below.trod laidOut (by kernel_rfl) (of_decide_eq_true (by kernel_rfl)) k1 bel lt1) (trodAll_cons_mk (shut_int Tryz.underlying3 w2) trodAll_mk0))), rfl, bel.frame _, fun h => by cases h⟩

theorem over : Rows.worldMomentumRow.holds Tryz.pinned (OpenSpec.ofChange Rows.worldMomentumSpec) :=
  OpenClaim.holds_of_wide 4 Tryz.f4 rfl rfl rfl rfl rfl rfl rfl ⟨rfl, rfl, rfl, rfl, rfl⟩ rfl rfl rfl rfl rfl (by kernel_rfl) Tryz.func4 (by kernel_rfl)
    (of_decide_eq_true (by kernel_rfl)) (by unfold Func.isWrapper; first | (rw [if_pos (by decide +kernel)]; kernel_rfl) | (rw [if_neg (by decide +kernel)]; exact ⟨rfl, rfl⟩))
    (fun os started H enc _ => lifted os started H enc)

theorem proved : Rows.WorldMomentumSaid :=
  over
end Go.Proofs.YtnkhknmpffcfbaaGreat.worldMomentum

namespace Go.Proofs.YtnkhknmpffcfbaaGreat
theorem worldMomentum_holds : Rows.WorldMomentumSaid := worldMomentum.proved
end Go.Proofs.YtnkhknmpffcfbaaGreat

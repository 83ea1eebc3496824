/-
  Proved: maquettelaw12.WorldFalls returns true for every gravity and every number of steps (what falls alone gains the same in each step, and is where the sum of its speeds puts it), and leaves what it was given as it was; no condition.
-/
import Derived.Test.YtnkhknmpffcfbaaGreatRows
import Derived.Test.YtnkhknmpffcfbaaGreatPk12
import Derived.WalkKit
import Derived.Deep.QuietTactic
import Derived.BigQuiet
import Derived.WalkSpells
import Derived.Deep.CutRange
import Derived.Deep.CutBlock
import Derived.WalkLawsBesides
import Derived.ProofKit
import Derived.OpenShut
import Derived.ChangeOld
import Derived.Below
namespace Go.Proofs.YtnkhknmpffcfbaaGreat.worldFalls
open Go.ChangeShapes Go.WideShapes Go.ChangeAt Go.RowKit
set_option linter.unusedVariables false

theorem own : ownKnob Tryz.prog.godebug = none := by kernel_rfl
theorem laidOut : laidOutB Tryz.prog = true := by kernel_rfl

theorem drop_zero (g : Int) : drop1 g 0 = ⟨1, 4294967296, 0, 4294967296, 0, 0, 0, 0⟩ := by
  simp [drop1, tri]
def dropS (g : Int) (k : Nat) : Int := g * tri k * 1048576
theorem dropS_succ (g : Int) (k : Nat) : dropS g k + g * ((k + 1 : Nat) : Int) * 1048576 = dropS g (k + 1) := by
  unfold dropS
  rw [show tri (k + 1) = tri k + ((k + 1 : Nat) : Int) from rfl, Int.mul_add, Int.add_mul]
theorem dropS_in {g : Int} (hg : -100 ≤ g ∧ g ≤ 100) {k : Nat} (hk : k ≤ 60) : -383778816000 ≤ dropS g k ∧ dropS g k ≤ 383778816000 := by
  have := tri_small hg hk
  unfold dropS
  omega

set_option maxRecDepth 100000 in
set_option maxHeartbeats 16000000 in
theorem walk (a0 : Int) (f0 : inF a0) (a1 : Int) (f1 : inF a1) (w : World)  :
    Calls Tryz.prog 6 #[.int .i64 a0, .int .i64 a1] w fun e w' => e = .returned (.bool true) ∧ Below w.heap.size w w' := by
  by_cases hc : (-100 ≤ a0 ∧ a0 ≤ 100) ∧ 0 ≤ a1 ∧ a1 ≤ 60
  rotate_left
  · by_cases c1 : a0 < -100
    all_goals (try by_cases c2 : 100 < a0)
    all_goals (try by_cases c5 : a1 < 0)
    all_goals (try by_cases c6 : 60 < a1)
    all_goals first
      | (exfalso; omega)
      | (clear hc f0 f1
         go_enter Tryz.func6, Tryz.ntmps6
         go_wp2_with (first
           | (go_at_call 9; go_fit (alive_any _); rintro e V1 ⟨rfl, U1⟩))
         go_ret
         exact ⟨rfl, U1⟩)
  obtain ⟨hx, h0, h1⟩ := hc
  obtain ⟨n, rfl⟩ : ∃ n : Nat, a1 = n := ⟨a1.toNat, by omega⟩
  have hr := drop_run hx (show n ≤ 60 by omega)
  have ok0 := drop_ok hx (show 0 ≤ 60 by omega)
  rw [drop_zero] at hr ok0
  have hgi : inF (a0 * 4294967296) := ⟨by omega, by omega⟩
  have HR : Hid (∀ q W, Bodies W (some ⟨q, 0, none⟩) [⟨1, 4294967296, 0, 4294967296, 0, 0, 0, 0⟩] → Calls Tryz.prog 10 #[.agg #[.int .i64 0, .int .i64 (a0 * 4294967296), .slice (some ⟨q, 0, none⟩) 1 1, .slice none 0 0], .int .i64 n] W fun e w' => Below W.heap.size W w' ∧ ∃ z off c' b' d', e = .returned (.tuple #[.agg #[.int .i64 0, .int .i64 (a0 * 4294967296), .slice (some ⟨z, off, none⟩) 1 c', .slice b' 0 d'], .int .i64 0, .int .i64 0]) ∧ BatO w' z off (drop1 a0 n)) := fun q W h => runone_any inF0 hgi hr q W h
  have HB : Hid (∀ V : World, ∀ c, Bodies ((V.alloc (.cells c 39)).alloc (.cells #[.int .i64 1, .int .i64 4294967296, .int .i64 0, .int .i64 4294967296, .int .i64 0, .int .i64 0, .int .i64 0, .int .i64 0] 39)) (some ⟨V.heap.size + 1, 0, none⟩) [⟨1, 4294967296, 0, 4294967296, 0, 0, 0, 0⟩]) := fun V c => bodies_two ok0 V c _
  have HT : Hid (∀ k : Nat, k < 60 → Int.tdiv (a0 * 67108864 * ((k : Int) + 1)) 64 = a0 * ((k + 1 : Nat) : Int) * 1048576) := fun k hk => by
    rw [show a0 * 67108864 * ((k : Int) + 1) = a0 * ((k + 1 : Nat) : Int) * 1048576 * 64 by
      rw [show ((k + 1 : Nat) : Int) = (k : Int) + 1 by omega, Int.mul_assoc, Int.mul_comm 67108864, ← Int.mul_assoc, Int.mul_assoc _ 1048576 64]; rfl, Int.mul_tdiv_cancel _ (by decide)]
  have t1 : Int.tdiv (a0 * 4294967296) 64 = a0 * 67108864 := by
    rw [show a0 * 4294967296 = a0 * 67108864 * 64 by omega, Int.mul_tdiv_cancel _ (by decide)]
  have HI : Hid (∀ k : Nat, k ≤ 60 → -383778816000 ≤ dropS a0 k ∧ dropS a0 k ≤ 383778816000) := fun k hk => dropS_in hx hk
  have HK : Hid (∀ k : Nat, k ≤ 60 → -6000 ≤ a0 * k ∧ a0 * k ≤ 6000) := fun k hk => mul_small2 hx hk
  have hVn : a0 * 67108864 * (n : Int) = a0 * n * 67108864 := by rw [Int.mul_assoc, Int.mul_comm 67108864, ← Int.mul_assoc]
  clear hr ok0 hgi
  go_enter Tryz.func6, Tryz.ntmps6
  go_upto_region 9 with (first
    | (go_at_call 9; go_fit (alive_any _); rintro e V1 ⟨rfl, U1⟩)
    | (go_at_call 10; go_fit (HR.out _ _ (HB.out _ _)); rintro e V2 ⟨U2, z, off, c', b', d', rfl, hB⟩))
  obtain ⟨V3, hV3⟩ : ∃ X, X = V2.alloc (.cells #[.int .i64 0, .int .i64 (a0 * 4294967296), .slice (some ⟨z, off, none⟩) 1 c', .slice b' 0 d'] 29) := ⟨_, rfl⟩
  rw [← hV3]
  have G3 : Grew V2 V3 := by rw [hV3]; exact (Grew.refl V2).alloc _ _
  have k2 : V3.cell? ⟨V2.heap.size, 2, none⟩ = some (.slice (some ⟨z, off, none⟩) 1 c') := by rw [hV3]; simp [go_sem]
  obtain ⟨h0', h1', h2', h3', h4', h5', h6', h7'⟩ := hB.grew G3
  simp only [drop1] at h0' h1' h2' h3' h4' h5' h6' h7'
  have h5' : V3.cell? ⟨z, off + 5, none⟩ = some (.int .i64 (dropS a0 n)) := h5'
  have HG : Hid (Below w.heap.size w V3) := onto (onto (onto_alloc (onto_alloc U1 _) _) U2) G3.below
  clear hV3 G3 hB U1 U2
  go_wp2_with (fail)
  go_loopw [10, 11] (fun y i wr => ∃ k : Nat, k ≤ n ∧ i = .int .i64 ((k : Int) + 1) ∧ y = .int .i64 (dropS a0 k) ∧ wr = V3) (fun _ i _ => n + 1 - (intOf i).toNat)
  case atStart => exact ⟨0, by omega, rfl, by simp [dropS, tri], rfl⟩
  case round =>
    obtain ⟨k, hk, rfl, rfl, rfl⟩ := hrel
    by_cases hlt : k < n
    · have hi : (k : Int) + 1 ≤ (n : Int) := by omega
      have b1 := HK.out (k + 1) (by omega)
      have b2 := HI.out k (by omega)
      have b3 := HI.out (k + 1) (by omega)
      have e1 := HT.out k (by omega)
      have e2 := dropS_succ a0 k
      have e0 : a0 * 67108864 * ((k : Int) + 1) = a0 * ((k + 1 : Nat) : Int) * 67108864 := by
        rw [show ((k + 1 : Nat) : Int) = (k : Int) + 1 by omega, Int.mul_assoc, Int.mul_comm 67108864, ← Int.mul_assoc]
      obtain ⟨M, hM⟩ : ∃ M, a0 * 67108864 * ((k : Int) + 1) = M := ⟨_, rfl⟩
      have b4 : -402653184000 ≤ M ∧ M ≤ 402653184000 := by rw [← hM, e0]; omega
      obtain ⟨D, hD⟩ : ∃ D, a0 * ((k + 1 : Nat) : Int) * 1048576 = D := ⟨_, rfl⟩
      have b5 : -6291456000 ≤ D ∧ D ≤ 6291456000 := by rw [← hD]; omega
      rw [hM, hD] at e1
      rw [hD] at e2
      clear e0 hD b1
      have HE : Hid (dropS a0 k + D = dropS a0 (k + 1)) := e2
      rw [← e2] at b3
      clear e2
      go_wp2_with (fail)
      refine ⟨⟨k + 1, by omega, by simp, by rw [HE.out], by first | rfl | trivial⟩, ?_⟩
      simp [intOf]; omega
    · have hi : ¬ (k : Int) + 1 ≤ (n : Int) := by omega
      obtain rfl : k = n := by omega
      have b1 := HK.out k (by omega)
      obtain ⟨Q, hQ⟩ : ∃ Q, a0 * k * 67108864 = Q := ⟨_, rfl⟩
      have b4 : -402653184000 ≤ Q ∧ Q ≤ 402653184000 := by rw [← hQ]; omega
      rw [hQ] at hVn h7'
      clear hQ
      go_wp2_with (fail)
      go_ret
      exact ⟨rfl, HG.out⟩

set_option maxRecDepth 100000 in
theorem lifted (os : Os) (started : os.Started) (H : Type) (enc : TypeId × Value → H) :
    ReturnsInHanded {} Tryz.checked os 6 .any (Rows.worldFallsSpec.pre6 enc Tryz.prog Tryz.f6 Rows.worldFallsRow.domain false) (Rows.worldFallsSpec.post enc Tryz.prog Tryz.f6 false true false false) := by
  refine returnsInHanded_of_change (C := Tryz.checked) own started (by kernel_rfl) Tryz.func6
    (ChangeSpec.witness6 (enc := enc) (C := Tryz.checked) false ⟨#[], #[.int .i64 0, .int .i64 0], []⟩ 8 (by kernel_rfl) (by kernel_rfl) (by kernel_rfl) (by kernel_rfl)) ?_
  intro W base args ds gs before hval0 hW hcnd _
  have hval : ∀ (j : Nat) t v, Tryz.f6.params[j]? = some t → args[j]? = some v → Value.okWide Tryz.prog W .any base t v := hval0
  have hW' := hW
  obtain ⟨p, q, hA0, hV, rfl, hfz, hnd⟩ := hW
  have hA : DataW.TrodAll enc Tryz.prog W 0 (fun _ => true) true Tryz.f6.params.toList args.toList ds p := hA0
  rw [Tryz.params6] at hA hval
  obtain ⟨v0, vs0, d0, ds0, p0, q0, hargs, rfl, rfl, h0, r0⟩ := trodAll_cons hA
  obtain ⟨v1, vs1, d1, ds1, p1, q1, rfl, rfl, rfl, h1, r1⟩ := trodAll_cons r0
  obtain ⟨rfl, rfl, rfl⟩ := trodAll_nil r1
  obtain rfl : args = #[v0, v1] := by cases args; simp_all
  obtain ⟨rfl, rfl⟩ := trodVars_none hV
  obtain ⟨a0, rfl, rfl, rfl, w0⟩ := open_int Tryz.underlying3 (hval 0 3 v0 rfl rfl) h0
  have f0 := inF_wf w0
  obtain ⟨a1, rfl, rfl, rfl, w1⟩ := open_int Tryz.underlying3 (hval 1 3 v1 rfl rfl) h1
  have f1 := inF_wf w1
  clear hA0 hval0
  refine (walk a0 f0 a1 f1 W  ).mono fun e W' ⟨he, bel⟩ => ?_
  subst he
  exact ⟨_, rfl, _, _, _, [], _, [], hW', trodAll_mk1 (shut_bool Tryz.underlying4 _), (trodAll_cons_mk (shut_int Tryz.underlying3 w0) (trodAll_cons_mk (shut_int Tryz.underlying3 w1) trodAll_mk0)), rfl, bel.frame _, fun h => by cases h⟩

theorem over : Rows.worldFallsRow.holds Tryz.pinned (OpenSpec.ofChange Rows.worldFallsSpec) :=
  OpenClaim.holds_of_wide 6 Tryz.f6 rfl rfl rfl rfl rfl rfl rfl ⟨rfl, rfl, rfl, rfl, rfl⟩ rfl rfl rfl rfl rfl (by kernel_rfl) Tryz.func6 (by kernel_rfl)
    (of_decide_eq_true (by kernel_rfl)) (by unfold Func.isWrapper; first | (rw [if_pos (by decide +kernel)]; kernel_rfl) | (rw [if_neg (by decide +kernel)]; exact ⟨rfl, rfl⟩))
    (fun os started H enc _ => lifted os started H enc)

theorem proved : Rows.WorldFallsSaid :=
  over
end Go.Proofs.YtnkhknmpffcfbaaGreat.worldFalls

namespace Go.Proofs.YtnkhknmpffcfbaaGreat
theorem worldFalls_holds : Rows.WorldFallsSaid := worldFalls.proved
end Go.Proofs.YtnkhknmpffcfbaaGreat

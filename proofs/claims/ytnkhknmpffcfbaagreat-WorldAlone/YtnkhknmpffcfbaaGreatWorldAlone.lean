/-
  Proved: maquettelaw12.WorldAlone returns true for every speed and every number of steps (what goes alone goes on as it did), and leaves what it was given as it was; no condition.
-/
import Derived.Test.YtnkhknmpffcfbaaGreatRows
import Derived.Test.YtnkhknmpffcfbaaGreatPk12
import Derived.WalkKit
import Derived.Deep.QuietTactic
import Derived.BigQuiet
import Derived.WalkSpells
import Derived.Deep.CutRange
import Derived.Deep.CutBlock
import Derived.WalkLawsBesides
import Derived.ProofKit
import Derived.OpenShut
import Derived.ChangeOld
import Derived.Below
namespace Go.Proofs.YtnkhknmpffcfbaaGreat.worldAlone
open Go.ChangeShapes Go.WideShapes Go.ChangeAt Go.RowKit
set_option linter.unusedVariables false

theorem own : ownKnob Tryz.prog.godebug = none := by kernel_rfl
theorem laidOut : laidOutB Tryz.prog = true := by kernel_rfl

theorem alone_zero (x y : Int) : alone x y 0 = ⟨2, 4294967296, 4294967296, 8589934592, 0, 0, 2 * x * 4294967296, 2 * y * 4294967296⟩ := by
  simp [alone, Int.mul_assoc]

set_option maxRecDepth 100000 in
set_option maxHeartbeats 16000000 in
theorem walk (a0 : Int) (f0 : inF a0) (a1 : Int) (f1 : inF a1) (a2 : Int) (f2 : inF a2) (w : World)   :
    Calls Tryz.prog 8 #[.int .i64 a0, .int .i64 a1, .int .i64 a2] w fun e w' => e = .returned (.bool true) ∧ Below w.heap.size w w' := by
  by_cases hc : (-100 ≤ a0 ∧ a0 ≤ 100) ∧ (-100 ≤ a1 ∧ a1 ≤ 100) ∧ 0 ≤ a2 ∧ a2 ≤ 50
  rotate_left
  · by_cases c1 : a0 < -100
    all_goals (try by_cases c2 : 100 < a0)
    all_goals (try by_cases c3 : a1 < -100)
    all_goals (try by_cases c4 : 100 < a1)
    all_goals (try by_cases c5 : a2 < 0)
    all_goals (try by_cases c6 : 50 < a2)
    all_goals first
      | (exfalso; omega)
      | (clear hc f0 f1 f2
         go_enter Tryz.func8, Tryz.ntmps8
         go_wp2_with (first
           | (go_at_call 9; go_fit (alive_any _); rintro e V1 ⟨rfl, U1⟩))
         go_ret
         exact ⟨rfl, U1⟩)
  obtain ⟨hx, hy, h0, h1⟩ := hc
  obtain ⟨n, rfl⟩ : ∃ n : Nat, a2 = n := ⟨a2.toNat, by omega⟩
  have hr := alone_run hx hy (show n ≤ 50 by omega)
  have ok0 := alone_ok hx hy (show 0 ≤ 51 by omega)
  rw [alone_zero] at hr ok0
  have m1 := mul_small hx (show n ≤ 51 by omega)
  have m2 := mul_small hy (show n ≤ 51 by omega)
  have hn : alone a0 a1 n = ⟨2, 4294967296, 4294967296, 8589934592, a0 * n * 67108864, a1 * n * 67108864, 2 * a0 * 4294967296, 2 * a1 * 4294967296⟩ := by simp [alone, Int.mul_assoc]
  rw [hn] at hr
  obtain ⟨p, hp⟩ : ∃ p, a0 * n = p := ⟨_, rfl⟩
  obtain ⟨r, hq⟩ : ∃ r, a1 * n = r := ⟨_, rfl⟩
  rw [hp] at hr m1
  rw [hq] at hr m2
  obtain ⟨u, hu⟩ : ∃ u, 2 * a0 * 4294967296 = u := ⟨_, rfl⟩
  obtain ⟨v, hv⟩ : ∃ v, 2 * a1 * 4294967296 = v := ⟨_, rfl⟩
  rw [hu, hv] at hr ok0
  have HR : Hid (∀ q W, Bodies W (some ⟨q, 0, none⟩) [⟨2, 4294967296, 4294967296, 8589934592, 0, 0, u, v⟩] → Calls Tryz.prog 10 #[.agg #[.int .i64 0, .int .i64 0, .slice (some ⟨q, 0, none⟩) 1 1, .slice none 0 0], .int .i64 n] W fun e w' => Below W.heap.size W w' ∧ ∃ z off c' b' d', e = .returned (.tuple #[.agg #[.int .i64 0, .int .i64 0, .slice (some ⟨z, off, none⟩) 1 c', .slice b' 0 d'], .int .i64 0, .int .i64 0]) ∧ BatO w' z off ⟨2, 4294967296, 4294967296, 8589934592, p * 67108864, r * 67108864, u, v⟩) := fun q W h => runone_any inF0 inF0 hr q W h
  have HB : Hid (∀ V : World, ∀ c, Bodies ((V.alloc (.cells c 39)).alloc (.cells #[.int .i64 2, .int .i64 4294967296, .int .i64 4294967296, .int .i64 8589934592, .int .i64 0, .int .i64 0, .int .i64 u, .int .i64 v] 39)) (some ⟨V.heap.size + 1, 0, none⟩) [⟨2, 4294967296, 4294967296, 8589934592, 0, 0, u, v⟩]) := fun V c => bodies_two ok0 V c _
  have t1 : Int.tdiv (p * 4294967296) 64 = p * 67108864 := by
    rw [show p * 4294967296 = p * 67108864 * 64 by omega, Int.mul_tdiv_cancel _ (by decide)]
  have t2 : Int.tdiv (r * 4294967296) 64 = r * 67108864 := by
    rw [show r * 4294967296 = r * 67108864 * 64 by omega, Int.mul_tdiv_cancel _ (by decide)]
  obtain ⟨P, hP⟩ : ∃ P, p * 67108864 = P := ⟨_, rfl⟩
  obtain ⟨Q, hQ⟩ : ∃ Q, r * 67108864 = Q := ⟨_, rfl⟩
  have iP : -342255206400 ≤ P ∧ P ≤ 342255206400 := by omega
  have iQ : -342255206400 ≤ Q ∧ Q ≤ 342255206400 := by omega
  rw [hP] at HR t1
  rw [hQ] at HR t2
  have hsame := same_bodyS ⟨2, 4294967296, 4294967296, 8589934592, P, Q, u, v⟩
  unfold Bd.val at hsame
  clear hr ok0 hn hP hQ
  go_enter Tryz.func8, Tryz.ntmps8
  go_upto_region 7 with (first
    | (go_at_call 9; go_fit (alive_any _); rintro e V1 ⟨rfl, U1⟩)
    | (go_at_call 10; go_fit (HR.out _ _ (HB.out _ _)); rintro e V2 ⟨U2, z, off, c', b', d', rfl, hB⟩; (have ⟨e0, e1, e2, e3, e4, e5, e6, e7⟩ := (behind_at ⟨2, 4294967296, 4294967296, 8589934592, 0, 0, u, v⟩ V1 _).heap (U2.block _ (lt_two _ _ _))); simp only at e0 e1 e2 e3 e4 e5 e6 e7; (have hv7 : V1.heap.size < V2.heap.size := cell_block e0)))
  obtain ⟨V3, hV3⟩ : ∃ X, X = (V2.alloc (.cells #[.int .i64 0, .int .i64 0, .slice (some ⟨z, off, none⟩) 1 c', .slice b' 0 d'] 29)).alloc (.cells #[.int .i64 2, .int .i64 4294967296, .int .i64 4294967296, .int .i64 8589934592, .int .i64 P, .int .i64 Q, .int .i64 u, .int .i64 v] 39) := ⟨_, rfl⟩
  rw [← hV3]
  have G3 : Grew V2 V3 := by rw [hV3]; exact ((Grew.refl V2).alloc _ _).alloc _ _
  have k2 : V3.cell? ⟨V2.heap.size, 2, none⟩ = some (.slice (some ⟨z, off, none⟩) 1 c') := by rw [hV3]; simp [go_sem]
  obtain ⟨g0, g1, g2, g3, g4, g5, g6, g7⟩ : BAt V3 (V2.heap.size + 1) ⟨2, 4294967296, 4294967296, 8589934592, P, Q, u, v⟩ := by rw [hV3]; constructor <;> simp [go_sem]
  obtain ⟨h0', h1', h2', h3', h4', h5', h6', h7'⟩ := hB.grew G3
  simp only at g0 g1 g2 g3 g4 g5 g6 g7 h0' h1' h2' h3' h4' h5' h6' h7'
  have HG : Hid (Below w.heap.size w V3) := onto (onto (onto_alloc (onto_alloc U1 _) _) U2) G3.below
  clear hV3 G3 hB U1 U2 e0 e1 e2 e3 e4 e5 e6 e7
  go_quiet (fail)
  go_wp2_with (fail)
  go_ret
  exact ⟨rfl, below_drewN HG.out _⟩

set_option maxRecDepth 100000 in
theorem lifted (os : Os) (started : os.Started) (H : Type) (enc : TypeId × Value → H) :
    ReturnsInHanded {} Tryz.checked os 8 .any (Rows.worldAloneSpec.pre6 enc Tryz.prog Tryz.f8 Rows.worldAloneRow.domain false) (Rows.worldAloneSpec.post enc Tryz.prog Tryz.f8 false true false false) := by
  refine returnsInHanded_of_change (C := Tryz.checked) own started (by kernel_rfl) Tryz.func8
    (ChangeSpec.witness6 (enc := enc) (C := Tryz.checked) false ⟨#[], #[.int .i64 0, .int .i64 0, .int .i64 0], []⟩ 8 (by kernel_rfl) (by kernel_rfl) (by kernel_rfl) (by kernel_rfl)) ?_
  intro W base args ds gs before hval0 hW hcnd _
  have hval : ∀ (j : Nat) t v, Tryz.f8.params[j]? = some t → args[j]? = some v → Value.okWide Tryz.prog W .any base t v := hval0
  have hW' := hW
  obtain ⟨p, q, hA0, hV, rfl, hfz, hnd⟩ := hW
  have hA : DataW.TrodAll enc Tryz.prog W 0 (fun _ => true) true Tryz.f8.params.toList args.toList ds p := hA0
  rw [Tryz.params8] at hA hval
  obtain ⟨v0, vs0, d0, ds0, p0, q0, hargs, rfl, rfl, h0, r0⟩ := trodAll_cons hA
  obtain ⟨v1, vs1, d1, ds1, p1, q1, rfl, rfl, rfl, h1, r1⟩ := trodAll_cons r0
  obtain ⟨v2, vs2, d2, ds2, p2, q2, rfl, rfl, rfl, h2, r2⟩ := trodAll_cons r1
  obtain ⟨rfl, rfl, rfl⟩ := trodAll_nil r2
  obtain rfl : args = #[v0, v1, v2] := by cases args; simp_all
  obtain ⟨rfl, rfl⟩ := trodVars_none hV
  obtain ⟨a0, rfl, rfl, rfl, w0⟩ := open_int Tryz.underlying3 (hval 0 3 v0 rfl rfl) h0
  have f0 := inF_wf w0
  obtain ⟨a1, rfl, rfl, rfl, w1⟩ := open_int Tryz.underlying3 (hval 1 3 v1 rfl rfl) h1
  have f1 := inF_wf w1
  obtain ⟨a2, rfl, rfl, rfl, w2⟩ := open_int Tryz.underlying3 (hval 2 3 v2 rfl rfl) h2
  have f2 := inF_wf w2
  clear hA0 hval0
  refine (walk a0 f0 a1 f1 a2 f2 W   ).mono fun e W' ⟨he, bel⟩ => ?_
  subst he
  exact ⟨_, rfl, _, _, _, [], _, [], hW', trodAll_mk1 (shut_bool Tryz.underlying4 _), (trodAll_cons_mk (shut_int Tryz.underlying3 w0) (trodAll_cons_mk (shut_int Tryz.underlying3 w1) (trodAll_cons_mk (shut_int Tryz.underlying3 w2) trodAll_mk0))), rfl, bel.frame _, fun h => by cases h⟩

theorem over : Rows.worldAloneRow.holds Tryz.pinned (OpenSpec.ofChange Rows.worldAloneSpec) :=
  OpenClaim.holds_of_wide 8 Tryz.f8 rfl rfl rfl rfl rfl rfl rfl ⟨rfl, rfl, rfl, rfl, rfl⟩ rfl rfl rfl rfl rfl (by kernel_rfl) Tryz.func8 (by kernel_rfl)
    (of_decide_eq_true (by kernel_rfl)) (by unfold Func.isWrapper; first | (rw [if_pos (by decide +kernel)]; kernel_rfl) | (rw [if_neg (by decide +kernel)]; exact ⟨rfl, rfl⟩))
    (fun os started H enc _ => lifted os started H enc)

theorem proved : Rows.WorldAloneSaid :=
  over
end Go.Proofs.YtnkhknmpffcfbaaGreat.worldAlone

namespace Go.Proofs.YtnkhknmpffcfbaaGreat
theorem worldAlone_holds : Rows.WorldAloneSaid := worldAlone.proved
end Go.Proofs.YtnkhknmpffcfbaaGreat

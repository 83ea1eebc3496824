/-
  Proved: maquettelaw1.FixWholes returns true for every two ints, and leaves what it was given as it was; no condition.
-/
import Derived.Test.YtgemflldnplkbaaRows
import Derived.Test.YtgemflldnplkbaaAlive
import Derived.Test.YtgemflldnplkbaaLawNum
import Derived.WalkKit
import Derived.WalkSpells
import Derived.WalkLawsBesides
import Derived.ProofKit
import Derived.OpenShut
import Derived.ShutString
namespace Go.Proofs.Ytgemflldnplkbaa.fixWholes
open Go.ChangeShapes Go.WideShapes Go.ChangeAt Go.RowKit
open Go.ChangeMaps (open_string shut_string)
set_option linter.unusedVariables false

theorem own : ownKnob Try.prog.godebug = none := by kernel_rfl

theorem ab_shift (a : Int) : ab (a * 4294967296) = ab a * 4294967296 := by have := ab_of a; have := ab_of (a * 4294967296); omega
theorem sgn_shift (a b : Int) : sgn (a * 4294967296) (b * 4294967296) = sgn a b := by
  unfold sgn
  rw [show decide (a * 4294967296 < 0) = decide (a < 0) from decide_eq_decide.2 (by omega), show decide (b * 4294967296 < 0) = decide (b < 0) from decide_eq_decide.2 (by omega)]
theorem mul_bound (a b : Int) (ha : -30000 ≤ a ∧ a ≤ 30000) (hb : -30000 ≤ b ∧ b ≤ 30000) : -900000000 ≤ a * b ∧ a * b ≤ 900000000 := by
  have e1 := ab_of a; have e2 := ab_of b
  have p := Int.mul_le_mul (show ab a ≤ 30000 by omega) (show ab b ≤ 30000 by omega) (ab_nonneg b) (by decide)
  have p0 := Int.mul_nonneg (ab_nonneg a) (ab_nonneg b)
  rcases e1 with ⟨_, e1⟩ | ⟨_, e1⟩ <;> rcases e2 with ⟨_, e2⟩ | ⟨_, e2⟩ <;> rw [e1, e2] at p p0 <;> (try simp only [Int.neg_mul, Int.mul_neg, Int.neg_neg] at p p0) <;> omega
theorem mulR_whole (a b : Int) (ha : -30000 ≤ a ∧ a ≤ 30000) (hb : -30000 ≤ b ∧ b ≤ 30000) : mulR (a * 4294967296) (b * 4294967296) = (a * b * 4294967296, 0) := by
  have m := mul_bound a b ha hb
  have e : mulM (a * 4294967296) (b * 4294967296) = ab a * ab b * 4294967296 := by
    unfold mulM
    rw [ab_shift, ab_shift, Int.mul_assoc, ← Int.mul_assoc 4294967296, Int.mul_comm 4294967296 (ab b), Int.mul_assoc, ← Int.mul_assoc, ← Int.mul_assoc, Int.mul_ediv_cancel _ (by decide)]
  unfold mulR
  rw [sgn_shift, e]
  unfold sgn
  rcases ab_of a with ⟨h1, e1⟩ | ⟨h1, e1⟩ <;> rcases ab_of b with ⟨h2, e2⟩ | ⟨h2, e2⟩ <;> rw [e1, e2]
  · rw [show (decide (a < 0) != decide (b < 0)) = false by simp [h1, h2], Int.neg_mul_neg, sgR_pos _ (by omega)]
  · rw [show (decide (a < 0) != decide (b < 0)) = true by simp [h1]; omega, Int.neg_mul, sgR_neg _ (by omega), Int.neg_mul, Int.neg_neg]
  · rw [show (decide (a < 0) != decide (b < 0)) = true by simp [h2]; omega, Int.mul_neg, sgR_neg _ (by omega), Int.neg_mul, Int.neg_neg]
  · rw [show (decide (a < 0) != decide (b < 0)) = false by rw [show decide (a < 0) = false by simp; omega, show decide (b < 0) = false by simp; omega]; rfl, sgR_pos _ (by omega)]
set_option maxHeartbeats 2000000 in
theorem walk (a0 : Int) (a1 : Int) (w0 : (Lit.int .i64 a0).wf = true) (w1 : (Lit.int .i64 a1).wf = true) (w : World) :
    Calls Try.prog 6 #[.int .i64 a0, .int .i64 a1] w fun e w' => e = .returned (.bool true) ∧ Grown w w' := by
  have ha : inF a0 := inF_wf w0
  have hb : inF a1 := inF_wf w1
  by_cases c1 : a0 < -30000
  · go_enter Try.func6, Try.ntmps6
    go_wp2_with (go_at_call 9; refine (alive_any _).mono ?_; rintro e w' ⟨rfl, n, rfl⟩)
    go_ret
    exact ⟨rfl, grown_drewN _ _⟩
  by_cases c2 : a1 < -30000
  · go_enter Try.func6, Try.ntmps6
    go_wp2_with (go_at_call 9; refine (alive_any _).mono ?_; rintro e w' ⟨rfl, n, rfl⟩)
    go_ret
    exact ⟨rfl, grown_drewN _ _⟩
  by_cases c3 : 30000 < a0
  · go_enter Try.func6, Try.ntmps6
    go_wp2_with (go_at_call 9; refine (alive_any _).mono ?_; rintro e w' ⟨rfl, n, rfl⟩)
    go_ret
    exact ⟨rfl, grown_drewN _ _⟩
  by_cases c4 : 30000 < a1
  · go_enter Try.func6, Try.ntmps6
    go_wp2_with (go_at_call 9; refine (alive_any _).mono ?_; rintro e w' ⟨rfl, n, rfl⟩)
    go_ret
    exact ⟨rfl, grown_drewN _ _⟩
  by_cases z : a0 = 0
  · subst z
    have f1 : ofR 0 = (0, 0) := by decide +kernel
    have f2 : ofR a1 = (a1 * 4294967296, 0) := inR_ok (by omega)
    have f3 : addR 0 (a1 * 4294967296) = (a1 * 4294967296, 0) := by unfold addR; rw [Int.zero_add]; exact inR_ok (by omega)
    have f4 : subR 0 (a1 * 4294967296) = (-(a1 * 4294967296), 0) := by unfold subR; rw [Int.zero_sub]; exact inR_ok (by omega)
    have f5 : mulR 0 (a1 * 4294967296) = (0, 0) := by rw [mulR_comm]; exact mulR_zero _
    have i2 : inF (a1 * 4294967296) := ⟨by omega, by omega⟩
    have g1 : a1 * 4294967296 / 4294967296 = a1 := by omega
    have g2 : -(a1 * 4294967296) / 4294967296 = -a1 := by omega
    clear w0 ha c1 c3
    go_enter Try.func6, Try.ntmps6
    go_wp2_with (first
    | (go_at_call 9; refine (alive_any _).mono ?_; rintro e w' ⟨rfl, n, rfl⟩)
    | (go_at_call 14; refine (add_any _ _ _ (by first | assumption | exact ⟨by decide, by decide⟩) (by first | assumption | exact ⟨by decide, by decide⟩)).mono ?_; rintro e w' ⟨rfl, rfl⟩)
    | (go_at_call 15; refine (sub_any _ _ _ (by first | assumption | exact ⟨by decide, by decide⟩) (by first | assumption | exact ⟨by decide, by decide⟩)).mono ?_; rintro e w' ⟨rfl, rfl⟩)
    | (go_at_call 16; refine (mul_any _ _ _ (by first | assumption | exact ⟨by decide, by decide⟩) (by first | assumption | exact ⟨by decide, by decide⟩)).mono ?_; rintro e w' ⟨rfl, rfl⟩)
    | (go_at_call 17; refine (div_any _ _ _ (by first | assumption | exact ⟨by decide, by decide⟩) (by first | assumption | exact ⟨by decide, by decide⟩)).mono ?_; rintro e w' ⟨rfl, n, rfl⟩)
    | fail
      | (go_at_call 19; refine (of_any _ _ (by first | assumption | exact ⟨by decide, by decide⟩)).mono ?_; rintro e w' ⟨rfl, rfl⟩)
      | (go_at_call 20; refine (whole_any _ _).mono ?_; rintro e w' ⟨rfl, rfl⟩))
    go_ret
    exact ⟨rfl, grown_drewN _ _⟩
  have m := mul_bound a0 a1 (by omega) (by omega)
  have f5 := mulR_whole a0 a1 (by omega) (by omega)
  obtain ⟨x, hx⟩ : ∃ x, x = a0 * 4294967296 := ⟨_, rfl⟩
  obtain ⟨y, hy⟩ : ∃ y, y = a1 * 4294967296 := ⟨_, rfl⟩
  obtain ⟨p, hp⟩ : ∃ p, p = a0 * a1 * 4294967296 := ⟨_, rfl⟩
  obtain ⟨s, hs⟩ : ∃ s, s = x + y := ⟨_, rfl⟩
  obtain ⟨d, hd⟩ : ∃ d, d = x - y := ⟨_, rfl⟩
  rw [← hx, ← hy, ← hp] at f5
  have f1 : ofR a0 = (x, 0) := by rw [hx]; exact inR_ok (by omega)
  have f2 : ofR a1 = (y, 0) := by rw [hy]; exact inR_ok (by omega)
  have f3 : addR x y = (s, 0) := by rw [hs]; exact inR_ok (by omega)
  have f4 : subR x y = (d, 0) := by rw [hd]; exact inR_ok (by omega)
  have i1 : inF x := ⟨by omega, by omega⟩
  have i2 : inF y := ⟨by omega, by omega⟩
  have g1 : s / 4294967296 = a0 + a1 := by omega
  have g2 : d / 4294967296 = a0 - a1 := by omega
  have g3 : p / 4294967296 = a0 * a1 := by rw [hp]; exact Int.mul_ediv_cancel _ (by decide)
  have g4 : x / 4294967296 = a0 := by omega
  have g5 : (x + 2147483648) / 4294967296 = a0 := by omega
  have g6 : (x - 1) / 4294967296 = a0 - 1 := by omega
  have g7 : -128849018880000 ≤ x ∧ x ≤ 128849018880000 := by omega
  have hz' : ¬ a0 = 0 := z
  clear hx hy hp hs hd
  have hz : (a0 == 0) = false := by simp [hz']
  clear z hz'
  go_enter Try.func6, Try.ntmps6
  go_wp2_with (first
    | (go_at_call 9; refine (alive_any _).mono ?_; rintro e w' ⟨rfl, n, rfl⟩)
    | (go_at_call 14; refine (add_any _ _ _ (by first | assumption | exact ⟨by decide, by decide⟩) (by first | assumption | exact ⟨by decide, by decide⟩)).mono ?_; rintro e w' ⟨rfl, rfl⟩)
    | (go_at_call 15; refine (sub_any _ _ _ (by first | assumption | exact ⟨by decide, by decide⟩) (by first | assumption | exact ⟨by decide, by decide⟩)).mono ?_; rintro e w' ⟨rfl, rfl⟩)
    | (go_at_call 16; refine (mul_any _ _ _ (by first | assumption | exact ⟨by decide, by decide⟩) (by first | assumption | exact ⟨by decide, by decide⟩)).mono ?_; rintro e w' ⟨rfl, rfl⟩)
    | (go_at_call 17; refine (div_any _ _ _ (by first | assumption | exact ⟨by decide, by decide⟩) (by first | assumption | exact ⟨by decide, by decide⟩)).mono ?_; rintro e w' ⟨rfl, n, rfl⟩)
    | fail
    | (go_at_call 19; refine (of_any _ _ (by assumption)).mono ?_; rintro e w' ⟨rfl, rfl⟩)
    | (go_at_call 20; refine (whole_any _ _).mono ?_; rintro e w' ⟨rfl, rfl⟩))
  go_ret
  exact ⟨rfl, grown_drewN _ _⟩

set_option maxRecDepth 100000 in
theorem lifted (os : Os) (started : os.Started) (H : Type) (enc : TypeId × Value → H) :
    ReturnsInHanded {} Try.checked os 6 .any (Rows.fixWholesSpec.pre6 enc Try.prog Try.f6 Rows.fixWholesRow.domain false) (Rows.fixWholesSpec.post enc Try.prog Try.f6 false true false false) := by
  refine returnsInHanded_of_change (C := Try.checked) own started (by kernel_rfl) Try.func6
    (ChangeSpec.witness6 (enc := enc) (C := Try.checked) false ⟨#[], #[.int .i64 0, .int .i64 0], []⟩ 8 (by kernel_rfl) (by kernel_rfl) (by kernel_rfl) (by kernel_rfl)) ?_
  intro W base args ds gs before hval0 hW hcnd _
  have hval : ∀ (j : Nat) t v, Try.f6.params[j]? = some t → args[j]? = some v → Value.okWide Try.prog W .any base t v := hval0
  have hW' := hW
  obtain ⟨p, q, hA0, hV, rfl, hfz, hnd⟩ := hW
  have hA : DataW.TrodAll enc Try.prog W 0 (fun _ => true) true Try.f6.params.toList args.toList ds p := hA0
  rw [Try.params6] at hA hval
  obtain ⟨v0, vs0, d0, ds0, p0, q0, hargs, rfl, rfl, h0, r0⟩ := trodAll_cons hA
  obtain ⟨v1, vs1, d1, ds1, p1, q1, rfl, rfl, rfl, h1, r1⟩ := trodAll_cons r0
  obtain ⟨rfl, rfl, rfl⟩ := trodAll_nil r1
  obtain rfl : args = #[v0, v1] := by cases args; simp_all
  obtain ⟨rfl, rfl⟩ := trodVars_none hV
  obtain ⟨a0, rfl, rfl, rfl, w0⟩ := open_int Try.underlying3 (hval 0 3 v0 rfl rfl) h0
  obtain ⟨a1, rfl, rfl, rfl, w1⟩ := open_int Try.underlying3 (hval 1 3 v1 rfl rfl) h1
  clear hA0 hval0
  simp only [List.append_nil] at hW'
  refine (walk a0 a1 w0 w1 W).mono fun e W' ⟨he, hg⟩ => ?_
  subst he
  exact ⟨_, rfl, post_of_same (pa := []) (pv := []) hW' (fun _ _ _ => (trodAll_cons_mk (shut_bool Try.underlying4 _) trodAll_mk0)) (fun sp _ => (trodAll_cons_mk (shut_int Try.underlying3 w0) (trodAll_cons_mk (shut_int Try.underlying3 w1) trodAll_mk0))) (fun _ _ => rfl) rfl
    (hg.frame _) hg.2.1 (ok_one (by kernel_rfl) rfl (okWide_bool_mk Try.underlying4 _))⟩

theorem over : Rows.fixWholesRow.holds Try.pinned (OpenSpec.ofChange Rows.fixWholesSpec) :=
  OpenClaim.holds_of_wide 6 Try.f6 rfl rfl rfl rfl rfl rfl rfl ⟨rfl, rfl, rfl, rfl, rfl⟩ rfl rfl rfl rfl rfl (by kernel_rfl) Try.func6 (by kernel_rfl)
    (of_decide_eq_true (by kernel_rfl)) (by unfold Func.isWrapper; first | (rw [if_pos (by decide +kernel)]; kernel_rfl) | (rw [if_neg (by decide +kernel)]; exact ⟨rfl, rfl⟩))
    (fun os started H enc _ => lifted os started H enc)

theorem proved : Rows.FixWholesSaid :=
  over
end Go.Proofs.Ytgemflldnplkbaa.fixWholes

namespace Go.Proofs.Ytgemflldnplkbaa
theorem fixWholes_holds : Rows.FixWholesSaid := fixWholes.proved
end Go.Proofs.Ytgemflldnplkbaa

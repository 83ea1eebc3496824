/-
  Proved: maquettelaw1.FixOrders returns true for every three int64s, and leaves what it was given as it was; no condition.
-/
import Derived.Test.YtgemflldnplkbabRows
import Derived.Test.YtgemflldnplkbabAlive
import Derived.Test.YtgemflldnplkbabLawNum
import Derived.WalkKit
import Derived.WalkSpells
import Derived.WalkLawsBesides
import Derived.ProofKit
import Derived.OpenShut
import Derived.ShutString
namespace Go.Proofs.Ytgemflldnplkbab.fixOrders
open Go.ChangeShapes Go.WideShapes Go.ChangeAt Go.RowKit
open Go.ChangeMaps (open_string shut_string)
set_option linter.unusedVariables false

theorem own : ownKnob Try.prog.godebug = none := by kernel_rfl

/-- Of a positive number times as much: no less, where both are told. -/
theorem mulR_mono (a b c p q : Int) (hc : 0 ≤ c) (h : a ≤ b) (hp : mulR a c = (p, 0)) (hq : mulR b c = (q, 0)) : p ≤ q := by
  have ea : mulR a c = sgR (decide (a < 0)) (mulM a c) := by unfold mulR; rw [sgn_one hc]
  have eb : mulR b c = sgR (decide (b < 0)) (mulM b c) := by unfold mulR; rw [sgn_one hc]
  rw [ea] at hp; rw [eb] at hq
  have m1 := mulM_nonneg a c
  have m2 := mulM_nonneg b c
  have le (x y : Int) (hxy : ab x ≤ ab y) : mulM x c ≤ mulM y c := by
    unfold mulM
    exact Int.ediv_le_ediv (by decide) (Int.mul_le_mul_of_nonneg_right hxy (ab_nonneg c))
  rcases ab_of a with ⟨h1, e1⟩ | ⟨h1, e1⟩ <;> rcases ab_of b with ⟨h2, e2⟩ | ⟨h2, e2⟩
  · have l := le b a (by omega)
    rw [show decide (a < 0) = true by simp [h1]] at hp
    rw [show decide (b < 0) = true by simp [h2]] at hq
    rcases sgR_cases true (mulM a c) with ⟨_, _, g⟩ | ⟨g, _, _⟩ | ⟨_, _, g⟩
    · rcases sgR_cases true (mulM b c) with ⟨_, _, k⟩ | ⟨k, _, _⟩ | ⟨_, _, k⟩
      · rw [g] at hp; rw [k] at hq; cases hp; cases hq; omega
      · cases k
      · rw [k] at hq; cases hq
    · cases g
    · rw [g] at hp; cases hp
  · rw [show decide (a < 0) = true by simp [h1]] at hp
    rw [show decide (b < 0) = false by simp; omega] at hq
    rcases sgR_cases true (mulM a c) with ⟨_, _, g⟩ | ⟨g, _, _⟩ | ⟨_, _, g⟩
    · rcases sgR_cases false (mulM b c) with ⟨k, _, _⟩ | ⟨_, _, k⟩ | ⟨_, _, k⟩
      · cases k
      · rw [g] at hp; rw [k] at hq; cases hp; cases hq; omega
      · rw [k] at hq; cases hq
    · cases g
    · rw [g] at hp; cases hp
  · omega
  · have l := le a b (by omega)
    rw [show decide (a < 0) = false by simp; omega] at hp
    rw [show decide (b < 0) = false by simp; omega] at hq
    rcases sgR_cases false (mulM a c) with ⟨g, _, _⟩ | ⟨_, _, g⟩ | ⟨_, _, g⟩
    · cases g
    · rcases sgR_cases false (mulM b c) with ⟨k, _, _⟩ | ⟨_, _, k⟩ | ⟨_, _, k⟩
      · cases k
      · rw [g] at hp; rw [k] at hq; cases hp; cases hq; exact l
      · rw [k] at hq; cases hq
    · rw [g] at hp; cases hp
theorem mulR_two (a c : Int) : (∃ p, mulR a c = (p, 0)) ∨ mulR a c = (0, 3) := by
  unfold mulR
  rcases sgR_cases (sgn a c) (mulM a c) with ⟨_, _, h⟩ | ⟨_, _, h⟩ | ⟨_, _, h⟩
  · exact Or.inl ⟨_, h⟩
  · exact Or.inl ⟨_, h⟩
  · exact Or.inr h
/-- What the two sums can be: in one of these three ways. -/
theorem sums_two (a b c : Int) : (addR a c = (a + c, 0) ∧ addR b c = (b + c, 0) ∧ (decide (a + c < b + c) != decide (a < b)) = false) ∨ addR a c = (0, 3) ∨ (addR a c = (a + c, 0) ∧ addR b c = (0, 3)) := by
  rcases inR_cases (a + c) with ⟨h, _⟩ | ⟨h, _⟩
  · rcases inR_cases (b + c) with ⟨g, _⟩ | ⟨g, _⟩
    · refine Or.inl ⟨h, g, ?_⟩
      rw [show decide (a + c < b + c) = decide (a < b) from decide_eq_decide.2 (by omega)]
      simp
    · exact Or.inr (Or.inr ⟨h, g⟩)
  · exact Or.inr (Or.inl h)
/-- What the two products can be: in one of these five ways. -/
theorem last_row (a b c : Int) : c < 0 ∨ (0 ≤ c ∧ mulR a c = (0, 3)) ∨ (0 ≤ c ∧ ∃ p, mulR a c = (p, 0) ∧ mulR b c = (0, 3)) ∨ (0 ≤ c ∧ ∃ p q, mulR a c = (p, 0) ∧ mulR b c = (q, 0) ∧ b < a) ∨ (0 ≤ c ∧ ∃ p q, mulR a c = (p, 0) ∧ mulR b c = (q, 0) ∧ a ≤ b ∧ p ≤ q) := by
  by_cases hc : c < 0
  · exact Or.inl hc
  have hc' : 0 ≤ c := by omega
  rcases mulR_two a c with ⟨p, hp⟩ | hp
  · rcases mulR_two b c with ⟨q, hq⟩ | hq
    · by_cases h : b < a
      · exact Or.inr (Or.inr (Or.inr (Or.inl ⟨hc', p, q, hp, hq, h⟩)))
      · exact Or.inr (Or.inr (Or.inr (Or.inr ⟨hc', p, q, hp, hq, by omega, mulR_mono a b c p q hc' (by omega) hp hq⟩)))
    · exact Or.inr (Or.inr (Or.inl ⟨hc', p, hp, hq⟩))
  · exact Or.inr (Or.inl ⟨hc', hp⟩)
set_option maxHeartbeats 2000000 in
theorem walk (a0 : Int) (a1 : Int) (a2 : Int) (w0 : (Lit.int .i64 a0).wf = true) (w1 : (Lit.int .i64 a1).wf = true) (w2 : (Lit.int .i64 a2).wf = true) (w : World) :
    Calls Try.prog 4 #[.int .i64 a0, .int .i64 a1, .int .i64 a2] w fun e w' => e = .returned (.bool true) ∧ Grown w w' := by
  have ha : inF a0 := inF_wf w0
  have hb : inF a1 := inF_wf w1
  have hc : inF a2 := inF_wf w2
  clear w0 w1 w2
  rcases sums_two a0 a1 a2 with ⟨s1, s2, s3⟩ | s1 | ⟨s1, s2⟩ <;> rcases last_row a0 a1 a2 with c1 | ⟨c1, c2⟩ | ⟨c1, p, c2, c3⟩ | ⟨c1, p, q, c2, c3, c4⟩ | ⟨c1, p, q, c2, c3, c4, c5⟩
  all_goals
    go_enter Try.func4, Try.ntmps4
    go_wp2_with (first
    | (go_at_call 5; refine (alive_any _).mono ?_; rintro e w' ⟨rfl, n, rfl⟩)
    | (go_at_call 8; refine (add_any _ _ _ (by first | assumption | exact ⟨by decide, by decide⟩) (by first | assumption | exact ⟨by decide, by decide⟩)).mono ?_; rintro e w' ⟨rfl, rfl⟩)
    | (go_at_call 6; refine (mul_any _ _ _ (by first | assumption | exact ⟨by decide, by decide⟩) (by first | assumption | exact ⟨by decide, by decide⟩)).mono ?_; rintro e w' ⟨rfl, rfl⟩)
    | (go_at_call 7; refine (div_any _ _ _ (by first | assumption | exact ⟨by decide, by decide⟩) (by first | assumption | exact ⟨by decide, by decide⟩)).mono ?_; rintro e w' ⟨rfl, n, rfl⟩)
    | fail)
    go_ret
    exact ⟨rfl, grown_drewN _ _⟩

set_option maxRecDepth 100000 in
theorem lifted (os : Os) (started : os.Started) (H : Type) (enc : TypeId × Value → H) :
    ReturnsInHanded {} Try.checked os 4 .any (Rows.fixOrdersSpec.pre6 enc Try.prog Try.f4 Rows.fixOrdersRow.domain false) (Rows.fixOrdersSpec.post enc Try.prog Try.f4 false true false false) := by
  refine returnsInHanded_of_change (C := Try.checked) own started (by kernel_rfl) Try.func4
    (ChangeSpec.witness6 (enc := enc) (C := Try.checked) false ⟨#[], #[.int .i64 0, .int .i64 0, .int .i64 0], []⟩ 8 (by kernel_rfl) (by kernel_rfl) (by kernel_rfl) (by kernel_rfl)) ?_
  intro W base args ds gs before hval0 hW hcnd _
  have hval : ∀ (j : Nat) t v, Try.f4.params[j]? = some t → args[j]? = some v → Value.okWide Try.prog W .any base t v := hval0
  have hW' := hW
  obtain ⟨p, q, hA0, hV, rfl, hfz, hnd⟩ := hW
  have hA : DataW.TrodAll enc Try.prog W 0 (fun _ => true) true Try.f4.params.toList args.toList ds p := hA0
  rw [Try.params4] at hA hval
  obtain ⟨v0, vs0, d0, ds0, p0, q0, hargs, rfl, rfl, h0, r0⟩ := trodAll_cons hA
  obtain ⟨v1, vs1, d1, ds1, p1, q1, rfl, rfl, rfl, h1, r1⟩ := trodAll_cons r0
  obtain ⟨v2, vs2, d2, ds2, p2, q2, rfl, rfl, rfl, h2, r2⟩ := trodAll_cons r1
  obtain ⟨rfl, rfl, rfl⟩ := trodAll_nil r2
  obtain rfl : args = #[v0, v1, v2] := by cases args; simp_all
  obtain ⟨rfl, rfl⟩ := trodVars_none hV
  obtain ⟨a0, rfl, rfl, rfl, w0⟩ := open_int Try.underlying22 (hval 0 22 v0 rfl rfl) h0
  obtain ⟨a1, rfl, rfl, rfl, w1⟩ := open_int Try.underlying22 (hval 1 22 v1 rfl rfl) h1
  obtain ⟨a2, rfl, rfl, rfl, w2⟩ := open_int Try.underlying22 (hval 2 22 v2 rfl rfl) h2
  clear hA0 hval0
  simp only [List.append_nil] at hW'
  refine (walk a0 a1 a2 w0 w1 w2 W).mono fun e W' ⟨he, hg⟩ => ?_
  subst he
  exact ⟨_, rfl, post_of_same (pa := []) (pv := []) hW' (fun _ _ _ => (trodAll_cons_mk (shut_bool Try.underlying4 _) trodAll_mk0)) (fun sp _ => (trodAll_cons_mk (shut_int Try.underlying22 w0) (trodAll_cons_mk (shut_int Try.underlying22 w1) (trodAll_cons_mk (shut_int Try.underlying22 w2) trodAll_mk0)))) (fun _ _ => rfl) rfl
    (hg.frame _) hg.2.1 (ok_one (by kernel_rfl) rfl (okWide_bool_mk Try.underlying4 _))⟩

theorem over : Rows.fixOrdersRow.holds Try.pinned (OpenSpec.ofChange Rows.fixOrdersSpec) :=
  OpenClaim.holds_of_wide 4 Try.f4 rfl rfl rfl rfl rfl rfl rfl ⟨rfl, rfl, rfl, rfl, rfl⟩ rfl rfl rfl rfl rfl (by kernel_rfl) Try.func4 (by kernel_rfl)
    (of_decide_eq_true (by kernel_rfl)) (by unfold Func.isWrapper; first | (rw [if_pos (by decide +kernel)]; kernel_rfl) | (rw [if_neg (by decide +kernel)]; exact ⟨rfl, rfl⟩))
    (fun os started H enc _ => lifted os started H enc)

theorem proved : Rows.FixOrdersSaid :=
  over
end Go.Proofs.Ytgemflldnplkbab.fixOrders

namespace Go.Proofs.Ytgemflldnplkbab
theorem fixOrders_holds : Rows.FixOrdersSaid := fixOrders.proved
end Go.Proofs.Ytgemflldnplkbab

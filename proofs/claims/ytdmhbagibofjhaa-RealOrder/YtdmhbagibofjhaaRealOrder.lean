/-
  Proved: maquettelaw2.RealOrder returns true for every three uint64s, and leaves what it was given as it was; no condition.
-/
import Derived.Test.YtdmhbagibofjhaaRows
import Derived.Test.YtdmhbagibofjhaaROrder
import Derived.WalkKit
import Derived.WalkSpells
import Derived.WalkLawsBesides
import Derived.ProofKit
import Derived.OpenShut
import Derived.ShutString
namespace Go.Proofs.Ytdmhbagibofjhaa.realOrder
open Go.ChangeShapes Go.WideShapes Go.ChangeAt Go.RowKit
open Go.ChangeMaps (open_string shut_string)
set_option linter.unusedVariables false

theorem own : ownKnob Try.prog.godebug = none := by kernel_rfl

theorem ordV_three (x y : Nat) : (ordV x y = -1 ∧ ordV y x = 1 ∧ key2 x < key2 y) ∨ (ordV x y = 0 ∧ ordV y x = 0 ∧ key2 x = key2 y) ∨ (ordV x y = 1 ∧ ordV y x = -1 ∧ key2 y < key2 x) := by
  unfold ordV
  generalize key2 x = a
  generalize key2 y = b
  rcases Int.lt_trichotomy a b with h | h | h
  · have : ¬ b < a := by omega
    simp [h, this]
  · subst h; simp
  · have : ¬ a < b := by omega
    simp [h, this]
theorem ordV_self (x : Nat) : ordV x x = 0 := by unfold ordV; simp
theorem ordV_lt {x y : Nat} (h : (FloatKind.f64.format.order x y == some .lt) = true) : ordV x y = -1 := by
  rcases Nat.lt_or_ge infR (rg x) with g | g
  · have h' : (Ieee.double.order x y == some .lt) = true := h
    rw [order_nan x y (Or.inl g)] at h'; cases h'
  rcases Nat.lt_or_ge infR (rg y) with k | k
  · have h' : (Ieee.double.order x y == some .lt) = true := h
    rw [order_nan x y (Or.inr k)] at h'; cases h'
  rw [lt_test x y g k] at h
  simp at h
  unfold ordV
  rw [if_pos]
  unfold key2
  unfold key at h
  have n1 : ¬ infR < rg x := by omega
  have n2 : ¬ infR < rg y := by omega
  simp only [n1, n2, if_false]
  cases hs : sg x <;> cases ht : sg y <;> rw [hs, ht] at h <;> simp at h ⊢ <;> omega
theorem ordV_eq {x y : Nat} (h : (FloatKind.f64.format.order x y == some .eq) = true) (h0 : (FloatKind.f64.format.order x 0 == some .eq) = false) : ordV x y = 0 := by
  rcases Nat.lt_or_ge infR (rg x) with g | g
  · have h' : (Ieee.double.order x y == some .eq) = true := h
    rw [order_nan x y (Or.inl g)] at h'; cases h'
  rcases Nat.lt_or_ge infR (rg y) with k | k
  · have h' : (Ieee.double.order x y == some .eq) = true := h
    rw [order_nan x y (Or.inr k)] at h'; cases h'
  rw [eq_test x y g k] at h
  have z : (FloatKind.f64.format.order x 0 == some .eq) = decide (rg x = 0) := zero_test x
  rw [z] at h0
  simp at h h0
  have e : key2 x = key2 y := by
    unfold key2
    unfold key at h
    have n1 : ¬ infR < rg x := by omega
    have n2 : ¬ infR < rg y := by omega
    simp only [n1, n2, if_false]
    cases hs : sg x <;> cases ht : sg y <;> rw [hs, ht] at h <;> simp at h ⊢ <;> omega
  unfold ordV
  rw [e]; simp
theorem walk (a0 : Int) (a1 : Int) (a2 : Int) (w0 : (Lit.int .u64 a0).wf = true) (w1 : (Lit.int .u64 a1).wf = true) (w2 : (Lit.int .u64 a2).wf = true) (w : World) :
    Calls Try.prog 5 #[.int .u64 a0, .int .u64 a1, .int .u64 a2] w fun e w' => e = .returned (.bool true) ∧ Grown w w' := by
  obtain ⟨X, rfl, hX⟩ := u64_nat w0
  obtain ⟨Y, rfl, hY⟩ := u64_nat w1
  obtain ⟨Z, rfl, hZ⟩ := u64_nat w2
  have c1 := fun n w => call_fromN n w
  have r0 := ordV_self X
  have q1 := ordV_lt (x := X) (y := Y)
  have q2 := ordV_eq (x := X) (y := Y)
  have three : ordV X Y ≤ 0 → ordV Y Z ≤ 0 → ordV X Z ≤ 0 := by
    have t1 := ordV_three X Y
    have t2 := ordV_three Y Z
    have t3 := ordV_three X Z
    omega
  have last : (ordV Y Z ≤ 0 ∧ ordV X Z ≤ 0) ∨ (0 < ordV Y Z) ∨ 0 < ordV X Y := by omega
  rcases ordV_three X Y with ⟨t1, t2, t3⟩ | ⟨t1, t2, t3⟩ | ⟨t1, t2, t3⟩
  · rw [t1] at q1 q2 last
    clear t3 three q1
    cases b2 : (FloatKind.f64.format.order X Y == some .eq)
    · cases b1 : (FloatKind.f64.format.order X Y == some .lt)
      all_goals
        clear q2
        rcases last with ⟨l1, l2⟩ | l1 | l1
        · go_enter Try.func5, Try.ntmps5
          go_wp2_with (first
    | (go_at_call 9; refine (alive_any _).mono ?_; rintro e w' ⟨rfl, rfl⟩)
    | (go_at_call 11; refine (get_any (K := K) _ (by first | assumption | decide) _).mono ?_; rintro e w' ⟨rfl, rfl⟩)
    | (go_at_call 17; refine (class_any _ (by first | assumption | decide) _).mono ?_; rintro e w' ⟨rfl, rfl⟩)
    | (go_at_call 19; refine (order_any _ _ (by first | assumption | decide) (by first | assumption | decide) _).mono ?_; rintro e w' ⟨rfl, rfl⟩)
    | (go_at_call 21; refine (same_any _ _ _).mono ?_; rintro e w' ⟨rfl, rfl⟩)
    | (go_at_call 27; refine (isNaN_any _ _).mono ?_; rintro e w' ⟨rfl, rfl⟩)
    | (go_at_call 23; refine (isAny_any _ _ (by decide) (by first | assumption | decide) _).mono ?_; rintro e w' ⟨rfl, rfl⟩)
    | (go_at_call 22; refine (abs_any _ (by first | assumption | decide) _).mono ?_; rintro e w' ⟨rfl, rfl⟩)
    | (go_at_call 26; refine (copysign_any _ _ (by first | assumption | decide) (by first | assumption | decide) _).mono ?_; rintro e w' ⟨rfl, rfl⟩)
    | fail)
          all_goals (go_ret; first | exact ⟨rfl, Grown.refl _⟩ | exact ⟨rfl, grown_drewN _ _⟩)
        · go_enter Try.func5, Try.ntmps5
          go_wp2_with (first
    | (go_at_call 9; refine (alive_any _).mono ?_; rintro e w' ⟨rfl, rfl⟩)
    | (go_at_call 11; refine (get_any (K := K) _ (by first | assumption | decide) _).mono ?_; rintro e w' ⟨rfl, rfl⟩)
    | (go_at_call 17; refine (class_any _ (by first | assumption | decide) _).mono ?_; rintro e w' ⟨rfl, rfl⟩)
    | (go_at_call 19; refine (order_any _ _ (by first | assumption | decide) (by first | assumption | decide) _).mono ?_; rintro e w' ⟨rfl, rfl⟩)
    | (go_at_call 21; refine (same_any _ _ _).mono ?_; rintro e w' ⟨rfl, rfl⟩)
    | (go_at_call 27; refine (isNaN_any _ _).mono ?_; rintro e w' ⟨rfl, rfl⟩)
    | (go_at_call 23; refine (isAny_any _ _ (by decide) (by first | assumption | decide) _).mono ?_; rintro e w' ⟨rfl, rfl⟩)
    | (go_at_call 22; refine (abs_any _ (by first | assumption | decide) _).mono ?_; rintro e w' ⟨rfl, rfl⟩)
    | (go_at_call 26; refine (copysign_any _ _ (by first | assumption | decide) (by first | assumption | decide) _).mono ?_; rintro e w' ⟨rfl, rfl⟩)
    | fail)
          all_goals (go_ret; first | exact ⟨rfl, Grown.refl _⟩ | exact ⟨rfl, grown_drewN _ _⟩)
        · exact absurd l1 (by decide)
    · have b3 : (FloatKind.f64.format.order X 0 == some .eq) = true := by
        cases b : (FloatKind.f64.format.order X 0 == some .eq)
        · have := q2 b2 b; cases this
        · rfl
      have b4 : (FloatKind.f64.format.order X 0 != some .eq) = false := by rw [bne, b3]; rfl
      cases b1 : (FloatKind.f64.format.order X Y == some .lt)
      all_goals
        clear q2
        rcases last with ⟨l1, l2⟩ | l1 | l1
        · go_enter Try.func5, Try.ntmps5
          go_wp2_with (first
    | (go_at_call 9; refine (alive_any _).mono ?_; rintro e w' ⟨rfl, rfl⟩)
    | (go_at_call 11; refine (get_any (K := K) _ (by first | assumption | decide) _).mono ?_; rintro e w' ⟨rfl, rfl⟩)
    | (go_at_call 17; refine (class_any _ (by first | assumption | decide) _).mono ?_; rintro e w' ⟨rfl, rfl⟩)
    | (go_at_call 19; refine (order_any _ _ (by first | assumption | decide) (by first | assumption | decide) _).mono ?_; rintro e w' ⟨rfl, rfl⟩)
    | (go_at_call 21; refine (same_any _ _ _).mono ?_; rintro e w' ⟨rfl, rfl⟩)
    | (go_at_call 27; refine (isNaN_any _ _).mono ?_; rintro e w' ⟨rfl, rfl⟩)
    | (go_at_call 23; refine (isAny_any _ _ (by decide) (by first | assumption | decide) _).mono ?_; rintro e w' ⟨rfl, rfl⟩)
    | (go_at_call 22; refine (abs_any _ (by first | assumption | decide) _).mono ?_; rintro e w' ⟨rfl, rfl⟩)
    | (go_at_call 26; refine (copysign_any _ _ (by first | assumption | decide) (by first | assumption | decide) _).mono ?_; rintro e w' ⟨rfl, rfl⟩)
    | fail)
          all_goals (go_ret; first | exact ⟨rfl, Grown.refl _⟩ | exact ⟨rfl, grown_drewN _ _⟩)
        · go_enter Try.func5, Try.ntmps5
          go_wp2_with (first
    | (go_at_call 9; refine (alive_any _).mono ?_; rintro e w' ⟨rfl, rfl⟩)
    | (go_at_call 11; refine (get_any (K := K) _ (by first | assumption | decide) _).mono ?_; rintro e w' ⟨rfl, rfl⟩)
    | (go_at_call 17; refine (class_any _ (by first | assumption | decide) _).mono ?_; rintro e w' ⟨rfl, rfl⟩)
    | (go_at_call 19; refine (order_any _ _ (by first | assumption | decide) (by first | assumption | decide) _).mono ?_; rintro e w' ⟨rfl, rfl⟩)
    | (go_at_call 21; refine (same_any _ _ _).mono ?_; rintro e w' ⟨rfl, rfl⟩)
    | (go_at_call 27; refine (isNaN_any _ _).mono ?_; rintro e w' ⟨rfl, rfl⟩)
    | (go_at_call 23; refine (isAny_any _ _ (by decide) (by first | assumption | decide) _).mono ?_; rintro e w' ⟨rfl, rfl⟩)
    | (go_at_call 22; refine (abs_any _ (by first | assumption | decide) _).mono ?_; rintro e w' ⟨rfl, rfl⟩)
    | (go_at_call 26; refine (copysign_any _ _ (by first | assumption | decide) (by first | assumption | decide) _).mono ?_; rintro e w' ⟨rfl, rfl⟩)
    | fail)
          all_goals (go_ret; first | exact ⟨rfl, Grown.refl _⟩ | exact ⟨rfl, grown_drewN _ _⟩)
        · exact absurd l1 (by decide)
  · rw [t1] at q1 last
    clear t3 three q2
    have b1 : (FloatKind.f64.format.order X Y == some .lt) = false := by
      cases b : (FloatKind.f64.format.order X Y == some .lt)
      · rfl
      · have := q1 b; cases this
    clear q1
    cases b2 : (FloatKind.f64.format.order X Y == some .eq) <;> cases b3 : (FloatKind.f64.format.order X 0 == some .eq)
    all_goals
      have b4 : (FloatKind.f64.format.order X 0 != some .eq) = !(FloatKind.f64.format.order X 0 == some .eq) := rfl
      rw [b3] at b4
      rcases last with ⟨l1, l2⟩ | l1 | l1
      · go_enter Try.func5, Try.ntmps5
        go_wp2_with (first
    | (go_at_call 9; refine (alive_any _).mono ?_; rintro e w' ⟨rfl, rfl⟩)
    | (go_at_call 11; refine (get_any (K := K) _ (by first | assumption | decide) _).mono ?_; rintro e w' ⟨rfl, rfl⟩)
    | (go_at_call 17; refine (class_any _ (by first | assumption | decide) _).mono ?_; rintro e w' ⟨rfl, rfl⟩)
    | (go_at_call 19; refine (order_any _ _ (by first | assumption | decide) (by first | assumption | decide) _).mono ?_; rintro e w' ⟨rfl, rfl⟩)
    | (go_at_call 21; refine (same_any _ _ _).mono ?_; rintro e w' ⟨rfl, rfl⟩)
    | (go_at_call 27; refine (isNaN_any _ _).mono ?_; rintro e w' ⟨rfl, rfl⟩)
    | (go_at_call 23; refine (isAny_any _ _ (by decide) (by first | assumption | decide) _).mono ?_; rintro e w' ⟨rfl, rfl⟩)
    | (go_at_call 22; refine (abs_any _ (by first | assumption | decide) _).mono ?_; rintro e w' ⟨rfl, rfl⟩)
    | (go_at_call 26; refine (copysign_any _ _ (by first | assumption | decide) (by first | assumption | decide) _).mono ?_; rintro e w' ⟨rfl, rfl⟩)
    | fail)
        all_goals (go_ret; first | exact ⟨rfl, Grown.refl _⟩ | exact ⟨rfl, grown_drewN _ _⟩)
      · go_enter Try.func5, Try.ntmps5
        go_wp2_with (first
    | (go_at_call 9; refine (alive_any _).mono ?_; rintro e w' ⟨rfl, rfl⟩)
    | (go_at_call 11; refine (get_any (K := K) _ (by first | assumption | decide) _).mono ?_; rintro e w' ⟨rfl, rfl⟩)
    | (go_at_call 17; refine (class_any _ (by first | assumption | decide) _).mono ?_; rintro e w' ⟨rfl, rfl⟩)
    | (go_at_call 19; refine (order_any _ _ (by first | assumption | decide) (by first | assumption | decide) _).mono ?_; rintro e w' ⟨rfl, rfl⟩)
    | (go_at_call 21; refine (same_any _ _ _).mono ?_; rintro e w' ⟨rfl, rfl⟩)
    | (go_at_call 27; refine (isNaN_any _ _).mono ?_; rintro e w' ⟨rfl, rfl⟩)
    | (go_at_call 23; refine (isAny_any _ _ (by decide) (by first | assumption | decide) _).mono ?_; rintro e w' ⟨rfl, rfl⟩)
    | (go_at_call 22; refine (abs_any _ (by first | assumption | decide) _).mono ?_; rintro e w' ⟨rfl, rfl⟩)
    | (go_at_call 26; refine (copysign_any _ _ (by first | assumption | decide) (by first | assumption | decide) _).mono ?_; rintro e w' ⟨rfl, rfl⟩)
    | fail)
        all_goals (go_ret; first | exact ⟨rfl, Grown.refl _⟩ | exact ⟨rfl, grown_drewN _ _⟩)
      · exact absurd l1 (by decide)
  · rw [t1] at q1 q2
    clear t3 three last
    have b1 : (FloatKind.f64.format.order X Y == some .lt) = false := by
      cases b : (FloatKind.f64.format.order X Y == some .lt)
      · rfl
      · have := q1 b; cases this
    clear q1
    cases b2 : (FloatKind.f64.format.order X Y == some .eq)
    · clear q2
      go_enter Try.func5, Try.ntmps5
      go_wp2_with (first
    | (go_at_call 9; refine (alive_any _).mono ?_; rintro e w' ⟨rfl, rfl⟩)
    | (go_at_call 11; refine (get_any (K := K) _ (by first | assumption | decide) _).mono ?_; rintro e w' ⟨rfl, rfl⟩)
    | (go_at_call 17; refine (class_any _ (by first | assumption | decide) _).mono ?_; rintro e w' ⟨rfl, rfl⟩)
    | (go_at_call 19; refine (order_any _ _ (by first | assumption | decide) (by first | assumption | decide) _).mono ?_; rintro e w' ⟨rfl, rfl⟩)
    | (go_at_call 21; refine (same_any _ _ _).mono ?_; rintro e w' ⟨rfl, rfl⟩)
    | (go_at_call 27; refine (isNaN_any _ _).mono ?_; rintro e w' ⟨rfl, rfl⟩)
    | (go_at_call 23; refine (isAny_any _ _ (by decide) (by first | assumption | decide) _).mono ?_; rintro e w' ⟨rfl, rfl⟩)
    | (go_at_call 22; refine (abs_any _ (by first | assumption | decide) _).mono ?_; rintro e w' ⟨rfl, rfl⟩)
    | (go_at_call 26; refine (copysign_any _ _ (by first | assumption | decide) (by first | assumption | decide) _).mono ?_; rintro e w' ⟨rfl, rfl⟩)
    | fail)
      all_goals (go_ret; first | exact ⟨rfl, Grown.refl _⟩ | exact ⟨rfl, grown_drewN _ _⟩)
    · have b3 : (FloatKind.f64.format.order X 0 == some .eq) = true := by
        cases b : (FloatKind.f64.format.order X 0 == some .eq)
        · have := q2 b2 b; cases this
        · rfl
      have b4 : (FloatKind.f64.format.order X 0 != some .eq) = false := by rw [bne, b3]; rfl
      clear q2
      go_enter Try.func5, Try.ntmps5
      go_wp2_with (first
    | (go_at_call 9; refine (alive_any _).mono ?_; rintro e w' ⟨rfl, rfl⟩)
    | (go_at_call 11; refine (get_any (K := K) _ (by first | assumption | decide) _).mono ?_; rintro e w' ⟨rfl, rfl⟩)
    | (go_at_call 17; refine (class_any _ (by first | assumption | decide) _).mono ?_; rintro e w' ⟨rfl, rfl⟩)
    | (go_at_call 19; refine (order_any _ _ (by first | assumption | decide) (by first | assumption | decide) _).mono ?_; rintro e w' ⟨rfl, rfl⟩)
    | (go_at_call 21; refine (same_any _ _ _).mono ?_; rintro e w' ⟨rfl, rfl⟩)
    | (go_at_call 27; refine (isNaN_any _ _).mono ?_; rintro e w' ⟨rfl, rfl⟩)
    | (go_at_call 23; refine (isAny_any _ _ (by decide) (by first | assumption | decide) _).mono ?_; rintro e w' ⟨rfl, rfl⟩)
    | (go_at_call 22; refine (abs_any _ (by first | assumption | decide) _).mono ?_; rintro e w' ⟨rfl, rfl⟩)
    | (go_at_call 26; refine (copysign_any _ _ (by first | assumption | decide) (by first | assumption | decide) _).mono ?_; rintro e w' ⟨rfl, rfl⟩)
    | fail)
      all_goals (go_ret; first | exact ⟨rfl, Grown.refl _⟩ | exact ⟨rfl, grown_drewN _ _⟩)

set_option maxRecDepth 100000 in
theorem lifted (os : Os) (started : os.Started) (H : Type) (enc : TypeId × Value → H) :
    ReturnsInHanded {} Try.checked os 5 .any (Rows.realOrderSpec.pre6 enc Try.prog Try.f5 Rows.realOrderRow.domain false) (Rows.realOrderSpec.post enc Try.prog Try.f5 false true false false) := by
  refine returnsInHanded_of_change (C := Try.checked) own started (by kernel_rfl) Try.func5
    (ChangeSpec.witness6 (enc := enc) (C := Try.checked) false ⟨#[], #[.int .u64 0, .int .u64 0, .int .u64 0], []⟩ 8 (by kernel_rfl) (by kernel_rfl) (by kernel_rfl) (by kernel_rfl)) ?_
  intro W base args ds gs before hval0 hW hcnd _
  have hval : ∀ (j : Nat) t v, Try.f5.params[j]? = some t → args[j]? = some v → Value.okWide Try.prog W .any base t v := hval0
  have hW' := hW
  obtain ⟨p, q, hA0, hV, rfl, hfz, hnd⟩ := hW
  have hA : DataW.TrodAll enc Try.prog W 0 (fun _ => true) true Try.f5.params.toList args.toList ds p := hA0
  rw [Try.params5] at hA hval
  obtain ⟨v0, vs0, d0, ds0, p0, q0, hargs, rfl, rfl, h0, r0⟩ := trodAll_cons hA
  obtain ⟨v1, vs1, d1, ds1, p1, q1, rfl, rfl, rfl, h1, r1⟩ := trodAll_cons r0
  obtain ⟨v2, vs2, d2, ds2, p2, q2, rfl, rfl, rfl, h2, r2⟩ := trodAll_cons r1
  obtain ⟨rfl, rfl, rfl⟩ := trodAll_nil r2
  obtain rfl : args = #[v0, v1, v2] := by cases args; simp_all
  obtain ⟨rfl, rfl⟩ := trodVars_none hV
  obtain ⟨a0, rfl, rfl, rfl, w0⟩ := open_int Try.underlying22 (hval 0 22 v0 rfl rfl) h0
  obtain ⟨a1, rfl, rfl, rfl, w1⟩ := open_int Try.underlying22 (hval 1 22 v1 rfl rfl) h1
  obtain ⟨a2, rfl, rfl, rfl, w2⟩ := open_int Try.underlying22 (hval 2 22 v2 rfl rfl) h2
  clear hA0 hval0
  simp only [List.append_nil] at hW'
  refine (walk a0 a1 a2 w0 w1 w2 W).mono fun e W' ⟨he, hg⟩ => ?_
  subst he
  exact ⟨_, rfl, post_of_same (pa := []) (pv := []) hW' (fun _ _ _ => (trodAll_cons_mk (shut_bool Try.underlying4 _) trodAll_mk0)) (fun sp _ => (trodAll_cons_mk (shut_int Try.underlying22 w0) (trodAll_cons_mk (shut_int Try.underlying22 w1) (trodAll_cons_mk (shut_int Try.underlying22 w2) trodAll_mk0)))) (fun _ _ => rfl) rfl
    (hg.frame _) hg.2.1 (ok_one (by kernel_rfl) rfl (okWide_bool_mk Try.underlying4 _))⟩

theorem over : Rows.realOrderRow.holds Try.pinned (OpenSpec.ofChange Rows.realOrderSpec) :=
  OpenClaim.holds_of_wide 5 Try.f5 rfl rfl rfl rfl rfl rfl rfl ⟨rfl, rfl, rfl, rfl, rfl⟩ rfl rfl rfl rfl rfl (by kernel_rfl) Try.func5 (by kernel_rfl)
    (of_decide_eq_true (by kernel_rfl)) (by unfold Func.isWrapper; first | (rw [if_pos (by decide +kernel)]; kernel_rfl) | (rw [if_neg (by decide +kernel)]; exact ⟨rfl, rfl⟩))
    (fun os started H enc _ => lifted os started H enc)

theorem proved : Rows.RealOrderSaid :=
  over
end Go.Proofs.Ytdmhbagibofjhaa.realOrder

namespace Go.Proofs.Ytdmhbagibofjhaa
theorem realOrder_holds : Rows.RealOrderSaid := realOrder.proved
end Go.Proofs.Ytdmhbagibofjhaa

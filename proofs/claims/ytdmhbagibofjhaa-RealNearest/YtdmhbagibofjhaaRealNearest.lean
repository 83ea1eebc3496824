/-
  Proved: maquettelaw2.RealNearest returns true for every uint64, and leaves what it was given as it was; no condition.
-/
import Derived.Test.YtdmhbagibofjhaaRows
import Derived.Test.YtdmhbagibofjhaaRArith
import Derived.WalkKit
import Derived.WalkSpells
import Derived.WalkLawsBesides
import Derived.ProofKit
import Derived.OpenShut
import Derived.ShutString
namespace Go.Proofs.Ytdmhbagibofjhaa.realNearest
open Go.ChangeShapes Go.WideShapes Go.ChangeAt Go.RowKit
open Go.ChangeMaps (open_string shut_string)
set_option linter.unusedVariables false

theorem own : ownKnob Try.prog.godebug = none := by kernel_rfl

/-- What is left is told exactly. -/
theorem rest_rep (K : Ks) (r1 N : Nat) (hN : N = rne (V r1) (2 ^ K.u)) : ∃ r, V r = ((V r1 : Int) - ((N * 2 ^ K.u : Nat) : Int)).natAbs ∧ r < infR ∧ (2 * V r < 2 ^ K.u ∨ (2 * V r = 2 ^ K.u ∧ N % 2 = 0)) := by
  obtain ⟨g1, g2, g3⟩ := rne_spec (V r1) (2 ^ K.u) (p_pos _)
  rw [← hN] at g1 g2 g3
  have e1 : (2 * N + 1) * 2 ^ K.u = 2 * (N * 2 ^ K.u) + 2 ^ K.u := by grind
  have e2 : 2 * N * 2 ^ K.u = 2 * (N * 2 ^ K.u) := by grind
  rw [e1] at g1 g3
  rw [e2] at g2 g3
  have last : ∀ r, V r = ((V r1 : Int) - ((N * 2 ^ K.u : Nat) : Int)).natAbs → (2 * V r < 2 ^ K.u ∨ (2 * V r = 2 ^ K.u ∧ N % 2 = 0)) := by
    intro r hr
    generalize N * 2 ^ K.u = A at *
    generalize V r1 = B at *
    generalize 2 ^ K.u = C at *
    rcases Nat.lt_or_ge (2 * V r) C with h | h
    · exact Or.inl h
    · have : 2 * V r = C := by omega
      exact Or.inr ⟨this, g3 (by omega)⟩
  rcases Nat.le_total K.u (up r1) with g | g
  · have hm : V r1 = mg r1 * 2 ^ (up r1 - K.u) * 2 ^ K.u := by unfold V; rw [Nat.mul_assoc, ← Nat.pow_add]; congr 2; omega
    have hN2 : N = mg r1 * 2 ^ (up r1 - K.u) := by rw [hN, hm]; exact rne_exact _ _ (p_pos _)
    have h0 : V 0 = ((V r1 : Int) - ((N * 2 ^ K.u : Nat) : Int)).natAbs := by
      rw [V_zero, hm, hN2]; omega
    exact ⟨0, h0, by decide, last 0 h0⟩
  · obtain ⟨k, hk⟩ : ∃ k, K.u = k + up r1 := ⟨K.u - up r1, by omega⟩
    have e3 : N * 2 ^ K.u = N * 2 ^ k * 2 ^ up r1 := by rw [hk, Nat.pow_add, Nat.mul_assoc]
    have e4 : ((V r1 : Int) - ((N * 2 ^ K.u : Nat) : Int)).natAbs = ((mg r1 : Int) - ((N * 2 ^ k : Nat) : Int)).natAbs * 2 ^ up r1 := by
      rw [e3, ← scaled, Int.sub_mul, ← Int.natCast_mul, ← Int.natCast_mul]; rfl
    have hmg := mg_lt r1
    have hu := K.u_eq
    have hb : ((mg r1 : Int) - ((N * 2 ^ k : Nat) : Int)).natAbs ≤ 9007199254740992 := by
      by_cases hz : N = 0
      · subst hz; omega
      · have hp := p_pos (up r1)
        have hV : V r1 = mg r1 * 2 ^ up r1 := rfl
        have hs : 2 ^ K.u = 2 ^ k * 2 ^ up r1 := by rw [hk, Nat.pow_add]
        rw [e3, hV, hs] at g2 g1
        have c1 : N * 2 ^ k * 2 ^ up r1 * 2 ≤ (2 * mg r1 + 2 ^ k) * 2 ^ up r1 := by
          have : (2 * mg r1 + 2 ^ k) * 2 ^ up r1 = 2 * (mg r1 * 2 ^ up r1) + 2 ^ k * 2 ^ up r1 := by grind
          rw [this]; omega
        have c2 : N * 2 ^ k * 2 ≤ 2 * mg r1 + 2 ^ k := by
          have : N * 2 ^ k * 2 * 2 ^ up r1 = N * 2 ^ k * 2 ^ up r1 * 2 := by grind
          rw [← this] at c1
          exact Nat.le_of_mul_le_mul_right c1 hp
        have c3 : 2 * mg r1 ≤ N * 2 ^ k * 2 + 2 ^ k := by
          have : (N * 2 ^ k * 2 + 2 ^ k) * 2 ^ up r1 = 2 * (N * 2 ^ k * 2 ^ up r1) + 2 ^ k * 2 ^ up r1 := by grind
          have c : 2 * mg r1 * 2 ^ up r1 ≤ (N * 2 ^ k * 2 + 2 ^ k) * 2 ^ up r1 := by
            rw [this]
            have : 2 * mg r1 * 2 ^ up r1 = 2 * (mg r1 * 2 ^ up r1) := by grind
            omega
          exact Nat.le_of_mul_le_mul_right c hp
        have c4 : 2 ^ k ≤ N * 2 ^ k := Nat.le_mul_of_pos_left _ (by omega)
        omega
    obtain ⟨r, hr⟩ := rep' _ (up r1) hb
    have hr2 := hr.trans e4.symm
    exact ⟨r, hr2, lt_inf hr hb (by omega), last r hr2⟩
theorem near (K : Ks) (X : Nat) (hX : rg X < infR) (hs : rg X ≤ 4697254411347427328) (n : Int) (hn : gR K X = (n, 0)) :
    ∃ x1 d, Ieee.double.mul X 4751297606875873280 = some x1 ∧ Ieee.double.sub x1 (floatOfInt .f64 n) = some d ∧ d < 18446744073709551616 ∧ ((FloatKind.f64.format.order (rg d) 4602678819172646912 == some .lt) = true ∨ ((FloatKind.f64.format.order (rg d) 4602678819172646912 == some .lt) = false ∧ (FloatKind.f64.format.order (rg d) 4602678819172646912 == some .eq) = true ∧ n % 2 = 0)) := by
  have hl := infR_lt
  have hu := K.u_eq
  obtain ⟨r1, q1⟩ := rep (mg (rg X)) (up (rg X) + 32) (mg_lt _)
  have q2 : V r1 = V (rg X) * 2 ^ 32 := by rw [q1]; unfold V; rw [Nat.pow_add, Nat.mul_assoc]
  have v20 : V 4697254411347427328 = 1048576 * 2 ^ K.u := V_up 4503599627370496 1042 _ _ 32 _ (by decide) (by decide) (by decide) (by decide) (by omega)
  have b1 : V r1 ≤ 4503599627370496 * 2 ^ K.u := by
    have := V_le hs
    rw [v20] at this
    rw [q2]
    have e : 4503599627370496 * 2 ^ K.u = 1048576 * 2 ^ K.u * 2 ^ 32 := by
      rw [Nat.mul_right_comm, show 1048576 * 2 ^ 32 = 4503599627370496 by decide]
    rw [e]
    exact Nat.mul_le_mul_right _ this
  have i1 : r1 < infR := by
    obtain ⟨r52, z⟩ := rep 4503599627370496 K.u (by decide)
    have a := lt_inf z (by decide) (by omega)
    rw [← z] at b1
    have := V_lt_iff r52 r1
    omega
  have hm := mul_unit X hX r1 q2
  rw [Nat.min_eq_left (Nat.le_of_lt i1)] at hm
  have hN := gN_unit (K := K) (rg X) r1 q2
  generalize hN' : gN K (rg X) = N at *
  have b2 : N ≤ 4503599627370496 := by rw [← hN]; exact rne_le (p_pos _) b1
  have en : n = if sg X = true then -(N : Int) else (N : Int) := by
    rw [gR_num hX, hN'] at hn
    rcases sgR_cases (sg X) (N : Int) with ⟨c1, c2, c3⟩ | ⟨c1, c2, c3⟩ | ⟨c1, c2, c3⟩
    · rw [c3] at hn; rw [c1]; exact (congrArg Prod.fst hn).symm
    · rw [c3] at hn; rw [c1]; exact (congrArg Prod.fst hn).symm
    · rw [c3] at hn; have := congrArg Prod.snd hn; cases this
  have n1 : n.natAbs = N := by rw [en]; split <;> omega
  obtain ⟨j1, j2⟩ := int_float (K := K) n (by omega)
  obtain ⟨r, k1, k2, k3⟩ := rest_rep K r1 N hN.symm
  have es : (sV (wd (sg X) r1) - sV (floatOfInt .f64 n)).natAbs = V r := by
    rw [sV_wd _ i1, j2, k1, en]
    cases sg X
    · simp only [Bool.false_eq_true, if_false]
      rw [Int.natCast_mul]
    · simp only [if_true]
      rw [Int.natCast_mul, Int.neg_mul]
      generalize (N : Int) * ((2 ^ K.u : Nat) : Int) = A
      generalize (V r1 : Int) = B
      omega
  have hsub := sub_exact (wd (sg X) r1) (floatOfInt .f64 n) (inf_wd _ i1) j1 r es
  rw [Nat.min_eq_left (Nat.le_of_lt k2)] at hsub
  refine ⟨_, _, hm, hsub, lt_wd _ k2, ?_⟩
  rw [rg_wd _ (by omega)]
  have v5 : 2 * V 4602678819172646912 = 2 ^ K.u := by
    obtain ⟨k, hk⟩ : ∃ k, K.u = k + 1 := ⟨K.u - 1, by omega⟩
    have : V 4602678819172646912 = 1 * 2 ^ k := V_up 4503599627370496 1021 _ _ 52 _ (by decide) (by decide) (by decide) (by decide) (by omega)
    rw [this, hk, Nat.pow_succ]; omega
  have er : rg r = r := by unfold rg; omega
  have sr : sg r = false := by
    unfold sg
    have : r / 9223372036854775808 = 0 := by omega
    rw [this]; rfl
  have kr : key r = (r : Int) := by unfold key; rw [sr, er]; rfl
  have t1 := lt_test r 4602678819172646912 (by omega) (by decide)
  have t2 := eq_test r 4602678819172646912 (by omega) (by decide)
  rw [kr, show key 4602678819172646912 = 4602678819172646912 by decide] at t1 t2
  rcases k3 with k3 | ⟨k3, k4⟩
  · have : r < 4602678819172646912 := by rw [← V_lt_iff]; omega
    exact Or.inl (t1.trans (by simp; omega))
  · have : r = 4602678819172646912 := V_inj (by omega)
    exact Or.inr ⟨t1.trans (by simp; omega), t2.trans (by simp; omega), by omega⟩
theorem bounds20 (X : Nat) (hX : rg X < infR) (h1 : (FloatKind.f64.format.order X 4697254411347427328 == some .gt) = false) (h2 : (FloatKind.f64.format.order X 13920626448202203136 == some .lt) = false) : rg X ≤ 4697254411347427328 := by
  rw [gt_test X _ (by omega) (by decide), show key 4697254411347427328 = 4697254411347427328 by decide] at h1
  rw [lt_test X _ (by omega) (by decide), show key 13920626448202203136 = -4697254411347427328 by decide] at h2
  simp at h1 h2
  unfold key at h1 h2
  cases hs : sg X <;> rw [hs] at h1 h2 <;> simp at h1 h2 <;> omega
theorem walk (a0 : Int) (w0 : (Lit.int .u64 a0).wf = true) (w : World) :
    Calls Try.prog 6 #[.int .u64 a0] w fun e w' => e = .returned (.bool true) ∧ Grown w w' := by
  obtain ⟨K⟩ : Nonempty Ks := ⟨⟨1042, 1074, rfl, rfl⟩⟩
  have p3 := True.intro
  have q3 := True.intro
  obtain ⟨X, rfl, hX⟩ := u64_nat w0
  have c1 := fun n w => call_fromN n w
  obtain ⟨⟨n, e⟩, hn⟩ : ∃ q, gR K X = q := ⟨_, rfl⟩
  by_cases he : e = 0
  · subst he
    have hx : rg X < infR := by
      rcases Nat.lt_or_ge (rg X) infR with g | g
      · exact g
      · unfold gR at hn
        by_cases k : infR < rg X
        · rw [if_pos k] at hn; have := congrArg Prod.snd hn; cases this
        · rw [if_neg k, if_pos (by omega)] at hn; have := congrArg Prod.snd hn; cases this
    have lo := low_bit n
    cases h1 : (FloatKind.f64.format.order X 4697254411347427328 == some .gt)
    · cases h2 : (FloatKind.f64.format.order X 13920626448202203136 == some .lt)
      · obtain ⟨x1, d, d1, d2, d3, d4⟩ := near K X hx (bounds20 X hx h1 h2) n hn
        have m1 : ∀ t w, (binOp .mul t (.float .f64 X) (.float .f64 4751297606875873280)).run Try.prog w = .ok (.float .f64 x1) w := fun t w => run_float_arith w .mul t .f64 _ _ _ d1
        have m2 : ∀ t w, (binOp .sub t (.float .f64 x1) (.float .f64 (floatOfInt .f64 n))).run Try.prog w = .ok (.float .f64 d) w := fun t w => run_float_arith w .sub t .f64 _ _ _ d2
        clear d1 d2 hx
        rcases d4 with d4 | ⟨d4, d5, d6⟩
        · go_enter Try.func6, Try.ntmps6
          go_wp2_with (first
    | (go_at_call 9; refine (alive_any _).mono ?_; rintro e w' ⟨rfl, rfl⟩)
    | (go_at_call 16; refine (put_at _ _ (by first | exact p3 | exact q3) _).mono ?_; rintro e w' ⟨rfl, rfl⟩)
    | (go_at_call 11; refine (get_any (K := K) _ (by first | assumption | decide) _).mono ?_; rintro e w' ⟨rfl, rfl⟩)
    | (go_at_call 17; refine (class_any _ (by first | assumption | decide) _).mono ?_; rintro e w' ⟨rfl, rfl⟩)
    | (go_at_call 27; refine (isNaN_any _ _).mono ?_; rintro e w' ⟨rfl, rfl⟩)
    | (go_at_call 23; refine (isAny_any _ _ (by decide) (by first | assumption | decide) _).mono ?_; rintro e w' ⟨rfl, rfl⟩)
    | (go_at_call 22; refine (abs_any _ (by first | assumption | decide) _).mono ?_; rintro e w' ⟨rfl, rfl⟩)
    | fail)
          all_goals (go_ret; exact ⟨rfl, Grown.refl _⟩)
        · rw [d6] at lo
          go_enter Try.func6, Try.ntmps6
          go_wp2_with (first
    | (go_at_call 9; refine (alive_any _).mono ?_; rintro e w' ⟨rfl, rfl⟩)
    | (go_at_call 16; refine (put_at _ _ (by first | exact p3 | exact q3) _).mono ?_; rintro e w' ⟨rfl, rfl⟩)
    | (go_at_call 11; refine (get_any (K := K) _ (by first | assumption | decide) _).mono ?_; rintro e w' ⟨rfl, rfl⟩)
    | (go_at_call 17; refine (class_any _ (by first | assumption | decide) _).mono ?_; rintro e w' ⟨rfl, rfl⟩)
    | (go_at_call 27; refine (isNaN_any _ _).mono ?_; rintro e w' ⟨rfl, rfl⟩)
    | (go_at_call 23; refine (isAny_any _ _ (by decide) (by first | assumption | decide) _).mono ?_; rintro e w' ⟨rfl, rfl⟩)
    | (go_at_call 22; refine (abs_any _ (by first | assumption | decide) _).mono ?_; rintro e w' ⟨rfl, rfl⟩)
    | fail)
          all_goals (go_ret; exact ⟨rfl, Grown.refl _⟩)
      · go_enter Try.func6, Try.ntmps6
        go_wp2_with (first
    | (go_at_call 9; refine (alive_any _).mono ?_; rintro e w' ⟨rfl, rfl⟩)
    | (go_at_call 16; refine (put_at _ _ (by first | exact p3 | exact q3) _).mono ?_; rintro e w' ⟨rfl, rfl⟩)
    | (go_at_call 11; refine (get_any (K := K) _ (by first | assumption | decide) _).mono ?_; rintro e w' ⟨rfl, rfl⟩)
    | (go_at_call 17; refine (class_any _ (by first | assumption | decide) _).mono ?_; rintro e w' ⟨rfl, rfl⟩)
    | (go_at_call 27; refine (isNaN_any _ _).mono ?_; rintro e w' ⟨rfl, rfl⟩)
    | (go_at_call 23; refine (isAny_any _ _ (by decide) (by first | assumption | decide) _).mono ?_; rintro e w' ⟨rfl, rfl⟩)
    | (go_at_call 22; refine (abs_any _ (by first | assumption | decide) _).mono ?_; rintro e w' ⟨rfl, rfl⟩)
    | fail)
        all_goals (go_ret; exact ⟨rfl, Grown.refl _⟩)
    · go_enter Try.func6, Try.ntmps6
      go_wp2_with (first
    | (go_at_call 9; refine (alive_any _).mono ?_; rintro e w' ⟨rfl, rfl⟩)
    | (go_at_call 16; refine (put_at _ _ (by first | exact p3 | exact q3) _).mono ?_; rintro e w' ⟨rfl, rfl⟩)
    | (go_at_call 11; refine (get_any (K := K) _ (by first | assumption | decide) _).mono ?_; rintro e w' ⟨rfl, rfl⟩)
    | (go_at_call 17; refine (class_any _ (by first | assumption | decide) _).mono ?_; rintro e w' ⟨rfl, rfl⟩)
    | (go_at_call 27; refine (isNaN_any _ _).mono ?_; rintro e w' ⟨rfl, rfl⟩)
    | (go_at_call 23; refine (isAny_any _ _ (by decide) (by first | assumption | decide) _).mono ?_; rintro e w' ⟨rfl, rfl⟩)
    | (go_at_call 22; refine (abs_any _ (by first | assumption | decide) _).mono ?_; rintro e w' ⟨rfl, rfl⟩)
    | fail)
      all_goals (go_ret; exact ⟨rfl, Grown.refl _⟩)
  · go_enter Try.func6, Try.ntmps6
    go_wp2_with (first
    | (go_at_call 9; refine (alive_any _).mono ?_; rintro e w' ⟨rfl, rfl⟩)
    | (go_at_call 16; refine (put_at _ _ (by first | exact p3 | exact q3) _).mono ?_; rintro e w' ⟨rfl, rfl⟩)
    | (go_at_call 11; refine (get_any (K := K) _ (by first | assumption | decide) _).mono ?_; rintro e w' ⟨rfl, rfl⟩)
    | (go_at_call 17; refine (class_any _ (by first | assumption | decide) _).mono ?_; rintro e w' ⟨rfl, rfl⟩)
    | (go_at_call 27; refine (isNaN_any _ _).mono ?_; rintro e w' ⟨rfl, rfl⟩)
    | (go_at_call 23; refine (isAny_any _ _ (by decide) (by first | assumption | decide) _).mono ?_; rintro e w' ⟨rfl, rfl⟩)
    | (go_at_call 22; refine (abs_any _ (by first | assumption | decide) _).mono ?_; rintro e w' ⟨rfl, rfl⟩)
    | fail)
    all_goals (go_ret; exact ⟨rfl, Grown.refl _⟩)

set_option maxRecDepth 100000 in
theorem lifted (os : Os) (started : os.Started) (H : Type) (enc : TypeId × Value → H) :
    ReturnsInHanded {} Try.checked os 6 .any (Rows.realNearestSpec.pre6 enc Try.prog Try.f6 Rows.realNearestRow.domain false) (Rows.realNearestSpec.post enc Try.prog Try.f6 false true false false) := by
  refine returnsInHanded_of_change (C := Try.checked) own started (by kernel_rfl) Try.func6
    (ChangeSpec.witness6 (enc := enc) (C := Try.checked) false ⟨#[], #[.int .u64 0], []⟩ 8 (by kernel_rfl) (by kernel_rfl) (by kernel_rfl) (by kernel_rfl)) ?_
  intro W base args ds gs before hval0 hW hcnd _
  have hval : ∀ (j : Nat) t v, Try.f6.params[j]? = some t → args[j]? = some v → Value.okWide Try.prog W .any base t v := hval0
  have hW' := hW
  obtain ⟨p, q, hA0, hV, rfl, hfz, hnd⟩ := hW
  have hA : DataW.TrodAll enc Try.prog W 0 (fun _ => true) true Try.f6.params.toList args.toList ds p := hA0
  rw [Try.params6] at hA hval
  obtain ⟨v0, vs0, d0, ds0, p0, q0, hargs, rfl, rfl, h0, r0⟩ := trodAll_cons hA
  obtain ⟨rfl, rfl, rfl⟩ := trodAll_nil r0
  obtain rfl : args = #[v0] := by cases args; simp_all
  obtain ⟨rfl, rfl⟩ := trodVars_none hV
  obtain ⟨a0, rfl, rfl, rfl, w0⟩ := open_int Try.underlying22 (hval 0 22 v0 rfl rfl) h0
  clear hA0 hval0
  simp only [List.append_nil] at hW'
  refine (walk a0 w0 W).mono fun e W' ⟨he, hg⟩ => ?_
  subst he
  exact ⟨_, rfl, post_of_same (pa := []) (pv := []) hW' (fun _ _ _ => (trodAll_cons_mk (shut_bool Try.underlying4 _) trodAll_mk0)) (fun sp _ => (trodAll_cons_mk (shut_int Try.underlying22 w0) trodAll_mk0)) (fun _ _ => rfl) rfl
    (hg.frame _) hg.2.1 (ok_one (by kernel_rfl) rfl (okWide_bool_mk Try.underlying4 _))⟩

theorem over : Rows.realNearestRow.holds Try.pinned (OpenSpec.ofChange Rows.realNearestSpec) :=
  OpenClaim.holds_of_wide 6 Try.f6 rfl rfl rfl rfl rfl rfl rfl ⟨rfl, rfl, rfl, rfl, rfl⟩ rfl rfl rfl rfl rfl (by kernel_rfl) Try.func6 (by kernel_rfl)
    (of_decide_eq_true (by kernel_rfl)) (by unfold Func.isWrapper; first | (rw [if_pos (by decide +kernel)]; kernel_rfl) | (rw [if_neg (by decide +kernel)]; exact ⟨rfl, rfl⟩))
    (fun os started H enc _ => lifted os started H enc)

theorem proved : Rows.RealNearestSaid :=
  over
end Go.Proofs.Ytdmhbagibofjhaa.realNearest

namespace Go.Proofs.Ytdmhbagibofjhaa
theorem realNearest_holds : Rows.RealNearestSaid := realNearest.proved
end Go.Proofs.Ytdmhbagibofjhaa

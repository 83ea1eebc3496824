/-
  Proved: maquettelaw6.VecShares returns true for every place a and every int n (shared by n, n times that is the place, but for less than n; shared by -n signs turn), and leaves what it was given as it was; no condition.
-/
import Derived.Test.YtfidjlagfnbknaaRows
import Derived.Test.YtfidjlagfnbknaaVAlive
import Derived.Test.YtfidjlagfnbknaaVData
import Derived.WalkKit
import Derived.Deep.QuietTactic
import Derived.BigQuiet
import Derived.WalkSpells
import Derived.WalkLawsBesides
import Derived.ProofKit
import Derived.OpenShut
namespace Go.Proofs.Ytfidjlagfnbknaa.vecShares
open Go.ChangeShapes Go.WideShapes Go.ChangeAt Go.RowKit
set_option linter.unusedVariables false

theorem own : ownKnob Try.prog.godebug = none := by kernel_rfl

theorem part_pos {x n : Int} (h1 : 1 ≤ n) : partR x n = (x.tdiv n, 0) := by
  unfold partR
  rw [if_neg (by omega), if_neg (fun h => by omega)]
theorem part_neg {x n : Int} (h1 : 1 ≤ n) (hx : ¬ x = -9223372036854775808) : partR x (-n) = (-x.tdiv n, 0) := by
  unfold partR
  rw [if_neg (by omega), if_neg (fun h => hx h.1), Int.tdiv_neg]
/-- What is left of a shared side. -/
theorem part_rest {x n : Int} (fx : inF x) (hx : ¬ x = -9223372036854775808) (h1 : 1 ≤ n) (hn : n ≤ 1000) :
    ∃ q m r a : Int, x.tdiv n = q ∧ q * n = m ∧ x - m = r ∧ max r (-r) = a ∧ -9223372036854775807 ≤ q ∧ q ≤ 9223372036854775807 ∧ -9223372036854775807 ≤ m ∧ m ≤ 9223372036854775807 ∧ -n < r ∧ r < n ∧ a < n := by
  unfold inF at fx
  have e := Int.mul_tdiv_add_tmod x n
  have h2 := Int.tmod_lt_of_pos x (show 0 < n by omega)
  have h3 : -n < x.tmod n := by
    have := Int.tmod_lt_of_pos (-x) (show 0 < n by omega)
    rw [Int.neg_tmod] at this
    omega
  have h4 := Int.natAbs_tdiv x n
  have h5 : x.natAbs / n.natAbs ≤ x.natAbs := Nat.div_le_self _ _
  have h6 : (x.tdiv n).natAbs ≤ x.natAbs := by rw [h4]; exact h5
  have h7 := Int.tmod_nonneg (a := x) n
  have h8 : x ≤ 0 → x.tmod n ≤ 0 := fun h => by
    have := Int.tmod_nonneg (a := -x) n (by omega)
    rw [Int.neg_tmod] at this
    omega
  refine ⟨x.tdiv n, x.tdiv n * n, x - x.tdiv n * n, _, rfl, rfl, rfl, rfl, ?_⟩
  rw [Int.mul_comm (x.tdiv n) n]
  have e' : x - n * x.tdiv n = x.tmod n := by omega
  rw [e']
  have hm : n * x.tdiv n = x - x.tmod n := by omega
  rw [hm]
  clear e e' hm h4 h5
  generalize x.tdiv n = q at *
  generalize x.tmod n = r at *
  omega

set_option maxHeartbeats 1000000 in
theorem shares_any (A N S D : Nat) (hSD : S ≠ D) (hSA : S ≠ A) (hSN : S ≠ N) (x y n p q : Int) (W : World) (hA : At W A x y) (hN : W.cell? ⟨N, 0, none⟩ = some (.int .i64 n)) (hS : At W S 0 0) (hD : At W D 0 0) (zS : Free W S) (zD : Free W D) (fx : inF x) (fy : inF y)
    (n1 : 1 ≤ n) (n2 : n ≤ 1000) (hx : ¬ x = -9223372036854775808) (hy : ¬ y = -9223372036854775808) (ep : x.tdiv n = p) (eq : y.tdiv n = q) :
    Calls Try.prog 35 #[.pointer (some ⟨A, 0, none⟩), .pointer (some ⟨N, 0, none⟩), .pointer (some ⟨S, 0, none⟩), .pointer (some ⟨D, 0, none⟩)] W fun e w1 =>
      Wrote (fun n => n = S ∨ n = D) W w1 ∧ ∃ k, (e = .returned (.tuple #[]) ∧ k = 0 ∨ e = .panicked [fault k]) ∧ (k = 0 ∧ At w1 S p q ∧ At w1 D (-p) (-q)) := by
  have HA : Hid (∀ W, Calls Try.prog 19 #[.agg #[.int .i64 x, .int .i64 y], .int .i64 n] W fun e w' => e = .returned (.agg #[.int .i64 p, .int .i64 q]) ∧ Grew W w') := fun W => by
    have := vshare_any x y n W fx fy ⟨by omega, by omega⟩
    rw [part_pos n1, part_pos n1, ep, eq] at this
    exact this
  have HB : Hid (∀ W, Calls Try.prog 19 #[.agg #[.int .i64 x, .int .i64 y], .int .i64 (-n)] W fun e w' => e = .returned (.agg #[.int .i64 (-p), .int .i64 (-q)]) ∧ Grew W w') := fun W => by
    have := vshare_any x y (-n) W fx fy ⟨by omega, by omega⟩
    rw [part_neg n1 hx, part_neg n1 hy, ep, eq] at this
    exact this
  obtain ⟨a0, a1⟩ := hA
  obtain ⟨s0, s1⟩ := hS
  have z1 := zS 0 none
  have z2 := zS 1 none
  clear ep eq
  obtain ⟨np, hnp⟩ : ∃ np, -p = np := ⟨_, rfl⟩
  obtain ⟨nq, hnq⟩ : ∃ nq, -q = nq := ⟨_, rfl⟩
  rw [hnp, hnq] at HB ⊢
  clear hnp hnq hx hy
  go_enter Try.func35, Try.ntmps35
  go_wp2_with (first
    | (go_at_call 19; go_fit (HA.out _); rintro e V ⟨rfl, U⟩; have t0 := U.cell s0; have t1 := U.cell s1; have y0 := U.frozen z1; have y1 := U.frozen z2; have K := U.set1 S (.int .i64 p) (.int .i64 q); have hA1 := At.wrote ⟨a0, a1⟩ K hSA.symm; have hN1 := K.cell hN hSN.symm; have hD1 := hD.wrote K hSD.symm; have zD1 := zD.wrote K hSD.symm hD.size; have hS1 := at_set V S 0 0 p q ⟨t0, t1⟩; obtain ⟨m0, m1⟩ := hA1)
    | (go_at_call 19; go_fit (HB.out _); rintro e V' ⟨rfl, U'⟩; obtain ⟨e0, e1⟩ := hD1; have l0 := U'.cell e0; have l1 := U'.cell e1; have o0 := U'.frozen (zD1 0 none); have o1 := U'.frozen (zD1 1 none)))
  go_end0
  have K2 := U'.set1 D (.int .i64 np) (.int .i64 nq)
  exact ⟨(K.more (fun n hn => .inl hn)).trans (K2.more (fun n hn => .inr hn)), 0, .inl ⟨rfl, rfl⟩, rfl, hS1.wrote K2 hSD, at_set V' D 0 0 np nq ⟨l0, l1⟩⟩

set_option maxHeartbeats 1000000 in
theorem walk (x0 y0 : Int) (f0 : inF x0) (g0 : inF y0) (a1 : Int) (f1 : inF a1) (w : World) :
    Calls Try.prog 7 #[vec x0 y0, .int .i64 a1] w fun e w' => e = .returned (.bool true) ∧ Grown w w' := by
  have hmf := mk_func
  by_cases c1 : a1 < 1
  · unfold vec
    go_enter Try.func7, Try.ntmps7
    go_wp2_with (first
      | (go_at_call 9; refine (alive_any _).mono ?_; rintro e V ⟨rfl, G⟩))
    go_ret
    exact ⟨rfl, ((((Grew.refl w).alloc _ _).alloc _ _).trans G).grown⟩
  have d1 : 1 ≤ a1 := Int.not_lt.1 c1
  clear c1
  by_cases c2 : 1000 < a1
  · unfold vec
    go_enter Try.func7, Try.ntmps7
    go_wp2_with (first
      | (go_at_call 9; refine (alive_any _).mono ?_; rintro e V ⟨rfl, G⟩))
    go_ret
    exact ⟨rfl, ((((Grew.refl w).alloc _ _).alloc _ _).trans G).grown⟩
  have d2 : a1 ≤ 1000 := Int.not_lt.1 c2
  clear c2
  by_cases hx : x0 = -9223372036854775808
  · unfold vec
    go_enter Try.func7, Try.ntmps7
    go_wp2_with (first
      | (go_at_call 9; refine (alive_any _).mono ?_; rintro e V ⟨rfl, G⟩))
    go_ret
    exact ⟨rfl, ((((Grew.refl w).alloc _ _).alloc _ _).trans G).grown⟩
  have hx' : (x0 == -9223372036854775808) = false := by simp [hx]
  by_cases hy : y0 = -9223372036854775808
  · unfold vec
    go_enter Try.func7, Try.ntmps7
    go_wp2_with (first
      | (go_at_call 9; refine (alive_any _).mono ?_; rintro e V ⟨rfl, G⟩))
    go_ret
    exact ⟨rfl, ((((Grew.refl w).alloc _ _).alloc _ _).trans G).grown⟩
  have hy' : (y0 == -9223372036854775808) = false := by simp [hy]
  obtain ⟨p, m1, r1, b1, e1, e2, e3, e4, p1, p2, m2, m3, r2, r3, b2⟩ := part_rest f0 hx d1 d2
  obtain ⟨q, m4, r4, b4, i1, i2, i3, i4, q1, q2, m5, m6, r5, r6, b5⟩ := part_rest g0 hy d1 d2
  have E1 : Hid (_ = _) := e1; have E2 : Hid (_ = _) := e2; have E3 : Hid (_ = _) := e3; have E4 : Hid (_ = _) := e4
  have I1 : Hid (_ = _) := i1; have I2 : Hid (_ = _) := i2; have I3 : Hid (_ = _) := i3; have I4 : Hid (_ = _) := i4
  clear e1 e2 e3 e4 i1 i2 i3 i4
  unfold vec
  go_enter Try.func7, Try.ntmps7
  go_wp2_with (first
    | (go_at_call 9; refine (alive_any _).mono ?_; rintro e V ⟨rfl, G⟩))
  have G1 : Grew w V := (((Grew.refl w).alloc _ _).alloc _ _).trans G
  have ha : At V w.heap.size x0 y0 := ⟨G.cell (by simp [go_sem]), G.cell (by simp [go_sem])⟩
  have hn : V.cell? ⟨w.heap.size + 1, 0, none⟩ = some (.int .i64 a1) := G.cell (by simp [go_sem])
  have hsz : w.heap.size + 1 < V.heap.size := cell_block hn
  clear G
  obtain ⟨V3, hV3⟩ : ∃ V3, V3 = (V.alloc (.cells #[.int .i64 0, .int .i64 0] 24)).alloc (.cells #[.int .i64 0, .int .i64 0] 24) := ⟨_, rfl⟩
  rw [← hV3]
  have g3 : Grew V V3 := by rw [hV3]; exact ((Grew.refl V).alloc _ _).alloc _ _
  have s3 : V3.heap.size = V.heap.size + 2 := by rw [hV3]; simp [go_sem]
  have cp : At V3 V.heap.size 0 0 := by rw [hV3]; constructor <;> simp [go_sem]
  have cq : At V3 (V.heap.size + 1) 0 0 := by rw [hV3]; constructor <;> simp [go_sem]
  have G3 := G1.trans g3
  replace ha := ha.grew g3
  replace hn := g3.cell hn
  obtain ⟨X, hX⟩ : ∃ X, X = V.heap.size := ⟨_, rfl⟩
  rw [← hX] at cp cq s3 hsz ⊢
  clear hV3 g3 hX
  have zp : Free V3 X := G3.freeB (by omega)
  have zq : Free V3 (X + 1) := G3.freeB (by omega)
  refine (try_set (S := fun n => n = X ∨ n = X + 1) (P := fun k W => k = 0 ∧ At W X p q ∧ At W (X + 1) (-p) (-q)) _ _ _ (fun _ => by simp [go_sem]) (fun n hn => by omega) (fun k W W' hh h => ⟨h.1, h.2.1.heap (hh _ (by omega)), h.2.2.heap (hh _ (by omega))⟩) (fun W0 g => ?_)).mono ?_
  · exact shares_any w.heap.size (w.heap.size + 1) X (X + 1) (by omega) (by omega) (by omega) x0 y0 a1 p q W0 (ha.grew g) (g.cell hn) (cp.grew g) (cq.grew g) (zp.grew g) (zq.grew g) f0 g0 d1 d2 hx hy E1.out I1.out
  rintro e V4 ⟨hW, k, rfl, rfl, hp, hq⟩
  have G4 : Grew w V4 := hW.to G3 (fun n hn => by omega)
  replace ha := ha.wrote hW (by omega)
  replace hn := hW.cell hn (by simp; omega)
  clear hW G3 cp cq zp zq s3 hmf
  obtain ⟨a0, a2⟩ := ha
  obtain ⟨c0, c1⟩ := hp
  obtain ⟨c2, c3⟩ := hq
  unfold inF at f0 g0 f1
  have e2 := E2.out; have e3 := E3.out; have i2 := I2.out; have i3 := I3.out
  clear E1 E2 E3 I1 I2 I3 hx hy
  obtain ⟨s1, hs1⟩ : ∃ s, -r1 = s := ⟨_, rfl⟩
  obtain ⟨s4, hs4⟩ : ∃ s, -r4 = s := ⟨_, rfl⟩
  have e4 := E4.out; have i4 := I4.out
  rw [hs1] at e4; rw [hs4] at i4
  clear E4 I4
  have t1 : -1000 ≤ s1 ∧ s1 ≤ 1000 := by omega
  have t4 : -1000 ≤ s4 ∧ s4 ≤ 1000 := by omega
  go_wp2_with (fail)
  go_quiet (fail)
  go_wp2
  go_ret
  first | exact ⟨rfl, (G4.drewN _).grown⟩ | exact ⟨rfl, G4.drew.grown⟩ | (refine ⟨?_, (G4.drewN _).grown⟩; trace_state)

set_option maxRecDepth 100000 in
theorem lifted (os : Os) (started : os.Started) (H : Type) (enc : TypeId × Value → H) :
    ReturnsInHanded {} Try.checked os 7 .any (Rows.vecSharesSpec.pre6 enc Try.prog Try.f7 Rows.vecSharesRow.domain false) (Rows.vecSharesSpec.post enc Try.prog Try.f7 false true false false) := by
  refine returnsInHanded_of_change (C := Try.checked) own started (by kernel_rfl) Try.func7
    (ChangeSpec.witness6 (enc := enc) (C := Try.checked) false ⟨#[], #[.agg #[.int .i64 0, .int .i64 0], .int .i64 0], []⟩ 8 (by kernel_rfl) (by kernel_rfl) (by kernel_rfl) (by kernel_rfl)) ?_
  intro W base args ds gs before hval0 hW hcnd _
  have hval : ∀ (j : Nat) t v, Try.f7.params[j]? = some t → args[j]? = some v → Value.okWide Try.prog W .any base t v := hval0
  have hW' := hW
  obtain ⟨p, q, hA0, hV, rfl, hfz, hnd⟩ := hW
  have hA : DataW.TrodAll enc Try.prog W 0 (fun _ => true) true Try.f7.params.toList args.toList ds p := hA0
  rw [Try.params7] at hA hval
  obtain ⟨v0, vs0, d0, ds0, p0, q0, hargs, rfl, rfl, h0, r0⟩ := trodAll_cons hA
  obtain ⟨v1, vs1, d1, ds1, p1, q1, rfl, rfl, rfl, h1, r1⟩ := trodAll_cons r0
  obtain ⟨rfl, rfl, rfl⟩ := trodAll_nil r1
  obtain rfl : args = #[v0, v1] := by cases args; simp_all
  obtain ⟨rfl, rfl⟩ := trodVars_none hV
  obtain ⟨x0, y0, rfl, rfl, rfl, f0, g0⟩ := open_vec (hval 0 24 v0 rfl rfl) h0
  obtain ⟨a1, rfl, rfl, rfl, w1⟩ := open_int Try.underlying3 (hval 1 3 v1 rfl rfl) h1
  have f1 := inF_wf w1
  clear hA0 hval0
  simp only [List.append_nil] at hW'
  refine (walk x0 y0 f0 g0 a1 f1 W).mono fun e W' ⟨he, hg⟩ => ?_
  subst he
  exact ⟨_, rfl, post_of_same (pa := []) (pv := []) hW' (fun _ _ _ => (trodAll_cons_mk (shut_bool Try.underlying4 _) trodAll_mk0)) (fun sp _ => (trodAll_cons_mk (shut_vec f0 g0) (trodAll_cons_mk (shut_int Try.underlying3 w1) trodAll_mk0))) (fun _ _ => rfl) rfl
    (hg.frame _) hg.2.1 (ok_one (by kernel_rfl) rfl (okWide_bool_mk Try.underlying4 _))⟩

theorem over : Rows.vecSharesRow.holds Try.pinned (OpenSpec.ofChange Rows.vecSharesSpec) :=
  OpenClaim.holds_of_wide 7 Try.f7 rfl rfl rfl rfl rfl rfl rfl ⟨rfl, rfl, rfl, rfl, rfl⟩ rfl rfl rfl rfl rfl (by kernel_rfl) Try.func7 (by kernel_rfl)
    (of_decide_eq_true (by kernel_rfl)) (by unfold Func.isWrapper; first | (rw [if_pos (by decide +kernel)]; kernel_rfl) | (rw [if_neg (by decide +kernel)]; exact ⟨rfl, rfl⟩))
    (fun os started H enc _ => lifted os started H enc)

theorem proved : Rows.VecSharesSaid :=
  over
end Go.Proofs.Ytfidjlagfnbknaa.vecShares

namespace Go.Proofs.Ytfidjlagfnbknaa
theorem vecShares_holds : Rows.VecSharesSaid := vecShares.proved
end Go.Proofs.Ytfidjlagfnbknaa

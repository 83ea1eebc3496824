/-
  Proved: maquettelaw6.VecUnits returns true for every place a (up to 2 to the 50th a direction is about as long as One, and no longer), and leaves what it was given as it was; no condition.
-/
import Derived.Test.YtfidjlagfnbknaaRows
import Derived.Test.YtfidjlagfnbknaaVAlive
import Derived.Test.YtfidjlagfnbknaaVData
import Derived.WalkKit
import Derived.Deep.QuietTactic
import Derived.BigQuiet
import Derived.WalkSpells
import Derived.WalkLawsBesides
import Derived.ProofKit
import Derived.OpenShut
namespace Go.Proofs.Ytfidjlagfnbknaa.vecUnits
open Go.ChangeShapes Go.WideShapes Go.ChangeAt Go.RowKit
set_option linter.unusedVariables false

theorem own : ownKnob Try.prog.godebug = none := by kernel_rfl

theorem ab_le_rt {x y n : Int} (h : isR (x * x + y * y) n) : ab x ≤ n ∧ ab y ≤ n := by
  have hx := Int.mul_nonneg (ab_nonneg x) (ab_nonneg x)
  have hy := Int.mul_nonneg (ab_nonneg y) (ab_nonneg y)
  have ex := ab_sq x
  have ey := ab_sq y
  obtain ⟨h0, _, h2⟩ := h
  constructor
  · have := lt_sq (a := ab x) (b := n + 1) (by omega) (by omega)
    omega
  · have := lt_sq (a := ab y) (b := n + 1) (by omega) (by omega)
    omega
/-- A side divided by the length. -/
theorem side_div {x n : Int} (hn : 0 < n) (hx : ab x ≤ n) : ∃ u : Int, divR x n = (u, 0) ∧ ab u * n ≤ ab x * 4294967296 ∧ ab x * 4294967296 < (ab u + 1) * n ∧ ab u ≤ 4294967296 := by
  have a0 := ab_nonneg x
  have en : ab n = n := by have := ab_of n; omega
  have hz : ¬ n = 0 := by omega
  have hm : divM x n = ab x * 4294967296 / n := by unfold divM; rw [en]
  have m0 := divM_nonneg x n
  have m1 : divM x n ≤ 4294967296 := by
    rw [hm]
    exact Int.ediv_le_of_le_mul hn (by have := Int.mul_le_mul_of_nonneg_right hx (show (0 : Int) ≤ 4294967296 by decide); omega)
  have m2 : divM x n * n ≤ ab x * 4294967296 := by rw [hm]; exact Int.ediv_mul_le _ (by omega)
  have m3 : ab x * 4294967296 < (divM x n + 1) * n := by rw [hm]; exact Int.lt_ediv_add_one_mul_self _ hn
  unfold divR
  rw [if_neg hz]
  generalize divM x n = m at *
  rcases sgR_cases (sgn x n) m with ⟨_, _, h⟩ | ⟨_, _, h⟩ | ⟨h1, _, _⟩
  · refine ⟨-m, h, ?_⟩
    have e : ab (-m) = m := by have := ab_of (-m); omega
    rw [e]; exact ⟨m2, m3, m1⟩
  · refine ⟨m, h, ?_⟩
    have e : ab m = m := by have := ab_of m; omega
    rw [e]; exact ⟨m2, m3, m1⟩
  · omega
theorem rt_small {s : Int} (h0 : 0 ≤ s) (h1 : s ≤ 85070591730234615865843651857942052864) : isR s (rt s) ∧ rt s < 18446744073709551616 / 2 + 1 := by
  have h := rt_is h0 (by omega)
  refine ⟨h, ?_⟩
  have := lt_sq (a := rt s) (b := 18446744073709551616 / 2 + 1) (by decide) (by have := h.2.1; omega)
  exact this
theorem unit_up {x y n u v l q : Int} (hn : 0 < n) (hl : 0 ≤ l) (h : x * x + y * y < (n + 1) * (n + 1)) (hu : u * n ≤ x * 4294967296) (hv : v * n ≤ y * 4294967296) (u0 : 0 ≤ u) (v0 : 0 ≤ v)
    (hL : l * l ≤ u * u + v * v) (hq : 4294967296 < (q + 1) * n) : l ≤ 4294967296 + q + 2 := by
  have a1 : (u * n) * (u * n) ≤ (x * 4294967296) * (x * 4294967296) := sq_le (Int.mul_nonneg u0 (by omega)) hu
  have a2 : (v * n) * (v * n) ≤ (y * 4294967296) * (y * 4294967296) := sq_le (Int.mul_nonneg v0 (by omega)) hv
  have nn : 0 ≤ n * n := Int.mul_nonneg (by omega) (by omega)
  have a3 : (l * n) * (l * n) ≤ (u * n) * (u * n) + (v * n) * (v * n) := by
    have := Int.mul_le_mul_of_nonneg_right hL nn
    have e1 : l * n * (l * n) = l * l * (n * n) := by grind
    have e2 : u * n * (u * n) + v * n * (v * n) = (u * u + v * v) * (n * n) := by grind
    rw [e1, e2]; exact this
  have a4 : (l * n) * (l * n) < (4294967296 * (n + 1)) * (4294967296 * (n + 1)) := by
    have e1 : (x * 4294967296) * (x * 4294967296) + (y * 4294967296) * (y * 4294967296) = 18446744073709551616 * (x * x + y * y) := by grind
    have e2 : (4294967296 * (n + 1)) * (4294967296 * (n + 1)) = 18446744073709551616 * ((n + 1) * (n + 1)) := by grind
    rw [e2]
    omega
  have a5 : l * n < 4294967296 * (n + 1) := lt_sq (by omega) a4
  have a6 : l * n < (4294967296 + q + 1) * n := by
    have e : (4294967296 + q + 1) * n = 4294967296 * n + (q + 1) * n := by grind
    rw [e]; omega
  have := Int.lt_of_mul_lt_mul_right a6 (by omega)
  omega
theorem unit_low {x y n u v l : Int} (hn : 0 < n) (hl : 0 ≤ l) (x0 : 0 ≤ x) (y0 : 0 ≤ y) (u0 : 0 ≤ u) (v0 : 0 ≤ v) (h : n * n ≤ x * x + y * y) (hu : x * 4294967296 < (u + 1) * n) (hv : y * 4294967296 < (v + 1) * n)
    (hL : u * u + v * v < (l + 1) * (l + 1)) : 4294967292 ≤ l := by
  refine Int.not_lt.1 fun hlt => ?_
  have a1 : (x * 4294967296) * (x * 4294967296) < ((u + 1) * n) * ((u + 1) * n) := sq_lt (Int.mul_nonneg x0 (by decide)) hu
  have a2 : (y * 4294967296) * (y * 4294967296) < ((v + 1) * n) * ((v + 1) * n) := sq_lt (Int.mul_nonneg y0 (by decide)) hv
  have e1 : (x * 4294967296) * (x * 4294967296) + (y * 4294967296) * (y * 4294967296) = 18446744073709551616 * (x * x + y * y) := by grind
  have e2 : ((u + 1) * n) * ((u + 1) * n) + ((v + 1) * n) * ((v + 1) * n) = ((u + 1) * (u + 1) + (v + 1) * (v + 1)) * (n * n) := by grind
  have a3 : 18446744073709551616 * (n * n) < ((u + 1) * (u + 1) + (v + 1) * (v + 1)) * (n * n) := by omega
  have a4 : 18446744073709551616 < (u + 1) * (u + 1) + (v + 1) * (v + 1) := Int.lt_of_mul_lt_mul_right a3 (Int.mul_nonneg (by omega) (by omega))
  have a5 : (l + 1) * (l + 1) ≤ 4294967292 * 4294967292 := sq_le (by omega) (by omega)
  have a6 : u + v < 6442450944 := by
    refine lt_sq (by decide) ?_
    have e3 : (u + v) * (u + v) + (u - v) * (u - v) = 2 * (u * u + v * v) := by grind
    have e4 : 0 ≤ (u - v) * (u - v) := by
      rcases Int.le_total 0 (u - v) with g | g
      · exact Int.mul_nonneg g g
      · have := Int.mul_nonneg (show 0 ≤ -(u - v) by omega) (show 0 ≤ -(u - v) by omega)
        rw [Int.neg_mul_neg] at this; exact this
    omega
  have e5 : (u + 1) * (u + 1) + (v + 1) * (v + 1) = u * u + v * v + 2 * (u + v) + 2 := by grind
  omega
theorem unit_all (x y : Int) (hx : -1125899906842624 ≤ x ∧ x ≤ 1125899906842624) (hy : -1125899906842624 ≤ y ∧ y ≤ 1125899906842624) (hz : ¬ (x = 0 ∧ y = 0)) :
    ∃ n u v l q : Int, lenR x y = (n, 0) ∧ unitR x y = ((u, v), n, 0) ∧ lenR u v = (l, 0) ∧ (4294967296 : Int) / n = q ∧ 0 < n ∧ n ≤ 9223372036854775807 ∧ inF u ∧ inF v ∧ 0 ≤ q ∧ q ≤ 4294967296 ∧ 0 ≤ l ∧ l ≤ 4294967296 + q + 2 ∧ 4294967292 ≤ l := by
  have ax : ab x ≤ 1125899906842624 := by have := ab_of x; omega
  have ay : ab y ≤ 1125899906842624 := by have := ab_of y; omega
  have ex := ab_sq x
  have ey := ab_sq y
  have qx := sq_le (ab_nonneg x) ax
  have qy := sq_le (ab_nonneg y) ay
  have px := Int.mul_nonneg (ab_nonneg x) (ab_nonneg x)
  have py := Int.mul_nonneg (ab_nonneg y) (ab_nonneg y)
  obtain ⟨hR, hb⟩ := rt_small (s := x * x + y * y) (by omega) (by omega)
  have hb : rt (x * x + y * y) < 9223372036854775808 := lt_sq (by decide) (by have := hR.2.1; omega)
  have e0 : lenR x y = (rt (x * x + y * y), 0) := if_pos hb
  generalize rt (x * x + y * y) = n at *
  have hn : 0 < n := by
    refine Int.not_le.1 fun g => ?_
    have n0 : n = 0 := by have := hR.1; omega
    subst n0
    have h1 := hR.2.2
    have gx : ab x * ab x = 0 := by omega
    have gy : ab y * ab y = 0 := by omega
    have : ab x = 0 := by rcases Int.mul_eq_zero.1 gx with h | h <;> exact h
    have : ab y = 0 := by rcases Int.mul_eq_zero.1 gy with h | h <;> exact h
    have := ab_of x; have := ab_of y
    omega
  obtain ⟨bx, by'⟩ := ab_le_rt hR
  obtain ⟨u, d1, u1, u2, u3⟩ := side_div hn bx
  obtain ⟨v, d2, v1, v2, v3⟩ := side_div hn by'
  have eu := ab_sq u
  have ev := ab_sq v
  have pu := Int.mul_nonneg (ab_nonneg u) (ab_nonneg u)
  have pv := Int.mul_nonneg (ab_nonneg v) (ab_nonneg v)
  have qu := sq_le (ab_nonneg u) u3
  have qv := sq_le (ab_nonneg v) v3
  obtain ⟨lR, _⟩ := rt_small (s := u * u + v * v) (by omega) (by omega)
  have lb : rt (u * u + v * v) < 9223372036854775808 := lt_sq (by decide) (by have := lR.2.1; omega)
  have e1 : lenR u v = (rt (u * u + v * v), 0) := if_pos lb
  generalize rt (u * u + v * v) = l at *
  have q0 : 0 ≤ (4294967296 : Int) / n := Int.ediv_nonneg (by decide) (by omega)
  have q1 : (4294967296 : Int) / n ≤ 4294967296 := Int.ediv_le_self _ (by decide)
  have q2 : (4294967296 : Int) < (4294967296 / n + 1) * n := Int.lt_ediv_add_one_mul_self _ hn
  refine ⟨n, u, v, l, _, e0, ?_, e1, rfl, hn, by omega, ⟨by have := ab_of u; omega, by have := ab_of u; omega⟩, ⟨by have := ab_of v; omega, by have := ab_of v; omega⟩, q0, q1, lR.1, ?_, ?_⟩
  · have h := @unitR_ok x y
    rw [e0] at h
    simp only [d1, d2] at h
    exact h trivial (by omega) rfl
  · exact unit_up (x := ab x) (y := ab y) (u := ab u) (v := ab v) hn lR.1 (by rw [ex, ey]; exact hR.2.2) u1 v1 (ab_nonneg u) (ab_nonneg v) (by rw [eu, ev]; exact lR.2.1) q2
  · exact unit_low (x := ab x) (y := ab y) (u := ab u) (v := ab v) hn lR.1 (ab_nonneg x) (ab_nonneg y) (ab_nonneg u) (ab_nonneg v) (by rw [ex, ey]; exact hR.2.1) u2 v2 (by rw [eu, ev]; exact lR.2.2)
theorem unit_none : unitR 0 0 = ((0, 0), 0, 0) := by
  have e : lenR 0 0 = (0, 0) := by
    unfold lenR
    rw [show rt (0 * 0 + 0 * 0) = 0 from rt_eq ⟨by decide, by decide, by decide⟩ (by decide)]
    decide
  have h := @unitR_zero 0 0
  rw [e] at h
  exact h rfl rfl
theorem len_none : lenR 0 0 = (0, 0) := by
  unfold lenR
  rw [show rt (0 * 0 + 0 * 0) = 0 from rt_eq ⟨by decide, by decide, by decide⟩ (by decide)]
  decide

set_option maxHeartbeats 1000000 in
theorem units_any (A U N L : Nat) (hUN : U ≠ N) (hUL : U ≠ L) (hNL : N ≠ L) (x y u v n l : Int) (W : World) (hA : At W A x y) (hU : At W U 0 0) (hN : W.cell? ⟨N, 0, none⟩ = some (.int .i64 0)) (hL : W.cell? ⟨L, 0, none⟩ = some (.int .i64 0))
    (zU : Free W U) (zN : Free W N) (zL : Free W L) (fx : inF x) (fy : inF y) (fu : inF u) (fv : inF v) (e1 : unitR x y = ((u, v), n, 0)) (e2 : lenR u v = (l, 0)) :
    Calls Try.prog 28 #[.pointer (some ⟨A, 0, none⟩), .pointer (some ⟨U, 0, none⟩), .pointer (some ⟨N, 0, none⟩), .pointer (some ⟨L, 0, none⟩)] W fun e w1 =>
      Wrote (fun i => i = U ∨ i = N ∨ i = L) W w1 ∧ ∃ k, (e = .returned (.tuple #[]) ∧ k = 0 ∨ e = .panicked [fault k]) ∧ (k = 0 ∧ At w1 U u v ∧ w1.cell? ⟨N, 0, none⟩ = some (.int .i64 n) ∧ w1.cell? ⟨L, 0, none⟩ = some (.int .i64 l)) := by
  have HA : Hid (∀ W, Calls Try.prog 18 #[.agg #[.int .i64 x, .int .i64 y]] W fun e w' => e = .returned (.tuple #[.agg #[.int .i64 u, .int .i64 v], .int .i64 n]) ∧ Grew W w') := fun W => by
    have := vunit_any x y W fx fy
    rw [e1] at this
    exact this
  have HB : Hid (∀ W, Calls Try.prog 17 #[.agg #[.int .i64 u, .int .i64 v]] W fun e w' => e = .returned (.int .i64 l) ∧ Grew W w') := fun W => by
    have := vlen_any u v W fu fv
    rw [e2] at this
    exact this
  clear e1 e2
  obtain ⟨a0, a1⟩ := hA
  obtain ⟨s0, s1⟩ := hU
  have z1 := zU 0 none
  have z2 := zU 1 none
  have z3 := zN 0 none
  go_enter Try.func28, Try.ntmps28
  go_wp2_with (first
    | (go_at_call 18; go_fit (HA.out _); rintro e V ⟨rfl, G⟩; have t0 := G.cell s0; have t1 := G.cell s1; have t2 := G.cell hN; have y0 := G.frozen z1; have y1 := G.frozen z2; have y2 := G.frozen z3; have K := wrote_set2 (S := fun i => i = U ∨ i = N) G.wrote U N (.inl rfl) (.inr rfl) (.int .i64 u) (.int .i64 v) (.int .i64 n); obtain ⟨hU1, hN1⟩ := at_set2 V U N hUN 0 0 u v n _ ⟨t0, t1⟩ t2; have hL1 := K.cell hL (by simp; omega); have zL1 := zL.wrote K (by omega) (cell_block hL); have hU2 := hU1; obtain ⟨m0, m1⟩ := hU2)
    | (go_at_call 17; go_fit (HB.out _); rintro e V' ⟨rfl, G'⟩; have l0 := G'.cell hL1; have o0 := G'.frozen (zL1 0 none)))
  go_end0
  have K2 : Wrote (fun i => i = L) _ (V'.setCell ⟨L, 0, none⟩ (.int .i64 l)) := G'.wrote.set (S := fun i => i = L) rfl _ _ _
  exact ⟨(K.more (fun i hi => by omega)).trans (K2.more (fun i hi => by omega)), 0, .inl ⟨rfl, rfl⟩, rfl, hU1.wrote K2 hUL, K2.cell hN1 hNL, World.cell?_setCell_same _ _ _ l0⟩

set_option maxHeartbeats 1000000 in
theorem walk (x0 y0 : Int) (f0 : inF x0) (g0 : inF y0) (w : World) :
    Calls Try.prog 4 #[vec x0 y0] w fun e w' => e = .returned (.bool true) ∧ Grown w w' := by
  have hmf := mk_func
  by_cases c1 : 1125899906842624 < x0
  · unfold vec
    go_enter Try.func4, Try.ntmps4
    go_wp2_with (first
      | (go_at_call 9; refine (alive_any _).mono ?_; rintro e V ⟨rfl, G⟩))
    go_ret
    exact ⟨rfl, (((Grew.refl w).alloc _ _).trans G).grown⟩
  have d1 : x0 ≤ 1125899906842624 := Int.not_lt.1 c1
  clear c1
  by_cases c2 : x0 < -1125899906842624
  · unfold vec
    go_enter Try.func4, Try.ntmps4
    go_wp2_with (first
      | (go_at_call 9; refine (alive_any _).mono ?_; rintro e V ⟨rfl, G⟩))
    go_ret
    exact ⟨rfl, (((Grew.refl w).alloc _ _).trans G).grown⟩
  have d2 : -1125899906842624 ≤ x0 := Int.not_lt.1 c2
  clear c2
  by_cases c3 : 1125899906842624 < y0
  · unfold vec
    go_enter Try.func4, Try.ntmps4
    go_wp2_with (first
      | (go_at_call 9; refine (alive_any _).mono ?_; rintro e V ⟨rfl, G⟩))
    go_ret
    exact ⟨rfl, (((Grew.refl w).alloc _ _).trans G).grown⟩
  have d3 : y0 ≤ 1125899906842624 := Int.not_lt.1 c3
  clear c3
  by_cases c4 : y0 < -1125899906842624
  · unfold vec
    go_enter Try.func4, Try.ntmps4
    go_wp2_with (first
      | (go_at_call 9; refine (alive_any _).mono ?_; rintro e V ⟨rfl, G⟩))
    go_ret
    exact ⟨rfl, (((Grew.refl w).alloc _ _).trans G).grown⟩
  have d4 : -1125899906842624 ≤ y0 := Int.not_lt.1 c4
  clear c4
  obtain ⟨n, u, v, l, e1, e2, fu, fv, fin⟩ : ∃ n u v l : Int, unitR x0 y0 = ((u, v), n, 0) ∧ lenR u v = (l, 0) ∧ inF u ∧ inF v ∧ ((x0 = 0 ∧ y0 = 0 ∧ u = 0 ∧ v = 0 ∧ n = 0) ∨ (¬ (x0 = 0 ∧ y0 = 0) ∧ ∃ q, (4294967296 : Int) / n = q ∧ 0 < n ∧ n ≤ 9223372036854775807 ∧ 0 ≤ q ∧ q ≤ 4294967296 ∧ 0 ≤ l ∧ l ≤ 4294967296 + q + 2 ∧ 4294967292 ≤ l)) := by
    by_cases hz : x0 = 0 ∧ y0 = 0
    · obtain ⟨rfl, rfl⟩ := hz
      exact ⟨0, 0, 0, 0, unit_none, len_none, ⟨by decide, by decide⟩, ⟨by decide, by decide⟩, .inl ⟨rfl, rfl, rfl, rfl, rfl⟩⟩
    · obtain ⟨n, u, v, l, q, _, h1, h2, h3, h4, h5, h6, h7, h8, h9, h10, h11, h12⟩ := unit_all x0 y0 ⟨d2, d1⟩ ⟨d4, d3⟩ hz
      exact ⟨n, u, v, l, h1, h2, h6, h7, .inr ⟨hz, q, h3, h4, h5, h8, h9, h10, h11, h12⟩⟩
  have E1 : Hid (_ = _) := e1; have E2 : Hid (_ = _) := e2; have Fin : Hid (_ ∨ _) := fin
  clear e1 e2 fin
  unfold vec
  go_enter Try.func4, Try.ntmps4
  go_wp2_with (first
    | (go_at_call 9; refine (alive_any _).mono ?_; rintro e V ⟨rfl, G⟩))
  have G1 : Grew w V := ((Grew.refl w).alloc _ _).trans G
  have ha : At V w.heap.size x0 y0 := ⟨G.cell (by simp [go_sem]), G.cell (by simp [go_sem])⟩
  have hsz : w.heap.size < V.heap.size := cell_block ha.1
  clear G
  obtain ⟨V3, hV3⟩ : ∃ V3, V3 = ((V.alloc (.cells #[.int .i64 0, .int .i64 0] 24)).alloc (.cells #[.int .i64 0] 22)).alloc (.cells #[.int .i64 0] 22) := ⟨_, rfl⟩
  rw [← hV3]
  have g3 : Grew V V3 := by rw [hV3]; exact (((Grew.refl V).alloc _ _).alloc _ _).alloc _ _
  have s3 : V3.heap.size = V.heap.size + 3 := by rw [hV3]; simp [go_sem]
  have cu : At V3 V.heap.size 0 0 := by rw [hV3]; constructor <;> simp [go_sem]
  have cn : V3.cell? ⟨V.heap.size + 1, 0, none⟩ = some (.int .i64 0) := by rw [hV3]; simp [go_sem]
  have cl : V3.cell? ⟨V.heap.size + 1 + 1, 0, none⟩ = some (.int .i64 0) := by rw [hV3]; simp [go_sem]
  have G3 := G1.trans g3
  replace ha := ha.grew g3
  obtain ⟨X, hX⟩ : ∃ X, X = V.heap.size := ⟨_, rfl⟩
  rw [← hX] at cu cn cl s3 hsz ⊢
  clear hV3 g3 hX
  have zu : Free V3 X := G3.freeB (by omega)
  have zn : Free V3 (X + 1) := G3.freeB (by omega)
  have zl : Free V3 (X + 1 + 1) := G3.freeB (by omega)
  refine (try_set (S := fun i => i = X ∨ i = X + 1 ∨ i = X + 1 + 1) (P := fun k W => k = 0 ∧ At W X u v ∧ W.cell? ⟨X + 1, 0, none⟩ = some (.int .i64 n) ∧ W.cell? ⟨X + 1 + 1, 0, none⟩ = some (.int .i64 l)) _ _ _ (fun _ => by simp [go_sem]) (fun n hn => by omega)
    (fun k W W' hh h => ⟨h.1, h.2.1.heap (hh _ (by omega)), by rw [cell_of_heap (hh _ (by simp; omega))]; exact h.2.2.1, by rw [cell_of_heap (hh _ (by simp; omega))]; exact h.2.2.2⟩) (fun W0 g => ?_)).mono ?_
  · exact units_any w.heap.size X (X + 1) (X + 1 + 1) (by omega) (by omega) (by omega) x0 y0 u v n l W0 (ha.grew g) (cu.grew g) (g.cell cn) (g.cell cl) (zu.grew g) (zn.grew g) (zl.grew g) f0 g0 fu fv E1.out E2.out
  rintro e V4 ⟨hW, k, rfl, rfl, hu, hn, hl⟩
  have G4 : Grew w V4 := hW.to G3 (fun n hn => by omega)
  replace ha := ha.wrote hW (by omega)
  clear hW G3 cu cn cl zu zn zl s3 hmf E1 E2 fu fv
  obtain ⟨a0, a2⟩ := ha
  obtain ⟨c0, c1⟩ := hu
  rcases Fin.out with ⟨rfl, rfl, rfl, rfl, rfl⟩ | ⟨hz, q, h3, h4, h5, h6, h7, h8, h9, h10⟩
  · have hq := same_vec 0 0
    clear Fin
    go_wp2
    go_ret
    exact ⟨rfl, G4.grown⟩
  · have hq : ∀ w, (binOp .eql 24 (.agg #[.int .i64 x0, .int .i64 y0]) (.agg #[.int .i64 0, .int .i64 0])).run Try.prog w = .ok (.bool false) w := fun w => by
      rw [eq_vec, show (x0 == 0 && y0 == 0) = false by simpa using fun h => fun g => hz ⟨h, g⟩]
    have h3' : (4294967296 : Int).tdiv n = q := by rw [Int.tdiv_eq_ediv_of_nonneg (by decide)]; exact h3
    have hn0 : ¬ n = 0 := by omega
    have hn1 : (n == 0) = false := by simp [hn0]
    clear Fin hz
    unfold inF at f0 g0
    by_cases hs : n < 1048576
    · go_wp2_with (fail)
      go_quiet (fail)
      go_wp2
      go_ret
      exact ⟨rfl, (G4.drewN _).grown⟩
    · have hs2 : decide (n < 1048576) = false := decide_eq_false hs
      have hs1 : 1048576 ≤ n := Int.not_lt.1 hs
      clear hs
      go_wp2_with (fail)
      go_quiet (fail)
      go_wp2
      go_ret
      exact ⟨rfl, (G4.drewN _).grown⟩

set_option maxRecDepth 100000 in
theorem lifted (os : Os) (started : os.Started) (H : Type) (enc : TypeId × Value → H) :
    ReturnsInHanded {} Try.checked os 4 .any (Rows.vecUnitsSpec.pre6 enc Try.prog Try.f4 Rows.vecUnitsRow.domain false) (Rows.vecUnitsSpec.post enc Try.prog Try.f4 false true false false) := by
  refine returnsInHanded_of_change (C := Try.checked) own started (by kernel_rfl) Try.func4
    (ChangeSpec.witness6 (enc := enc) (C := Try.checked) false ⟨#[], #[.agg #[.int .i64 0, .int .i64 0]], []⟩ 8 (by kernel_rfl) (by kernel_rfl) (by kernel_rfl) (by kernel_rfl)) ?_
  intro W base args ds gs before hval0 hW hcnd _
  have hval : ∀ (j : Nat) t v, Try.f4.params[j]? = some t → args[j]? = some v → Value.okWide Try.prog W .any base t v := hval0
  have hW' := hW
  obtain ⟨p, q, hA0, hV, rfl, hfz, hnd⟩ := hW
  have hA : DataW.TrodAll enc Try.prog W 0 (fun _ => true) true Try.f4.params.toList args.toList ds p := hA0
  rw [Try.params4] at hA hval
  obtain ⟨v0, vs0, d0, ds0, p0, q0, hargs, rfl, rfl, h0, r0⟩ := trodAll_cons hA
  obtain ⟨rfl, rfl, rfl⟩ := trodAll_nil r0
  obtain rfl : args = #[v0] := by cases args; simp_all
  obtain ⟨rfl, rfl⟩ := trodVars_none hV
  obtain ⟨x0, y0, rfl, rfl, rfl, f0, g0⟩ := open_vec (hval 0 24 v0 rfl rfl) h0
  clear hA0 hval0
  simp only [List.append_nil] at hW'
  refine (walk x0 y0 f0 g0 W).mono fun e W' ⟨he, hg⟩ => ?_
  subst he
  exact ⟨_, rfl, post_of_same (pa := []) (pv := []) hW' (fun _ _ _ => (trodAll_cons_mk (shut_bool Try.underlying4 _) trodAll_mk0)) (fun sp _ => (trodAll_cons_mk (shut_vec f0 g0) trodAll_mk0)) (fun _ _ => rfl) rfl
    (hg.frame _) hg.2.1 (ok_one (by kernel_rfl) rfl (okWide_bool_mk Try.underlying4 _))⟩

theorem over : Rows.vecUnitsRow.holds Try.pinned (OpenSpec.ofChange Rows.vecUnitsSpec) :=
  OpenClaim.holds_of_wide 4 Try.f4 rfl rfl rfl rfl rfl rfl rfl ⟨rfl, rfl, rfl, rfl, rfl⟩ rfl rfl rfl rfl rfl (by kernel_rfl) Try.func4 (by kernel_rfl)
    (of_decide_eq_true (by kernel_rfl)) (by unfold Func.isWrapper; first | (rw [if_pos (by decide +kernel)]; kernel_rfl) | (rw [if_neg (by decide +kernel)]; exact ⟨rfl, rfl⟩))
    (fun os started H enc _ => lifted os started H enc)

theorem proved : Rows.VecUnitsSaid :=
  over
end Go.Proofs.Ytfidjlagfnbknaa.vecUnits

namespace Go.Proofs.Ytfidjlagfnbknaa
theorem vecUnits_holds : Rows.VecUnitsSaid := vecUnits.proved
end Go.Proofs.Ytfidjlagfnbknaa

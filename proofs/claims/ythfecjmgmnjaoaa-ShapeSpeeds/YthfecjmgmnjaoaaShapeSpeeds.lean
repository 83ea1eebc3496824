/-
  Proved: maquettelaw7.ShapeSpeeds returns true for every body b and every number n (twice as heavy is half as fast; what has no mass does not move, and is not light), and leaves what it was given as it was; no condition.
-/
import Derived.Test.YthfecjmgmnjaoaaRows
import Derived.Test.YthfecjmgmnjaoaaBAlive
import Derived.Test.YthfecjmgmnjaoaaBData
import Derived.WalkKit
import Derived.Deep.QuietTactic
import Derived.BigQuiet
import Derived.WalkSpells
import Derived.WalkLawsBesides
import Derived.ProofKit
import Derived.OpenShut
namespace Go.Proofs.Ythfecjmgmnjaoaa.shapeSpeeds
open Go.ChangeShapes Go.WideShapes Go.ChangeAt Go.RowKit
set_option linter.unusedVariables false

theorem own : ownKnob Try.prog.godebug = none := by kernel_rfl

theorem div_exact {a b c : Int} (hb : 0 < b) (hc : inF c) (h : a * 4294967296 = c * b) : divR a b = (c, 0) := by
  have hs : (a < 0 ↔ c < 0) := by
    constructor
    · intro g
      refine Int.not_le.1 fun g2 => ?_
      have := Int.mul_nonneg g2 (Int.le_of_lt hb)
      omega
    · intro g
      have := Int.mul_neg_of_neg_of_pos g hb
      omega
  have e : ab a * 4294967296 = ab c * b := by
    rcases ab_of a with ⟨g1, g2⟩ | ⟨g1, g2⟩ <;> rcases ab_of c with ⟨g3, g4⟩ | ⟨g3, g4⟩
    · rw [g2, g4, Int.neg_mul, Int.neg_mul, h]
    · omega
    · omega
    · rw [g2, g4, h]
  unfold divR divM
  rw [if_neg (by omega), sgn_one (by omega), show ab b = b by have := ab_of b; omega, e, Int.mul_ediv_cancel _ (by omega), decide_eq_decide.2 hs, sgR_self hc]
theorem speed_at (s a b p q x y m X Y : Int) (hm : 0 < m) (h1 : x * 4294967296 = X * m) (h2 : y * 4294967296 = Y * m) (i1 : inF X) (i2 : inF Y) : speedR ⟨s, a, b, m, p, q, x, y⟩ = (X, Y, 0) := by
  rw [speedR_m (show ¬ m = 0 by omega)]
  show two (divR x m) (divR y m) = _
  rw [div_exact hm i1 h1, div_exact hm i2 h2]
  rfl


set_option maxHeartbeats 4000000 in
theorem speeds1 (C V O Z L : Nat) (hCV : C ≠ V) (hCO : C ≠ O) (hCZ : C ≠ Z) (hCL : C ≠ L) (hVC : V ≠ C) (hVO : V ≠ O) (hVZ : V ≠ Z) (hVL : V ≠ L) (hOC : O ≠ C) (hOV : O ≠ V) (hOZ : O ≠ Z) (hOL : O ≠ L) (hZC : Z ≠ C) (hZV : Z ≠ V) (hZO : Z ≠ O) (hZL : Z ≠ L) (hLC : L ≠ C) (hLV : L ≠ V) (hLO : L ≠ O) (hLZ : L ≠ Z) (s a b m p q x y X Y X2 Y2 : Int) (W : World) (hB : BAt W C ⟨s, a, b, m, p, q, x, y⟩) (hV : At W V 0 0) (hO : At W O 0 0) (hZ : At W Z 0 0) (hL : W.cell? ⟨L, 0, none⟩ = some (.int .i64 0))
    (zC : Free W C) (zV : Free W V) (zO : Free W O) (zZ : Free W Z) (zL : Free W L) (m0 : 0 < m) (m1 : m ≤ 4294967296000) (ok1 : (⟨s, a, b, m, p, q, x, y⟩ : Bd).ok) (e1 : speedR ⟨s, a, b, m, p, q, x, y⟩ = (X, Y, 0)) (e2 : speedR ⟨s, a, b, m * 2, p, q, x, y⟩ = (X2, Y2, 0)) :
    Calls Try.prog 19 #[.pointer (some ⟨C, 0, none⟩), .pointer (some ⟨V, 0, none⟩), .pointer (some ⟨O, 0, none⟩), .pointer (some ⟨Z, 0, none⟩), .pointer (some ⟨L, 0, none⟩)] W fun e w1 =>
      Wrote (fun i => i = C ∨ i = V ∨ i = O ∨ i = Z ∨ i = L) W w1 ∧ ∃ k, (e = .returned (.tuple #[]) ∧ k = 0 ∨ e = .panicked [fault k]) ∧ (k = 0 ∧ At w1 V X Y ∧ At w1 O X2 Y2 ∧ At w1 Z 0 0 ∧ w1.cell? ⟨L, 0, none⟩ = some (.int .i64 0)) := by
  have im2 : inF (m * 2) := ⟨by omega, by omega⟩
  have H1 : Hid (∀ W, Calls Try.prog 13 #[.agg #[.int .i64 s, .int .i64 a, .int .i64 b, .int .i64 m, .int .i64 p, .int .i64 q, .int .i64 x, .int .i64 y]] W fun e w' => e = .returned (.agg #[.int .i64 X, .int .i64 Y]) ∧ Grew W w') := fun W => by
    have := shape_speed ⟨s, a, b, m, p, q, x, y⟩ ok1 W
    rw [e1] at this
    exact this
  have H2 : Hid (∀ W, Calls Try.prog 13 #[.agg #[.int .i64 s, .int .i64 a, .int .i64 b, .int .i64 (m * 2), .int .i64 p, .int .i64 q, .int .i64 x, .int .i64 y]] W fun e w' => e = .returned (.agg #[.int .i64 X2, .int .i64 Y2]) ∧ Grew W w') := fun W => by
    have := shape_speed ⟨s, a, b, m * 2, p, q, x, y⟩ ⟨ok1.s, ok1.a, ok1.b, im2, ok1.p, ok1.q, ok1.u, ok1.v⟩ W
    rw [e2] at this
    exact this
  have H3 : Hid (∀ W, Calls Try.prog 13 #[.agg #[.int .i64 s, .int .i64 a, .int .i64 b, .int .i64 0, .int .i64 p, .int .i64 q, .int .i64 x, .int .i64 y]] W fun e w' => e = .returned (.agg #[.int .i64 0, .int .i64 0]) ∧ Grew W w') := fun W => by
    have := shape_speed ⟨s, a, b, 0, p, q, x, y⟩ ⟨ok1.s, ok1.a, ok1.b, (show inF 0 from ⟨by decide, by decide⟩), ok1.p, ok1.q, ok1.u, ok1.v⟩ W
    rw [speedR_0 rfl] at this
    exact this
  have H4 : Hid (∀ W, Calls Try.prog 15 #[.agg #[.int .i64 s, .int .i64 a, .int .i64 b, .int .i64 0, .int .i64 p, .int .i64 q, .int .i64 x, .int .i64 y]] W fun e w' => e = .returned (.int .i64 0) ∧ Grew W w') := fun W => by
    have := shape_light ⟨s, a, b, 0, p, q, x, y⟩ ⟨ok1.s, ok1.a, ok1.b, (show inF 0 from ⟨by decide, by decide⟩), ok1.p, ok1.q, ok1.u, ok1.v⟩ W
    rw [lightR_0 rfl] at this
    exact this
  have sC := hB.size
  have sV := hV.size
  have sO := hO.size
  have sZ := hZ.size
  have sL := cell_block hL
  have hB0 := hB
  obtain ⟨b0, b1, b2, b3, b4, b5, b6, b7⟩ := hB
  simp only at b0 b1 b2 b3 b4 b5 b6 b7 sL
  clear e1 e2 ok1 im2
  go_enter Try.func19, Try.ntmps19
  go_wp2_with (first
    | (go_at_call 13; go_fit (H1.out _); rintro e V1 ⟨rfl, U1⟩; have t0 := U1.cell hV.1; have t1 := U1.cell hV.2; have y0 := U1.frozen (zV 0 none); have y1 := U1.frozen (zV 1 none); have K1 := U1.set1 V (.int .i64 X) (.int .i64 Y); have hB1 := hB0.wrote K1 hCV; have zC1 := zC.wrote K1 hCV sC; have d3 := hB1.c3; simp only at d3; have zc := zC1 3 none; have hB2 := bat_m hB1 (m * 2); have hB2' := hB2; obtain ⟨e0, e1, e2, e3, e4, e5, e6, e7⟩ := hB2; simp only at e0 e1 e2 e3 e4 e5 e6 e7; have KC1 := past_setCell C ((V1.setCell ⟨V, 0, none⟩ (.int .i64 X)).setCell ⟨V, 1, none⟩ (.int .i64 Y)) 3 none (.int .i64 (m * 2)))
    | (go_at_call 13; go_fit (H2.out _); rintro e V2 ⟨rfl, U2⟩; have K2 : Wrote (fun i => i = V ∨ i = C) W _ := (K1.more (fun _ h => .inl h)).trans (KC1.wrote (.inr rfl)); have hO2 := (hO.wrote K2 (by omega)).grew U2; have zO2 := (zO.wrote K2 (by omega) sO).grew U2; have q0 := hO2.1; have q1 := hO2.2; have r0 := zO2 0 none; have r1 := zO2 1 none; have K3 := U2.set1 O (.int .i64 X2) (.int .i64 Y2); have hB3 := hB2'.wrote K3 hCO; have zC2 := ((zC1.set ⟨C, 3, none⟩ (.int .i64 (m * 2))).grew U2); have zc2 := (zC2.set2 O (.int .i64 X2) (.int .i64 Y2)) 3 none; have d4 := hB3.c3; simp only at d4; have hB4 := bat_m hB3 0; have hB4' := hB4; obtain ⟨g0, g1, g2, g3, g4, g5, g6, g7⟩ := hB4; simp only at g0 g1 g2 g3 g4 g5 g6 g7; have KC2 := past_setCell C ((V2.setCell ⟨O, 0, none⟩ (.int .i64 X2)).setCell ⟨O, 1, none⟩ (.int .i64 Y2)) 3 none (.int .i64 0)))
  have K4 : Wrote (fun i => i = O ∨ i = C) _ _ := (K3.more (fun _ h => .inl h)).trans (KC2.wrote (.inr rfl))
  have hV1 := at_set V1 V 0 0 X Y ⟨t0, t1⟩
  have hV2 := ((hV1.wrote (KC1.wrote (S := fun i => i = C) rfl) hVC)).wrote K4 (by omega)
  have hO4 := (at_set V2 O 0 0 X2 Y2 ⟨q0, q1⟩).wrote (KC2.wrote (S := fun i => i = C) rfl) hOC
  have hZ4 := (hZ.wrote K2 (by omega)).wrote K4 (by omega)
  have hL4 : _ = some (Value.int .i64 0) := K4.cell (K2.cell (p := ⟨L, 0, none⟩) hL (by simp; omega)) (by simp; omega)
  have zZ4 := ((zZ.wrote K2 (by omega) sZ).wrote K4 (by omega) (by have := K2.size; omega))
  have zL4 := ((zL.wrote K2 (by omega) sL).wrote K4 (by omega) (by have := K2.size; omega))
  have WW := (K2.more (T := fun i => i = C ∨ i = V ∨ i = O ∨ i = Z ∨ i = L) (fun _ h => by omega)).trans (K4.more (T := fun i => i = C ∨ i = V ∨ i = O ∨ i = Z ∨ i = L) (fun _ h => by omega))
  have sz4 : W.heap.size ≤ _ := WW.size
  clear K1 K2 K3 K4 KC1 KC2 hB1 hB2' hB3 zC1 zC2 zc zc2 hV1 q0 q1 r0 r1 hO2 zO2 e0 e1 e2 e3 e4 e5 e6 e7 U1 U2 t0 t1 y0 y1 d3 d4 b0 b1 b2 b3 b4 b5 b6 b7
  generalize hX : ((V2.setCell ⟨O, 0, none⟩ (.int .i64 X2)).setCell ⟨O, 1, none⟩ (.int .i64 Y2)).setCell ⟨C, 3, none⟩ (.int .i64 0) = M at *
  clear hX hV hO hZ hL zC zV zO zZ zL hB0 V1 V2
  have n0 := hZ4.1
  have n1 := hZ4.2
  have i0 := zZ4 0 none
  have i1 := zZ4 1 none
  have i2 := zL4 0 none
  have f1 := set_far hCZ
  have f2 := set_far hCL
  have f3 := set_far hLZ
  have f4 := set_far hZL
  go_region_held2 (fun w' => w'.cell? ⟨C, 0, none⟩ = some (.int .i64 s) ∧ w'.cell? ⟨C, 1, none⟩ = some (.int .i64 a) ∧ w'.cell? ⟨C, 2, none⟩ = some (.int .i64 b) ∧ w'.cell? ⟨C, 3, none⟩ = some (.int .i64 0) ∧ w'.cell? ⟨C, 4, none⟩ = some (.int .i64 p) ∧ w'.cell? ⟨C, 5, none⟩ = some (.int .i64 q) ∧ w'.cell? ⟨C, 6, none⟩ = some (.int .i64 x) ∧ w'.cell? ⟨C, 7, none⟩ = some (.int .i64 y)) (go_keep)
    (first
    | (go_at_call 13; go_fit (H3.out _); rintro e V3 ⟨rfl, U3⟩; have s3 := U3.size; try (simp at s3); have k1 := U3.cells (b := C) (by first | omega | (simp; omega)); have k2 := U3.cells (b := Z) (by first | omega | (simp; omega)); have k3 := U3.cells (b := L) (by first | omega | (simp; omega)); have k4 := U3.marks Z; have k5 := U3.marks L)
    | (go_at_call 15; go_fit (H4.out _); rintro e V4 ⟨rfl, U4⟩; have k6 := U4.cells (b := C) (by first | omega | (simp; omega)); have k7 := U4.cells (b := Z) (by first | omega | (simp; omega)); have k8 := U4.cells (b := L) (by first | omega | (simp; omega)); have k9 := U4.marks Z; have k10 := U4.marks L))
  go_wp2
  go_end0
  have GV : Grew M V4 := ((Grew.refl M).drew.trans U3).trans U4
  have AA := at_set2 V4 Z L hZL 0 0 0 0 0 _ (hZ4.grew GV) (GV.cell hL4)
  have KK : Wrote (fun i => i = Z ∨ i = L) M _ := wrote_set2 GV.wrote Z L (.inl rfl) (.inr rfl) (.int .i64 0) (.int .i64 0) (.int .i64 0)
  exact ⟨WW.trans (KK.more (fun _ h => by omega)), 0, .inl ⟨rfl, rfl⟩, rfl, hV2.wrote KK (by omega), hO4.wrote KK (by omega), AA.1, AA.2⟩

set_option maxHeartbeats 1000000 in
theorem walk (B0 : Bd) (o0 : B0.ok) (a1 : Int) (f1 : inF a1) (w : World) :
    Calls Try.prog 5 #[B0.val, .int .i64 a1] w fun e w' => e = .returned (.bool true) ∧ Grown w w' := by
  have hmf := mk_func
  unfold Bd.val
  by_cases hn : 1 ≤ a1 ∧ a1 ≤ 1000
  · obtain ⟨n1, n2⟩ := hn
    have q1 := eq_vec 17179869184 (-4294967296) 17179869184 (-4294967296)
    have q2 := eq_vec 8589934592 (-2147483648) 8589934592 (-2147483648)
    have q3 := eq_vec 0 0 0 0
    go_enter Try.func5, Try.ntmps5
    go_wp2_with (first
      | (go_at_call 8; go_fit (alive_any _); rintro e V ⟨rfl, G⟩; have z3 := G.cell (p := ⟨w.heap.size, 3, none⟩) (v := .int .i64 B0.m) (by simp [go_sem]); have z6 := G.cell (p := ⟨w.heap.size, 6, none⟩) (v := .int .i64 B0.u) (by simp [go_sem]); have z7 := G.cell (p := ⟨w.heap.size, 7, none⟩) (v := .int .i64 B0.v) (by simp [go_sem]); have y3 := G.frozen (p := ⟨w.heap.size, 3, none⟩) (by simp [go_sem]); have y6 := G.frozen (p := ⟨w.heap.size, 6, none⟩) (by simp [go_sem]); have y7 := G.frozen (p := ⟨w.heap.size, 7, none⟩) (by simp [go_sem])))
    obtain ⟨V', hV'⟩ : ∃ V', V' = ((V.setCell ⟨w.heap.size, 3, none⟩ (.int .i64 (a1 * 4294967296))).setCell ⟨w.heap.size, 6, none⟩ (.int .i64 (a1 * 4294967296 * 4))).setCell ⟨w.heap.size, 7, none⟩ (.int .i64 (-a1 * 4294967296)) := ⟨_, rfl⟩
    obtain ⟨M, hM⟩ : ∃ M, M = (((V'.alloc (.cells #[.int .i64 0, .int .i64 0] 24)).alloc (.cells #[.int .i64 0, .int .i64 0] 24)).alloc (.cells #[.int .i64 0, .int .i64 0] 24)).alloc (.cells #[.int .i64 0] 22) := ⟨_, rfl⟩
    rw [← hV', ← hM]
    have BV : BAt V w.heap.size B0 := BAt.grew (by constructor <;> simp [go_sem]) G
    have GV : Grew w V' := by rw [hV']; exact ((((((Grew.refl w).alloc _ _).trans G).setCell (by simp) _).setCell (by simp) _).setCell (by simp) _)
    have BV' : BAt V' w.heap.size ⟨B0.s, B0.a, B0.b, a1 * 4294967296, B0.p, B0.q, a1 * 4294967296 * 4, -a1 * 4294967296⟩ := by
      rw [hV']; obtain ⟨c0, c1, c2, c3, c4, c5, c6, c7⟩ := BV
      constructor <;> simp [go_sem, *]
    have sV : V'.heap.size = V.heap.size := by rw [hV']; simp [World.setCell]
    rw [← sV]
    clear hV' BV z3 z6 z7 y3 y6 y7 G sV
    have sw := BV'.size
    generalize hX : V'.heap.size = X at *
    have GM : Grew V' M := by rw [hM]; exact ((((Grew.refl V').alloc _ _).alloc _ _).alloc _ _).alloc _ _
    have sz : M.heap.size = X + 1 + 1 + 1 + 1 := by rw [hM]; simp [go_sem, hX]
    have hv : At M X 0 0 := by rw [hM]; constructor <;> simp [go_sem, hX]
    have ho : At M (X + 1) 0 0 := by rw [hM]; constructor <;> simp [go_sem, hX]
    have hz : At M (X + 1 + 1) 0 0 := by rw [hM]; constructor <;> simp [go_sem, hX]
    have hl : M.cell? ⟨X + 1 + 1 + 1, 0, none⟩ = some (.int .i64 0) := by rw [hM]; simp [go_sem, hX]
    have hb := BV'.grew GM
    have G1 := GV.trans GM
    have z0 : w.heap.size ≤ X := by have := GV.size; omega
    clear hM BV' GM GV hX
    refine (try_set (S := fun i => i = w.heap.size ∨ i = X ∨ i = X + 1 ∨ i = X + 1 + 1 ∨ i = X + 1 + 1 + 1) (P := fun k W => k = 0 ∧ At W X 17179869184 (-4294967296) ∧ At W (X + 1) 8589934592 (-2147483648) ∧ At W (X + 1 + 1) 0 0 ∧ W.cell? ⟨X + 1 + 1 + 1, 0, none⟩ = some (.int .i64 0)) _ _ _ (fun _ => by simp [go_sem]) (fun n hn => by omega) (fun k W W' hh h => ⟨h.1, h.2.1.heap (hh _ (by omega)), h.2.2.1.heap (hh _ (by omega)), h.2.2.2.1.heap (hh _ (by omega)), by rw [cell_of_heap (hh _ (by simp; omega))]; exact h.2.2.2.2⟩) (fun W0 g => ?_)).mono ?_
    · exact speeds1 w.heap.size X (X + 1) (X + 1 + 1) (X + 1 + 1 + 1) (by omega) (by omega) (by omega) (by omega) (by omega) (by omega) (by omega) (by omega) (by omega) (by omega) (by omega) (by omega) (by omega) (by omega) (by omega) (by omega) (by omega) (by omega) (by omega) (by omega) B0.s B0.a B0.b (a1 * 4294967296) B0.p B0.q (a1 * 4294967296 * 4) (-a1 * 4294967296) 17179869184 (-4294967296) 8589934592 (-2147483648) W0
        (hb.grew g) (hv.grew g) (ho.grew g) (hz.grew g) (g.cell hl) ((G1.trans g).freeB (by omega)) ((G1.trans g).freeB (by omega)) ((G1.trans g).freeB (by omega)) ((G1.trans g).freeB (by omega)) ((G1.trans g).freeB (by omega)) (by omega) (by omega)
        ⟨o0.s, o0.a, o0.b, ⟨by simp only; omega, by simp only; omega⟩, o0.p, o0.q, ⟨by simp only; omega, by simp only; omega⟩, ⟨by simp only; omega, by simp only; omega⟩⟩
        (speed_at _ _ _ _ _ _ _ _ _ _ (by omega) (by omega) (by omega) ⟨by decide, by decide⟩ ⟨by decide, by decide⟩) (speed_at _ _ _ _ _ _ _ _ _ _ (by omega) (by omega) (by omega) ⟨by decide, by decide⟩ ⟨by decide, by decide⟩)
    rintro e N ⟨hW, k, rfl, rfl, ⟨c0, c1⟩, ⟨c2, c3⟩, ⟨c4, c5⟩, c6⟩
    have G2 : Grew w N := hW.to G1 (fun n hn => by omega)
    clear hW hb hv ho hz hl G1
    go_wp2
    go_ret
    exact ⟨rfl, G2.grown⟩
  · go_enter Try.func5, Try.ntmps5
    rcases (show a1 < 1 ∨ (1 ≤ a1 ∧ 1000 < a1) by omega) with n1 | ⟨n1, n2⟩
    all_goals
      clear hn
      go_wp2_with (first
        | (go_at_call 8; go_fit (alive_any _); rintro e V ⟨rfl, G⟩))
      go_ret
      exact ⟨rfl, (((Grew.refl w).alloc _ _).trans G).grown⟩

set_option maxRecDepth 100000 in
theorem lifted (os : Os) (started : os.Started) (H : Type) (enc : TypeId × Value → H) :
    ReturnsInHanded {} Try.checked os 5 .any (Rows.shapeSpeedsSpec.pre6 enc Try.prog Try.f5 Rows.shapeSpeedsRow.domain false) (Rows.shapeSpeedsSpec.post enc Try.prog Try.f5 false true false false) := by
  refine returnsInHanded_of_change (C := Try.checked) own started (by kernel_rfl) Try.func5
    (ChangeSpec.witness6 (enc := enc) (C := Try.checked) false ⟨#[], #[.agg #[.int .i64 0, .int .i64 0, .int .i64 0, .int .i64 0, .int .i64 0, .int .i64 0, .int .i64 0, .int .i64 0], .int .i64 0], []⟩ 8 (by kernel_rfl) (by kernel_rfl) (by kernel_rfl) (by kernel_rfl)) ?_
  intro W base args ds gs before hval0 hW hcnd _
  have hval : ∀ (j : Nat) t v, Try.f5.params[j]? = some t → args[j]? = some v → Value.okWide Try.prog W .any base t v := hval0
  have hW' := hW
  obtain ⟨p, q, hA0, hV, rfl, hfz, hnd⟩ := hW
  have hA : DataW.TrodAll enc Try.prog W 0 (fun _ => true) true Try.f5.params.toList args.toList ds p := hA0
  rw [Try.params5] at hA hval
  obtain ⟨v0, vs0, d0, ds0, p0, q0, hargs, rfl, rfl, h0, r0⟩ := trodAll_cons hA
  obtain ⟨v1, vs1, d1, ds1, p1, q1, rfl, rfl, rfl, h1, r1⟩ := trodAll_cons r0
  obtain ⟨rfl, rfl, rfl⟩ := trodAll_nil r1
  obtain rfl : args = #[v0, v1] := by cases args; simp_all
  obtain ⟨rfl, rfl⟩ := trodVars_none hV
  obtain ⟨B0, rfl, rfl, rfl, o0⟩ := open_body (hval 0 26 v0 rfl rfl) h0
  obtain ⟨a1, rfl, rfl, rfl, w1⟩ := open_int Try.underlying3 (hval 1 3 v1 rfl rfl) h1
  have f1 := inF_wf w1
  clear hA0 hval0
  simp only [List.append_nil] at hW'
  refine (walk B0 o0 a1 f1 W).mono fun e W' ⟨he, hg⟩ => ?_
  subst he
  exact ⟨_, rfl, post_of_same (pa := []) (pv := []) hW' (fun _ _ _ => (trodAll_cons_mk (shut_bool Try.underlying4 _) trodAll_mk0)) (fun sp _ => (trodAll_cons_mk (shut_body o0) (trodAll_cons_mk (shut_int Try.underlying3 w1) trodAll_mk0))) (fun _ _ => rfl) rfl
    (hg.frame _) hg.2.1 (ok_one (by kernel_rfl) rfl (okWide_bool_mk Try.underlying4 _))⟩

theorem over : Rows.shapeSpeedsRow.holds Try.pinned (OpenSpec.ofChange Rows.shapeSpeedsSpec) :=
  OpenClaim.holds_of_wide 5 Try.f5 rfl rfl rfl rfl rfl rfl rfl ⟨rfl, rfl, rfl, rfl, rfl⟩ rfl rfl rfl rfl rfl (by kernel_rfl) Try.func5 (by kernel_rfl)
    (of_decide_eq_true (by kernel_rfl)) (by unfold Func.isWrapper; first | (rw [if_pos (by decide +kernel)]; kernel_rfl) | (rw [if_neg (by decide +kernel)]; exact ⟨rfl, rfl⟩))
    (fun os started H enc _ => lifted os started H enc)

theorem proved : Rows.ShapeSpeedsSaid :=
  over
end Go.Proofs.Ythfecjmgmnjaoaa.shapeSpeeds

namespace Go.Proofs.Ythfecjmgmnjaoaa
theorem shapeSpeeds_holds : Rows.ShapeSpeedsSaid := shapeSpeeds.proved
end Go.Proofs.Ythfecjmgmnjaoaa

/-
  Proved: maquettelaw8.BoundsTells returns true for every body b, every two boxes x and y and every place v (every body's box; every two boxes, whether they meet, the box around both; every place, whether it is in one, the nearest one), and leaves what it was given as it was; no condition.
-/
import Derived.Test.YtlfncfjlfccfhaaRows
import Derived.Test.YtlfncfjlfccfhaaXAlive
import Derived.Test.YtlfncfjlfccfhaaXData
import Derived.Test.YtlfncfjlfccfhaaXQuiet
import Derived.Test.YtlfncfjlfccfhaaXEq
import Derived.Test.YtlfncfjlfccfhaaXRef
import Derived.WalkKit
import Derived.Deep.QuietTactic
import Derived.BigQuiet
import Derived.WalkSpells
import Derived.Deep.CutRange
import Derived.Deep.CutBlock
import Derived.WalkLawsBesides
import Derived.ProofKit
import Derived.OpenShut
namespace Go.Proofs.Ytlfncfjlfccfhaa.boundsTells
open Go.ChangeShapes Go.WideShapes Go.ChangeAt Go.RowKit
set_option linter.unusedVariables false

theorem own : ownKnob Try.prog.godebug = none := by kernel_rfl

set_option maxHeartbeats 400000 in
theorem of1_any (C X : Nat) (hCX : C ≠ X) (B : Bd) (hB : B.ok) (W : World) (t : Bx × Int) (ht : boxR B = t) (hC : BAt W C B) (hX : XAt W X ⟨0, 0, 0, 0⟩) (z : Free W X) :
    Calls Try.prog 11 #[.pointer (some ⟨C, 0, none⟩), .pointer (some ⟨X, 0, none⟩)] W fun e w' =>
      Wrote (fun n => n = X) W w' ∧ ∃ k, (e = .returned (.tuple #[]) ∧ k = 0 ∨ e = .panicked [fault k]) ∧ LeftX X t k w' := by
  have HO : Hid (∀ W, _) := fun W => waysX_of (of_box B hB W)
  rw [ht] at HO
  unfold Bd.val Bx.val at HO
  obtain ⟨b0, b1, b2, b3, b4, b5, b6, b7⟩ := hC
  obtain ⟨u0, u1, u2, u3⟩ := hX
  simp only at u0 u1 u2 u3
  go_enter Try.func11, Try.ntmps11
  go_wp2_with (first
    | (go_at_call 12; go_fit (HO.out _); rintro e V ⟨(⟨rfl, h1⟩ | ⟨rfl, h1⟩), U⟩; have c0 := U.cell u0; have c1 := U.cell u1; have c2 := U.cell u2; have c3 := U.cell u3; have z0 := U.frozen (z 0 none); have z1 := U.frozen (z 1 none); have z2 := U.frozen (z 2 none); have z3 := U.frozen (z 3 none)))
  · go_end0
    exact ⟨U.set4 X _ _ _ _, 0, .inl ⟨rfl, rfl⟩, h1.out.symm, fun _ => xat_set V X ⟨0, 0, 0, 0⟩ t.1 ⟨c0, c1, c2, c3⟩⟩
  · exact ⟨rfl, U.wrote, t.2, .inr rfl, rfl, fun h => (h1.out h).elim⟩

set_option maxRecDepth 10000 in
set_option maxHeartbeats 8000000 in
theorem walk (B0 : Bd) (o0 : B0.ok) (X1 : Bx) (o1 : X1.ok) (X2 : Bx) (o2 : X2.ok) (x3 y3 : Int) (f3 : inF x3) (g3 : inF y3) (w : World) :
    Calls Try.prog 3 #[B0.val, X1.val, X2.val, vec x3 y3] w fun e w' => e = .returned (.bool true) ∧ Grown w w' := by
  have hmf := mk_func
  have H1 : Hid (∀ W b, Err W b 0 0 → _) := fun W b => rbox_any b B0 o0 W
  have H2 : Hid (∀ C X W, C ≠ X → BAt W C B0 → XAt W X ⟨0, 0, 0, 0⟩ → Free W X → _) := fun C X W h1 h2 h3 h4 => of1_any C X h1 B0 o0 W _ rfl h2 h3 h4
  have HM : Hid (∀ W, _) := fun W => meet_any X1 X2 W
  have HN : Hid (∀ W, _) := fun W => rmeet_any X1 X2 W
  have HB : Hid (∀ W, _) := fun W => both_any X1 X2 W
  have HI : Hid (∀ W, _) := fun W => in_any x3 y3 X1 W
  have HC : Hid (∀ W, _) := fun W => clamp_any x3 y3 X1 W
  have HD : Hid (∀ W, _) := fun W => rclamp_any x3 y3 X1 W
  have hI : Hid _ := inB_iff x3 y3 X1
  unfold bothB at HB
  obtain ⟨l, hl⟩ : ∃ l, min X1.l X2.l = l := ⟨_, rfl⟩
  obtain ⟨m, hm⟩ : ∃ m, min X1.m X2.m = m := ⟨_, rfl⟩
  obtain ⟨h, hh⟩ : ∃ h, max X1.h X2.h = h := ⟨_, rfl⟩
  obtain ⟨k, hk⟩ : ∃ k, max X1.k X2.k = k := ⟨_, rfl⟩
  rw [hl, hm, hh, hk] at HB
  unfold Bx.val at HM HN HB HI HC HD ⊢
  unfold Bd.val at H1 ⊢
  simp only at HB
  unfold vec
  generalize boxR B0 = t at *
  obtain ⟨⟨tl, tm, th, tk⟩, te⟩ := t
  simp only at H1 H2
  generalize meetB X1 X2 = mt at *
  generalize inB x3 y3 X1 = ib at *
  generalize nearI x3 X1.l X1.h = cx at *
  generalize nearI y3 X1.m X1.k = cy at *
  clear o0 o1 o2 f3 g3
  go_enter Try.func3, Try.ntmps3
  go_wp2_with (first
    | (go_at_call 8; go_fit (alive_any _); rintro e V ⟨rfl, G⟩; have a0 := G.cell (p := ⟨w.heap.size + 1, 0, none⟩) (v := .int .i64  X1.l) (by simp [go_sem]); have a1 := G.cell (p := ⟨w.heap.size + 1, 1, none⟩) (v := .int .i64  X1.m) (by simp [go_sem]); have a2 := G.cell (p := ⟨w.heap.size + 1, 2, none⟩) (v := .int .i64  X1.h) (by simp [go_sem]); have a3 := G.cell (p := ⟨w.heap.size + 1, 3, none⟩) (v := .int .i64  X1.k) (by simp [go_sem]); have b0 := G.cell (p := ⟨w.heap.size + 2, 0, none⟩) (v := .int .i64  X2.l) (by simp [go_sem]); have b1 := G.cell (p := ⟨w.heap.size + 2, 1, none⟩) (v := .int .i64  X2.m) (by simp [go_sem]); have b2 := G.cell (p := ⟨w.heap.size + 2, 2, none⟩) (v := .int .i64  X2.h) (by simp [go_sem]); have b3 := G.cell (p := ⟨w.heap.size + 2, 3, none⟩) (v := .int .i64  X2.k) (by simp [go_sem]); have c0 := G.cell (p := ⟨w.heap.size + 3, 0, none⟩) (v := .int .i64  x3) (by simp [go_sem]); have c1 := G.cell (p := ⟨w.heap.size + 3, 1, none⟩) (v := .int .i64  y3) (by simp [go_sem]); have d0 := (G.alloc #[.int .i64 0] 32).cell (p := ⟨w.heap.size, 0, none⟩) (v := .int .i64 B0.s) (by simp [go_sem]); have d1 := (G.alloc #[.int .i64 0] 32).cell (p := ⟨w.heap.size, 1, none⟩) (v := .int .i64 B0.a) (by simp [go_sem]); have d2 := (G.alloc #[.int .i64 0] 32).cell (p := ⟨w.heap.size, 2, none⟩) (v := .int .i64 B0.b) (by simp [go_sem]); have d3 := (G.alloc #[.int .i64 0] 32).cell (p := ⟨w.heap.size, 3, none⟩) (v := .int .i64 B0.m) (by simp [go_sem]); have d4 := (G.alloc #[.int .i64 0] 32).cell (p := ⟨w.heap.size, 4, none⟩) (v := .int .i64 B0.p) (by simp [go_sem]); have d5 := (G.alloc #[.int .i64 0] 32).cell (p := ⟨w.heap.size, 5, none⟩) (v := .int .i64 B0.q) (by simp [go_sem]); have d6 := (G.alloc #[.int .i64 0] 32).cell (p := ⟨w.heap.size, 6, none⟩) (v := .int .i64 B0.u) (by simp [go_sem]); have d7 := (G.alloc #[.int .i64 0] 32).cell (p := ⟨w.heap.size, 7, none⟩) (v := .int .i64 B0.v) (by simp [go_sem]); have hB : BAt V w.heap.size B0 := BAt.grew (by constructor <;> simp [go_sem]) G)
    | (go_at_call 9; go_fit (H1.out _ _ ⟨by simp [go_sem], by simp [go_sem]⟩); rintro e V1 ⟨⟨x, rfl, hx⟩, E1, U1⟩))
  have sV := G.size
  simp at sV
  have GV : Grew w V := (((((Grew.refl w).alloc _ _).alloc _ _).alloc _ _).alloc _ _).trans G
  have GN : Grew V (V.alloc (.cells #[.int .i64 0] 32)) := (Grew.refl V).alloc _ _
  have P1 : Past V.heap.size V V1 := GN.past.trans U1
  have sN : V.heap.size + 1 ≤ V1.heap.size := by have := U1.size; simp at this; omega
  have GV1 : Grew w V1 := P1.grew w (by omega) GV
  have hB1 : BAt V1 w.heap.size B0 := hB.heap (P1.block _ (by omega) (by omega))
  replace a0 := P1.cell (by simp; omega) a0
  replace a1 := P1.cell (by simp; omega) a1
  replace a2 := P1.cell (by simp; omega) a2
  replace a3 := P1.cell (by simp; omega) a3
  replace b0 := P1.cell (by simp; omega) b0
  replace b1 := P1.cell (by simp; omega) b1
  replace b2 := P1.cell (by simp; omega) b2
  replace b3 := P1.cell (by simp; omega) b3
  replace c0 := P1.cell (by simp; omega) c0
  replace c1 := P1.cell (by simp; omega) c1
  obtain ⟨b, hb⟩ : ∃ b, V.heap.size = b := ⟨_, rfl⟩
  rw [hb] at P1 sN sV E1 ⊢
  clear d0 d1 d2 d3 d4 d5 d6 d7 U1 GN P1 hB G GV hb H1
  obtain ⟨M, hM⟩ : ∃ M, M = (V1.alloc (.cells #[.int .i64 x.l, .int .i64 x.m, .int .i64 x.h, .int .i64 x.k] 28)).alloc (.cells #[.int .i64 0, .int .i64 0, .int .i64 0, .int .i64 0] 28) := ⟨_, rfl⟩
  rw [← hM]
  have gM : Grew V1 M := by rw [hM]; exact ((Grew.refl V1).alloc _ _).alloc _ _
  have sM : M.heap.size = V1.heap.size + 1 + 1 := by rw [hM]; simp [go_sem]
  have xw : XAt M V1.heap.size x := by rw [hM]; constructor <;> simp [go_sem]
  have xo : XAt M (V1.heap.size + 1) ⟨0, 0, 0, 0⟩ := by rw [hM]; constructor <;> simp [go_sem]
  have zo : ∀ W, Grew M W → Free W (V1.heap.size + 1) := fun W g => (gM.trans g).freeB (by omega)
  obtain ⟨X, hX⟩ : ∃ X, V1.heap.size = X := ⟨_, rfl⟩
  rw [hX] at sM xw xo zo sN ⊢
  have hB2 := hB1.grew gM
  have E2 := (E1.grew gM).1
  have GM : Grew w M := GV1.trans gM
  replace a0 := gM.cell a0
  replace a1 := gM.cell a1
  replace a2 := gM.cell a2
  replace a3 := gM.cell a3
  replace b0 := gM.cell b0
  replace b1 := gM.cell b1
  replace b2 := gM.cell b2
  replace b3 := gM.cell b3
  replace c0 := gM.cell c0
  replace c1 := gM.cell c1
  clear hM hX hB1 E1 gM GV1
  refine (try_set (S := fun n => n = X + 1) (P := LeftX (X + 1) (⟨tl, tm, th, tk⟩, te)) _ _ _ (fun _ => by simp [go_sem]) (fun n hn => by omega) (LeftX.keep (by omega)) ?_).mono ?_
  · intro W0 g
    exact H2.out _ _ W0 (by omega) (hB2.grew g) (xo.grew g) (zo W0 g)
  rintro e N ⟨hN, y, rfl, hy, hy2⟩
  simp only at hy hy2
  subst hy
  have GP : Hid (Grew w N) := hN.to GM (fun n hn => by have := GM.size; omega)
  replace a0 := hN.cell a0 (by simp; omega)
  replace a1 := hN.cell a1 (by simp; omega)
  replace a2 := hN.cell a2 (by simp; omega)
  replace a3 := hN.cell a3 (by simp; omega)
  replace b0 := hN.cell b0 (by simp; omega)
  replace b1 := hN.cell b1 (by simp; omega)
  replace b2 := hN.cell b2 (by simp; omega)
  replace b3 := hN.cell b3 (by simp; omega)
  replace c0 := hN.cell c0 (by simp; omega)
  replace c1 := hN.cell c1 (by simp; omega)
  have E3 := hN.cell E2 (by simp; omega)
  have xw3 := xw.wrote hN (by omega)
  have HX : Hid (_ → _) := hx
  have HY : Hid (_ → _) := hy2
  have sNN := hN.size
  clear hN xo zo hB2 GM E2 xw hx hy2 H2
  go_upto_region 8 with (fail)
  obtain ⟨R, hR⟩ : ∃ R, R = N.alloc (.cells #[.int .i64 l, .int .i64 m, .int .i64 h, .int .i64 k] 28) := ⟨_, rfl⟩
  rw [← hR]
  have gR : Grew N R := by rw [hR]; exact (Grew.refl N).alloc _ _
  have d0 : R.cell? ⟨N.heap.size, 0, none⟩ = some (.int .i64 l) := by rw [hR]; simp [go_sem]
  have d1 : R.cell? ⟨N.heap.size, 1, none⟩ = some (.int .i64 m) := by rw [hR]; simp [go_sem]
  have d2 : R.cell? ⟨N.heap.size, 2, none⟩ = some (.int .i64 h) := by rw [hR]; simp [go_sem]
  have d3 : R.cell? ⟨N.heap.size, 3, none⟩ = some (.int .i64 k) := by rw [hR]; simp [go_sem]
  have GR : Hid (Grew w R) := GP.out.trans gR
  replace E3 := gR.cell E3
  replace xw3 := xw3.grew gR
  replace HY : Hid (y = 0 → XAt R (X + 1) ⟨tl, tm, th, tk⟩) := fun g => (HY.out g).grew gR
  replace a0 := gR.cell a0
  replace a1 := gR.cell a1
  replace a2 := gR.cell a2
  replace a3 := gR.cell a3
  replace b0 := gR.cell b0
  replace b1 := gR.cell b1
  replace b2 := gR.cell b2
  replace b3 := gR.cell b3
  replace c0 := gR.cell c0
  replace c1 := gR.cell c1
  clear hR gR GP hl hm hh hk
  go_cut [14] from 17 to 81 (fun s wx => s = .bool ib ∧ wx = R)
  case first =>
    clear HM HN HB HI HC HD E3 xw3 HX HY d0 d1 d2 d3 b0 b1 b2 b3 sNN sM sN sV
    go_wp2
    all_goals
      go_meet
      case rel =>
        refine ⟨congrArg Value.bool ?_, rfl⟩
        have g := hI.out
        clear hI a0 a1 a2 a3 c0 c1 GR hmf
        rw [Bool.eq_iff_iff, g]
        simp at *
        omega
  obtain ⟨rfl, rfl⟩ := hcut
  clear hI
  go_wp2_with (fail)
  have e1 := same_box l m h k
  have e2 := same_box tl tm th tk
  have e3 := same_vec cx cy
  by_cases hy : y = 0
  · subst hy
    obtain rfl := HX.out rfl
    obtain ⟨g0, g1, g2, g3⟩ := HY.out rfl
    obtain ⟨h0, h1, h2, h3⟩ := xw3
    simp only at g0 g1 g2 g3 h0 h1 h2 h3
    clear HX HY
    have qSp0 : Hid (∀ w', Grew wc w' → (w'.cell? ⟨b, 0, none⟩ = some (.int .i64 0))) := fun w' g => g.cell E3
    have qSp1 : Hid (∀ w', Grew wc w' → (w'.cell? ⟨w.heap.size + 1, 0, none⟩ = some (.int .i64 X1.l) ∧ w'.cell? ⟨w.heap.size + 1, 1, none⟩ = some (.int .i64 X1.m) ∧ w'.cell? ⟨w.heap.size + 1, 2, none⟩ = some (.int .i64 X1.h) ∧ w'.cell? ⟨w.heap.size + 1, 3, none⟩ = some (.int .i64 X1.k))) := fun w' g => ⟨g.cell a0, g.cell a1, g.cell a2, g.cell a3⟩
    have qSp2 : Hid (∀ w', Grew wc w' → (w'.cell? ⟨w.heap.size + 2, 0, none⟩ = some (.int .i64 X2.l) ∧ w'.cell? ⟨w.heap.size + 2, 1, none⟩ = some (.int .i64 X2.m) ∧ w'.cell? ⟨w.heap.size + 2, 2, none⟩ = some (.int .i64 X2.h) ∧ w'.cell? ⟨w.heap.size + 2, 3, none⟩ = some (.int .i64 X2.k))) := fun w' g => ⟨g.cell b0, g.cell b1, g.cell b2, g.cell b3⟩
    have qSp3 : Hid (∀ w', Grew wc w' → (w'.cell? ⟨w.heap.size + 3, 0, none⟩ = some (.int .i64 x3) ∧ w'.cell? ⟨w.heap.size + 3, 1, none⟩ = some (.int .i64 y3))) := fun w' g => ⟨g.cell c0, g.cell c1⟩
    have qSp4 : Hid (∀ w', Grew wc w' → (w'.cell? ⟨N.heap.size, 0, none⟩ = some (.int .i64 l) ∧ w'.cell? ⟨N.heap.size, 1, none⟩ = some (.int .i64 m) ∧ w'.cell? ⟨N.heap.size, 2, none⟩ = some (.int .i64 h) ∧ w'.cell? ⟨N.heap.size, 3, none⟩ = some (.int .i64 k))) := fun w' g => ⟨g.cell d0, g.cell d1, g.cell d2, g.cell d3⟩
    have qSp5 : Hid (∀ w', Grew wc w' → (w'.cell? ⟨X + 1, 0, none⟩ = some (.int .i64 tl) ∧ w'.cell? ⟨X + 1, 1, none⟩ = some (.int .i64 tm) ∧ w'.cell? ⟨X + 1, 2, none⟩ = some (.int .i64 th) ∧ w'.cell? ⟨X + 1, 3, none⟩ = some (.int .i64 tk))) := fun w' g => ⟨g.cell g0, g.cell g1, g.cell g2, g.cell g3⟩
    have qSp6 : Hid (∀ w', Grew wc w' → (w'.cell? ⟨X, 0, none⟩ = some (.int .i64 tl) ∧ w'.cell? ⟨X, 1, none⟩ = some (.int .i64 tm) ∧ w'.cell? ⟨X, 2, none⟩ = some (.int .i64 th) ∧ w'.cell? ⟨X, 3, none⟩ = some (.int .i64 tk))) := fun w' g => ⟨g.cell h0, g.cell h1, g.cell h2, g.cell h3⟩
    refine kept_region wc (by kernel_rfl) (by kernel_rfl) ?_
    refine kept_want ?vp0 (by rfl) ?yp0 ?rp0
    case yp0 => (intro w' hG; clear hG; go_simp; try (with_reducible rfl))
    simp only [Act.put, List.setIfInBounds_toArray, List.set_cons_zero, List.set_cons_succ]
    refine kept_want ?vp1 (by rfl) ?yp1 ?rp1
    case yp1 => (intro w' hG; clear hG; go_simp; try (with_reducible rfl))
    simp only [Act.put, List.setIfInBounds_toArray, List.set_cons_zero, List.set_cons_succ]
    refine kept_want ?vp2 (by rfl) ?yp2 ?rp2
    case yp2 => (intro w' hG; have q0_0 := qSp0.out w' hG; clear hG; go_simp; try (with_reducible rfl))
    simp only [Act.put, List.setIfInBounds_toArray, List.set_cons_zero, List.set_cons_succ]
    refine kept_want ?vp3 (by rfl) ?yp3 ?rp3
    case yp3 => (intro w' hG; clear hG; go_simp; try (with_reducible rfl))
    simp only [Act.put, List.setIfInBounds_toArray, List.set_cons_zero, List.set_cons_succ]
    refine kept_want ?vp4 (by rfl) ?yp4 ?rp4
    case yp4 => (intro w' hG; clear hG; go_simp; try (with_reducible rfl))
    simp only [Act.put, List.setIfInBounds_toArray, List.set_cons_zero, List.set_cons_succ]
    refine kept_want ?vp5 (by rfl) ?yp5 ?rp5
    case yp5 => (intro w' hG; clear hG; go_simp; try (with_reducible rfl))
    simp only [Act.put, List.setIfInBounds_toArray, List.set_cons_zero, List.set_cons_succ]
    refine kept_want ?vp6 (by rfl) ?yp6 ?rp6
    case yp6 => (intro w' hG; clear hG; go_simp; try (with_reducible rfl))
    simp only [Act.put, List.setIfInBounds_toArray, List.set_cons_zero, List.set_cons_succ]
    refine kept_want ?vp7 (by rfl) ?yp7 ?rp7
    case yp7 => (intro w' hG; clear hG; go_simp; try (with_reducible rfl))
    simp only [Act.put, List.setIfInBounds_toArray, List.set_cons_zero, List.set_cons_succ]
    refine kept_want ?vp8 (by rfl) ?yp8 ?rp8
    case yp8 => (intro w' hG; obtain ⟨q5_0, q5_1, q5_2, q5_3⟩ := qSp5.out w' hG; clear hG; go_simp; try (with_reducible rfl))
    simp only [Act.put, List.setIfInBounds_toArray, List.set_cons_zero, List.set_cons_succ]
    refine kept_want ?vp9 (by rfl) ?yp9 ?rp9
    case yp9 => (intro w' hG; obtain ⟨q6_0, q6_1, q6_2, q6_3⟩ := qSp6.out w' hG; clear hG; go_simp; try (with_reducible rfl))
    simp only [Act.put, List.setIfInBounds_toArray, List.set_cons_zero, List.set_cons_succ]
    refine kept_want ?vp10 (by rfl) ?yp10 ?rp10
    case yp10 => (intro w' hG; clear hG; go_simp; try (with_reducible rfl))
    simp only [Act.put, List.setIfInBounds_toArray, List.set_cons_zero, List.set_cons_succ]
    refine kept_want ?vp11 (by rfl) ?yp11 ?rp11
    case yp11 => (intro w' hG; clear hG; go_simp; try (with_reducible rfl))
    simp only [Act.put, List.setIfInBounds_toArray, List.set_cons_zero, List.set_cons_succ]
    refine kept_want ?vp12 (by rfl) ?yp12 ?rp12
    case yp12 => (intro w' hG; clear hG; go_simp; try (with_reducible rfl))
    simp only [Act.put, List.setIfInBounds_toArray, List.set_cons_zero, List.set_cons_succ]
    refine kept_want ?vp13 (by rfl) ?yp13 ?rp13
    case yp13 => (intro w' hG; clear hG; go_simp; try (with_reducible rfl))
    simp only [Act.put, List.setIfInBounds_toArray, List.set_cons_zero, List.set_cons_succ]
    refine kept_want ?vp14 (by rfl) ?yp14 ?rp14
    case yp14 => (intro w' hG; obtain ⟨q1_0, q1_1, q1_2, q1_3⟩ := qSp1.out w' hG; clear hG; go_simp; try (with_reducible rfl))
    simp only [Act.put, List.setIfInBounds_toArray, List.set_cons_zero, List.set_cons_succ]
    refine kept_want ?vp15 (by rfl) ?yp15 ?rp15
    case yp15 => (intro w' hG; obtain ⟨q2_0, q2_1, q2_2, q2_3⟩ := qSp2.out w' hG; clear hG; go_simp; try (with_reducible rfl))
    simp only [Act.put, List.setIfInBounds_toArray, List.set_cons_zero, List.set_cons_succ]
    refine kept_want ?vp16 (by rfl) ?yp16 ?rp16
    case yp16 => (intro w' hG; go_simp; refine (HM.out _).mono ?_; rintro e w'' ⟨rfl, U⟩; refine ⟨?_, hG.trans U⟩; with_reducible rfl)
    simp only [Act.put, List.setIfInBounds_toArray, List.set_cons_zero, List.set_cons_succ]
    refine kept_want ?vp17 (by rfl) ?yp17 ?rp17
    case yp17 => (intro w' hG; obtain ⟨q1_0, q1_1, q1_2, q1_3⟩ := qSp1.out w' hG; clear hG; go_simp; try (with_reducible rfl))
    simp only [Act.put, List.setIfInBounds_toArray, List.set_cons_zero, List.set_cons_succ]
    refine kept_want ?vp18 (by rfl) ?yp18 ?rp18
    case yp18 => (intro w' hG; obtain ⟨q2_0, q2_1, q2_2, q2_3⟩ := qSp2.out w' hG; clear hG; go_simp; try (with_reducible rfl))
    simp only [Act.put, List.setIfInBounds_toArray, List.set_cons_zero, List.set_cons_succ]
    refine kept_want ?vp19 (by rfl) ?yp19 ?rp19
    case yp19 => (intro w' hG; go_simp; refine (HN.out _).mono ?_; rintro e w'' ⟨rfl, U⟩; refine ⟨?_, hG.trans U⟩; with_reducible rfl)
    simp only [Act.put, List.setIfInBounds_toArray, List.set_cons_zero, List.set_cons_succ]
    refine kept_want ?vp20 (by rfl) ?yp20 ?rp20
    case yp20 => (intro w' hG; clear hG; go_simp; try (with_reducible rfl))
    simp only [Act.put, List.setIfInBounds_toArray, List.set_cons_zero, List.set_cons_succ]
    refine kept_want ?vp21 (by rfl) ?yp21 ?rp21
    case yp21 => (intro w' hG; clear hG; go_simp; try (with_reducible rfl))
    simp only [Act.put, List.setIfInBounds_toArray, List.set_cons_zero, List.set_cons_succ]
    refine kept_want ?vp22 (by rfl) ?yp22 ?rp22
    case yp22 => (intro w' hG; clear hG; go_simp; try (with_reducible rfl))
    simp only [Act.put, List.setIfInBounds_toArray, List.set_cons_zero, List.set_cons_succ]
    refine kept_want ?vp23 (by rfl) ?yp23 ?rp23
    case yp23 => (intro w' hG; obtain ⟨q1_0, q1_1, q1_2, q1_3⟩ := qSp1.out w' hG; clear hG; go_simp; try (with_reducible rfl))
    simp only [Act.put, List.setIfInBounds_toArray, List.set_cons_zero, List.set_cons_succ]
    refine kept_want ?vp24 (by rfl) ?yp24 ?rp24
    case yp24 => (intro w' hG; obtain ⟨q2_0, q2_1, q2_2, q2_3⟩ := qSp2.out w' hG; clear hG; go_simp; try (with_reducible rfl))
    simp only [Act.put, List.setIfInBounds_toArray, List.set_cons_zero, List.set_cons_succ]
    refine kept_want ?vp25 (by rfl) ?yp25 ?rp25
    case yp25 => (intro w' hG; go_simp; refine (HB.out _).mono ?_; rintro e w'' ⟨rfl, U⟩; refine ⟨?_, hG.trans U⟩; with_reducible rfl)
    simp only [Act.put, List.setIfInBounds_toArray, List.set_cons_zero, List.set_cons_succ]
    refine kept_want ?vp26 (by rfl) ?yp26 ?rp26
    case yp26 => (intro w' hG; obtain ⟨q4_0, q4_1, q4_2, q4_3⟩ := qSp4.out w' hG; clear hG; go_simp; try (with_reducible rfl))
    simp only [Act.put, List.setIfInBounds_toArray, List.set_cons_zero, List.set_cons_succ]
    refine kept_want ?vp27 (by rfl) ?yp27 ?rp27
    case yp27 => (intro w' hG; clear hG; go_simp; try (with_reducible rfl))
    simp only [Act.put, List.setIfInBounds_toArray, List.set_cons_zero, List.set_cons_succ]
    refine kept_want ?vp28 (by rfl) ?yp28 ?rp28
    case yp28 => (intro w' hG; clear hG; go_simp; try (with_reducible rfl))
    simp only [Act.put, List.setIfInBounds_toArray, List.set_cons_zero, List.set_cons_succ]
    refine kept_want ?vp29 (by rfl) ?yp29 ?rp29
    case yp29 => (intro w' hG; clear hG; go_simp; try (with_reducible rfl))
    simp only [Act.put, List.setIfInBounds_toArray, List.set_cons_zero, List.set_cons_succ]
    refine kept_want ?vp30 (by rfl) ?yp30 ?rp30
    case yp30 => (intro w' hG; obtain ⟨q3_0, q3_1⟩ := qSp3.out w' hG; clear hG; go_simp; try (with_reducible rfl))
    simp only [Act.put, List.setIfInBounds_toArray, List.set_cons_zero, List.set_cons_succ]
    refine kept_want ?vp31 (by rfl) ?yp31 ?rp31
    case yp31 => (intro w' hG; obtain ⟨q1_0, q1_1, q1_2, q1_3⟩ := qSp1.out w' hG; clear hG; go_simp; try (with_reducible rfl))
    simp only [Act.put, List.setIfInBounds_toArray, List.set_cons_zero, List.set_cons_succ]
    refine kept_want ?vp32 (by rfl) ?yp32 ?rp32
    case yp32 => (intro w' hG; go_simp; refine (HI.out _).mono ?_; rintro e w'' ⟨rfl, U⟩; refine ⟨?_, hG.trans U⟩; with_reducible rfl)
    simp only [Act.put, List.setIfInBounds_toArray, List.set_cons_zero, List.set_cons_succ]
    refine kept_want ?vp33 (by rfl) ?yp33 ?rp33
    case yp33 => (intro w' hG; clear hG; go_simp; try (with_reducible rfl))
    simp only [Act.put, List.setIfInBounds_toArray, List.set_cons_zero, List.set_cons_succ]
    refine kept_want ?vp34 (by rfl) ?yp34 ?rp34
    case yp34 => (intro w' hG; clear hG; go_simp; try (with_reducible rfl))
    simp only [Act.put, List.setIfInBounds_toArray, List.set_cons_zero, List.set_cons_succ]
    refine kept_want ?vp35 (by rfl) ?yp35 ?rp35
    case yp35 => (intro w' hG; clear hG; go_simp; try (with_reducible rfl))
    simp only [Act.put, List.setIfInBounds_toArray, List.set_cons_zero, List.set_cons_succ]
    refine kept_want ?vp36 (by rfl) ?yp36 ?rp36
    case yp36 => (intro w' hG; clear hG; go_simp; try (with_reducible rfl))
    simp only [Act.put, List.setIfInBounds_toArray, List.set_cons_zero, List.set_cons_succ]
    refine kept_want ?vp37 (by rfl) ?yp37 ?rp37
    case yp37 => (intro w' hG; obtain ⟨q3_0, q3_1⟩ := qSp3.out w' hG; clear hG; go_simp; try (with_reducible rfl))
    simp only [Act.put, List.setIfInBounds_toArray, List.set_cons_zero, List.set_cons_succ]
    refine kept_want ?vp38 (by rfl) ?yp38 ?rp38
    case yp38 => (intro w' hG; obtain ⟨q1_0, q1_1, q1_2, q1_3⟩ := qSp1.out w' hG; clear hG; go_simp; try (with_reducible rfl))
    simp only [Act.put, List.setIfInBounds_toArray, List.set_cons_zero, List.set_cons_succ]
    refine kept_want ?vp39 (by rfl) ?yp39 ?rp39
    case yp39 => (intro w' hG; go_simp; refine (HC.out _).mono ?_; rintro e w'' ⟨rfl, U⟩; refine ⟨?_, hG.trans U⟩; with_reducible rfl)
    simp only [Act.put, List.setIfInBounds_toArray, List.set_cons_zero, List.set_cons_succ]
    refine kept_want ?vp40 (by rfl) ?yp40 ?rp40
    case yp40 => (intro w' hG; obtain ⟨q3_0, q3_1⟩ := qSp3.out w' hG; clear hG; go_simp; try (with_reducible rfl))
    simp only [Act.put, List.setIfInBounds_toArray, List.set_cons_zero, List.set_cons_succ]
    refine kept_want ?vp41 (by rfl) ?yp41 ?rp41
    case yp41 => (intro w' hG; obtain ⟨q1_0, q1_1, q1_2, q1_3⟩ := qSp1.out w' hG; clear hG; go_simp; try (with_reducible rfl))
    simp only [Act.put, List.setIfInBounds_toArray, List.set_cons_zero, List.set_cons_succ]
    refine kept_want ?vp42 (by rfl) ?yp42 ?rp42
    case yp42 => (intro w' hG; go_simp; refine (HD.out _).mono ?_; rintro e w'' ⟨rfl, U⟩; refine ⟨?_, hG.trans U⟩; with_reducible rfl)
    simp only [Act.put, List.setIfInBounds_toArray, List.set_cons_zero, List.set_cons_succ]
    refine kept_want ?vp43 (by rfl) ?yp43 ?rp43
    case yp43 => (intro w' hG; clear hG; go_simp; try (with_reducible rfl))
    simp only [Act.put, List.setIfInBounds_toArray, List.set_cons_zero, List.set_cons_succ]
    refine kept_want ?vp44 (by rfl) ?yp44 ?rp44
    case yp44 => (intro w' hG; clear hG; go_simp; try (with_reducible rfl))
    simp only [Act.put, List.setIfInBounds_toArray, List.set_cons_zero, List.set_cons_succ]
    refine kept_want ?vp45 (by rfl) ?yp45 ?rp45
    case yp45 => (intro w' hG; clear hG; go_simp; try (with_reducible rfl))
    simp only [Act.put, List.setIfInBounds_toArray, List.set_cons_zero, List.set_cons_succ]
    refine kept_nil ?_
    intro V4 hV4
    clear qSp0 qSp1 qSp2 qSp3 qSp4 qSp5 qSp6
    go_wp2
    go_ret
    exact ⟨rfl, (GR.out.trans hV4).grown⟩
  · have z1 : (y == 0) = false := by simpa using hy
    have z2 : (y != 0) = true := by simpa using hy
    clear hy HX HY xw3
    have qSq0 : Hid (∀ w', Grew wc w' → (w'.cell? ⟨b, 0, none⟩ = some (.int .i64 y))) := fun w' g => g.cell E3
    have qSq1 : Hid (∀ w', Grew wc w' → (w'.cell? ⟨w.heap.size + 1, 0, none⟩ = some (.int .i64 X1.l) ∧ w'.cell? ⟨w.heap.size + 1, 1, none⟩ = some (.int .i64 X1.m) ∧ w'.cell? ⟨w.heap.size + 1, 2, none⟩ = some (.int .i64 X1.h) ∧ w'.cell? ⟨w.heap.size + 1, 3, none⟩ = some (.int .i64 X1.k))) := fun w' g => ⟨g.cell a0, g.cell a1, g.cell a2, g.cell a3⟩
    have qSq2 : Hid (∀ w', Grew wc w' → (w'.cell? ⟨w.heap.size + 2, 0, none⟩ = some (.int .i64 X2.l) ∧ w'.cell? ⟨w.heap.size + 2, 1, none⟩ = some (.int .i64 X2.m) ∧ w'.cell? ⟨w.heap.size + 2, 2, none⟩ = some (.int .i64 X2.h) ∧ w'.cell? ⟨w.heap.size + 2, 3, none⟩ = some (.int .i64 X2.k))) := fun w' g => ⟨g.cell b0, g.cell b1, g.cell b2, g.cell b3⟩
    have qSq3 : Hid (∀ w', Grew wc w' → (w'.cell? ⟨w.heap.size + 3, 0, none⟩ = some (.int .i64 x3) ∧ w'.cell? ⟨w.heap.size + 3, 1, none⟩ = some (.int .i64 y3))) := fun w' g => ⟨g.cell c0, g.cell c1⟩
    have qSq4 : Hid (∀ w', Grew wc w' → (w'.cell? ⟨N.heap.size, 0, none⟩ = some (.int .i64 l) ∧ w'.cell? ⟨N.heap.size, 1, none⟩ = some (.int .i64 m) ∧ w'.cell? ⟨N.heap.size, 2, none⟩ = some (.int .i64 h) ∧ w'.cell? ⟨N.heap.size, 3, none⟩ = some (.int .i64 k))) := fun w' g => ⟨g.cell d0, g.cell d1, g.cell d2, g.cell d3⟩
    refine kept_region wc (by kernel_rfl) (by kernel_rfl) ?_
    refine kept_want ?vq0 (by rfl) ?yq0 ?rq0
    case yq0 => (intro w' hG; clear hG; go_simp; try (with_reducible rfl))
    simp only [Act.put, List.setIfInBounds_toArray, List.set_cons_zero, List.set_cons_succ]
    refine kept_want ?vq1 (by rfl) ?yq1 ?rq1
    case yq1 => (intro w' hG; clear hG; go_simp; try (with_reducible rfl))
    simp only [Act.put, List.setIfInBounds_toArray, List.set_cons_zero, List.set_cons_succ]
    refine kept_want ?vq2 (by rfl) ?yq2 ?rq2
    case yq2 => (intro w' hG; have q0_0 := qSq0.out w' hG; clear hG; go_simp; try (with_reducible rfl))
    simp only [Act.put, List.setIfInBounds_toArray, List.set_cons_zero, List.set_cons_succ]
    refine kept_want ?vq3 (by rfl) ?yq3 ?rq3
    case yq3 => (intro w' hG; clear hG; go_simp; try (with_reducible rfl))
    simp only [Act.put, List.setIfInBounds_toArray, List.set_cons_zero, List.set_cons_succ]
    refine kept_want ?vq4 (by rfl) ?yq4 ?rq4
    case yq4 => (intro w' hG; clear hG; go_simp; try (with_reducible rfl))
    simp only [Act.put, List.setIfInBounds_toArray, List.set_cons_zero, List.set_cons_succ]
    refine kept_want ?vq5 (by rfl) ?yq5 ?rq5
    case yq5 => (intro w' hG; clear hG; go_simp; try (with_reducible rfl))
    simp only [Act.put, List.setIfInBounds_toArray, List.set_cons_zero, List.set_cons_succ]
    refine kept_want ?vq6 (by rfl) ?yq6 ?rq6
    case yq6 => (intro w' hG; clear hG; go_simp; try (with_reducible rfl))
    simp only [Act.put, List.setIfInBounds_toArray, List.set_cons_zero, List.set_cons_succ]
    refine kept_want ?vq7 (by rfl) ?yq7 ?rq7
    case yq7 => (intro w' hG; clear hG; go_simp; try (with_reducible rfl))
    simp only [Act.put, List.setIfInBounds_toArray, List.set_cons_zero, List.set_cons_succ]
    refine kept_skip (by rfl) ?_
    simp only [Act.put, List.setIfInBounds_toArray, List.set_cons_zero, List.set_cons_succ]
    refine kept_skip (by rfl) ?_
    simp only [Act.put, List.setIfInBounds_toArray, List.set_cons_zero, List.set_cons_succ]
    refine kept_skip (by rfl) ?_
    simp only [Act.put, List.setIfInBounds_toArray, List.set_cons_zero, List.set_cons_succ]
    refine kept_want ?vq11 (by rfl) ?yq11 ?rq11
    case yq11 => (intro w' hG; clear hG; go_simp; try (with_reducible rfl))
    simp only [Act.put, List.setIfInBounds_toArray, List.set_cons_zero, List.set_cons_succ]
    refine kept_want ?vq12 (by rfl) ?yq12 ?rq12
    case yq12 => (intro w' hG; clear hG; go_simp; try (with_reducible rfl))
    simp only [Act.put, List.setIfInBounds_toArray, List.set_cons_zero, List.set_cons_succ]
    refine kept_want ?vq13 (by rfl) ?yq13 ?rq13
    case yq13 => (intro w' hG; clear hG; go_simp; try (with_reducible rfl))
    simp only [Act.put, List.setIfInBounds_toArray, List.set_cons_zero, List.set_cons_succ]
    refine kept_want ?vq14 (by rfl) ?yq14 ?rq14
    case yq14 => (intro w' hG; obtain ⟨q1_0, q1_1, q1_2, q1_3⟩ := qSq1.out w' hG; clear hG; go_simp; try (with_reducible rfl))
    simp only [Act.put, List.setIfInBounds_toArray, List.set_cons_zero, List.set_cons_succ]
    refine kept_want ?vq15 (by rfl) ?yq15 ?rq15
    case yq15 => (intro w' hG; obtain ⟨q2_0, q2_1, q2_2, q2_3⟩ := qSq2.out w' hG; clear hG; go_simp; try (with_reducible rfl))
    simp only [Act.put, List.setIfInBounds_toArray, List.set_cons_zero, List.set_cons_succ]
    refine kept_want ?vq16 (by rfl) ?yq16 ?rq16
    case yq16 => (intro w' hG; go_simp; refine (HM.out _).mono ?_; rintro e w'' ⟨rfl, U⟩; refine ⟨?_, hG.trans U⟩; with_reducible rfl)
    simp only [Act.put, List.setIfInBounds_toArray, List.set_cons_zero, List.set_cons_succ]
    refine kept_want ?vq17 (by rfl) ?yq17 ?rq17
    case yq17 => (intro w' hG; obtain ⟨q1_0, q1_1, q1_2, q1_3⟩ := qSq1.out w' hG; clear hG; go_simp; try (with_reducible rfl))
    simp only [Act.put, List.setIfInBounds_toArray, List.set_cons_zero, List.set_cons_succ]
    refine kept_want ?vq18 (by rfl) ?yq18 ?rq18
    case yq18 => (intro w' hG; obtain ⟨q2_0, q2_1, q2_2, q2_3⟩ := qSq2.out w' hG; clear hG; go_simp; try (with_reducible rfl))
    simp only [Act.put, List.setIfInBounds_toArray, List.set_cons_zero, List.set_cons_succ]
    refine kept_want ?vq19 (by rfl) ?yq19 ?rq19
    case yq19 => (intro w' hG; go_simp; refine (HN.out _).mono ?_; rintro e w'' ⟨rfl, U⟩; refine ⟨?_, hG.trans U⟩; with_reducible rfl)
    simp only [Act.put, List.setIfInBounds_toArray, List.set_cons_zero, List.set_cons_succ]
    refine kept_want ?vq20 (by rfl) ?yq20 ?rq20
    case yq20 => (intro w' hG; clear hG; go_simp; try (with_reducible rfl))
    simp only [Act.put, List.setIfInBounds_toArray, List.set_cons_zero, List.set_cons_succ]
    refine kept_want ?vq21 (by rfl) ?yq21 ?rq21
    case yq21 => (intro w' hG; clear hG; go_simp; try (with_reducible rfl))
    simp only [Act.put, List.setIfInBounds_toArray, List.set_cons_zero, List.set_cons_succ]
    refine kept_want ?vq22 (by rfl) ?yq22 ?rq22
    case yq22 => (intro w' hG; clear hG; go_simp; try (with_reducible rfl))
    simp only [Act.put, List.setIfInBounds_toArray, List.set_cons_zero, List.set_cons_succ]
    refine kept_want ?vq23 (by rfl) ?yq23 ?rq23
    case yq23 => (intro w' hG; obtain ⟨q1_0, q1_1, q1_2, q1_3⟩ := qSq1.out w' hG; clear hG; go_simp; try (with_reducible rfl))
    simp only [Act.put, List.setIfInBounds_toArray, List.set_cons_zero, List.set_cons_succ]
    refine kept_want ?vq24 (by rfl) ?yq24 ?rq24
    case yq24 => (intro w' hG; obtain ⟨q2_0, q2_1, q2_2, q2_3⟩ := qSq2.out w' hG; clear hG; go_simp; try (with_reducible rfl))
    simp only [Act.put, List.setIfInBounds_toArray, List.set_cons_zero, List.set_cons_succ]
    refine kept_want ?vq25 (by rfl) ?yq25 ?rq25
    case yq25 => (intro w' hG; go_simp; refine (HB.out _).mono ?_; rintro e w'' ⟨rfl, U⟩; refine ⟨?_, hG.trans U⟩; with_reducible rfl)
    simp only [Act.put, List.setIfInBounds_toArray, List.set_cons_zero, List.set_cons_succ]
    refine kept_want ?vq26 (by rfl) ?yq26 ?rq26
    case yq26 => (intro w' hG; obtain ⟨q4_0, q4_1, q4_2, q4_3⟩ := qSq4.out w' hG; clear hG; go_simp; try (with_reducible rfl))
    simp only [Act.put, List.setIfInBounds_toArray, List.set_cons_zero, List.set_cons_succ]
    refine kept_want ?vq27 (by rfl) ?yq27 ?rq27
    case yq27 => (intro w' hG; clear hG; go_simp; try (with_reducible rfl))
    simp only [Act.put, List.setIfInBounds_toArray, List.set_cons_zero, List.set_cons_succ]
    refine kept_want ?vq28 (by rfl) ?yq28 ?rq28
    case yq28 => (intro w' hG; clear hG; go_simp; try (with_reducible rfl))
    simp only [Act.put, List.setIfInBounds_toArray, List.set_cons_zero, List.set_cons_succ]
    refine kept_want ?vq29 (by rfl) ?yq29 ?rq29
    case yq29 => (intro w' hG; clear hG; go_simp; try (with_reducible rfl))
    simp only [Act.put, List.setIfInBounds_toArray, List.set_cons_zero, List.set_cons_succ]
    refine kept_want ?vq30 (by rfl) ?yq30 ?rq30
    case yq30 => (intro w' hG; obtain ⟨q3_0, q3_1⟩ := qSq3.out w' hG; clear hG; go_simp; try (with_reducible rfl))
    simp only [Act.put, List.setIfInBounds_toArray, List.set_cons_zero, List.set_cons_succ]
    refine kept_want ?vq31 (by rfl) ?yq31 ?rq31
    case yq31 => (intro w' hG; obtain ⟨q1_0, q1_1, q1_2, q1_3⟩ := qSq1.out w' hG; clear hG; go_simp; try (with_reducible rfl))
    simp only [Act.put, List.setIfInBounds_toArray, List.set_cons_zero, List.set_cons_succ]
    refine kept_want ?vq32 (by rfl) ?yq32 ?rq32
    case yq32 => (intro w' hG; go_simp; refine (HI.out _).mono ?_; rintro e w'' ⟨rfl, U⟩; refine ⟨?_, hG.trans U⟩; with_reducible rfl)
    simp only [Act.put, List.setIfInBounds_toArray, List.set_cons_zero, List.set_cons_succ]
    refine kept_want ?vq33 (by rfl) ?yq33 ?rq33
    case yq33 => (intro w' hG; clear hG; go_simp; try (with_reducible rfl))
    simp only [Act.put, List.setIfInBounds_toArray, List.set_cons_zero, List.set_cons_succ]
    refine kept_want ?vq34 (by rfl) ?yq34 ?rq34
    case yq34 => (intro w' hG; clear hG; go_simp; try (with_reducible rfl))
    simp only [Act.put, List.setIfInBounds_toArray, List.set_cons_zero, List.set_cons_succ]
    refine kept_want ?vq35 (by rfl) ?yq35 ?rq35
    case yq35 => (intro w' hG; clear hG; go_simp; try (with_reducible rfl))
    simp only [Act.put, List.setIfInBounds_toArray, List.set_cons_zero, List.set_cons_succ]
    refine kept_want ?vq36 (by rfl) ?yq36 ?rq36
    case yq36 => (intro w' hG; clear hG; go_simp; try (with_reducible rfl))
    simp only [Act.put, List.setIfInBounds_toArray, List.set_cons_zero, List.set_cons_succ]
    refine kept_want ?vq37 (by rfl) ?yq37 ?rq37
    case yq37 => (intro w' hG; obtain ⟨q3_0, q3_1⟩ := qSq3.out w' hG; clear hG; go_simp; try (with_reducible rfl))
    simp only [Act.put, List.setIfInBounds_toArray, List.set_cons_zero, List.set_cons_succ]
    refine kept_want ?vq38 (by rfl) ?yq38 ?rq38
    case yq38 => (intro w' hG; obtain ⟨q1_0, q1_1, q1_2, q1_3⟩ := qSq1.out w' hG; clear hG; go_simp; try (with_reducible rfl))
    simp only [Act.put, List.setIfInBounds_toArray, List.set_cons_zero, List.set_cons_succ]
    refine kept_want ?vq39 (by rfl) ?yq39 ?rq39
    case yq39 => (intro w' hG; go_simp; refine (HC.out _).mono ?_; rintro e w'' ⟨rfl, U⟩; refine ⟨?_, hG.trans U⟩; with_reducible rfl)
    simp only [Act.put, List.setIfInBounds_toArray, List.set_cons_zero, List.set_cons_succ]
    refine kept_want ?vq40 (by rfl) ?yq40 ?rq40
    case yq40 => (intro w' hG; obtain ⟨q3_0, q3_1⟩ := qSq3.out w' hG; clear hG; go_simp; try (with_reducible rfl))
    simp only [Act.put, List.setIfInBounds_toArray, List.set_cons_zero, List.set_cons_succ]
    refine kept_want ?vq41 (by rfl) ?yq41 ?rq41
    case yq41 => (intro w' hG; obtain ⟨q1_0, q1_1, q1_2, q1_3⟩ := qSq1.out w' hG; clear hG; go_simp; try (with_reducible rfl))
    simp only [Act.put, List.setIfInBounds_toArray, List.set_cons_zero, List.set_cons_succ]
    refine kept_want ?vq42 (by rfl) ?yq42 ?rq42
    case yq42 => (intro w' hG; go_simp; refine (HD.out _).mono ?_; rintro e w'' ⟨rfl, U⟩; refine ⟨?_, hG.trans U⟩; with_reducible rfl)
    simp only [Act.put, List.setIfInBounds_toArray, List.set_cons_zero, List.set_cons_succ]
    refine kept_want ?vq43 (by rfl) ?yq43 ?rq43
    case yq43 => (intro w' hG; clear hG; go_simp; try (with_reducible rfl))
    simp only [Act.put, List.setIfInBounds_toArray, List.set_cons_zero, List.set_cons_succ]
    refine kept_want ?vq44 (by rfl) ?yq44 ?rq44
    case yq44 => (intro w' hG; clear hG; go_simp; try (with_reducible rfl))
    simp only [Act.put, List.setIfInBounds_toArray, List.set_cons_zero, List.set_cons_succ]
    refine kept_want ?vq45 (by rfl) ?yq45 ?rq45
    case yq45 => (intro w' hG; clear hG; go_simp; try (with_reducible rfl))
    simp only [Act.put, List.setIfInBounds_toArray, List.set_cons_zero, List.set_cons_succ]
    refine kept_nil ?_
    intro V4 hV4
    clear qSq0 qSq1 qSq2 qSq3 qSq4
    go_wp2
    go_ret
    exact ⟨rfl, (GR.out.trans hV4).grown⟩

set_option maxRecDepth 100000 in
theorem lifted (os : Os) (started : os.Started) (H : Type) (enc : TypeId × Value → H) :
    ReturnsInHanded {} Try.checked os 3 .any (Rows.boundsTellsSpec.pre6 enc Try.prog Try.f3 Rows.boundsTellsRow.domain false) (Rows.boundsTellsSpec.post enc Try.prog Try.f3 false true false false) := by
  refine returnsInHanded_of_change (C := Try.checked) own started (by kernel_rfl) Try.func3
    (ChangeSpec.witness6 (enc := enc) (C := Try.checked) false ⟨#[], #[.agg #[.int .i64 0, .int .i64 0, .int .i64 0, .int .i64 0, .int .i64 0, .int .i64 0, .int .i64 0, .int .i64 0], .agg #[.int .i64 0, .int .i64 0, .int .i64 0, .int .i64 0], .agg #[.int .i64 0, .int .i64 0, .int .i64 0, .int .i64 0], .agg #[.int .i64 0, .int .i64 0]], []⟩ 8 (by kernel_rfl) (by kernel_rfl) (by kernel_rfl) (by kernel_rfl)) ?_
  intro W base args ds gs before hval0 hW hcnd _
  have hval : ∀ (j : Nat) t v, Try.f3.params[j]? = some t → args[j]? = some v → Value.okWide Try.prog W .any base t v := hval0
  have hW' := hW
  obtain ⟨p, q, hA0, hV, rfl, hfz, hnd⟩ := hW
  have hA : DataW.TrodAll enc Try.prog W 0 (fun _ => true) true Try.f3.params.toList args.toList ds p := hA0
  rw [Try.params3] at hA hval
  obtain ⟨v0, vs0, d0, ds0, p0, q0, hargs, rfl, rfl, h0, r0⟩ := trodAll_cons hA
  obtain ⟨v1, vs1, d1, ds1, p1, q1, rfl, rfl, rfl, h1, r1⟩ := trodAll_cons r0
  obtain ⟨v2, vs2, d2, ds2, p2, q2, rfl, rfl, rfl, h2, r2⟩ := trodAll_cons r1
  obtain ⟨v3, vs3, d3, ds3, p3, q3, rfl, rfl, rfl, h3, r3⟩ := trodAll_cons r2
  obtain ⟨rfl, rfl, rfl⟩ := trodAll_nil r3
  obtain rfl : args = #[v0, v1, v2, v3] := by cases args; simp_all
  obtain ⟨rfl, rfl⟩ := trodVars_none hV
  obtain ⟨B0, rfl, rfl, rfl, o0⟩ := open_body (hval 0 26 v0 rfl rfl) h0
  obtain ⟨X1, rfl, rfl, rfl, o1⟩ := open_box (hval 1 28 v1 rfl rfl) h1
  obtain ⟨X2, rfl, rfl, rfl, o2⟩ := open_box (hval 2 28 v2 rfl rfl) h2
  obtain ⟨x3, y3, rfl, rfl, rfl, f3, g3⟩ := open_vec (hval 3 24 v3 rfl rfl) h3
  clear hA0 hval0
  simp only [List.append_nil] at hW'
  refine (walk B0 o0 X1 o1 X2 o2 x3 y3 f3 g3 W).mono fun e W' ⟨he, hg⟩ => ?_
  subst he
  exact ⟨_, rfl, post_of_same (pa := []) (pv := []) hW' (fun _ _ _ => (trodAll_cons_mk (shut_bool Try.underlying4 _) trodAll_mk0)) (fun sp _ => (trodAll_cons_mk (shut_body o0) (trodAll_cons_mk (shut_box o1) (trodAll_cons_mk (shut_box o2) (trodAll_cons_mk (shut_vec f3 g3) trodAll_mk0))))) (fun _ _ => rfl) rfl
    (hg.frame _) hg.2.1 (ok_one (by kernel_rfl) rfl (okWide_bool_mk Try.underlying4 _))⟩

theorem over : Rows.boundsTellsRow.holds Try.pinned (OpenSpec.ofChange Rows.boundsTellsSpec) :=
  OpenClaim.holds_of_wide 3 Try.f3 rfl rfl rfl rfl rfl rfl rfl ⟨rfl, rfl, rfl, rfl, rfl⟩ rfl rfl rfl rfl rfl (by kernel_rfl) Try.func3 (by kernel_rfl)
    (of_decide_eq_true (by kernel_rfl)) (by unfold Func.isWrapper; first | (rw [if_pos (by decide +kernel)]; kernel_rfl) | (rw [if_neg (by decide +kernel)]; exact ⟨rfl, rfl⟩))
    (fun os started H enc _ => lifted os started H enc)

theorem proved : Rows.BoundsTellsSaid :=
  over
end Go.Proofs.Ytlfncfjlfccfhaa.boundsTells

namespace Go.Proofs.Ytlfncfjlfccfhaa
theorem boundsTells_holds : Rows.BoundsTellsSaid := boundsTells.proved
end Go.Proofs.Ytlfncfjlfccfhaa

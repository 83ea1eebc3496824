/-
  Proved: maquettelaw10.TouchBoth returns true for every two bodies a and b (two crates that may be touch one another just if the boxes around them meet and have no edge in common; balls touch only where the boxes meet), and leaves what it was given as it was; no condition.
-/
import Derived.Test.YtjnokjoaphmfkaaRows
import Derived.Test.YtjnokjoaphmfkaaHAsk
import Derived.Test.YtjnokjoaphmfkaaXRef
import Derived.Test.YtjnokjoaphmfkaaBData
import Derived.Test.YtjnokjoaphmfkaaBRef
import Derived.WalkKit
import Derived.Deep.QuietTactic
import Derived.BigQuiet
import Derived.WalkSpells
import Derived.Deep.CutRange
import Derived.Deep.CutBlock
import Derived.WalkLawsBesides
import Derived.ProofKit
import Derived.OpenShut
namespace Go.Proofs.Ytjnokjoaphmfkaa.touchBoth
open Go.ChangeShapes Go.WideShapes Go.ChangeAt Go.RowKit
set_option linter.unusedVariables false

theorem own : ownKnob Try.prog.godebug = none := by kernel_rfl

theorem xat_past {n : Nat} {w W : World} {b : Nat} {x : Bx} (h : XAt w b x) (g : Past n w W) (hb : b ≠ n) : XAt W b x := h.heap (g.block b h.size hb)
/-- Two boxes laid into two new variables. -/
theorem laid_boxes {n : Nat} {V W : World} {i j : Nat} (x y : Bx) (G : Past n V W) (hi : V.heap.size ≤ i) (hj : V.heap.size ≤ j) (hij : i ≠ j) (Ai : XAt W i ⟨0, 0, 0, 0⟩) (Aj : XAt W j ⟨0, 0, 0, 0⟩) :
    XAt ((((((((W.setCell ⟨i, 0, none⟩ (.int .i64 x.l)).setCell ⟨i, 1, none⟩ (.int .i64 x.m)).setCell ⟨i, 2, none⟩ (.int .i64 x.h)).setCell ⟨i, 3, none⟩ (.int .i64 x.k)).setCell ⟨j, 0, none⟩ (.int .i64 y.l)).setCell ⟨j, 1, none⟩ (.int .i64 y.m)).setCell ⟨j, 2, none⟩ (.int .i64 y.h)).setCell ⟨j, 3, none⟩ (.int .i64 y.k)) i x ∧
    XAt ((((((((W.setCell ⟨i, 0, none⟩ (.int .i64 x.l)).setCell ⟨i, 1, none⟩ (.int .i64 x.m)).setCell ⟨i, 2, none⟩ (.int .i64 x.h)).setCell ⟨i, 3, none⟩ (.int .i64 x.k)).setCell ⟨j, 0, none⟩ (.int .i64 y.l)).setCell ⟨j, 1, none⟩ (.int .i64 y.m)).setCell ⟨j, 2, none⟩ (.int .i64 y.h)).setCell ⟨j, 3, none⟩ (.int .i64 y.k)) j y ∧
    Past n V ((((((((W.setCell ⟨i, 0, none⟩ (.int .i64 x.l)).setCell ⟨i, 1, none⟩ (.int .i64 x.m)).setCell ⟨i, 2, none⟩ (.int .i64 x.h)).setCell ⟨i, 3, none⟩ (.int .i64 x.k)).setCell ⟨j, 0, none⟩ (.int .i64 y.l)).setCell ⟨j, 1, none⟩ (.int .i64 y.m)).setCell ⟨j, 2, none⟩ (.int .i64 y.h)).setCell ⟨j, 3, none⟩ (.int .i64 y.k)) := by
  have K1 := (Grew.refl W).set4 i (.int .i64 x.l) (.int .i64 x.m) (.int .i64 x.h) (.int .i64 x.k)
  have A1 := xat_set W i ⟨0, 0, 0, 0⟩ x Ai
  have B1 := Aj.wrote K1 (fun e => hij e.symm)
  refine ⟨A1.wrote ((Grew.refl _).set4 j (.int .i64 y.l) (.int .i64 y.m) (.int .i64 y.h) (.int .i64 y.k)) hij, xat_set _ j ⟨0, 0, 0, 0⟩ y B1, ?_⟩
  exact (((((((G.setNew hi _ _ _).setNew hi _ _ _).setNew hi _ _ _).setNew hi _ _ _).setNew hj _ _ _).setNew hj _ _ _).setNew hj _ _ _).setNew hj _ _ _
def boxI (B : Bd) : Bx := ⟨B.p - B.a, B.q - reachY B, B.p + B.a, B.q + reachY B⟩
theorem box_right {B : Bd} (h : Mild B) : boxR B = (boxI B, 0) := by
  have := h.a; have := h.b; have := h.p; have := h.q
  have : 0 ≤ reachY B ∧ reachY B ≤ 8796093022208 := by unfold reachY; split <;> omega
  unfold boxR pairX
  rw [sOk (by omega), sOk (by omega), aOk (by omega), aOk (by omega), twoOk, twoOk]
  rfl
theorem ab_lt {x k : Int} : ab x < k ↔ -k < x ∧ x < k := by have := ab_of x; omega
theorem hit_meets {A B : Bd} (hA : Mild A) (hB : Mild B) (sA : isShape A) (sB : isShape B) (h : (hitI A B).2 = true) : meetB (boxI A) (boxI B) = true ∧ 0 < (hitI A B).1.d := by
  obtain ⟨h1, h2, h3⟩ := hit_near hA hB sA sB h
  rw [ab_lt] at h1 h2
  refine ⟨?_, h3⟩
  rw [meetB_iff]
  simp only [boxI]
  omega
theorem crates_meet {A B : Bd} (sA : A.s = 2) (sB : B.s = 2) : (hitI A B).2 = true ↔ meetB (boxI A) (boxI B) = true ∧ ¬ (A.p - A.a = B.p + B.a) ∧ ¬ (B.p - B.a = A.p + A.a) ∧ ¬ (A.q - reachY A = B.q + reachY B) ∧ ¬ (B.q - reachY B = A.q + reachY A) := by
  rw [hit_22 sA sB, crates_near, meetB_iff, ab_lt, ab_lt, reach_else (B := A) (by omega), reach_else (B := B) (by omega)]
  simp only [boxI]
  rw [reach_else (B := A) (by omega), reach_else (B := B) (by omega)]
  omega

set_option maxHeartbeats 16000000 in
theorem walk (B0 : Bd) (o0 : B0.ok) (B1 : Bd) (o1 : B1.ok) (w : World)  :
    Calls Try.prog 4 #[B0.val, B1.val] w fun e w' => e = .returned (.bool true) ∧ Grown w w' := by
  have HA : Hid (∀ W, _) := fun W => ref_right B0 W
  have HB : Hid (∀ W, _) := fun W => ref_right B1 W
  have hmf := mk_func
  have G0 : Hid (Grew w ((w.alloc (.cells #[.int .i64 B0.s, .int .i64 B0.a, .int .i64 B0.b, .int .i64 B0.m, .int .i64 B0.p, .int .i64 B0.q, .int .i64 B0.u, .int .i64 B0.v] 26)).alloc (.cells #[.int .i64 B1.s, .int .i64 B1.a, .int .i64 B1.b, .int .i64 B1.m, .int .i64 B1.p, .int .i64 B1.q, .int .i64 B1.u, .int .i64 B1.v] 26))) := ((Grew.refl w).alloc _ _).alloc _ _
  obtain ⟨r0, hr0⟩ : ∃ r, rightB B0 = r := ⟨_, rfl⟩
  obtain ⟨r1, hr1⟩ : ∃ r, rightB B1 = r := ⟨_, rfl⟩
  rw [hr0] at HA
  rw [hr1] at HB
  unfold Bd.val at HA HB ⊢
  cases r0
  ·
    clear HB hr0 hr1
    go_enter Try.func4, Try.ntmps4
    go_wp2_with (first
      | (go_at_call 17; go_fit (HA.out _); rintro e V ⟨rfl, U⟩; have a0 := U.cell (p := ⟨w.heap.size, 0, none⟩) (v := .int .i64 B0.s) (by simp [go_sem]); have a1 := U.cell (p := ⟨w.heap.size, 1, none⟩) (v := .int .i64 B0.a) (by simp [go_sem]); have a2 := U.cell (p := ⟨w.heap.size, 2, none⟩) (v := .int .i64 B0.b) (by simp [go_sem]); have a3 := U.cell (p := ⟨w.heap.size, 3, none⟩) (v := .int .i64 B0.m) (by simp [go_sem]); have a4 := U.cell (p := ⟨w.heap.size, 4, none⟩) (v := .int .i64 B0.p) (by simp [go_sem]); have a5 := U.cell (p := ⟨w.heap.size, 5, none⟩) (v := .int .i64 B0.q) (by simp [go_sem]); have a6 := U.cell (p := ⟨w.heap.size, 6, none⟩) (v := .int .i64 B0.u) (by simp [go_sem]); have a7 := U.cell (p := ⟨w.heap.size, 7, none⟩) (v := .int .i64 B0.v) (by simp [go_sem]); have b0 := U.cell (p := ⟨w.heap.size + 1, 0, none⟩) (v := .int .i64 B1.s) (by simp [go_sem]); have b1 := U.cell (p := ⟨w.heap.size + 1, 1, none⟩) (v := .int .i64 B1.a) (by simp [go_sem]); have b2 := U.cell (p := ⟨w.heap.size + 1, 2, none⟩) (v := .int .i64 B1.b) (by simp [go_sem]); have b3 := U.cell (p := ⟨w.heap.size + 1, 3, none⟩) (v := .int .i64 B1.m) (by simp [go_sem]); have b4 := U.cell (p := ⟨w.heap.size + 1, 4, none⟩) (v := .int .i64 B1.p) (by simp [go_sem]); have b5 := U.cell (p := ⟨w.heap.size + 1, 5, none⟩) (v := .int .i64 B1.q) (by simp [go_sem]); have b6 := U.cell (p := ⟨w.heap.size + 1, 6, none⟩) (v := .int .i64 B1.u) (by simp [go_sem]); have b7 := U.cell (p := ⟨w.heap.size + 1, 7, none⟩) (v := .int .i64 B1.v) (by simp [go_sem]))
      | (go_at_call 17; go_fit (HB.out _); rintro e V0 ⟨rfl, U0⟩; replace a0 := U0.cell a0; replace a1 := U0.cell a1; replace a2 := U0.cell a2; replace a3 := U0.cell a3; replace a4 := U0.cell a4; replace a5 := U0.cell a5; replace a6 := U0.cell a6; replace a7 := U0.cell a7; replace b0 := U0.cell b0; replace b1 := U0.cell b1; replace b2 := U0.cell b2; replace b3 := U0.cell b3; replace b4 := U0.cell b4; replace b5 := U0.cell b5; replace b6 := U0.cell b6; replace b7 := U0.cell b7)
      | (go_at_call 9; go_fit (alive_any _); rintro e V1 ⟨rfl, U1⟩; replace a0 := U1.cell a0; replace a1 := U1.cell a1; replace a2 := U1.cell a2; replace a3 := U1.cell a3; replace a4 := U1.cell a4; replace a5 := U1.cell a5; replace a6 := U1.cell a6; replace a7 := U1.cell a7; replace b0 := U1.cell b0; replace b1 := U1.cell b1; replace b2 := U1.cell b2; replace b3 := U1.cell b3; replace b4 := U1.cell b4; replace b5 := U1.cell b5; replace b6 := U1.cell b6; replace b7 := U1.cell b7))
    go_ret
    exact ⟨rfl, ((G0.out.trans U).trans U1).grown⟩
  cases r1
  ·
    clear hr0 hr1
    go_enter Try.func4, Try.ntmps4
    go_wp2_with (first
      | (go_at_call 17; go_fit (HA.out _); rintro e V ⟨rfl, U⟩; have a0 := U.cell (p := ⟨w.heap.size, 0, none⟩) (v := .int .i64 B0.s) (by simp [go_sem]); have a1 := U.cell (p := ⟨w.heap.size, 1, none⟩) (v := .int .i64 B0.a) (by simp [go_sem]); have a2 := U.cell (p := ⟨w.heap.size, 2, none⟩) (v := .int .i64 B0.b) (by simp [go_sem]); have a3 := U.cell (p := ⟨w.heap.size, 3, none⟩) (v := .int .i64 B0.m) (by simp [go_sem]); have a4 := U.cell (p := ⟨w.heap.size, 4, none⟩) (v := .int .i64 B0.p) (by simp [go_sem]); have a5 := U.cell (p := ⟨w.heap.size, 5, none⟩) (v := .int .i64 B0.q) (by simp [go_sem]); have a6 := U.cell (p := ⟨w.heap.size, 6, none⟩) (v := .int .i64 B0.u) (by simp [go_sem]); have a7 := U.cell (p := ⟨w.heap.size, 7, none⟩) (v := .int .i64 B0.v) (by simp [go_sem]); have b0 := U.cell (p := ⟨w.heap.size + 1, 0, none⟩) (v := .int .i64 B1.s) (by simp [go_sem]); have b1 := U.cell (p := ⟨w.heap.size + 1, 1, none⟩) (v := .int .i64 B1.a) (by simp [go_sem]); have b2 := U.cell (p := ⟨w.heap.size + 1, 2, none⟩) (v := .int .i64 B1.b) (by simp [go_sem]); have b3 := U.cell (p := ⟨w.heap.size + 1, 3, none⟩) (v := .int .i64 B1.m) (by simp [go_sem]); have b4 := U.cell (p := ⟨w.heap.size + 1, 4, none⟩) (v := .int .i64 B1.p) (by simp [go_sem]); have b5 := U.cell (p := ⟨w.heap.size + 1, 5, none⟩) (v := .int .i64 B1.q) (by simp [go_sem]); have b6 := U.cell (p := ⟨w.heap.size + 1, 6, none⟩) (v := .int .i64 B1.u) (by simp [go_sem]); have b7 := U.cell (p := ⟨w.heap.size + 1, 7, none⟩) (v := .int .i64 B1.v) (by simp [go_sem]))
      | (go_at_call 17; go_fit (HB.out _); rintro e V0 ⟨rfl, U0⟩; replace a0 := U0.cell a0; replace a1 := U0.cell a1; replace a2 := U0.cell a2; replace a3 := U0.cell a3; replace a4 := U0.cell a4; replace a5 := U0.cell a5; replace a6 := U0.cell a6; replace a7 := U0.cell a7; replace b0 := U0.cell b0; replace b1 := U0.cell b1; replace b2 := U0.cell b2; replace b3 := U0.cell b3; replace b4 := U0.cell b4; replace b5 := U0.cell b5; replace b6 := U0.cell b6; replace b7 := U0.cell b7)
      | (go_at_call 9; go_fit (alive_any _); rintro e V1 ⟨rfl, U1⟩; replace a0 := U1.cell a0; replace a1 := U1.cell a1; replace a2 := U1.cell a2; replace a3 := U1.cell a3; replace a4 := U1.cell a4; replace a5 := U1.cell a5; replace a6 := U1.cell a6; replace a7 := U1.cell a7; replace b0 := U1.cell b0; replace b1 := U1.cell b1; replace b2 := U1.cell b2; replace b3 := U1.cell b3; replace b4 := U1.cell b4; replace b5 := U1.cell b5; replace b6 := U1.cell b6; replace b7 := U1.cell b7))
    go_ret
    exact ⟨rfl, (((G0.out.trans U).trans U0).trans U1).grown⟩
  have mA := right_mild hr0
  have mB := right_mild hr1
  have sA := right_shape hr0
  have sB := right_shape hr1
  have hI : hitR B0 B1 = (hitI B0 B1, 0) := hit_mild mA mB
  have hJ : hitR B1 B0 = (hitI B1 B0, 0) := hit_mild mB mA
  obtain ⟨tu1, tu2, _⟩ := hit_turned mA mB sA sB
  have me := hit_meets mA mB sA sB
  have cm := @crates_meet B0 B1
  generalize hitI B1 B0 = R2 at *
  generalize hitI B0 B1 = R1 at *
  obtain ⟨Y0, hY0⟩ : ∃ x, x = boxI B0 := ⟨_, rfl⟩
  obtain ⟨Y1, hY1⟩ : ∃ x, x = boxI B1 := ⟨_, rfl⟩
  have cm' : B0.s = 2 → B1.s = 2 → (R1.2 = true ↔ meetB Y0 Y1 = true ∧ ¬ (Y0.l = Y1.h) ∧ ¬ (Y1.l = Y0.h) ∧ ¬ (Y0.m = Y1.k) ∧ ¬ (Y1.m = Y0.k)) := by rw [hY0, hY1]; exact cm
  rw [← hY0, ← hY1] at me
  have bR0 := box_right mA
  have bR1 := box_right mB
  rw [← hY0] at bR0
  rw [← hY1] at bR1
  have HM : Hid (∀ W, _) := fun W => rmeet_any Y0 Y1 W
  generalize meetB Y0 Y1 = m at *
  unfold Bx.val at HM
  have D0 : Hid (∀ X W, Err W X 0 0 → Calls Try.prog 18 #[.pointer (some ⟨X, 0, none⟩), .agg #[.int .i64 B0.s, .int .i64 B0.a, .int .i64 B0.b, .int .i64 B0.m, .int .i64 B0.p, .int .i64 B0.q, .int .i64 B0.u, .int .i64 B0.v]] W fun e w' => e = .returned (.agg #[.int .i64 Y0.l, .int .i64 Y0.m, .int .i64 Y0.h, .int .i64 Y0.k]) ∧ Err w' X 0 0 ∧ Past X W w') := fun X W h => (rbox_any X B0 o0 W h).mono fun e w' ⟨⟨x, he, hx⟩, hE, hP⟩ => ⟨by rw [he, hx (by rw [bR0]), bR0], by rw [bR0] at hE; exact hE, hP⟩
  have D1 : Hid (∀ X W, Err W X 0 0 → Calls Try.prog 18 #[.pointer (some ⟨X, 0, none⟩), .agg #[.int .i64 B1.s, .int .i64 B1.a, .int .i64 B1.b, .int .i64 B1.m, .int .i64 B1.p, .int .i64 B1.q, .int .i64 B1.u, .int .i64 B1.v]] W fun e w' => e = .returned (.agg #[.int .i64 Y1.l, .int .i64 Y1.m, .int .i64 Y1.h, .int .i64 Y1.k]) ∧ Err w' X 0 0 ∧ Past X W w') := fun X W h => (rbox_any X B1 o1 W h).mono fun e w' ⟨⟨x, he, hx⟩, hE, hP⟩ => ⟨by rw [he, hx (by rw [bR1]), bR1], by rw [bR1] at hE; exact hE, hP⟩
  have ME : Hid _ := me
  have CM : Hid _ := cm'
  clear hr0 hr1 mA mB sA sB cm cm' me hY0 hY1 bR0 bR1
  go_enter Try.func4, Try.ntmps4
  go_wp2_with (first
    | (go_at_call 17; go_fit (HA.out _); rintro e V ⟨rfl, U⟩; have a0 := U.cell (p := ⟨w.heap.size, 0, none⟩) (v := .int .i64 B0.s) (by simp [go_sem]); have a1 := U.cell (p := ⟨w.heap.size, 1, none⟩) (v := .int .i64 B0.a) (by simp [go_sem]); have a2 := U.cell (p := ⟨w.heap.size, 2, none⟩) (v := .int .i64 B0.b) (by simp [go_sem]); have a3 := U.cell (p := ⟨w.heap.size, 3, none⟩) (v := .int .i64 B0.m) (by simp [go_sem]); have a4 := U.cell (p := ⟨w.heap.size, 4, none⟩) (v := .int .i64 B0.p) (by simp [go_sem]); have a5 := U.cell (p := ⟨w.heap.size, 5, none⟩) (v := .int .i64 B0.q) (by simp [go_sem]); have a6 := U.cell (p := ⟨w.heap.size, 6, none⟩) (v := .int .i64 B0.u) (by simp [go_sem]); have a7 := U.cell (p := ⟨w.heap.size, 7, none⟩) (v := .int .i64 B0.v) (by simp [go_sem]); have b0 := U.cell (p := ⟨w.heap.size + 1, 0, none⟩) (v := .int .i64 B1.s) (by simp [go_sem]); have b1 := U.cell (p := ⟨w.heap.size + 1, 1, none⟩) (v := .int .i64 B1.a) (by simp [go_sem]); have b2 := U.cell (p := ⟨w.heap.size + 1, 2, none⟩) (v := .int .i64 B1.b) (by simp [go_sem]); have b3 := U.cell (p := ⟨w.heap.size + 1, 3, none⟩) (v := .int .i64 B1.m) (by simp [go_sem]); have b4 := U.cell (p := ⟨w.heap.size + 1, 4, none⟩) (v := .int .i64 B1.p) (by simp [go_sem]); have b5 := U.cell (p := ⟨w.heap.size + 1, 5, none⟩) (v := .int .i64 B1.q) (by simp [go_sem]); have b6 := U.cell (p := ⟨w.heap.size + 1, 6, none⟩) (v := .int .i64 B1.u) (by simp [go_sem]); have b7 := U.cell (p := ⟨w.heap.size + 1, 7, none⟩) (v := .int .i64 B1.v) (by simp [go_sem]))
    | (go_at_call 17; go_fit (HB.out _); rintro e V0 ⟨rfl, U0⟩; replace a0 := U0.cell a0; replace a1 := U0.cell a1; replace a2 := U0.cell a2; replace a3 := U0.cell a3; replace a4 := U0.cell a4; replace a5 := U0.cell a5; replace a6 := U0.cell a6; replace a7 := U0.cell a7; replace b0 := U0.cell b0; replace b1 := U0.cell b1; replace b2 := U0.cell b2; replace b3 := U0.cell b3; replace b4 := U0.cell b4; replace b5 := U0.cell b5; replace b6 := U0.cell b6; replace b7 := U0.cell b7)
    | (go_at_call 9; go_fit (alive_any _); rintro e V1 ⟨rfl, U1⟩; replace a0 := U1.cell a0; replace a1 := U1.cell a1; replace a2 := U1.cell a2; replace a3 := U1.cell a3; replace a4 := U1.cell a4; replace a5 := U1.cell a5; replace a6 := U1.cell a6; replace a7 := U1.cell a7; replace b0 := U1.cell b0; replace b1 := U1.cell b1; replace b2 := U1.cell b2; replace b3 := U1.cell b3; replace b4 := U1.cell b4; replace b5 := U1.cell b5; replace b6 := U1.cell b6; replace b7 := U1.cell b7))
  obtain ⟨Q, hQ⟩ : ∃ Q, Q = V1.alloc (.cells #[.int .i64 0] 30) := ⟨_, rfl⟩
  rw [← hQ]
  have GV : Grew w V1 := ((G0.out.trans U).trans U0).trans U1
  have gQ : Grew V1 Q := by rw [hQ]; exact (Grew.refl V1).alloc _ _
  have sz : Q.heap.size = V1.heap.size + 1 := by rw [hQ]; simp [go_sem]
  have EQ : Err Q V1.heap.size 0 0 := ⟨by rw [hQ]; simp [go_sem], by rw [hQ]; simp [go_sem]⟩
  have lt : w.heap.size + 1 < V1.heap.size := cell_block b0
  clear hQ U U0 U1 G0 HA HB
  replace a0 := gQ.cell a0
  replace a1 := gQ.cell a1
  replace a2 := gQ.cell a2
  replace a3 := gQ.cell a3
  replace a4 := gQ.cell a4
  replace a5 := gQ.cell a5
  replace a6 := gQ.cell a6
  replace a7 := gQ.cell a7
  replace b0 := gQ.cell b0
  replace b1 := gQ.cell b1
  replace b2 := gQ.cell b2
  replace b3 := gQ.cell b3
  replace b4 := gQ.cell b4
  replace b5 := gQ.cell b5
  replace b6 := gQ.cell b6
  replace b7 := gQ.cell b7
  generalize hX : V1.heap.size = X at *
  go_cut [6, 7] from 28 to 31 (fun c d wx => ∃ i j, c = .pointer (some ⟨i, 0, none⟩) ∧ d = .pointer (some ⟨j, 0, none⟩) ∧ XAt wx i Y0 ∧ XAt wx j Y1 ∧ Past X Q wx)
  case first =>
    have D0' := D0.out X
    have D1' := D1.out X
    replace D0 : Hid _ := D0'
    replace D1 : Hid _ := D1'
    clear D0' D1' HM ME CM hI hJ tu1 tu2
    have SP : Hid (∀ W W', Past X W W' → (fun w' => w'.cell? ⟨w.heap.size, 0, none⟩ = some (.int .i64 B0.s) ∧ w'.cell? ⟨w.heap.size, 1, none⟩ = some (.int .i64 B0.a) ∧ w'.cell? ⟨w.heap.size, 2, none⟩ = some (.int .i64 B0.b) ∧ w'.cell? ⟨w.heap.size, 3, none⟩ = some (.int .i64 B0.m) ∧ w'.cell? ⟨w.heap.size, 4, none⟩ = some (.int .i64 B0.p) ∧ w'.cell? ⟨w.heap.size, 5, none⟩ = some (.int .i64 B0.q) ∧ w'.cell? ⟨w.heap.size, 6, none⟩ = some (.int .i64 B0.u) ∧ w'.cell? ⟨w.heap.size, 7, none⟩ = some (.int .i64 B0.v) ∧ w'.cell? ⟨w.heap.size + 1, 0, none⟩ = some (.int .i64 B1.s) ∧ w'.cell? ⟨w.heap.size + 1, 1, none⟩ = some (.int .i64 B1.a) ∧ w'.cell? ⟨w.heap.size + 1, 2, none⟩ = some (.int .i64 B1.b) ∧ w'.cell? ⟨w.heap.size + 1, 3, none⟩ = some (.int .i64 B1.m) ∧ w'.cell? ⟨w.heap.size + 1, 4, none⟩ = some (.int .i64 B1.p) ∧ w'.cell? ⟨w.heap.size + 1, 5, none⟩ = some (.int .i64 B1.q) ∧ w'.cell? ⟨w.heap.size + 1, 6, none⟩ = some (.int .i64 B1.u) ∧ w'.cell? ⟨w.heap.size + 1, 7, none⟩ = some (.int .i64 B1.v)) W → (fun w' => w'.cell? ⟨w.heap.size, 0, none⟩ = some (.int .i64 B0.s) ∧ w'.cell? ⟨w.heap.size, 1, none⟩ = some (.int .i64 B0.a) ∧ w'.cell? ⟨w.heap.size, 2, none⟩ = some (.int .i64 B0.b) ∧ w'.cell? ⟨w.heap.size, 3, none⟩ = some (.int .i64 B0.m) ∧ w'.cell? ⟨w.heap.size, 4, none⟩ = some (.int .i64 B0.p) ∧ w'.cell? ⟨w.heap.size, 5, none⟩ = some (.int .i64 B0.q) ∧ w'.cell? ⟨w.heap.size, 6, none⟩ = some (.int .i64 B0.u) ∧ w'.cell? ⟨w.heap.size, 7, none⟩ = some (.int .i64 B0.v) ∧ w'.cell? ⟨w.heap.size + 1, 0, none⟩ = some (.int .i64 B1.s) ∧ w'.cell? ⟨w.heap.size + 1, 1, none⟩ = some (.int .i64 B1.a) ∧ w'.cell? ⟨w.heap.size + 1, 2, none⟩ = some (.int .i64 B1.b) ∧ w'.cell? ⟨w.heap.size + 1, 3, none⟩ = some (.int .i64 B1.m) ∧ w'.cell? ⟨w.heap.size + 1, 4, none⟩ = some (.int .i64 B1.p) ∧ w'.cell? ⟨w.heap.size + 1, 5, none⟩ = some (.int .i64 B1.q) ∧ w'.cell? ⟨w.heap.size + 1, 6, none⟩ = some (.int .i64 B1.u) ∧ w'.cell? ⟨w.heap.size + 1, 7, none⟩ = some (.int .i64 B1.v)) W') := fun W W' g h => ⟨g.cell (by simp only; omega) h.1, g.cell (by simp only; omega) h.2.1, g.cell (by simp only; omega) h.2.2.1, g.cell (by simp only; omega) h.2.2.2.1, g.cell (by simp only; omega) h.2.2.2.2.1, g.cell (by simp only; omega) h.2.2.2.2.2.1, g.cell (by simp only; omega) h.2.2.2.2.2.2.1, g.cell (by simp only; omega) h.2.2.2.2.2.2.2.1, g.cell (by simp only; omega) h.2.2.2.2.2.2.2.2.1, g.cell (by simp only; omega) h.2.2.2.2.2.2.2.2.2.1, g.cell (by simp only; omega) h.2.2.2.2.2.2.2.2.2.2.1, g.cell (by simp only; omega) h.2.2.2.2.2.2.2.2.2.2.2.1, g.cell (by simp only; omega) h.2.2.2.2.2.2.2.2.2.2.2.2.1, g.cell (by simp only; omega) h.2.2.2.2.2.2.2.2.2.2.2.2.2.1, g.cell (by simp only; omega) h.2.2.2.2.2.2.2.2.2.2.2.2.2.2.1, g.cell (by simp only; omega) h.2.2.2.2.2.2.2.2.2.2.2.2.2.2.2⟩
    have SW : Hid (∀ W W' i, Wrote (fun n => n = i) W W' → X < i → (fun w' => w'.cell? ⟨w.heap.size, 0, none⟩ = some (.int .i64 B0.s) ∧ w'.cell? ⟨w.heap.size, 1, none⟩ = some (.int .i64 B0.a) ∧ w'.cell? ⟨w.heap.size, 2, none⟩ = some (.int .i64 B0.b) ∧ w'.cell? ⟨w.heap.size, 3, none⟩ = some (.int .i64 B0.m) ∧ w'.cell? ⟨w.heap.size, 4, none⟩ = some (.int .i64 B0.p) ∧ w'.cell? ⟨w.heap.size, 5, none⟩ = some (.int .i64 B0.q) ∧ w'.cell? ⟨w.heap.size, 6, none⟩ = some (.int .i64 B0.u) ∧ w'.cell? ⟨w.heap.size, 7, none⟩ = some (.int .i64 B0.v) ∧ w'.cell? ⟨w.heap.size + 1, 0, none⟩ = some (.int .i64 B1.s) ∧ w'.cell? ⟨w.heap.size + 1, 1, none⟩ = some (.int .i64 B1.a) ∧ w'.cell? ⟨w.heap.size + 1, 2, none⟩ = some (.int .i64 B1.b) ∧ w'.cell? ⟨w.heap.size + 1, 3, none⟩ = some (.int .i64 B1.m) ∧ w'.cell? ⟨w.heap.size + 1, 4, none⟩ = some (.int .i64 B1.p) ∧ w'.cell? ⟨w.heap.size + 1, 5, none⟩ = some (.int .i64 B1.q) ∧ w'.cell? ⟨w.heap.size + 1, 6, none⟩ = some (.int .i64 B1.u) ∧ w'.cell? ⟨w.heap.size + 1, 7, none⟩ = some (.int .i64 B1.v)) W → (fun w' => w'.cell? ⟨w.heap.size, 0, none⟩ = some (.int .i64 B0.s) ∧ w'.cell? ⟨w.heap.size, 1, none⟩ = some (.int .i64 B0.a) ∧ w'.cell? ⟨w.heap.size, 2, none⟩ = some (.int .i64 B0.b) ∧ w'.cell? ⟨w.heap.size, 3, none⟩ = some (.int .i64 B0.m) ∧ w'.cell? ⟨w.heap.size, 4, none⟩ = some (.int .i64 B0.p) ∧ w'.cell? ⟨w.heap.size, 5, none⟩ = some (.int .i64 B0.q) ∧ w'.cell? ⟨w.heap.size, 6, none⟩ = some (.int .i64 B0.u) ∧ w'.cell? ⟨w.heap.size, 7, none⟩ = some (.int .i64 B0.v) ∧ w'.cell? ⟨w.heap.size + 1, 0, none⟩ = some (.int .i64 B1.s) ∧ w'.cell? ⟨w.heap.size + 1, 1, none⟩ = some (.int .i64 B1.a) ∧ w'.cell? ⟨w.heap.size + 1, 2, none⟩ = some (.int .i64 B1.b) ∧ w'.cell? ⟨w.heap.size + 1, 3, none⟩ = some (.int .i64 B1.m) ∧ w'.cell? ⟨w.heap.size + 1, 4, none⟩ = some (.int .i64 B1.p) ∧ w'.cell? ⟨w.heap.size + 1, 5, none⟩ = some (.int .i64 B1.q) ∧ w'.cell? ⟨w.heap.size + 1, 6, none⟩ = some (.int .i64 B1.u) ∧ w'.cell? ⟨w.heap.size + 1, 7, none⟩ = some (.int .i64 B1.v)) W') := fun W W' i g hi h => ⟨g.cell h.1 (by simp only; omega), g.cell h.2.1 (by simp only; omega), g.cell h.2.2.1 (by simp only; omega), g.cell h.2.2.2.1 (by simp only; omega), g.cell h.2.2.2.2.1 (by simp only; omega), g.cell h.2.2.2.2.2.1 (by simp only; omega), g.cell h.2.2.2.2.2.2.1 (by simp only; omega), g.cell h.2.2.2.2.2.2.2.1 (by simp only; omega), g.cell h.2.2.2.2.2.2.2.2.1 (by simp only; omega), g.cell h.2.2.2.2.2.2.2.2.2.1 (by simp only; omega), g.cell h.2.2.2.2.2.2.2.2.2.2.1 (by simp only; omega), g.cell h.2.2.2.2.2.2.2.2.2.2.2.1 (by simp only; omega), g.cell h.2.2.2.2.2.2.2.2.2.2.2.2.1 (by simp only; omega), g.cell h.2.2.2.2.2.2.2.2.2.2.2.2.2.1 (by simp only; omega), g.cell h.2.2.2.2.2.2.2.2.2.2.2.2.2.2.1 (by simp only; omega), g.cell h.2.2.2.2.2.2.2.2.2.2.2.2.2.2.2 (by simp only; omega)⟩
    refine wp_region_held_drew (S := (fun w' => w'.cell? ⟨w.heap.size, 0, none⟩ = some (.int .i64 B0.s) ∧ w'.cell? ⟨w.heap.size, 1, none⟩ = some (.int .i64 B0.a) ∧ w'.cell? ⟨w.heap.size, 2, none⟩ = some (.int .i64 B0.b) ∧ w'.cell? ⟨w.heap.size, 3, none⟩ = some (.int .i64 B0.m) ∧ w'.cell? ⟨w.heap.size, 4, none⟩ = some (.int .i64 B0.p) ∧ w'.cell? ⟨w.heap.size, 5, none⟩ = some (.int .i64 B0.q) ∧ w'.cell? ⟨w.heap.size, 6, none⟩ = some (.int .i64 B0.u) ∧ w'.cell? ⟨w.heap.size, 7, none⟩ = some (.int .i64 B0.v) ∧ w'.cell? ⟨w.heap.size + 1, 0, none⟩ = some (.int .i64 B1.s) ∧ w'.cell? ⟨w.heap.size + 1, 1, none⟩ = some (.int .i64 B1.a) ∧ w'.cell? ⟨w.heap.size + 1, 2, none⟩ = some (.int .i64 B1.b) ∧ w'.cell? ⟨w.heap.size + 1, 3, none⟩ = some (.int .i64 B1.m) ∧ w'.cell? ⟨w.heap.size + 1, 4, none⟩ = some (.int .i64 B1.p) ∧ w'.cell? ⟨w.heap.size + 1, 5, none⟩ = some (.int .i64 B1.q) ∧ w'.cell? ⟨w.heap.size + 1, 6, none⟩ = some (.int .i64 B1.u) ∧ w'.cell? ⟨w.heap.size + 1, 7, none⟩ = some (.int .i64 B1.v))) (by kernel_rfl) ?_ (fun hH0 => ?_)
    · exact SP.out Q _ (Grew.refl Q).drew.past ⟨a0, a1, a2, a3, a4, a5, a6, a7, b0, b1, b2, b3, b4, b5, b6, b7⟩
    clear a0 a1 a2 a3 a4 a5 a6 a7 b0 b1 b2 b3 b4 b5 b6 b7
    obtain ⟨W0, hW0⟩ : ∃ W0, W0 = Q.drew := ⟨_, rfl⟩
    rw [← hW0] at hH0 ⊢
    have G0 : Hid (Past X Q W0) := by rw [hW0]; exact (Grew.refl Q).drew.past
    have E0 : Err W0 X 0 0 := by rw [hW0]; exact EQ.grew (Grew.refl Q).drew
    clear hW0
    refine wpAnyH_take (i := 0) (oi := { dst := some 28, op := Go.Op.load 26 (Go.Operand.tmp 2), type := 26, pos := "law.go:46", after := #[], guard := none }) (v := ?v0) rfl (by kernel_rfl) (by kernel_rfl) (by kernel_rfl) (fun _ _ _ h => h) (Or.inl ⟨by rfl, ?hy0⟩) (by assumption) ?rest0
    case hy0 => (intro w hSw; (try dsimp only at hSw); go_simp; try (with_reducible rfl))
    simp only [Act.put, List.setIfInBounds_toArray, List.set_cons_zero, List.set_cons_succ]
    refine wpAnyH_take (i := 2) (oi := { dst := some 30, op := Go.Op.load 26 (Go.Operand.tmp 3), type := 26, pos := "law.go:46", after := #[], guard := none }) (v := ?v2) rfl (by kernel_rfl) (by kernel_rfl) (by kernel_rfl) (fun _ _ _ h => h) (Or.inl ⟨by rfl, ?hy2⟩) (by assumption) ?rest2
    case hy2 => (intro w hSw; (try dsimp only at hSw); go_simp; try (with_reducible rfl))
    simp only [Act.put, List.setIfInBounds_toArray, List.set_cons_zero, List.set_cons_succ]
    refine wpAnyH_ready (rs := [1, 4, 5]) (by kernel_rfl) (by simp) ?_
    refine AllReadyH.cons (o := { dst := some 29, op := Go.Op.call { callee := Go.Callee.value (Go.Operand.func 18), args := #[Go.Operand.tmp 5, Go.Operand.tmp 28], argTypes := #[30, 26] }, type := 40, pos := "law.go:46", after := #[{ on := 0, ground := Go.Ground.data }], guard := none }) rfl (fun K hK => ?_) (AllReadyH.cons (o := { dst := some 6, op := Go.Op.alloc 40, type := 0, pos := "law.go:46", after := #[], guard := none }) rfl (fun K hK => ?_) (AllReadyH.cons (o := { dst := some 7, op := Go.Op.alloc 40, type := 0, pos := "law.go:46", after := #[], guard := none }) rfl (fun K hK => ?_) AllReadyH.nil))
    · go_simp
      go_wp2_with (first
        | (go_at_call 18; go_fit (D0.out _ E0); rintro e W1 ⟨rfl, E1, g1⟩))
      refine hK.out _ _ (SP.out _ _ g1 hH0) (fun hH1 => ?_)
      clear hK K
      have G1 : Hid (Past X Q W1) := G0.out.trans g1
      refine wpAnyH_ready (rs := [3, 4, 5]) (by kernel_rfl) (by simp) ?_
      refine AllReadyH.cons (o := { dst := some 31, op := Go.Op.call { callee := Go.Callee.value (Go.Operand.func 18), args := #[Go.Operand.tmp 5, Go.Operand.tmp 30], argTypes := #[30, 26] }, type := 40, pos := "law.go:46", after := #[{ on := 2, ground := Go.Ground.data }, { on := 1, ground := Go.Ground.chain }], guard := none }) rfl (fun K hK => ?_) (AllReadyH.cons (o := { dst := some 6, op := Go.Op.alloc 40, type := 0, pos := "law.go:46", after := #[], guard := none }) rfl (fun K hK => ?_) (AllReadyH.cons (o := { dst := some 7, op := Go.Op.alloc 40, type := 0, pos := "law.go:46", after := #[], guard := none }) rfl (fun K hK => ?_) AllReadyH.nil))
      · go_simp
        go_wp2_with (first
          | (go_at_call 18; go_fit (D1.out _ E1); rintro e W2 ⟨rfl, E2, g2⟩))
        refine hK.out _ _ (SP.out _ _ g2 hH1) (fun hH2 => ?_)
        clear hK K
        have G2 : Hid (Past X Q W2) := G1.out.trans g2
        refine wpAnyH_ready (rs := [4, 5]) (by kernel_rfl) (by simp) ?_
        refine AllReadyH.cons (o := { dst := some 6, op := Go.Op.alloc 40, type := 0, pos := "law.go:46", after := #[], guard := none }) rfl (fun K hK => ?_) (AllReadyH.cons (o := { dst := some 7, op := Go.Op.alloc 40, type := 0, pos := "law.go:46", after := #[], guard := none }) rfl (fun K hK => ?_) AllReadyH.nil)
        · go_simp
          obtain ⟨W3, hW3⟩ : ∃ X, X = W2.alloc (.cells #[.int .i64 0, .int .i64 0, .int .i64 0, .int .i64 0] 40) := ⟨_, rfl⟩
          have g3 : Grew W2 W3 := by rw [hW3]; exact (Grew.refl _).alloc _ _
          refine hK.out _ _ (SP.out _ _ ((Grew.refl W2).alloc _ _).past hH2) (fun hH3 => ?_)
          clear hK K
          rw [← hW3] at hH3 ⊢
          have G3 : Hid (Past X Q W3) := G2.out.trans g3.past
          have E3 := E2.grew g3
          have A3_3 : XAt W3 W2.heap.size ⟨0, 0, 0, 0⟩ := by rw [hW3]; constructor <;> simp [go_sem]
          have Z3_3 : Free W3 W2.heap.size := g3.freeB (Nat.le_refl _)
          have M3 : Q.heap.size ≤ W2.heap.size := G2.out.size
          obtain ⟨B3, hB3⟩ : ∃ B, W2.heap.size = B := ⟨_, rfl⟩
          rw [hB3] at A3_3 Z3_3 M3 ⊢
          clear hW3 hB3
          refine wpAnyH_ready (rs := [5]) (by kernel_rfl) (by simp) ?_
          refine AllReadyH.cons (o := { dst := some 7, op := Go.Op.alloc 40, type := 0, pos := "law.go:46", after := #[], guard := none }) rfl (fun K hK => ?_) AllReadyH.nil
          · go_simp
            obtain ⟨W4, hW4⟩ : ∃ X, X = W3.alloc (.cells #[.int .i64 0, .int .i64 0, .int .i64 0, .int .i64 0] 40) := ⟨_, rfl⟩
            have g4 : Grew W3 W4 := by rw [hW4]; exact (Grew.refl _).alloc _ _
            refine hK.out _ _ (SP.out _ _ ((Grew.refl W3).alloc _ _).past hH3) (fun hH4 => ?_)
            clear hK K
            rw [← hW4] at hH4 ⊢
            have G4 : Hid (Past X Q W4) := G3.out.trans g4.past
            have E4 := E3.grew g4
            have A4_3 := A3_3.grew g4
            have Z4_3 := Z3_3.grew g4
            have F3 : W3.heap.size ≠ B3 := Nat.ne_of_gt A3_3.size
            have A4_4 : XAt W4 W3.heap.size ⟨0, 0, 0, 0⟩ := by rw [hW4]; constructor <;> simp [go_sem]
            have Z4_4 : Free W4 W3.heap.size := g4.freeB (Nat.le_refl _)
            have M4 : Q.heap.size ≤ W3.heap.size := G3.out.size
            obtain ⟨B4, hB4⟩ : ∃ B, W3.heap.size = B := ⟨_, rfl⟩
            rw [hB4] at A4_4 Z4_4 M4 F3 ⊢
            clear hW4 hB4
            refine wpAnyH_ready (rs := [6]) (by kernel_rfl) (by simp) ?_
            refine AllReadyH.cons (o := { dst := none, op := Go.Op.store 40 (Go.Operand.tmp 6) (Go.Operand.tmp 29), type := 0, pos := "law.go:46", after := #[{ on := 4, ground := Go.Ground.data }, { on := 1, ground := Go.Ground.data }, { on := 3, ground := Go.Ground.chain }, { on := 0, ground := Go.Ground.phase }, { on := 1, ground := Go.Ground.phase }, { on := 2, ground := Go.Ground.textOnly Go.Departure.lateStores }, { on := 3, ground := Go.Ground.textOnly Go.Departure.lateStoresUnsure }, { on := 4, ground := Go.Ground.phase }, { on := 5, ground := Go.Ground.phase }], guard := none }) rfl (fun K hK => ?_) AllReadyH.nil
            · have hne : B3 ≠ B4 := by omega
              obtain ⟨e0, e1, e2, e3⟩ := A4_3
              have z0 := Z4_3 0 none
              have z1 := Z4_3 1 none
              have z2 := Z4_3 2 none
              have z3 := Z4_3 3 none
              go_simp
              refine hK.out _ _ (SW.out _ _ B3 ((Grew.refl W4).set4 B3 _ _ _ _) (by omega) hH4) (fun hH5 => ?_)
              clear hK K
              have R5 := laid_boxes Y0 Y1 G4.out M3 M4 hne ⟨e0, e1, e2, e3⟩ A4_4
              have T5 := A4_4.wrote ((Grew.refl W4).set4 B3 (.int .i64 Y0.l) (.int .i64 Y0.m) (.int .i64 Y0.h) (.int .i64 Y0.k)) (fun e => hne e.symm)
              have TZ5 := Z4_4.wrote ((Grew.refl W4).set4 B3 (.int .i64 Y0.l) (.int .i64 Y0.m) (.int .i64 Y0.h) (.int .i64 Y0.k)) (fun e => hne e.symm) A4_4.size
              clear e0 e1 e2 e3 z0 z1 z2 z3
              obtain ⟨W5, hW5⟩ : ∃ X, X = (((W4.setCell ⟨B3, 0, none⟩ (.int .i64 Y0.l)).setCell ⟨B3, 1, none⟩ (.int .i64 Y0.m)).setCell ⟨B3, 2, none⟩ (.int .i64 Y0.h)).setCell ⟨B3, 3, none⟩ (.int .i64 Y0.k) := ⟨_, rfl⟩
              rw [← hW5] at R5 T5 TZ5 hH5 ⊢
              clear hW5
              refine wpAnyH_ready (rs := [7]) (by kernel_rfl) (by simp) ?_
              refine AllReadyH.cons (o := { dst := none, op := Go.Op.store 40 (Go.Operand.tmp 7) (Go.Operand.tmp 31), type := 0, pos := "law.go:46", after := #[{ on := 5, ground := Go.Ground.data }, { on := 3, ground := Go.Ground.data }, { on := 6, ground := Go.Ground.chain }, { on := 0, ground := Go.Ground.phase }, { on := 1, ground := Go.Ground.phase }, { on := 2, ground := Go.Ground.phase }, { on := 3, ground := Go.Ground.phase }, { on := 4, ground := Go.Ground.phase }, { on := 5, ground := Go.Ground.phase }, { on := 6, ground := Go.Ground.phase }], guard := none }) rfl (fun K hK => ?_) AllReadyH.nil
              · obtain ⟨e0, e1, e2, e3⟩ := T5
                have z0 := TZ5 0 none
                have z1 := TZ5 1 none
                have z2 := TZ5 2 none
                have z3 := TZ5 3 none
                go_simp
                refine hK.out _ _ (SW.out _ _ B4 ((Grew.refl W5).set4 B4 _ _ _ _) (by omega) hH5) (fun hH6 => ?_)
                clear hK K
                have R6 := R5
                refine wpAnyH_done (by kernel_rfl) ?_ _
                go_wp2
                go_meet
                case rel => exact ⟨_, _, rfl, rfl, R6⟩
        · go_simp
          obtain ⟨W7, hW7⟩ : ∃ X, X = W2.alloc (.cells #[.int .i64 0, .int .i64 0, .int .i64 0, .int .i64 0] 40) := ⟨_, rfl⟩
          have g7 : Grew W2 W7 := by rw [hW7]; exact (Grew.refl _).alloc _ _
          refine hK.out _ _ (SP.out _ _ ((Grew.refl W2).alloc _ _).past hH2) (fun hH7 => ?_)
          clear hK K
          rw [← hW7] at hH7 ⊢
          have G7 : Hid (Past X Q W7) := G2.out.trans g7.past
          have E7 := E2.grew g7
          have A7_7 : XAt W7 W2.heap.size ⟨0, 0, 0, 0⟩ := by rw [hW7]; constructor <;> simp [go_sem]
          have Z7_7 : Free W7 W2.heap.size := g7.freeB (Nat.le_refl _)
          have M7 : Q.heap.size ≤ W2.heap.size := G2.out.size
          obtain ⟨B7, hB7⟩ : ∃ B, W2.heap.size = B := ⟨_, rfl⟩
          rw [hB7] at A7_7 Z7_7 M7 ⊢
          clear hW7 hB7
          refine wpAnyH_ready (rs := [4]) (by kernel_rfl) (by simp) ?_
          refine AllReadyH.cons (o := { dst := some 6, op := Go.Op.alloc 40, type := 0, pos := "law.go:46", after := #[], guard := none }) rfl (fun K hK => ?_) AllReadyH.nil
          · go_simp
            obtain ⟨W8, hW8⟩ : ∃ X, X = W7.alloc (.cells #[.int .i64 0, .int .i64 0, .int .i64 0, .int .i64 0] 40) := ⟨_, rfl⟩
            have g8 : Grew W7 W8 := by rw [hW8]; exact (Grew.refl _).alloc _ _
            refine hK.out _ _ (SP.out _ _ ((Grew.refl W7).alloc _ _).past hH7) (fun hH8 => ?_)
            clear hK K
            rw [← hW8] at hH8 ⊢
            have G8 : Hid (Past X Q W8) := G7.out.trans g8.past
            have E8 := E7.grew g8
            have A8_7 := A7_7.grew g8
            have Z8_7 := Z7_7.grew g8
            have F7 : W7.heap.size ≠ B7 := Nat.ne_of_gt A7_7.size
            have A8_8 : XAt W8 W7.heap.size ⟨0, 0, 0, 0⟩ := by rw [hW8]; constructor <;> simp [go_sem]
            have Z8_8 : Free W8 W7.heap.size := g8.freeB (Nat.le_refl _)
            have M8 : Q.heap.size ≤ W7.heap.size := G7.out.size
            obtain ⟨B8, hB8⟩ : ∃ B, W7.heap.size = B := ⟨_, rfl⟩
            rw [hB8] at A8_8 Z8_8 M8 F7 ⊢
            clear hW8 hB8
            refine wpAnyH_ready (rs := [6]) (by kernel_rfl) (by simp) ?_
            refine AllReadyH.cons (o := { dst := none, op := Go.Op.store 40 (Go.Operand.tmp 6) (Go.Operand.tmp 29), type := 0, pos := "law.go:46", after := #[{ on := 4, ground := Go.Ground.data }, { on := 1, ground := Go.Ground.data }, { on := 3, ground := Go.Ground.chain }, { on := 0, ground := Go.Ground.phase }, { on := 1, ground := Go.Ground.phase }, { on := 2, ground := Go.Ground.textOnly Go.Departure.lateStores }, { on := 3, ground := Go.Ground.textOnly Go.Departure.lateStoresUnsure }, { on := 4, ground := Go.Ground.phase }, { on := 5, ground := Go.Ground.phase }], guard := none }) rfl (fun K hK => ?_) AllReadyH.nil
            · have hne : B8 ≠ B7 := by omega
              obtain ⟨e0, e1, e2, e3⟩ := A8_8
              have z0 := Z8_8 0 none
              have z1 := Z8_8 1 none
              have z2 := Z8_8 2 none
              have z3 := Z8_8 3 none
              go_simp
              refine hK.out _ _ (SW.out _ _ B8 ((Grew.refl W8).set4 B8 _ _ _ _) (by omega) hH8) (fun hH9 => ?_)
              clear hK K
              have R9 := laid_boxes Y0 Y1 G8.out M8 M7 hne ⟨e0, e1, e2, e3⟩ A8_7
              have T9 := A8_7.wrote ((Grew.refl W8).set4 B8 (.int .i64 Y0.l) (.int .i64 Y0.m) (.int .i64 Y0.h) (.int .i64 Y0.k)) (fun e => hne e.symm)
              have TZ9 := Z8_7.wrote ((Grew.refl W8).set4 B8 (.int .i64 Y0.l) (.int .i64 Y0.m) (.int .i64 Y0.h) (.int .i64 Y0.k)) (fun e => hne e.symm) A8_7.size
              clear e0 e1 e2 e3 z0 z1 z2 z3
              obtain ⟨W9, hW9⟩ : ∃ X, X = (((W8.setCell ⟨B8, 0, none⟩ (.int .i64 Y0.l)).setCell ⟨B8, 1, none⟩ (.int .i64 Y0.m)).setCell ⟨B8, 2, none⟩ (.int .i64 Y0.h)).setCell ⟨B8, 3, none⟩ (.int .i64 Y0.k) := ⟨_, rfl⟩
              rw [← hW9] at R9 T9 TZ9 hH9 ⊢
              clear hW9
              refine wpAnyH_ready (rs := [7]) (by kernel_rfl) (by simp) ?_
              refine AllReadyH.cons (o := { dst := none, op := Go.Op.store 40 (Go.Operand.tmp 7) (Go.Operand.tmp 31), type := 0, pos := "law.go:46", after := #[{ on := 5, ground := Go.Ground.data }, { on := 3, ground := Go.Ground.data }, { on := 6, ground := Go.Ground.chain }, { on := 0, ground := Go.Ground.phase }, { on := 1, ground := Go.Ground.phase }, { on := 2, ground := Go.Ground.phase }, { on := 3, ground := Go.Ground.phase }, { on := 4, ground := Go.Ground.phase }, { on := 5, ground := Go.Ground.phase }, { on := 6, ground := Go.Ground.phase }], guard := none }) rfl (fun K hK => ?_) AllReadyH.nil
              · obtain ⟨e0, e1, e2, e3⟩ := T9
                have z0 := TZ9 0 none
                have z1 := TZ9 1 none
                have z2 := TZ9 2 none
                have z3 := TZ9 3 none
                go_simp
                refine hK.out _ _ (SW.out _ _ B7 ((Grew.refl W9).set4 B7 _ _ _ _) (by omega) hH9) (fun hH10 => ?_)
                clear hK K
                have R10 := R9
                refine wpAnyH_done (by kernel_rfl) ?_ _
                go_wp2
                go_meet
                case rel => exact ⟨_, _, rfl, rfl, R10⟩
      · go_simp
        obtain ⟨W11, hW11⟩ : ∃ X, X = W1.alloc (.cells #[.int .i64 0, .int .i64 0, .int .i64 0, .int .i64 0] 40) := ⟨_, rfl⟩
        have g11 : Grew W1 W11 := by rw [hW11]; exact (Grew.refl _).alloc _ _
        refine hK.out _ _ (SP.out _ _ ((Grew.refl W1).alloc _ _).past hH1) (fun hH11 => ?_)
        clear hK K
        rw [← hW11] at hH11 ⊢
        have G11 : Hid (Past X Q W11) := G1.out.trans g11.past
        have E11 := E1.grew g11
        have A11_11 : XAt W11 W1.heap.size ⟨0, 0, 0, 0⟩ := by rw [hW11]; constructor <;> simp [go_sem]
        have Z11_11 : Free W11 W1.heap.size := g11.freeB (Nat.le_refl _)
        have M11 : Q.heap.size ≤ W1.heap.size := G1.out.size
        obtain ⟨B11, hB11⟩ : ∃ B, W1.heap.size = B := ⟨_, rfl⟩
        rw [hB11] at A11_11 Z11_11 M11 ⊢
        clear hW11 hB11
        refine wpAnyH_ready (rs := [3, 5]) (by kernel_rfl) (by simp) ?_
        refine AllReadyH.cons (o := { dst := some 31, op := Go.Op.call { callee := Go.Callee.value (Go.Operand.func 18), args := #[Go.Operand.tmp 5, Go.Operand.tmp 30], argTypes := #[30, 26] }, type := 40, pos := "law.go:46", after := #[{ on := 2, ground := Go.Ground.data }, { on := 1, ground := Go.Ground.chain }], guard := none }) rfl (fun K hK => ?_) (AllReadyH.cons (o := { dst := some 7, op := Go.Op.alloc 40, type := 0, pos := "law.go:46", after := #[], guard := none }) rfl (fun K hK => ?_) AllReadyH.nil)
        · go_simp
          go_wp2_with (first
            | (go_at_call 18; go_fit (D1.out _ E11); rintro e W12 ⟨rfl, E12, g12⟩))
          refine hK.out _ _ (SP.out _ _ g12 hH11) (fun hH12 => ?_)
          clear hK K
          have G12 : Hid (Past X Q W12) := G11.out.trans g12
          have A12_11 := xat_past A11_11 g12 (by omega)
          have Z12_11 : Free W12 B11 := fun o s => g12.frozen (p := ⟨B11, o, s⟩) A11_11.size (by simp only; omega) (Z11_11 o s)
          refine wpAnyH_ready (rs := [5]) (by kernel_rfl) (by simp) ?_
          refine AllReadyH.cons (o := { dst := some 7, op := Go.Op.alloc 40, type := 0, pos := "law.go:46", after := #[], guard := none }) rfl (fun K hK => ?_) AllReadyH.nil
          · go_simp
            obtain ⟨W13, hW13⟩ : ∃ X, X = W12.alloc (.cells #[.int .i64 0, .int .i64 0, .int .i64 0, .int .i64 0] 40) := ⟨_, rfl⟩
            have g13 : Grew W12 W13 := by rw [hW13]; exact (Grew.refl _).alloc _ _
            refine hK.out _ _ (SP.out _ _ ((Grew.refl W12).alloc _ _).past hH12) (fun hH13 => ?_)
            clear hK K
            rw [← hW13] at hH13 ⊢
            have G13 : Hid (Past X Q W13) := G12.out.trans g13.past
            have E13 := E12.grew g13
            have A13_11 := A12_11.grew g13
            have Z13_11 := Z12_11.grew g13
            have F11 : W12.heap.size ≠ B11 := Nat.ne_of_gt A12_11.size
            have A13_13 : XAt W13 W12.heap.size ⟨0, 0, 0, 0⟩ := by rw [hW13]; constructor <;> simp [go_sem]
            have Z13_13 : Free W13 W12.heap.size := g13.freeB (Nat.le_refl _)
            have M13 : Q.heap.size ≤ W12.heap.size := G12.out.size
            obtain ⟨B13, hB13⟩ : ∃ B, W12.heap.size = B := ⟨_, rfl⟩
            rw [hB13] at A13_13 Z13_13 M13 F11 ⊢
            clear hW13 hB13
            refine wpAnyH_ready (rs := [6]) (by kernel_rfl) (by simp) ?_
            refine AllReadyH.cons (o := { dst := none, op := Go.Op.store 40 (Go.Operand.tmp 6) (Go.Operand.tmp 29), type := 0, pos := "law.go:46", after := #[{ on := 4, ground := Go.Ground.data }, { on := 1, ground := Go.Ground.data }, { on := 3, ground := Go.Ground.chain }, { on := 0, ground := Go.Ground.phase }, { on := 1, ground := Go.Ground.phase }, { on := 2, ground := Go.Ground.textOnly Go.Departure.lateStores }, { on := 3, ground := Go.Ground.textOnly Go.Departure.lateStoresUnsure }, { on := 4, ground := Go.Ground.phase }, { on := 5, ground := Go.Ground.phase }], guard := none }) rfl (fun K hK => ?_) AllReadyH.nil
            · have hne : B11 ≠ B13 := by omega
              obtain ⟨e0, e1, e2, e3⟩ := A13_11
              have z0 := Z13_11 0 none
              have z1 := Z13_11 1 none
              have z2 := Z13_11 2 none
              have z3 := Z13_11 3 none
              go_simp
              refine hK.out _ _ (SW.out _ _ B11 ((Grew.refl W13).set4 B11 _ _ _ _) (by omega) hH13) (fun hH14 => ?_)
              clear hK K
              have R14 := laid_boxes Y0 Y1 G13.out M11 M13 hne ⟨e0, e1, e2, e3⟩ A13_13
              have T14 := A13_13.wrote ((Grew.refl W13).set4 B11 (.int .i64 Y0.l) (.int .i64 Y0.m) (.int .i64 Y0.h) (.int .i64 Y0.k)) (fun e => hne e.symm)
              have TZ14 := Z13_13.wrote ((Grew.refl W13).set4 B11 (.int .i64 Y0.l) (.int .i64 Y0.m) (.int .i64 Y0.h) (.int .i64 Y0.k)) (fun e => hne e.symm) A13_13.size
              clear e0 e1 e2 e3 z0 z1 z2 z3
              obtain ⟨W14, hW14⟩ : ∃ X, X = (((W13.setCell ⟨B11, 0, none⟩ (.int .i64 Y0.l)).setCell ⟨B11, 1, none⟩ (.int .i64 Y0.m)).setCell ⟨B11, 2, none⟩ (.int .i64 Y0.h)).setCell ⟨B11, 3, none⟩ (.int .i64 Y0.k) := ⟨_, rfl⟩
              rw [← hW14] at R14 T14 TZ14 hH14 ⊢
              clear hW14
              refine wpAnyH_ready (rs := [7]) (by kernel_rfl) (by simp) ?_
              refine AllReadyH.cons (o := { dst := none, op := Go.Op.store 40 (Go.Operand.tmp 7) (Go.Operand.tmp 31), type := 0, pos := "law.go:46", after := #[{ on := 5, ground := Go.Ground.data }, { on := 3, ground := Go.Ground.data }, { on := 6, ground := Go.Ground.chain }, { on := 0, ground := Go.Ground.phase }, { on := 1, ground := Go.Ground.phase }, { on := 2, ground := Go.Ground.phase }, { on := 3, ground := Go.Ground.phase }, { on := 4, ground := Go.Ground.phase }, { on := 5, ground := Go.Ground.phase }, { on := 6, ground := Go.Ground.phase }], guard := none }) rfl (fun K hK => ?_) AllReadyH.nil
              · obtain ⟨e0, e1, e2, e3⟩ := T14
                have z0 := TZ14 0 none
                have z1 := TZ14 1 none
                have z2 := TZ14 2 none
                have z3 := TZ14 3 none
                go_simp
                refine hK.out _ _ (SW.out _ _ B13 ((Grew.refl W14).set4 B13 _ _ _ _) (by omega) hH14) (fun hH15 => ?_)
                clear hK K
                have R15 := R14
                refine wpAnyH_done (by kernel_rfl) ?_ _
                go_wp2
                go_meet
                case rel => exact ⟨_, _, rfl, rfl, R15⟩
        · go_simp
          obtain ⟨W16, hW16⟩ : ∃ X, X = W11.alloc (.cells #[.int .i64 0, .int .i64 0, .int .i64 0, .int .i64 0] 40) := ⟨_, rfl⟩
          have g16 : Grew W11 W16 := by rw [hW16]; exact (Grew.refl _).alloc _ _
          refine hK.out _ _ (SP.out _ _ ((Grew.refl W11).alloc _ _).past hH11) (fun hH16 => ?_)
          clear hK K
          rw [← hW16] at hH16 ⊢
          have G16 : Hid (Past X Q W16) := G11.out.trans g16.past
          have E16 := E11.grew g16
          have A16_11 := A11_11.grew g16
          have Z16_11 := Z11_11.grew g16
          have F11 : W11.heap.size ≠ B11 := Nat.ne_of_gt A11_11.size
          have A16_16 : XAt W16 W11.heap.size ⟨0, 0, 0, 0⟩ := by rw [hW16]; constructor <;> simp [go_sem]
          have Z16_16 : Free W16 W11.heap.size := g16.freeB (Nat.le_refl _)
          have M16 : Q.heap.size ≤ W11.heap.size := G11.out.size
          obtain ⟨B16, hB16⟩ : ∃ B, W11.heap.size = B := ⟨_, rfl⟩
          rw [hB16] at A16_16 Z16_16 M16 F11 ⊢
          clear hW16 hB16
          refine wpAnyH_ready (rs := [3]) (by kernel_rfl) (by simp) ?_
          refine AllReadyH.cons (o := { dst := some 31, op := Go.Op.call { callee := Go.Callee.value (Go.Operand.func 18), args := #[Go.Operand.tmp 5, Go.Operand.tmp 30], argTypes := #[30, 26] }, type := 40, pos := "law.go:46", after := #[{ on := 2, ground := Go.Ground.data }, { on := 1, ground := Go.Ground.chain }], guard := none }) rfl (fun K hK => ?_) AllReadyH.nil
          · go_simp
            go_wp2_with (first
              | (go_at_call 18; go_fit (D1.out _ E16); rintro e W17 ⟨rfl, E17, g17⟩))
            refine hK.out _ _ (SP.out _ _ g17 hH16) (fun hH17 => ?_)
            clear hK K
            have G17 : Hid (Past X Q W17) := G16.out.trans g17
            have A17_11 := xat_past A16_11 g17 (by omega)
            have Z17_11 : Free W17 B11 := fun o s => g17.frozen (p := ⟨B11, o, s⟩) A16_11.size (by simp only; omega) (Z16_11 o s)
            have A17_16 := xat_past A16_16 g17 (by omega)
            have Z17_16 : Free W17 B16 := fun o s => g17.frozen (p := ⟨B16, o, s⟩) A16_16.size (by simp only; omega) (Z16_16 o s)
            refine wpAnyH_ready (rs := [6]) (by kernel_rfl) (by simp) ?_
            refine AllReadyH.cons (o := { dst := none, op := Go.Op.store 40 (Go.Operand.tmp 6) (Go.Operand.tmp 29), type := 0, pos := "law.go:46", after := #[{ on := 4, ground := Go.Ground.data }, { on := 1, ground := Go.Ground.data }, { on := 3, ground := Go.Ground.chain }, { on := 0, ground := Go.Ground.phase }, { on := 1, ground := Go.Ground.phase }, { on := 2, ground := Go.Ground.textOnly Go.Departure.lateStores }, { on := 3, ground := Go.Ground.textOnly Go.Departure.lateStoresUnsure }, { on := 4, ground := Go.Ground.phase }, { on := 5, ground := Go.Ground.phase }], guard := none }) rfl (fun K hK => ?_) AllReadyH.nil
            · have hne : B11 ≠ B16 := by omega
              obtain ⟨e0, e1, e2, e3⟩ := A17_11
              have z0 := Z17_11 0 none
              have z1 := Z17_11 1 none
              have z2 := Z17_11 2 none
              have z3 := Z17_11 3 none
              go_simp
              refine hK.out _ _ (SW.out _ _ B11 ((Grew.refl W17).set4 B11 _ _ _ _) (by omega) hH17) (fun hH18 => ?_)
              clear hK K
              have R18 := laid_boxes Y0 Y1 G17.out M11 M16 hne ⟨e0, e1, e2, e3⟩ A17_16
              have T18 := A17_16.wrote ((Grew.refl W17).set4 B11 (.int .i64 Y0.l) (.int .i64 Y0.m) (.int .i64 Y0.h) (.int .i64 Y0.k)) (fun e => hne e.symm)
              have TZ18 := Z17_16.wrote ((Grew.refl W17).set4 B11 (.int .i64 Y0.l) (.int .i64 Y0.m) (.int .i64 Y0.h) (.int .i64 Y0.k)) (fun e => hne e.symm) A17_16.size
              clear e0 e1 e2 e3 z0 z1 z2 z3
              obtain ⟨W18, hW18⟩ : ∃ X, X = (((W17.setCell ⟨B11, 0, none⟩ (.int .i64 Y0.l)).setCell ⟨B11, 1, none⟩ (.int .i64 Y0.m)).setCell ⟨B11, 2, none⟩ (.int .i64 Y0.h)).setCell ⟨B11, 3, none⟩ (.int .i64 Y0.k) := ⟨_, rfl⟩
              rw [← hW18] at R18 T18 TZ18 hH18 ⊢
              clear hW18
              refine wpAnyH_ready (rs := [7]) (by kernel_rfl) (by simp) ?_
              refine AllReadyH.cons (o := { dst := none, op := Go.Op.store 40 (Go.Operand.tmp 7) (Go.Operand.tmp 31), type := 0, pos := "law.go:46", after := #[{ on := 5, ground := Go.Ground.data }, { on := 3, ground := Go.Ground.data }, { on := 6, ground := Go.Ground.chain }, { on := 0, ground := Go.Ground.phase }, { on := 1, ground := Go.Ground.phase }, { on := 2, ground := Go.Ground.phase }, { on := 3, ground := Go.Ground.phase }, { on := 4, ground := Go.Ground.phase }, { on := 5, ground := Go.Ground.phase }, { on := 6, ground := Go.Ground.phase }], guard := none }) rfl (fun K hK => ?_) AllReadyH.nil
              · obtain ⟨e0, e1, e2, e3⟩ := T18
                have z0 := TZ18 0 none
                have z1 := TZ18 1 none
                have z2 := TZ18 2 none
                have z3 := TZ18 3 none
                go_simp
                refine hK.out _ _ (SW.out _ _ B16 ((Grew.refl W18).set4 B16 _ _ _ _) (by omega) hH18) (fun hH19 => ?_)
                clear hK K
                have R19 := R18
                refine wpAnyH_done (by kernel_rfl) ?_ _
                go_wp2
                go_meet
                case rel => exact ⟨_, _, rfl, rfl, R19⟩
      · go_simp
        obtain ⟨W20, hW20⟩ : ∃ X, X = W1.alloc (.cells #[.int .i64 0, .int .i64 0, .int .i64 0, .int .i64 0] 40) := ⟨_, rfl⟩
        have g20 : Grew W1 W20 := by rw [hW20]; exact (Grew.refl _).alloc _ _
        refine hK.out _ _ (SP.out _ _ ((Grew.refl W1).alloc _ _).past hH1) (fun hH20 => ?_)
        clear hK K
        rw [← hW20] at hH20 ⊢
        have G20 : Hid (Past X Q W20) := G1.out.trans g20.past
        have E20 := E1.grew g20
        have A20_20 : XAt W20 W1.heap.size ⟨0, 0, 0, 0⟩ := by rw [hW20]; constructor <;> simp [go_sem]
        have Z20_20 : Free W20 W1.heap.size := g20.freeB (Nat.le_refl _)
        have M20 : Q.heap.size ≤ W1.heap.size := G1.out.size
        obtain ⟨B20, hB20⟩ : ∃ B, W1.heap.size = B := ⟨_, rfl⟩
        rw [hB20] at A20_20 Z20_20 M20 ⊢
        clear hW20 hB20
        refine wpAnyH_ready (rs := [3, 4]) (by kernel_rfl) (by simp) ?_
        refine AllReadyH.cons (o := { dst := some 31, op := Go.Op.call { callee := Go.Callee.value (Go.Operand.func 18), args := #[Go.Operand.tmp 5, Go.Operand.tmp 30], argTypes := #[30, 26] }, type := 40, pos := "law.go:46", after := #[{ on := 2, ground := Go.Ground.data }, { on := 1, ground := Go.Ground.chain }], guard := none }) rfl (fun K hK => ?_) (AllReadyH.cons (o := { dst := some 6, op := Go.Op.alloc 40, type := 0, pos := "law.go:46", after := #[], guard := none }) rfl (fun K hK => ?_) AllReadyH.nil)
        · go_simp
          go_wp2_with (first
            | (go_at_call 18; go_fit (D1.out _ E20); rintro e W21 ⟨rfl, E21, g21⟩))
          refine hK.out _ _ (SP.out _ _ g21 hH20) (fun hH21 => ?_)
          clear hK K
          have G21 : Hid (Past X Q W21) := G20.out.trans g21
          have A21_20 := xat_past A20_20 g21 (by omega)
          have Z21_20 : Free W21 B20 := fun o s => g21.frozen (p := ⟨B20, o, s⟩) A20_20.size (by simp only; omega) (Z20_20 o s)
          refine wpAnyH_ready (rs := [4]) (by kernel_rfl) (by simp) ?_
          refine AllReadyH.cons (o := { dst := some 6, op := Go.Op.alloc 40, type := 0, pos := "law.go:46", after := #[], guard := none }) rfl (fun K hK => ?_) AllReadyH.nil
          · go_simp
            obtain ⟨W22, hW22⟩ : ∃ X, X = W21.alloc (.cells #[.int .i64 0, .int .i64 0, .int .i64 0, .int .i64 0] 40) := ⟨_, rfl⟩
            have g22 : Grew W21 W22 := by rw [hW22]; exact (Grew.refl _).alloc _ _
            refine hK.out _ _ (SP.out _ _ ((Grew.refl W21).alloc _ _).past hH21) (fun hH22 => ?_)
            clear hK K
            rw [← hW22] at hH22 ⊢
            have G22 : Hid (Past X Q W22) := G21.out.trans g22.past
            have E22 := E21.grew g22
            have A22_20 := A21_20.grew g22
            have Z22_20 := Z21_20.grew g22
            have F20 : W21.heap.size ≠ B20 := Nat.ne_of_gt A21_20.size
            have A22_22 : XAt W22 W21.heap.size ⟨0, 0, 0, 0⟩ := by rw [hW22]; constructor <;> simp [go_sem]
            have Z22_22 : Free W22 W21.heap.size := g22.freeB (Nat.le_refl _)
            have M22 : Q.heap.size ≤ W21.heap.size := G21.out.size
            obtain ⟨B22, hB22⟩ : ∃ B, W21.heap.size = B := ⟨_, rfl⟩
            rw [hB22] at A22_22 Z22_22 M22 F20 ⊢
            clear hW22 hB22
            refine wpAnyH_ready (rs := [6]) (by kernel_rfl) (by simp) ?_
            refine AllReadyH.cons (o := { dst := none, op := Go.Op.store 40 (Go.Operand.tmp 6) (Go.Operand.tmp 29), type := 0, pos := "law.go:46", after := #[{ on := 4, ground := Go.Ground.data }, { on := 1, ground := Go.Ground.data }, { on := 3, ground := Go.Ground.chain }, { on := 0, ground := Go.Ground.phase }, { on := 1, ground := Go.Ground.phase }, { on := 2, ground := Go.Ground.textOnly Go.Departure.lateStores }, { on := 3, ground := Go.Ground.textOnly Go.Departure.lateStoresUnsure }, { on := 4, ground := Go.Ground.phase }, { on := 5, ground := Go.Ground.phase }], guard := none }) rfl (fun K hK => ?_) AllReadyH.nil
            · have hne : B22 ≠ B20 := by omega
              obtain ⟨e0, e1, e2, e3⟩ := A22_22
              have z0 := Z22_22 0 none
              have z1 := Z22_22 1 none
              have z2 := Z22_22 2 none
              have z3 := Z22_22 3 none
              go_simp
              refine hK.out _ _ (SW.out _ _ B22 ((Grew.refl W22).set4 B22 _ _ _ _) (by omega) hH22) (fun hH23 => ?_)
              clear hK K
              have R23 := laid_boxes Y0 Y1 G22.out M22 M20 hne ⟨e0, e1, e2, e3⟩ A22_20
              have T23 := A22_20.wrote ((Grew.refl W22).set4 B22 (.int .i64 Y0.l) (.int .i64 Y0.m) (.int .i64 Y0.h) (.int .i64 Y0.k)) (fun e => hne e.symm)
              have TZ23 := Z22_20.wrote ((Grew.refl W22).set4 B22 (.int .i64 Y0.l) (.int .i64 Y0.m) (.int .i64 Y0.h) (.int .i64 Y0.k)) (fun e => hne e.symm) A22_20.size
              clear e0 e1 e2 e3 z0 z1 z2 z3
              obtain ⟨W23, hW23⟩ : ∃ X, X = (((W22.setCell ⟨B22, 0, none⟩ (.int .i64 Y0.l)).setCell ⟨B22, 1, none⟩ (.int .i64 Y0.m)).setCell ⟨B22, 2, none⟩ (.int .i64 Y0.h)).setCell ⟨B22, 3, none⟩ (.int .i64 Y0.k) := ⟨_, rfl⟩
              rw [← hW23] at R23 T23 TZ23 hH23 ⊢
              clear hW23
              refine wpAnyH_ready (rs := [7]) (by kernel_rfl) (by simp) ?_
              refine AllReadyH.cons (o := { dst := none, op := Go.Op.store 40 (Go.Operand.tmp 7) (Go.Operand.tmp 31), type := 0, pos := "law.go:46", after := #[{ on := 5, ground := Go.Ground.data }, { on := 3, ground := Go.Ground.data }, { on := 6, ground := Go.Ground.chain }, { on := 0, ground := Go.Ground.phase }, { on := 1, ground := Go.Ground.phase }, { on := 2, ground := Go.Ground.phase }, { on := 3, ground := Go.Ground.phase }, { on := 4, ground := Go.Ground.phase }, { on := 5, ground := Go.Ground.phase }, { on := 6, ground := Go.Ground.phase }], guard := none }) rfl (fun K hK => ?_) AllReadyH.nil
              · obtain ⟨e0, e1, e2, e3⟩ := T23
                have z0 := TZ23 0 none
                have z1 := TZ23 1 none
                have z2 := TZ23 2 none
                have z3 := TZ23 3 none
                go_simp
                refine hK.out _ _ (SW.out _ _ B20 ((Grew.refl W23).set4 B20 _ _ _ _) (by omega) hH23) (fun hH24 => ?_)
                clear hK K
                have R24 := R23
                refine wpAnyH_done (by kernel_rfl) ?_ _
                go_wp2
                go_meet
                case rel => exact ⟨_, _, rfl, rfl, R24⟩
        · go_simp
          obtain ⟨W25, hW25⟩ : ∃ X, X = W20.alloc (.cells #[.int .i64 0, .int .i64 0, .int .i64 0, .int .i64 0] 40) := ⟨_, rfl⟩
          have g25 : Grew W20 W25 := by rw [hW25]; exact (Grew.refl _).alloc _ _
          refine hK.out _ _ (SP.out _ _ ((Grew.refl W20).alloc _ _).past hH20) (fun hH25 => ?_)
          clear hK K
          rw [← hW25] at hH25 ⊢
          have G25 : Hid (Past X Q W25) := G20.out.trans g25.past
          have E25 := E20.grew g25
          have A25_20 := A20_20.grew g25
          have Z25_20 := Z20_20.grew g25
          have F20 : W20.heap.size ≠ B20 := Nat.ne_of_gt A20_20.size
          have A25_25 : XAt W25 W20.heap.size ⟨0, 0, 0, 0⟩ := by rw [hW25]; constructor <;> simp [go_sem]
          have Z25_25 : Free W25 W20.heap.size := g25.freeB (Nat.le_refl _)
          have M25 : Q.heap.size ≤ W20.heap.size := G20.out.size
          obtain ⟨B25, hB25⟩ : ∃ B, W20.heap.size = B := ⟨_, rfl⟩
          rw [hB25] at A25_25 Z25_25 M25 F20 ⊢
          clear hW25 hB25
          refine wpAnyH_ready (rs := [3]) (by kernel_rfl) (by simp) ?_
          refine AllReadyH.cons (o := { dst := some 31, op := Go.Op.call { callee := Go.Callee.value (Go.Operand.func 18), args := #[Go.Operand.tmp 5, Go.Operand.tmp 30], argTypes := #[30, 26] }, type := 40, pos := "law.go:46", after := #[{ on := 2, ground := Go.Ground.data }, { on := 1, ground := Go.Ground.chain }], guard := none }) rfl (fun K hK => ?_) AllReadyH.nil
          · go_simp
            go_wp2_with (first
              | (go_at_call 18; go_fit (D1.out _ E25); rintro e W26 ⟨rfl, E26, g26⟩))
            refine hK.out _ _ (SP.out _ _ g26 hH25) (fun hH26 => ?_)
            clear hK K
            have G26 : Hid (Past X Q W26) := G25.out.trans g26
            have A26_20 := xat_past A25_20 g26 (by omega)
            have Z26_20 : Free W26 B20 := fun o s => g26.frozen (p := ⟨B20, o, s⟩) A25_20.size (by simp only; omega) (Z25_20 o s)
            have A26_25 := xat_past A25_25 g26 (by omega)
            have Z26_25 : Free W26 B25 := fun o s => g26.frozen (p := ⟨B25, o, s⟩) A25_25.size (by simp only; omega) (Z25_25 o s)
            refine wpAnyH_ready (rs := [6]) (by kernel_rfl) (by simp) ?_
            refine AllReadyH.cons (o := { dst := none, op := Go.Op.store 40 (Go.Operand.tmp 6) (Go.Operand.tmp 29), type := 0, pos := "law.go:46", after := #[{ on := 4, ground := Go.Ground.data }, { on := 1, ground := Go.Ground.data }, { on := 3, ground := Go.Ground.chain }, { on := 0, ground := Go.Ground.phase }, { on := 1, ground := Go.Ground.phase }, { on := 2, ground := Go.Ground.textOnly Go.Departure.lateStores }, { on := 3, ground := Go.Ground.textOnly Go.Departure.lateStoresUnsure }, { on := 4, ground := Go.Ground.phase }, { on := 5, ground := Go.Ground.phase }], guard := none }) rfl (fun K hK => ?_) AllReadyH.nil
            · have hne : B25 ≠ B20 := by omega
              obtain ⟨e0, e1, e2, e3⟩ := A26_25
              have z0 := Z26_25 0 none
              have z1 := Z26_25 1 none
              have z2 := Z26_25 2 none
              have z3 := Z26_25 3 none
              go_simp
              refine hK.out _ _ (SW.out _ _ B25 ((Grew.refl W26).set4 B25 _ _ _ _) (by omega) hH26) (fun hH27 => ?_)
              clear hK K
              have R27 := laid_boxes Y0 Y1 G26.out M25 M20 hne ⟨e0, e1, e2, e3⟩ A26_20
              have T27 := A26_20.wrote ((Grew.refl W26).set4 B25 (.int .i64 Y0.l) (.int .i64 Y0.m) (.int .i64 Y0.h) (.int .i64 Y0.k)) (fun e => hne e.symm)
              have TZ27 := Z26_20.wrote ((Grew.refl W26).set4 B25 (.int .i64 Y0.l) (.int .i64 Y0.m) (.int .i64 Y0.h) (.int .i64 Y0.k)) (fun e => hne e.symm) A26_20.size
              clear e0 e1 e2 e3 z0 z1 z2 z3
              obtain ⟨W27, hW27⟩ : ∃ X, X = (((W26.setCell ⟨B25, 0, none⟩ (.int .i64 Y0.l)).setCell ⟨B25, 1, none⟩ (.int .i64 Y0.m)).setCell ⟨B25, 2, none⟩ (.int .i64 Y0.h)).setCell ⟨B25, 3, none⟩ (.int .i64 Y0.k) := ⟨_, rfl⟩
              rw [← hW27] at R27 T27 TZ27 hH27 ⊢
              clear hW27
              refine wpAnyH_ready (rs := [7]) (by kernel_rfl) (by simp) ?_
              refine AllReadyH.cons (o := { dst := none, op := Go.Op.store 40 (Go.Operand.tmp 7) (Go.Operand.tmp 31), type := 0, pos := "law.go:46", after := #[{ on := 5, ground := Go.Ground.data }, { on := 3, ground := Go.Ground.data }, { on := 6, ground := Go.Ground.chain }, { on := 0, ground := Go.Ground.phase }, { on := 1, ground := Go.Ground.phase }, { on := 2, ground := Go.Ground.phase }, { on := 3, ground := Go.Ground.phase }, { on := 4, ground := Go.Ground.phase }, { on := 5, ground := Go.Ground.phase }, { on := 6, ground := Go.Ground.phase }], guard := none }) rfl (fun K hK => ?_) AllReadyH.nil
              · obtain ⟨e0, e1, e2, e3⟩ := T27
                have z0 := TZ27 0 none
                have z1 := TZ27 1 none
                have z2 := TZ27 2 none
                have z3 := TZ27 3 none
                go_simp
                refine hK.out _ _ (SW.out _ _ B20 ((Grew.refl W27).set4 B20 _ _ _ _) (by omega) hH27) (fun hH28 => ?_)
                clear hK K
                have R28 := R27
                refine wpAnyH_done (by kernel_rfl) ?_ _
                go_wp2
                go_meet
                case rel => exact ⟨_, _, rfl, rfl, R28⟩
    · go_simp
      obtain ⟨W29, hW29⟩ : ∃ X, X = W0.alloc (.cells #[.int .i64 0, .int .i64 0, .int .i64 0, .int .i64 0] 40) := ⟨_, rfl⟩
      have g29 : Grew W0 W29 := by rw [hW29]; exact (Grew.refl _).alloc _ _
      refine hK.out _ _ (SP.out _ _ ((Grew.refl W0).alloc _ _).past hH0) (fun hH29 => ?_)
      clear hK K
      rw [← hW29] at hH29 ⊢
      have G29 : Hid (Past X Q W29) := G0.out.trans g29.past
      have E29 := E0.grew g29
      have A29_29 : XAt W29 W0.heap.size ⟨0, 0, 0, 0⟩ := by rw [hW29]; constructor <;> simp [go_sem]
      have Z29_29 : Free W29 W0.heap.size := g29.freeB (Nat.le_refl _)
      have M29 : Q.heap.size ≤ W0.heap.size := G0.out.size
      obtain ⟨B29, hB29⟩ : ∃ B, W0.heap.size = B := ⟨_, rfl⟩
      rw [hB29] at A29_29 Z29_29 M29 ⊢
      clear hW29 hB29
      refine wpAnyH_ready (rs := [1, 5]) (by kernel_rfl) (by simp) ?_
      refine AllReadyH.cons (o := { dst := some 29, op := Go.Op.call { callee := Go.Callee.value (Go.Operand.func 18), args := #[Go.Operand.tmp 5, Go.Operand.tmp 28], argTypes := #[30, 26] }, type := 40, pos := "law.go:46", after := #[{ on := 0, ground := Go.Ground.data }], guard := none }) rfl (fun K hK => ?_) (AllReadyH.cons (o := { dst := some 7, op := Go.Op.alloc 40, type := 0, pos := "law.go:46", after := #[], guard := none }) rfl (fun K hK => ?_) AllReadyH.nil)
      · go_simp
        go_wp2_with (first
          | (go_at_call 18; go_fit (D0.out _ E29); rintro e W30 ⟨rfl, E30, g30⟩))
        refine hK.out _ _ (SP.out _ _ g30 hH29) (fun hH30 => ?_)
        clear hK K
        have G30 : Hid (Past X Q W30) := G29.out.trans g30
        have A30_29 := xat_past A29_29 g30 (by omega)
        have Z30_29 : Free W30 B29 := fun o s => g30.frozen (p := ⟨B29, o, s⟩) A29_29.size (by simp only; omega) (Z29_29 o s)
        refine wpAnyH_ready (rs := [3, 5]) (by kernel_rfl) (by simp) ?_
        refine AllReadyH.cons (o := { dst := some 31, op := Go.Op.call { callee := Go.Callee.value (Go.Operand.func 18), args := #[Go.Operand.tmp 5, Go.Operand.tmp 30], argTypes := #[30, 26] }, type := 40, pos := "law.go:46", after := #[{ on := 2, ground := Go.Ground.data }, { on := 1, ground := Go.Ground.chain }], guard := none }) rfl (fun K hK => ?_) (AllReadyH.cons (o := { dst := some 7, op := Go.Op.alloc 40, type := 0, pos := "law.go:46", after := #[], guard := none }) rfl (fun K hK => ?_) AllReadyH.nil)
        · go_simp
          go_wp2_with (first
            | (go_at_call 18; go_fit (D1.out _ E30); rintro e W31 ⟨rfl, E31, g31⟩))
          refine hK.out _ _ (SP.out _ _ g31 hH30) (fun hH31 => ?_)
          clear hK K
          have G31 : Hid (Past X Q W31) := G30.out.trans g31
          have A31_29 := xat_past A30_29 g31 (by omega)
          have Z31_29 : Free W31 B29 := fun o s => g31.frozen (p := ⟨B29, o, s⟩) A30_29.size (by simp only; omega) (Z30_29 o s)
          refine wpAnyH_ready (rs := [5]) (by kernel_rfl) (by simp) ?_
          refine AllReadyH.cons (o := { dst := some 7, op := Go.Op.alloc 40, type := 0, pos := "law.go:46", after := #[], guard := none }) rfl (fun K hK => ?_) AllReadyH.nil
          · go_simp
            obtain ⟨W32, hW32⟩ : ∃ X, X = W31.alloc (.cells #[.int .i64 0, .int .i64 0, .int .i64 0, .int .i64 0] 40) := ⟨_, rfl⟩
            have g32 : Grew W31 W32 := by rw [hW32]; exact (Grew.refl _).alloc _ _
            refine hK.out _ _ (SP.out _ _ ((Grew.refl W31).alloc _ _).past hH31) (fun hH32 => ?_)
            clear hK K
            rw [← hW32] at hH32 ⊢
            have G32 : Hid (Past X Q W32) := G31.out.trans g32.past
            have E32 := E31.grew g32
            have A32_29 := A31_29.grew g32
            have Z32_29 := Z31_29.grew g32
            have F29 : W31.heap.size ≠ B29 := Nat.ne_of_gt A31_29.size
            have A32_32 : XAt W32 W31.heap.size ⟨0, 0, 0, 0⟩ := by rw [hW32]; constructor <;> simp [go_sem]
            have Z32_32 : Free W32 W31.heap.size := g32.freeB (Nat.le_refl _)
            have M32 : Q.heap.size ≤ W31.heap.size := G31.out.size
            obtain ⟨B32, hB32⟩ : ∃ B, W31.heap.size = B := ⟨_, rfl⟩
            rw [hB32] at A32_32 Z32_32 M32 F29 ⊢
            clear hW32 hB32
            refine wpAnyH_ready (rs := [6]) (by kernel_rfl) (by simp) ?_
            refine AllReadyH.cons (o := { dst := none, op := Go.Op.store 40 (Go.Operand.tmp 6) (Go.Operand.tmp 29), type := 0, pos := "law.go:46", after := #[{ on := 4, ground := Go.Ground.data }, { on := 1, ground := Go.Ground.data }, { on := 3, ground := Go.Ground.chain }, { on := 0, ground := Go.Ground.phase }, { on := 1, ground := Go.Ground.phase }, { on := 2, ground := Go.Ground.textOnly Go.Departure.lateStores }, { on := 3, ground := Go.Ground.textOnly Go.Departure.lateStoresUnsure }, { on := 4, ground := Go.Ground.phase }, { on := 5, ground := Go.Ground.phase }], guard := none }) rfl (fun K hK => ?_) AllReadyH.nil
            · have hne : B29 ≠ B32 := by omega
              obtain ⟨e0, e1, e2, e3⟩ := A32_29
              have z0 := Z32_29 0 none
              have z1 := Z32_29 1 none
              have z2 := Z32_29 2 none
              have z3 := Z32_29 3 none
              go_simp
              refine hK.out _ _ (SW.out _ _ B29 ((Grew.refl W32).set4 B29 _ _ _ _) (by omega) hH32) (fun hH33 => ?_)
              clear hK K
              have R33 := laid_boxes Y0 Y1 G32.out M29 M32 hne ⟨e0, e1, e2, e3⟩ A32_32
              have T33 := A32_32.wrote ((Grew.refl W32).set4 B29 (.int .i64 Y0.l) (.int .i64 Y0.m) (.int .i64 Y0.h) (.int .i64 Y0.k)) (fun e => hne e.symm)
              have TZ33 := Z32_32.wrote ((Grew.refl W32).set4 B29 (.int .i64 Y0.l) (.int .i64 Y0.m) (.int .i64 Y0.h) (.int .i64 Y0.k)) (fun e => hne e.symm) A32_32.size
              clear e0 e1 e2 e3 z0 z1 z2 z3
              obtain ⟨W33, hW33⟩ : ∃ X, X = (((W32.setCell ⟨B29, 0, none⟩ (.int .i64 Y0.l)).setCell ⟨B29, 1, none⟩ (.int .i64 Y0.m)).setCell ⟨B29, 2, none⟩ (.int .i64 Y0.h)).setCell ⟨B29, 3, none⟩ (.int .i64 Y0.k) := ⟨_, rfl⟩
              rw [← hW33] at R33 T33 TZ33 hH33 ⊢
              clear hW33
              refine wpAnyH_ready (rs := [7]) (by kernel_rfl) (by simp) ?_
              refine AllReadyH.cons (o := { dst := none, op := Go.Op.store 40 (Go.Operand.tmp 7) (Go.Operand.tmp 31), type := 0, pos := "law.go:46", after := #[{ on := 5, ground := Go.Ground.data }, { on := 3, ground := Go.Ground.data }, { on := 6, ground := Go.Ground.chain }, { on := 0, ground := Go.Ground.phase }, { on := 1, ground := Go.Ground.phase }, { on := 2, ground := Go.Ground.phase }, { on := 3, ground := Go.Ground.phase }, { on := 4, ground := Go.Ground.phase }, { on := 5, ground := Go.Ground.phase }, { on := 6, ground := Go.Ground.phase }], guard := none }) rfl (fun K hK => ?_) AllReadyH.nil
              · obtain ⟨e0, e1, e2, e3⟩ := T33
                have z0 := TZ33 0 none
                have z1 := TZ33 1 none
                have z2 := TZ33 2 none
                have z3 := TZ33 3 none
                go_simp
                refine hK.out _ _ (SW.out _ _ B32 ((Grew.refl W33).set4 B32 _ _ _ _) (by omega) hH33) (fun hH34 => ?_)
                clear hK K
                have R34 := R33
                refine wpAnyH_done (by kernel_rfl) ?_ _
                go_wp2
                go_meet
                case rel => exact ⟨_, _, rfl, rfl, R34⟩
        · go_simp
          obtain ⟨W35, hW35⟩ : ∃ X, X = W30.alloc (.cells #[.int .i64 0, .int .i64 0, .int .i64 0, .int .i64 0] 40) := ⟨_, rfl⟩
          have g35 : Grew W30 W35 := by rw [hW35]; exact (Grew.refl _).alloc _ _
          refine hK.out _ _ (SP.out _ _ ((Grew.refl W30).alloc _ _).past hH30) (fun hH35 => ?_)
          clear hK K
          rw [← hW35] at hH35 ⊢
          have G35 : Hid (Past X Q W35) := G30.out.trans g35.past
          have E35 := E30.grew g35
          have A35_29 := A30_29.grew g35
          have Z35_29 := Z30_29.grew g35
          have F29 : W30.heap.size ≠ B29 := Nat.ne_of_gt A30_29.size
          have A35_35 : XAt W35 W30.heap.size ⟨0, 0, 0, 0⟩ := by rw [hW35]; constructor <;> simp [go_sem]
          have Z35_35 : Free W35 W30.heap.size := g35.freeB (Nat.le_refl _)
          have M35 : Q.heap.size ≤ W30.heap.size := G30.out.size
          obtain ⟨B35, hB35⟩ : ∃ B, W30.heap.size = B := ⟨_, rfl⟩
          rw [hB35] at A35_35 Z35_35 M35 F29 ⊢
          clear hW35 hB35
          refine wpAnyH_ready (rs := [3]) (by kernel_rfl) (by simp) ?_
          refine AllReadyH.cons (o := { dst := some 31, op := Go.Op.call { callee := Go.Callee.value (Go.Operand.func 18), args := #[Go.Operand.tmp 5, Go.Operand.tmp 30], argTypes := #[30, 26] }, type := 40, pos := "law.go:46", after := #[{ on := 2, ground := Go.Ground.data }, { on := 1, ground := Go.Ground.chain }], guard := none }) rfl (fun K hK => ?_) AllReadyH.nil
          · go_simp
            go_wp2_with (first
              | (go_at_call 18; go_fit (D1.out _ E35); rintro e W36 ⟨rfl, E36, g36⟩))
            refine hK.out _ _ (SP.out _ _ g36 hH35) (fun hH36 => ?_)
            clear hK K
            have G36 : Hid (Past X Q W36) := G35.out.trans g36
            have A36_29 := xat_past A35_29 g36 (by omega)
            have Z36_29 : Free W36 B29 := fun o s => g36.frozen (p := ⟨B29, o, s⟩) A35_29.size (by simp only; omega) (Z35_29 o s)
            have A36_35 := xat_past A35_35 g36 (by omega)
            have Z36_35 : Free W36 B35 := fun o s => g36.frozen (p := ⟨B35, o, s⟩) A35_35.size (by simp only; omega) (Z35_35 o s)
            refine wpAnyH_ready (rs := [6]) (by kernel_rfl) (by simp) ?_
            refine AllReadyH.cons (o := { dst := none, op := Go.Op.store 40 (Go.Operand.tmp 6) (Go.Operand.tmp 29), type := 0, pos := "law.go:46", after := #[{ on := 4, ground := Go.Ground.data }, { on := 1, ground := Go.Ground.data }, { on := 3, ground := Go.Ground.chain }, { on := 0, ground := Go.Ground.phase }, { on := 1, ground := Go.Ground.phase }, { on := 2, ground := Go.Ground.textOnly Go.Departure.lateStores }, { on := 3, ground := Go.Ground.textOnly Go.Departure.lateStoresUnsure }, { on := 4, ground := Go.Ground.phase }, { on := 5, ground := Go.Ground.phase }], guard := none }) rfl (fun K hK => ?_) AllReadyH.nil
            · have hne : B29 ≠ B35 := by omega
              obtain ⟨e0, e1, e2, e3⟩ := A36_29
              have z0 := Z36_29 0 none
              have z1 := Z36_29 1 none
              have z2 := Z36_29 2 none
              have z3 := Z36_29 3 none
              go_simp
              refine hK.out _ _ (SW.out _ _ B29 ((Grew.refl W36).set4 B29 _ _ _ _) (by omega) hH36) (fun hH37 => ?_)
              clear hK K
              have R37 := laid_boxes Y0 Y1 G36.out M29 M35 hne ⟨e0, e1, e2, e3⟩ A36_35
              have T37 := A36_35.wrote ((Grew.refl W36).set4 B29 (.int .i64 Y0.l) (.int .i64 Y0.m) (.int .i64 Y0.h) (.int .i64 Y0.k)) (fun e => hne e.symm)
              have TZ37 := Z36_35.wrote ((Grew.refl W36).set4 B29 (.int .i64 Y0.l) (.int .i64 Y0.m) (.int .i64 Y0.h) (.int .i64 Y0.k)) (fun e => hne e.symm) A36_35.size
              clear e0 e1 e2 e3 z0 z1 z2 z3
              obtain ⟨W37, hW37⟩ : ∃ X, X = (((W36.setCell ⟨B29, 0, none⟩ (.int .i64 Y0.l)).setCell ⟨B29, 1, none⟩ (.int .i64 Y0.m)).setCell ⟨B29, 2, none⟩ (.int .i64 Y0.h)).setCell ⟨B29, 3, none⟩ (.int .i64 Y0.k) := ⟨_, rfl⟩
              rw [← hW37] at R37 T37 TZ37 hH37 ⊢
              clear hW37
              refine wpAnyH_ready (rs := [7]) (by kernel_rfl) (by simp) ?_
              refine AllReadyH.cons (o := { dst := none, op := Go.Op.store 40 (Go.Operand.tmp 7) (Go.Operand.tmp 31), type := 0, pos := "law.go:46", after := #[{ on := 5, ground := Go.Ground.data }, { on := 3, ground := Go.Ground.data }, { on := 6, ground := Go.Ground.chain }, { on := 0, ground := Go.Ground.phase }, { on := 1, ground := Go.Ground.phase }, { on := 2, ground := Go.Ground.phase }, { on := 3, ground := Go.Ground.phase }, { on := 4, ground := Go.Ground.phase }, { on := 5, ground := Go.Ground.phase }, { on := 6, ground := Go.Ground.phase }], guard := none }) rfl (fun K hK => ?_) AllReadyH.nil
              · obtain ⟨e0, e1, e2, e3⟩ := T37
                have z0 := TZ37 0 none
                have z1 := TZ37 1 none
                have z2 := TZ37 2 none
                have z3 := TZ37 3 none
                go_simp
                refine hK.out _ _ (SW.out _ _ B35 ((Grew.refl W37).set4 B35 _ _ _ _) (by omega) hH37) (fun hH38 => ?_)
                clear hK K
                have R38 := R37
                refine wpAnyH_done (by kernel_rfl) ?_ _
                go_wp2
                go_meet
                case rel => exact ⟨_, _, rfl, rfl, R38⟩
      · go_simp
        obtain ⟨W39, hW39⟩ : ∃ X, X = W29.alloc (.cells #[.int .i64 0, .int .i64 0, .int .i64 0, .int .i64 0] 40) := ⟨_, rfl⟩
        have g39 : Grew W29 W39 := by rw [hW39]; exact (Grew.refl _).alloc _ _
        refine hK.out _ _ (SP.out _ _ ((Grew.refl W29).alloc _ _).past hH29) (fun hH39 => ?_)
        clear hK K
        rw [← hW39] at hH39 ⊢
        have G39 : Hid (Past X Q W39) := G29.out.trans g39.past
        have E39 := E29.grew g39
        have A39_29 := A29_29.grew g39
        have Z39_29 := Z29_29.grew g39
        have F29 : W29.heap.size ≠ B29 := Nat.ne_of_gt A29_29.size
        have A39_39 : XAt W39 W29.heap.size ⟨0, 0, 0, 0⟩ := by rw [hW39]; constructor <;> simp [go_sem]
        have Z39_39 : Free W39 W29.heap.size := g39.freeB (Nat.le_refl _)
        have M39 : Q.heap.size ≤ W29.heap.size := G29.out.size
        obtain ⟨B39, hB39⟩ : ∃ B, W29.heap.size = B := ⟨_, rfl⟩
        rw [hB39] at A39_39 Z39_39 M39 F29 ⊢
        clear hW39 hB39
        refine wpAnyH_ready (rs := [1]) (by kernel_rfl) (by simp) ?_
        refine AllReadyH.cons (o := { dst := some 29, op := Go.Op.call { callee := Go.Callee.value (Go.Operand.func 18), args := #[Go.Operand.tmp 5, Go.Operand.tmp 28], argTypes := #[30, 26] }, type := 40, pos := "law.go:46", after := #[{ on := 0, ground := Go.Ground.data }], guard := none }) rfl (fun K hK => ?_) AllReadyH.nil
        · go_simp
          go_wp2_with (first
            | (go_at_call 18; go_fit (D0.out _ E39); rintro e W40 ⟨rfl, E40, g40⟩))
          refine hK.out _ _ (SP.out _ _ g40 hH39) (fun hH40 => ?_)
          clear hK K
          have G40 : Hid (Past X Q W40) := G39.out.trans g40
          have A40_29 := xat_past A39_29 g40 (by omega)
          have Z40_29 : Free W40 B29 := fun o s => g40.frozen (p := ⟨B29, o, s⟩) A39_29.size (by simp only; omega) (Z39_29 o s)
          have A40_39 := xat_past A39_39 g40 (by omega)
          have Z40_39 : Free W40 B39 := fun o s => g40.frozen (p := ⟨B39, o, s⟩) A39_39.size (by simp only; omega) (Z39_39 o s)
          refine wpAnyH_ready (rs := [3]) (by kernel_rfl) (by simp) ?_
          refine AllReadyH.cons (o := { dst := some 31, op := Go.Op.call { callee := Go.Callee.value (Go.Operand.func 18), args := #[Go.Operand.tmp 5, Go.Operand.tmp 30], argTypes := #[30, 26] }, type := 40, pos := "law.go:46", after := #[{ on := 2, ground := Go.Ground.data }, { on := 1, ground := Go.Ground.chain }], guard := none }) rfl (fun K hK => ?_) AllReadyH.nil
          · go_simp
            go_wp2_with (first
              | (go_at_call 18; go_fit (D1.out _ E40); rintro e W41 ⟨rfl, E41, g41⟩))
            refine hK.out _ _ (SP.out _ _ g41 hH40) (fun hH41 => ?_)
            clear hK K
            have G41 : Hid (Past X Q W41) := G40.out.trans g41
            have A41_29 := xat_past A40_29 g41 (by omega)
            have Z41_29 : Free W41 B29 := fun o s => g41.frozen (p := ⟨B29, o, s⟩) A40_29.size (by simp only; omega) (Z40_29 o s)
            have A41_39 := xat_past A40_39 g41 (by omega)
            have Z41_39 : Free W41 B39 := fun o s => g41.frozen (p := ⟨B39, o, s⟩) A40_39.size (by simp only; omega) (Z40_39 o s)
            refine wpAnyH_ready (rs := [6]) (by kernel_rfl) (by simp) ?_
            refine AllReadyH.cons (o := { dst := none, op := Go.Op.store 40 (Go.Operand.tmp 6) (Go.Operand.tmp 29), type := 0, pos := "law.go:46", after := #[{ on := 4, ground := Go.Ground.data }, { on := 1, ground := Go.Ground.data }, { on := 3, ground := Go.Ground.chain }, { on := 0, ground := Go.Ground.phase }, { on := 1, ground := Go.Ground.phase }, { on := 2, ground := Go.Ground.textOnly Go.Departure.lateStores }, { on := 3, ground := Go.Ground.textOnly Go.Departure.lateStoresUnsure }, { on := 4, ground := Go.Ground.phase }, { on := 5, ground := Go.Ground.phase }], guard := none }) rfl (fun K hK => ?_) AllReadyH.nil
            · have hne : B29 ≠ B39 := by omega
              obtain ⟨e0, e1, e2, e3⟩ := A41_29
              have z0 := Z41_29 0 none
              have z1 := Z41_29 1 none
              have z2 := Z41_29 2 none
              have z3 := Z41_29 3 none
              go_simp
              refine hK.out _ _ (SW.out _ _ B29 ((Grew.refl W41).set4 B29 _ _ _ _) (by omega) hH41) (fun hH42 => ?_)
              clear hK K
              have R42 := laid_boxes Y0 Y1 G41.out M29 M39 hne ⟨e0, e1, e2, e3⟩ A41_39
              have T42 := A41_39.wrote ((Grew.refl W41).set4 B29 (.int .i64 Y0.l) (.int .i64 Y0.m) (.int .i64 Y0.h) (.int .i64 Y0.k)) (fun e => hne e.symm)
              have TZ42 := Z41_39.wrote ((Grew.refl W41).set4 B29 (.int .i64 Y0.l) (.int .i64 Y0.m) (.int .i64 Y0.h) (.int .i64 Y0.k)) (fun e => hne e.symm) A41_39.size
              clear e0 e1 e2 e3 z0 z1 z2 z3
              obtain ⟨W42, hW42⟩ : ∃ X, X = (((W41.setCell ⟨B29, 0, none⟩ (.int .i64 Y0.l)).setCell ⟨B29, 1, none⟩ (.int .i64 Y0.m)).setCell ⟨B29, 2, none⟩ (.int .i64 Y0.h)).setCell ⟨B29, 3, none⟩ (.int .i64 Y0.k) := ⟨_, rfl⟩
              rw [← hW42] at R42 T42 TZ42 hH42 ⊢
              clear hW42
              refine wpAnyH_ready (rs := [7]) (by kernel_rfl) (by simp) ?_
              refine AllReadyH.cons (o := { dst := none, op := Go.Op.store 40 (Go.Operand.tmp 7) (Go.Operand.tmp 31), type := 0, pos := "law.go:46", after := #[{ on := 5, ground := Go.Ground.data }, { on := 3, ground := Go.Ground.data }, { on := 6, ground := Go.Ground.chain }, { on := 0, ground := Go.Ground.phase }, { on := 1, ground := Go.Ground.phase }, { on := 2, ground := Go.Ground.phase }, { on := 3, ground := Go.Ground.phase }, { on := 4, ground := Go.Ground.phase }, { on := 5, ground := Go.Ground.phase }, { on := 6, ground := Go.Ground.phase }], guard := none }) rfl (fun K hK => ?_) AllReadyH.nil
              · obtain ⟨e0, e1, e2, e3⟩ := T42
                have z0 := TZ42 0 none
                have z1 := TZ42 1 none
                have z2 := TZ42 2 none
                have z3 := TZ42 3 none
                go_simp
                refine hK.out _ _ (SW.out _ _ B39 ((Grew.refl W42).set4 B39 _ _ _ _) (by omega) hH42) (fun hH43 => ?_)
                clear hK K
                have R43 := R42
                refine wpAnyH_done (by kernel_rfl) ?_ _
                go_wp2
                go_meet
                case rel => exact ⟨_, _, rfl, rfl, R43⟩
    · go_simp
      obtain ⟨W44, hW44⟩ : ∃ X, X = W0.alloc (.cells #[.int .i64 0, .int .i64 0, .int .i64 0, .int .i64 0] 40) := ⟨_, rfl⟩
      have g44 : Grew W0 W44 := by rw [hW44]; exact (Grew.refl _).alloc _ _
      refine hK.out _ _ (SP.out _ _ ((Grew.refl W0).alloc _ _).past hH0) (fun hH44 => ?_)
      clear hK K
      rw [← hW44] at hH44 ⊢
      have G44 : Hid (Past X Q W44) := G0.out.trans g44.past
      have E44 := E0.grew g44
      have A44_44 : XAt W44 W0.heap.size ⟨0, 0, 0, 0⟩ := by rw [hW44]; constructor <;> simp [go_sem]
      have Z44_44 : Free W44 W0.heap.size := g44.freeB (Nat.le_refl _)
      have M44 : Q.heap.size ≤ W0.heap.size := G0.out.size
      obtain ⟨B44, hB44⟩ : ∃ B, W0.heap.size = B := ⟨_, rfl⟩
      rw [hB44] at A44_44 Z44_44 M44 ⊢
      clear hW44 hB44
      refine wpAnyH_ready (rs := [1, 4]) (by kernel_rfl) (by simp) ?_
      refine AllReadyH.cons (o := { dst := some 29, op := Go.Op.call { callee := Go.Callee.value (Go.Operand.func 18), args := #[Go.Operand.tmp 5, Go.Operand.tmp 28], argTypes := #[30, 26] }, type := 40, pos := "law.go:46", after := #[{ on := 0, ground := Go.Ground.data }], guard := none }) rfl (fun K hK => ?_) (AllReadyH.cons (o := { dst := some 6, op := Go.Op.alloc 40, type := 0, pos := "law.go:46", after := #[], guard := none }) rfl (fun K hK => ?_) AllReadyH.nil)
      · go_simp
        go_wp2_with (first
          | (go_at_call 18; go_fit (D0.out _ E44); rintro e W45 ⟨rfl, E45, g45⟩))
        refine hK.out _ _ (SP.out _ _ g45 hH44) (fun hH45 => ?_)
        clear hK K
        have G45 : Hid (Past X Q W45) := G44.out.trans g45
        have A45_44 := xat_past A44_44 g45 (by omega)
        have Z45_44 : Free W45 B44 := fun o s => g45.frozen (p := ⟨B44, o, s⟩) A44_44.size (by simp only; omega) (Z44_44 o s)
        refine wpAnyH_ready (rs := [3, 4]) (by kernel_rfl) (by simp) ?_
        refine AllReadyH.cons (o := { dst := some 31, op := Go.Op.call { callee := Go.Callee.value (Go.Operand.func 18), args := #[Go.Operand.tmp 5, Go.Operand.tmp 30], argTypes := #[30, 26] }, type := 40, pos := "law.go:46", after := #[{ on := 2, ground := Go.Ground.data }, { on := 1, ground := Go.Ground.chain }], guard := none }) rfl (fun K hK => ?_) (AllReadyH.cons (o := { dst := some 6, op := Go.Op.alloc 40, type := 0, pos := "law.go:46", after := #[], guard := none }) rfl (fun K hK => ?_) AllReadyH.nil)
        · go_simp
          go_wp2_with (first
            | (go_at_call 18; go_fit (D1.out _ E45); rintro e W46 ⟨rfl, E46, g46⟩))
          refine hK.out _ _ (SP.out _ _ g46 hH45) (fun hH46 => ?_)
          clear hK K
          have G46 : Hid (Past X Q W46) := G45.out.trans g46
          have A46_44 := xat_past A45_44 g46 (by omega)
          have Z46_44 : Free W46 B44 := fun o s => g46.frozen (p := ⟨B44, o, s⟩) A45_44.size (by simp only; omega) (Z45_44 o s)
          refine wpAnyH_ready (rs := [4]) (by kernel_rfl) (by simp) ?_
          refine AllReadyH.cons (o := { dst := some 6, op := Go.Op.alloc 40, type := 0, pos := "law.go:46", after := #[], guard := none }) rfl (fun K hK => ?_) AllReadyH.nil
          · go_simp
            obtain ⟨W47, hW47⟩ : ∃ X, X = W46.alloc (.cells #[.int .i64 0, .int .i64 0, .int .i64 0, .int .i64 0] 40) := ⟨_, rfl⟩
            have g47 : Grew W46 W47 := by rw [hW47]; exact (Grew.refl _).alloc _ _
            refine hK.out _ _ (SP.out _ _ ((Grew.refl W46).alloc _ _).past hH46) (fun hH47 => ?_)
            clear hK K
            rw [← hW47] at hH47 ⊢
            have G47 : Hid (Past X Q W47) := G46.out.trans g47.past
            have E47 := E46.grew g47
            have A47_44 := A46_44.grew g47
            have Z47_44 := Z46_44.grew g47
            have F44 : W46.heap.size ≠ B44 := Nat.ne_of_gt A46_44.size
            have A47_47 : XAt W47 W46.heap.size ⟨0, 0, 0, 0⟩ := by rw [hW47]; constructor <;> simp [go_sem]
            have Z47_47 : Free W47 W46.heap.size := g47.freeB (Nat.le_refl _)
            have M47 : Q.heap.size ≤ W46.heap.size := G46.out.size
            obtain ⟨B47, hB47⟩ : ∃ B, W46.heap.size = B := ⟨_, rfl⟩
            rw [hB47] at A47_47 Z47_47 M47 F44 ⊢
            clear hW47 hB47
            refine wpAnyH_ready (rs := [6]) (by kernel_rfl) (by simp) ?_
            refine AllReadyH.cons (o := { dst := none, op := Go.Op.store 40 (Go.Operand.tmp 6) (Go.Operand.tmp 29), type := 0, pos := "law.go:46", after := #[{ on := 4, ground := Go.Ground.data }, { on := 1, ground := Go.Ground.data }, { on := 3, ground := Go.Ground.chain }, { on := 0, ground := Go.Ground.phase }, { on := 1, ground := Go.Ground.phase }, { on := 2, ground := Go.Ground.textOnly Go.Departure.lateStores }, { on := 3, ground := Go.Ground.textOnly Go.Departure.lateStoresUnsure }, { on := 4, ground := Go.Ground.phase }, { on := 5, ground := Go.Ground.phase }], guard := none }) rfl (fun K hK => ?_) AllReadyH.nil
            · have hne : B47 ≠ B44 := by omega
              obtain ⟨e0, e1, e2, e3⟩ := A47_47
              have z0 := Z47_47 0 none
              have z1 := Z47_47 1 none
              have z2 := Z47_47 2 none
              have z3 := Z47_47 3 none
              go_simp
              refine hK.out _ _ (SW.out _ _ B47 ((Grew.refl W47).set4 B47 _ _ _ _) (by omega) hH47) (fun hH48 => ?_)
              clear hK K
              have R48 := laid_boxes Y0 Y1 G47.out M47 M44 hne ⟨e0, e1, e2, e3⟩ A47_44
              have T48 := A47_44.wrote ((Grew.refl W47).set4 B47 (.int .i64 Y0.l) (.int .i64 Y0.m) (.int .i64 Y0.h) (.int .i64 Y0.k)) (fun e => hne e.symm)
              have TZ48 := Z47_44.wrote ((Grew.refl W47).set4 B47 (.int .i64 Y0.l) (.int .i64 Y0.m) (.int .i64 Y0.h) (.int .i64 Y0.k)) (fun e => hne e.symm) A47_44.size
              clear e0 e1 e2 e3 z0 z1 z2 z3
              obtain ⟨W48, hW48⟩ : ∃ X, X = (((W47.setCell ⟨B47, 0, none⟩ (.int .i64 Y0.l)).setCell ⟨B47, 1, none⟩ (.int .i64 Y0.m)).setCell ⟨B47, 2, none⟩ (.int .i64 Y0.h)).setCell ⟨B47, 3, none⟩ (.int .i64 Y0.k) := ⟨_, rfl⟩
              rw [← hW48] at R48 T48 TZ48 hH48 ⊢
              clear hW48
              refine wpAnyH_ready (rs := [7]) (by kernel_rfl) (by simp) ?_
              refine AllReadyH.cons (o := { dst := none, op := Go.Op.store 40 (Go.Operand.tmp 7) (Go.Operand.tmp 31), type := 0, pos := "law.go:46", after := #[{ on := 5, ground := Go.Ground.data }, { on := 3, ground := Go.Ground.data }, { on := 6, ground := Go.Ground.chain }, { on := 0, ground := Go.Ground.phase }, { on := 1, ground := Go.Ground.phase }, { on := 2, ground := Go.Ground.phase }, { on := 3, ground := Go.Ground.phase }, { on := 4, ground := Go.Ground.phase }, { on := 5, ground := Go.Ground.phase }, { on := 6, ground := Go.Ground.phase }], guard := none }) rfl (fun K hK => ?_) AllReadyH.nil
              · obtain ⟨e0, e1, e2, e3⟩ := T48
                have z0 := TZ48 0 none
                have z1 := TZ48 1 none
                have z2 := TZ48 2 none
                have z3 := TZ48 3 none
                go_simp
                refine hK.out _ _ (SW.out _ _ B44 ((Grew.refl W48).set4 B44 _ _ _ _) (by omega) hH48) (fun hH49 => ?_)
                clear hK K
                have R49 := R48
                refine wpAnyH_done (by kernel_rfl) ?_ _
                go_wp2
                go_meet
                case rel => exact ⟨_, _, rfl, rfl, R49⟩
        · go_simp
          obtain ⟨W50, hW50⟩ : ∃ X, X = W45.alloc (.cells #[.int .i64 0, .int .i64 0, .int .i64 0, .int .i64 0] 40) := ⟨_, rfl⟩
          have g50 : Grew W45 W50 := by rw [hW50]; exact (Grew.refl _).alloc _ _
          refine hK.out _ _ (SP.out _ _ ((Grew.refl W45).alloc _ _).past hH45) (fun hH50 => ?_)
          clear hK K
          rw [← hW50] at hH50 ⊢
          have G50 : Hid (Past X Q W50) := G45.out.trans g50.past
          have E50 := E45.grew g50
          have A50_44 := A45_44.grew g50
          have Z50_44 := Z45_44.grew g50
          have F44 : W45.heap.size ≠ B44 := Nat.ne_of_gt A45_44.size
          have A50_50 : XAt W50 W45.heap.size ⟨0, 0, 0, 0⟩ := by rw [hW50]; constructor <;> simp [go_sem]
          have Z50_50 : Free W50 W45.heap.size := g50.freeB (Nat.le_refl _)
          have M50 : Q.heap.size ≤ W45.heap.size := G45.out.size
          obtain ⟨B50, hB50⟩ : ∃ B, W45.heap.size = B := ⟨_, rfl⟩
          rw [hB50] at A50_50 Z50_50 M50 F44 ⊢
          clear hW50 hB50
          refine wpAnyH_ready (rs := [3]) (by kernel_rfl) (by simp) ?_
          refine AllReadyH.cons (o := { dst := some 31, op := Go.Op.call { callee := Go.Callee.value (Go.Operand.func 18), args := #[Go.Operand.tmp 5, Go.Operand.tmp 30], argTypes := #[30, 26] }, type := 40, pos := "law.go:46", after := #[{ on := 2, ground := Go.Ground.data }, { on := 1, ground := Go.Ground.chain }], guard := none }) rfl (fun K hK => ?_) AllReadyH.nil
          · go_simp
            go_wp2_with (first
              | (go_at_call 18; go_fit (D1.out _ E50); rintro e W51 ⟨rfl, E51, g51⟩))
            refine hK.out _ _ (SP.out _ _ g51 hH50) (fun hH51 => ?_)
            clear hK K
            have G51 : Hid (Past X Q W51) := G50.out.trans g51
            have A51_44 := xat_past A50_44 g51 (by omega)
            have Z51_44 : Free W51 B44 := fun o s => g51.frozen (p := ⟨B44, o, s⟩) A50_44.size (by simp only; omega) (Z50_44 o s)
            have A51_50 := xat_past A50_50 g51 (by omega)
            have Z51_50 : Free W51 B50 := fun o s => g51.frozen (p := ⟨B50, o, s⟩) A50_50.size (by simp only; omega) (Z50_50 o s)
            refine wpAnyH_ready (rs := [6]) (by kernel_rfl) (by simp) ?_
            refine AllReadyH.cons (o := { dst := none, op := Go.Op.store 40 (Go.Operand.tmp 6) (Go.Operand.tmp 29), type := 0, pos := "law.go:46", after := #[{ on := 4, ground := Go.Ground.data }, { on := 1, ground := Go.Ground.data }, { on := 3, ground := Go.Ground.chain }, { on := 0, ground := Go.Ground.phase }, { on := 1, ground := Go.Ground.phase }, { on := 2, ground := Go.Ground.textOnly Go.Departure.lateStores }, { on := 3, ground := Go.Ground.textOnly Go.Departure.lateStoresUnsure }, { on := 4, ground := Go.Ground.phase }, { on := 5, ground := Go.Ground.phase }], guard := none }) rfl (fun K hK => ?_) AllReadyH.nil
            · have hne : B50 ≠ B44 := by omega
              obtain ⟨e0, e1, e2, e3⟩ := A51_50
              have z0 := Z51_50 0 none
              have z1 := Z51_50 1 none
              have z2 := Z51_50 2 none
              have z3 := Z51_50 3 none
              go_simp
              refine hK.out _ _ (SW.out _ _ B50 ((Grew.refl W51).set4 B50 _ _ _ _) (by omega) hH51) (fun hH52 => ?_)
              clear hK K
              have R52 := laid_boxes Y0 Y1 G51.out M50 M44 hne ⟨e0, e1, e2, e3⟩ A51_44
              have T52 := A51_44.wrote ((Grew.refl W51).set4 B50 (.int .i64 Y0.l) (.int .i64 Y0.m) (.int .i64 Y0.h) (.int .i64 Y0.k)) (fun e => hne e.symm)
              have TZ52 := Z51_44.wrote ((Grew.refl W51).set4 B50 (.int .i64 Y0.l) (.int .i64 Y0.m) (.int .i64 Y0.h) (.int .i64 Y0.k)) (fun e => hne e.symm) A51_44.size
              clear e0 e1 e2 e3 z0 z1 z2 z3
              obtain ⟨W52, hW52⟩ : ∃ X, X = (((W51.setCell ⟨B50, 0, none⟩ (.int .i64 Y0.l)).setCell ⟨B50, 1, none⟩ (.int .i64 Y0.m)).setCell ⟨B50, 2, none⟩ (.int .i64 Y0.h)).setCell ⟨B50, 3, none⟩ (.int .i64 Y0.k) := ⟨_, rfl⟩
              rw [← hW52] at R52 T52 TZ52 hH52 ⊢
              clear hW52
              refine wpAnyH_ready (rs := [7]) (by kernel_rfl) (by simp) ?_
              refine AllReadyH.cons (o := { dst := none, op := Go.Op.store 40 (Go.Operand.tmp 7) (Go.Operand.tmp 31), type := 0, pos := "law.go:46", after := #[{ on := 5, ground := Go.Ground.data }, { on := 3, ground := Go.Ground.data }, { on := 6, ground := Go.Ground.chain }, { on := 0, ground := Go.Ground.phase }, { on := 1, ground := Go.Ground.phase }, { on := 2, ground := Go.Ground.phase }, { on := 3, ground := Go.Ground.phase }, { on := 4, ground := Go.Ground.phase }, { on := 5, ground := Go.Ground.phase }, { on := 6, ground := Go.Ground.phase }], guard := none }) rfl (fun K hK => ?_) AllReadyH.nil
              · obtain ⟨e0, e1, e2, e3⟩ := T52
                have z0 := TZ52 0 none
                have z1 := TZ52 1 none
                have z2 := TZ52 2 none
                have z3 := TZ52 3 none
                go_simp
                refine hK.out _ _ (SW.out _ _ B44 ((Grew.refl W52).set4 B44 _ _ _ _) (by omega) hH52) (fun hH53 => ?_)
                clear hK K
                have R53 := R52
                refine wpAnyH_done (by kernel_rfl) ?_ _
                go_wp2
                go_meet
                case rel => exact ⟨_, _, rfl, rfl, R53⟩
      · go_simp
        obtain ⟨W54, hW54⟩ : ∃ X, X = W44.alloc (.cells #[.int .i64 0, .int .i64 0, .int .i64 0, .int .i64 0] 40) := ⟨_, rfl⟩
        have g54 : Grew W44 W54 := by rw [hW54]; exact (Grew.refl _).alloc _ _
        refine hK.out _ _ (SP.out _ _ ((Grew.refl W44).alloc _ _).past hH44) (fun hH54 => ?_)
        clear hK K
        rw [← hW54] at hH54 ⊢
        have G54 : Hid (Past X Q W54) := G44.out.trans g54.past
        have E54 := E44.grew g54
        have A54_44 := A44_44.grew g54
        have Z54_44 := Z44_44.grew g54
        have F44 : W44.heap.size ≠ B44 := Nat.ne_of_gt A44_44.size
        have A54_54 : XAt W54 W44.heap.size ⟨0, 0, 0, 0⟩ := by rw [hW54]; constructor <;> simp [go_sem]
        have Z54_54 : Free W54 W44.heap.size := g54.freeB (Nat.le_refl _)
        have M54 : Q.heap.size ≤ W44.heap.size := G44.out.size
        obtain ⟨B54, hB54⟩ : ∃ B, W44.heap.size = B := ⟨_, rfl⟩
        rw [hB54] at A54_54 Z54_54 M54 F44 ⊢
        clear hW54 hB54
        refine wpAnyH_ready (rs := [1]) (by kernel_rfl) (by simp) ?_
        refine AllReadyH.cons (o := { dst := some 29, op := Go.Op.call { callee := Go.Callee.value (Go.Operand.func 18), args := #[Go.Operand.tmp 5, Go.Operand.tmp 28], argTypes := #[30, 26] }, type := 40, pos := "law.go:46", after := #[{ on := 0, ground := Go.Ground.data }], guard := none }) rfl (fun K hK => ?_) AllReadyH.nil
        · go_simp
          go_wp2_with (first
            | (go_at_call 18; go_fit (D0.out _ E54); rintro e W55 ⟨rfl, E55, g55⟩))
          refine hK.out _ _ (SP.out _ _ g55 hH54) (fun hH55 => ?_)
          clear hK K
          have G55 : Hid (Past X Q W55) := G54.out.trans g55
          have A55_44 := xat_past A54_44 g55 (by omega)
          have Z55_44 : Free W55 B44 := fun o s => g55.frozen (p := ⟨B44, o, s⟩) A54_44.size (by simp only; omega) (Z54_44 o s)
          have A55_54 := xat_past A54_54 g55 (by omega)
          have Z55_54 : Free W55 B54 := fun o s => g55.frozen (p := ⟨B54, o, s⟩) A54_54.size (by simp only; omega) (Z54_54 o s)
          refine wpAnyH_ready (rs := [3]) (by kernel_rfl) (by simp) ?_
          refine AllReadyH.cons (o := { dst := some 31, op := Go.Op.call { callee := Go.Callee.value (Go.Operand.func 18), args := #[Go.Operand.tmp 5, Go.Operand.tmp 30], argTypes := #[30, 26] }, type := 40, pos := "law.go:46", after := #[{ on := 2, ground := Go.Ground.data }, { on := 1, ground := Go.Ground.chain }], guard := none }) rfl (fun K hK => ?_) AllReadyH.nil
          · go_simp
            go_wp2_with (first
              | (go_at_call 18; go_fit (D1.out _ E55); rintro e W56 ⟨rfl, E56, g56⟩))
            refine hK.out _ _ (SP.out _ _ g56 hH55) (fun hH56 => ?_)
            clear hK K
            have G56 : Hid (Past X Q W56) := G55.out.trans g56
            have A56_44 := xat_past A55_44 g56 (by omega)
            have Z56_44 : Free W56 B44 := fun o s => g56.frozen (p := ⟨B44, o, s⟩) A55_44.size (by simp only; omega) (Z55_44 o s)
            have A56_54 := xat_past A55_54 g56 (by omega)
            have Z56_54 : Free W56 B54 := fun o s => g56.frozen (p := ⟨B54, o, s⟩) A55_54.size (by simp only; omega) (Z55_54 o s)
            refine wpAnyH_ready (rs := [6]) (by kernel_rfl) (by simp) ?_
            refine AllReadyH.cons (o := { dst := none, op := Go.Op.store 40 (Go.Operand.tmp 6) (Go.Operand.tmp 29), type := 0, pos := "law.go:46", after := #[{ on := 4, ground := Go.Ground.data }, { on := 1, ground := Go.Ground.data }, { on := 3, ground := Go.Ground.chain }, { on := 0, ground := Go.Ground.phase }, { on := 1, ground := Go.Ground.phase }, { on := 2, ground := Go.Ground.textOnly Go.Departure.lateStores }, { on := 3, ground := Go.Ground.textOnly Go.Departure.lateStoresUnsure }, { on := 4, ground := Go.Ground.phase }, { on := 5, ground := Go.Ground.phase }], guard := none }) rfl (fun K hK => ?_) AllReadyH.nil
            · have hne : B54 ≠ B44 := by omega
              obtain ⟨e0, e1, e2, e3⟩ := A56_54
              have z0 := Z56_54 0 none
              have z1 := Z56_54 1 none
              have z2 := Z56_54 2 none
              have z3 := Z56_54 3 none
              go_simp
              refine hK.out _ _ (SW.out _ _ B54 ((Grew.refl W56).set4 B54 _ _ _ _) (by omega) hH56) (fun hH57 => ?_)
              clear hK K
              have R57 := laid_boxes Y0 Y1 G56.out M54 M44 hne ⟨e0, e1, e2, e3⟩ A56_44
              have T57 := A56_44.wrote ((Grew.refl W56).set4 B54 (.int .i64 Y0.l) (.int .i64 Y0.m) (.int .i64 Y0.h) (.int .i64 Y0.k)) (fun e => hne e.symm)
              have TZ57 := Z56_44.wrote ((Grew.refl W56).set4 B54 (.int .i64 Y0.l) (.int .i64 Y0.m) (.int .i64 Y0.h) (.int .i64 Y0.k)) (fun e => hne e.symm) A56_44.size
              clear e0 e1 e2 e3 z0 z1 z2 z3
              obtain ⟨W57, hW57⟩ : ∃ X, X = (((W56.setCell ⟨B54, 0, none⟩ (.int .i64 Y0.l)).setCell ⟨B54, 1, none⟩ (.int .i64 Y0.m)).setCell ⟨B54, 2, none⟩ (.int .i64 Y0.h)).setCell ⟨B54, 3, none⟩ (.int .i64 Y0.k) := ⟨_, rfl⟩
              rw [← hW57] at R57 T57 TZ57 hH57 ⊢
              clear hW57
              refine wpAnyH_ready (rs := [7]) (by kernel_rfl) (by simp) ?_
              refine AllReadyH.cons (o := { dst := none, op := Go.Op.store 40 (Go.Operand.tmp 7) (Go.Operand.tmp 31), type := 0, pos := "law.go:46", after := #[{ on := 5, ground := Go.Ground.data }, { on := 3, ground := Go.Ground.data }, { on := 6, ground := Go.Ground.chain }, { on := 0, ground := Go.Ground.phase }, { on := 1, ground := Go.Ground.phase }, { on := 2, ground := Go.Ground.phase }, { on := 3, ground := Go.Ground.phase }, { on := 4, ground := Go.Ground.phase }, { on := 5, ground := Go.Ground.phase }, { on := 6, ground := Go.Ground.phase }], guard := none }) rfl (fun K hK => ?_) AllReadyH.nil
              · obtain ⟨e0, e1, e2, e3⟩ := T57
                have z0 := TZ57 0 none
                have z1 := TZ57 1 none
                have z2 := TZ57 2 none
                have z3 := TZ57 3 none
                go_simp
                refine hK.out _ _ (SW.out _ _ B44 ((Grew.refl W57).set4 B44 _ _ _ _) (by omega) hH57) (fun hH58 => ?_)
                clear hK K
                have R58 := R57
                refine wpAnyH_done (by kernel_rfl) ?_ _
                go_wp2
                go_meet
                case rel => exact ⟨_, _, rfl, rfl, R58⟩
  obtain ⟨i, j, rfl, rfl, XI, XJ, hc⟩ := hcut
  have hA : BAt wc w.heap.size B0 := BAt.heap ⟨a0, a1, a2, a3, a4, a5, a6, a7⟩ (hc.block _ (by omega) (by omega))
  have hB : BAt wc (w.heap.size + 1) B1 := BAt.heap ⟨b0, b1, b2, b3, b4, b5, b6, b7⟩ (hc.block _ (by omega) (by omega))
  have GC : Hid (Grew w wc) := hc.grew w (by omega) (GV.trans gQ)
  obtain ⟨i0, i1, i2, i3⟩ := XI
  obtain ⟨j0, j1, j2, j3⟩ := XJ
  have hi := cell_block i0
  have hj := cell_block j0
  have lc := hc.size
  clear hc a0 a1 a2 a3 a4 a5 a6 a7 b0 b1 b2 b3 b4 b5 b6 b7 gQ D0 D1 EQ GV
  have x0 := hA.c0
  have x1 := hB.c0
  have HA : Hid _ := hA
  have HB : Hid _ := hB
  clear hA hB
  go_wp2_with (first
    | (go_at_call 19; go_fit (HM.out _); rintro e V3 ⟨rfl, U3⟩))
  replace i0 := U3.cell i0
  replace i1 := U3.cell i1
  replace i2 := U3.cell i2
  replace i3 := U3.cell i3
  replace j0 := U3.cell j0
  replace j1 := U3.cell j1
  replace j2 := U3.cell j2
  replace j3 := U3.cell j3
  have GV : Grew w V3 := GC.out.trans U3
  have hi' := cell_block i0
  have hj' := cell_block j0
  simp only at hi' hj'
  obtain ⟨W, hW⟩ : ∃ W, W = (((V3.alloc (.cells #[.bool false] 4)).alloc (.cells #[.bool false] 4)).alloc (.cells #[.int .i64 0, .int .i64 0, .int .i64 0] 32)).alloc (.cells #[.int .i64 0, .int .i64 0, .int .i64 0] 32) := ⟨_, rfl⟩
  rw [← hW]
  have gW : Grew V3 W := by rw [hW]; exact ((((Grew.refl V3).alloc _ _).alloc _ _).alloc _ _).alloc _ _
  have sz2 : W.heap.size = V3.heap.size + 1 + 1 + 1 + 1 := by rw [hW]; simp [go_sem]
  have hA : BAt W w.heap.size B0 := (HA.out.grew U3).grew gW
  have hB : BAt W (w.heap.size + 1) B1 := (HB.out.grew U3).grew gW
  have l1 : W.cell? ⟨V3.heap.size, 0, none⟩ = some (.bool false) := by rw [hW]; simp [go_sem]
  have l2 : W.cell? ⟨V3.heap.size + 1, 0, none⟩ = some (.bool false) := by rw [hW]; simp [go_sem]
  have h1 : HAt W (V3.heap.size + 1 + 1) ⟨0, 0, 0⟩ := by rw [hW]; constructor <;> simp [go_sem]
  have h2 : HAt W (V3.heap.size + 1 + 1 + 1) ⟨0, 0, 0⟩ := by rw [hW]; constructor <;> simp [go_sem]
  have XI : XAt W i Y0 := XAt.grew ⟨i0, i1, i2, i3⟩ gW
  have XJ : XAt W j Y1 := XAt.grew ⟨j0, j1, j2, j3⟩ gW
  have lt3 := U3.size
  clear hW i0 i1 i2 i3 j0 j1 j2 j3 U3 HA HB x0 x1 HM GC
  generalize hZ : V3.heap.size = Z at *
  refine (try_set (S := fun n => n = Z + 1 + 1 ∨ n = Z ∨ n = Z + 1 + 1 + 1 ∨ n = Z + 1) (P := fun x W => x = 0 ∧ HAt W (Z + 1 + 1) R1.1 ∧ W.cell? ⟨Z, 0, none⟩ = some (.bool R1.2) ∧ HAt W (Z + 1 + 1 + 1) R2.1 ∧ W.cell? ⟨Z + 1, 0, none⟩ = some (.bool R2.2)) _ _ _ (fun _ => by simp [go_sem]) (fun n hn => by omega) ?_ (fun W9 G => ?_)).mono ?_
  · rintro x W1 W2 hh ⟨h1, h2, h3, h4, h5⟩
    exact ⟨h1, h2.heap (hh _ (by omega)), by rw [cell_of_heap (hh _ (by simp only; omega))]; exact h3, h4.heap (hh _ (by omega)), by rw [cell_of_heap (hh _ (by simp only; omega))]; exact h5⟩
  · exact ask_both w.heap.size (w.heap.size + 1) (Z + 1 + 1) Z (Z + 1 + 1 + 1) (Z + 1) B0 B1 o0 o1 R1 R2 hI hJ (by omega) (by omega) (by omega) W9 (hA.grew G) (hB.grew G) (h1.grew G) (G.cell l1) (h2.grew G) (G.cell l2) ((gW.trans G).freeB (by omega)) ((gW.trans G).freeB (by omega)) ((gW.trans G).freeB (by omega)) ((gW.trans G).freeB (by omega))
  rintro e V4 ⟨hW, x', rfl, rfl, ⟨e0, e1, e2⟩, e3, ⟨g0, g1, g2⟩, g3⟩
  obtain ⟨a0, a1, a2, a3, a4, a5, a6, a7⟩ := hA.wrote hW (by omega)
  obtain ⟨b0, b1, b2, b3, b4, b5, b6, b7⟩ := hB.wrote hW (by omega)
  obtain ⟨i0, i1, i2, i3⟩ := XI.wrote hW (by omega)
  obtain ⟨j0, j1, j2, j3⟩ := XJ.wrote hW (by omega)
  have G2 : Hid (Grew w V4) := hW.to (GV.trans gW) (fun n hn => by have := GV.size; omega)
  clear hW hA hB h1 h2 l1 l2 gW GV hI hJ XI XJ o0 o1 a1 a2 a3 a4 a5 a6 a7 b1 b2 b3 b4 b5 b6 b7 e0 e1 g0 g1
  obtain ⟨⟨x, y, d⟩, r⟩ := R1
  obtain ⟨⟨x', y', d'⟩, r'⟩ := R2
  simp only at tu1 tu2 e2 e3 g2 g3 ME CM
  subst tu1 tu2
  by_cases hs : B0.s = 2 ∧ B1.s = 2
  · have cm := CM.out hs.1 hs.2
    have s0 : (B0.s == 2) = true := by simpa using hs.1
    have s1 : (B1.s == 2) = true := by simpa using hs.2
    cases r'
    · have hno : ¬ (m = true ∧ ¬ (Y0.l = Y1.h) ∧ ¬ (Y1.l = Y0.h) ∧ ¬ (Y0.m = Y1.k) ∧ ¬ (Y1.m = Y0.k)) := fun h => by have := cm.2 h; cases this
      clear cm ME CM hs
      by_cases q0 : Y0.l = Y1.h
      · have p0 : (Y0.l == Y1.h) = true := by simpa using q0
        clear hno
        clear q0
        cases m
        all_goals
          go_wp2
          go_ret
          exact ⟨rfl, G2.out.grown⟩
      by_cases q1 : Y1.l = Y0.h
      · have p1 : (Y1.l == Y0.h) = true := by simpa using q1
        clear hno
        have p0 : (Y0.l == Y1.h) = false := by simpa using q0
        clear q0 q1
        cases m
        all_goals
          go_wp2
          go_ret
          exact ⟨rfl, G2.out.grown⟩
      by_cases q2 : Y0.m = Y1.k
      · have p2 : (Y0.m == Y1.k) = true := by simpa using q2
        clear hno
        have p0 : (Y0.l == Y1.h) = false := by simpa using q0
        have p1 : (Y1.l == Y0.h) = false := by simpa using q1
        clear q0 q1 q2
        cases m
        all_goals
          go_wp2
          go_ret
          exact ⟨rfl, G2.out.grown⟩
      by_cases q3 : Y1.m = Y0.k
      · have p3 : (Y1.m == Y0.k) = true := by simpa using q3
        clear hno
        have p0 : (Y0.l == Y1.h) = false := by simpa using q0
        have p1 : (Y1.l == Y0.h) = false := by simpa using q1
        have p2 : (Y0.m == Y1.k) = false := by simpa using q2
        clear q0 q1 q2 q3
        cases m
        all_goals
          go_wp2
          go_ret
          exact ⟨rfl, G2.out.grown⟩
      have hm : m = false := by cases m; rfl; exact absurd ⟨rfl, q0, q1, q2, q3⟩ hno
      subst hm
      have p0 : (Y0.l == Y1.h) = false := by simpa using q0
      have p1 : (Y1.l == Y0.h) = false := by simpa using q1
      have p2 : (Y0.m == Y1.k) = false := by simpa using q2
      have p3 : (Y1.m == Y0.k) = false := by simpa using q3
      clear hno q0 q1 q2 q3
      go_wp2
      go_ret
      exact ⟨rfl, G2.out.grown⟩
    · obtain ⟨rfl, n1, n2, n3, n4⟩ := cm.1 rfl
      obtain ⟨_, hd⟩ := ME.out rfl
      have hd' : decide (d' ≤ 0) = false := by simp; omega
      have q1 : (Y0.l == Y1.h) = false := by simpa using n1
      have q2 : (Y1.l == Y0.h) = false := by simpa using n2
      have q3 : (Y0.m == Y1.k) = false := by simpa using n3
      have q4 : (Y1.m == Y0.k) = false := by simpa using n4
      clear cm ME CM hs n1 n2 n3 n4
      go_wp2
      go_ret
      exact ⟨rfl, G2.out.grown⟩
  · have hs' : (B0.s == 2) = false ∨ ((B0.s == 2) = true ∧ (B1.s == 2) = false) := by
      by_cases h : B0.s = 2
      · exact .inr ⟨by simpa using h, by simp; exact fun g => hs ⟨h, g⟩⟩
      · exact .inl (by simpa using h)
    cases r'
    · clear ME CM hs
      rcases hs' with s0 | ⟨s0, s1⟩
      all_goals
        go_wp2
        go_ret
        exact ⟨rfl, G2.out.grown⟩
    · obtain ⟨rfl, hd⟩ := ME.out rfl
      have hd' : decide (d' ≤ 0) = false := by simp; omega
      clear ME CM hs
      rcases hs' with s0 | ⟨s0, s1⟩
      all_goals
        go_wp2
        go_ret
        exact ⟨rfl, G2.out.grown⟩

set_option maxRecDepth 100000 in
theorem lifted (os : Os) (started : os.Started) (H : Type) (enc : TypeId × Value → H) :
    ReturnsInHanded {} Try.checked os 4 .any (Rows.touchBothSpec.pre6 enc Try.prog Try.f4 Rows.touchBothRow.domain false) (Rows.touchBothSpec.post enc Try.prog Try.f4 false true false false) := by
  refine returnsInHanded_of_change (C := Try.checked) own started (by kernel_rfl) Try.func4
    (ChangeSpec.witness6 (enc := enc) (C := Try.checked) false ⟨#[], #[.agg #[.int .i64 0, .int .i64 0, .int .i64 0, .int .i64 0, .int .i64 0, .int .i64 0, .int .i64 0, .int .i64 0], .agg #[.int .i64 0, .int .i64 0, .int .i64 0, .int .i64 0, .int .i64 0, .int .i64 0, .int .i64 0, .int .i64 0]], []⟩ 8 (by kernel_rfl) (by kernel_rfl) (by kernel_rfl) (by kernel_rfl)) ?_
  intro W base args ds gs before hval0 hW hcnd _
  have hval : ∀ (j : Nat) t v, Try.f4.params[j]? = some t → args[j]? = some v → Value.okWide Try.prog W .any base t v := hval0
  have hW' := hW
  obtain ⟨p, q, hA0, hV, rfl, hfz, hnd⟩ := hW
  have hA : DataW.TrodAll enc Try.prog W 0 (fun _ => true) true Try.f4.params.toList args.toList ds p := hA0
  rw [Try.params4] at hA hval
  obtain ⟨v0, vs0, d0, ds0, p0, q0, hargs, rfl, rfl, h0, r0⟩ := trodAll_cons hA
  obtain ⟨v1, vs1, d1, ds1, p1, q1, rfl, rfl, rfl, h1, r1⟩ := trodAll_cons r0
  obtain ⟨rfl, rfl, rfl⟩ := trodAll_nil r1
  obtain rfl : args = #[v0, v1] := by cases args; simp_all
  obtain ⟨rfl, rfl⟩ := trodVars_none hV
  obtain ⟨B0, rfl, rfl, rfl, o0⟩ := open_body (hval 0 26 v0 rfl rfl) h0
  obtain ⟨B1, rfl, rfl, rfl, o1⟩ := open_body (hval 1 26 v1 rfl rfl) h1
  clear hA0 hval0
  simp only [List.append_nil] at hW'
  refine (walk B0 o0 B1 o1 W  ).mono fun e W' ⟨he, hg⟩ => ?_
  subst he
  exact ⟨_, rfl, post_of_same (pa := []) (pv := []) hW' (fun _ _ _ => (trodAll_cons_mk (shut_bool Try.underlying4 _) trodAll_mk0)) (fun sp _ => (trodAll_cons_mk (shut_body o0) (trodAll_cons_mk (shut_body o1) trodAll_mk0))) (fun _ _ => rfl) rfl
    (hg.frame _) hg.2.1 (ok_one (by kernel_rfl) rfl (okWide_bool_mk Try.underlying4 _))⟩

theorem over : Rows.touchBothRow.holds Try.pinned (OpenSpec.ofChange Rows.touchBothSpec) :=
  OpenClaim.holds_of_wide 4 Try.f4 rfl rfl rfl rfl rfl rfl rfl ⟨rfl, rfl, rfl, rfl, rfl⟩ rfl rfl rfl rfl rfl (by kernel_rfl) Try.func4 (by kernel_rfl)
    (of_decide_eq_true (by kernel_rfl)) (by unfold Func.isWrapper; first | (rw [if_pos (by decide +kernel)]; kernel_rfl) | (rw [if_neg (by decide +kernel)]; exact ⟨rfl, rfl⟩))
    (fun os started H enc _ => lifted os started H enc)

theorem proved : Rows.TouchBothSaid :=
  over
end Go.Proofs.Ytjnokjoaphmfkaa.touchBoth

namespace Go.Proofs.Ytjnokjoaphmfkaa
theorem touchBoth_holds : Rows.TouchBothSaid := touchBoth.proved
end Go.Proofs.Ytjnokjoaphmfkaa

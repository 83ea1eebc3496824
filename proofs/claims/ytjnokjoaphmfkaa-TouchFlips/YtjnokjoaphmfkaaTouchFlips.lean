/-
  Proved: maquettelaw10.TouchFlips returns true for every two bodies a and b (a contact turned around twice is itself; of two bodies looked at from the other side it is turned around, but where they are at one place), and leaves what it was given as it was; no condition.
-/
import Derived.Test.YtjnokjoaphmfkaaRows
import Derived.Test.YtjnokjoaphmfkaaHAsk
import Derived.Test.YtjnokjoaphmfkaaHOk
import Derived.Test.YtjnokjoaphmfkaaBData
import Derived.Test.YtjnokjoaphmfkaaBRef
import Derived.WalkKit
import Derived.Deep.QuietTactic
import Derived.BigQuiet
import Derived.WalkSpells
import Derived.Deep.CutRange
import Derived.Deep.CutBlock
import Derived.WalkLawsBesides
import Derived.ProofKit
import Derived.OpenShut
namespace Go.Proofs.Ytjnokjoaphmfkaa.touchFlips
open Go.ChangeShapes Go.WideShapes Go.ChangeAt Go.RowKit
set_option linter.unusedVariables false

theorem own : ownKnob Try.prog.godebug = none := by kernel_rfl

set_option maxHeartbeats 8000000 in
theorem walk (B0 : Bd) (o0 : B0.ok) (B1 : Bd) (o1 : B1.ok) (w : World)  :
    Calls Try.prog 8 #[B0.val, B1.val] w fun e w' => e = .returned (.bool true) ∧ Grown w w' := by
  have HA : Hid (∀ W, _) := fun W => ref_right B0 W
  have HB : Hid (∀ W, _) := fun W => ref_right B1 W
  have hmf := mk_func
  have G0 : Hid (Grew w ((w.alloc (.cells #[.int .i64 B0.s, .int .i64 B0.a, .int .i64 B0.b, .int .i64 B0.m, .int .i64 B0.p, .int .i64 B0.q, .int .i64 B0.u, .int .i64 B0.v] 26)).alloc (.cells #[.int .i64 B1.s, .int .i64 B1.a, .int .i64 B1.b, .int .i64 B1.m, .int .i64 B1.p, .int .i64 B1.q, .int .i64 B1.u, .int .i64 B1.v] 26))) := ((Grew.refl w).alloc _ _).alloc _ _
  obtain ⟨r0, hr0⟩ : ∃ r, rightB B0 = r := ⟨_, rfl⟩
  obtain ⟨r1, hr1⟩ : ∃ r, rightB B1 = r := ⟨_, rfl⟩
  rw [hr0] at HA
  rw [hr1] at HB
  unfold Bd.val at HA HB ⊢
  cases r0
  ·
    clear HB hr0 hr1
    go_enter Try.func8, Try.ntmps8
    go_wp2_with (first
      | (go_at_call 17; go_fit (HA.out _); rintro e V ⟨rfl, U⟩; have a0 := U.cell (p := ⟨w.heap.size, 0, none⟩) (v := .int .i64 B0.s) (by simp [go_sem]); have a1 := U.cell (p := ⟨w.heap.size, 1, none⟩) (v := .int .i64 B0.a) (by simp [go_sem]); have a2 := U.cell (p := ⟨w.heap.size, 2, none⟩) (v := .int .i64 B0.b) (by simp [go_sem]); have a3 := U.cell (p := ⟨w.heap.size, 3, none⟩) (v := .int .i64 B0.m) (by simp [go_sem]); have a4 := U.cell (p := ⟨w.heap.size, 4, none⟩) (v := .int .i64 B0.p) (by simp [go_sem]); have a5 := U.cell (p := ⟨w.heap.size, 5, none⟩) (v := .int .i64 B0.q) (by simp [go_sem]); have a6 := U.cell (p := ⟨w.heap.size, 6, none⟩) (v := .int .i64 B0.u) (by simp [go_sem]); have a7 := U.cell (p := ⟨w.heap.size, 7, none⟩) (v := .int .i64 B0.v) (by simp [go_sem]); have b0 := U.cell (p := ⟨w.heap.size + 1, 0, none⟩) (v := .int .i64 B1.s) (by simp [go_sem]); have b1 := U.cell (p := ⟨w.heap.size + 1, 1, none⟩) (v := .int .i64 B1.a) (by simp [go_sem]); have b2 := U.cell (p := ⟨w.heap.size + 1, 2, none⟩) (v := .int .i64 B1.b) (by simp [go_sem]); have b3 := U.cell (p := ⟨w.heap.size + 1, 3, none⟩) (v := .int .i64 B1.m) (by simp [go_sem]); have b4 := U.cell (p := ⟨w.heap.size + 1, 4, none⟩) (v := .int .i64 B1.p) (by simp [go_sem]); have b5 := U.cell (p := ⟨w.heap.size + 1, 5, none⟩) (v := .int .i64 B1.q) (by simp [go_sem]); have b6 := U.cell (p := ⟨w.heap.size + 1, 6, none⟩) (v := .int .i64 B1.u) (by simp [go_sem]); have b7 := U.cell (p := ⟨w.heap.size + 1, 7, none⟩) (v := .int .i64 B1.v) (by simp [go_sem]))
      | (go_at_call 17; go_fit (HB.out _); rintro e V0 ⟨rfl, U0⟩; replace a0 := U0.cell a0; replace a1 := U0.cell a1; replace a2 := U0.cell a2; replace a3 := U0.cell a3; replace a4 := U0.cell a4; replace a5 := U0.cell a5; replace a6 := U0.cell a6; replace a7 := U0.cell a7; replace b0 := U0.cell b0; replace b1 := U0.cell b1; replace b2 := U0.cell b2; replace b3 := U0.cell b3; replace b4 := U0.cell b4; replace b5 := U0.cell b5; replace b6 := U0.cell b6; replace b7 := U0.cell b7)
      | (go_at_call 9; go_fit (alive_any _); rintro e V1 ⟨rfl, U1⟩; replace a0 := U1.cell a0; replace a1 := U1.cell a1; replace a2 := U1.cell a2; replace a3 := U1.cell a3; replace a4 := U1.cell a4; replace a5 := U1.cell a5; replace a6 := U1.cell a6; replace a7 := U1.cell a7; replace b0 := U1.cell b0; replace b1 := U1.cell b1; replace b2 := U1.cell b2; replace b3 := U1.cell b3; replace b4 := U1.cell b4; replace b5 := U1.cell b5; replace b6 := U1.cell b6; replace b7 := U1.cell b7))
    go_ret
    exact ⟨rfl, ((G0.out.trans U).trans U1).grown⟩
  cases r1
  ·
    clear hr0 hr1
    go_enter Try.func8, Try.ntmps8
    go_wp2_with (first
      | (go_at_call 17; go_fit (HA.out _); rintro e V ⟨rfl, U⟩; have a0 := U.cell (p := ⟨w.heap.size, 0, none⟩) (v := .int .i64 B0.s) (by simp [go_sem]); have a1 := U.cell (p := ⟨w.heap.size, 1, none⟩) (v := .int .i64 B0.a) (by simp [go_sem]); have a2 := U.cell (p := ⟨w.heap.size, 2, none⟩) (v := .int .i64 B0.b) (by simp [go_sem]); have a3 := U.cell (p := ⟨w.heap.size, 3, none⟩) (v := .int .i64 B0.m) (by simp [go_sem]); have a4 := U.cell (p := ⟨w.heap.size, 4, none⟩) (v := .int .i64 B0.p) (by simp [go_sem]); have a5 := U.cell (p := ⟨w.heap.size, 5, none⟩) (v := .int .i64 B0.q) (by simp [go_sem]); have a6 := U.cell (p := ⟨w.heap.size, 6, none⟩) (v := .int .i64 B0.u) (by simp [go_sem]); have a7 := U.cell (p := ⟨w.heap.size, 7, none⟩) (v := .int .i64 B0.v) (by simp [go_sem]); have b0 := U.cell (p := ⟨w.heap.size + 1, 0, none⟩) (v := .int .i64 B1.s) (by simp [go_sem]); have b1 := U.cell (p := ⟨w.heap.size + 1, 1, none⟩) (v := .int .i64 B1.a) (by simp [go_sem]); have b2 := U.cell (p := ⟨w.heap.size + 1, 2, none⟩) (v := .int .i64 B1.b) (by simp [go_sem]); have b3 := U.cell (p := ⟨w.heap.size + 1, 3, none⟩) (v := .int .i64 B1.m) (by simp [go_sem]); have b4 := U.cell (p := ⟨w.heap.size + 1, 4, none⟩) (v := .int .i64 B1.p) (by simp [go_sem]); have b5 := U.cell (p := ⟨w.heap.size + 1, 5, none⟩) (v := .int .i64 B1.q) (by simp [go_sem]); have b6 := U.cell (p := ⟨w.heap.size + 1, 6, none⟩) (v := .int .i64 B1.u) (by simp [go_sem]); have b7 := U.cell (p := ⟨w.heap.size + 1, 7, none⟩) (v := .int .i64 B1.v) (by simp [go_sem]))
      | (go_at_call 17; go_fit (HB.out _); rintro e V0 ⟨rfl, U0⟩; replace a0 := U0.cell a0; replace a1 := U0.cell a1; replace a2 := U0.cell a2; replace a3 := U0.cell a3; replace a4 := U0.cell a4; replace a5 := U0.cell a5; replace a6 := U0.cell a6; replace a7 := U0.cell a7; replace b0 := U0.cell b0; replace b1 := U0.cell b1; replace b2 := U0.cell b2; replace b3 := U0.cell b3; replace b4 := U0.cell b4; replace b5 := U0.cell b5; replace b6 := U0.cell b6; replace b7 := U0.cell b7)
      | (go_at_call 9; go_fit (alive_any _); rintro e V1 ⟨rfl, U1⟩; replace a0 := U1.cell a0; replace a1 := U1.cell a1; replace a2 := U1.cell a2; replace a3 := U1.cell a3; replace a4 := U1.cell a4; replace a5 := U1.cell a5; replace a6 := U1.cell a6; replace a7 := U1.cell a7; replace b0 := U1.cell b0; replace b1 := U1.cell b1; replace b2 := U1.cell b2; replace b3 := U1.cell b3; replace b4 := U1.cell b4; replace b5 := U1.cell b5; replace b6 := U1.cell b6; replace b7 := U1.cell b7))
    go_ret
    exact ⟨rfl, (((G0.out.trans U).trans U0).trans U1).grown⟩
  have mA := right_mild hr0
  have mB := right_mild hr1
  have hI : hitR B0 B1 = (hitI B0 B1, 0) := hit_mild mA mB
  have hJ : hitR B1 B0 = (hitI B1 B0, 0) := hit_mild mB mA
  have sl := hit_slim mA mB
  have tu := hit_turned mA mB (right_shape hr0) (right_shape hr1)
  generalize hitI B1 B0 = R2 at *
  generalize hitI B0 B1 = R1 at *
  have fl : flipR R1.1 = (⟨-R1.1.x, -R1.1.y, R1.1.d⟩, 0) := flip_ok sl.1 sl.2
  have fl2 : flipR ⟨-R1.1.x, -R1.1.y, R1.1.d⟩ = (R1.1, 0) := by
    rw [flip_ok (by simp only; have := sl.1; omega) (by simp only; have := sl.2; omega)]
    simp
  have oD : R1.1.ok := by have := hitR_ok B0 B1; rw [hI] at this; exact this
  have oR : R1.1.ok := ⟨⟨by have := sl.1; omega, by have := sl.1; omega⟩, ⟨by have := sl.2; omega, by have := sl.2; omega⟩, oD.d⟩
  have oF : Ht.ok ⟨-R1.1.x, -R1.1.y, R1.1.d⟩ := ⟨⟨by have := sl.1; simp only; omega, by have := sl.1; simp only; omega⟩, ⟨by have := sl.2; simp only; omega, by have := sl.2; simp only; omega⟩, oR.d⟩
  clear hr0 hr1 mA mB oD
  go_enter Try.func8, Try.ntmps8
  go_wp2_with (first
    | (go_at_call 17; go_fit (HA.out _); rintro e V ⟨rfl, U⟩; have a0 := U.cell (p := ⟨w.heap.size, 0, none⟩) (v := .int .i64 B0.s) (by simp [go_sem]); have a1 := U.cell (p := ⟨w.heap.size, 1, none⟩) (v := .int .i64 B0.a) (by simp [go_sem]); have a2 := U.cell (p := ⟨w.heap.size, 2, none⟩) (v := .int .i64 B0.b) (by simp [go_sem]); have a3 := U.cell (p := ⟨w.heap.size, 3, none⟩) (v := .int .i64 B0.m) (by simp [go_sem]); have a4 := U.cell (p := ⟨w.heap.size, 4, none⟩) (v := .int .i64 B0.p) (by simp [go_sem]); have a5 := U.cell (p := ⟨w.heap.size, 5, none⟩) (v := .int .i64 B0.q) (by simp [go_sem]); have a6 := U.cell (p := ⟨w.heap.size, 6, none⟩) (v := .int .i64 B0.u) (by simp [go_sem]); have a7 := U.cell (p := ⟨w.heap.size, 7, none⟩) (v := .int .i64 B0.v) (by simp [go_sem]); have b0 := U.cell (p := ⟨w.heap.size + 1, 0, none⟩) (v := .int .i64 B1.s) (by simp [go_sem]); have b1 := U.cell (p := ⟨w.heap.size + 1, 1, none⟩) (v := .int .i64 B1.a) (by simp [go_sem]); have b2 := U.cell (p := ⟨w.heap.size + 1, 2, none⟩) (v := .int .i64 B1.b) (by simp [go_sem]); have b3 := U.cell (p := ⟨w.heap.size + 1, 3, none⟩) (v := .int .i64 B1.m) (by simp [go_sem]); have b4 := U.cell (p := ⟨w.heap.size + 1, 4, none⟩) (v := .int .i64 B1.p) (by simp [go_sem]); have b5 := U.cell (p := ⟨w.heap.size + 1, 5, none⟩) (v := .int .i64 B1.q) (by simp [go_sem]); have b6 := U.cell (p := ⟨w.heap.size + 1, 6, none⟩) (v := .int .i64 B1.u) (by simp [go_sem]); have b7 := U.cell (p := ⟨w.heap.size + 1, 7, none⟩) (v := .int .i64 B1.v) (by simp [go_sem]))
    | (go_at_call 17; go_fit (HB.out _); rintro e V0 ⟨rfl, U0⟩; replace a0 := U0.cell a0; replace a1 := U0.cell a1; replace a2 := U0.cell a2; replace a3 := U0.cell a3; replace a4 := U0.cell a4; replace a5 := U0.cell a5; replace a6 := U0.cell a6; replace a7 := U0.cell a7; replace b0 := U0.cell b0; replace b1 := U0.cell b1; replace b2 := U0.cell b2; replace b3 := U0.cell b3; replace b4 := U0.cell b4; replace b5 := U0.cell b5; replace b6 := U0.cell b6; replace b7 := U0.cell b7)
    | (go_at_call 9; go_fit (alive_any _); rintro e V1 ⟨rfl, U1⟩; replace a0 := U1.cell a0; replace a1 := U1.cell a1; replace a2 := U1.cell a2; replace a3 := U1.cell a3; replace a4 := U1.cell a4; replace a5 := U1.cell a5; replace a6 := U1.cell a6; replace a7 := U1.cell a7; replace b0 := U1.cell b0; replace b1 := U1.cell b1; replace b2 := U1.cell b2; replace b3 := U1.cell b3; replace b4 := U1.cell b4; replace b5 := U1.cell b5; replace b6 := U1.cell b6; replace b7 := U1.cell b7))
  obtain ⟨W, hW⟩ : ∃ W, W = ((((V1.alloc (.cells #[.int .i64 0, .int .i64 0, .int .i64 0] 32)).alloc (.cells #[.int .i64 0, .int .i64 0, .int .i64 0] 32)).alloc (.cells #[.int .i64 0, .int .i64 0, .int .i64 0] 32)).alloc (.cells #[.bool false] 4)).alloc (.cells #[.bool false] 4) := ⟨_, rfl⟩
  rw [← hW]
  have GV : Grew w V1 := ((G0.out.trans U).trans U0).trans U1
  have gW : Grew V1 W := by rw [hW]; exact (((((Grew.refl V1).alloc _ _).alloc _ _).alloc _ _).alloc _ _).alloc _ _
  have sz : W.heap.size = V1.heap.size + 1 + 1 + 1 + 1 + 1 := by rw [hW]; simp [go_sem]
  have hA : BAt W w.heap.size B0 := BAt.grew ⟨a0, a1, a2, a3, a4, a5, a6, a7⟩ gW
  have hB : BAt W (w.heap.size + 1) B1 := BAt.grew ⟨b0, b1, b2, b3, b4, b5, b6, b7⟩ gW
  have lt : w.heap.size + 1 < V1.heap.size := cell_block b0
  have h1 : HAt W V1.heap.size ⟨0, 0, 0⟩ := by rw [hW]; constructor <;> simp [go_sem]
  have h2 : HAt W (V1.heap.size + 1) ⟨0, 0, 0⟩ := by rw [hW]; constructor <;> simp [go_sem]
  have h3 : HAt W (V1.heap.size + 1 + 1) ⟨0, 0, 0⟩ := by rw [hW]; constructor <;> simp [go_sem]
  have l1 : W.cell? ⟨V1.heap.size + 1 + 1 + 1, 0, none⟩ = some (.bool false) := by rw [hW]; simp [go_sem]
  have l2 : W.cell? ⟨V1.heap.size + 1 + 1 + 1 + 1, 0, none⟩ = some (.bool false) := by rw [hW]; simp [go_sem]
  clear hW a0 a1 a2 a3 a4 a5 a6 a7 b0 b1 b2 b3 b4 b5 b6 b7 U U0 U1 G0 HA HB
  generalize hX : V1.heap.size = X at *
  refine (try_set (S := fun n => n = X ∨ n = X + 1 + 1 + 1 ∨ n = X + 1 ∨ n = X + 1 + 1 + 1 + 1 ∨ n = X + 1 + 1) (P := fun x W => x = 0 ∧ HAt W X R1.1 ∧ W.cell? ⟨X + 1 + 1 + 1, 0, none⟩ = some (.bool R1.2) ∧ HAt W (X + 1) R2.1 ∧ W.cell? ⟨X + 1 + 1 + 1 + 1, 0, none⟩ = some (.bool R2.2) ∧ HAt W (X + 1 + 1) R1.1) _ _ _ (fun _ => by simp [go_sem]) (fun n hn => by omega) ?_ (fun W0 G => ?_)).mono ?_
  · rintro x W1 W2 hh ⟨h1, h2, h3, h4, h5, h6⟩
    exact ⟨h1, h2.heap (hh _ (by omega)), by rw [cell_of_heap (hh _ (by simp only; omega))]; exact h3, h4.heap (hh _ (by omega)), by rw [cell_of_heap (hh _ (by simp only; omega))]; exact h5, h6.heap (hh _ (by omega))⟩
  · exact ask_flips w.heap.size (w.heap.size + 1) X (X + 1 + 1 + 1) (X + 1) (X + 1 + 1 + 1 + 1) B0 B1 o0 o1 R1 R2 hI hJ _ fl fl2 oR oF (X + 1 + 1) (by omega) (by omega) (by omega) (by omega) W0 (hA.grew G) (hB.grew G) (h1.grew G) (G.cell l1) (h2.grew G) (G.cell l2) ((gW.trans G).freeB (by omega)) ((gW.trans G).freeB (by omega)) ((gW.trans G).freeB (by omega)) ((gW.trans G).freeB (by omega)) (h3.grew G) ((gW.trans G).freeB (by omega))
  rintro e V2 ⟨hW, x', rfl, rfl, ⟨e0, e1, e2⟩, e3, ⟨g0, g1, g2⟩, g3, ⟨i0, i1, i2⟩⟩
  obtain ⟨a0, a1, a2, a3, a4, a5, a6, a7⟩ := hA.wrote hW (by omega)
  obtain ⟨b0, b1, b2, b3, b4, b5, b6, b7⟩ := hB.wrote hW (by omega)
  have G2 : Hid (Grew w V2) := hW.to (GV.trans gW) (fun n hn => by have := GV.size; omega)
  clear hW hA hB h1 h2 h3 l1 l2 gW GV hI hJ fl fl2 oR oF o0 o1 sz lt hX
  obtain ⟨⟨x, y, d⟩, r⟩ := R1
  obtain ⟨⟨x', y', d'⟩, r'⟩ := R2
  obtain ⟨t1, t2, t3⟩ := tu
  simp only at t1 t2 t3 e0 e1 e2 e3 g0 g1 g2 g3 i0 i1 i2
  subst t1 t2
  unfold Slim at sl
  simp only at sl
  obtain ⟨⟨s0, s1⟩, s2, s3⟩ := sl
  have hq := ne_same_hit x y d'
  clear a0 a1 a2 a3 a6 a7 b0 b1 b2 b3 b6 b7
  cases r'
  · clear t3
    go_wp2
    go_ret
    exact ⟨rfl, G2.out.grown⟩
  by_cases hp : B0.p = B1.p
  · have hp' : (B0.p == B1.p) = true := by simpa using hp
    clear t3 hp
    go_wp2
    go_ret
    exact ⟨rfl, G2.out.grown⟩
  by_cases hy : B0.q = B1.q
  · have hp' : (B0.p == B1.p) = false := by simpa using hp
    have hy' : (B0.q == B1.q) = true := by simpa using hy
    clear t3 hp hy
    go_wp2
    go_ret
    exact ⟨rfl, G2.out.grown⟩
  have hp' : (B0.p == B1.p) = false := by simpa using hp
  have hy' : (B0.q == B1.q) = false := by simpa using hy
  obtain ⟨rfl, rfl⟩ := t3 (by omega) (by omega)
  clear t3 hp hy
  go_wp2
  go_ret
  exact ⟨rfl, G2.out.grown⟩

set_option maxRecDepth 100000 in
theorem lifted (os : Os) (started : os.Started) (H : Type) (enc : TypeId × Value → H) :
    ReturnsInHanded {} Try.checked os 8 .any (Rows.touchFlipsSpec.pre6 enc Try.prog Try.f8 Rows.touchFlipsRow.domain false) (Rows.touchFlipsSpec.post enc Try.prog Try.f8 false true false false) := by
  refine returnsInHanded_of_change (C := Try.checked) own started (by kernel_rfl) Try.func8
    (ChangeSpec.witness6 (enc := enc) (C := Try.checked) false ⟨#[], #[.agg #[.int .i64 0, .int .i64 0, .int .i64 0, .int .i64 0, .int .i64 0, .int .i64 0, .int .i64 0, .int .i64 0], .agg #[.int .i64 0, .int .i64 0, .int .i64 0, .int .i64 0, .int .i64 0, .int .i64 0, .int .i64 0, .int .i64 0]], []⟩ 8 (by kernel_rfl) (by kernel_rfl) (by kernel_rfl) (by kernel_rfl)) ?_
  intro W base args ds gs before hval0 hW hcnd _
  have hval : ∀ (j : Nat) t v, Try.f8.params[j]? = some t → args[j]? = some v → Value.okWide Try.prog W .any base t v := hval0
  have hW' := hW
  obtain ⟨p, q, hA0, hV, rfl, hfz, hnd⟩ := hW
  have hA : DataW.TrodAll enc Try.prog W 0 (fun _ => true) true Try.f8.params.toList args.toList ds p := hA0
  rw [Try.params8] at hA hval
  obtain ⟨v0, vs0, d0, ds0, p0, q0, hargs, rfl, rfl, h0, r0⟩ := trodAll_cons hA
  obtain ⟨v1, vs1, d1, ds1, p1, q1, rfl, rfl, rfl, h1, r1⟩ := trodAll_cons r0
  obtain ⟨rfl, rfl, rfl⟩ := trodAll_nil r1
  obtain rfl : args = #[v0, v1] := by cases args; simp_all
  obtain ⟨rfl, rfl⟩ := trodVars_none hV
  obtain ⟨B0, rfl, rfl, rfl, o0⟩ := open_body (hval 0 26 v0 rfl rfl) h0
  obtain ⟨B1, rfl, rfl, rfl, o1⟩ := open_body (hval 1 26 v1 rfl rfl) h1
  clear hA0 hval0
  simp only [List.append_nil] at hW'
  refine (walk B0 o0 B1 o1 W  ).mono fun e W' ⟨he, hg⟩ => ?_
  subst he
  exact ⟨_, rfl, post_of_same (pa := []) (pv := []) hW' (fun _ _ _ => (trodAll_cons_mk (shut_bool Try.underlying4 _) trodAll_mk0)) (fun sp _ => (trodAll_cons_mk (shut_body o0) (trodAll_cons_mk (shut_body o1) trodAll_mk0))) (fun _ _ => rfl) rfl
    (hg.frame _) hg.2.1 (ok_one (by kernel_rfl) rfl (okWide_bool_mk Try.underlying4 _))⟩

theorem over : Rows.touchFlipsRow.holds Try.pinned (OpenSpec.ofChange Rows.touchFlipsSpec) :=
  OpenClaim.holds_of_wide 8 Try.f8 rfl rfl rfl rfl rfl rfl rfl ⟨rfl, rfl, rfl, rfl, rfl⟩ rfl rfl rfl rfl rfl (by kernel_rfl) Try.func8 (by kernel_rfl)
    (of_decide_eq_true (by kernel_rfl)) (by unfold Func.isWrapper; first | (rw [if_pos (by decide +kernel)]; kernel_rfl) | (rw [if_neg (by decide +kernel)]; exact ⟨rfl, rfl⟩))
    (fun os started H enc _ => lifted os started H enc)

theorem proved : Rows.TouchFlipsSaid :=
  over
end Go.Proofs.Ytjnokjoaphmfkaa.touchFlips

namespace Go.Proofs.Ytjnokjoaphmfkaa
theorem touchFlips_holds : Rows.TouchFlipsSaid := touchFlips.proved
end Go.Proofs.Ytjnokjoaphmfkaa

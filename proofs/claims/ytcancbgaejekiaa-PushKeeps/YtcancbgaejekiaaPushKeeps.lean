/-
  Proved: maquettelaw11.PushKeeps returns true for every two bodies, every contact, every length and every push (two bodies that have a mass keep the sum of what moves them, to the last bit, whatever pushes them), and leaves what it was given as it was; no condition.
-/
import Derived.Test.YtcancbgaejekiaaRows
import Derived.Test.YtcancbgaejekiaaJOps
import Derived.Test.YtcancbgaejekiaaBData
import Derived.Test.YtcancbgaejekiaaBRef
import Derived.Test.YtcancbgaejekiaaJData
import Derived.WalkKit
import Derived.Deep.QuietTactic
import Derived.BigQuiet
import Derived.WalkSpells
import Derived.Deep.CutRange
import Derived.Deep.CutBlock
import Derived.WalkLawsBesides
import Derived.ProofKit
import Derived.OpenShut
namespace Go.Proofs.Ytcancbgaejekiaa.pushKeeps
open Go.ChangeShapes Go.WideShapes Go.ChangeAt Go.RowKit
set_option linter.unusedVariables false

theorem own : ownKnob Try.prog.godebug = none := by kernel_rfl

def wayAt : Value → World → Nat
  | .pointer (some a), w => match w.cell? a with
    | some v => (intOf v).toNat
    | none => 0
  | _, _ => 0
theorem op_keeps {i : Int} {A B : Bd} {h : Ht} {n x y : Int} (hA : ¬ A.m = 0) (hB : ¬ B.m = 0) (g : (opR i A B h n x y).2 = 0) : Keeps A B (opR i A B h n x y).1.1 (opR i A B h n x y).1.2 := by
  by_cases h0 : i = 0
  · subst h0; rw [opR_0] at *; exact apply_keeps hA hB g
  by_cases h1 : i = 1
  · subst h1; rw [opR_1] at *; exact contact_keeps hA hB g
  · rw [opR_2 h0 h1] at *; exact joint_keeps hA hB g

set_option maxRecDepth 10000 in
set_option maxHeartbeats 16000000 in
theorem walk (B0 : Bd) (o0 : B0.ok) (B1 : Bd) (o1 : B1.ok) (H2 : Ht) (o2 : H2.ok) (a3 : Int) (f3 : inF a3) (x4 y4 : Int) (f4 : inF x4) (g4 : inF y4) (w : World)     :
    Calls Try.prog 4 #[B0.val, B1.val, H2.val, .int .i64 a3, vec x4 y4] w fun e w' => e = .returned (.bool true) ∧ Grown w w' := by
  have hmf := mk_func
  have js : ∀ V, V = ((((w.alloc (.cells #[.int .i64 B0.s, .int .i64 B0.a, .int .i64 B0.b, .int .i64 B0.m, .int .i64 B0.p, .int .i64 B0.q, .int .i64 B0.u, .int .i64 B0.v] 26)).alloc (.cells #[.int .i64 B1.s, .int .i64 B1.a, .int .i64 B1.b, .int .i64 B1.m, .int .i64 B1.p, .int .i64 B1.q, .int .i64 B1.u, .int .i64 B1.v] 26)).alloc (.cells #[.int .i64 H2.x, .int .i64 H2.y, .int .i64 H2.d] 28)).alloc (.cells #[.int .i64 a3] 22)).alloc (.cells #[.int .i64 x4, .int .i64 y4] 24) → Grew w V ∧ BAt V w.heap.size B0 ∧ BAt V (w.heap.size + 1) B1 ∧ HAt V (w.heap.size + 1 + 1) H2 ∧ V.cell? ⟨w.heap.size + 1 + 1 + 1, 0, none⟩ = some (.int .i64 a3) ∧ At V (w.heap.size + 1 + 1 + 1 + 1) x4 y4 := fun V hV => by
    refine ⟨by rw [hV]; exact (((((Grew.refl w).alloc _ _).alloc _ _).alloc _ _).alloc _ _).alloc _ _, ?_, ?_, ?_, ?_, ?_⟩ <;> (rw [hV]; first | (constructor <;> simp [go_sem]; done) | simp [go_sem])
  have JS : Hid _ := js
  clear js
  have HR0 : Hid (∀ W, _) := fun W => ref_right B0 W
  have HR1 : Hid (∀ W, _) := fun W => ref_right B1 W
  by_cases r0 : rightB B0 = true
  rotate_left
  · have r0' : rightB B0 = false := by simpa using r0
    rw [r0'] at HR0
    clear r0
    clear o0 o1 
    unfold Bd.val at HR0 HR1 ⊢
    unfold Ht.val vec
    go_enter Try.func4, Try.ntmps4
    go_wp2_with (first
      | (go_at_call 18; go_fit (HR0.out _); rintro e V1 ⟨rfl, U1⟩; have G1 : Hid _ := (JS.out _ rfl).1.trans U1)
      | (go_at_call 9; go_fit (alive_any _); rintro e V3 ⟨rfl, U3⟩))
    go_ret
    exact ⟨rfl, (G1.out.trans U3).grown⟩
  by_cases r1 : rightB B1 = true
  rotate_left
  · have r1' : rightB B1 = false := by simpa using r1
    rw [r0] at HR0
    rw [r1'] at HR1
    clear r0 r1
    clear o0 o1 
    unfold Bd.val at HR0 HR1 ⊢
    unfold Ht.val vec
    go_enter Try.func4, Try.ntmps4
    go_wp2_with (first
      | (go_at_call 18; go_fit (HR0.out _); rintro e V1 ⟨rfl, U1⟩; obtain ⟨G0, A0, B0', t0, k0, j0⟩ := JS.out _ rfl; have A1 := A0.grew U1; have B1' := B0'.grew U1; have ⟨ca0, ca1, ca2, ca3, ca4, ca5, ca6, ca7⟩ := A1; have ⟨cb0, cb1, cb2, cb3, cb4, cb5, cb6, cb7⟩ := B1'; have t1 := (fun f g => HAt.grew f g) t0 U1; have k1 := (fun f g => Grew.cell g f) k0 U1; have j1 := (fun f g => At.grew f g) j0 U1; have G1 : Hid _ := G0.trans U1; have AH : Hid _ := A1; have BH : Hid _ := B1'; have tH : Hid _ := t1; have kH : Hid _ := k1; have jH : Hid _ := j1; clear A0 A1 B0' B1' G0 t0 k0 j0)
      | (go_at_call 18; go_fit (HR1.out _); rintro e V2 ⟨rfl, U2⟩; replace ca0 := U2.cell ca0; replace ca1 := U2.cell ca1; replace ca2 := U2.cell ca2; replace ca3 := U2.cell ca3; replace ca4 := U2.cell ca4; replace ca5 := U2.cell ca5; replace ca6 := U2.cell ca6; replace ca7 := U2.cell ca7; replace cb0 := U2.cell cb0; replace cb1 := U2.cell cb1; replace cb2 := U2.cell cb2; replace cb3 := U2.cell cb3; replace cb4 := U2.cell cb4; replace cb5 := U2.cell cb5; replace cb6 := U2.cell cb6; replace cb7 := U2.cell cb7; have G2 : Hid _ := G1.out.trans U2)
      | (go_at_call 9; go_fit (alive_any _); rintro e V3 ⟨rfl, U3⟩))
    go_ret
    exact ⟨rfl, (G2.out.trans U3).grown⟩
  obtain ⟨p1, p2, p3, p4, p5⟩ := (rightB_iff B0).1 r0
  obtain ⟨q1, q2, q3, q4, q5⟩ := (rightB_iff B1).1 r1
  rw [r0] at HR0
  rw [r1] at HR1
  clear r0 r1
  by_cases hc : B0.m = 0
  · have z0 : (B0.m == 0) = true := by simpa using hc
    clear hc
    clear p1 p2 p3 p4 p5 q1 q2 q3 q4 q5
    clear o0 o1 o2 f3 f4 g4
    unfold Bd.val at HR0 HR1 ⊢
    unfold Ht.val vec
    go_enter Try.func4, Try.ntmps4
    go_wp2_with (first
      | (go_at_call 18; go_fit (HR0.out _); rintro e V1 ⟨rfl, U1⟩; obtain ⟨G0, A0, B0', t0, k0, j0⟩ := JS.out _ rfl; have A1 := A0.grew U1; have B1' := B0'.grew U1; have ⟨ca0, ca1, ca2, ca3, ca4, ca5, ca6, ca7⟩ := A1; have ⟨cb0, cb1, cb2, cb3, cb4, cb5, cb6, cb7⟩ := B1'; have t1 := (fun f g => HAt.grew f g) t0 U1; have k1 := (fun f g => Grew.cell g f) k0 U1; have j1 := (fun f g => At.grew f g) j0 U1; have G1 : Hid _ := G0.trans U1; have AH : Hid _ := A1; have BH : Hid _ := B1'; have tH : Hid _ := t1; have kH : Hid _ := k1; have jH : Hid _ := j1; clear A0 A1 B0' B1' G0 t0 k0 j0)
      | (go_at_call 18; go_fit (HR1.out _); rintro e V2 ⟨rfl, U2⟩; replace ca0 := U2.cell ca0; replace ca1 := U2.cell ca1; replace ca2 := U2.cell ca2; replace ca3 := U2.cell ca3; replace ca4 := U2.cell ca4; replace ca5 := U2.cell ca5; replace ca6 := U2.cell ca6; replace ca7 := U2.cell ca7; replace cb0 := U2.cell cb0; replace cb1 := U2.cell cb1; replace cb2 := U2.cell cb2; replace cb3 := U2.cell cb3; replace cb4 := U2.cell cb4; replace cb5 := U2.cell cb5; replace cb6 := U2.cell cb6; replace cb7 := U2.cell cb7; have G2 : Hid _ := G1.out.trans U2)
      | (go_at_call 9; go_fit (alive_any _); rintro e V3 ⟨rfl, U3⟩))
    go_ret
    exact ⟨rfl, (G2.out.trans U3).grown⟩
  have z0 : (B0.m == 0) = false := by simpa using hc
  have m0 : Hid (¬ B0.m = 0) := hc
  clear hc
  by_cases hc : B1.m = 0
  · have z1 : (B1.m == 0) = true := by simpa using hc
    clear hc
    clear p1 p2 p3 p4 p5 q1 q2 q3 q4 q5
    clear o0 o1 o2 f3 f4 g4
    unfold Bd.val at HR0 HR1 ⊢
    unfold Ht.val vec
    go_enter Try.func4, Try.ntmps4
    go_wp2_with (first
      | (go_at_call 18; go_fit (HR0.out _); rintro e V1 ⟨rfl, U1⟩; obtain ⟨G0, A0, B0', t0, k0, j0⟩ := JS.out _ rfl; have A1 := A0.grew U1; have B1' := B0'.grew U1; have ⟨ca0, ca1, ca2, ca3, ca4, ca5, ca6, ca7⟩ := A1; have ⟨cb0, cb1, cb2, cb3, cb4, cb5, cb6, cb7⟩ := B1'; have t1 := (fun f g => HAt.grew f g) t0 U1; have k1 := (fun f g => Grew.cell g f) k0 U1; have j1 := (fun f g => At.grew f g) j0 U1; have G1 : Hid _ := G0.trans U1; have AH : Hid _ := A1; have BH : Hid _ := B1'; have tH : Hid _ := t1; have kH : Hid _ := k1; have jH : Hid _ := j1; clear A0 A1 B0' B1' G0 t0 k0 j0)
      | (go_at_call 18; go_fit (HR1.out _); rintro e V2 ⟨rfl, U2⟩; replace ca0 := U2.cell ca0; replace ca1 := U2.cell ca1; replace ca2 := U2.cell ca2; replace ca3 := U2.cell ca3; replace ca4 := U2.cell ca4; replace ca5 := U2.cell ca5; replace ca6 := U2.cell ca6; replace ca7 := U2.cell ca7; replace cb0 := U2.cell cb0; replace cb1 := U2.cell cb1; replace cb2 := U2.cell cb2; replace cb3 := U2.cell cb3; replace cb4 := U2.cell cb4; replace cb5 := U2.cell cb5; replace cb6 := U2.cell cb6; replace cb7 := U2.cell cb7; have G2 : Hid _ := G1.out.trans U2)
      | (go_at_call 9; go_fit (alive_any _); rintro e V3 ⟨rfl, U3⟩))
    go_ret
    exact ⟨rfl, (G2.out.trans U3).grown⟩
  have z1 : (B1.m == 0) = false := by simpa using hc
  have m1 : Hid (¬ B1.m = 0) := hc
  clear hc
  obtain ⟨_, _, _, _, u1, u2, v1, v2⟩ := p5
  obtain ⟨_, _, _, _, u3, u4, v3, v4⟩ := q5
  clear p1 p2 p3 p4 q1 q2 q3 q4
  unfold Ht.val vec
  unfold Bd.val at HR0 HR1 ⊢
  go_enter Try.func4, Try.ntmps4
  go_wp2_with (first
    | (go_at_call 18; go_fit (HR0.out _); rintro e V1 ⟨rfl, U1⟩; obtain ⟨G0, A0, B0', t0, k0, j0⟩ := JS.out _ rfl; have A1 := A0.grew U1; have B1' := B0'.grew U1; have ⟨ca0, ca1, ca2, ca3, ca4, ca5, ca6, ca7⟩ := A1; have ⟨cb0, cb1, cb2, cb3, cb4, cb5, cb6, cb7⟩ := B1'; have t1 := (fun f g => HAt.grew f g) t0 U1; have k1 := (fun f g => Grew.cell g f) k0 U1; have j1 := (fun f g => At.grew f g) j0 U1; have G1 : Hid _ := G0.trans U1; have AH : Hid _ := A1; have BH : Hid _ := B1'; have tH : Hid _ := t1; have kH : Hid _ := k1; have jH : Hid _ := j1; clear A0 A1 B0' B1' G0 t0 k0 j0)
    | (go_at_call 18; go_fit (HR1.out _); rintro e V2 ⟨rfl, U2⟩; replace ca0 := U2.cell ca0; replace ca1 := U2.cell ca1; replace ca2 := U2.cell ca2; replace ca3 := U2.cell ca3; replace ca4 := U2.cell ca4; replace ca5 := U2.cell ca5; replace ca6 := U2.cell ca6; replace ca7 := U2.cell ca7; replace cb0 := U2.cell cb0; replace cb1 := U2.cell cb1; replace cb2 := U2.cell cb2; replace cb3 := U2.cell cb3; replace cb4 := U2.cell cb4; replace cb5 := U2.cell cb5; replace cb6 := U2.cell cb6; replace cb7 := U2.cell cb7; have G2 : Hid _ := G1.out.trans U2)
    | (go_at_call 9; go_fit (alive_any _); rintro e V3 ⟨rfl, U3⟩; have G3 : Hid _ := (G2.out.trans U3); have A3 : Hid _ := AH.out.grew (U2.trans U3); have B3 : Hid _ := BH.out.grew (U2.trans U3); have t3 := (fun f g => HAt.grew f g) tH.out (U2.trans U3); have k3 := (fun f g => Grew.cell g f) kH.out (U2.trans U3); have j3 := (fun f g => At.grew f g) jH.out (U2.trans U3)))
  clear ca0 ca1 ca2 ca3 ca4 ca5 ca6 ca7 cb0 cb1 cb2 cb3 cb4 cb5 cb6 cb7 HR0 HR1 JS U1 U2 U3 G1 G2 AH BH tH kH jH t1 k1 j1
  have ⟨aa0, aa1, aa2, aa3, aa4, aa5, aa6, aa7⟩ := A3.out
  have ⟨bb0, bb1, bb2, bb3, bb4, bb5, bb6, bb7⟩ := B3.out
  go_region_held2 (fun w' => w'.cell? ⟨w.heap.size, 6, none⟩ = some (.int .i64 B0.u) ∧ w'.cell? ⟨w.heap.size, 7, none⟩ = some (.int .i64 B0.v) ∧ w'.cell? ⟨w.heap.size + 1, 6, none⟩ = some (.int .i64 B1.u) ∧ w'.cell? ⟨w.heap.size + 1, 7, none⟩ = some (.int .i64 B1.v)) (go_keep) (fail)
  rename_i hH
  clear hH aa0 aa1 aa2 aa3 aa4 aa5 aa6 aa7 bb0 bb1 bb2 bb3 bb4 bb5 bb6 bb7
  go_wp2_with (fail)
  have ws : IntKind.i64.wrap (B0.u + B1.u) = B0.u + B1.u := by rw [IntKind.wrap_i64]; omega
  have wt : IntKind.i64.wrap (B0.v + B1.v) = B0.v + B1.v := by rw [IntKind.wrap_i64]; omega
  rw [ws, wt]
  obtain ⟨S, hS⟩ : ∃ S, S = B0.u + B1.u := ⟨_, rfl⟩
  obtain ⟨Y, hY⟩ : ∃ Y, Y = B0.v + B1.v := ⟨_, rfl⟩
  rw [← hS, ← hY]
  have s1 : -8589934592000000 ≤ S := by omega
  have s2 : S ≤ 8589934592000000 := by omega
  have s3 : -8589934592000000 ≤ Y := by omega
  have s4 : Y ≤ 8589934592000000 := by omega
  have HS : Hid (S = B0.u + B1.u) := hS
  have HY : Hid (Y = B0.v + B1.v) := hY
  have lk : w.heap.size + 1 + 1 + 1 + 1 < V3.heap.size := j3.size
  have F : Hid (B0.ok ∧ B1.ok ∧ H2.ok ∧ inF a3 ∧ inF x4 ∧ inF y4) := ⟨o0, o1, o2, f3, f4, g4⟩
  have HT : Hid _ := t3
  have HK : Hid _ := k3
  have HJ : Hid _ := j3
  clear ws wt hS hY u1 u2 u3 u4 v1 v2 v3 v4 o0 o1 o2 f3 f4 g4 t3 k3 j3 z0 z1
  go_loopw [13] (fun s wr => ∃ O j : Nat, s = .pointer (some ⟨O, 0, none⟩) ∧ j ≤ 3 ∧ wr.cell? ⟨O, 0, none⟩ = some (.int .i64 (j : Int)) ∧ V3.heap.size ≤ O ∧ Grew V3 wr) (fun s wr => 3 - wayAt s wr)
  case atStart => exact ⟨V3.heap.size, 0, rfl, by omega, by simp [go_sem], Nat.le_refl _, ((Grew.refl V3).alloc _ _).drew⟩
  case round =>
    obtain ⟨O, j, rfl, hj, hO, hVO, g⟩ := hrel
    rename_i wr _
    have hO' : O < wr.heap.size := cell_block hO
    by_cases h3 : j = 3
    · subst h3
      go_wp2
      go_ret
      exact ⟨rfl, (G3.out.trans g).grown⟩
    have hj2 : j < 3 := by omega
    have hj3 : (j : Int) < 3 := by omega
    obtain ⟨W, hW⟩ : ∃ W, W = (wr.alloc (.cells #[.int .i64 0, .int .i64 0, .int .i64 0, .int .i64 0, .int .i64 0, .int .i64 0, .int .i64 0, .int .i64 0] 26)).alloc (.cells #[.int .i64 0, .int .i64 0, .int .i64 0, .int .i64 0, .int .i64 0, .int .i64 0, .int .i64 0, .int .i64 0] 26) := ⟨_, rfl⟩
    have gW : Grew wr W := by rw [hW]; exact ((Grew.refl wr).alloc _ _).alloc _ _
    have sW : W.heap.size = wr.heap.size + 1 + 1 := by rw [hW]; simp [go_sem]
    have hC : BAt W wr.heap.size noB := by rw [hW]; constructor <;> simp [go_sem, noB]
    have hD : BAt W (wr.heap.size + 1) noB := by rw [hW]; constructor <;> simp [go_sem, noB]
    have GV := g.trans gW
    have hO2 := gW.cell hO
    have hOr := hO
    have hWe : Hid (_ = _) := hW
    clear hW hj h3
    go_wp2_with (fail)
    rw [← hWe.out]
    clear hWe
    obtain ⟨X, hX⟩ : ∃ X, wr.heap.size = X := ⟨_, rfl⟩
    rw [hX] at hC hD sW hO' ⊢
    refine (try_set (S := fun n => n = X ∨ n = X + 1) (P := LeftP X (X + 1) (opR (j : Int) B0 B1 H2 a3 x4 y4)) _ _ _ (fun _ => by simp [go_sem]) (fun n hn => by omega) (LeftP.keep (by omega) (by omega)) (fun W0 G => ?_)).mono ?_
    · exact ask_keeps _ _ _ _ _ _ _ _ (by omega) (j : Int) B0 B1 H2 a3 x4 y4 F.out.1 F.out.2.1 F.out.2.2.1 F.out.2.2.2.1 F.out.2.2.2.2.1 F.out.2.2.2.2.2 W0 (G.cell hO2) (A3.out.grew (GV.trans G)) (B3.out.grew (GV.trans G)) (At.grew HJ.out (GV.trans G)) (HAt.grew HT.out (GV.trans G)) ((GV.trans G).cell HK.out) noB noB (hC.grew G) (hD.grew G) ((gW.trans G).freeB (by omega)) ((gW.trans G).freeB (by omega))
    rintro e V4 ⟨hW, x', rfl, hx', h2⟩
    have ap := fun h => op_keeps (i := (j : Int)) (A := B0) (B := B1) (h := H2) (n := a3) (x := x4) (y := y4) m0.out m1.out h
    generalize opR (j : Int) B0 B1 H2 a3 x4 y4 = T at *
    subst hx'
    have gV : Grew V3 V4 := hW.to GV (fun n hn => by have := g.size; omega)
    have hO4 : V4.cell? ⟨O, 0, none⟩ = some (.int .i64 (j : Int)) := hW.cell hO2 (show ¬ (O = X ∨ O = X + 1) by omega)
    have hl4 : O < V4.heap.size := cell_block hO4
    have GH : Hid (Grew V3 V4) := gV
    clear hW hC hD GV gW hO hO2 sW
    by_cases hz : T.2 = 0
    rotate_left
    · have hz1 : (T.2 == 0) = false := by simpa using hz
      clear hz h2 ap gV
      go_wp2_with (fail)
      go_roundw
      case rel => exact ⟨_, j + 1, rfl, by omega, by simp [go_sem], GH.out.size, GH.out.alloc _ _⟩
      case measure => simp [wayAt, hOr, go_sem, intOf]; omega
    have hz1 : (T.2 == 0) = true := by simpa using hz
    have K := ap hz
    obtain ⟨⟨c0, c1, c2, c3, c4, c5, c6, c7⟩, ⟨d0, d1, d2, d3, d4, d5, d6, d7⟩⟩ := h2 hz
    have ⟨aa0, aa1, aa2, aa3, aa4, aa5, aa6, aa7⟩ := A3.out.grew gV
    have ⟨bb0, bb1, bb2, bb3, bb4, bb5, bb6, bb7⟩ := B3.out.grew gV
    have e1 : T.1.1.u + T.1.2.u = S := K.u.trans HS.out.symm
    have e2 : T.1.1.v + T.1.2.v = Y := K.v.trans HY.out.symm
    rw [K.am] at c3
    rw [K.ba] at d1
    rw [K.bb] at d2
    have hq := ne_vec B1.a B1.b B1.a B1.b
    clear hz h2 ap gV K c0 c1 c2 c4 c5 d0 d3 d4 d5 aa0 aa1 aa2 aa4 aa5 aa6 aa7 bb0 bb3 bb4 bb5 bb6 bb7
    go_wp2_with (fail)
    go_roundw
    case rel => exact ⟨_, j + 1, rfl, by omega, by simp [go_sem], GH.out.size, GH.out.alloc _ _⟩
    case measure => simp [wayAt, hOr, go_sem, intOf]; omega

set_option maxRecDepth 100000 in
theorem lifted (os : Os) (started : os.Started) (H : Type) (enc : TypeId × Value → H) :
    ReturnsInHanded {} Try.checked os 4 .any (Rows.pushKeepsSpec.pre6 enc Try.prog Try.f4 Rows.pushKeepsRow.domain false) (Rows.pushKeepsSpec.post enc Try.prog Try.f4 false true false false) := by
  refine returnsInHanded_of_change (C := Try.checked) own started (by kernel_rfl) Try.func4
    (ChangeSpec.witness6 (enc := enc) (C := Try.checked) false ⟨#[], #[.agg #[.int .i64 0, .int .i64 0, .int .i64 0, .int .i64 0, .int .i64 0, .int .i64 0, .int .i64 0, .int .i64 0], .agg #[.int .i64 0, .int .i64 0, .int .i64 0, .int .i64 0, .int .i64 0, .int .i64 0, .int .i64 0, .int .i64 0], .agg #[.int .i64 0, .int .i64 0, .int .i64 0], .int .i64 0, .agg #[.int .i64 0, .int .i64 0]], []⟩ 8 (by kernel_rfl) (by kernel_rfl) (by kernel_rfl) (by kernel_rfl)) ?_
  intro W base args ds gs before hval0 hW hcnd _
  have hval : ∀ (j : Nat) t v, Try.f4.params[j]? = some t → args[j]? = some v → Value.okWide Try.prog W .any base t v := hval0
  have hW' := hW
  obtain ⟨p, q, hA0, hV, rfl, hfz, hnd⟩ := hW
  have hA : DataW.TrodAll enc Try.prog W 0 (fun _ => true) true Try.f4.params.toList args.toList ds p := hA0
  rw [Try.params4] at hA hval
  obtain ⟨v0, vs0, d0, ds0, p0, q0, hargs, rfl, rfl, h0, r0⟩ := trodAll_cons hA
  obtain ⟨v1, vs1, d1, ds1, p1, q1, rfl, rfl, rfl, h1, r1⟩ := trodAll_cons r0
  obtain ⟨v2, vs2, d2, ds2, p2, q2, rfl, rfl, rfl, h2, r2⟩ := trodAll_cons r1
  obtain ⟨v3, vs3, d3, ds3, p3, q3, rfl, rfl, rfl, h3, r3⟩ := trodAll_cons r2
  obtain ⟨v4, vs4, d4, ds4, p4, q4, rfl, rfl, rfl, h4, r4⟩ := trodAll_cons r3
  obtain ⟨rfl, rfl, rfl⟩ := trodAll_nil r4
  obtain rfl : args = #[v0, v1, v2, v3, v4] := by cases args; simp_all
  obtain ⟨rfl, rfl⟩ := trodVars_none hV
  obtain ⟨B0, rfl, rfl, rfl, o0⟩ := open_body (hval 0 26 v0 rfl rfl) h0
  obtain ⟨B1, rfl, rfl, rfl, o1⟩ := open_body (hval 1 26 v1 rfl rfl) h1
  obtain ⟨H2, rfl, rfl, rfl, o2⟩ := open_hit (hval 2 28 v2 rfl rfl) h2
  obtain ⟨a3, rfl, rfl, rfl, w3⟩ := open_int Try.underlying22 (hval 3 22 v3 rfl rfl) h3
  have f3 := inF_wf w3
  obtain ⟨x4, y4, rfl, rfl, rfl, f4, g4⟩ := open_vec (hval 4 24 v4 rfl rfl) h4
  clear hA0 hval0
  simp only [List.append_nil] at hW'
  refine (walk B0 o0 B1 o1 H2 o2 a3 f3 x4 y4 f4 g4 W     ).mono fun e W' ⟨he, hg⟩ => ?_
  subst he
  exact ⟨_, rfl, post_of_same (pa := []) (pv := []) hW' (fun _ _ _ => (trodAll_cons_mk (shut_bool Try.underlying4 _) trodAll_mk0)) (fun sp _ => (trodAll_cons_mk (shut_body o0) (trodAll_cons_mk (shut_body o1) (trodAll_cons_mk (shut_hit o2) (trodAll_cons_mk (shut_int Try.underlying22 w3) (trodAll_cons_mk (shut_vec f4 g4) trodAll_mk0)))))) (fun _ _ => rfl) rfl
    (hg.frame _) hg.2.1 (ok_one (by kernel_rfl) rfl (okWide_bool_mk Try.underlying4 _))⟩

theorem over : Rows.pushKeepsRow.holds Try.pinned (OpenSpec.ofChange Rows.pushKeepsSpec) :=
  OpenClaim.holds_of_wide 4 Try.f4 rfl rfl rfl rfl rfl rfl rfl ⟨rfl, rfl, rfl, rfl, rfl⟩ rfl rfl rfl rfl rfl (by kernel_rfl) Try.func4 (by kernel_rfl)
    (of_decide_eq_true (by kernel_rfl)) (by unfold Func.isWrapper; first | (rw [if_pos (by decide +kernel)]; kernel_rfl) | (rw [if_neg (by decide +kernel)]; exact ⟨rfl, rfl⟩))
    (fun os started H enc _ => lifted os started H enc)

theorem proved : Rows.PushKeepsSaid :=
  over
end Go.Proofs.Ytcancbgaejekiaa.pushKeeps

namespace Go.Proofs.Ytcancbgaejekiaa
theorem pushKeeps_holds : Rows.PushKeepsSaid := pushKeeps.proved
end Go.Proofs.Ytcancbgaejekiaa

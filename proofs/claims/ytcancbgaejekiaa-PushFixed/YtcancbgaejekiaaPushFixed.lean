/-
  Proved: maquettelaw11.PushFixed returns true for every two bodies, every contact and every length (a body without mass is never moved, nor pushed), and leaves what it was given as it was; no condition.
-/
import Derived.Test.YtcancbgaejekiaaRows
import Derived.Test.YtcancbgaejekiaaJAlive
import Derived.Test.YtcancbgaejekiaaBData
import Derived.Test.YtcancbgaejekiaaBRef
import Derived.Test.YtcancbgaejekiaaJData
import Derived.WalkKit
import Derived.Deep.QuietTactic
import Derived.BigQuiet
import Derived.WalkSpells
import Derived.Deep.CutRange
import Derived.Deep.CutBlock
import Derived.WalkLawsBesides
import Derived.ProofKit
import Derived.OpenShut
namespace Go.Proofs.Ytcancbgaejekiaa.pushFixed
open Go.ChangeShapes Go.WideShapes Go.ChangeAt Go.RowKit
set_option linter.unusedVariables false

theorem own : ownKnob Try.prog.godebug = none := by kernel_rfl

set_option maxHeartbeats 8000000 in
theorem walk (B0 : Bd) (o0 : B0.ok) (B1 : Bd) (o1 : B1.ok) (H2 : Ht) (o2 : H2.ok) (a3 : Int) (f3 : inF a3) (w : World)    :
    Calls Try.prog 6 #[B0.val, B1.val, H2.val, .int .i64 a3] w fun e w' => e = .returned (.bool true) ∧ Grown w w' := by
  have hmf := mk_func
  have js : ∀ V, V = (((w.alloc (.cells #[.int .i64 B0.s, .int .i64 B0.a, .int .i64 B0.b, .int .i64 B0.m, .int .i64 B0.p, .int .i64 B0.q, .int .i64 B0.u, .int .i64 B0.v] 26)).alloc (.cells #[.int .i64 B1.s, .int .i64 B1.a, .int .i64 B1.b, .int .i64 B1.m, .int .i64 B1.p, .int .i64 B1.q, .int .i64 B1.u, .int .i64 B1.v] 26)).alloc (.cells #[.int .i64 H2.x, .int .i64 H2.y, .int .i64 H2.d] 28)).alloc (.cells #[.int .i64 a3] 22) → Grew w V ∧ BAt V w.heap.size B0 ∧ BAt V (w.heap.size + 1) B1 ∧ HAt V (w.heap.size + 1 + 1) H2 ∧ V.cell? ⟨w.heap.size + 1 + 1 + 1, 0, none⟩ = some (.int .i64 a3) := fun V hV => by
    refine ⟨by rw [hV]; exact ((((Grew.refl w).alloc _ _).alloc _ _).alloc _ _).alloc _ _, ?_, ?_, ?_, ?_⟩ <;> (rw [hV]; first | (constructor <;> simp [go_sem]; done) | simp [go_sem])
  have JS : Hid _ := js
  clear js
  have HR0 : Hid (∀ W, _) := fun W => ref_right B0 W
  have HR1 : Hid (∀ W, _) := fun W => ref_right B1 W
  by_cases r0 : rightB B0 = true
  rotate_left
  · have r0' : rightB B0 = false := by simpa using r0
    rw [r0'] at HR0
    clear r0
    clear o0 o1 
    unfold Bd.val at HR0 HR1 ⊢
    unfold Ht.val
    go_enter Try.func6, Try.ntmps6
    go_wp2_with (first
      | (go_at_call 18; go_fit (HR0.out _); rintro e V1 ⟨rfl, U1⟩; have G1 : Hid _ := (JS.out _ rfl).1.trans U1)
      | (go_at_call 9; go_fit (alive_any _); rintro e V3 ⟨rfl, U3⟩))
    go_ret
    exact ⟨rfl, (G1.out.trans U3).grown⟩
  by_cases r1 : rightB B1 = true
  rotate_left
  · have r1' : rightB B1 = false := by simpa using r1
    rw [r0] at HR0
    rw [r1'] at HR1
    clear r0 r1
    clear o0 o1 
    unfold Bd.val at HR0 HR1 ⊢
    unfold Ht.val
    go_enter Try.func6, Try.ntmps6
    go_wp2_with (first
      | (go_at_call 18; go_fit (HR0.out _); rintro e V1 ⟨rfl, U1⟩; obtain ⟨G0, A0, B0', t0, k0⟩ := JS.out _ rfl; have A1 := A0.grew U1; have B1' := B0'.grew U1; have ⟨ca0, ca1, ca2, ca3, ca4, ca5, ca6, ca7⟩ := A1; have ⟨cb0, cb1, cb2, cb3, cb4, cb5, cb6, cb7⟩ := B1'; have t1 := (fun f g => HAt.grew f g) t0 U1; have k1 := (fun f g => Grew.cell g f) k0 U1; have G1 : Hid _ := G0.trans U1; have AH : Hid _ := A1; have BH : Hid _ := B1'; have tH : Hid _ := t1; have kH : Hid _ := k1; clear A0 A1 B0' B1' G0 t0 k0)
      | (go_at_call 18; go_fit (HR1.out _); rintro e V2 ⟨rfl, U2⟩; replace ca0 := U2.cell ca0; replace ca1 := U2.cell ca1; replace ca2 := U2.cell ca2; replace ca3 := U2.cell ca3; replace ca4 := U2.cell ca4; replace ca5 := U2.cell ca5; replace ca6 := U2.cell ca6; replace ca7 := U2.cell ca7; replace cb0 := U2.cell cb0; replace cb1 := U2.cell cb1; replace cb2 := U2.cell cb2; replace cb3 := U2.cell cb3; replace cb4 := U2.cell cb4; replace cb5 := U2.cell cb5; replace cb6 := U2.cell cb6; replace cb7 := U2.cell cb7; have G2 : Hid _ := G1.out.trans U2)
      | (go_at_call 9; go_fit (alive_any _); rintro e V3 ⟨rfl, U3⟩))
    go_ret
    exact ⟨rfl, (G2.out.trans U3).grown⟩
  obtain ⟨p1, p2, p3, p4, p5⟩ := (rightB_iff B0).1 r0
  obtain ⟨q1, q2, q3, q4, q5⟩ := (rightB_iff B1).1 r1
  rw [r0] at HR0
  rw [r1] at HR1
  clear r0 r1
  by_cases hc : ¬ B0.m = 0
  · have z0 : (B0.m != 0) = true := by simpa using hc
    clear hc
    clear p1 p2 p3 p4 p5 q1 q2 q3 q4 q5
    clear o0 o1 o2 f3
    unfold Bd.val at HR0 HR1 ⊢
    unfold Ht.val
    go_enter Try.func6, Try.ntmps6
    go_wp2_with (first
      | (go_at_call 18; go_fit (HR0.out _); rintro e V1 ⟨rfl, U1⟩; obtain ⟨G0, A0, B0', t0, k0⟩ := JS.out _ rfl; have A1 := A0.grew U1; have B1' := B0'.grew U1; have ⟨ca0, ca1, ca2, ca3, ca4, ca5, ca6, ca7⟩ := A1; have ⟨cb0, cb1, cb2, cb3, cb4, cb5, cb6, cb7⟩ := B1'; have t1 := (fun f g => HAt.grew f g) t0 U1; have k1 := (fun f g => Grew.cell g f) k0 U1; have G1 : Hid _ := G0.trans U1; have AH : Hid _ := A1; have BH : Hid _ := B1'; have tH : Hid _ := t1; have kH : Hid _ := k1; clear A0 A1 B0' B1' G0 t0 k0)
      | (go_at_call 18; go_fit (HR1.out _); rintro e V2 ⟨rfl, U2⟩; replace ca0 := U2.cell ca0; replace ca1 := U2.cell ca1; replace ca2 := U2.cell ca2; replace ca3 := U2.cell ca3; replace ca4 := U2.cell ca4; replace ca5 := U2.cell ca5; replace ca6 := U2.cell ca6; replace ca7 := U2.cell ca7; replace cb0 := U2.cell cb0; replace cb1 := U2.cell cb1; replace cb2 := U2.cell cb2; replace cb3 := U2.cell cb3; replace cb4 := U2.cell cb4; replace cb5 := U2.cell cb5; replace cb6 := U2.cell cb6; replace cb7 := U2.cell cb7; have G2 : Hid _ := G1.out.trans U2)
      | (go_at_call 9; go_fit (alive_any _); rintro e V3 ⟨rfl, U3⟩))
    go_ret
    exact ⟨rfl, (G2.out.trans U3).grown⟩
  have z0 : (B0.m != 0) = false := by simpa using hc
  have m0 : Hid (B0.m = 0) := by show _ = _; omega
  clear hc
  clear p1 p2 p3 p4 p5 q1 q2 q3 q4 q5
  unfold Ht.val
  unfold Bd.val at HR0 HR1 ⊢
  go_enter Try.func6, Try.ntmps6
  go_wp2_with (first
    | (go_at_call 18; go_fit (HR0.out _); rintro e V1 ⟨rfl, U1⟩; obtain ⟨G0, A0, B0', t0, k0⟩ := JS.out _ rfl; have A1 := A0.grew U1; have B1' := B0'.grew U1; have ⟨ca0, ca1, ca2, ca3, ca4, ca5, ca6, ca7⟩ := A1; have ⟨cb0, cb1, cb2, cb3, cb4, cb5, cb6, cb7⟩ := B1'; have t1 := (fun f g => HAt.grew f g) t0 U1; have k1 := (fun f g => Grew.cell g f) k0 U1; have G1 : Hid _ := G0.trans U1; have AH : Hid _ := A1; have BH : Hid _ := B1'; have tH : Hid _ := t1; have kH : Hid _ := k1; clear A0 A1 B0' B1' G0 t0 k0)
    | (go_at_call 18; go_fit (HR1.out _); rintro e V2 ⟨rfl, U2⟩; replace ca0 := U2.cell ca0; replace ca1 := U2.cell ca1; replace ca2 := U2.cell ca2; replace ca3 := U2.cell ca3; replace ca4 := U2.cell ca4; replace ca5 := U2.cell ca5; replace ca6 := U2.cell ca6; replace ca7 := U2.cell ca7; replace cb0 := U2.cell cb0; replace cb1 := U2.cell cb1; replace cb2 := U2.cell cb2; replace cb3 := U2.cell cb3; replace cb4 := U2.cell cb4; replace cb5 := U2.cell cb5; replace cb6 := U2.cell cb6; replace cb7 := U2.cell cb7; have G2 : Hid _ := G1.out.trans U2)
    | (go_at_call 9; go_fit (alive_any _); rintro e V3 ⟨rfl, U3⟩; have G3 : Hid _ := (G2.out.trans U3); have A3 : Hid _ := AH.out.grew (U2.trans U3); have B3 : Hid _ := BH.out.grew (U2.trans U3); have t3 := (fun f g => HAt.grew f g) tH.out (U2.trans U3); have k3 := (fun f g => Grew.cell g f) kH.out (U2.trans U3)))
  clear ca0 ca1 ca2 ca3 ca4 ca5 ca6 ca7 cb0 cb1 cb2 cb3 cb4 cb5 cb6 cb7 HR0 HR1 JS U1 U2 U3 G1 G2 AH BH tH kH t1 k1
  obtain ⟨W, hW⟩ : ∃ W, W = (((V3.alloc (.cells #[.int .i64 0, .int .i64 0, .int .i64 0, .int .i64 0, .int .i64 0, .int .i64 0, .int .i64 0, .int .i64 0] 26)).alloc (.cells #[.int .i64 0, .int .i64 0, .int .i64 0, .int .i64 0, .int .i64 0, .int .i64 0, .int .i64 0, .int .i64 0] 26)).alloc (.cells #[.int .i64 0, .int .i64 0, .int .i64 0, .int .i64 0, .int .i64 0, .int .i64 0, .int .i64 0, .int .i64 0] 26)).alloc (.cells #[.int .i64 0, .int .i64 0, .int .i64 0, .int .i64 0, .int .i64 0, .int .i64 0, .int .i64 0, .int .i64 0] 26) := ⟨_, rfl⟩
  rw [← hW]
  have gW : Grew V3 W := by rw [hW]; exact ((((Grew.refl V3).alloc _ _).alloc _ _).alloc _ _).alloc _ _
  have sz : W.heap.size = V3.heap.size + 1 + 1 + 1 + 1 := by rw [hW]; simp [go_sem]
  have hC : BAt W (V3.heap.size) noB := by rw [hW]; constructor <;> simp [go_sem, noB]
  have hD : BAt W (V3.heap.size + 1) noB := by rw [hW]; constructor <;> simp [go_sem, noB]
  have hE : BAt W (V3.heap.size + 1 + 1) noB := by rw [hW]; constructor <;> simp [go_sem, noB]
  have hF : BAt W (V3.heap.size + 1 + 1 + 1) noB := by rw [hW]; constructor <;> simp [go_sem, noB]
  have lA : w.heap.size < V3.heap.size := A3.out.size
  have lB : w.heap.size + 1 < V3.heap.size := B3.out.size
  have lt : w.heap.size + 1 + 1 < V3.heap.size := t3.size
  have lk : w.heap.size + 1 + 1 + 1 < V3.heap.size := cell_block k3
  have hA := A3.out.grew gW
  have hB := B3.out.grew gW
  have hT := t3.grew gW
  have hk := gW.cell k3
  have GW := G3.out.trans gW
  have fr : ∀ b, V3.heap.size ≤ b → Free W b := fun b hb => gW.freeB hb
  clear hW A3 B3 t3 k3 G3 gW
  generalize hX : V3.heap.size = X at *
  refine (try_set (S := fun n => n = X ∨ n = X + 1) (P := LeftP X (X + 1) (contactR B0 B1 H2)) _ _ _ (fun _ => by simp [go_sem]) (fun n hn => by omega) (LeftP.keep (by omega) (by omega)) (fun W0 G => ?_)).mono ?_
  · exact ask_fixed1 _ _ _ _ (by omega) B0 B1 o0 o1 H2 o2 W0 (hA.grew G) (hB.grew G) noB noB (hC.grew G) (hD.grew G) ((fr _ (by omega)).grew G) ((fr _ (by omega)).grew G) _ (hT.grew G)
  rintro e V4 ⟨hW, x', rfl, hx', h2⟩
  have ap := fun g => contact_fixed (A := B0) (B := B1) (h := H2) o0 m0.out g
  generalize contactR B0 B1 H2 = T at *
  subst hx'
  have xA := hA.wrote hW (by omega)
  have xB := hB.wrote hW (by omega)
  have xE := hE.wrote hW (by omega)
  have xF := hF.wrote hW (by omega)
  have xk := hW.cell hk (show ¬ (w.heap.size + 1 + 1 + 1 = X ∨ w.heap.size + 1 + 1 + 1 = X + 1) by omega)
  have xG : Grew w V4 := hW.to GW (fun n hn => by omega)
  have xs : X + 1 + 1 + 1 + 1 ≤ V4.heap.size := by have := hW.size; omega
  have xf : ∀ b, X + 1 + 1 ≤ b → b < X + 1 + 1 + 1 + 1 → Free V4 b := fun b hb hb' => (fr b (by omega)).wrote hW (by omega) (by omega)
  clear hW hA hB hC hD hE hF hT hk GW fr sz
  go_wp2_with (fail)
  refine (try_set (S := fun n => n = X + 1 + 1 ∨ n = X + 1 + 1 + 1) (P := LeftP (X + 1 + 1) (X + 1 + 1 + 1) (jointR B0 B1 a3)) _ _ _ (fun _ => by simp [go_sem]) (fun n hn => by omega) (LeftP.keep (by omega) (by omega)) (fun W0 G => ?_)).mono ?_
  · exact ask_fixed2 _ _ _ _ (by omega) B0 B1 o0 o1 a3 f3 W0 (xA.grew G) (xB.grew G) noB noB (xE.grew G) (xF.grew G) ((xf _ (by omega) (by omega)).grew G) ((xf _ (by omega) (by omega)).grew G) _ (G.cell xk)
  rintro e V5 ⟨hW, x', rfl, hx', h3⟩
  have aq := fun g => joint_fixed (A := B0) (B := B1) (n := a3) m0.out g
  generalize jointR B0 B1 a3 = Z at *
  subst hx'
  have yA := xA.wrote hW (by omega)
  have yB := xB.wrote hW (by omega)
  have yT : T.2 = 0 → BAt V5 X T.1.1 ∧ BAt V5 (X + 1) T.1.2 := fun g => ⟨(h2 g).1.wrote hW (by omega), (h2 g).2.wrote hW (by omega)⟩
  have G1 : Hid (Grew w V5) := hW.to xG (fun n hn => by omega)
  clear hW h2 xA xB xE xF xk xG xf m0 o0 o1 o2 f3
  have ⟨aa0, aa1, aa2, aa3, aa4, aa5, aa6, aa7⟩ := yA
  have ⟨b0, b1, b2, b3, b4, b5, b6, b7⟩ := yB
  have hq1 := same_body B0
  have hq2 := same_body B1
  simp only [Bd.val] at hq1 hq2
  have AP : Hid _ := ap
  have AQ : Hid _ := aq
  have YT : Hid _ := yT
  have Y3 : Hid _ := h3
  clear yA yB ap aq yT h3
  by_cases hm : B1.m = 0
  · have hm1 : (B1.m != 0) = false := by simpa using hm
    have HM : Hid (B1.m = 0) := hm
    clear hm
    by_cases hz : T.2 = 0
    · have hz1 : (T.2 != 0) = false := by simpa using hz
      have ⟨c0, c1, c2, c3, c4, c5, c6, c7⟩ := (YT.out hz).1
      have ⟨d0, d1, d2, d3, d4, d5, d6, d7⟩ := (YT.out hz).2
      rw [(AP.out hz).1] at c0 c1 c2 c3 c4 c5 c6 c7
      rw [(AP.out hz).2 HM.out] at d0 d1 d2 d3 d4 d5 d6 d7
      clear hz AP YT
      by_cases hy : Z.2 = 0
      · have hy1 : (Z.2 != 0) = false := by simpa using hy
        have ⟨e0, e1, e2, e3, e4, e5, e6, e7⟩ := (Y3.out hy).1
        have ⟨g0, g1, g2, g3, g4, g5, g6, g7⟩ := (Y3.out hy).2
        rw [(AQ.out hy).1] at e0 e1 e2 e3 e4 e5 e6 e7
        rw [(AQ.out hy).2 HM.out] at g0 g1 g2 g3 g4 g5 g6 g7
        clear hy AQ Y3
        go_wp2
        go_ret
        exact ⟨rfl, G1.out.grown⟩
      · have hy1 : (Z.2 != 0) = true := by simpa using hy
        clear hy AQ Y3
        go_wp2
        go_ret
        exact ⟨rfl, G1.out.grown⟩
    · have hz1 : (T.2 != 0) = true := by simpa using hz
      clear hz AP YT
      by_cases hy : Z.2 = 0
      · have hy1 : (Z.2 != 0) = false := by simpa using hy
        have ⟨e0, e1, e2, e3, e4, e5, e6, e7⟩ := (Y3.out hy).1
        have ⟨g0, g1, g2, g3, g4, g5, g6, g7⟩ := (Y3.out hy).2
        rw [(AQ.out hy).1] at e0 e1 e2 e3 e4 e5 e6 e7
        rw [(AQ.out hy).2 HM.out] at g0 g1 g2 g3 g4 g5 g6 g7
        clear hy AQ Y3
        go_wp2
        go_ret
        exact ⟨rfl, G1.out.grown⟩
      · have hy1 : (Z.2 != 0) = true := by simpa using hy
        clear hy AQ Y3
        go_wp2
        go_ret
        exact ⟨rfl, G1.out.grown⟩
  · have hm1 : (B1.m != 0) = true := by simpa using hm
    clear hm
    by_cases hz : T.2 = 0
    · have hz1 : (T.2 != 0) = false := by simpa using hz
      have ⟨c0, c1, c2, c3, c4, c5, c6, c7⟩ := (YT.out hz).1
      rw [(AP.out hz).1] at c0 c1 c2 c3 c4 c5 c6 c7
      clear hz AP YT
      by_cases hy : Z.2 = 0
      · have hy1 : (Z.2 != 0) = false := by simpa using hy
        have ⟨e0, e1, e2, e3, e4, e5, e6, e7⟩ := (Y3.out hy).1
        rw [(AQ.out hy).1] at e0 e1 e2 e3 e4 e5 e6 e7
        clear hy AQ Y3
        go_wp2
        go_ret
        exact ⟨rfl, G1.out.grown⟩
      · have hy1 : (Z.2 != 0) = true := by simpa using hy
        clear hy AQ Y3
        go_wp2
        go_ret
        exact ⟨rfl, G1.out.grown⟩
    · have hz1 : (T.2 != 0) = true := by simpa using hz
      clear hz AP YT
      by_cases hy : Z.2 = 0
      · have hy1 : (Z.2 != 0) = false := by simpa using hy
        have ⟨e0, e1, e2, e3, e4, e5, e6, e7⟩ := (Y3.out hy).1
        rw [(AQ.out hy).1] at e0 e1 e2 e3 e4 e5 e6 e7
        clear hy AQ Y3
        go_wp2
        go_ret
        exact ⟨rfl, G1.out.grown⟩
      · have hy1 : (Z.2 != 0) = true := by simpa using hy
        clear hy AQ Y3
        go_wp2
        go_ret
        exact ⟨rfl, G1.out.grown⟩

set_option maxRecDepth 100000 in
theorem lifted (os : Os) (started : os.Started) (H : Type) (enc : TypeId × Value → H) :
    ReturnsInHanded {} Try.checked os 6 .any (Rows.pushFixedSpec.pre6 enc Try.prog Try.f6 Rows.pushFixedRow.domain false) (Rows.pushFixedSpec.post enc Try.prog Try.f6 false true false false) := by
  refine returnsInHanded_of_change (C := Try.checked) own started (by kernel_rfl) Try.func6
    (ChangeSpec.witness6 (enc := enc) (C := Try.checked) false ⟨#[], #[.agg #[.int .i64 0, .int .i64 0, .int .i64 0, .int .i64 0, .int .i64 0, .int .i64 0, .int .i64 0, .int .i64 0], .agg #[.int .i64 0, .int .i64 0, .int .i64 0, .int .i64 0, .int .i64 0, .int .i64 0, .int .i64 0, .int .i64 0], .agg #[.int .i64 0, .int .i64 0, .int .i64 0], .int .i64 0], []⟩ 8 (by kernel_rfl) (by kernel_rfl) (by kernel_rfl) (by kernel_rfl)) ?_
  intro W base args ds gs before hval0 hW hcnd _
  have hval : ∀ (j : Nat) t v, Try.f6.params[j]? = some t → args[j]? = some v → Value.okWide Try.prog W .any base t v := hval0
  have hW' := hW
  obtain ⟨p, q, hA0, hV, rfl, hfz, hnd⟩ := hW
  have hA : DataW.TrodAll enc Try.prog W 0 (fun _ => true) true Try.f6.params.toList args.toList ds p := hA0
  rw [Try.params6] at hA hval
  obtain ⟨v0, vs0, d0, ds0, p0, q0, hargs, rfl, rfl, h0, r0⟩ := trodAll_cons hA
  obtain ⟨v1, vs1, d1, ds1, p1, q1, rfl, rfl, rfl, h1, r1⟩ := trodAll_cons r0
  obtain ⟨v2, vs2, d2, ds2, p2, q2, rfl, rfl, rfl, h2, r2⟩ := trodAll_cons r1
  obtain ⟨v3, vs3, d3, ds3, p3, q3, rfl, rfl, rfl, h3, r3⟩ := trodAll_cons r2
  obtain ⟨rfl, rfl, rfl⟩ := trodAll_nil r3
  obtain rfl : args = #[v0, v1, v2, v3] := by cases args; simp_all
  obtain ⟨rfl, rfl⟩ := trodVars_none hV
  obtain ⟨B0, rfl, rfl, rfl, o0⟩ := open_body (hval 0 26 v0 rfl rfl) h0
  obtain ⟨B1, rfl, rfl, rfl, o1⟩ := open_body (hval 1 26 v1 rfl rfl) h1
  obtain ⟨H2, rfl, rfl, rfl, o2⟩ := open_hit (hval 2 28 v2 rfl rfl) h2
  obtain ⟨a3, rfl, rfl, rfl, w3⟩ := open_int Try.underlying22 (hval 3 22 v3 rfl rfl) h3
  have f3 := inF_wf w3
  clear hA0 hval0
  simp only [List.append_nil] at hW'
  refine (walk B0 o0 B1 o1 H2 o2 a3 f3 W    ).mono fun e W' ⟨he, hg⟩ => ?_
  subst he
  exact ⟨_, rfl, post_of_same (pa := []) (pv := []) hW' (fun _ _ _ => (trodAll_cons_mk (shut_bool Try.underlying4 _) trodAll_mk0)) (fun sp _ => (trodAll_cons_mk (shut_body o0) (trodAll_cons_mk (shut_body o1) (trodAll_cons_mk (shut_hit o2) (trodAll_cons_mk (shut_int Try.underlying22 w3) trodAll_mk0))))) (fun _ _ => rfl) rfl
    (hg.frame _) hg.2.1 (ok_one (by kernel_rfl) rfl (okWide_bool_mk Try.underlying4 _))⟩

theorem over : Rows.pushFixedRow.holds Try.pinned (OpenSpec.ofChange Rows.pushFixedSpec) :=
  OpenClaim.holds_of_wide 6 Try.f6 rfl rfl rfl rfl rfl rfl rfl ⟨rfl, rfl, rfl, rfl, rfl⟩ rfl rfl rfl rfl rfl (by kernel_rfl) Try.func6 (by kernel_rfl)
    (of_decide_eq_true (by kernel_rfl)) (by unfold Func.isWrapper; first | (rw [if_pos (by decide +kernel)]; kernel_rfl) | (rw [if_neg (by decide +kernel)]; exact ⟨rfl, rfl⟩))
    (fun os started H enc _ => lifted os started H enc)

theorem proved : Rows.PushFixedSaid :=
  over
end Go.Proofs.Ytcancbgaejekiaa.pushFixed

namespace Go.Proofs.Ytcancbgaejekiaa
theorem pushFixed_holds : Rows.PushFixedSaid := pushFixed.proved
end Go.Proofs.Ytcancbgaejekiaa

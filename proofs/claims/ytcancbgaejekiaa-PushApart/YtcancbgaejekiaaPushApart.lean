/-
  Proved: maquettelaw11.PushApart returns true for every two bodies and every n (two that touch are not pushed nearer: behind a contact they go apart along it, or stay), and leaves what it was given as it was; no condition.
-/
import Derived.Test.YtcancbgaejekiaaRows
import Derived.Test.YtcancbgaejekiaaJAlive
import Derived.Test.YtcancbgaejekiaaBData
import Derived.Test.YtcancbgaejekiaaBRef
import Derived.WalkKit
import Derived.Deep.QuietTactic
import Derived.BigQuiet
import Derived.WalkSpells
import Derived.Deep.CutRange
import Derived.Deep.CutBlock
import Derived.WalkLawsBesides
import Derived.ProofKit
import Derived.OpenShut
namespace Go.Proofs.Ytcancbgaejekiaa.pushApart
open Go.ChangeShapes Go.WideShapes Go.ChangeAt Go.RowKit
set_option linter.unusedVariables false

theorem own : ownKnob Try.prog.godebug = none := by kernel_rfl

set_option maxHeartbeats 8000000 in
theorem walk (B0 : Bd) (o0 : B0.ok) (B1 : Bd) (o1 : B1.ok) (a2 : Int) (f2 : inF a2) (w : World)   :
    Calls Try.prog 5 #[B0.val, B1.val, .int .i64 a2] w fun e w' => e = .returned (.bool true) ∧ Grown w w' := by
  have hmf := mk_func
  have js : ∀ V, V = (w.alloc (.cells #[.int .i64 B0.s, .int .i64 B0.a, .int .i64 B0.b, .int .i64 B0.m, .int .i64 B0.p, .int .i64 B0.q, .int .i64 B0.u, .int .i64 B0.v] 26)).alloc (.cells #[.int .i64 B1.s, .int .i64 B1.a, .int .i64 B1.b, .int .i64 B1.m, .int .i64 B1.p, .int .i64 B1.q, .int .i64 B1.u, .int .i64 B1.v] 26) → Grew w V ∧ BAt V w.heap.size B0 ∧ BAt V (w.heap.size + 1) B1 := fun V hV => by
    refine ⟨by rw [hV]; exact ((Grew.refl w).alloc _ _).alloc _ _, ?_, ?_⟩ <;> (rw [hV]; first | (constructor <;> simp [go_sem]; done) | simp [go_sem])
  have JS : Hid _ := js
  clear js
  have HR0 : Hid (∀ W, _) := fun W => ref_right B0 W
  have HR1 : Hid (∀ W, _) := fun W => ref_right B1 W
  by_cases r0 : rightB B0 = true
  rotate_left
  · have r0' : rightB B0 = false := by simpa using r0
    rw [r0'] at HR0
    clear r0
    clear o0 o1 
    unfold Bd.val at HR0 HR1 ⊢
    go_enter Try.func5, Try.ntmps5
    go_wp2_with (first
      | (go_at_call 18; go_fit (HR0.out _); rintro e V1 ⟨rfl, U1⟩; have G1 : Hid _ := (JS.out _ rfl).1.trans U1)
      | (go_at_call 9; go_fit (alive_any _); rintro e V3 ⟨rfl, U3⟩))
    go_ret
    exact ⟨rfl, (G1.out.trans U3).grown⟩
  by_cases r1 : rightB B1 = true
  rotate_left
  · have r1' : rightB B1 = false := by simpa using r1
    rw [r0] at HR0
    rw [r1'] at HR1
    clear r0 r1
    clear o0 o1 
    unfold Bd.val at HR0 HR1 ⊢
    go_enter Try.func5, Try.ntmps5
    go_wp2_with (first
      | (go_at_call 18; go_fit (HR0.out _); rintro e V1 ⟨rfl, U1⟩; obtain ⟨G0, A0, B0'⟩ := JS.out _ rfl; have A1 := A0.grew U1; have B1' := B0'.grew U1; have ⟨ca0, ca1, ca2, ca3, ca4, ca5, ca6, ca7⟩ := A1; have ⟨cb0, cb1, cb2, cb3, cb4, cb5, cb6, cb7⟩ := B1'; have G1 : Hid _ := G0.trans U1; have AH : Hid _ := A1; have BH : Hid _ := B1'; clear A0 A1 B0' B1' G0 )
      | (go_at_call 18; go_fit (HR1.out _); rintro e V2 ⟨rfl, U2⟩; replace ca0 := U2.cell ca0; replace ca1 := U2.cell ca1; replace ca2 := U2.cell ca2; replace ca3 := U2.cell ca3; replace ca4 := U2.cell ca4; replace ca5 := U2.cell ca5; replace ca6 := U2.cell ca6; replace ca7 := U2.cell ca7; replace cb0 := U2.cell cb0; replace cb1 := U2.cell cb1; replace cb2 := U2.cell cb2; replace cb3 := U2.cell cb3; replace cb4 := U2.cell cb4; replace cb5 := U2.cell cb5; replace cb6 := U2.cell cb6; replace cb7 := U2.cell cb7; have G2 : Hid _ := G1.out.trans U2)
      | (go_at_call 9; go_fit (alive_any _); rintro e V3 ⟨rfl, U3⟩))
    go_ret
    exact ⟨rfl, (G2.out.trans U3).grown⟩
  obtain ⟨p1, p2, p3, p4, p5⟩ := (rightB_iff B0).1 r0
  obtain ⟨q1, q2, q3, q4, q5⟩ := (rightB_iff B1).1 r1
  rw [r0] at HR0
  rw [r1] at HR1
  clear r0 r1
  by_cases hc : B0.m = 0
  · have z0 : (B0.m == 0) = true := by simpa using hc
    clear hc
    clear p1 p2 p3 p4 p5 q1 q2 q3 q4 q5
    clear o0 o1 f2
    unfold Bd.val at HR0 HR1 ⊢
    go_enter Try.func5, Try.ntmps5
    go_wp2_with (first
      | (go_at_call 18; go_fit (HR0.out _); rintro e V1 ⟨rfl, U1⟩; obtain ⟨G0, A0, B0'⟩ := JS.out _ rfl; have A1 := A0.grew U1; have B1' := B0'.grew U1; have ⟨ca0, ca1, ca2, ca3, ca4, ca5, ca6, ca7⟩ := A1; have ⟨cb0, cb1, cb2, cb3, cb4, cb5, cb6, cb7⟩ := B1'; have G1 : Hid _ := G0.trans U1; have AH : Hid _ := A1; have BH : Hid _ := B1'; clear A0 A1 B0' B1' G0 )
      | (go_at_call 18; go_fit (HR1.out _); rintro e V2 ⟨rfl, U2⟩; replace ca0 := U2.cell ca0; replace ca1 := U2.cell ca1; replace ca2 := U2.cell ca2; replace ca3 := U2.cell ca3; replace ca4 := U2.cell ca4; replace ca5 := U2.cell ca5; replace ca6 := U2.cell ca6; replace ca7 := U2.cell ca7; replace cb0 := U2.cell cb0; replace cb1 := U2.cell cb1; replace cb2 := U2.cell cb2; replace cb3 := U2.cell cb3; replace cb4 := U2.cell cb4; replace cb5 := U2.cell cb5; replace cb6 := U2.cell cb6; replace cb7 := U2.cell cb7; have G2 : Hid _ := G1.out.trans U2)
      | (go_at_call 9; go_fit (alive_any _); rintro e V3 ⟨rfl, U3⟩))
    go_ret
    exact ⟨rfl, (G2.out.trans U3).grown⟩
  have z0 : (B0.m == 0) = false := by simpa using hc
  have m0 : Hid (0 < B0.m) := by show _ < _; omega
  clear hc
  by_cases hc : B1.m = 0
  · have z1 : (B1.m == 0) = true := by simpa using hc
    clear hc
    clear p1 p2 p3 p4 p5 q1 q2 q3 q4 q5
    clear o0 o1 f2
    unfold Bd.val at HR0 HR1 ⊢
    go_enter Try.func5, Try.ntmps5
    go_wp2_with (first
      | (go_at_call 18; go_fit (HR0.out _); rintro e V1 ⟨rfl, U1⟩; obtain ⟨G0, A0, B0'⟩ := JS.out _ rfl; have A1 := A0.grew U1; have B1' := B0'.grew U1; have ⟨ca0, ca1, ca2, ca3, ca4, ca5, ca6, ca7⟩ := A1; have ⟨cb0, cb1, cb2, cb3, cb4, cb5, cb6, cb7⟩ := B1'; have G1 : Hid _ := G0.trans U1; have AH : Hid _ := A1; have BH : Hid _ := B1'; clear A0 A1 B0' B1' G0 )
      | (go_at_call 18; go_fit (HR1.out _); rintro e V2 ⟨rfl, U2⟩; replace ca0 := U2.cell ca0; replace ca1 := U2.cell ca1; replace ca2 := U2.cell ca2; replace ca3 := U2.cell ca3; replace ca4 := U2.cell ca4; replace ca5 := U2.cell ca5; replace ca6 := U2.cell ca6; replace ca7 := U2.cell ca7; replace cb0 := U2.cell cb0; replace cb1 := U2.cell cb1; replace cb2 := U2.cell cb2; replace cb3 := U2.cell cb3; replace cb4 := U2.cell cb4; replace cb5 := U2.cell cb5; replace cb6 := U2.cell cb6; replace cb7 := U2.cell cb7; have G2 : Hid _ := G1.out.trans U2)
      | (go_at_call 9; go_fit (alive_any _); rintro e V3 ⟨rfl, U3⟩))
    go_ret
    exact ⟨rfl, (G2.out.trans U3).grown⟩
  have z1 : (B1.m == 0) = false := by simpa using hc
  have m1 : Hid (0 < B1.m) := by show _ < _; omega
  clear hc
  by_cases hc : a2 < 0
  · have hc1 := hc
    clear p1 p2 p3 p4 p5 q1 q2 q3 q4 q5
    clear o0 o1 f2
    unfold Bd.val at HR0 HR1 ⊢
    go_enter Try.func5, Try.ntmps5
    go_wp2_with (first
      | (go_at_call 18; go_fit (HR0.out _); rintro e V1 ⟨rfl, U1⟩; obtain ⟨G0, A0, B0'⟩ := JS.out _ rfl; have A1 := A0.grew U1; have B1' := B0'.grew U1; have ⟨ca0, ca1, ca2, ca3, ca4, ca5, ca6, ca7⟩ := A1; have ⟨cb0, cb1, cb2, cb3, cb4, cb5, cb6, cb7⟩ := B1'; have G1 : Hid _ := G0.trans U1; have AH : Hid _ := A1; have BH : Hid _ := B1'; clear A0 A1 B0' B1' G0 )
      | (go_at_call 18; go_fit (HR1.out _); rintro e V2 ⟨rfl, U2⟩; replace ca0 := U2.cell ca0; replace ca1 := U2.cell ca1; replace ca2 := U2.cell ca2; replace ca3 := U2.cell ca3; replace ca4 := U2.cell ca4; replace ca5 := U2.cell ca5; replace ca6 := U2.cell ca6; replace ca7 := U2.cell ca7; replace cb0 := U2.cell cb0; replace cb1 := U2.cell cb1; replace cb2 := U2.cell cb2; replace cb3 := U2.cell cb3; replace cb4 := U2.cell cb4; replace cb5 := U2.cell cb5; replace cb6 := U2.cell cb6; replace cb7 := U2.cell cb7; have G2 : Hid _ := G1.out.trans U2)
      | (go_at_call 9; go_fit (alive_any _); rintro e V3 ⟨rfl, U3⟩))
    go_ret
    exact ⟨rfl, (G2.out.trans U3).grown⟩
  have n0 : 0 ≤ a2 := by omega
  clear hc
  by_cases hc : 1000 < a2
  · have hc1 := hc
    clear p1 p2 p3 p4 p5 q1 q2 q3 q4 q5
    clear o0 o1 f2
    unfold Bd.val at HR0 HR1 ⊢
    go_enter Try.func5, Try.ntmps5
    go_wp2_with (first
      | (go_at_call 18; go_fit (HR0.out _); rintro e V1 ⟨rfl, U1⟩; obtain ⟨G0, A0, B0'⟩ := JS.out _ rfl; have A1 := A0.grew U1; have B1' := B0'.grew U1; have ⟨ca0, ca1, ca2, ca3, ca4, ca5, ca6, ca7⟩ := A1; have ⟨cb0, cb1, cb2, cb3, cb4, cb5, cb6, cb7⟩ := B1'; have G1 : Hid _ := G0.trans U1; have AH : Hid _ := A1; have BH : Hid _ := B1'; clear A0 A1 B0' B1' G0 )
      | (go_at_call 18; go_fit (HR1.out _); rintro e V2 ⟨rfl, U2⟩; replace ca0 := U2.cell ca0; replace ca1 := U2.cell ca1; replace ca2 := U2.cell ca2; replace ca3 := U2.cell ca3; replace ca4 := U2.cell ca4; replace ca5 := U2.cell ca5; replace ca6 := U2.cell ca6; replace ca7 := U2.cell ca7; replace cb0 := U2.cell cb0; replace cb1 := U2.cell cb1; replace cb2 := U2.cell cb2; replace cb3 := U2.cell cb3; replace cb4 := U2.cell cb4; replace cb5 := U2.cell cb5; replace cb6 := U2.cell cb6; replace cb7 := U2.cell cb7; have G2 : Hid _ := G1.out.trans U2)
      | (go_at_call 9; go_fit (alive_any _); rintro e V3 ⟨rfl, U3⟩))
    go_ret
    exact ⟨rfl, (G2.out.trans U3).grown⟩
  have n1 : a2 ≤ 1000 := by omega
  clear hc
  clear p1 p2 p3 p4 p5 q1 q2 q3 q4 q5 f2
  unfold Bd.val at HR0 HR1 ⊢
  go_enter Try.func5, Try.ntmps5
  go_wp2_with (first
    | (go_at_call 18; go_fit (HR0.out _); rintro e V1 ⟨rfl, U1⟩; obtain ⟨G0, A0, B0'⟩ := JS.out _ rfl; have A1 := A0.grew U1; have B1' := B0'.grew U1; have ⟨ca0, ca1, ca2, ca3, ca4, ca5, ca6, ca7⟩ := A1; have ⟨cb0, cb1, cb2, cb3, cb4, cb5, cb6, cb7⟩ := B1'; have G1 : Hid _ := G0.trans U1; have AH : Hid _ := A1; have BH : Hid _ := B1'; clear A0 A1 B0' B1' G0 )
    | (go_at_call 18; go_fit (HR1.out _); rintro e V2 ⟨rfl, U2⟩; replace ca0 := U2.cell ca0; replace ca1 := U2.cell ca1; replace ca2 := U2.cell ca2; replace ca3 := U2.cell ca3; replace ca4 := U2.cell ca4; replace ca5 := U2.cell ca5; replace ca6 := U2.cell ca6; replace ca7 := U2.cell ca7; replace cb0 := U2.cell cb0; replace cb1 := U2.cell cb1; replace cb2 := U2.cell cb2; replace cb3 := U2.cell cb3; replace cb4 := U2.cell cb4; replace cb5 := U2.cell cb5; replace cb6 := U2.cell cb6; replace cb7 := U2.cell cb7; have G2 : Hid _ := G1.out.trans U2)
    | (go_at_call 9; go_fit (alive_any _); rintro e V3 ⟨rfl, U3⟩; have G3 : Hid _ := (G2.out.trans U3); have A3 : Hid _ := AH.out.grew (U2.trans U3); have B3 : Hid _ := BH.out.grew (U2.trans U3)))
  clear ca0 ca1 ca2 ca3 ca4 ca5 ca6 ca7 cb0 cb1 cb2 cb3 cb4 cb5 cb6 cb7 HR0 HR1 JS U1 U2 U3 G1 G2 AH BH
  obtain ⟨d, hd⟩ : ∃ d, d = a2 * 4294967296 / 100 := ⟨_, rfl⟩
  rw [← hd]
  have d0 : 0 ≤ d := by omega
  have d1 : d ≤ 42949672960000 := by omega
  clear hd
  obtain ⟨W, hW⟩ : ∃ W, W = ((V3.alloc (.cells #[.int .i64 4294967296, .int .i64 0, .int .i64 d] 28)).alloc (.cells #[.int .i64 0, .int .i64 0, .int .i64 0, .int .i64 0, .int .i64 0, .int .i64 0, .int .i64 0, .int .i64 0] 26)).alloc (.cells #[.int .i64 0, .int .i64 0, .int .i64 0, .int .i64 0, .int .i64 0, .int .i64 0, .int .i64 0, .int .i64 0] 26) := ⟨_, rfl⟩
  rw [← hW]
  have gW : Grew V3 W := by rw [hW]; exact (((Grew.refl V3).alloc _ _).alloc _ _).alloc _ _
  have sz : W.heap.size = V3.heap.size + 1 + 1 + 1 := by rw [hW]; simp [go_sem]
  have hH : HAt W V3.heap.size ⟨4294967296, 0, d⟩ := by rw [hW]; constructor <;> simp [go_sem]
  have hC : BAt W (V3.heap.size + 1) noB := by rw [hW]; constructor <;> simp [go_sem, noB]
  have hD : BAt W (V3.heap.size + 1 + 1) noB := by rw [hW]; constructor <;> simp [go_sem, noB]
  have lA : w.heap.size < V3.heap.size := A3.out.size
  have lB : w.heap.size + 1 < V3.heap.size := B3.out.size
  have hA := A3.out.grew gW
  have hB := B3.out.grew gW
  have GW := G3.out.trans gW
  have fr : ∀ b, V3.heap.size ≤ b → Free W b := fun b hb => gW.freeB hb
  clear hW A3 B3 G3 gW
  generalize hX : V3.heap.size = X at *
  refine (try_set (S := fun n => n = X + 1 ∨ n = X + 1 + 1) (P := LeftP (X + 1) (X + 1 + 1) (contactR B0 B1 ⟨4294967296, 0, d⟩)) _ _ _ (fun _ => by simp [go_sem]) (fun n hn => by omega) (LeftP.keep (by omega) (by omega)) (fun W0 G => ?_)).mono ?_
  · exact ask_apart _ _ _ _ (by omega) B0 B1 o0 o1 ⟨4294967296, 0, d⟩ ⟨⟨by simp only; omega, by simp only; omega⟩, inF0, ⟨by simp only; omega, by simp only; omega⟩⟩ W0 (hA.grew G) (hB.grew G) noB noB (hC.grew G) (hD.grew G) ((fr _ (by omega)).grew G) ((fr _ (by omega)).grew G) _ (hH.grew G)
  rintro e V4 ⟨hW, x', rfl, hx', h2⟩
  have ap := contact_apart (A := B0) (B := B1) m0.out m1.out d0
  generalize contactR B0 B1 ⟨4294967296, 0, d⟩ = T at *
  have G1 : Hid (Grew w V4) := hW.to GW (fun n hn => by omega)
  have xA := hA.wrote hW (by omega)
  have xB := hB.wrote hW (by omega)
  subst hx'
  clear hW hA hB hC hD hH GW fr sz
  by_cases hz : T.2 = 0
  rotate_left
  · have hz1 : (T.2 != 0) = true := by simpa using hz
    clear hz h2 ap xA xB
    go_wp2
    go_ret
    exact ⟨rfl, G1.out.grown⟩
  obtain ⟨⟨c0, c1, c2, c3, c4, c5, c6, c7⟩, ⟨e0, e1, e2, e3, e4, e5, e6, e7⟩⟩ := h2 hz
  have ⟨aa0, aa1, aa2, aa3, aa4, aa5, aa6, aa7⟩ := xA
  have ⟨b0, b1, b2, b3, b4, b5, b6, b7⟩ := xB
  obtain ⟨k1, k2, k3, k4, k5, k6⟩ := ap hz
  rw [k3] at c5
  rw [k4] at e5
  rw [k5] at c7
  rw [k6] at e7
  have hz1 : (T.2 != 0) = false := by simpa using hz
  clear hz h2 ap xA xB k3 k4 k5 k6 c0 c1 c2 c3 c6 e0 e1 e2 e3 e6 aa0 aa1 aa2 aa3 aa6 b0 b1 b2 b3 b6
  have w1 : decide (T.1.1.p ≤ B0.p) = true := decide_eq_true k1
  have w2 : decide (B1.p ≤ T.1.2.p) = true := decide_eq_true k2
  go_wp2
  go_ret
  exact ⟨rfl, G1.out.grown⟩

set_option maxRecDepth 100000 in
theorem lifted (os : Os) (started : os.Started) (H : Type) (enc : TypeId × Value → H) :
    ReturnsInHanded {} Try.checked os 5 .any (Rows.pushApartSpec.pre6 enc Try.prog Try.f5 Rows.pushApartRow.domain false) (Rows.pushApartSpec.post enc Try.prog Try.f5 false true false false) := by
  refine returnsInHanded_of_change (C := Try.checked) own started (by kernel_rfl) Try.func5
    (ChangeSpec.witness6 (enc := enc) (C := Try.checked) false ⟨#[], #[.agg #[.int .i64 0, .int .i64 0, .int .i64 0, .int .i64 0, .int .i64 0, .int .i64 0, .int .i64 0, .int .i64 0], .agg #[.int .i64 0, .int .i64 0, .int .i64 0, .int .i64 0, .int .i64 0, .int .i64 0, .int .i64 0, .int .i64 0], .int .i64 0], []⟩ 8 (by kernel_rfl) (by kernel_rfl) (by kernel_rfl) (by kernel_rfl)) ?_
  intro W base args ds gs before hval0 hW hcnd _
  have hval : ∀ (j : Nat) t v, Try.f5.params[j]? = some t → args[j]? = some v → Value.okWide Try.prog W .any base t v := hval0
  have hW' := hW
  obtain ⟨p, q, hA0, hV, rfl, hfz, hnd⟩ := hW
  have hA : DataW.TrodAll enc Try.prog W 0 (fun _ => true) true Try.f5.params.toList args.toList ds p := hA0
  rw [Try.params5] at hA hval
  obtain ⟨v0, vs0, d0, ds0, p0, q0, hargs, rfl, rfl, h0, r0⟩ := trodAll_cons hA
  obtain ⟨v1, vs1, d1, ds1, p1, q1, rfl, rfl, rfl, h1, r1⟩ := trodAll_cons r0
  obtain ⟨v2, vs2, d2, ds2, p2, q2, rfl, rfl, rfl, h2, r2⟩ := trodAll_cons r1
  obtain ⟨rfl, rfl, rfl⟩ := trodAll_nil r2
  obtain rfl : args = #[v0, v1, v2] := by cases args; simp_all
  obtain ⟨rfl, rfl⟩ := trodVars_none hV
  obtain ⟨B0, rfl, rfl, rfl, o0⟩ := open_body (hval 0 26 v0 rfl rfl) h0
  obtain ⟨B1, rfl, rfl, rfl, o1⟩ := open_body (hval 1 26 v1 rfl rfl) h1
  obtain ⟨a2, rfl, rfl, rfl, w2⟩ := open_int Try.underlying3 (hval 2 3 v2 rfl rfl) h2
  have f2 := inF_wf w2
  clear hA0 hval0
  simp only [List.append_nil] at hW'
  refine (walk B0 o0 B1 o1 a2 f2 W   ).mono fun e W' ⟨he, hg⟩ => ?_
  subst he
  exact ⟨_, rfl, post_of_same (pa := []) (pv := []) hW' (fun _ _ _ => (trodAll_cons_mk (shut_bool Try.underlying4 _) trodAll_mk0)) (fun sp _ => (trodAll_cons_mk (shut_body o0) (trodAll_cons_mk (shut_body o1) (trodAll_cons_mk (shut_int Try.underlying3 w2) trodAll_mk0)))) (fun _ _ => rfl) rfl
    (hg.frame _) hg.2.1 (ok_one (by kernel_rfl) rfl (okWide_bool_mk Try.underlying4 _))⟩

theorem over : Rows.pushApartRow.holds Try.pinned (OpenSpec.ofChange Rows.pushApartSpec) :=
  OpenClaim.holds_of_wide 5 Try.f5 rfl rfl rfl rfl rfl rfl rfl ⟨rfl, rfl, rfl, rfl, rfl⟩ rfl rfl rfl rfl rfl (by kernel_rfl) Try.func5 (by kernel_rfl)
    (of_decide_eq_true (by kernel_rfl)) (by unfold Func.isWrapper; first | (rw [if_pos (by decide +kernel)]; kernel_rfl) | (rw [if_neg (by decide +kernel)]; exact ⟨rfl, rfl⟩))
    (fun os started H enc _ => lifted os started H enc)

theorem proved : Rows.PushApartSaid :=
  over
end Go.Proofs.Ytcancbgaejekiaa.pushApart

namespace Go.Proofs.Ytcancbgaejekiaa
theorem pushApart_holds : Rows.PushApartSaid := pushApart.proved
end Go.Proofs.Ytcancbgaejekiaa

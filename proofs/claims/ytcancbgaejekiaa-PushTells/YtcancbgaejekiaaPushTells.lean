/-
  Proved: maquettelaw11.PushTells returns true for every two bodies, every contact, every length and every push (what becomes of them, or the panic's error, is the document's), and leaves what it was given as it was; no condition.
-/
import Derived.Test.YtcancbgaejekiaaRows
import Derived.Test.YtcancbgaejekiaaJOps
import Derived.Test.YtcancbgaejekiaaBData
import Derived.Test.YtcancbgaejekiaaJData
import Derived.Test.YtcancbgaejekiaaJRef5
import Derived.WalkKit
import Derived.Deep.QuietTactic
import Derived.BigQuiet
import Derived.WalkSpells
import Derived.Deep.CutRange
import Derived.Deep.CutBlock
import Derived.WalkLawsBesides
import Derived.ProofKit
import Derived.OpenShut
namespace Go.Proofs.Ytcancbgaejekiaa.pushTells
open Go.ChangeShapes Go.WideShapes Go.ChangeAt Go.RowKit
set_option linter.unusedVariables false

theorem own : ownKnob Try.prog.godebug = none := by kernel_rfl

def wayAt : Value → World → Nat
  | .pointer (some a), w => match w.cell? a with
    | some v => (intOf v).toNat
    | none => 0
  | _, _ => 0

set_option maxRecDepth 100000 in
set_option maxHeartbeats 16000000 in
theorem walk (B0 : Bd) (o0 : B0.ok) (B1 : Bd) (o1 : B1.ok) (H2 : Ht) (o2 : H2.ok) (a3 : Int) (f3 : inF a3) (x4 y4 : Int) (f4 : inF x4) (g4 : inF y4) (w : World)     :
    Calls Try.prog 3 #[B0.val, B1.val, H2.val, .int .i64 a3, vec x4 y4] w fun e w' => e = .returned (.bool true) ∧ Grown w w' := by
  have hmf := mk_func
  have js : ∀ V, V = ((((w.alloc (.cells #[.int .i64 B0.s, .int .i64 B0.a, .int .i64 B0.b, .int .i64 B0.m, .int .i64 B0.p, .int .i64 B0.q, .int .i64 B0.u, .int .i64 B0.v] 26)).alloc (.cells #[.int .i64 B1.s, .int .i64 B1.a, .int .i64 B1.b, .int .i64 B1.m, .int .i64 B1.p, .int .i64 B1.q, .int .i64 B1.u, .int .i64 B1.v] 26)).alloc (.cells #[.int .i64 H2.x, .int .i64 H2.y, .int .i64 H2.d] 28)).alloc (.cells #[.int .i64 a3] 22)).alloc (.cells #[.int .i64 x4, .int .i64 y4] 24) → Grew w V ∧ BAt V w.heap.size B0 ∧ BAt V (w.heap.size + 1) B1 ∧ HAt V (w.heap.size + 1 + 1) H2 ∧ V.cell? ⟨w.heap.size + 1 + 1 + 1, 0, none⟩ = some (.int .i64 a3) ∧ At V (w.heap.size + 1 + 1 + 1 + 1) x4 y4 := fun V hV => by
    refine ⟨by rw [hV]; exact (((((Grew.refl w).alloc _ _).alloc _ _).alloc _ _).alloc _ _).alloc _ _, ?_, ?_, ?_, ?_, ?_⟩ <;> (rw [hV]; first | (constructor <;> simp [go_sem]; done) | simp [go_sem])
  have JS : Hid _ := js
  have F : Hid (B0.ok ∧ B1.ok ∧ H2.ok ∧ inF a3 ∧ inF x4 ∧ inF y4) := ⟨o0, o1, o2, f3, f4, g4⟩
  clear js o0 o1 o2 f3 f4 g4
  unfold Bd.val Ht.val vec
  go_enter Try.func3, Try.ntmps3
  go_wp2_with (first
    | (go_at_call 9; go_fit (alive_any _); rintro e V3 ⟨rfl, U3⟩))
  obtain ⟨G0, A0, B0', t0, k0, j0⟩ := JS.out _ rfl
  have G3 : Hid (Grew w V3) := G0.trans U3
  have A3 : Hid (BAt V3 w.heap.size B0) := A0.grew U3
  have B3 : Hid (BAt V3 (w.heap.size + 1) B1) := B0'.grew U3
  have HT : Hid (HAt V3 (w.heap.size + 1 + 1) H2) := t0.grew U3
  have HK : Hid (V3.cell? ⟨w.heap.size + 1 + 1 + 1, 0, none⟩ = some (.int .i64 a3)) := U3.cell k0
  have HJ : Hid (At V3 (w.heap.size + 1 + 1 + 1 + 1) x4 y4) := At.grew j0 U3
  have lk : w.heap.size + 1 + 1 + 1 + 1 < V3.heap.size := At.size HJ.out
  clear G0 A0 B0' t0 k0 j0 U3 JS
  go_loopw [11] (fun s wr => ∃ O j : Nat, s = .pointer (some ⟨O, 0, none⟩) ∧ j ≤ 3 ∧ wr.cell? ⟨O, 0, none⟩ = some (.int .i64 (j : Int)) ∧ V3.heap.size ≤ O ∧ Grew V3 wr) (fun s wr => 3 - wayAt s wr)
  case atStart => exact ⟨V3.heap.size, 0, rfl, by omega, by simp [go_sem], Nat.le_refl _, (Grew.refl V3).alloc _ _⟩
  case round =>
    obtain ⟨O, j, rfl, hj, hO, hVO, g⟩ := hrel
    rename_i wr _
    have hO' : O < wr.heap.size := cell_block hO
    by_cases h3 : j = 3
    · subst h3
      go_wp2
      go_ret
      exact ⟨rfl, (G3.out.trans g).grown⟩
    have hj2 : j < 3 := by omega
    have hj3 : (j : Int) < 3 := by omega
    obtain ⟨W, hW⟩ : ∃ W, W = ((((wr.alloc (.cells #[.int .i64 0] 32)).alloc (.cells #[.int .i64 0, .int .i64 0, .int .i64 0, .int .i64 0, .int .i64 0, .int .i64 0, .int .i64 0, .int .i64 0] 26)).alloc (.cells #[.int .i64 0, .int .i64 0, .int .i64 0, .int .i64 0, .int .i64 0, .int .i64 0, .int .i64 0, .int .i64 0] 26)).alloc (.cells #[.int .i64 0, .int .i64 0, .int .i64 0, .int .i64 0, .int .i64 0, .int .i64 0, .int .i64 0, .int .i64 0] 26)).alloc (.cells #[.int .i64 0, .int .i64 0, .int .i64 0, .int .i64 0, .int .i64 0, .int .i64 0, .int .i64 0, .int .i64 0] 26) := ⟨_, rfl⟩
    have gW : Grew wr W := by rw [hW]; exact (((((Grew.refl wr).alloc _ _).alloc _ _).alloc _ _).alloc _ _).alloc _ _
    have sW : W.heap.size = wr.heap.size + 1 + 1 + 1 + 1 + 1 := by rw [hW]; simp [go_sem]
    have cC : W.cell? ⟨wr.heap.size, 0, none⟩ = some (.int .i64 0) := by rw [hW]; simp [go_sem]
    have hC : BAt W (wr.heap.size + 1) noB := by rw [hW]; constructor <;> simp [go_sem, noB]
    have hD : BAt W (wr.heap.size + 1 + 1) noB := by rw [hW]; constructor <;> simp [go_sem, noB]
    have hE : BAt W (wr.heap.size + 1 + 1 + 1) noB := by rw [hW]; constructor <;> simp [go_sem, noB]
    have hF : BAt W (wr.heap.size + 1 + 1 + 1 + 1) noB := by rw [hW]; constructor <;> simp [go_sem, noB]
    have GV := g.trans gW
    have hO2 := gW.cell hO
    have hOr := hO
    have hWe : Hid (_ = _) := hW
    clear hW hj h3
    go_wp2_with (fail)
    rw [← hWe.out]
    clear hWe
    obtain ⟨X, hX⟩ : ∃ X, wr.heap.size = X := ⟨_, rfl⟩
    rw [hX] at hC hD hE hF cC sW hO' ⊢
    refine (try_set (S := fun n => n = X + 1 ∨ n = X + 1 + 1) (P := LeftP (X + 1) (X + 1 + 1) (opR (j : Int) B0 B1 H2 a3 x4 y4)) _ _ _ (fun _ => by simp [go_sem]) (fun n hn => by omega) (LeftP.keep (by omega) (by omega)) (fun W0 G => ?_)).mono ?_
    · exact ask_tells _ _ _ _ _ _ _ _ (by omega) (j : Int) B0 B1 H2 a3 x4 y4 F.out.1 F.out.2.1 F.out.2.2.1 F.out.2.2.2.1 F.out.2.2.2.2.1 F.out.2.2.2.2.2 W0 (G.cell hO2) (A3.out.grew (GV.trans G)) (B3.out.grew (GV.trans G)) (At.grew HJ.out (GV.trans G)) (HAt.grew HT.out (GV.trans G)) ((GV.trans G).cell HK.out) noB noB (hC.grew G) (hD.grew G) ((gW.trans G).freeB (by omega)) ((gW.trans G).freeB (by omega))
    rintro e V4 ⟨hW, x', rfl, hx', h2⟩
    subst hx'
    have lg := g.size
    have G4 : Grew V3 V4 := hW.to GV (fun n hn => by omega)
    have hO4 : V4.cell? ⟨O, 0, none⟩ = some (.int .i64 (j : Int)) := hW.cell hO2 (show ¬ (O = X + 1 ∨ O = X + 1 + 1) by omega)
    have E4 : Err V4 X 0 0 := ⟨hW.cell cC (show ¬ (X = X + 1 ∨ X = X + 1 + 1) by omega), G4.free (show V3.heap.size ≤ X by omega)⟩
    have xE := hE.wrote hW (by omega)
    have xF := hF.wrote hW (by omega)
    have zE : Free V4 (X + 1 + 1 + 1) := G4.freeB (by omega)
    have zF : Free V4 (X + 1 + 1 + 1 + 1) := G4.freeB (by omega)
    have xA := A3.out.grew G4
    have xB := B3.out.grew G4
    have xT := HAt.grew HT.out G4
    have xK := G4.cell HK.out
    have xJ := At.grew HJ.out G4
    have f4 := set_far (a := X + 1 + 1 + 1) (c := X + 1 + 1 + 1 + 1) (by omega)
    have f5 := set_far (a := X + 1 + 1 + 1 + 1) (c := X + 1 + 1 + 1) (by omega)
    clear hW hC hD hE hF GV gW hO hO2 sW cC
    rcases (by omega : j = 0 ∨ j = 1 ∨ j = 2) with rfl | rfl | rfl
    · have eT : opR ((0 : Nat) : Int) B0 B1 H2 a3 x4 y4 = applyR B0 B1 x4 y4 := rfl
      rw [eT] at h2 ⊢
      clear eT
      obtain ⟨K, hK⟩ : ∃ K, applyK 0 B0 B1 x4 y4 = K := ⟨_, rfl⟩
      have sm := apply_ref B0 B1 x4 y4
      rw [hK] at sm
      have cc : ∀ W, Err W X 0 0 → Calls Try.prog 15 #[.pointer (some ⟨X, 0, none⟩), B0.val, B1.val, .agg #[.int .i64 x4, .int .i64 y4]] W fun e w' => e = .returned (.tuple #[K.1.1.val, K.1.2.val]) ∧ Err w' X 0 K.2 ∧ Past X W w' := fun W hE => by rw [← hK]; exact rapply_u X 0 B0 B1 x4 y4 F.out.1 F.out.2.1 F.out.2.2.2.2.1 F.out.2.2.2.2.2 W hE
      unfold Bd.val at cc
      have CC : Hid _ := cc
      clear cc hK
      generalize applyR B0 B1 x4 y4 = T at *
      obtain ⟨s1, s2⟩ := sm
      have SM : Hid _ := s2
      have H2' : Hid _ := h2
      have ⟨j0, j1⟩ := xJ
      have ⟨ca0, ca1, ca2, ca3, ca4, ca5, ca6, ca7⟩ := xA
      have ⟨cb0, cb1, cb2, cb3, cb4, cb5, cb6, cb7⟩ := xB
      have XE : Hid _ := xE
      have XF : Hid _ := xF
      have G4H : Hid (Grew V3 V4) := G4
      have E4H : Hid (Err V4 X 0 0) := E4
      have ZE : Hid (Free V4 (X + 1 + 1 + 1)) := zE
      have ZF : Hid (Free V4 (X + 1 + 1 + 1 + 1)) := zF
      have hO4H : Hid (V4.cell? ⟨O, 0, none⟩ = some (.int .i64 _)) := hO4
      clear xA xB xT xK xJ xE xF zE zF E4 G4 h2 s2
      go_upto_region 15 with (first
        | (go_at_call 15; go_fit (CC.out _ E4H.out); rintro e V5 ⟨rfl, E5, U5⟩; have E5H : Hid (Err V5 X 0 K.2) := E5; have yE : Hid _ := XE.out.past U5 (by omega); have yF : Hid _ := XF.out.past U5 (by omega); have ⟨e0, e1, e2, e3, e4, e5, e6, e7⟩ := yE.out; have ⟨g0, g1, g2, g3, g4, g5, g6, g7⟩ := yF.out; have y0 := U5.frozen (p := ⟨X + 1 + 1 + 1, 0, none⟩) XE.out.size (show X + 1 + 1 + 1 ≠ X by omega) (ZE.out 0 none); have y1 := U5.frozen (p := ⟨X + 1 + 1 + 1, 1, none⟩) XE.out.size (show X + 1 + 1 + 1 ≠ X by omega) (ZE.out 1 none); have y2 := U5.frozen (p := ⟨X + 1 + 1 + 1, 2, none⟩) XE.out.size (show X + 1 + 1 + 1 ≠ X by omega) (ZE.out 2 none); have y3 := U5.frozen (p := ⟨X + 1 + 1 + 1, 3, none⟩) XE.out.size (show X + 1 + 1 + 1 ≠ X by omega) (ZE.out 3 none); have y4 := U5.frozen (p := ⟨X + 1 + 1 + 1, 4, none⟩) XE.out.size (show X + 1 + 1 + 1 ≠ X by omega) (ZE.out 4 none); have y5 := U5.frozen (p := ⟨X + 1 + 1 + 1, 5, none⟩) XE.out.size (show X + 1 + 1 + 1 ≠ X by omega) (ZE.out 5 none); have y6 := U5.frozen (p := ⟨X + 1 + 1 + 1, 6, none⟩) XE.out.size (show X + 1 + 1 + 1 ≠ X by omega) (ZE.out 6 none); have y7 := U5.frozen (p := ⟨X + 1 + 1 + 1, 7, none⟩) XE.out.size (show X + 1 + 1 + 1 ≠ X by omega) (ZE.out 7 none); have z0 := U5.frozen (p := ⟨X + 1 + 1 + 1 + 1, 0, none⟩) XF.out.size (show X + 1 + 1 + 1 + 1 ≠ X by omega) (ZF.out 0 none); have z1 := U5.frozen (p := ⟨X + 1 + 1 + 1 + 1, 1, none⟩) XF.out.size (show X + 1 + 1 + 1 + 1 ≠ X by omega) (ZF.out 1 none); have z2 := U5.frozen (p := ⟨X + 1 + 1 + 1 + 1, 2, none⟩) XF.out.size (show X + 1 + 1 + 1 + 1 ≠ X by omega) (ZF.out 2 none); have z3 := U5.frozen (p := ⟨X + 1 + 1 + 1 + 1, 3, none⟩) XF.out.size (show X + 1 + 1 + 1 + 1 ≠ X by omega) (ZF.out 3 none); have z4 := U5.frozen (p := ⟨X + 1 + 1 + 1 + 1, 4, none⟩) XF.out.size (show X + 1 + 1 + 1 + 1 ≠ X by omega) (ZF.out 4 none); have z5 := U5.frozen (p := ⟨X + 1 + 1 + 1 + 1, 5, none⟩) XF.out.size (show X + 1 + 1 + 1 + 1 ≠ X by omega) (ZF.out 5 none); have z6 := U5.frozen (p := ⟨X + 1 + 1 + 1 + 1, 6, none⟩) XF.out.size (show X + 1 + 1 + 1 + 1 ≠ X by omega) (ZF.out 6 none); have z7 := U5.frozen (p := ⟨X + 1 + 1 + 1 + 1, 7, none⟩) XF.out.size (show X + 1 + 1 + 1 + 1 ≠ X by omega) (ZF.out 7 none); clear E5))
      change Code.wp _ _ _ _ (lay (lay V5 (X + 1 + 1 + 1) K.1.1) (X + 1 + 1 + 1 + 1) K.1.2)
      obtain ⟨M, hM⟩ : ∃ M, M = lay (lay V5 (X + 1 + 1 + 1) K.1.1) (X + 1 + 1 + 1 + 1) K.1.2 := ⟨_, rfl⟩
      rw [← hM]
      have gM : Grew V3 M := by rw [hM]; exact lay_grew (lay_grew (U5.grew V3 (by omega) G4H.out) (by omega) _) (by omega) _
      have uE : BAt M (X + 1 + 1 + 1) K.1.1 := by rw [hM]; exact lay_far (lay_at yE.out _) (by omega) _
      have uF : BAt M (X + 1 + 1 + 1 + 1) K.1.2 := by rw [hM]; exact lay_at (lay_far yF.out (by omega) _) _
      have uC : Err M X 0 K.2 := by rw [hM]; exact lay_err (lay_err E5H.out (by omega) _) (by omega) _
      have uT : T.2 = 0 → BAt M (X + 1) T.1.1 ∧ BAt M (X + 1 + 1) T.1.2 := fun hz => by
        rw [hM]
        exact ⟨lay_far (lay_far ((H2'.out hz).1.past U5 (by omega)) (by omega) _) (by omega) _, lay_far (lay_far ((H2'.out hz).2.past U5 (by omega)) (by omega) _) (by omega) _⟩
      have uO : M.cell? ⟨O, 0, none⟩ = some (.int .i64 (0 : Int)) := by
        have hb := U5.cell (p := ⟨O, 0, none⟩) (show O ≠ X by omega) hO4H.out
        have k1 : ∀ V b B, O ≠ b → (lay V b B).cell? ⟨O, 0, none⟩ = V.cell? ⟨O, 0, none⟩ := fun V b B hb => by unfold lay; simp only [set_far hb]
        rw [hM, k1 _ _ _ (by omega), k1 _ _ _ (by omega)]
        exact hb
      have lO : O < M.heap.size := cell_block uO
      have uc := uC.1
      rw [s1] at uc
      have GM : Hid (Grew V3 M) := gM
      clear hM gM uC E5H yE yF XE XF ZE ZF G4H E4H hO4H U5 H2' y0 y1 y2 y3 y4 y5 y6 y7 z0 z1 z2 z3 z4 z5 z6 z7 e0 e1 e2 e3 e4 e5 e6 e7 g0 g1 g2 g3 g4 g5 g6 g7 ca0 ca1 ca2 ca3 ca4 ca5 ca6 ca7 cb0 cb1 cb2 cb3 cb4 cb5 cb6 cb7 hO4 CC f4 f5
      have SMo := SM.out
      clear SM
      generalize K.1 = KK at *
      by_cases hz : T.2 = 0
      · have hz1 : (T.2 == 0) = true := by simpa using hz
        obtain ⟨⟨e0, e1, e2, e3, e4, e5, e6, e7⟩, ⟨g0, g1, g2, g3, g4, g5, g6, g7⟩⟩ := uT hz
        rw [SMo hz] at uE uF
        have ⟨p0, p1, p2, p3, p4, p5, p6, p7⟩ := uE
        have ⟨q0, q1, q2, q3, q4, q5, q6, q7⟩ := uF
        have hq1 := ne_same_body T.1.1
        have hq2 := ne_same_body T.1.2
        simp only [Bd.val] at hq1 hq2
        rw [hz] at uc ⊢
        clear hz SMo uT uE uF hz1 s1
        go_wp2_with (fail)
        go_roundw
        case rel => exact ⟨_, 1, rfl, by omega, by simp [go_sem], GM.out.size, GM.out.alloc _ _⟩
        case measure => simp [wayAt, hOr, go_sem, intOf]
      · have hz1 : (T.2 == 0) = false := by simpa using hz
        clear hz SMo uT uE uF s1
        go_wp2_with (fail)
        go_roundw
        case rel => exact ⟨_, 1, rfl, by omega, by simp [go_sem], GM.out.size, GM.out.alloc _ _⟩
        case measure => simp [wayAt, hOr, go_sem, intOf]
    · have eT : opR ((1 : Nat) : Int) B0 B1 H2 a3 x4 y4 = contactR B0 B1 H2 := rfl
      rw [eT] at h2 ⊢
      clear eT
      obtain ⟨K, hK⟩ : ∃ K, contactK B0 B1 H2 = K := ⟨_, rfl⟩
      have sm := contact_ref B0 B1 H2
      rw [hK] at sm
      have cc : ∀ W, Err W X 0 0 → Calls Try.prog 16 #[.pointer (some ⟨X, 0, none⟩), B0.val, B1.val, .agg #[.int .i64 H2.x, .int .i64 H2.y, .int .i64 H2.d]] W fun e w' => e = .returned (.tuple #[K.1.1.val, K.1.2.val]) ∧ Err w' X 0 K.2 ∧ Past X W w' := fun W hE => by rw [← hK]; exact rcontact_u X B0 B1 H2 F.out.1 F.out.2.1 F.out.2.2.1 W hE
      unfold Bd.val at cc
      have CC : Hid _ := cc
      clear cc hK
      generalize contactR B0 B1 H2 = T at *
      obtain ⟨s1, s2⟩ := sm
      have SM : Hid _ := s2
      have H2' : Hid _ := h2
      have ⟨j0, j1, j2⟩ := xT
      have ⟨ca0, ca1, ca2, ca3, ca4, ca5, ca6, ca7⟩ := xA
      have ⟨cb0, cb1, cb2, cb3, cb4, cb5, cb6, cb7⟩ := xB
      have XE : Hid _ := xE
      have XF : Hid _ := xF
      have G4H : Hid (Grew V3 V4) := G4
      have E4H : Hid (Err V4 X 0 0) := E4
      have ZE : Hid (Free V4 (X + 1 + 1 + 1)) := zE
      have ZF : Hid (Free V4 (X + 1 + 1 + 1 + 1)) := zF
      have hO4H : Hid (V4.cell? ⟨O, 0, none⟩ = some (.int .i64 _)) := hO4
      clear xA xB xT xK xJ xE xF zE zF E4 G4 h2 s2
      go_upto_region 15 with (first
        | (go_at_call 16; go_fit (CC.out _ E4H.out); rintro e V5 ⟨rfl, E5, U5⟩; have E5H : Hid (Err V5 X 0 K.2) := E5; have yE : Hid _ := XE.out.past U5 (by omega); have yF : Hid _ := XF.out.past U5 (by omega); have ⟨e0, e1, e2, e3, e4, e5, e6, e7⟩ := yE.out; have ⟨g0, g1, g2, g3, g4, g5, g6, g7⟩ := yF.out; have y0 := U5.frozen (p := ⟨X + 1 + 1 + 1, 0, none⟩) XE.out.size (show X + 1 + 1 + 1 ≠ X by omega) (ZE.out 0 none); have y1 := U5.frozen (p := ⟨X + 1 + 1 + 1, 1, none⟩) XE.out.size (show X + 1 + 1 + 1 ≠ X by omega) (ZE.out 1 none); have y2 := U5.frozen (p := ⟨X + 1 + 1 + 1, 2, none⟩) XE.out.size (show X + 1 + 1 + 1 ≠ X by omega) (ZE.out 2 none); have y3 := U5.frozen (p := ⟨X + 1 + 1 + 1, 3, none⟩) XE.out.size (show X + 1 + 1 + 1 ≠ X by omega) (ZE.out 3 none); have y4 := U5.frozen (p := ⟨X + 1 + 1 + 1, 4, none⟩) XE.out.size (show X + 1 + 1 + 1 ≠ X by omega) (ZE.out 4 none); have y5 := U5.frozen (p := ⟨X + 1 + 1 + 1, 5, none⟩) XE.out.size (show X + 1 + 1 + 1 ≠ X by omega) (ZE.out 5 none); have y6 := U5.frozen (p := ⟨X + 1 + 1 + 1, 6, none⟩) XE.out.size (show X + 1 + 1 + 1 ≠ X by omega) (ZE.out 6 none); have y7 := U5.frozen (p := ⟨X + 1 + 1 + 1, 7, none⟩) XE.out.size (show X + 1 + 1 + 1 ≠ X by omega) (ZE.out 7 none); have z0 := U5.frozen (p := ⟨X + 1 + 1 + 1 + 1, 0, none⟩) XF.out.size (show X + 1 + 1 + 1 + 1 ≠ X by omega) (ZF.out 0 none); have z1 := U5.frozen (p := ⟨X + 1 + 1 + 1 + 1, 1, none⟩) XF.out.size (show X + 1 + 1 + 1 + 1 ≠ X by omega) (ZF.out 1 none); have z2 := U5.frozen (p := ⟨X + 1 + 1 + 1 + 1, 2, none⟩) XF.out.size (show X + 1 + 1 + 1 + 1 ≠ X by omega) (ZF.out 2 none); have z3 := U5.frozen (p := ⟨X + 1 + 1 + 1 + 1, 3, none⟩) XF.out.size (show X + 1 + 1 + 1 + 1 ≠ X by omega) (ZF.out 3 none); have z4 := U5.frozen (p := ⟨X + 1 + 1 + 1 + 1, 4, none⟩) XF.out.size (show X + 1 + 1 + 1 + 1 ≠ X by omega) (ZF.out 4 none); have z5 := U5.frozen (p := ⟨X + 1 + 1 + 1 + 1, 5, none⟩) XF.out.size (show X + 1 + 1 + 1 + 1 ≠ X by omega) (ZF.out 5 none); have z6 := U5.frozen (p := ⟨X + 1 + 1 + 1 + 1, 6, none⟩) XF.out.size (show X + 1 + 1 + 1 + 1 ≠ X by omega) (ZF.out 6 none); have z7 := U5.frozen (p := ⟨X + 1 + 1 + 1 + 1, 7, none⟩) XF.out.size (show X + 1 + 1 + 1 + 1 ≠ X by omega) (ZF.out 7 none); clear E5))
      change Code.wp _ _ _ _ (lay (lay V5 (X + 1 + 1 + 1) K.1.1) (X + 1 + 1 + 1 + 1) K.1.2)
      obtain ⟨M, hM⟩ : ∃ M, M = lay (lay V5 (X + 1 + 1 + 1) K.1.1) (X + 1 + 1 + 1 + 1) K.1.2 := ⟨_, rfl⟩
      rw [← hM]
      have gM : Grew V3 M := by rw [hM]; exact lay_grew (lay_grew (U5.grew V3 (by omega) G4H.out) (by omega) _) (by omega) _
      have uE : BAt M (X + 1 + 1 + 1) K.1.1 := by rw [hM]; exact lay_far (lay_at yE.out _) (by omega) _
      have uF : BAt M (X + 1 + 1 + 1 + 1) K.1.2 := by rw [hM]; exact lay_at (lay_far yF.out (by omega) _) _
      have uC : Err M X 0 K.2 := by rw [hM]; exact lay_err (lay_err E5H.out (by omega) _) (by omega) _
      have uT : T.2 = 0 → BAt M (X + 1) T.1.1 ∧ BAt M (X + 1 + 1) T.1.2 := fun hz => by
        rw [hM]
        exact ⟨lay_far (lay_far ((H2'.out hz).1.past U5 (by omega)) (by omega) _) (by omega) _, lay_far (lay_far ((H2'.out hz).2.past U5 (by omega)) (by omega) _) (by omega) _⟩
      have uO : M.cell? ⟨O, 0, none⟩ = some (.int .i64 (1 : Int)) := by
        have hb := U5.cell (p := ⟨O, 0, none⟩) (show O ≠ X by omega) hO4H.out
        have k1 : ∀ V b B, O ≠ b → (lay V b B).cell? ⟨O, 0, none⟩ = V.cell? ⟨O, 0, none⟩ := fun V b B hb => by unfold lay; simp only [set_far hb]
        rw [hM, k1 _ _ _ (by omega), k1 _ _ _ (by omega)]
        exact hb
      have lO : O < M.heap.size := cell_block uO
      have uc := uC.1
      rw [s1] at uc
      have GM : Hid (Grew V3 M) := gM
      clear hM gM uC E5H yE yF XE XF ZE ZF G4H E4H hO4H U5 H2' y0 y1 y2 y3 y4 y5 y6 y7 z0 z1 z2 z3 z4 z5 z6 z7 e0 e1 e2 e3 e4 e5 e6 e7 g0 g1 g2 g3 g4 g5 g6 g7 ca0 ca1 ca2 ca3 ca4 ca5 ca6 ca7 cb0 cb1 cb2 cb3 cb4 cb5 cb6 cb7 hO4 CC f4 f5
      have SMo := SM.out
      clear SM
      generalize K.1 = KK at *
      by_cases hz : T.2 = 0
      · have hz1 : (T.2 == 0) = true := by simpa using hz
        obtain ⟨⟨e0, e1, e2, e3, e4, e5, e6, e7⟩, ⟨g0, g1, g2, g3, g4, g5, g6, g7⟩⟩ := uT hz
        rw [SMo hz] at uE uF
        have ⟨p0, p1, p2, p3, p4, p5, p6, p7⟩ := uE
        have ⟨q0, q1, q2, q3, q4, q5, q6, q7⟩ := uF
        have hq1 := ne_same_body T.1.1
        have hq2 := ne_same_body T.1.2
        simp only [Bd.val] at hq1 hq2
        rw [hz] at uc ⊢
        clear hz SMo uT uE uF hz1 s1
        go_wp2_with (fail)
        go_roundw
        case rel => exact ⟨_, 2, rfl, by omega, by simp [go_sem], GM.out.size, GM.out.alloc _ _⟩
        case measure => simp [wayAt, hOr, go_sem, intOf]
      · have hz1 : (T.2 == 0) = false := by simpa using hz
        clear hz SMo uT uE uF s1
        go_wp2_with (fail)
        go_roundw
        case rel => exact ⟨_, 2, rfl, by omega, by simp [go_sem], GM.out.size, GM.out.alloc _ _⟩
        case measure => simp [wayAt, hOr, go_sem, intOf]
    · have eT : opR ((2 : Nat) : Int) B0 B1 H2 a3 x4 y4 = jointR B0 B1 a3 := rfl
      rw [eT] at h2 ⊢
      clear eT
      obtain ⟨K, hK⟩ : ∃ K, jointK B0 B1 a3 = K := ⟨_, rfl⟩
      have sm := joint_ref B0 B1 a3
      rw [hK] at sm
      have cc : ∀ W, Err W X 0 0 → Calls Try.prog 17 #[.pointer (some ⟨X, 0, none⟩), B0.val, B1.val, .int .i64 a3] W fun e w' => e = .returned (.tuple #[K.1.1.val, K.1.2.val]) ∧ Err w' X 0 K.2 ∧ Past X W w' := fun W hE => by rw [← hK]; exact rjoint_u X B0 B1 a3 F.out.1 F.out.2.1 F.out.2.2.2.1 W hE
      unfold Bd.val at cc
      have CC : Hid _ := cc
      clear cc hK
      generalize jointR B0 B1 a3 = T at *
      obtain ⟨s1, s2⟩ := sm
      have SM : Hid _ := s2
      have H2' : Hid _ := h2
      have j0 := xK
      have ⟨ca0, ca1, ca2, ca3, ca4, ca5, ca6, ca7⟩ := xA
      have ⟨cb0, cb1, cb2, cb3, cb4, cb5, cb6, cb7⟩ := xB
      have XE : Hid _ := xE
      have XF : Hid _ := xF
      have G4H : Hid (Grew V3 V4) := G4
      have E4H : Hid (Err V4 X 0 0) := E4
      have ZE : Hid (Free V4 (X + 1 + 1 + 1)) := zE
      have ZF : Hid (Free V4 (X + 1 + 1 + 1 + 1)) := zF
      have hO4H : Hid (V4.cell? ⟨O, 0, none⟩ = some (.int .i64 _)) := hO4
      clear xA xB xT xK xJ xE xF zE zF E4 G4 h2 s2
      go_upto_region 15 with (first
        | (go_at_call 17; go_fit (CC.out _ E4H.out); rintro e V5 ⟨rfl, E5, U5⟩; have E5H : Hid (Err V5 X 0 K.2) := E5; have yE : Hid _ := XE.out.past U5 (by omega); have yF : Hid _ := XF.out.past U5 (by omega); have ⟨e0, e1, e2, e3, e4, e5, e6, e7⟩ := yE.out; have ⟨g0, g1, g2, g3, g4, g5, g6, g7⟩ := yF.out; have y0 := U5.frozen (p := ⟨X + 1 + 1 + 1, 0, none⟩) XE.out.size (show X + 1 + 1 + 1 ≠ X by omega) (ZE.out 0 none); have y1 := U5.frozen (p := ⟨X + 1 + 1 + 1, 1, none⟩) XE.out.size (show X + 1 + 1 + 1 ≠ X by omega) (ZE.out 1 none); have y2 := U5.frozen (p := ⟨X + 1 + 1 + 1, 2, none⟩) XE.out.size (show X + 1 + 1 + 1 ≠ X by omega) (ZE.out 2 none); have y3 := U5.frozen (p := ⟨X + 1 + 1 + 1, 3, none⟩) XE.out.size (show X + 1 + 1 + 1 ≠ X by omega) (ZE.out 3 none); have y4 := U5.frozen (p := ⟨X + 1 + 1 + 1, 4, none⟩) XE.out.size (show X + 1 + 1 + 1 ≠ X by omega) (ZE.out 4 none); have y5 := U5.frozen (p := ⟨X + 1 + 1 + 1, 5, none⟩) XE.out.size (show X + 1 + 1 + 1 ≠ X by omega) (ZE.out 5 none); have y6 := U5.frozen (p := ⟨X + 1 + 1 + 1, 6, none⟩) XE.out.size (show X + 1 + 1 + 1 ≠ X by omega) (ZE.out 6 none); have y7 := U5.frozen (p := ⟨X + 1 + 1 + 1, 7, none⟩) XE.out.size (show X + 1 + 1 + 1 ≠ X by omega) (ZE.out 7 none); have z0 := U5.frozen (p := ⟨X + 1 + 1 + 1 + 1, 0, none⟩) XF.out.size (show X + 1 + 1 + 1 + 1 ≠ X by omega) (ZF.out 0 none); have z1 := U5.frozen (p := ⟨X + 1 + 1 + 1 + 1, 1, none⟩) XF.out.size (show X + 1 + 1 + 1 + 1 ≠ X by omega) (ZF.out 1 none); have z2 := U5.frozen (p := ⟨X + 1 + 1 + 1 + 1, 2, none⟩) XF.out.size (show X + 1 + 1 + 1 + 1 ≠ X by omega) (ZF.out 2 none); have z3 := U5.frozen (p := ⟨X + 1 + 1 + 1 + 1, 3, none⟩) XF.out.size (show X + 1 + 1 + 1 + 1 ≠ X by omega) (ZF.out 3 none); have z4 := U5.frozen (p := ⟨X + 1 + 1 + 1 + 1, 4, none⟩) XF.out.size (show X + 1 + 1 + 1 + 1 ≠ X by omega) (ZF.out 4 none); have z5 := U5.frozen (p := ⟨X + 1 + 1 + 1 + 1, 5, none⟩) XF.out.size (show X + 1 + 1 + 1 + 1 ≠ X by omega) (ZF.out 5 none); have z6 := U5.frozen (p := ⟨X + 1 + 1 + 1 + 1, 6, none⟩) XF.out.size (show X + 1 + 1 + 1 + 1 ≠ X by omega) (ZF.out 6 none); have z7 := U5.frozen (p := ⟨X + 1 + 1 + 1 + 1, 7, none⟩) XF.out.size (show X + 1 + 1 + 1 + 1 ≠ X by omega) (ZF.out 7 none); clear E5))
      change Code.wp _ _ _ _ (lay (lay V5 (X + 1 + 1 + 1) K.1.1) (X + 1 + 1 + 1 + 1) K.1.2)
      obtain ⟨M, hM⟩ : ∃ M, M = lay (lay V5 (X + 1 + 1 + 1) K.1.1) (X + 1 + 1 + 1 + 1) K.1.2 := ⟨_, rfl⟩
      rw [← hM]
      have gM : Grew V3 M := by rw [hM]; exact lay_grew (lay_grew (U5.grew V3 (by omega) G4H.out) (by omega) _) (by omega) _
      have uE : BAt M (X + 1 + 1 + 1) K.1.1 := by rw [hM]; exact lay_far (lay_at yE.out _) (by omega) _
      have uF : BAt M (X + 1 + 1 + 1 + 1) K.1.2 := by rw [hM]; exact lay_at (lay_far yF.out (by omega) _) _
      have uC : Err M X 0 K.2 := by rw [hM]; exact lay_err (lay_err E5H.out (by omega) _) (by omega) _
      have uT : T.2 = 0 → BAt M (X + 1) T.1.1 ∧ BAt M (X + 1 + 1) T.1.2 := fun hz => by
        rw [hM]
        exact ⟨lay_far (lay_far ((H2'.out hz).1.past U5 (by omega)) (by omega) _) (by omega) _, lay_far (lay_far ((H2'.out hz).2.past U5 (by omega)) (by omega) _) (by omega) _⟩
      have uO : M.cell? ⟨O, 0, none⟩ = some (.int .i64 (2 : Int)) := by
        have hb := U5.cell (p := ⟨O, 0, none⟩) (show O ≠ X by omega) hO4H.out
        have k1 : ∀ V b B, O ≠ b → (lay V b B).cell? ⟨O, 0, none⟩ = V.cell? ⟨O, 0, none⟩ := fun V b B hb => by unfold lay; simp only [set_far hb]
        rw [hM, k1 _ _ _ (by omega), k1 _ _ _ (by omega)]
        exact hb
      have lO : O < M.heap.size := cell_block uO
      have uc := uC.1
      rw [s1] at uc
      have GM : Hid (Grew V3 M) := gM
      clear hM gM uC E5H yE yF XE XF ZE ZF G4H E4H hO4H U5 H2' y0 y1 y2 y3 y4 y5 y6 y7 z0 z1 z2 z3 z4 z5 z6 z7 e0 e1 e2 e3 e4 e5 e6 e7 g0 g1 g2 g3 g4 g5 g6 g7 ca0 ca1 ca2 ca3 ca4 ca5 ca6 ca7 cb0 cb1 cb2 cb3 cb4 cb5 cb6 cb7 hO4 CC f4 f5
      have SMo := SM.out
      clear SM
      generalize K.1 = KK at *
      by_cases hz : T.2 = 0
      · have hz1 : (T.2 == 0) = true := by simpa using hz
        obtain ⟨⟨e0, e1, e2, e3, e4, e5, e6, e7⟩, ⟨g0, g1, g2, g3, g4, g5, g6, g7⟩⟩ := uT hz
        rw [SMo hz] at uE uF
        have ⟨p0, p1, p2, p3, p4, p5, p6, p7⟩ := uE
        have ⟨q0, q1, q2, q3, q4, q5, q6, q7⟩ := uF
        have hq1 := ne_same_body T.1.1
        have hq2 := ne_same_body T.1.2
        simp only [Bd.val] at hq1 hq2
        rw [hz] at uc ⊢
        clear hz SMo uT uE uF hz1 s1
        go_wp2_with (fail)
        go_roundw
        case rel => exact ⟨_, 3, rfl, by omega, by simp [go_sem], GM.out.size, GM.out.alloc _ _⟩
        case measure => simp [wayAt, hOr, go_sem, intOf]
      · have hz1 : (T.2 == 0) = false := by simpa using hz
        clear hz SMo uT uE uF s1
        go_wp2_with (fail)
        go_roundw
        case rel => exact ⟨_, 3, rfl, by omega, by simp [go_sem], GM.out.size, GM.out.alloc _ _⟩
        case measure => simp [wayAt, hOr, go_sem, intOf]

set_option maxRecDepth 100000 in
theorem lifted (os : Os) (started : os.Started) (H : Type) (enc : TypeId × Value → H) :
    ReturnsInHanded {} Try.checked os 3 .any (Rows.pushTellsSpec.pre6 enc Try.prog Try.f3 Rows.pushTellsRow.domain false) (Rows.pushTellsSpec.post enc Try.prog Try.f3 false true false false) := by
  refine returnsInHanded_of_change (C := Try.checked) own started (by kernel_rfl) Try.func3
    (ChangeSpec.witness6 (enc := enc) (C := Try.checked) false ⟨#[], #[.agg #[.int .i64 0, .int .i64 0, .int .i64 0, .int .i64 0, .int .i64 0, .int .i64 0, .int .i64 0, .int .i64 0], .agg #[.int .i64 0, .int .i64 0, .int .i64 0, .int .i64 0, .int .i64 0, .int .i64 0, .int .i64 0, .int .i64 0], .agg #[.int .i64 0, .int .i64 0, .int .i64 0], .int .i64 0, .agg #[.int .i64 0, .int .i64 0]], []⟩ 8 (by kernel_rfl) (by kernel_rfl) (by kernel_rfl) (by kernel_rfl)) ?_
  intro W base args ds gs before hval0 hW hcnd _
  have hval : ∀ (j : Nat) t v, Try.f3.params[j]? = some t → args[j]? = some v → Value.okWide Try.prog W .any base t v := hval0
  have hW' := hW
  obtain ⟨p, q, hA0, hV, rfl, hfz, hnd⟩ := hW
  have hA : DataW.TrodAll enc Try.prog W 0 (fun _ => true) true Try.f3.params.toList args.toList ds p := hA0
  rw [Try.params3] at hA hval
  obtain ⟨v0, vs0, d0, ds0, p0, q0, hargs, rfl, rfl, h0, r0⟩ := trodAll_cons hA
  obtain ⟨v1, vs1, d1, ds1, p1, q1, rfl, rfl, rfl, h1, r1⟩ := trodAll_cons r0
  obtain ⟨v2, vs2, d2, ds2, p2, q2, rfl, rfl, rfl, h2, r2⟩ := trodAll_cons r1
  obtain ⟨v3, vs3, d3, ds3, p3, q3, rfl, rfl, rfl, h3, r3⟩ := trodAll_cons r2
  obtain ⟨v4, vs4, d4, ds4, p4, q4, rfl, rfl, rfl, h4, r4⟩ := trodAll_cons r3
  obtain ⟨rfl, rfl, rfl⟩ := trodAll_nil r4
  obtain rfl : args = #[v0, v1, v2, v3, v4] := by cases args; simp_all
  obtain ⟨rfl, rfl⟩ := trodVars_none hV
  obtain ⟨B0, rfl, rfl, rfl, o0⟩ := open_body (hval 0 26 v0 rfl rfl) h0
  obtain ⟨B1, rfl, rfl, rfl, o1⟩ := open_body (hval 1 26 v1 rfl rfl) h1
  obtain ⟨H2, rfl, rfl, rfl, o2⟩ := open_hit (hval 2 28 v2 rfl rfl) h2
  obtain ⟨a3, rfl, rfl, rfl, w3⟩ := open_int Try.underlying22 (hval 3 22 v3 rfl rfl) h3
  have f3 := inF_wf w3
  obtain ⟨x4, y4, rfl, rfl, rfl, f4, g4⟩ := open_vec (hval 4 24 v4 rfl rfl) h4
  clear hA0 hval0
  simp only [List.append_nil] at hW'
  refine (walk B0 o0 B1 o1 H2 o2 a3 f3 x4 y4 f4 g4 W     ).mono fun e W' ⟨he, hg⟩ => ?_
  subst he
  exact ⟨_, rfl, post_of_same (pa := []) (pv := []) hW' (fun _ _ _ => (trodAll_cons_mk (shut_bool Try.underlying4 _) trodAll_mk0)) (fun sp _ => (trodAll_cons_mk (shut_body o0) (trodAll_cons_mk (shut_body o1) (trodAll_cons_mk (shut_hit o2) (trodAll_cons_mk (shut_int Try.underlying22 w3) (trodAll_cons_mk (shut_vec f4 g4) trodAll_mk0)))))) (fun _ _ => rfl) rfl
    (hg.frame _) hg.2.1 (ok_one (by kernel_rfl) rfl (okWide_bool_mk Try.underlying4 _))⟩

theorem over : Rows.pushTellsRow.holds Try.pinned (OpenSpec.ofChange Rows.pushTellsSpec) :=
  OpenClaim.holds_of_wide 3 Try.f3 rfl rfl rfl rfl rfl rfl rfl ⟨rfl, rfl, rfl, rfl, rfl⟩ rfl rfl rfl rfl rfl (by kernel_rfl) Try.func3 (by kernel_rfl)
    (of_decide_eq_true (by kernel_rfl)) (by unfold Func.isWrapper; first | (rw [if_pos (by decide +kernel)]; kernel_rfl) | (rw [if_neg (by decide +kernel)]; exact ⟨rfl, rfl⟩))
    (fun os started H enc _ => lifted os started H enc)

theorem proved : Rows.PushTellsSaid :=
  over
end Go.Proofs.Ytcancbgaejekiaa.pushTells

namespace Go.Proofs.Ytcancbgaejekiaa
theorem pushTells_holds : Rows.PushTellsSaid := pushTells.proved
end Go.Proofs.Ytcancbgaejekiaa

/-
  Proved: maquettelaw7.ShapeTells returns true for every body b and every number n (whether it may be, its speed, its lightness are the document's, or the panic's error is; every shape's name), and leaves what it was given as it was; no condition.
-/
import Derived.Test.YthfecjmgmnjaoaaRows
import Derived.Test.YthfecjmgmnjaoaaBAlive
import Derived.Test.YthfecjmgmnjaoaaBData
import Derived.Test.YthfecjmgmnjaoaaBRef
import Derived.WalkKit
import Derived.Deep.QuietTactic
import Derived.BigQuiet
import Derived.WalkSpells
import Derived.Deep.CutRange
import Derived.Deep.CutBlock
import Derived.WalkLawsBesides
import Derived.ProofKit
import Derived.OpenShut
namespace Go.Proofs.Ythfecjmgmnjaoaa.shapeTells
open Go.ChangeShapes Go.WideShapes Go.ChangeAt Go.RowKit
set_option linter.unusedVariables false

theorem own : ownKnob Try.prog.godebug = none := by kernel_rfl

theorem name_ball (w : World) : Calls Try.prog 18 #[.int .i64 1] w fun e w' => e = .returned (.string ⟨#[98, 97, 108, 108]⟩) ∧ w' = w := by
  go_enter Try.func18, Try.ntmps18
  go_wp2
  go_ret
  exact ⟨rfl, rfl⟩
theorem name_none (n : Int) (h1 : (n == 1) = false) (h2 : (n == 2) = false) (w : World) : Calls Try.prog 18 #[.int .i64 n] w fun e w' => e = .returned (.string ⟨#[]⟩) ∧ w' = w := by
  go_enter Try.func18, Try.ntmps18
  go_wp2
  go_ret
  exact ⟨rfl, rfl⟩
set_option maxHeartbeats 1000000 in
theorem tells1 (C V : Nat) (B : Bd) (oB : B.ok) (W : World) (hB : BAt W C B) (hV : At W V 0 0) (zV : Free W V) :
    Calls Try.prog 12 #[.pointer (some ⟨C, 0, none⟩), .pointer (some ⟨V, 0, none⟩)] W fun e w1 =>
      Wrote (fun i => i = V) W w1 ∧ ∃ k, (e = .returned (.tuple #[]) ∧ k = 0 ∨ e = .panicked [fault k]) ∧ LeftV V (speedR B) k w1 := by
  have H1 : Hid (∀ W, _) := fun W => waysV_of (shape_speed B oB W)
  unfold Bd.val vec at H1
  generalize speedR B = t at *
  obtain ⟨b0, b1, b2, b3, b4, b5, b6, b7⟩ := hB
  obtain ⟨v0, v1⟩ := hV
  have z0 := zV 0 none
  have z1 := zV 1 none
  go_enter Try.func12, Try.ntmps12
  go_wp2_with (first
    | (go_at_call 13; go_fit (H1.out _); rintro e V1 ⟨(⟨rfl, h1⟩ | ⟨rfl, h1⟩), U1⟩; have t0 := U1.cell v0; have t1 := U1.cell v1; have y0 := U1.frozen z0; have y1 := U1.frozen z1))
  · go_end0
    exact ⟨U1.set1 V _ _, 0, .inl ⟨rfl, rfl⟩, h1.out.symm, fun _ => at_set V1 V 0 0 _ _ ⟨t0, t1⟩⟩
  · exact ⟨rfl, U1.wrote, t.2.2, .inr rfl, rfl, fun h => absurd h h1.out⟩
set_option maxHeartbeats 1000000 in
theorem tells2 (C L : Nat) (B : Bd) (oB : B.ok) (W : World) (hB : BAt W C B) (hL : W.cell? ⟨L, 0, none⟩ = some (.int .i64 0)) (zL : Free W L) :
    Calls Try.prog 14 #[.pointer (some ⟨C, 0, none⟩), .pointer (some ⟨L, 0, none⟩)] W fun e w1 =>
      Wrote (fun i => i = L) W w1 ∧ ∃ k, (e = .returned (.tuple #[]) ∧ k = 0 ∨ e = .panicked [fault k]) ∧ Left L (lightR B) k w1 := by
  have H1 : Hid (∀ W, _) := fun W => ways_of (shape_light B oB W)
  unfold Bd.val at H1
  generalize lightR B = t at *
  obtain ⟨b0, b1, b2, b3, b4, b5, b6, b7⟩ := hB
  have z0 := zL 0 none
  go_enter Try.func14, Try.ntmps14
  go_wp2_with (first
    | (go_at_call 15; go_fit (H1.out _); rintro e V1 ⟨(⟨rfl, h1⟩ | ⟨rfl, h1⟩), U1⟩; have t0 := U1.cell hL; have y0 := U1.frozen z0))
  · go_end0
    exact ⟨(U1.wrote (S := fun i => i = L)).set rfl _ _ _, 0, .inl ⟨rfl, rfl⟩, h1.out.symm, fun _ => World.cell?_setCell_same _ _ _ t0⟩
  · exact ⟨rfl, U1.wrote, t.2, .inr rfl, rfl, fun h => absurd h h1.out⟩

set_option maxHeartbeats 16000000 in
theorem walk (B0 : Bd) (o0 : B0.ok) (a1 : Int) (f1 : inF a1) (w : World) :
    Calls Try.prog 3 #[B0.val, .int .i64 a1] w fun e w' => e = .returned (.bool true) ∧ Grown w w' := by
  have hmf := mk_func
  unfold Bd.val
  go_enter Try.func3, Try.ntmps3
  go_wp2_with (first
    | (go_at_call 8; go_fit (alive_any _); rintro e V ⟨rfl, G⟩; have BV : BAt V w.heap.size B0 := BAt.grew (by constructor <;> simp [go_sem]) G; have GM := (((Grew.refl V).alloc #[.int .i64 0] 30).alloc #[.int .i64 0] 30); have BM := BV.grew GM; obtain ⟨b0, b1, b2, b3, b4, b5, b6, b7⟩ := id BM))
  have G1 : Grew w V := ((Grew.refl w).alloc _ _).trans G
  have sw := BV.size
  obtain ⟨M, hM⟩ : ∃ M, M = (V.alloc (.cells #[.int .i64 0] 30)).alloc (.cells #[.int .i64 0] 30) := ⟨_, rfl⟩
  rw [← hM] at GM BM ⊢
  have sz : M.heap.size = V.heap.size + 1 + 1 := by rw [hM]; simp [go_sem]
  have G2 := G1.trans GM
  have E0 : Err M V.heap.size 0 0 := ⟨by rw [hM]; simp [go_sem], G2.free (by simp; omega)⟩
  have E2 : Err M (V.heap.size + 1) 0 0 := ⟨by rw [hM]; simp [go_sem], G2.free (by simp; omega)⟩
  clear b0 b1 b2 b3 b4 b5 b6 b7 G BV hM GM G1
  generalize hX : V.heap.size = X at *
  clear hX V
  refine (rspeed_any X B0 o0 M E0).mono ?_
  rintro e V1 ⟨⟨p, q, rfl, hpq⟩, E1, U1⟩
  have BM1 := BM.heap (U1.block _ BM.size (by omega))
  have E2' : Err V1 (X + 1) 0 0 := ⟨U1.cell (by simp) E2.1, U1.frozen (by simp; omega) (by simp) E2.2⟩
  have G3 : Grew w V1 := U1.grew w (by omega) G2
  have s1 : X + 1 + 1 ≤ V1.heap.size := by have := U1.size; omega
  clear E0 E2 BM U1 G2 sz M
  have GW := (Grew.refl V1).alloc #[.int .i64 p, .int .i64 q] 24
  have BM2 := BM1.grew GW
  obtain ⟨b0, b1, b2, b3, b4, b5, b6, b7⟩ := id BM2
  go_wp2_with (fail)
  obtain ⟨M, hM⟩ : ∃ M, M = V1.alloc (.cells #[.int .i64 p, .int .i64 q] 24) := ⟨_, rfl⟩
  rw [← hM] at GW BM2 ⊢
  have AW : At M V1.heap.size p q := by rw [hM]; constructor <;> simp [go_sem]
  have E3 := E1.grew GW
  have E4 := E2'.grew GW
  have G4 := G3.trans GW
  generalize hY : V1.heap.size = Y at *
  have sM : M.heap.size = Y + 1 := by rw [hM]; simp [go_sem, hY]
  clear b0 b1 b2 b3 b4 b5 b6 b7 hM GW BM1 G3 E1 E2' hY V1
  refine (rlight_any (X + 1) B0 o0 M E4).mono ?_
  rintro e V2 ⟨rfl, E5, U2⟩
  have BM3 := BM2.heap (U2.block _ BM2.size (by omega))
  have E6 : Err V2 X 0 (speedR B0).2.2 := ⟨U2.cell (by simp) E3.1, U2.frozen (by simp; omega) (by simp) E3.2⟩
  have AW2 := AW.heap (U2.block _ AW.size (by omega))
  have G5 : Grew w V2 := U2.grew w (by omega) G4
  have s2 : Y + 1 ≤ V2.heap.size := by have := U2.size; omega
  clear E3 E4 AW BM2 U2 G4 sM M
  go_wp2_with (fail)
  obtain ⟨M, hM⟩ : ∃ M, M = (V2.alloc (.cells #[.int .i64 0, .int .i64 0] 24)).alloc (.cells #[.int .i64 0] 22) := ⟨_, rfl⟩
  rw [← hM]
  generalize hZ : V2.heap.size = Z at *
  have GM : Grew V2 M := by rw [hM]; exact ((Grew.refl V2).alloc _ _).alloc _ _
  have sM : M.heap.size = Z + 1 + 1 := by rw [hM]; simp [go_sem, hZ]
  have AV : At M Z 0 0 := by rw [hM]; constructor <;> simp [go_sem, hZ]
  have AL : M.cell? ⟨Z + 1, 0, none⟩ = some (.int .i64 0) := by rw [hM]; simp [go_sem, hZ]
  have G6 := G5.trans GM
  replace E5 := E5.grew GM
  replace E6 := E6.grew GM
  replace BM3 := BM3.grew GM
  replace AW2 := AW2.grew GM
  clear hM GM G5 hZ V2
  refine (try_set (S := fun i => i = Z) (P := LeftV Z (speedR B0)) _ _ _ (fun _ => by simp [go_sem]) (fun n hn => by omega) (LeftV.keep (by omega)) (fun W0 g => tells1 _ _ B0 o0 W0 (BM3.grew g) (AV.grew g) ((G6.trans g).freeB (by omega)))).mono ?_
  rintro e N ⟨hW, e, rfl, he, hv⟩
  have G7 : Grew w N := hW.to G6 (fun n hn => by omega)
  replace E5 : Err N _ _ _ := ⟨hW.cell E5.1 (by simp; omega), hW.frozen (by simp; omega) (by simp; omega) E5.2⟩
  replace E6 : Err N _ _ _ := ⟨hW.cell E6.1 (by simp; omega), hW.frozen (by simp; omega) (by simp; omega) E6.2⟩
  replace BM3 := BM3.wrote hW (by omega)
  replace AW2 := AW2.wrote hW (by omega)
  replace AL := hW.cell AL (by simp)
  have sN : Z + 1 + 1 ≤ N.heap.size := by have := hW.size; omega
  clear hW G6 AV sM M
  have HE : Hid (e = _) := he
  clear he
  go_wp2_with (fail)
  refine (try_set (S := fun i => i = Z + 1) (P := Left (Z + 1) (lightR B0)) _ _ _ (fun _ => by simp [go_sem]) (fun n hn => by omega) (Left.keep (by omega)) (fun W0 g => tells2 _ _ B0 o0 W0 (BM3.grew g) (g.cell AL) ((G7.trans g).freeB (by omega)))).mono ?_
  rintro e' N2 ⟨hW, f, rfl, hf, hl⟩
  have G8 : Grew w N2 := hW.to G7 (fun n hn => by omega)
  replace E5 := hW.cell E5.1 (by simp; omega)
  replace E6 := hW.cell E6.1 (by simp; omega)
  replace BM3 := BM3.wrote hW (by omega)
  replace AW2 := AW2.wrote hW (by omega)
  replace hv := fun h => (hv h).wrote hW (by omega)
  have sN2 : Z + 1 + 1 ≤ N2.heap.size := by have := hW.size; omega
  clear hW G7 AL sN N
  have R1 : Hid (∀ W, _) := fun W => shape_right B0 W
  have R2 : Hid (∀ W, _) := fun W => ref_right B0 W
  unfold Bd.val at R1 R2
  generalize rightB B0 = r at *
  have hv' : e = 0 → At N2 Z p q := fun h => by
    have h1 := hpq (HE.out ▸ h)
    rw [h1.1, h1.2]
    exact hv h
  rw [← HE.out] at E6
  rw [← hf] at E5
  clear hv hpq HE hf o0
  generalize (lightR B0).1 = l at *
  obtain ⟨b0, b1, b2, b3, b4, b5, b6, b7⟩ := BM3
  obtain ⟨w0, w1⟩ := AW2
  have hq := same_vec p q
  go_upto_block 0 with (fail)
  go_cut [13] from 25 to 28 (fun s wx => wx = N2 ∧ ∃ b : ByteArray, s = .string b ∧ Hid (∀ W, Calls Try.prog 18 #[.int .i64 a1] W fun e w' => e = .returned (.string b) ∧ w' = W))
  case first =>
    by_cases n1 : a1 = 1
    · subst n1
      go_wp2_with (fail)
      go_meet
      case rel => exact ⟨rfl, _, rfl, name_ball⟩
    · have k1 : (a1 == 1) = false := by simpa using n1
      by_cases n2 : a1 = 2
      · subst n2
        go_wp2_with (fail)
        go_meet
        case rel => exact ⟨rfl, _, rfl, name_crate⟩
      · have k2 : (a1 == 2) = false := by simpa using n2
        go_wp2_with (fail)
        go_meet
        case rel => exact ⟨rfl, _, rfl, name_none _ k1 k2⟩
  obtain ⟨rfl, nm, rfl, HN⟩ := hcut
  go_wp2_with (fail)
  by_cases h0 : e = 0
  · subst h0
    obtain ⟨v0, v1⟩ := hv' rfl
    clear hv'
    by_cases h1 : f = 0
    · subst h1
      have l0 := hl rfl
      clear hl
      first | go_region_held2 (fun w' => w'.cell? ⟨w.heap.size, 0, none⟩ = some (.int .i64 B0.s) ∧ w'.cell? ⟨w.heap.size, 1, none⟩ = some (.int .i64 B0.a) ∧ w'.cell? ⟨w.heap.size, 2, none⟩ = some (.int .i64 B0.b) ∧ w'.cell? ⟨w.heap.size, 3, none⟩ = some (.int .i64 B0.m) ∧ w'.cell? ⟨w.heap.size, 4, none⟩ = some (.int .i64 B0.p) ∧ w'.cell? ⟨w.heap.size, 5, none⟩ = some (.int .i64 B0.q) ∧ w'.cell? ⟨w.heap.size, 6, none⟩ = some (.int .i64 B0.u) ∧ w'.cell? ⟨w.heap.size, 7, none⟩ = some (.int .i64 B0.v) ∧ w'.cell? ⟨X, 0, none⟩ = some (.int .i64 0) ∧ w'.cell? ⟨X + 1, 0, none⟩ = some (.int .i64 0) ∧ w'.cell? ⟨Y, 0, none⟩ = some (.int .i64 p) ∧ w'.cell? ⟨Y, 1, none⟩ = some (.int .i64 q) ∧ w'.cell? ⟨Z, 0, none⟩ = some (.int .i64 p) ∧ w'.cell? ⟨Z, 1, none⟩ = some (.int .i64 q) ∧ w'.cell? ⟨Z + 1, 0, none⟩ = some (.int .i64 l)) (go_keep)
        (first
        | (go_at_call 16; go_fit (R1.out _); rintro e V1 ⟨rfl, U1⟩; have s1 := U1.size; try (simp at s1); have kU10 := U1.cells (b := w.heap.size) (by first | omega | (simp; omega)); have kU11 := U1.cells (b := X) (by first | omega | (simp; omega)); have kU12 := U1.cells (b := (X + 1)) (by first | omega | (simp; omega)); have kU13 := U1.cells (b := Y) (by first | omega | (simp; omega)); have kU14 := U1.cells (b := Z) (by first | omega | (simp; omega)); have kU15 := U1.cells (b := (Z + 1)) (by first | omega | (simp; omega)))
        | (go_at_call 17; go_fit (R2.out _); rintro e V2 ⟨rfl, U2⟩; have kU20 := U2.cells (b := w.heap.size) (by first | omega | (simp; omega)); have kU21 := U2.cells (b := X) (by first | omega | (simp; omega)); have kU22 := U2.cells (b := (X + 1)) (by first | omega | (simp; omega)); have kU23 := U2.cells (b := Y) (by first | omega | (simp; omega)); have kU24 := U2.cells (b := Z) (by first | omega | (simp; omega)); have kU25 := U2.cells (b := (Z + 1)) (by first | omega | (simp; omega)))
        | (go_at_call 18; go_fit (HN.out _); rintro e w' ⟨rfl, rfl⟩)) | fail
      all_goals
        go_wp2
        go_ret
        exact ⟨rfl, (((G8.drew).trans U1).trans U2).grown⟩
    · have z1 : (f == 0) = false := by simpa using h1
      have z2 : (f != 0) = true := by simpa using h1
      clear hl h1
      first | go_region_held2 (fun w' => w'.cell? ⟨w.heap.size, 0, none⟩ = some (.int .i64 B0.s) ∧ w'.cell? ⟨w.heap.size, 1, none⟩ = some (.int .i64 B0.a) ∧ w'.cell? ⟨w.heap.size, 2, none⟩ = some (.int .i64 B0.b) ∧ w'.cell? ⟨w.heap.size, 3, none⟩ = some (.int .i64 B0.m) ∧ w'.cell? ⟨w.heap.size, 4, none⟩ = some (.int .i64 B0.p) ∧ w'.cell? ⟨w.heap.size, 5, none⟩ = some (.int .i64 B0.q) ∧ w'.cell? ⟨w.heap.size, 6, none⟩ = some (.int .i64 B0.u) ∧ w'.cell? ⟨w.heap.size, 7, none⟩ = some (.int .i64 B0.v) ∧ w'.cell? ⟨X, 0, none⟩ = some (.int .i64 0) ∧ w'.cell? ⟨X + 1, 0, none⟩ = some (.int .i64 f) ∧ w'.cell? ⟨Y, 0, none⟩ = some (.int .i64 p) ∧ w'.cell? ⟨Y, 1, none⟩ = some (.int .i64 q) ∧ w'.cell? ⟨Z, 0, none⟩ = some (.int .i64 p) ∧ w'.cell? ⟨Z, 1, none⟩ = some (.int .i64 q)) (go_keep)
        (first
        | (go_at_call 16; go_fit (R1.out _); rintro e V1 ⟨rfl, U1⟩; have s1 := U1.size; try (simp at s1); have kU10 := U1.cells (b := w.heap.size) (by first | omega | (simp; omega)); have kU11 := U1.cells (b := X) (by first | omega | (simp; omega)); have kU12 := U1.cells (b := (X + 1)) (by first | omega | (simp; omega)); have kU13 := U1.cells (b := Y) (by first | omega | (simp; omega)); have kU14 := U1.cells (b := Z) (by first | omega | (simp; omega)))
        | (go_at_call 17; go_fit (R2.out _); rintro e V2 ⟨rfl, U2⟩; have kU20 := U2.cells (b := w.heap.size) (by first | omega | (simp; omega)); have kU21 := U2.cells (b := X) (by first | omega | (simp; omega)); have kU22 := U2.cells (b := (X + 1)) (by first | omega | (simp; omega)); have kU23 := U2.cells (b := Y) (by first | omega | (simp; omega)); have kU24 := U2.cells (b := Z) (by first | omega | (simp; omega)))
        | (go_at_call 18; go_fit (HN.out _); rintro e w' ⟨rfl, rfl⟩)) | fail
      all_goals
        go_wp2
        go_ret
        exact ⟨rfl, (((G8.drew).trans U1).trans U2).grown⟩
  · have y1 : (e == 0) = false := by simpa using h0
    have y2 : (e != 0) = true := by simpa using h0
    clear hv' h0
    by_cases h1 : f = 0
    · subst h1
      have l0 := hl rfl
      clear hl
      first | go_region_held2 (fun w' => w'.cell? ⟨w.heap.size, 0, none⟩ = some (.int .i64 B0.s) ∧ w'.cell? ⟨w.heap.size, 1, none⟩ = some (.int .i64 B0.a) ∧ w'.cell? ⟨w.heap.size, 2, none⟩ = some (.int .i64 B0.b) ∧ w'.cell? ⟨w.heap.size, 3, none⟩ = some (.int .i64 B0.m) ∧ w'.cell? ⟨w.heap.size, 4, none⟩ = some (.int .i64 B0.p) ∧ w'.cell? ⟨w.heap.size, 5, none⟩ = some (.int .i64 B0.q) ∧ w'.cell? ⟨w.heap.size, 6, none⟩ = some (.int .i64 B0.u) ∧ w'.cell? ⟨w.heap.size, 7, none⟩ = some (.int .i64 B0.v) ∧ w'.cell? ⟨X, 0, none⟩ = some (.int .i64 e) ∧ w'.cell? ⟨X + 1, 0, none⟩ = some (.int .i64 0) ∧ w'.cell? ⟨Z + 1, 0, none⟩ = some (.int .i64 l)) (go_keep)
        (first
        | (go_at_call 16; go_fit (R1.out _); rintro e V1 ⟨rfl, U1⟩; have s1 := U1.size; try (simp at s1); have kU10 := U1.cells (b := w.heap.size) (by first | omega | (simp; omega)); have kU11 := U1.cells (b := X) (by first | omega | (simp; omega)); have kU12 := U1.cells (b := (X + 1)) (by first | omega | (simp; omega)); have kU15 := U1.cells (b := (Z + 1)) (by first | omega | (simp; omega)))
        | (go_at_call 17; go_fit (R2.out _); rintro e V2 ⟨rfl, U2⟩; have kU20 := U2.cells (b := w.heap.size) (by first | omega | (simp; omega)); have kU21 := U2.cells (b := X) (by first | omega | (simp; omega)); have kU22 := U2.cells (b := (X + 1)) (by first | omega | (simp; omega)); have kU25 := U2.cells (b := (Z + 1)) (by first | omega | (simp; omega)))
        | (go_at_call 18; go_fit (HN.out _); rintro e w' ⟨rfl, rfl⟩)) | fail
      all_goals
        go_wp2
        go_ret
        exact ⟨rfl, (((G8.drew).trans U1).trans U2).grown⟩
    · have z1 : (f == 0) = false := by simpa using h1
      have z2 : (f != 0) = true := by simpa using h1
      clear hl h1
      first | go_region_held2 (fun w' => w'.cell? ⟨w.heap.size, 0, none⟩ = some (.int .i64 B0.s) ∧ w'.cell? ⟨w.heap.size, 1, none⟩ = some (.int .i64 B0.a) ∧ w'.cell? ⟨w.heap.size, 2, none⟩ = some (.int .i64 B0.b) ∧ w'.cell? ⟨w.heap.size, 3, none⟩ = some (.int .i64 B0.m) ∧ w'.cell? ⟨w.heap.size, 4, none⟩ = some (.int .i64 B0.p) ∧ w'.cell? ⟨w.heap.size, 5, none⟩ = some (.int .i64 B0.q) ∧ w'.cell? ⟨w.heap.size, 6, none⟩ = some (.int .i64 B0.u) ∧ w'.cell? ⟨w.heap.size, 7, none⟩ = some (.int .i64 B0.v) ∧ w'.cell? ⟨X, 0, none⟩ = some (.int .i64 e) ∧ w'.cell? ⟨X + 1, 0, none⟩ = some (.int .i64 f)) (go_keep)
        (first
        | (go_at_call 16; go_fit (R1.out _); rintro e V1 ⟨rfl, U1⟩; have s1 := U1.size; try (simp at s1); have kU10 := U1.cells (b := w.heap.size) (by first | omega | (simp; omega)); have kU11 := U1.cells (b := X) (by first | omega | (simp; omega)); have kU12 := U1.cells (b := (X + 1)) (by first | omega | (simp; omega)))
        | (go_at_call 17; go_fit (R2.out _); rintro e V2 ⟨rfl, U2⟩; have kU20 := U2.cells (b := w.heap.size) (by first | omega | (simp; omega)); have kU21 := U2.cells (b := X) (by first | omega | (simp; omega)); have kU22 := U2.cells (b := (X + 1)) (by first | omega | (simp; omega)))
        | (go_at_call 18; go_fit (HN.out _); rintro e w' ⟨rfl, rfl⟩)) | fail
      all_goals
        go_wp2
        go_ret
        exact ⟨rfl, (((G8.drew).trans U1).trans U2).grown⟩

set_option maxRecDepth 100000 in
theorem lifted (os : Os) (started : os.Started) (H : Type) (enc : TypeId × Value → H) :
    ReturnsInHanded {} Try.checked os 3 .any (Rows.shapeTellsSpec.pre6 enc Try.prog Try.f3 Rows.shapeTellsRow.domain false) (Rows.shapeTellsSpec.post enc Try.prog Try.f3 false true false false) := by
  refine returnsInHanded_of_change (C := Try.checked) own started (by kernel_rfl) Try.func3
    (ChangeSpec.witness6 (enc := enc) (C := Try.checked) false ⟨#[], #[.agg #[.int .i64 0, .int .i64 0, .int .i64 0, .int .i64 0, .int .i64 0, .int .i64 0, .int .i64 0, .int .i64 0], .int .i64 0], []⟩ 8 (by kernel_rfl) (by kernel_rfl) (by kernel_rfl) (by kernel_rfl)) ?_
  intro W base args ds gs before hval0 hW hcnd _
  have hval : ∀ (j : Nat) t v, Try.f3.params[j]? = some t → args[j]? = some v → Value.okWide Try.prog W .any base t v := hval0
  have hW' := hW
  obtain ⟨p, q, hA0, hV, rfl, hfz, hnd⟩ := hW
  have hA : DataW.TrodAll enc Try.prog W 0 (fun _ => true) true Try.f3.params.toList args.toList ds p := hA0
  rw [Try.params3] at hA hval
  obtain ⟨v0, vs0, d0, ds0, p0, q0, hargs, rfl, rfl, h0, r0⟩ := trodAll_cons hA
  obtain ⟨v1, vs1, d1, ds1, p1, q1, rfl, rfl, rfl, h1, r1⟩ := trodAll_cons r0
  obtain ⟨rfl, rfl, rfl⟩ := trodAll_nil r1
  obtain rfl : args = #[v0, v1] := by cases args; simp_all
  obtain ⟨rfl, rfl⟩ := trodVars_none hV
  obtain ⟨B0, rfl, rfl, rfl, o0⟩ := open_body (hval 0 26 v0 rfl rfl) h0
  obtain ⟨a1, rfl, rfl, rfl, w1⟩ := open_int Try.underlying3 (hval 1 3 v1 rfl rfl) h1
  have f1 := inF_wf w1
  clear hA0 hval0
  simp only [List.append_nil] at hW'
  refine (walk B0 o0 a1 f1 W).mono fun e W' ⟨he, hg⟩ => ?_
  subst he
  exact ⟨_, rfl, post_of_same (pa := []) (pv := []) hW' (fun _ _ _ => (trodAll_cons_mk (shut_bool Try.underlying4 _) trodAll_mk0)) (fun sp _ => (trodAll_cons_mk (shut_body o0) (trodAll_cons_mk (shut_int Try.underlying3 w1) trodAll_mk0))) (fun _ _ => rfl) rfl
    (hg.frame _) hg.2.1 (ok_one (by kernel_rfl) rfl (okWide_bool_mk Try.underlying4 _))⟩

theorem over : Rows.shapeTellsRow.holds Try.pinned (OpenSpec.ofChange Rows.shapeTellsSpec) :=
  OpenClaim.holds_of_wide 3 Try.f3 rfl rfl rfl rfl rfl rfl rfl ⟨rfl, rfl, rfl, rfl, rfl⟩ rfl rfl rfl rfl rfl (by kernel_rfl) Try.func3 (by kernel_rfl)
    (of_decide_eq_true (by kernel_rfl)) (by unfold Func.isWrapper; first | (rw [if_pos (by decide +kernel)]; kernel_rfl) | (rw [if_neg (by decide +kernel)]; exact ⟨rfl, rfl⟩))
    (fun os started H enc _ => lifted os started H enc)

theorem proved : Rows.ShapeTellsSaid :=
  over
end Go.Proofs.Ythfecjmgmnjaoaa.shapeTells

namespace Go.Proofs.Ythfecjmgmnjaoaa
theorem shapeTells_holds : Rows.ShapeTellsSaid := shapeTells.proved
end Go.Proofs.Ythfecjmgmnjaoaa

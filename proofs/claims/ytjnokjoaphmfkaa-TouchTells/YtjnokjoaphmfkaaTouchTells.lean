/-
  Proved: maquettelaw10.TouchTells returns true for every two bodies a and b (Hit and Flip tell what the document's own answer tells: the contact, that there is none, or the error), and leaves what it was given as it was; no condition.
-/
import Derived.Test.YtjnokjoaphmfkaaRows
import Derived.Test.YtjnokjoaphmfkaaHRef4
import Derived.Test.YtjnokjoaphmfkaaBData
import Derived.WalkKit
import Derived.Deep.QuietTactic
import Derived.BigQuiet
import Derived.WalkSpells
import Derived.Deep.CutRange
import Derived.Deep.CutBlock
import Derived.WalkLawsBesides
import Derived.ProofKit
import Derived.OpenShut
namespace Go.Proofs.Ytjnokjoaphmfkaa.touchTells
open Go.ChangeShapes Go.WideShapes Go.ChangeAt Go.RowKit
set_option linter.unusedVariables false

theorem own : ownKnob Try.prog.godebug = none := by kernel_rfl

set_option maxHeartbeats 1000000 in
theorem ask_turn (a f : Nat) (haf : a ≠ f) (g : Ht) (ok : g.ok) (W : World) (hG : HAt W a g) (hF : HAt W f ⟨0, 0, 0⟩) (z : Free W f) :
    Calls Try.prog 14 #[.pointer (some ⟨a, 0, none⟩), .pointer (some ⟨f, 0, none⟩)] W fun e w' =>
      Wrote (fun n => n = f) W w' ∧ ∃ x, (e = .returned (.tuple #[]) ∧ x = 0 ∨ e = .panicked [fault x]) ∧ (x = (flipR g).2 ∧ (x = 0 → HAt w' f (flipR g).1)) := by
  have c1 := fun W => waysF_of (flip_any g ok W)
  generalize flipR g = T at *
  have C1 : Hid _ := c1
  clear c1 ok
  obtain ⟨a0, a1, a2⟩ := hG
  obtain ⟨u0, u1, u2⟩ := hF
  go_enter Try.func14, Try.ntmps14
  go_wp2_with (first
    | (go_at_call 15; go_fit (C1.out _); rintro e V ⟨(⟨rfl, h1⟩ | ⟨rfl, h1⟩), U⟩; have c0 := U.cell u0; have c1 := U.cell u1; have c2 := U.cell u2; have z0 := U.frozen (z 0 none); have z1 := U.frozen (z 1 none); have z2 := U.frozen (z 2 none)))
  rotate_left
  · exact ⟨rfl, U.wrote, _, .inr rfl, rfl, fun e => absurd e h1.out⟩
  go_end0
  exact ⟨U.set3 f _ _ _, 0, .inl ⟨rfl, rfl⟩, h1.out.symm, fun _ => hat_set V f ⟨0, 0, 0⟩ T.1 ⟨c0, c1, c2⟩⟩

set_option maxRecDepth 10000 in
set_option maxHeartbeats 8000000 in
theorem walk (B0 : Bd) (o0 : B0.ok) (B1 : Bd) (o1 : B1.ok) (w : World)  :
    Calls Try.prog 3 #[B0.val, B1.val] w fun e w' => e = .returned (.bool true) ∧ Grown w w' := by
  have hmf := mk_func
  have oT := hitR_ok B0 B1
  have CH : Hid (∀ X W, Err W X 0 0 → Calls Try.prog 10 #[.pointer (some ⟨X, 0, none⟩), .agg #[.int .i64 B0.s, .int .i64 B0.a, .int .i64 B0.b, .int .i64 B0.m, .int .i64 B0.p, .int .i64 B0.q, .int .i64 B0.u, .int .i64 B0.v], .agg #[.int .i64 B1.s, .int .i64 B1.a, .int .i64 B1.b, .int .i64 B1.m, .int .i64 B1.p, .int .i64 B1.q, .int .i64 B1.u, .int .i64 B1.v]] W fun e w' => okH (hitR B0 B1) e ∧ Err w' X 0 (hitR B0 B1).2 ∧ Past X W w') := fun X W h => rhit_any X B0 B1 o0 o1 W h
  obtain ⟨T, hT⟩ : ∃ T, hitR B0 B1 = T := ⟨_, rfl⟩
  rw [hT] at CH oT
  have HT : Hid (_ = _) := hT
  clear hT
  unfold okH at CH
  obtain ⟨⟨⟨tx, ty, td⟩, tb⟩, tk⟩ := T
  simp only at CH oT
  have CF : Hid (∀ X W, Err W X 0 0 → Calls Try.prog 16 #[.pointer (some ⟨X, 0, none⟩), .agg #[.int .i64 tx, .int .i64 ty, .int .i64 td]] W fun e w' => (∃ v : Ht, e = .returned (.agg #[.int .i64 v.x, .int .i64 v.y, .int .i64 v.d]) ∧ Hid ((flipR ⟨tx, ty, td⟩).2 = 0 → v = (flipR ⟨tx, ty, td⟩).1)) ∧ Err w' X 0 (flipR ⟨tx, ty, td⟩).2 ∧ Past X W w') := fun X W h => rflip_any X ⟨tx, ty, td⟩ oT W h
  obtain ⟨F, hF⟩ : ∃ F, flipR ⟨tx, ty, td⟩ = F := ⟨_, rfl⟩
  rw [hF] at CF
  have HF : Hid (_ = _) := hF
  clear hF
  obtain ⟨⟨fx, fy, fd⟩, fk⟩ := F
  simp only at CF
  have G0 : Hid (Grew w ((w.alloc (.cells #[.int .i64 B0.s, .int .i64 B0.a, .int .i64 B0.b, .int .i64 B0.m, .int .i64 B0.p, .int .i64 B0.q, .int .i64 B0.u, .int .i64 B0.v] 26)).alloc (.cells #[.int .i64 B1.s, .int .i64 B1.a, .int .i64 B1.b, .int .i64 B1.m, .int .i64 B1.p, .int .i64 B1.q, .int .i64 B1.u, .int .i64 B1.v] 26))) := ((Grew.refl w).alloc _ _).alloc _ _
  unfold Bd.val
  go_enter Try.func3, Try.ntmps3
  go_upto_region 4 with (first
    | (go_at_call 9; go_fit (alive_any _); rintro e V1 ⟨rfl, U1⟩; have a0 := U1.cell (p := ⟨w.heap.size, 0, none⟩) (v := .int .i64 B0.s) (by simp [go_sem]); have a1 := U1.cell (p := ⟨w.heap.size, 1, none⟩) (v := .int .i64 B0.a) (by simp [go_sem]); have a2 := U1.cell (p := ⟨w.heap.size, 2, none⟩) (v := .int .i64 B0.b) (by simp [go_sem]); have a3 := U1.cell (p := ⟨w.heap.size, 3, none⟩) (v := .int .i64 B0.m) (by simp [go_sem]); have a4 := U1.cell (p := ⟨w.heap.size, 4, none⟩) (v := .int .i64 B0.p) (by simp [go_sem]); have a5 := U1.cell (p := ⟨w.heap.size, 5, none⟩) (v := .int .i64 B0.q) (by simp [go_sem]); have a6 := U1.cell (p := ⟨w.heap.size, 6, none⟩) (v := .int .i64 B0.u) (by simp [go_sem]); have a7 := U1.cell (p := ⟨w.heap.size, 7, none⟩) (v := .int .i64 B0.v) (by simp [go_sem]); have b0 := U1.cell (p := ⟨w.heap.size + 1, 0, none⟩) (v := .int .i64 B1.s) (by simp [go_sem]); have b1 := U1.cell (p := ⟨w.heap.size + 1, 1, none⟩) (v := .int .i64 B1.a) (by simp [go_sem]); have b2 := U1.cell (p := ⟨w.heap.size + 1, 2, none⟩) (v := .int .i64 B1.b) (by simp [go_sem]); have b3 := U1.cell (p := ⟨w.heap.size + 1, 3, none⟩) (v := .int .i64 B1.m) (by simp [go_sem]); have b4 := U1.cell (p := ⟨w.heap.size + 1, 4, none⟩) (v := .int .i64 B1.p) (by simp [go_sem]); have b5 := U1.cell (p := ⟨w.heap.size + 1, 5, none⟩) (v := .int .i64 B1.q) (by simp [go_sem]); have b6 := U1.cell (p := ⟨w.heap.size + 1, 6, none⟩) (v := .int .i64 B1.u) (by simp [go_sem]); have b7 := U1.cell (p := ⟨w.heap.size + 1, 7, none⟩) (v := .int .i64 B1.v) (by simp [go_sem])))
  obtain ⟨Q, hQ⟩ : ∃ Q, Q = (V1.alloc (.cells #[.int .i64 0] 30)).alloc (.cells #[.int .i64 0] 30) := ⟨_, rfl⟩
  rw [← hQ]
  have gQ : Grew V1 Q := by rw [hQ]; exact ((Grew.refl V1).alloc _ _).alloc _ _
  have sQ : Q.heap.size = V1.heap.size + 1 + 1 := by rw [hQ]; simp [go_sem]
  have EC : Err Q V1.heap.size 0 0 := ⟨by rw [hQ]; simp [go_sem], by rw [hQ]; simp [go_sem]⟩
  have ED : Err Q (V1.heap.size + 1) 0 0 := ⟨by rw [hQ]; simp [go_sem], by rw [hQ]; simp [go_sem]⟩
  have hA : Hid (BAt Q w.heap.size B0) := BAt.grew ⟨a0, a1, a2, a3, a4, a5, a6, a7⟩ gQ
  have hB : Hid (BAt Q (w.heap.size + 1) B1) := BAt.grew ⟨b0, b1, b2, b3, b4, b5, b6, b7⟩ gQ
  have lt : w.heap.size + 1 < V1.heap.size := cell_block b0
  have GQ : Hid (Grew w Q) := (G0.out.trans U1).trans gQ
  clear hQ a0 a1 a2 a3 a4 a5 a6 a7 b0 b1 b2 b3 b4 b5 b6 b7 U1 G0 gQ
  obtain ⟨a0, a1, a2, a3, a4, a5, a6, a7⟩ := hA.out
  obtain ⟨b0, b1, b2, b3, b4, b5, b6, b7⟩ := hB.out
  generalize hX : V1.heap.size = X at *
  clear hX
  go_upto_region 5 with (first
    | (go_at_call 10; go_fit (CH.out X _ EC); rintro e V2 ⟨rfl, E2, U2⟩))
  have GV2 : Hid (Grew w V2) := U2.grew w (by omega) GQ.out
  have hA2 : Hid (BAt V2 w.heap.size B0) := hA.out.heap (U2.block _ hA.out.size (by omega))
  have hB2 : Hid (BAt V2 (w.heap.size + 1) B1) := hB.out.heap (U2.block _ hB.out.size (by omega))
  have ED2 : Err V2 (X + 1) 0 0 := ⟨U2.cell (p := ⟨X + 1, 0, none⟩) (by simp only; omega) ED.1, U2.frozen (p := ⟨X + 1, 0, none⟩) (by simp only; omega) (by simp only; omega) ED.2⟩
  have s2 := U2.size
  clear a0 a1 a2 a3 a4 a5 a6 a7 b0 b1 b2 b3 b4 b5 b6 b7 U2 EC ED hA hB GQ CH
  go_upto_region 7 with (fail)
  obtain ⟨W, hW⟩ : ∃ W, W = (((V2.alloc (.cells #[.int .i64 tx, .int .i64 ty, .int .i64 td] 32)).alloc (.cells #[.int .i64 0, .int .i64 0, .int .i64 0] 32)).alloc (.cells #[.int .i64 0, .int .i64 0, .int .i64 0] 32)).alloc (.cells #[.bool false] 4) := ⟨_, rfl⟩
  rw [← hW]
  have gW : Grew V2 W := by rw [hW]; exact ((((Grew.refl V2).alloc _ _).alloc _ _).alloc _ _).alloc _ _
  have sz : W.heap.size = V2.heap.size + 1 + 1 + 1 + 1 := by rw [hW]; simp [go_sem]
  have hw : HAt W V2.heap.size ⟨tx, ty, td⟩ := by rw [hW]; constructor <;> simp [go_sem]
  have h1 : HAt W (V2.heap.size + 1) ⟨0, 0, 0⟩ := by rw [hW]; constructor <;> simp [go_sem]
  have h2 : HAt W (V2.heap.size + 1 + 1) ⟨0, 0, 0⟩ := by rw [hW]; constructor <;> simp [go_sem]
  have l1 : W.cell? ⟨V2.heap.size + 1 + 1 + 1, 0, none⟩ = some (.bool false) := by rw [hW]; simp [go_sem]
  have hA : BAt W w.heap.size B0 := hA2.out.grew gW
  have hB : BAt W (w.heap.size + 1) B1 := hB2.out.grew gW
  have EW := E2.grew gW
  have EDW := ED2.grew gW
  clear hW E2 ED2 hA2 hB2
  generalize hY : V2.heap.size = Y at *
  have leY : V2.heap.size ≤ Y := by omega
  clear hY
  go_wp2_with (fail)
  refine (try_set (S := fun n => n = Y + 1 ∨ n = Y + 1 + 1 + 1) (P := LeftH (Y + 1) (Y + 1 + 1 + 1) (hitR B0 B1)) _ _ _ (fun _ => by simp [go_sem]) (fun n hn => by omega) (LeftH.keep (by omega) (by omega)) (fun W9 G => ?_)).mono ?_
  · exact ask_tells _ _ _ _ (by omega) B0 B1 o0 o1 W9 (hA.grew G) (hB.grew G) _ (h1.grew G) false (G.cell l1) ((gW.trans G).freeB (by omega)) ((gW.trans G).freeB (by omega))
  rintro e V3 ⟨hW, x', rfl, hx'⟩
  rw [HT.out] at hx'
  obtain ⟨ex, hleft⟩ := hx'
  replace ex := ex.symm
  simp only at ex
  subst ex
  simp only at hleft
  obtain ⟨w0, w1, w2⟩ := hw.wrote hW (by omega)
  simp only at w0 w1 w2
  have h23 := h2.wrote hW (by omega)
  have ec := hW.cell EW.1 (by simp only; omega)
  have ED3 : Err V3 (X + 1) 0 0 := ⟨hW.cell EDW.1 (by simp only; omega), hW.frozen (p := ⟨X + 1, 0, none⟩) (by simp only; omega) (by simp only; omega) EDW.2⟩
  have z3 : Free V3 (Y + 1 + 1) := (gW.freeB (by omega)).wrote hW (by omega) (by omega)
  have G3 : Hid (Grew w V3) := hW.to (GV2.out.trans gW) (fun n hn => by have := GV2.out.size; omega)
  have s3 := hW.size
  have ltY := GV2.out.size
  have HL : Hid (tk = 0 → HAt V3 (Y + 1) ⟨tx, ty, td⟩ ∧ V3.cell? ⟨Y + 1 + 1 + 1, 0, none⟩ = some (.bool tb)) := hleft
  clear hW hleft hw h1 h2 l1 hA hB EW EDW gW GV2 o0 o1 HT
  have hn1 := ne_same_hit tx ty td
  have hX1 : X + 1 < Y := by omega
  by_cases hk : tk = 0
  · subst hk
    obtain ⟨⟨q0, q1, q2⟩, q3⟩ := HL.out rfl
    simp only at q0 q1 q2 q3
    clear HL
    go_wp2_with (fail)
    refine (try_set (S := fun n => n = Y + 1 + 1) (P := fun x W => x = (flipR ⟨tx, ty, td⟩).2 ∧ (x = 0 → HAt W (Y + 1 + 1) (flipR ⟨tx, ty, td⟩).1)) _ _ _ (fun _ => by simp [go_sem]) (fun n hn => by omega) (fun x W1 W2 hh h => ⟨h.1, fun e => (h.2 e).heap (hh _ (by omega))⟩) (fun W9 G => ?_)).mono ?_
    · exact ask_turn Y (Y + 1 + 1) (by omega) ⟨tx, ty, td⟩ oT W9 (HAt.grew ⟨w0, w1, w2⟩ G) (h23.grew G) (z3.grew G)
    rintro e V4 ⟨hW, x', rfl, hx'⟩
    rw [HF.out] at hx'
    obtain ⟨ex, hl2⟩ := hx'
    replace ex := ex.symm
    simp only at ex
    subst ex
    simp only at hl2
    obtain ⟨m0, m1, m2⟩ := (show HAt V3 Y ⟨tx, ty, td⟩ from ⟨w0, w1, w2⟩).wrote hW (by omega)
    simp only at m0 m1 m2
    have ED4 : Err V4 (X + 1) 0 0 := ⟨hW.cell ED3.1 (by simp only; omega), hW.frozen (p := ⟨X + 1, 0, none⟩) (by simp only; omega) (by simp only; omega) ED3.2⟩
    have G4 : Hid (Grew w V4) := hW.to G3.out (fun n hn => by omega)
    have s4 := hW.size
    have HL2 : Hid (fk = 0 → HAt V4 (Y + 1 + 1) ⟨fx, fy, fd⟩) := hl2
    clear hW hl2 w0 w1 w2 h23 z3 ED3 G3 HF
    have hs := same_hit fx fy fd
    by_cases hf : fk = 0
    · subst hf
      obtain ⟨f0, f1, f2⟩ := HL2.out rfl
      simp only at f0 f1 f2
      clear HL2
      go_wp2_with (first
        | (go_at_call 16; go_fit (CF.out (X + 1) _ ED4); rintro e V5 ⟨⟨v, rfl, hv⟩, E5, U5⟩; obtain rfl := hv.out (by trivial); have g0 := U5.cell (by simp only; omega) f0; have g1 := U5.cell (by simp only; omega) f1; have g2 := U5.cell (by simp only; omega) f2; have ed := E5.1; have s5 := U5.size; have d5 : X + 1 < V5.heap.size := (by omega); have y5 : Y + 1 + 1 < V5.heap.size := (by omega)))
      go_ret
      exact ⟨rfl, ((U5.grew w (by omega) G4.out).alloc _ _).grown⟩
    · have hf' : (fk == 0) = false := by simpa using hf
      have hf2 : (fk != 0) = true := by simpa using hf
      clear HL2 hf
      go_wp2_with (first
        | (go_at_call 16; go_fit (CF.out (X + 1) _ ED4); rintro e V5 ⟨⟨v, rfl, hv⟩, E5, U5⟩; have ed := E5.1; have s5 := U5.size; have d5 : X + 1 < V5.heap.size := (by omega)))
      go_ret
      exact ⟨rfl, ((U5.grew w (by omega) G4.out).alloc _ _).grown⟩
  · have hk' : (tk == 0) = false := by simpa using hk
    clear HL hk
    go_wp2_with (fail)
    refine (try_set (S := fun n => n = Y + 1 + 1) (P := fun x W => x = (flipR ⟨tx, ty, td⟩).2 ∧ (x = 0 → HAt W (Y + 1 + 1) (flipR ⟨tx, ty, td⟩).1)) _ _ _ (fun _ => by simp [go_sem]) (fun n hn => by omega) (fun x W1 W2 hh h => ⟨h.1, fun e => (h.2 e).heap (hh _ (by omega))⟩) (fun W9 G => ?_)).mono ?_
    · exact ask_turn Y (Y + 1 + 1) (by omega) ⟨tx, ty, td⟩ oT W9 (HAt.grew ⟨w0, w1, w2⟩ G) (h23.grew G) (z3.grew G)
    rintro e V4 ⟨hW, x', rfl, hx'⟩
    rw [HF.out] at hx'
    obtain ⟨ex, hl2⟩ := hx'
    replace ex := ex.symm
    simp only at ex
    subst ex
    simp only at hl2
    obtain ⟨m0, m1, m2⟩ := (show HAt V3 Y ⟨tx, ty, td⟩ from ⟨w0, w1, w2⟩).wrote hW (by omega)
    simp only at m0 m1 m2
    have ED4 : Err V4 (X + 1) 0 0 := ⟨hW.cell ED3.1 (by simp only; omega), hW.frozen (p := ⟨X + 1, 0, none⟩) (by simp only; omega) (by simp only; omega) ED3.2⟩
    have G4 : Hid (Grew w V4) := hW.to G3.out (fun n hn => by omega)
    have s4 := hW.size
    have HL2 : Hid (fk = 0 → HAt V4 (Y + 1 + 1) ⟨fx, fy, fd⟩) := hl2
    clear hW hl2 w0 w1 w2 h23 z3 ED3 G3 HF
    have hs := same_hit fx fy fd
    by_cases hf : fk = 0
    · subst hf
      obtain ⟨f0, f1, f2⟩ := HL2.out rfl
      simp only at f0 f1 f2
      clear HL2
      go_wp2_with (first
        | (go_at_call 16; go_fit (CF.out (X + 1) _ ED4); rintro e V5 ⟨⟨v, rfl, hv⟩, E5, U5⟩; obtain rfl := hv.out (by trivial); have g0 := U5.cell (by simp only; omega) f0; have g1 := U5.cell (by simp only; omega) f1; have g2 := U5.cell (by simp only; omega) f2; have ed := E5.1; have s5 := U5.size; have d5 : X + 1 < V5.heap.size := (by omega); have y5 : Y + 1 + 1 < V5.heap.size := (by omega)))
      go_ret
      exact ⟨rfl, ((U5.grew w (by omega) G4.out).alloc _ _).grown⟩
    · have hf' : (fk == 0) = false := by simpa using hf
      have hf2 : (fk != 0) = true := by simpa using hf
      clear HL2 hf
      go_wp2_with (first
        | (go_at_call 16; go_fit (CF.out (X + 1) _ ED4); rintro e V5 ⟨⟨v, rfl, hv⟩, E5, U5⟩; have ed := E5.1; have s5 := U5.size; have d5 : X + 1 < V5.heap.size := (by omega)))
      go_ret
      exact ⟨rfl, ((U5.grew w (by omega) G4.out).alloc _ _).grown⟩

set_option maxRecDepth 100000 in
theorem lifted (os : Os) (started : os.Started) (H : Type) (enc : TypeId × Value → H) :
    ReturnsInHanded {} Try.checked os 3 .any (Rows.touchTellsSpec.pre6 enc Try.prog Try.f3 Rows.touchTellsRow.domain false) (Rows.touchTellsSpec.post enc Try.prog Try.f3 false true false false) := by
  refine returnsInHanded_of_change (C := Try.checked) own started (by kernel_rfl) Try.func3
    (ChangeSpec.witness6 (enc := enc) (C := Try.checked) false ⟨#[], #[.agg #[.int .i64 0, .int .i64 0, .int .i64 0, .int .i64 0, .int .i64 0, .int .i64 0, .int .i64 0, .int .i64 0], .agg #[.int .i64 0, .int .i64 0, .int .i64 0, .int .i64 0, .int .i64 0, .int .i64 0, .int .i64 0, .int .i64 0]], []⟩ 8 (by kernel_rfl) (by kernel_rfl) (by kernel_rfl) (by kernel_rfl)) ?_
  intro W base args ds gs before hval0 hW hcnd _
  have hval : ∀ (j : Nat) t v, Try.f3.params[j]? = some t → args[j]? = some v → Value.okWide Try.prog W .any base t v := hval0
  have hW' := hW
  obtain ⟨p, q, hA0, hV, rfl, hfz, hnd⟩ := hW
  have hA : DataW.TrodAll enc Try.prog W 0 (fun _ => true) true Try.f3.params.toList args.toList ds p := hA0
  rw [Try.params3] at hA hval
  obtain ⟨v0, vs0, d0, ds0, p0, q0, hargs, rfl, rfl, h0, r0⟩ := trodAll_cons hA
  obtain ⟨v1, vs1, d1, ds1, p1, q1, rfl, rfl, rfl, h1, r1⟩ := trodAll_cons r0
  obtain ⟨rfl, rfl, rfl⟩ := trodAll_nil r1
  obtain rfl : args = #[v0, v1] := by cases args; simp_all
  obtain ⟨rfl, rfl⟩ := trodVars_none hV
  obtain ⟨B0, rfl, rfl, rfl, o0⟩ := open_body (hval 0 26 v0 rfl rfl) h0
  obtain ⟨B1, rfl, rfl, rfl, o1⟩ := open_body (hval 1 26 v1 rfl rfl) h1
  clear hA0 hval0
  simp only [List.append_nil] at hW'
  refine (walk B0 o0 B1 o1 W  ).mono fun e W' ⟨he, hg⟩ => ?_
  subst he
  exact ⟨_, rfl, post_of_same (pa := []) (pv := []) hW' (fun _ _ _ => (trodAll_cons_mk (shut_bool Try.underlying4 _) trodAll_mk0)) (fun sp _ => (trodAll_cons_mk (shut_body o0) (trodAll_cons_mk (shut_body o1) trodAll_mk0))) (fun _ _ => rfl) rfl
    (hg.frame _) hg.2.1 (ok_one (by kernel_rfl) rfl (okWide_bool_mk Try.underlying4 _))⟩

theorem over : Rows.touchTellsRow.holds Try.pinned (OpenSpec.ofChange Rows.touchTellsSpec) :=
  OpenClaim.holds_of_wide 3 Try.f3 rfl rfl rfl rfl rfl rfl rfl ⟨rfl, rfl, rfl, rfl, rfl⟩ rfl rfl rfl rfl rfl (by kernel_rfl) Try.func3 (by kernel_rfl)
    (of_decide_eq_true (by kernel_rfl)) (by unfold Func.isWrapper; first | (rw [if_pos (by decide +kernel)]; kernel_rfl) | (rw [if_neg (by decide +kernel)]; exact ⟨rfl, rfl⟩))
    (fun os started H enc _ => lifted os started H enc)

theorem proved : Rows.TouchTellsSaid :=
  over
end Go.Proofs.Ytjnokjoaphmfkaa.touchTells

namespace Go.Proofs.Ytjnokjoaphmfkaa
theorem touchTells_holds : Rows.TouchTellsSaid := touchTells.proved
end Go.Proofs.Ytjnokjoaphmfkaa

/-
  The document's own word on contacts (maquetteref1's Flip; Hit of two balls, of two crates, of other shapes).
-/
import Derived.Test.YtcoooehcgbohgaaGreatPxHRef2
namespace Go.Proofs.YtcoooehcgbohgaaGreat
open Go.RowKit

set_option maxHeartbeats 1000000 in
theorem rflip_any (c : Nat) (g : Ht) (ok : g.ok) (w : World) (h : Err w c 0 0) :
    Calls Tryz.prog 20 #[.pointer (some ⟨c, 0, none⟩), .agg #[.int .i64 g.x, .int .i64 g.y, .int .i64 g.d]] w fun e w' => (∃ v : Ht, e = .returned (.agg #[.int .i64 v.x, .int .i64 v.y, .int .i64 v.d]) ∧ ((flipR g).2 = 0 → v = (flipR g).1)) ∧ Err w' c 0 (flipR g).2 ∧ Past c w w' := by
  have hc : c < w.heap.size := cell_block h.1
  have i2 := ifK_two (subR 0 g.x) (subR 0 g.y)
  have t0 := @two_fst (subR 0 g.x) (subR 0 g.y)
  have f0 : (flipR g).2 = (two (subR 0 g.x) (subR 0 g.y)).2.2 := by
    unfold flipR
    by_cases hz : (two (subR 0 g.x) (subR 0 g.y)).2.2 = 0
    · rw [if_pos hz, hz]
    · rw [if_neg hz]
  have f1 : (two (subR 0 g.x) (subR 0 g.y)).2.2 = 0 → (flipR g).1 = ⟨(subR 0 g.x).1, (subR 0 g.y).1, g.d⟩ := fun hz => by unfold flipR; rw [if_pos hz]
  have C1 : Hid (∀ W, Err W c 0 0 → Calls Tryz.prog 16 #[.pointer (some ⟨c, 0, none⟩), .int .i64 0, .int .i64 g.x] W fun e w' => e = .returned (.int .i64 (subR 0 g.x).1) ∧ Err w' c 0 (subR 0 g.x).2 ∧ Past c W w') := fun W hE => rsub_k c 0 0 0 g.x W inF0 ok.x hE
  have C2 : Hid (∀ W, Err W c 0 (subR 0 g.x).2 → Calls Tryz.prog 16 #[.pointer (some ⟨c, 0, none⟩), .int .i64 0, .int .i64 g.y] W fun e w' => e = .returned (.int .i64 (ifK (subR 0 g.x).2 (subR 0 g.y)).1) ∧ Err w' c 0 (ifK (subR 0 g.x).2 (subR 0 g.y)).2 ∧ Past c W w') := fun W hE => rsub_k c 0 _ 0 g.y W inF0 ok.y hE
  have i3 : (two (subR 0 g.x) (subR 0 g.y)).2.2 = 0 → (ifK (subR 0 g.x).2 (subR 0 g.y)).1 = (subR 0 g.y).1 := fun hz => by rw [(t0 hz).1]; rfl
  rw [← f0] at i2 i3 f1
  generalize flipR g = T at *
  generalize ifK (subR 0 g.x).2 (subR 0 g.y) = Y at *
  generalize subR 0 g.y = Y' at *
  generalize subR 0 g.x = X at *
  rw [← i2]
  have HF : Hid (T.2 = 0 → T.1 = ⟨X.1, Y.1, g.d⟩) := fun hz => by rw [f1 hz, i3 hz]
  have HI : Hid (Y.2 = T.2) := i2
  clear i2 i3 f0 f1 t0 ok
  obtain ⟨gx, gy, gd⟩ := g
  simp only at C1 C2 HF
  obtain ⟨W, hW⟩ : ∃ W, W = (w.alloc (.cells #[.int .i64 gx, .int .i64 gy, .int .i64 gd] 34)).alloc (.cells #[.int .i64 0, .int .i64 0, .int .i64 0] 34) := ⟨_, rfl⟩
  have GW : Grew w W := by rw [hW]; exact ((Grew.refl w).alloc _ _).alloc _ _
  have sz : W.heap.size = w.heap.size + 1 + 1 := by rw [hW]; simp [go_sem]
  have hG : HAt W w.heap.size ⟨gx, gy, gd⟩ := by rw [hW]; constructor <;> simp [go_sem]
  have hR : HAt W (w.heap.size + 1) ⟨0, 0, 0⟩ := by rw [hW]; constructor <;> simp [go_sem]
  have zW : Free W (w.heap.size + 1) := GW.freeB (by omega)
  have E0 := h.grew GW
  have HW : Hid (_ = _) := hW
  clear hW h
  go_enter Tryz.func20, Tryz.ntmps20
  go_upto_region 2 with (first
    | (go_at_call 16; rw [← HW.out]; go_fit (C1.out _ E0); rintro e V ⟨rfl, E1, U1⟩))
  obtain ⟨g0, g1, g2⟩ := hG.heap (U1.block _ hG.size (by omega))
  have hR1 := hR.heap (U1.block _ hR.size (by omega))
  have zR : Free V (w.heap.size + 1) := fun o s => U1.frozen (p := ⟨w.heap.size + 1, o, s⟩) hR.size (by simp only; omega) (zW o s)
  have PV : Hid (Past c w V) := GW.past.trans U1
  have sV := U1.size
  have E1d := E1.grew (Grew.refl V).drew
  have f1 := set_far (show w.heap.size ≠ w.heap.size + 1 by omega)
  clear U1 E0 hG hR zW GW HW C1
  go_region_held2 (fun w' => w'.cell? ⟨w.heap.size, 0, none⟩ = some (.int .i64 gx) ∧ w'.cell? ⟨w.heap.size, 1, none⟩ = some (.int .i64 gy) ∧ w'.cell? ⟨w.heap.size, 2, none⟩ = some (.int .i64 gd)) (go_keep)
    (first
      | (go_at_call 16; go_fit (C2.out _ E1d); rintro e V2 ⟨rfl, E2, U2⟩; have k1 := U2.cells (b := w.heap.size) (by first | omega | (simp; omega)) (by omega); have PD : Past c V V2 := (Grew.refl V).drew.past.trans U2; have hR2 := hR1.heap (PD.block _ hR1.size (by omega)); obtain ⟨r0, r1, r2⟩ := hR2; have y0 := PD.frozen (p := ⟨w.heap.size + 1, 0, none⟩) hR1.size (by simp only; omega) (zR 0 none); have y1 := PD.frozen (p := ⟨w.heap.size + 1, 1, none⟩) hR1.size (by simp only; omega) (zR 1 none); have y2 := PD.frozen (p := ⟨w.heap.size + 1, 2, none⟩) hR1.size (by simp only; omega) (zR 2 none)))
  go_wp2
  simp [bodyPost, results, Tryz.results20, go_sem, r0, r1, r2]
  refine ⟨⟨⟨X.1, Y.1, gd⟩, ⟨rfl, rfl, rfl⟩, fun hz => (HF.out (by rw [← HI.out]; exact hz)).symm⟩, ?_, ?_⟩
  · exact Err.past (Err.past (Err.past E2 (by omega) _ rfl) (by omega) _ rfl) (by omega) _ rfl
  · exact (((PV.out.trans PD).setNew (by omega) _ _ _).setNew (by omega) _ _ _).setNew (by omega) _ _ _

set_option maxRecDepth 10000 in
set_option maxHeartbeats 4000000 in
theorem rhit11_any (c : Nat) (A B : Bd) (hA : A.ok) (hB : B.ok) (sA : A.s = 1) (sB : B.s = 1) (w : World) (h : Err w c 0 0) :
    Calls Tryz.prog 6 #[.pointer (some ⟨c, 0, none⟩), A.val, B.val] w fun e w' => okH (hitR A B) e ∧ Err w' c 0 (hitR A B).2 ∧ Past c w w' := by
  have hc : c < w.heap.size := cell_block h.1
  have x1 : (A.s == 1) = true := by simp [sA]
  have x2 : (A.s == 2) = false := by simp [sA]
  have y1 : (B.s == 1) = true := by simp [sB]
  have y2 : (B.s == 2) = false := by simp [sB]
  rw [hitR_11 sA sB]
  have iD := two_in (subR_in B.p A.p) (subR_in B.q A.q)
  have c1 := fun W => rless_any c B.p B.q A.p A.q W hB.p hB.q hA.p hA.q
  have v1 := @htwo_vals (subR B.p A.p) (subR B.q A.q)
  have eD : gapV A B = two (subR B.p A.p) (subR B.q A.q) := rfl
  have n0 : ¬ (gapV A B).2.2 = 0 → ballsR A B = ((⟨0, 0, 0⟩, false), (gapV A B).2.2) := fun g => ifH_no g _
  have n1 := @balls_ok1 A B
  rw [eD] at n0 n1
  generalize ballsR A B = T at *
  generalize (subR B.p A.p).1 = dx at *
  generalize (subR B.q A.q).1 = dy at *
  generalize two (subR B.p A.p) (subR B.q A.q) = D at *
  obtain ⟨x, y, k⟩ := D
  simp only at iD n0 n1 c1 v1
  unfold vec at c1
  have C1 : Hid _ := c1
  clear c1 eD sA sB
  obtain ⟨W, hW⟩ : ∃ W, W = ((w.alloc (.cells #[.int .i64 A.s, .int .i64 A.a, .int .i64 A.b, .int .i64 A.m, .int .i64 A.p, .int .i64 A.q, .int .i64 A.u, .int .i64 A.v] 28)).alloc (.cells #[.int .i64 B.s, .int .i64 B.a, .int .i64 B.b, .int .i64 B.m, .int .i64 B.p, .int .i64 B.q, .int .i64 B.u, .int .i64 B.v] 28)).alloc (.cells #[.int .i64 0, .int .i64 0, .int .i64 0] 34) := ⟨_, rfl⟩
  have GW : Grew w W := by rw [hW]; exact (((Grew.refl w).alloc _ _).alloc _ _).alloc _ _
  have sz : W.heap.size = w.heap.size + 1 + 1 + 1 := by rw [hW]; simp [go_sem]
  have F0 : Hid (Fm W w.heap.size A B) := by rw [hW]; exact fm_start w A B
  have E0 := h.grew GW
  have PW : Hid (Past c w W) := GW.past
  have HW : Hid (_ = _) := hW
  clear hW h GW
  unfold Bd.val
  have F0' := F0.out
  obtain ⟨⟨a0, a1, a2, a3, a4, a5, a6, a7⟩, ⟨b0, b1, b2, b3, b4, b5, b6, b7⟩, ⟨r0, r1, r2⟩, zz⟩ := F0'; have z0 := zz 0 none; have z1 := zz 1 none; have z2 := zz 2 none; clear zz
  by_cases hk : k = 0
  case neg =>
    have ET : Hid (_ = _) := n0 hk
    have CU : Hid (∀ W x y, Err W c 0 k → Calls Tryz.prog 14 #[.pointer (some ⟨c, 0, none⟩), .agg #[.int .i64 x, .int .i64 y]] W fun e w' => e = .returned (.tuple #[.agg #[.int .i64 0, .int .i64 0], .int .i64 0]) ∧ Err w' c 0 k ∧ Past c W w') := fun W x y hE => runit_no c x y k W hk hE
    have CA : Hid (∀ W x y, Err W c 0 k → Calls Tryz.prog 15 #[.pointer (some ⟨c, 0, none⟩), .int .i64 x, .int .i64 y] W fun e w' => e = .returned (.int .i64 0) ∧ Err w' c 0 k ∧ Past c W w') := fun W x y hE => radd_no c k x y W hk hE
    have CS : Hid (∀ W x y, Err W c 0 k → Calls Tryz.prog 16 #[.pointer (some ⟨c, 0, none⟩), .int .i64 x, .int .i64 y] W fun e w' => e = .returned (.int .i64 0) ∧ Err w' c 0 k ∧ Past c W w') := fun W x y hE => rsub_no c k x y W hk hE
    clear n0 n1 v1 iD hA hB hk
    go_enter Tryz.func6, Tryz.ntmps6
    go_wp2_with (first
      | (go_at_call 13; rw [← HW.out]; go_fit (C1.out _ E0); rintro e V ⟨⟨p, q, rfl, hpq⟩, E1, U1⟩; have P1 := PW.out.trans U1; have F1 := F0.out.past U1 hc)
      | (go_at_call 14; go_fit (CU.out _ _ _ (E1.grew ((Grew.refl V).alloc #[.int .i64 p, .int .i64 q] 26))); rintro e V2 ⟨rfl, E2, U2⟩; have P2 := (P1.trans ((Grew.refl V).alloc #[.int .i64 p, .int .i64 q] 26).past).trans U2; have F2 := (F1.past ((Grew.refl V).alloc #[.int .i64 p, .int .i64 q] 26).past (c := c) hc).past U2 hc; clear a0 a1 a2 a3 a4 a5 a6 a7 b0 b1 b2 b3 b4 b5 b6 b7 r0 r1 r2 z0 z1 z2; obtain ⟨⟨a0, a1, a2, a3, a4, a5, a6, a7⟩, ⟨b0, b1, b2, b3, b4, b5, b6, b7⟩, ⟨r0, r1, r2⟩, zz⟩ := id F2; have z0 := zz 0 none; have z1 := zz 1 none; have z2 := zz 2 none; clear zz; have d0 : w.heap.size < V2.heap.size := (cell_block a0); have d1 : w.heap.size + 1 < V2.heap.size := (cell_block b0); have d2 : w.heap.size + 1 + 1 < V2.heap.size := (cell_block r0))
      | (go_at_call 15; go_fit (CA.out _ _ _ (E2.grew ((Grew.refl V2).alloc #[.int .i64 0, .int .i64 0] 26))); rintro e V3 ⟨rfl, E3, U3⟩)
      | (go_at_call 16; (go_fit (CS.out _ _ _ E3); rintro e V4 ⟨rfl, E9, U4⟩; have P9 := ((P2.trans ((Grew.refl V2).alloc #[.int .i64 0, .int .i64 0] 26).past).trans U3).trans U4; have F9 := ((F2.past ((Grew.refl V2).alloc #[.int .i64 0, .int .i64 0] 26).past (c := c) hc).past U3 hc).past U4 hc; have N9 : At V4 V2.heap.size 0 0 := ((show At (V2.alloc (.cells #[.int .i64 0, .int .i64 0] 26)) V2.heap.size 0 0 from ⟨by simp [go_sem], by simp [go_sem]⟩).past U3 (by have := P2.size; omega)).past U4 (by have := P2.size; omega); have Z9 : Free V4 V2.heap.size := fun o s => U4.frozen (p := ⟨V2.heap.size, o, s⟩) (Nat.lt_of_lt_of_le (by simp [go_sem]) U3.size) (by have := P2.size; simp only; omega) (U3.frozen (p := ⟨V2.heap.size, o, s⟩) (by simp [go_sem]) (by have := P2.size; simp only; omega) (((Grew.refl V2).alloc #[.int .i64 0, .int .i64 0] 26).freeB (Nat.le_refl _) o s)); have e2d := d2; have e2n : ¬ w.heap.size + 1 + 1 = V2.heap.size := (by omega); have e2m : ¬ V2.heap.size = w.heap.size + 1 + 1 := (by omega); clear d0 d1 d2; clear a0 a1 a2 a3 a4 a5 a6 a7 b0 b1 b2 b3 b4 b5 b6 b7 r0 r1 r2 z0 z1 z2; obtain ⟨⟨a0, a1, a2, a3, a4, a5, a6, a7⟩, ⟨b0, b1, b2, b3, b4, b5, b6, b7⟩, ⟨r0, r1, r2⟩, zz⟩ := id F9; have z0 := zz 0 none; have z1 := zz 1 none; have z2 := zz 2 none; clear zz; have d0 : w.heap.size < V4.heap.size := (cell_block a0); have d1 : w.heap.size + 1 < V4.heap.size := (cell_block b0); have d2 : w.heap.size + 1 + 1 < V4.heap.size := (cell_block r0); obtain ⟨q0, q1⟩ := N9; have v0 := Z9 0 none; have v1 := Z9 1 none; have l9 := P2.size)))
    have hf := past_hit P9 k E9 hc (.int .i64 0) (.int .i64 0) (.int .i64 0)
    simp [bodyPost, results, Tryz.results6, go_sem, r0, r1, r2]
    rw [ET.out]
    exact ⟨rfl, hf⟩
  subst hk
  obtain ⟨rfl, rfl⟩ : x = dx ∧ y = dy := v1 rfl
  have eT : T = ballsU A.a B.a (unitR x y) := n1 rfl
  have c2 := fun W => runit_any c x y W iD.1 iD.2
  have iU := (unitR_in iD.1 iD.2).1
  clear n0 n1 v1 iD
  generalize unitR x y = u at *
  obtain ⟨⟨ux, uy⟩, l, i⟩ := u
  simp only at c2 iU
  unfold vec at c2
  have C2 : Hid _ := c2
  clear c2
  have C2' : Hid (∀ W, Err W c 0 0 → Calls Tryz.prog 14 #[.pointer (some ⟨c, 0, none⟩), .agg #[.int .i64 x, .int .i64 y]] W fun e w' => (∃ p' q' n', e = .returned (.tuple #[.agg #[.int .i64 p', .int .i64 q'], .int .i64 n']) ∧ Hid (i = 0 → p' = ux ∧ q' = uy ∧ n' = l)) ∧ Err w' c 0 i ∧ Past c W w') := C2.out
  clear C2
  by_cases hk : i = 0
  case neg =>
    have ET : Hid (T = ((⟨0, 0, 0⟩, false), i)) := eT.trans (ifH_no hk _)
    have CA : Hid (∀ W x y, Err W c 0 i → Calls Tryz.prog 15 #[.pointer (some ⟨c, 0, none⟩), .int .i64 x, .int .i64 y] W fun e w' => e = .returned (.int .i64 0) ∧ Err w' c 0 i ∧ Past c W w') := fun W x y hE => radd_no c i x y W hk hE
    have CS : Hid (∀ W x y, Err W c 0 i → Calls Tryz.prog 16 #[.pointer (some ⟨c, 0, none⟩), .int .i64 x, .int .i64 y] W fun e w' => e = .returned (.int .i64 0) ∧ Err w' c 0 i ∧ Past c W w') := fun W x y hE => rsub_no c i x y W hk hE
    clear eT iU hA hB hk
    go_enter Tryz.func6, Tryz.ntmps6
    go_wp2_with (first
      | (go_at_call 13; rw [← HW.out]; go_fit (C1.out _ E0); rintro e V ⟨⟨p, q, rfl, hpq⟩, E1, U1⟩; obtain ⟨rfl, rfl⟩ := hpq (by trivial); have P1 := PW.out.trans U1; have F1 := F0.out.past U1 hc)
      | (go_at_call 14; go_fit (C2'.out _ (E1.grew ((Grew.refl V).alloc #[.int .i64 p, .int .i64 q] 26))); rintro e V2 ⟨⟨p', q', n', rfl, hu⟩, E2, U2⟩; have P2 := (P1.trans ((Grew.refl V).alloc #[.int .i64 p, .int .i64 q] 26).past).trans U2; have F2 := (F1.past ((Grew.refl V).alloc #[.int .i64 p, .int .i64 q] 26).past (c := c) hc).past U2 hc; clear a0 a1 a2 a3 a4 a5 a6 a7 b0 b1 b2 b3 b4 b5 b6 b7 r0 r1 r2 z0 z1 z2; obtain ⟨⟨a0, a1, a2, a3, a4, a5, a6, a7⟩, ⟨b0, b1, b2, b3, b4, b5, b6, b7⟩, ⟨r0, r1, r2⟩, zz⟩ := id F2; have z0 := zz 0 none; have z1 := zz 1 none; have z2 := zz 2 none; clear zz; have d0 : w.heap.size < V2.heap.size := (cell_block a0); have d1 : w.heap.size + 1 < V2.heap.size := (cell_block b0); have d2 : w.heap.size + 1 + 1 < V2.heap.size := (cell_block r0))
      | (go_at_call 15; go_fit (CA.out _ _ _ (E2.grew ((Grew.refl V2).alloc #[.int .i64 p', .int .i64 q'] 26))); rintro e V3 ⟨rfl, E3, U3⟩)
      | (go_at_call 16; (go_fit (CS.out _ _ _ E3); rintro e V4 ⟨rfl, E9, U4⟩; have P9 := ((P2.trans ((Grew.refl V2).alloc #[.int .i64 p', .int .i64 q'] 26).past).trans U3).trans U4; have F9 := ((F2.past ((Grew.refl V2).alloc #[.int .i64 p', .int .i64 q'] 26).past (c := c) hc).past U3 hc).past U4 hc; have N9 : At V4 V2.heap.size p' q' := ((show At (V2.alloc (.cells #[.int .i64 p', .int .i64 q'] 26)) V2.heap.size p' q' from ⟨by simp [go_sem], by simp [go_sem]⟩).past U3 (by have := P2.size; omega)).past U4 (by have := P2.size; omega); have Z9 : Free V4 V2.heap.size := fun o s => U4.frozen (p := ⟨V2.heap.size, o, s⟩) (Nat.lt_of_lt_of_le (by simp [go_sem]) U3.size) (by have := P2.size; simp only; omega) (U3.frozen (p := ⟨V2.heap.size, o, s⟩) (by simp [go_sem]) (by have := P2.size; simp only; omega) (((Grew.refl V2).alloc #[.int .i64 p', .int .i64 q'] 26).freeB (Nat.le_refl _) o s)); have e2d := d2; have e2n : ¬ w.heap.size + 1 + 1 = V2.heap.size := (by omega); have e2m : ¬ V2.heap.size = w.heap.size + 1 + 1 := (by omega); clear d0 d1 d2; clear a0 a1 a2 a3 a4 a5 a6 a7 b0 b1 b2 b3 b4 b5 b6 b7 r0 r1 r2 z0 z1 z2; obtain ⟨⟨a0, a1, a2, a3, a4, a5, a6, a7⟩, ⟨b0, b1, b2, b3, b4, b5, b6, b7⟩, ⟨r0, r1, r2⟩, zz⟩ := id F9; have z0 := zz 0 none; have z1 := zz 1 none; have z2 := zz 2 none; clear zz; have d0 : w.heap.size < V4.heap.size := (cell_block a0); have d1 : w.heap.size + 1 < V4.heap.size := (cell_block b0); have d2 : w.heap.size + 1 + 1 < V4.heap.size := (cell_block r0); obtain ⟨q0, q1⟩ := N9; have v0 := Z9 0 none; have v1 := Z9 1 none; have l9 := P2.size)))
    have hf := past_hit P9 i E9 hc (.int .i64 0) (.int .i64 0) (.int .i64 0)
    simp [bodyPost, results, Tryz.results6, go_sem, r0, r1, r2]
    rw [ET.out]
    exact ⟨rfl, hf⟩
  subst hk
  have cA := fun W => radd_k c 0 0 A.a B.a W hA.a hB.a
  have cS := fun W => rsub_w c (addR A.a B.a).2 (addR A.a B.a).1 l W (fun _ => ⟨addR_in _ _, iU⟩)
  have kS : ifK (addR A.a B.a).2 (subR (addR A.a B.a).1 l) = sumR A.a B.a l := rfl
  have zz0 : 0 < (sumR A.a B.a l).1 → (sumR A.a B.a l).2 = 0 := fun g => Decidable.byContradiction fun g' => by
    have : (sumR A.a B.a l).1 = 0 := by
      revert g'
      unfold sumR behind
      split
      · exact fun g' => inR_zero g'
      · exact fun _ => rfl
    omega
  have eS : T = ifH (sumR A.a B.a l).2 (awayH (ux, uy) l (sumR A.a B.a l).1, 0) := eT
  rw [kS] at cS
  simp only [ifK_ok] at cA
  generalize sumR A.a B.a l = Z at *
  generalize addR A.a B.a = X at *
  obtain ⟨X, j⟩ := X
  obtain ⟨Z, m⟩ := Z
  simp only at cA cS zz0 eS
  have CA : Hid _ := cA
  have CS : Hid _ := cS
  have HZ : Hid (0 < Z → m = 0) := zz0
  have HS : Hid _ := eS
  clear cA cS kS eT eS iU hA hB zz0
  by_cases hZ : Z ≤ 0
  · have eT : T = ((⟨0, 0, 0⟩, false), m) := by
      rw [HS.out]
      by_cases hm : m = 0
      · rw [ifH_ok hm, hm, show awayH (ux, uy) l Z = (⟨0, 0, 0⟩, false) from by unfold awayH; split <;> exact contact_no hZ]
      · exact ifH_no hm _
    have ET : Hid (_ = _) := eT
    clear eT HS HZ
    go_enter Tryz.func6, Tryz.ntmps6
    go_wp2_with (first
      | (go_at_call 13; rw [← HW.out]; go_fit (C1.out _ E0); rintro e V ⟨⟨p, q, rfl, hpq⟩, E1, U1⟩; obtain ⟨rfl, rfl⟩ := hpq (by trivial); have P1 := PW.out.trans U1; have F1 := F0.out.past U1 hc)
      | (go_at_call 14; go_fit (C2'.out _ (E1.grew ((Grew.refl V).alloc #[.int .i64 p, .int .i64 q] 26))); rintro e V2 ⟨⟨p', q', n', rfl, hu⟩, E2, U2⟩; obtain ⟨rfl, rfl, rfl⟩ := hu.out (by trivial); have P2 := (P1.trans ((Grew.refl V).alloc #[.int .i64 p, .int .i64 q] 26).past).trans U2; have F2 := (F1.past ((Grew.refl V).alloc #[.int .i64 p, .int .i64 q] 26).past (c := c) hc).past U2 hc; clear a0 a1 a2 a3 a4 a5 a6 a7 b0 b1 b2 b3 b4 b5 b6 b7 r0 r1 r2 z0 z1 z2; obtain ⟨⟨a0, a1, a2, a3, a4, a5, a6, a7⟩, ⟨b0, b1, b2, b3, b4, b5, b6, b7⟩, ⟨r0, r1, r2⟩, zz⟩ := id F2; have z0 := zz 0 none; have z1 := zz 1 none; have z2 := zz 2 none; clear zz; have d0 : w.heap.size < V2.heap.size := (cell_block a0); have d1 : w.heap.size + 1 < V2.heap.size := (cell_block b0); have d2 : w.heap.size + 1 + 1 < V2.heap.size := (cell_block r0))
      | (go_at_call 15; go_fit (CA.out _ (E2.grew ((Grew.refl V2).alloc #[.int .i64 p', .int .i64 q'] 26))); rintro e V3 ⟨rfl, E3, U3⟩)
      | (go_at_call 16; (go_fit (CS.out _ E3); rintro e V4 ⟨rfl, E9, U4⟩; have P9 := ((P2.trans ((Grew.refl V2).alloc #[.int .i64 p', .int .i64 q'] 26).past).trans U3).trans U4; have F9 := ((F2.past ((Grew.refl V2).alloc #[.int .i64 p', .int .i64 q'] 26).past (c := c) hc).past U3 hc).past U4 hc; have N9 : At V4 V2.heap.size p' q' := ((show At (V2.alloc (.cells #[.int .i64 p', .int .i64 q'] 26)) V2.heap.size p' q' from ⟨by simp [go_sem], by simp [go_sem]⟩).past U3 (by have := P2.size; omega)).past U4 (by have := P2.size; omega); have Z9 : Free V4 V2.heap.size := fun o s => U4.frozen (p := ⟨V2.heap.size, o, s⟩) (Nat.lt_of_lt_of_le (by simp [go_sem]) U3.size) (by have := P2.size; simp only; omega) (U3.frozen (p := ⟨V2.heap.size, o, s⟩) (by simp [go_sem]) (by have := P2.size; simp only; omega) (((Grew.refl V2).alloc #[.int .i64 p', .int .i64 q'] 26).freeB (Nat.le_refl _) o s)); have e2d := d2; have e2n : ¬ w.heap.size + 1 + 1 = V2.heap.size := (by omega); have e2m : ¬ V2.heap.size = w.heap.size + 1 + 1 := (by omega); clear d0 d1 d2; clear a0 a1 a2 a3 a4 a5 a6 a7 b0 b1 b2 b3 b4 b5 b6 b7 r0 r1 r2 z0 z1 z2; obtain ⟨⟨a0, a1, a2, a3, a4, a5, a6, a7⟩, ⟨b0, b1, b2, b3, b4, b5, b6, b7⟩, ⟨r0, r1, r2⟩, zz⟩ := id F9; have z0 := zz 0 none; have z1 := zz 1 none; have z2 := zz 2 none; clear zz; have d0 : w.heap.size < V4.heap.size := (cell_block a0); have d1 : w.heap.size + 1 < V4.heap.size := (cell_block b0); have d2 : w.heap.size + 1 + 1 < V4.heap.size := (cell_block r0); obtain ⟨q0, q1⟩ := N9; have v0 := Z9 0 none; have v1 := Z9 1 none; have l9 := P2.size)))
    have hf := past_hit P9 m E9 hc (.int .i64 0) (.int .i64 0) (.int .i64 0)
    simp [bodyPost, results, Tryz.results6, go_sem, r0, r1, r2]
    rw [ET.out]
    exact ⟨rfl, hf⟩
  obtain rfl : m = 0 := HZ.out (by omega)
  have HT : Hid (T = (awayH (ux, uy) l Z, 0)) := HS.out.trans (ifH_ok rfl _)
  clear HS HZ
  by_cases hl : l = 0
  · have ET : Hid (T = ((⟨4294967296, 0, Z⟩, true), 0)) := by
      show T = _
      rw [HT.out, show awayH (ux, uy) l Z = (⟨4294967296, 0, Z⟩, true) from (if_pos hl).trans (contact_yes (by omega))]
    subst hl
    clear HT
    go_enter Tryz.func6, Tryz.ntmps6
    go_wp2_with (first
      | (go_at_call 13; rw [← HW.out]; go_fit (C1.out _ E0); rintro e V ⟨⟨p, q, rfl, hpq⟩, E1, U1⟩; obtain ⟨rfl, rfl⟩ := hpq (by trivial); have P1 := PW.out.trans U1; have F1 := F0.out.past U1 hc)
      | (go_at_call 14; go_fit (C2'.out _ (E1.grew ((Grew.refl V).alloc #[.int .i64 p, .int .i64 q] 26))); rintro e V2 ⟨⟨p', q', n', rfl, hu⟩, E2, U2⟩; obtain ⟨rfl, rfl, rfl⟩ := hu.out (by trivial); have P2 := (P1.trans ((Grew.refl V).alloc #[.int .i64 p, .int .i64 q] 26).past).trans U2; have F2 := (F1.past ((Grew.refl V).alloc #[.int .i64 p, .int .i64 q] 26).past (c := c) hc).past U2 hc; clear a0 a1 a2 a3 a4 a5 a6 a7 b0 b1 b2 b3 b4 b5 b6 b7 r0 r1 r2 z0 z1 z2; obtain ⟨⟨a0, a1, a2, a3, a4, a5, a6, a7⟩, ⟨b0, b1, b2, b3, b4, b5, b6, b7⟩, ⟨r0, r1, r2⟩, zz⟩ := id F2; have z0 := zz 0 none; have z1 := zz 1 none; have z2 := zz 2 none; clear zz; have d0 : w.heap.size < V2.heap.size := (cell_block a0); have d1 : w.heap.size + 1 < V2.heap.size := (cell_block b0); have d2 : w.heap.size + 1 + 1 < V2.heap.size := (cell_block r0))
      | (go_at_call 15; go_fit (CA.out _ (E2.grew ((Grew.refl V2).alloc #[.int .i64 p', .int .i64 q'] 26))); rintro e V3 ⟨rfl, E3, U3⟩)
      | (go_at_call 16; (go_fit (CS.out _ E3); rintro e V4 ⟨rfl, E9, U4⟩; have P9 := ((P2.trans ((Grew.refl V2).alloc #[.int .i64 p', .int .i64 q'] 26).past).trans U3).trans U4; have F9 := ((F2.past ((Grew.refl V2).alloc #[.int .i64 p', .int .i64 q'] 26).past (c := c) hc).past U3 hc).past U4 hc; have N9 : At V4 V2.heap.size p' q' := ((show At (V2.alloc (.cells #[.int .i64 p', .int .i64 q'] 26)) V2.heap.size p' q' from ⟨by simp [go_sem], by simp [go_sem]⟩).past U3 (by have := P2.size; omega)).past U4 (by have := P2.size; omega); have Z9 : Free V4 V2.heap.size := fun o s => U4.frozen (p := ⟨V2.heap.size, o, s⟩) (Nat.lt_of_lt_of_le (by simp [go_sem]) U3.size) (by have := P2.size; simp only; omega) (U3.frozen (p := ⟨V2.heap.size, o, s⟩) (by simp [go_sem]) (by have := P2.size; simp only; omega) (((Grew.refl V2).alloc #[.int .i64 p', .int .i64 q'] 26).freeB (Nat.le_refl _) o s)); have e2d := d2; have e2n : ¬ w.heap.size + 1 + 1 = V2.heap.size := (by omega); have e2m : ¬ V2.heap.size = w.heap.size + 1 + 1 := (by omega); clear d0 d1 d2; clear a0 a1 a2 a3 a4 a5 a6 a7 b0 b1 b2 b3 b4 b5 b6 b7 r0 r1 r2 z0 z1 z2; obtain ⟨⟨a0, a1, a2, a3, a4, a5, a6, a7⟩, ⟨b0, b1, b2, b3, b4, b5, b6, b7⟩, ⟨r0, r1, r2⟩, zz⟩ := id F9; have z0 := zz 0 none; have z1 := zz 1 none; have z2 := zz 2 none; clear zz; have d0 : w.heap.size < V4.heap.size := (cell_block a0); have d1 : w.heap.size + 1 < V4.heap.size := (cell_block b0); have d2 : w.heap.size + 1 + 1 < V4.heap.size := (cell_block r0); obtain ⟨q0, q1⟩ := N9; have v0 := Z9 0 none; have v1 := Z9 1 none; have l9 := P2.size)))
    simp [bodyPost, results, Tryz.results6, go_sem, r0, r1, r2]
    rw [ET.out]
    have hg : Err ((V4.setCell ⟨V2.heap.size, 0, none⟩ (.int .i64 4294967296)).setCell ⟨V2.heap.size, 1, none⟩ (.int .i64 0)) c 0 0 := Err.past (Err.past E9 (by omega) _ rfl) (by omega) _ rfl
    have hp : Past c w ((V4.setCell ⟨V2.heap.size, 0, none⟩ (.int .i64 4294967296)).setCell ⟨V2.heap.size, 1, none⟩ (.int .i64 0)) := (P9.setNew (by omega) _ _ _).setNew (by omega) _ _ _
    exact ⟨rfl, past_hit hp 0 hg hc _ _ _⟩
  · have ET : Hid (T = ((⟨ux, uy, Z⟩, true), 0)) := by
      show T = _
      rw [HT.out, show awayH (ux, uy) l Z = (⟨ux, uy, Z⟩, true) from (if_neg hl).trans (contact_yes (by omega))]
    have hl' : (l == 0) = false := by simpa using hl
    clear HT hl
    go_enter Tryz.func6, Tryz.ntmps6
    go_wp2_with (first
      | (go_at_call 13; rw [← HW.out]; go_fit (C1.out _ E0); rintro e V ⟨⟨p, q, rfl, hpq⟩, E1, U1⟩; obtain ⟨rfl, rfl⟩ := hpq (by trivial); have P1 := PW.out.trans U1; have F1 := F0.out.past U1 hc)
      | (go_at_call 14; go_fit (C2'.out _ (E1.grew ((Grew.refl V).alloc #[.int .i64 p, .int .i64 q] 26))); rintro e V2 ⟨⟨p', q', n', rfl, hu⟩, E2, U2⟩; obtain ⟨rfl, rfl, rfl⟩ := hu.out (by trivial); have P2 := (P1.trans ((Grew.refl V).alloc #[.int .i64 p, .int .i64 q] 26).past).trans U2; have F2 := (F1.past ((Grew.refl V).alloc #[.int .i64 p, .int .i64 q] 26).past (c := c) hc).past U2 hc; clear a0 a1 a2 a3 a4 a5 a6 a7 b0 b1 b2 b3 b4 b5 b6 b7 r0 r1 r2 z0 z1 z2; obtain ⟨⟨a0, a1, a2, a3, a4, a5, a6, a7⟩, ⟨b0, b1, b2, b3, b4, b5, b6, b7⟩, ⟨r0, r1, r2⟩, zz⟩ := id F2; have z0 := zz 0 none; have z1 := zz 1 none; have z2 := zz 2 none; clear zz; have d0 : w.heap.size < V2.heap.size := (cell_block a0); have d1 : w.heap.size + 1 < V2.heap.size := (cell_block b0); have d2 : w.heap.size + 1 + 1 < V2.heap.size := (cell_block r0))
      | (go_at_call 15; go_fit (CA.out _ (E2.grew ((Grew.refl V2).alloc #[.int .i64 p', .int .i64 q'] 26))); rintro e V3 ⟨rfl, E3, U3⟩)
      | (go_at_call 16; (go_fit (CS.out _ E3); rintro e V4 ⟨rfl, E9, U4⟩; have P9 := ((P2.trans ((Grew.refl V2).alloc #[.int .i64 p', .int .i64 q'] 26).past).trans U3).trans U4; have F9 := ((F2.past ((Grew.refl V2).alloc #[.int .i64 p', .int .i64 q'] 26).past (c := c) hc).past U3 hc).past U4 hc; have N9 : At V4 V2.heap.size p' q' := ((show At (V2.alloc (.cells #[.int .i64 p', .int .i64 q'] 26)) V2.heap.size p' q' from ⟨by simp [go_sem], by simp [go_sem]⟩).past U3 (by have := P2.size; omega)).past U4 (by have := P2.size; omega); have Z9 : Free V4 V2.heap.size := fun o s => U4.frozen (p := ⟨V2.heap.size, o, s⟩) (Nat.lt_of_lt_of_le (by simp [go_sem]) U3.size) (by have := P2.size; simp only; omega) (U3.frozen (p := ⟨V2.heap.size, o, s⟩) (by simp [go_sem]) (by have := P2.size; simp only; omega) (((Grew.refl V2).alloc #[.int .i64 p', .int .i64 q'] 26).freeB (Nat.le_refl _) o s)); have e2d := d2; have e2n : ¬ w.heap.size + 1 + 1 = V2.heap.size := (by omega); have e2m : ¬ V2.heap.size = w.heap.size + 1 + 1 := (by omega); clear d0 d1 d2; clear a0 a1 a2 a3 a4 a5 a6 a7 b0 b1 b2 b3 b4 b5 b6 b7 r0 r1 r2 z0 z1 z2; obtain ⟨⟨a0, a1, a2, a3, a4, a5, a6, a7⟩, ⟨b0, b1, b2, b3, b4, b5, b6, b7⟩, ⟨r0, r1, r2⟩, zz⟩ := id F9; have z0 := zz 0 none; have z1 := zz 1 none; have z2 := zz 2 none; clear zz; have d0 : w.heap.size < V4.heap.size := (cell_block a0); have d1 : w.heap.size + 1 < V4.heap.size := (cell_block b0); have d2 : w.heap.size + 1 + 1 < V4.heap.size := (cell_block r0); obtain ⟨q0, q1⟩ := N9; have v0 := Z9 0 none; have v1 := Z9 1 none; have l9 := P2.size)))
    simp [bodyPost, results, Tryz.results6, go_sem, r0, r1, r2]
    rw [ET.out]
    exact ⟨rfl, past_hit P9 0 E9 hc _ _ _⟩
set_option maxRecDepth 10000 in
set_option maxHeartbeats 4000000 in
theorem rhit22_any (c : Nat) (A B : Bd) (hA : A.ok) (hB : B.ok) (sA : A.s = 2) (sB : B.s = 2) (w : World) (h : Err w c 0 0) :
    Calls Tryz.prog 6 #[.pointer (some ⟨c, 0, none⟩), A.val, B.val] w fun e w' => okH (hitR A B) e ∧ Err w' c 0 (hitR A B).2 ∧ Past c w w' := by
  have hc : c < w.heap.size := cell_block h.1
  have x1 : (A.s == 1) = false := by simp [sA]
  have x2 : (A.s == 2) = true := by simp [sA]
  have y1 : (B.s == 1) = false := by simp [sB]
  have y2 : (B.s == 2) = true := by simp [sB]
  rw [hitR_22 sA sB]
  have C1 : Hid (∀ W, Err W c 0 0 → _) := fun W => rcrates_any c A B hA hB W
  generalize crateR A B = T at *
  unfold Bd.val at C1
  clear hA hB sA sB
  obtain ⟨W, hW⟩ : ∃ W, W = ((w.alloc (.cells #[.int .i64 A.s, .int .i64 A.a, .int .i64 A.b, .int .i64 A.m, .int .i64 A.p, .int .i64 A.q, .int .i64 A.u, .int .i64 A.v] 28)).alloc (.cells #[.int .i64 B.s, .int .i64 B.a, .int .i64 B.b, .int .i64 B.m, .int .i64 B.p, .int .i64 B.q, .int .i64 B.u, .int .i64 B.v] 28)).alloc (.cells #[.int .i64 0, .int .i64 0, .int .i64 0] 34) := ⟨_, rfl⟩
  have GW : Grew w W := by rw [hW]; exact (((Grew.refl w).alloc _ _).alloc _ _).alloc _ _
  have sz : W.heap.size = w.heap.size + 1 + 1 + 1 := by rw [hW]; simp [go_sem]
  have F0 : Hid (Fm W w.heap.size A B) := by rw [hW]; exact fm_start w A B
  have E0 := h.grew GW
  have PW : Hid (Past c w W) := GW.past
  have HW : Hid (_ = _) := hW
  clear hW h GW
  unfold Bd.val
  have F0' := F0.out
  obtain ⟨⟨a0, a1, a2, a3, a4, a5, a6, a7⟩, ⟨b0, b1, b2, b3, b4, b5, b6, b7⟩, ⟨r0, r1, r2⟩, zz⟩ := F0'; have z0 := zz 0 none; have z1 := zz 1 none; have z2 := zz 2 none; clear zz
  go_enter Tryz.func6, Tryz.ntmps6
  go_wp2_with (first
    | (go_at_call 17; rw [← HW.out]; go_fit (C1.out _ E0); rintro e V ⟨hok, E1, U1⟩; unfold okH at hok; subst hok; have P9 := PW.out.trans U1; have F9 := F0.out.past U1 hc; clear a0 a1 a2 a3 a4 a5 a6 a7 b0 b1 b2 b3 b4 b5 b6 b7 r0 r1 r2 z0 z1 z2; obtain ⟨⟨a0, a1, a2, a3, a4, a5, a6, a7⟩, ⟨b0, b1, b2, b3, b4, b5, b6, b7⟩, ⟨r0, r1, r2⟩, zz⟩ := id F9; have z0 := zz 0 none; have z1 := zz 1 none; have z2 := zz 2 none; clear zz))
  simp [bodyPost, results, Tryz.results6, go_sem, r0, r1, r2]
  exact ⟨rfl, past_hit P9 _ E1 hc _ _ _⟩
end Go.Proofs.YtcoooehcgbohgaaGreat

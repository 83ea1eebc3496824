/-
  The document's own word on boxes (maquetteref1's Bounds, Meet, Clamp): what the plain functions say.
-/
import Derived.Test.YtcoooehcgbohgaaGreatPxXAlive
import Derived.Test.YtcoooehcgbohgaaGreatPxVRef
namespace Go.Proofs.YtcoooehcgbohgaaGreat
open Go.RowKit

theorem rclamp1_any (a l h : Int) (w : World) :
    Calls Tryz.prog 34 #[.int .i64 a, .int .i64 l, .int .i64 h] w fun e w' => e = .returned (.int .i64 (nearI a l h)) ∧ w' = w := by
  by_cases g : a < l
  · rw [near_low g]
    go_enter Tryz.func34, Tryz.ntmps34
    go_wp2
    go_ret
    exact ⟨rfl, rfl⟩
  · by_cases g2 : h < a
    · rw [near_high g g2]
      go_enter Tryz.func34, Tryz.ntmps34
      go_wp2
      go_ret
      exact ⟨rfl, rfl⟩
    · rw [near_self g g2]
      go_enter Tryz.func34, Tryz.ntmps34
      go_wp2
      go_ret
      exact ⟨rfl, rfl⟩

set_option maxHeartbeats 2000000 in
theorem rclamp_any (x y : Int) (b : Bx) (w : World) :
    Calls Tryz.prog 18 #[.agg #[.int .i64 x, .int .i64 y], b.val] w fun e w' => e = .returned (.agg #[.int .i64 (nearI x b.l b.h), .int .i64 (nearI y b.m b.k)]) ∧ Grew w w' := by
  have G : Hid (∀ c, Grew w (((w.alloc (.cells #[.int .i64 x, .int .i64 y] 26)).alloc (.cells #[.int .i64 b.l, .int .i64 b.m, .int .i64 b.h, .int .i64 b.k] 57)).alloc (.cells c 26))) := fun c => (((Grew.refl w).alloc _ _).alloc _ _).alloc _ _
  have c1 : Hid (∀ W, Calls Tryz.prog 34 #[.int .i64 x, .int .i64 b.l, .int .i64 b.h] W fun e w' => e = .returned (.int .i64 (nearI x b.l b.h)) ∧ w' = W) := fun W => rclamp1_any _ _ _ W
  have c2 : Hid (∀ W, Calls Tryz.prog 34 #[.int .i64 y, .int .i64 b.m, .int .i64 b.k] W fun e w' => e = .returned (.int .i64 (nearI y b.m b.k)) ∧ w' = W) := fun W => rclamp1_any _ _ _ W
  unfold Bx.val
  generalize nearI x b.l b.h = r at *
  generalize nearI y b.m b.k = s at *
  go_enter Tryz.func18, Tryz.ntmps18
  go_wp2_with (fail)
  go_region_held2 (fun w' => w'.cell? ⟨w.heap.size, 0, none⟩ = some (.int .i64 x) ∧ w'.cell? ⟨w.heap.size, 1, none⟩ = some (.int .i64 y) ∧ w'.cell? ⟨w.heap.size + 1, 0, none⟩ = some (.int .i64 b.l) ∧ w'.cell? ⟨w.heap.size + 1, 1, none⟩ = some (.int .i64 b.m) ∧ w'.cell? ⟨w.heap.size + 1, 2, none⟩ = some (.int .i64 b.h) ∧ w'.cell? ⟨w.heap.size + 1, 3, none⟩ = some (.int .i64 b.k)) (go_keep)
    (first
      | (go_at_call 34; go_fit (c1.out _); rintro e w' ⟨rfl, rfl⟩)
      | (go_at_call 34; go_fit (c2.out _); rintro e w' ⟨rfl, rfl⟩))
  go_wp2
  simp [bodyPost, results, Tryz.results18, go_sem]
  exact (G.out _).drew

theorem Past.cells {n : Nat} {w W : World} (h : Past n w W) {b : Nat} (hb : b < w.heap.size) (hn : b ≠ n) : ∀ o, W.cell? ⟨b, o, none⟩ = w.cell? ⟨b, o, none⟩ := fun _ => cell_of_heap (h.block b hb hn)

set_option maxHeartbeats 1000000 in
theorem rplus_no (b : Nat) (x y u v k : Int) (w : World) (hx : inF x) (hy : inF y) (hu : inF u) (hv : inF v) (hk : k ≠ 0) (h : Err w b 0 k) :
    Calls Tryz.prog 35 #[.pointer (some ⟨b, 0, none⟩), vec x y, vec u v] w fun e w' => (∃ p q, e = .returned (.agg #[.int .i64 p, .int .i64 q])) ∧ Err w' b 0 k ∧ Past b w w' := by
  have hb : b < w.heap.size := cell_block h.1
  have C1 : Hid (∀ W, Err W b 0 k → Calls Tryz.prog 15 #[.pointer (some ⟨b, 0, none⟩), .int .i64 x, .int .i64 u] W fun e w' => e = .returned (.int .i64 0) ∧ Err w' b 0 k ∧ Past b W w') := fun W hE => by
    have := radd_k b 0 k x u W hx hu hE
    rw [ifK_no hk] at this
    exact this
  have C2 : Hid (∀ W, Err W b 0 k → Calls Tryz.prog 15 #[.pointer (some ⟨b, 0, none⟩), .int .i64 y, .int .i64 v] W fun e w' => e = .returned (.int .i64 0) ∧ Err w' b 0 k ∧ Past b W w') := fun W hE => by
    have := radd_k b 0 k y v W hy hv hE
    rw [ifK_no hk] at this
    exact this
  obtain ⟨W, hW⟩ : ∃ W, W = ((w.alloc (.cells #[.int .i64 x, .int .i64 y] 26)).alloc (.cells #[.int .i64 u, .int .i64 v] 26)).alloc (.cells #[.int .i64 0, .int .i64 0] 26) := ⟨_, rfl⟩
  have GW : Grew w W := by rw [hW]; exact (((Grew.refl w).alloc _ _).alloc _ _).alloc _ _
  have sz : W.heap.size = w.heap.size + 1 + 1 + 1 := by rw [hW]; simp [go_sem]
  have zW : ∀ o, W.frozen? ⟨w.heap.size + 1 + 1, o, none⟩ = false := fun o => GW.free (by simp; try omega)
  unfold vec
  go_enter Tryz.func35, Tryz.ntmps35
  go_wp2_with (first
    | (go_at_call 15; rw [← hW]; go_fit (C1.out _ (h.grew GW)); rintro e V ⟨rfl, E1, U1⟩; have m0 := U1.cell (p := ⟨w.heap.size, 0, none⟩) (v := .int .i64 x) (by simp; omega) (by rw [hW]; simp [go_sem]); have m1 := U1.cell (p := ⟨w.heap.size, 1, none⟩) (v := .int .i64 y) (by simp; omega) (by rw [hW]; simp [go_sem]); have m2 := U1.cell (p := ⟨w.heap.size + 1, 0, none⟩) (v := .int .i64 u) (by simp; omega) (by rw [hW]; simp [go_sem]); have m3 := U1.cell (p := ⟨w.heap.size + 1, 1, none⟩) (v := .int .i64 v) (by simp; omega) (by rw [hW]; simp [go_sem]); have n0 := U1.cell (p := ⟨w.heap.size + 1 + 1, 0, none⟩) (v := .int .i64 0) (by simp; omega) (by rw [hW]; simp [go_sem]); have n1 := U1.cell (p := ⟨w.heap.size + 1 + 1, 1, none⟩) (v := .int .i64 0) (by simp; omega) (by rw [hW]; simp [go_sem]); have y0 := U1.frozen (by simp; omega) (by simp; omega) (zW 0); have y1 := U1.frozen (by simp; omega) (by simp; omega) (zW 1))
    | (go_at_call 15; go_fit (C2.out _ E1); rintro e V2 ⟨rfl, E2, U2⟩; have l0 := U2.cell (by simp; omega) n0; have l1 := U2.cell (by simp; omega) n1; have i0 := U2.frozen (cell_block n0) (by simp; omega) y0; have i1 := U2.frozen (cell_block n1) (by simp; omega) y1))
  simp [bodyPost, results, Tryz.results35, go_sem, l0, l1]
  refine ⟨?_, ?_⟩
  · exact Err.past (Err.past E2 (by omega) _ rfl) (by omega) _ rfl
  · exact (((GW.past.trans U1).trans U2).setNew (by omega) _ _ _).setNew (by omega) _ _ _

/-- Plus behind any error. -/
theorem rplus_k (b : Nat) (x y u v k : Int) (w : World) (hx : inF x) (hy : inF y) (hu : inF u) (hv : inF v) (h : Err w b 0 k) :
    Calls Tryz.prog 35 #[.pointer (some ⟨b, 0, none⟩), .agg #[.int .i64 x, .int .i64 y], .agg #[.int .i64 u, .int .i64 v]] w fun e w' => (∃ p q, e = .returned (.agg #[.int .i64 p, .int .i64 q]) ∧ (k = 0 → (two (addR x u) (addR y v)).2.2 = 0 → p = (addR x u).1 ∧ q = (addR y v).1)) ∧ Err w' b 0 (if k = 0 then (two (addR x u) (addR y v)).2.2 else k) ∧ Past b w w' := by
  by_cases hk : k = 0
  · subst hk
    refine (rplus_any b x y u v w hx hy hu hv h).mono ?_
    rintro e w' ⟨⟨p, q, he, hpq⟩, E, P⟩
    exact ⟨⟨p, q, he, fun _ => hpq⟩, by rw [if_pos rfl]; exact E, P⟩
  · refine (rplus_no b x y u v k w hx hy hu hv hk h).mono ?_
    rintro e w' ⟨⟨p, q, he⟩, E, P⟩
    exact ⟨⟨p, q, he, fun g => (hk g).elim⟩, by rw [if_neg hk]; exact E, P⟩

theorem two_val' {r s : Int × Int} (h : (two r s).2.2 = 0) : (two r s).1 = r.1 ∧ (two r s).2.1 = s.1 := by
  obtain ⟨h1, h2⟩ := two_fst h
  rw [two_ok h1 h2]
  exact ⟨rfl, rfl⟩
theorem pairX_err (s t : Int × Int × Int) : (pairX s t).2 = if s.2.2 = 0 then t.2.2 else s.2.2 := by
  unfold pairX
  by_cases h : s.2.2 = 0
  · rw [if_pos h, if_pos h]
    by_cases g : t.2.2 = 0
    · rw [if_pos g, g]
    · rw [if_neg g]
  · rw [if_neg h, if_neg h]
theorem pairX_val {s t : Int × Int × Int} (h : (pairX s t).2 = 0) : s.2.2 = 0 ∧ t.2.2 = 0 ∧ (pairX s t).1 = ⟨s.1, s.2.1, t.1, t.2.1⟩ := by
  rw [pairX_err] at h
  by_cases g : s.2.2 = 0
  · rw [if_pos g] at h
    refine ⟨g, h, ?_⟩
    unfold pairX
    rw [if_pos g, if_pos h]
  · rw [if_neg g] at h
    exact absurd h g
theorem box_val {B : Bd} (h : (boxR B).2 = 0) : (two (subR B.p B.a) (subR B.q (reachY B))).2.2 = 0 ∧ (two (addR B.p B.a) (addR B.q (reachY B))).2.2 = 0 ∧ (boxR B).1 = ⟨(subR B.p B.a).1, (subR B.q (reachY B)).1, (addR B.p B.a).1, (addR B.q (reachY B)).1⟩ := by
  obtain ⟨h1, h2, h3⟩ := pairX_val h
  refine ⟨h1, h2, h3.trans ?_⟩
  rw [(two_val' h1).1, (two_val' h1).2, (two_val' h2).1, (two_val' h2).2]
theorem box_err (B : Bd) : (boxR B).2 = if (two (subR B.p B.a) (subR B.q (reachY B))).2.2 = 0 then (two (addR B.p B.a) (addR B.q (reachY B))).2.2 else (two (subR B.p B.a) (subR B.q (reachY B))).2.2 := pairX_err _ _

set_option maxHeartbeats 2000000 in
theorem rbox_any (b : Nat) (B : Bd) (hB : B.ok) (w : World) (h : Err w b 0 0) :
    Calls Tryz.prog 19 #[.pointer (some ⟨b, 0, none⟩), B.val] w fun e w' => (∃ x : Bx, e = .returned (.agg #[.int .i64 x.l, .int .i64 x.m, .int .i64 x.h, .int .i64 x.k]) ∧ ((boxR B).2 = 0 → x = (boxR B).1)) ∧ Err w' b 0 (boxR B).2 ∧ Past b w w' := by
  have hb : b < w.heap.size := cell_block h.1
  have ir := reach_in hB
  have hv := @box_val B
  have he := box_err B
  have C1 : Hid (∀ W, Err W b 0 0 → _) := fun W => rless_any b B.p B.q B.a (reachY B) W hB.p hB.q hB.a ir
  have C2 : Hid (∀ W k, Err W b 0 k → _) := fun W k => rplus_k b B.p B.q B.a (reachY B) k W hB.p hB.q hB.a ir
  unfold vec at C1
  have hr : reachY B = B.a ∧ B.s = 1 ∨ reachY B = B.b ∧ ¬ B.s = 1 := by
    by_cases g : B.s = 1
    · exact .inl ⟨reach_ball g, g⟩
    · exact .inr ⟨reach_else g, g⟩
  generalize boxR B = t at *
  generalize (two (subR B.p B.a) (subR B.q (reachY B))).2.2 = k1 at *
  generalize (two (addR B.p B.a) (addR B.q (reachY B))).2.2 = k2 at *
  generalize (subR B.q (reachY B)).1 = s2 at *
  generalize (addR B.q (reachY B)).1 = s4 at *
  generalize (subR B.p B.a).1 = s1 at *
  generalize (addR B.p B.a).1 = s3 at *
  generalize reachY B = r at *
  have HV : Hid _ := hv
  have HE : Hid _ := he
  clear hv he ir hB
  unfold Bd.val
  obtain ⟨W, hW⟩ : ∃ W, W = ((w.alloc (.cells #[.int .i64 B.s, .int .i64 B.a, .int .i64 B.b, .int .i64 B.m, .int .i64 B.p, .int .i64 B.q, .int .i64 B.u, .int .i64 B.v] 28)).alloc (.cells #[.int .i64 0, .int .i64 0, .int .i64 0, .int .i64 0] 57)).alloc (.cells #[.int .i64 B.a, .int .i64 r] 26) := ⟨_, rfl⟩
  have GW : Grew w W := by rw [hW]; exact (((Grew.refl w).alloc _ _).alloc _ _).alloc _ _
  have sz : W.heap.size = w.heap.size + 1 + 1 + 1 := by rw [hW]; simp [go_sem]
  have p4 : W.cell? ⟨w.heap.size, 4, none⟩ = some (.int .i64 B.p) := by rw [hW]; simp [go_sem]
  have p5 : W.cell? ⟨w.heap.size, 5, none⟩ = some (.int .i64 B.q) := by rw [hW]; simp [go_sem]
  have r0 : W.cell? ⟨w.heap.size + 1, 0, none⟩ = some (.int .i64 0) := by rw [hW]; simp [go_sem]
  have r1 : W.cell? ⟨w.heap.size + 1, 1, none⟩ = some (.int .i64 0) := by rw [hW]; simp [go_sem]
  have r2 : W.cell? ⟨w.heap.size + 1, 2, none⟩ = some (.int .i64 0) := by rw [hW]; simp [go_sem]
  have r3 : W.cell? ⟨w.heap.size + 1, 3, none⟩ = some (.int .i64 0) := by rw [hW]; simp [go_sem]
  have v0 : W.cell? ⟨w.heap.size + 1 + 1, 0, none⟩ = some (.int .i64 B.a) := by rw [hW]; simp [go_sem]
  have v1 : W.cell? ⟨w.heap.size + 1 + 1, 1, none⟩ = some (.int .i64 r) := by rw [hW]; simp [go_sem]
  have zW : Free W (w.heap.size + 1) := GW.freeB (by omega)
  have E0 := h.grew GW
  have HW : Hid (_ = _) := hW
  clear hW h
  rcases hr with ⟨rfl, hs⟩ | ⟨rfl, hs⟩
  · have hz : (B.s == 1) = true := by simpa using hs
    clear hs
    go_enter Tryz.func19, Tryz.ntmps19
    go_wp2_with (first
      | (go_at_call 13; rw [← HW.out]; go_fit (C1.out _ E0); rintro e V ⟨⟨x, y, rfl, hxy⟩, E1, U1⟩; replace p4 := U1.cell (by simp; omega) p4; replace p5 := U1.cell (by simp; omega) p5; replace v0 := U1.cell (by simp; omega) v0; replace v1 := U1.cell (by simp; omega) v1; replace r0 := U1.cell (by simp; omega) r0; replace r1 := U1.cell (by simp; omega) r1; replace r2 := U1.cell (by simp; omega) r2; replace r3 := U1.cell (by simp; omega) r3; have zV : Free V (w.heap.size + 1) := fun o s => U1.frozen (by simp; omega) (by simp; omega) (zW o s); have sV := U1.size))
    obtain ⟨M, hM⟩ : ∃ M, M = V.alloc (.cells #[.int .i64 x, .int .i64 y] 26) := ⟨_, rfl⟩
    rw [← hM]
    have gM : Grew V M := by rw [hM]; exact (Grew.refl V).alloc _ _
    have sM : M.heap.size = V.heap.size + 1 := by rw [hM]; simp [go_sem]
    have l0 : M.cell? ⟨V.heap.size, 0, none⟩ = some (.int .i64 x) := by rw [hM]; simp [go_sem]
    have l1 : M.cell? ⟨V.heap.size, 1, none⟩ = some (.int .i64 y) := by rw [hM]; simp [go_sem]
    have PM : Hid (Past b w M) := (GW.past.trans U1).trans gM.past
    replace p4 := gM.cell p4
    replace p5 := gM.cell p5
    replace v0 := gM.cell v0
    replace v1 := gM.cell v1
    replace r0 := gM.cell r0
    replace r1 := gM.cell r1
    replace r2 := gM.cell r2
    replace r3 := gM.cell r3
    replace zV := zV.grew gM
    replace E1 := E1.grew gM
    have E1' : Err M.drew b 0 k1 := E1.grew (Grew.refl M).drew
    have HX : Hid _ := hxy
    have f1 := set_far (show V.heap.size ≠ w.heap.size + 1 by omega)
    clear hM gM U1 E0 GW zW HW C1 hxy
    go_region_held2 (fun w' => w'.cell? ⟨w.heap.size, 4, none⟩ = some (.int .i64 B.p) ∧ w'.cell? ⟨w.heap.size, 5, none⟩ = some (.int .i64 B.q) ∧ w'.cell? ⟨V.heap.size, 0, none⟩ = some (.int .i64 x) ∧ w'.cell? ⟨V.heap.size, 1, none⟩ = some (.int .i64 y) ∧ w'.cell? ⟨w.heap.size + 1 + 1, 0, none⟩ = some (.int .i64 B.a) ∧ w'.cell? ⟨w.heap.size + 1 + 1, 1, none⟩ = some (.int .i64 B.a)) (go_keep)
      (first
        | (go_at_call 35; go_fit (C2.out _ _ E1'); rintro e V2 ⟨⟨p, q, rfl, hpq⟩, E2, U2⟩; have s2' := U2.size; (try (simp at s2')); have k3 := U2.cells (b := w.heap.size) (by first | omega | (simp; omega)) (by omega); have k4 := U2.cells (b := V.heap.size) (by first | omega | (simp; omega)) (by omega); have k5 := U2.cells (b := w.heap.size + 1 + 1) (by first | omega | (simp; omega)) (by omega); have PD : Past b M V2 := (Grew.refl M).drew.past.trans U2; have q0 := PD.cell (by simp; omega) r0; have q1 := PD.cell (by simp; omega) r1; have q2 := PD.cell (by simp; omega) r2; have q3 := PD.cell (by simp; omega) r3; have z0 := PD.frozen (by simp; omega) (by simp; omega) (zV 0 none); have z1 := PD.frozen (by simp; omega) (by simp; omega) (zV 1 none); have z2 := PD.frozen (by simp; omega) (by simp; omega) (zV 2 none); have z3 := PD.frozen (by simp; omega) (by simp; omega) (zV 3 none)))
    go_wp2
    simp [bodyPost, results, Tryz.results19, go_sem, q0, q1, q2, q3]
    refine ⟨⟨⟨x, y, p, q⟩, ⟨rfl, rfl, rfl, rfl⟩, fun g => ?_⟩, ?_, ?_⟩
    · obtain ⟨g1, g2, g3⟩ := HV.out g
      obtain ⟨x1, x2⟩ := HX.out g1
      obtain ⟨x3, x4⟩ := hpq g1 g2
      rw [g3, x1, x2, x3, x4]
    · rw [HE.out]
      exact Err.past (Err.past (Err.past (Err.past E2 (by omega) _ rfl) (by omega) _ rfl) (by omega) _ rfl) (by omega) _ rfl
    · exact ((((PM.out.trans PD).setNew (by omega) _ _ _).setNew (by omega) _ _ _).setNew (by omega) _ _ _).setNew (by omega) _ _ _
  · have hz : (B.s == 1) = false := by simpa using hs
    clear hs
    go_enter Tryz.func19, Tryz.ntmps19
    go_wp2_with (first
      | (go_at_call 13; rw [← HW.out]; go_fit (C1.out _ E0); rintro e V ⟨⟨x, y, rfl, hxy⟩, E1, U1⟩; replace p4 := U1.cell (by simp; omega) p4; replace p5 := U1.cell (by simp; omega) p5; replace v0 := U1.cell (by simp; omega) v0; replace v1 := U1.cell (by simp; omega) v1; replace r0 := U1.cell (by simp; omega) r0; replace r1 := U1.cell (by simp; omega) r1; replace r2 := U1.cell (by simp; omega) r2; replace r3 := U1.cell (by simp; omega) r3; have zV : Free V (w.heap.size + 1) := fun o s => U1.frozen (by simp; omega) (by simp; omega) (zW o s); have sV := U1.size))
    obtain ⟨M, hM⟩ : ∃ M, M = V.alloc (.cells #[.int .i64 x, .int .i64 y] 26) := ⟨_, rfl⟩
    rw [← hM]
    have gM : Grew V M := by rw [hM]; exact (Grew.refl V).alloc _ _
    have sM : M.heap.size = V.heap.size + 1 := by rw [hM]; simp [go_sem]
    have l0 : M.cell? ⟨V.heap.size, 0, none⟩ = some (.int .i64 x) := by rw [hM]; simp [go_sem]
    have l1 : M.cell? ⟨V.heap.size, 1, none⟩ = some (.int .i64 y) := by rw [hM]; simp [go_sem]
    have PM : Hid (Past b w M) := (GW.past.trans U1).trans gM.past
    replace p4 := gM.cell p4
    replace p5 := gM.cell p5
    replace v0 := gM.cell v0
    replace v1 := gM.cell v1
    replace r0 := gM.cell r0
    replace r1 := gM.cell r1
    replace r2 := gM.cell r2
    replace r3 := gM.cell r3
    replace zV := zV.grew gM
    replace E1 := E1.grew gM
    have E1' : Err M.drew b 0 k1 := E1.grew (Grew.refl M).drew
    have HX : Hid _ := hxy
    have f1 := set_far (show V.heap.size ≠ w.heap.size + 1 by omega)
    clear hM gM U1 E0 GW zW HW C1 hxy
    go_region_held2 (fun w' => w'.cell? ⟨w.heap.size, 4, none⟩ = some (.int .i64 B.p) ∧ w'.cell? ⟨w.heap.size, 5, none⟩ = some (.int .i64 B.q) ∧ w'.cell? ⟨V.heap.size, 0, none⟩ = some (.int .i64 x) ∧ w'.cell? ⟨V.heap.size, 1, none⟩ = some (.int .i64 y) ∧ w'.cell? ⟨w.heap.size + 1 + 1, 0, none⟩ = some (.int .i64 B.a) ∧ w'.cell? ⟨w.heap.size + 1 + 1, 1, none⟩ = some (.int .i64 B.b)) (go_keep)
      (first
        | (go_at_call 35; go_fit (C2.out _ _ E1'); rintro e V2 ⟨⟨p, q, rfl, hpq⟩, E2, U2⟩; have s2' := U2.size; (try (simp at s2')); have k3 := U2.cells (b := w.heap.size) (by first | omega | (simp; omega)) (by omega); have k4 := U2.cells (b := V.heap.size) (by first | omega | (simp; omega)) (by omega); have k5 := U2.cells (b := w.heap.size + 1 + 1) (by first | omega | (simp; omega)) (by omega); have PD : Past b M V2 := (Grew.refl M).drew.past.trans U2; have q0 := PD.cell (by simp; omega) r0; have q1 := PD.cell (by simp; omega) r1; have q2 := PD.cell (by simp; omega) r2; have q3 := PD.cell (by simp; omega) r3; have z0 := PD.frozen (by simp; omega) (by simp; omega) (zV 0 none); have z1 := PD.frozen (by simp; omega) (by simp; omega) (zV 1 none); have z2 := PD.frozen (by simp; omega) (by simp; omega) (zV 2 none); have z3 := PD.frozen (by simp; omega) (by simp; omega) (zV 3 none)))
    go_wp2
    simp [bodyPost, results, Tryz.results19, go_sem, q0, q1, q2, q3]
    refine ⟨⟨⟨x, y, p, q⟩, ⟨rfl, rfl, rfl, rfl⟩, fun g => ?_⟩, ?_, ?_⟩
    · obtain ⟨g1, g2, g3⟩ := HV.out g
      obtain ⟨x1, x2⟩ := HX.out g1
      obtain ⟨x3, x4⟩ := hpq g1 g2
      rw [g3, x1, x2, x3, x4]
    · rw [HE.out]
      exact Err.past (Err.past (Err.past (Err.past E2 (by omega) _ rfl) (by omega) _ rfl) (by omega) _ rfl) (by omega) _ rfl
    · exact ((((PM.out.trans PD).setNew (by omega) _ _ _).setNew (by omega) _ _ _).setNew (by omega) _ _ _).setNew (by omega) _ _ _
end Go.Proofs.YtcoooehcgbohgaaGreat

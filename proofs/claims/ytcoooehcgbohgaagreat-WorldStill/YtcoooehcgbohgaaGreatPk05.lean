/-
  What touch.Hit does: what the plain function says, or a panic of a Fault; more blocks are in memory, and nothing else. Plain numbers: what Hit answers are numbers of the language's own. Nothing is claimed here.
-/
import Derived.Test.YtcoooehcgbohgaaGreatPxHTouch2
namespace Go.Proofs.YtcoooehcgbohgaaGreat
open Go.RowKit

theorem contact_ok {x y d : Int} (hx : inF x) (hy : inF y) (hd : inF d) : (contactH x y d).1.ok := by
  unfold contactH
  split
  · exact ⟨inF0, inF0, inF0⟩
  · exact ⟨hx, hy, hd⟩
theorem tow_inF (d : Int) : inF (towI d) := by have := tow_in d; exact ⟨by omega, by omega⟩
theorem ifH_okH {k : Int} {r : (Ht × Bool) × Int} (h : r.1.1.ok) : (ifH k r).1.1.ok := by
  unfold ifH
  split
  · exact h
  · exact ⟨inF0, inF0, inF0⟩
theorem none_okH : noneH.1.1.ok := ⟨inF0, inF0, inF0⟩
theorem crateR_ok {A B : Bd} : (crateR A B).1.1.ok := by
  refine ifH_okH (ifH_okH ?_)
  split
  · exact none_okH
  · refine ifH_okH ?_
    show (lessH _ _ _ _).1.ok
    unfold lessH
    split
    · exact contact_ok inF0 (tow_inF _) over_in
    · exact contact_ok (tow_inF _) inF0 over_in
theorem ballR_ok {A B : Bd} : (ballR A B).1.1.ok := by
  refine ifH_okH (ifH_okH ?_)
  have iD := two_in (subR_in (nearI A.p (boxR B).1.l (boxR B).1.h) A.p) (subR_in (nearI A.q (boxR B).1.m (boxR B).1.k) A.q)
  have iU := unitR_in iD.1 iD.2
  refine ifH_okH ?_
  split
  · exact crateR_ok
  · exact ifH_okH (contact_ok iU.2.1 iU.2.2 (subR_in _ _))

theorem flipB_no1 {r : (Ht × Bool) × Int} (h : ¬ r.2 = 0) : outH (flipB r) = .panicked [fault r.2] := by unfold flipB; rw [ifH_no h]; exact if_neg h
theorem flipB_no2 {r : (Ht × Bool) × Int} (h : r.2 = 0) (g : ¬ (flipR r.1.1).2 = 0) : outH (flipB r) = .panicked [fault (flipR r.1.1).2] := by unfold flipB; rw [ifH_ok h, ifH_no g]; exact if_neg g
theorem flipB_ok {r : (Ht × Bool) × Int} (h : r.2 = 0) (g : (flipR r.1.1).2 = 0) : outH (flipB r) = .returned (.tuple #[.agg #[.int .i64 (flipR r.1.1).1.x, .int .i64 (flipR r.1.1).1.y, .int .i64 (flipR r.1.1).1.d], .bool r.1.2]) := by unfold flipB; rw [ifH_ok h, ifH_ok g]; rfl

set_option maxHeartbeats 2000000 in
theorem cball_any (A B : Bd) (hA : A.ok) (hB : B.ok) (w : World) :
    Calls Tryz.prog 88 #[A.val, B.val] w fun e w' => e = outH (flipB (ballR B A)) ∧ Grew w w' := by
  have G : Hid (Grew w (((w.alloc (.cells #[.int .i64 A.s, .int .i64 A.a, .int .i64 A.b, .int .i64 A.m, .int .i64 A.p, .int .i64 A.q, .int .i64 A.u, .int .i64 A.v] 28)).alloc (.cells #[.int .i64 B.s, .int .i64 B.a, .int .i64 B.b, .int .i64 B.m, .int .i64 B.p, .int .i64 B.q, .int .i64 B.u, .int .i64 B.v] 28)).alloc (.cells #[.int .i64 0, .int .i64 0, .int .i64 0] 34))) := (((Grew.refl w).alloc _ _).alloc _ _).alloc _ _
  have c1 := fun W => waysH_of (ball_any B A hB hA W)
  have ok := @ballR_ok B A
  have n1 := @flipB_no1 (ballR B A)
  have n2 := @flipB_no2 (ballR B A)
  have n3 := @flipB_ok (ballR B A)
  generalize flipB (ballR B A) = T at *
  generalize ballR B A = r at *
  obtain ⟨⟨h, b⟩, k⟩ := r
  simp only at c1 ok n1 n2 n3
  have c2 := fun W => waysF_of (flip_any h ok W)
  generalize flipR h = f at *
  obtain ⟨f, j⟩ := f
  simp only at c2 n2 n3
  unfold Bd.val at c1
  unfold Bd.val
  have C1 : Hid _ := c1
  have C2 : Hid _ := c2
  have N1 : Hid _ := n1
  have N2 : Hid _ := n2
  have N3 : Hid _ := n3
  clear c1 c2 n1 n2 n3 ok hA hB
  go_enter Tryz.func88, Tryz.ntmps88
  go_wp2_with (first
    | (go_at_call 87; go_fit (C1.out _); rintro e V ⟨(⟨rfl, h1⟩ | ⟨rfl, h1⟩), U⟩; have r0 := U.cell (p := ⟨w.heap.size + 1 + 1, 0, none⟩) (v := .int .i64 0) (by simp [go_sem]); have r1 := U.cell (p := ⟨w.heap.size + 1 + 1, 1, none⟩) (v := .int .i64 0) (by simp [go_sem]); have r2 := U.cell (p := ⟨w.heap.size + 1 + 1, 2, none⟩) (v := .int .i64 0) (by simp [go_sem]); have z0 := U.frozen (p := ⟨w.heap.size + 1 + 1, 0, none⟩) (by simp [go_sem]); have z1 := U.frozen (p := ⟨w.heap.size + 1 + 1, 1, none⟩) (by simp [go_sem]); have z2 := U.frozen (p := ⟨w.heap.size + 1 + 1, 2, none⟩) (by simp [go_sem]))
    | (go_at_call 111; go_fit (C2.out _); rintro e V2 ⟨(⟨rfl, h2⟩ | ⟨rfl, h2⟩), U2⟩; have s0 := U2.cell (((Grew.refl V).alloc _ _).cell r0); have s1 := U2.cell (((Grew.refl V).alloc _ _).cell r1); have s2 := U2.cell (((Grew.refl V).alloc _ _).cell r2); have y0 := U2.frozen (((Grew.refl V).alloc _ _).frozen z0); have y1 := U2.frozen (((Grew.refl V).alloc _ _).frozen z1); have y2 := U2.frozen (((Grew.refl V).alloc _ _).frozen z2)))
  all_goals try (first | (exact ⟨rfl, (N1.out h1.out).symm, G.out.trans U⟩) | (exact ⟨rfl, (N2.out h1.out h2.out).symm, ((G.out.trans U).alloc _ _).trans U2⟩))
  simp [bodyPost, results, Tryz.results88, go_sem, s0, s1, s2]
  exact ⟨(N3.out h1.out h2.out).symm, hit_set (((G.out.trans U).alloc _ _).trans U2) (b := w.heap.size + 1 + 1) (by omega) _ _ _⟩

theorem hitR_11 {A B : Bd} (h : A.s = 1) (g : B.s = 1) : hitR A B = ballsR A B := if_pos ⟨h, g⟩
theorem hitR_22 {A B : Bd} (h : A.s = 2) (g : B.s = 2) : hitR A B = crateR A B := by unfold hitR; rw [if_neg (by omega), if_pos ⟨h, g⟩]
theorem hitR_12 {A B : Bd} (h : A.s = 1) (g : B.s = 2) : hitR A B = ballR A B := by unfold hitR; rw [if_neg (by omega), if_neg (by omega), if_pos ⟨h, g⟩]
theorem hitR_21 {A B : Bd} (h : A.s = 2) (g : B.s = 1) : hitR A B = flipB (ballR B A) := by unfold hitR; rw [if_neg (by omega), if_neg (by omega), if_neg (by omega), if_pos ⟨h, g⟩]
theorem hitR_no {A B : Bd} (h1 : ¬ (A.s = 1 ∧ B.s = 1)) (h2 : ¬ (A.s = 2 ∧ B.s = 2)) (h3 : ¬ (A.s = 1 ∧ B.s = 2)) (h4 : ¬ (A.s = 2 ∧ B.s = 1)) : hitR A B = noneH := by unfold hitR; rw [if_neg h1, if_neg h2, if_neg h3, if_neg h4]

/-! ### Hit -/
set_option maxHeartbeats 2000000 in
theorem hit11_any (A B : Bd) (hA : A.ok) (hB : B.ok) (w : World) (sA : A.s = 1) (sB : B.s = 1) :
    Calls Tryz.prog 61 #[A.val, B.val] w fun e w' => e = outH (hitR A B) ∧ Grew w w' := by
  have G : Hid (Grew w (((w.alloc (.cells #[.int .i64 A.s, .int .i64 A.a, .int .i64 A.b, .int .i64 A.m, .int .i64 A.p, .int .i64 A.q, .int .i64 A.u, .int .i64 A.v] 28)).alloc (.cells #[.int .i64 B.s, .int .i64 B.a, .int .i64 B.b, .int .i64 B.m, .int .i64 B.p, .int .i64 B.q, .int .i64 B.u, .int .i64 B.v] 28)).alloc (.cells #[.int .i64 0, .int .i64 0, .int .i64 0] 34))) := (((Grew.refl w).alloc _ _).alloc _ _).alloc _ _
  have c1 := fun W => waysH_of (balls_any A B hA hB W)
  rw [hitR_11 sA sB]
  generalize ballsR A B = T at *
  unfold Bd.val at c1
  unfold Bd.val
  have C1 : Hid _ := c1
  have x1 : (A.s == 1) = true := by simp [sA]
  have x2 : (A.s == 2) = false := by simp [sA]
  have y1 : (B.s == 1) = true := by simp [sB]
  have y2 : (B.s == 2) = false := by simp [sB]
  clear c1 hA hB sA sB
  go_enter Tryz.func61, Tryz.ntmps61
  go_wp2_with (first
    | (go_at_call 85; go_fit (C1.out _); rintro e V ⟨(⟨rfl, h1⟩ | ⟨rfl, h1⟩), U⟩; have r0 := U.cell (p := ⟨w.heap.size + 1 + 1, 0, none⟩) (v := .int .i64 0) (by simp [go_sem]); have r1 := U.cell (p := ⟨w.heap.size + 1 + 1, 1, none⟩) (v := .int .i64 0) (by simp [go_sem]); have r2 := U.cell (p := ⟨w.heap.size + 1 + 1, 2, none⟩) (v := .int .i64 0) (by simp [go_sem]); have z0 := U.frozen (p := ⟨w.heap.size + 1 + 1, 0, none⟩) (by simp [go_sem]); have z1 := U.frozen (p := ⟨w.heap.size + 1 + 1, 1, none⟩) (by simp [go_sem]); have z2 := U.frozen (p := ⟨w.heap.size + 1 + 1, 2, none⟩) (by simp [go_sem])))
  all_goals try (exact ⟨rfl, (if_neg h1.out).symm, G.out.trans U⟩)
  simp [bodyPost, results, Tryz.results61, go_sem, r0, r1, r2]
  exact ⟨(if_pos h1.out).symm, hit_set (G.out.trans U) (b := w.heap.size + 1 + 1) (by omega) _ _ _⟩
set_option maxHeartbeats 2000000 in
theorem hit22_any (A B : Bd) (hA : A.ok) (hB : B.ok) (w : World) (sA : A.s = 2) (sB : B.s = 2) :
    Calls Tryz.prog 61 #[A.val, B.val] w fun e w' => e = outH (hitR A B) ∧ Grew w w' := by
  have G : Hid (Grew w (((w.alloc (.cells #[.int .i64 A.s, .int .i64 A.a, .int .i64 A.b, .int .i64 A.m, .int .i64 A.p, .int .i64 A.q, .int .i64 A.u, .int .i64 A.v] 28)).alloc (.cells #[.int .i64 B.s, .int .i64 B.a, .int .i64 B.b, .int .i64 B.m, .int .i64 B.p, .int .i64 B.q, .int .i64 B.u, .int .i64 B.v] 28)).alloc (.cells #[.int .i64 0, .int .i64 0, .int .i64 0] 34))) := (((Grew.refl w).alloc _ _).alloc _ _).alloc _ _
  have c1 := fun W => waysH_of (crates_any A B hA hB W)
  rw [hitR_22 sA sB]
  generalize crateR A B = T at *
  unfold Bd.val at c1
  unfold Bd.val
  have C1 : Hid _ := c1
  have x1 : (A.s == 1) = false := by simp [sA]
  have x2 : (A.s == 2) = true := by simp [sA]
  have y1 : (B.s == 1) = false := by simp [sB]
  have y2 : (B.s == 2) = true := by simp [sB]
  clear c1 hA hB sA sB
  go_enter Tryz.func61, Tryz.ntmps61
  go_wp2_with (first
    | (go_at_call 86; go_fit (C1.out _); rintro e V ⟨(⟨rfl, h1⟩ | ⟨rfl, h1⟩), U⟩; have r0 := U.cell (p := ⟨w.heap.size + 1 + 1, 0, none⟩) (v := .int .i64 0) (by simp [go_sem]); have r1 := U.cell (p := ⟨w.heap.size + 1 + 1, 1, none⟩) (v := .int .i64 0) (by simp [go_sem]); have r2 := U.cell (p := ⟨w.heap.size + 1 + 1, 2, none⟩) (v := .int .i64 0) (by simp [go_sem]); have z0 := U.frozen (p := ⟨w.heap.size + 1 + 1, 0, none⟩) (by simp [go_sem]); have z1 := U.frozen (p := ⟨w.heap.size + 1 + 1, 1, none⟩) (by simp [go_sem]); have z2 := U.frozen (p := ⟨w.heap.size + 1 + 1, 2, none⟩) (by simp [go_sem])))
  all_goals try (exact ⟨rfl, (if_neg h1.out).symm, G.out.trans U⟩)
  simp [bodyPost, results, Tryz.results61, go_sem, r0, r1, r2]
  exact ⟨(if_pos h1.out).symm, hit_set (G.out.trans U) (b := w.heap.size + 1 + 1) (by omega) _ _ _⟩
set_option maxHeartbeats 2000000 in
theorem hit12_any (A B : Bd) (hA : A.ok) (hB : B.ok) (w : World) (sA : A.s = 1) (sB : B.s = 2) :
    Calls Tryz.prog 61 #[A.val, B.val] w fun e w' => e = outH (hitR A B) ∧ Grew w w' := by
  have G : Hid (Grew w (((w.alloc (.cells #[.int .i64 A.s, .int .i64 A.a, .int .i64 A.b, .int .i64 A.m, .int .i64 A.p, .int .i64 A.q, .int .i64 A.u, .int .i64 A.v] 28)).alloc (.cells #[.int .i64 B.s, .int .i64 B.a, .int .i64 B.b, .int .i64 B.m, .int .i64 B.p, .int .i64 B.q, .int .i64 B.u, .int .i64 B.v] 28)).alloc (.cells #[.int .i64 0, .int .i64 0, .int .i64 0] 34))) := (((Grew.refl w).alloc _ _).alloc _ _).alloc _ _
  have c1 := fun W => waysH_of (ball_any A B hA hB W)
  rw [hitR_12 sA sB]
  generalize ballR A B = T at *
  unfold Bd.val at c1
  unfold Bd.val
  have C1 : Hid _ := c1
  have x1 : (A.s == 1) = true := by simp [sA]
  have x2 : (A.s == 2) = false := by simp [sA]
  have y1 : (B.s == 1) = false := by simp [sB]
  have y2 : (B.s == 2) = true := by simp [sB]
  clear c1 hA hB sA sB
  go_enter Tryz.func61, Tryz.ntmps61
  go_wp2_with (first
    | (go_at_call 87; go_fit (C1.out _); rintro e V ⟨(⟨rfl, h1⟩ | ⟨rfl, h1⟩), U⟩; have r0 := U.cell (p := ⟨w.heap.size + 1 + 1, 0, none⟩) (v := .int .i64 0) (by simp [go_sem]); have r1 := U.cell (p := ⟨w.heap.size + 1 + 1, 1, none⟩) (v := .int .i64 0) (by simp [go_sem]); have r2 := U.cell (p := ⟨w.heap.size + 1 + 1, 2, none⟩) (v := .int .i64 0) (by simp [go_sem]); have z0 := U.frozen (p := ⟨w.heap.size + 1 + 1, 0, none⟩) (by simp [go_sem]); have z1 := U.frozen (p := ⟨w.heap.size + 1 + 1, 1, none⟩) (by simp [go_sem]); have z2 := U.frozen (p := ⟨w.heap.size + 1 + 1, 2, none⟩) (by simp [go_sem])))
  all_goals try (exact ⟨rfl, (if_neg h1.out).symm, G.out.trans U⟩)
  simp [bodyPost, results, Tryz.results61, go_sem, r0, r1, r2]
  exact ⟨(if_pos h1.out).symm, hit_set (G.out.trans U) (b := w.heap.size + 1 + 1) (by omega) _ _ _⟩
set_option maxHeartbeats 2000000 in
theorem hit21_any (A B : Bd) (hA : A.ok) (hB : B.ok) (w : World) (sA : A.s = 2) (sB : B.s = 1) :
    Calls Tryz.prog 61 #[A.val, B.val] w fun e w' => e = outH (hitR A B) ∧ Grew w w' := by
  have G : Hid (Grew w (((w.alloc (.cells #[.int .i64 A.s, .int .i64 A.a, .int .i64 A.b, .int .i64 A.m, .int .i64 A.p, .int .i64 A.q, .int .i64 A.u, .int .i64 A.v] 28)).alloc (.cells #[.int .i64 B.s, .int .i64 B.a, .int .i64 B.b, .int .i64 B.m, .int .i64 B.p, .int .i64 B.q, .int .i64 B.u, .int .i64 B.v] 28)).alloc (.cells #[.int .i64 0, .int .i64 0, .int .i64 0] 34))) := (((Grew.refl w).alloc _ _).alloc _ _).alloc _ _
  have c1 := fun W => waysH_of (cball_any A B hA hB W)
  rw [hitR_21 sA sB]
  generalize flipB (ballR B A) = T at *
  unfold Bd.val at c1
  unfold Bd.val
  have C1 : Hid _ := c1
  have x1 : (A.s == 1) = false := by simp [sA]
  have x2 : (A.s == 2) = true := by simp [sA]
  have y1 : (B.s == 1) = true := by simp [sB]
  have y2 : (B.s == 2) = false := by simp [sB]
  clear c1 hA hB sA sB
  go_enter Tryz.func61, Tryz.ntmps61
  go_wp2_with (first
    | (go_at_call 88; go_fit (C1.out _); rintro e V ⟨(⟨rfl, h1⟩ | ⟨rfl, h1⟩), U⟩; have r0 := U.cell (p := ⟨w.heap.size + 1 + 1, 0, none⟩) (v := .int .i64 0) (by simp [go_sem]); have r1 := U.cell (p := ⟨w.heap.size + 1 + 1, 1, none⟩) (v := .int .i64 0) (by simp [go_sem]); have r2 := U.cell (p := ⟨w.heap.size + 1 + 1, 2, none⟩) (v := .int .i64 0) (by simp [go_sem]); have z0 := U.frozen (p := ⟨w.heap.size + 1 + 1, 0, none⟩) (by simp [go_sem]); have z1 := U.frozen (p := ⟨w.heap.size + 1 + 1, 1, none⟩) (by simp [go_sem]); have z2 := U.frozen (p := ⟨w.heap.size + 1 + 1, 2, none⟩) (by simp [go_sem])))
  all_goals try (exact ⟨rfl, (if_neg h1.out).symm, G.out.trans U⟩)
  simp [bodyPost, results, Tryz.results61, go_sem, r0, r1, r2]
  exact ⟨(if_pos h1.out).symm, hit_set (G.out.trans U) (b := w.heap.size + 1 + 1) (by omega) _ _ _⟩
set_option maxHeartbeats 2000000 in
theorem hit00_any (A B : Bd) (w : World) (h1 : ¬ (A.s = 1 ∧ B.s = 1)) (h2 : ¬ (A.s = 2 ∧ B.s = 2)) (h3 : ¬ (A.s = 1 ∧ B.s = 2)) (h4 : ¬ (A.s = 2 ∧ B.s = 1)) :
    Calls Tryz.prog 61 #[A.val, B.val] w fun e w' => e = outH (hitR A B) ∧ Grew w w' := by
  have G : Hid (Grew w (((w.alloc (.cells #[.int .i64 A.s, .int .i64 A.a, .int .i64 A.b, .int .i64 A.m, .int .i64 A.p, .int .i64 A.q, .int .i64 A.u, .int .i64 A.v] 28)).alloc (.cells #[.int .i64 B.s, .int .i64 B.a, .int .i64 B.b, .int .i64 B.m, .int .i64 B.p, .int .i64 B.q, .int .i64 B.u, .int .i64 B.v] 28)).alloc (.cells #[.int .i64 0, .int .i64 0, .int .i64 0] 34))) := (((Grew.refl w).alloc _ _).alloc _ _).alloc _ _
  rw [hitR_no h1 h2 h3 h4]
  unfold Bd.val
  have hc : ((A.s == 1) = false ∧ (A.s == 2) = false) ∨ ((B.s == 1) = false ∧ (B.s == 2) = false) := by
    simp only [beq_eq_false_iff_ne, ne_eq]
    omega
  clear h1 h2 h3 h4
  by_cases x1 : (A.s == 1) = true
  · have x2 : (A.s == 2) = false := by simp at x1 ⊢; omega
    obtain ⟨y1, y2⟩ : (B.s == 1) = false ∧ (B.s == 2) = false := by rcases hc with h | h; (rw [x1] at h; cases h.1); exact h
    clear hc
    go_enter Tryz.func61, Tryz.ntmps61
    go_wp2
    simp [bodyPost, results, Tryz.results61, go_sem]
    exact ⟨rfl, G.out⟩
  · replace x1 : (A.s == 1) = false := by simpa using x1
    by_cases x2 : (A.s == 2) = true
    · obtain ⟨y1, y2⟩ : (B.s == 1) = false ∧ (B.s == 2) = false := by rcases hc with h | h; (rw [x2] at h; cases h.2); exact h
      clear hc
      go_enter Tryz.func61, Tryz.ntmps61
      go_wp2
      simp [bodyPost, results, Tryz.results61, go_sem]
      exact ⟨rfl, G.out⟩
    · replace x2 : (A.s == 2) = false := by simpa using x2
      clear hc
      go_enter Tryz.func61, Tryz.ntmps61
      go_wp2
      simp [bodyPost, results, Tryz.results61, go_sem]
      exact ⟨rfl, G.out⟩
theorem touch_hit (A B : Bd) (hA : A.ok) (hB : B.ok) (w : World) :
    Calls Tryz.prog 61 #[A.val, B.val] w fun e w' => e = outH (hitR A B) ∧ Grew w w' := by
  by_cases h1 : A.s = 1 ∧ B.s = 1
  · exact hit11_any A B hA hB w h1.1 h1.2
  by_cases h2 : A.s = 2 ∧ B.s = 2
  · exact hit22_any A B hA hB w h2.1 h2.2
  by_cases h3 : A.s = 1 ∧ B.s = 2
  · exact hit12_any A B hA hB w h3.1 h3.2
  by_cases h4 : A.s = 2 ∧ B.s = 1
  · exact hit21_any A B hA hB w h4.1 h4.2
  exact hit00_any A B w h1 h2 h3 h4
end Go.Proofs.YtcoooehcgbohgaaGreat

namespace Go.Proofs.YtcoooehcgbohgaaGreat
open Go Go.RowKit

theorem ballsR_ok {A B : Bd} : (ballsR A B).1.1.ok := by
  have iD := two_in (subR_in B.p A.p) (subR_in B.q A.q)
  have iU := unitR_in iD.1 iD.2
  refine ifH_okH (ifH_okH (ifH_okH ?_))
  have iS : inF (sumR A.a B.a (unitR (gapV A B).1 (gapV A B).2.1).2.1).1 := behind_in (subR_in _ _)
  show (awayH _ _ _).1.ok
  unfold awayH
  split
  · exact contact_ok ⟨by decide, by decide⟩ inF0 iS
  · exact contact_ok iU.2.1 iU.2.2 iS
theorem flipR_ok {h : Ht} (o : h.ok) : (flipR h).1.ok := by
  unfold flipR
  split
  · exact ⟨subR_in _ _, subR_in _ _, o.d⟩
  · exact ⟨inF0, inF0, inF0⟩
theorem hitR_ok (A B : Bd) : (hitR A B).1.1.ok := by
  unfold hitR
  split
  · exact ballsR_ok
  split
  · exact crateR_ok
  split
  · exact ballR_ok
  split
  · exact ifH_okH (ifH_okH (flipR_ok ballR_ok))
  · exact none_okH
end Go.Proofs.YtcoooehcgbohgaaGreat

/-
  What package vec's calls do: what the plain functions say, or a panic of a Fault of the first error; more blocks are in memory, and nothing else.
-/
import Derived.Test.YtnkhknmpffcfbaaGreatVNum
import Derived.Test.YtnkhknmpffcfbaaGreatVCalls
import Derived.Deep.RegionHeld2
import Derived.Deep.DeepFit
namespace Go.Proofs.YtnkhknmpffcfbaaGreat
open Go.RowKit

/-- How Unit ends. -/
def outU (t : (Int × Int) × Int × Int) : Ending := if t.2.2 = 0 then .returned (.tuple #[vec t.1.1 t.1.2, .int .i64 t.2.1]) else .panicked [fault t.2.2]
theorem unitR_no {x y : Int} (h : ¬ (lenR x y).2 = 0) : outU (unitR x y) = .panicked [fault (lenR x y).2] := by unfold unitR; rw [if_neg h]; exact if_neg h
theorem unitR_zero {x y : Int} (h : (lenR x y).2 = 0) (g : (lenR x y).1 = 0) : unitR x y = ((0, 0), 0, 0) := by unfold unitR; rw [if_pos h, if_pos g]
theorem unitR_ok {x y : Int} (h : (lenR x y).2 = 0) (g : ¬ (lenR x y).1 = 0) (i : (two (divR x (lenR x y).1) (divR y (lenR x y).1)).2.2 = 0) : unitR x y = (((divR x (lenR x y).1).1, (divR y (lenR x y).1).1), (lenR x y).1, 0) := by unfold unitR; rw [if_pos h, if_neg g, if_pos i]
theorem unitR_bad {x y : Int} (h : (lenR x y).2 = 0) (g : ¬ (lenR x y).1 = 0) (i : ¬ (two (divR x (lenR x y).1) (divR y (lenR x y).1)).2.2 = 0) : outU (unitR x y) = .panicked [fault (two (divR x (lenR x y).1) (divR y (lenR x y).1)).2.2] := by unfold unitR; rw [if_pos h, if_neg g, if_neg i]; exact if_neg i
theorem lenR_in {x y : Int} (hx : inF x) (hy : inF y) : inF (lenR x y).1 := by
  unfold lenR
  have h := rt_u64 (inF_sum hx hy).1 (inF_sum hx hy).2
  split
  · exact ⟨by simp; omega, by simp; omega⟩
  · exact ⟨by decide, by decide⟩
theorem two_fst {r s : Int × Int} (h : (two r s).2.2 = 0) : r.2 = 0 ∧ s.2 = 0 := by
  unfold two at h
  by_cases h1 : r.2 = 0
  · rw [if_pos h1] at h
    by_cases h2 : s.2 = 0
    · exact ⟨h1, h2⟩
    · rw [if_neg h2] at h; exact absurd h h2
  · rw [if_neg h1] at h; exact absurd h h1
set_option maxHeartbeats 1000000 in
theorem vunit_any (x y : Int) (w : World) (hx : inF x) (hy : inF y) :
    Calls Tryz.prog 81 #[vec x y] w fun e w' => e = outU (unitR x y) ∧ Grew w w' := by
  have e0 := @unitR_no x y
  have e1 := @unitR_zero x y
  have e2 := @unitR_ok x y
  have e3 := @unitR_bad x y
  have fl := lenR_in hx hy
  have hl := fun W => vlen_any x y W hx hy
  have ho := fun W k hk => vover_any x y k W hx hy hk
  generalize unitR x y = t at *
  generalize lenR x y = r at *
  obtain ⟨n, k⟩ := r
  simp only at e0 e1 e2 e3 fl
  have ho := fun W => ho W n fl
  have hv : vec x y = .agg #[.int .i64 x, .int .i64 y] := rfl
  by_cases hk : k = 0
  · subst hk
    have HL : Hid (∀ W, Calls Tryz.prog 101 #[.agg #[.int .i64 x, .int .i64 y]] W fun e w' => e = .returned (.int .i64 n) ∧ Grew W w') := hl
    clear e0
    by_cases hn : n = 0
    · subst hn
      rw [e1 rfl rfl]
      clear e1 e2 e3 fl ho hl
      rw [hv]
      go_enter Tryz.func81, Tryz.ntmps81
      go_wp2_with (first
        | (go_at_call 101; go_fit (HL.out _); rintro e V ⟨rfl, U⟩; have c0 := U.cell (p := ⟨w.heap.size + 1, 0, none⟩) (v := .int .i64 0) (by simp); have c1 := U.cell (p := ⟨w.heap.size + 1, 1, none⟩) (v := .int .i64 0) (by simp); have z0 := U.frozen (p := ⟨w.heap.size + 1, 0, none⟩) (by simp); have z1 := U.frozen (p := ⟨w.heap.size + 1, 1, none⟩) (by simp)))
      simp [bodyPost, results, Tryz.results81, go_sem, vec, outU, c0, c1]
      exact ((((Grew.refl w).alloc _ _).alloc _ _).trans U).setCell (by simp) _ |>.setCell (by simp) _
    · clear e1
      have hn' : (n == 0) = false := by simp [hn]
      have t0 := @two_fst (divR x n) (divR y n)
      have t1 := @two_ok (divR x n) (divR y n)
      generalize divR x n = p at *
      generalize divR y n = q at *
      by_cases hs : (two p q).2.2 = 0
      · have HO : Hid (∀ W, Calls Tryz.prog 98 #[.agg #[.int .i64 x, .int .i64 y], .int .i64 n] W fun e w' => e = .returned (.agg #[.int .i64 p.1, .int .i64 q.1]) ∧ Grew W w') := fun W => (ho W).mono fun e w' h => ⟨h.1.trans (outV_ok (t0 hs).1 (t0 hs).2), h.2⟩
        rw [e2 rfl hn hs]
        clear e2 e3 fl ho hl t0 t1
        rw [hv]
        go_enter Tryz.func81, Tryz.ntmps81
        go_wp2_with (first
          | (go_at_call 101; go_fit (HL.out _); rintro e V ⟨rfl, U⟩; have a0 := U.cell (p := ⟨w.heap.size, 0, none⟩) (v := .int .i64 x) (by simp); have a1 := U.cell (p := ⟨w.heap.size, 1, none⟩) (v := .int .i64 y) (by simp); have c0 := U.cell (p := ⟨w.heap.size + 1, 0, none⟩) (v := .int .i64 0) (by simp); have c1 := U.cell (p := ⟨w.heap.size + 1, 1, none⟩) (v := .int .i64 0) (by simp); have z0 := U.frozen (p := ⟨w.heap.size + 1, 0, none⟩) (by simp); have z1 := U.frozen (p := ⟨w.heap.size + 1, 1, none⟩) (by simp))
          | (go_at_call 98; go_fit (HO.out _); rintro e V' ⟨rfl, U'⟩; have b0 := U'.cell c0; have b1 := U'.cell c1; have y0 := U'.frozen z0; have y1 := U'.frozen z1))
        simp [bodyPost, results, Tryz.results81, go_sem, vec, outU, b0, b1]
        exact (((((Grew.refl w).alloc _ _).alloc _ _).trans U).trans U').setCell (by simp) _ |>.setCell (by simp) _
      · have HO : Hid (∀ W, Calls Tryz.prog 98 #[.agg #[.int .i64 x, .int .i64 y], .int .i64 n] W fun e w' => e = .panicked [fault (two p q).2.2] ∧ Grew W w') := fun W => (ho W).mono fun e w' h => ⟨h.1.trans (if_neg hs), h.2⟩
        rw [e3 rfl hn hs]
        clear e2 e3 fl ho hl t0 t1
        rw [hv]
        go_enter Tryz.func81, Tryz.ntmps81
        go_wp2_with (first
          | (go_at_call 101; go_fit (HL.out _); rintro e V ⟨rfl, U⟩; have a0 := U.cell (p := ⟨w.heap.size, 0, none⟩) (v := .int .i64 x) (by simp); have a1 := U.cell (p := ⟨w.heap.size, 1, none⟩) (v := .int .i64 y) (by simp))
          | (go_at_call 98; go_fit (HO.out _); rintro e V' ⟨rfl, U'⟩))
        exact ⟨rfl, rfl, ((((Grew.refl w).alloc _ _).alloc _ _).trans U).trans U'⟩
  · have HL : Hid (∀ W, Calls Tryz.prog 101 #[.agg #[.int .i64 x, .int .i64 y]] W fun e w' => e = .panicked [fault k] ∧ Grew W w') := fun W => (hl W).mono fun e w' h => ⟨h.1.trans (outR_bad hk), h.2⟩
    rw [e0 hk]
    clear e0 e1 e2 e3 fl ho hl
    rw [hv]
    go_enter Tryz.func81, Tryz.ntmps81
    go_wp2_with (first
      | (go_at_call 101; go_fit (HL.out _); rintro e V ⟨rfl, U⟩))
    exact ⟨rfl, rfl, (((Grew.refl w).alloc _ _).alloc _ _).trans U⟩

theorem tdiv_in {a n : Int} (ha : -9223372036854775808 ≤ a ∧ a ≤ 9223372036854775807) (hn : ¬ n = 0) (h : ¬ (a = -9223372036854775808 ∧ n = -1)) : -9223372036854775808 ≤ a.tdiv n ∧ a.tdiv n ≤ 9223372036854775807 := by
  have e : (a.tdiv n).natAbs = a.natAbs / n.natAbs := Int.natAbs_tdiv a n
  by_cases h1 : n = 1
  · rw [h1, Int.tdiv_one]; exact ha
  by_cases h2 : n = -1
  · rw [h2, show (-1 : Int) = -(1) from rfl, Int.tdiv_neg, Int.tdiv_one]; omega
  have h3 : 2 ≤ n.natAbs := by omega
  have : a.natAbs / n.natAbs ≤ a.natAbs / 2 := Nat.div_le_div_left h3 (by decide)
  generalize a.tdiv n = q at *
  generalize a.natAbs / n.natAbs = m at *
  omega
theorem part_any (a n : Int) (w : World) (ha : inF a) (hn0 : inF n) (hn : ¬ n = 0) :
    Calls Tryz.prog 79 #[.int .i64 a, .int .i64 n] w fun e w' => e = outR (partR a n) ∧ w' = w := by
  unfold inF at ha hn0
  by_cases h : a = -9223372036854775808 ∧ n = -1
  · obtain ⟨rfl, rfl⟩ := h
    rw [show outR (partR (-9223372036854775808) (-1)) = .panicked [fault 3] from rfl]
    go_enter Tryz.func79, Tryz.ntmps79
    go_wp2
    exact ⟨rfl, rfl, rfl⟩
  · rw [show partR a n = (a.tdiv n, 0) by unfold partR; rw [if_neg hn, if_neg h], outR_ok]
    by_cases h1 : a = -9223372036854775808
    · have h2 : ¬ n = -1 := fun e => h ⟨h1, e⟩
      go_enter Tryz.func79, Tryz.ntmps79
      go_wp2
      go_ret
      refine ⟨ret_int ?_, rfl⟩
      rw [show -Int.tdiv 9223372036854775808 n = a.tdiv n by rw [h1, show (-9223372036854775808 : Int) = -(9223372036854775808) from rfl, Int.neg_tdiv]]
      exact IntWalk.wrap64_in _ (tdiv_in ha hn h)
    · go_enter Tryz.func79, Tryz.ntmps79
      go_wp2
      go_ret
      exact ⟨ret_int (IntWalk.wrap64_in _ (tdiv_in ha hn h)), rfl⟩

set_option maxHeartbeats 2000000 in
theorem vshare_some (x y k : Int) (w : World) (hx : inF x) (hy : inF y) (hk : inF k) (hn : ¬ k = 0) :
    Calls Tryz.prog 69 #[vec x y, .int .i64 k] w fun e w' => e = outV (two (partR x k) (partR y k)) ∧ Grew w w' := by
  have G : Hid (∀ c, Grew w ((w.alloc (.cells #[.int .i64 x, .int .i64 y] 24)).alloc (.cells c 24))) := fun c => ((Grew.refl w).alloc _ _).alloc _ _
  obtain ⟨r, hr⟩ : ∃ r, partR x k = r := ⟨_, rfl⟩
  obtain ⟨s, hs⟩ : ∃ s, partR y k = s := ⟨_, rfl⟩
  have c1 : Hid (∀ W, Calls Tryz.prog 79 #[.int .i64 x, .int .i64 k] W fun e w' => ((e = .returned (.int .i64 r.1) ∧ Hid (r.2 = 0)) ∨ (e = .panicked [fault r.2] ∧ Hid (¬ r.2 = 0))) ∧ w' = W) := fun W => by rw [← hr]; exact ways_of (part_any x k W hx hk hn)
  have c2 : Hid (∀ W, Calls Tryz.prog 79 #[.int .i64 y, .int .i64 k] W fun e w' => ((e = .returned (.int .i64 s.1) ∧ Hid (s.2 = 0)) ∨ (e = .panicked [fault s.2] ∧ Hid (¬ s.2 = 0))) ∧ w' = W) := fun W => by rw [← hs]; exact ways_of (part_any y k W hy hk hn)
  rw [hr, hs]
  clear hr hs
  unfold vec
  have hn0 : (k == 0) = false := by simp [hn]
  go_enter Tryz.func69, Tryz.ntmps69
  go_wp2_with (fail)
  go_region_held2 (fun w' => w'.cell? ⟨w.heap.size, 0, none⟩ = some (.int .i64 x) ∧ w'.cell? ⟨w.heap.size, 1, none⟩ = some (.int .i64 y)) (go_keep)
    (first
      | (go_at_call 79; go_fit (c1.out _); rintro e w' ⟨(⟨rfl, h1⟩ | ⟨rfl, h1⟩), rfl⟩; rotate_left; (exact post_panic (P := Tryz.prog) (fn := Tryz.f69) (R := fun e w' => e = outV (two r s) ∧ Grew w w') rfl ⟨(outV_no1 h1.out).symm, (G.out _).drew⟩))
      | (go_at_call 79; go_fit (c2.out _); rintro e w' ⟨(⟨rfl, h2⟩ | ⟨rfl, h2⟩), rfl⟩; rotate_left; (exact post_panic (P := Tryz.prog) (fn := Tryz.f69) (R := fun e w' => e = outV (two r s) ∧ Grew w w') rfl ⟨(outV_no2 h1.out h2.out).symm, (G.out _).drew⟩)))
  go_wp2
  rw [outV_ok h1.out h2.out]
  simp [bodyPost, results, Tryz.results69, go_sem, vec]
  exact (G.out _).drew

theorem vshare_zero (x y : Int) (w : World) :
    Calls Tryz.prog 69 #[vec x y, .int .i64 0] w fun e w' => e = outV (two (partR x 0) (partR y 0)) ∧ Grew w w' := by
  rw [show outV (two (partR x 0) (partR y 0)) = .panicked [fault 4] from rfl]
  unfold vec
  go_enter Tryz.func69, Tryz.ntmps69
  go_wp2
  exact ⟨rfl, rfl, ((Grew.refl w).alloc _ _).alloc _ _⟩
theorem vshare_any (x y k : Int) (w : World) (hx : inF x) (hy : inF y) (hk : inF k) :
    Calls Tryz.prog 69 #[vec x y, .int .i64 k] w fun e w' => e = outV (two (partR x k) (partR y k)) ∧ Grew w w' := by
  by_cases h : k = 0
  · subst h; exact vshare_zero x y w
  · exact vshare_some x y k w hx hy hk h
end Go.Proofs.YtnkhknmpffcfbaaGreat

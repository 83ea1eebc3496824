/-
  What package bounds' calls do: what the plain functions say, or a panic of a Fault; more blocks are in memory, and nothing else.
-/
import Derived.Test.YtlfncfjlfccfhaaXNum
import Derived.Test.YtlfncfjlfccfhaaBCalls
namespace Go.Proofs.Ytlfncfjlfccfhaa
open Go.RowKit

theorem none_any (x y u v : Int) (w : World) :
    Calls Try.prog 30 #[.agg #[.int .i64 x, .int .i64 y], .agg #[.int .i64 u, .int .i64 v]] w fun e w' => e = .returned (.bool (noneB x y u v)) ∧ Grew w w' := by
  have G : Hid (Grew w ((w.alloc (.cells #[.int .i64 x, .int .i64 y] 24)).alloc (.cells #[.int .i64 u, .int .i64 v] 24))) := ((Grew.refl w).alloc _ _).alloc _ _
  go_enter Try.func30, Try.ntmps30
  go_wp2
  all_goals
    go_ret
    exact ⟨ret_bool (by unfold noneB; rw [Bool.eq_iff_iff]; simp at *; omega), G.out⟩

theorem nearest_any (a l h : Int) (w : World) :
    Calls Try.prog 31 #[.int .i64 a, .int .i64 l, .int .i64 h] w fun e w' => e = .returned (.int .i64 (nearI a l h)) ∧ w' = w := by
  by_cases g : a < l
  · rw [near_low g]
    go_enter Try.func31, Try.ntmps31
    go_wp2
    go_ret
    exact ⟨rfl, rfl⟩
  · by_cases g2 : h < a
    · rw [near_high g g2]
      go_enter Try.func31, Try.ntmps31
      go_wp2
      go_ret
      exact ⟨rfl, rfl⟩
    · rw [near_self g g2]
      go_enter Try.func31, Try.ntmps31
      go_wp2
      go_ret
      exact ⟨rfl, rfl⟩

theorem reach_any (B : Bd) (w : World) :
    Calls Try.prog 27 #[B.val] w fun e w' => e = .returned (.agg #[.int .i64 B.a, .int .i64 (reachY B)]) ∧ Grew w w' := by
  have G : Hid (∀ c, Grew w ((w.alloc (.cells #[.int .i64 B.s, .int .i64 B.a, .int .i64 B.b, .int .i64 B.m, .int .i64 B.p, .int .i64 B.q, .int .i64 B.u, .int .i64 B.v] 26)).alloc (.cells c 24))) := fun c => ((Grew.refl w).alloc _ _).alloc _ _
  unfold Bd.val
  by_cases h : B.s = 1
  · rw [reach_ball h]
    have hz : (B.s == 1) = true := by simpa using h
    clear h
    go_enter Try.func27, Try.ntmps27
    go_wp2
    simp [bodyPost, results, Try.results27, go_sem]
    exact G.out _
  · rw [reach_else h]
    have hz : (B.s == 1) = false := by simpa using h
    clear h
    go_enter Try.func27, Try.ntmps27
    go_wp2
    simp [bodyPost, results, Try.results27, go_sem]
    exact G.out _

theorem meet_any (a b : Bx) (w : World) :
    Calls Try.prog 13 #[a.val, b.val] w fun e w' => e = .returned (.bool (meetB a b)) ∧ Grew w w' := by
  have G : Hid (Grew w ((w.alloc (.cells #[.int .i64 a.l, .int .i64 a.m, .int .i64 a.h, .int .i64 a.k] 28)).alloc (.cells #[.int .i64 b.l, .int .i64 b.m, .int .i64 b.h, .int .i64 b.k] 28))) := ((Grew.refl w).alloc _ _).alloc _ _
  have c1 : Hid (∀ W, Calls Try.prog 30 #[.agg #[.int .i64 a.l, .int .i64 a.m], .agg #[.int .i64 b.h, .int .i64 b.k]] W fun e w' => e = .returned (.bool (noneB a.l a.m b.h b.k)) ∧ Grew W w') := fun W => none_any _ _ _ _ W
  have c2 : Hid (∀ W, Calls Try.prog 30 #[.agg #[.int .i64 b.l, .int .i64 b.m], .agg #[.int .i64 a.h, .int .i64 a.k]] W fun e w' => e = .returned (.bool (noneB b.l b.m a.h a.k)) ∧ Grew W w') := fun W => none_any _ _ _ _ W
  unfold meetB Bx.val
  generalize noneB a.l a.m b.h b.k = r at *
  generalize noneB b.l b.m a.h a.k = t at *
  cases r
  · clear c2
    go_enter Try.func13, Try.ntmps13
    go_wp2_with (first
      | (go_at_call 30; go_fit (c1.out _); rintro e V ⟨rfl, U⟩))
    go_ret
    exact ⟨rfl, G.out.trans U⟩
  · go_enter Try.func13, Try.ntmps13
    go_wp2_with (first
      | (go_at_call 30; go_fit (c1.out _); rintro e V ⟨rfl, U⟩; have m2 := U.cell (p := ⟨w.heap.size, 2, none⟩) (v := .int .i64 a.h) (by simp [go_sem]); have m3 := U.cell (p := ⟨w.heap.size, 3, none⟩) (v := .int .i64 a.k) (by simp [go_sem]); have m0 := U.cell (p := ⟨w.heap.size + 1, 0, none⟩) (v := .int .i64 b.l) (by simp [go_sem]); have m1 := U.cell (p := ⟨w.heap.size + 1, 1, none⟩) (v := .int .i64 b.m) (by simp [go_sem]))
      | (go_at_call 30; go_fit (c2.out _); rintro e V2 ⟨rfl, U2⟩))
    go_ret
    exact ⟨rfl, (G.out.trans U).trans U2⟩

theorem in_any (x y : Int) (b : Bx) (w : World) :
    Calls Try.prog 16 #[.agg #[.int .i64 x, .int .i64 y], b.val] w fun e w' => e = .returned (.bool (inB x y b)) ∧ Grew w w' := by
  have G : Hid (Grew w ((w.alloc (.cells #[.int .i64 x, .int .i64 y] 24)).alloc (.cells #[.int .i64 b.l, .int .i64 b.m, .int .i64 b.h, .int .i64 b.k] 28))) := ((Grew.refl w).alloc _ _).alloc _ _
  have c1 : Hid (∀ W, Calls Try.prog 30 #[.agg #[.int .i64 b.l, .int .i64 b.m], .agg #[.int .i64 x, .int .i64 y]] W fun e w' => e = .returned (.bool (noneB b.l b.m x y)) ∧ Grew W w') := fun W => none_any _ _ _ _ W
  have c2 : Hid (∀ W, Calls Try.prog 30 #[.agg #[.int .i64 x, .int .i64 y], .agg #[.int .i64 b.h, .int .i64 b.k]] W fun e w' => e = .returned (.bool (noneB x y b.h b.k)) ∧ Grew W w') := fun W => none_any _ _ _ _ W
  unfold inB Bx.val
  generalize noneB b.l b.m x y = r at *
  generalize noneB x y b.h b.k = t at *
  cases r
  · clear c2
    go_enter Try.func16, Try.ntmps16
    go_wp2_with (first
      | (go_at_call 30; go_fit (c1.out _); rintro e V ⟨rfl, U⟩))
    go_ret
    exact ⟨rfl, G.out.trans U⟩
  · go_enter Try.func16, Try.ntmps16
    go_wp2_with (first
      | (go_at_call 30; go_fit (c1.out _); rintro e V ⟨rfl, U⟩; have m0 := U.cell (p := ⟨w.heap.size, 0, none⟩) (v := .int .i64 x) (by simp [go_sem]); have m1 := U.cell (p := ⟨w.heap.size, 1, none⟩) (v := .int .i64 y) (by simp [go_sem]); have m2 := U.cell (p := ⟨w.heap.size + 1, 2, none⟩) (v := .int .i64 b.h) (by simp [go_sem]); have m3 := U.cell (p := ⟨w.heap.size + 1, 3, none⟩) (v := .int .i64 b.k) (by simp [go_sem]))
      | (go_at_call 30; go_fit (c2.out _); rintro e V2 ⟨rfl, U2⟩))
    go_ret
    exact ⟨rfl, (G.out.trans U).trans U2⟩

set_option maxHeartbeats 1000000 in
theorem both_any (a b : Bx) (w : World) :
    Calls Try.prog 15 #[a.val, b.val] w fun e w' => e = .returned (bothB a b).val ∧ Grew w w' := by
  have G : Hid (∀ c, Grew w (((w.alloc (.cells #[.int .i64 a.l, .int .i64 a.m, .int .i64 a.h, .int .i64 a.k] 28)).alloc (.cells #[.int .i64 b.l, .int .i64 b.m, .int .i64 b.h, .int .i64 b.k] 28)).alloc (.cells c 28))) := fun c => (((Grew.refl w).alloc _ _).alloc _ _).alloc _ _
  unfold bothB Bx.val
  obtain ⟨l, hl⟩ : ∃ l, min a.l b.l = l := ⟨_, rfl⟩
  obtain ⟨m, hm⟩ : ∃ m, min a.m b.m = m := ⟨_, rfl⟩
  obtain ⟨h, hh⟩ : ∃ h, max a.h b.h = h := ⟨_, rfl⟩
  obtain ⟨k, hk⟩ : ∃ k, max a.k b.k = k := ⟨_, rfl⟩
  go_enter Try.func15, Try.ntmps15
  go_wp2
  simp [bodyPost, results, Try.results15, go_sem, hl, hm, hh, hk]
  exact G.out _

set_option maxHeartbeats 2000000 in
theorem clamp_any (x y : Int) (b : Bx) (w : World) :
    Calls Try.prog 17 #[.agg #[.int .i64 x, .int .i64 y], b.val] w fun e w' => e = .returned (.agg #[.int .i64 (nearI x b.l b.h), .int .i64 (nearI y b.m b.k)]) ∧ Grew w w' := by
  have G : Hid (∀ c, Grew w (((w.alloc (.cells #[.int .i64 x, .int .i64 y] 24)).alloc (.cells #[.int .i64 b.l, .int .i64 b.m, .int .i64 b.h, .int .i64 b.k] 28)).alloc (.cells c 24))) := fun c => (((Grew.refl w).alloc _ _).alloc _ _).alloc _ _
  have c1 : Hid (∀ W, Calls Try.prog 31 #[.int .i64 x, .int .i64 b.l, .int .i64 b.h] W fun e w' => e = .returned (.int .i64 (nearI x b.l b.h)) ∧ w' = W) := fun W => nearest_any _ _ _ W
  have c2 : Hid (∀ W, Calls Try.prog 31 #[.int .i64 y, .int .i64 b.m, .int .i64 b.k] W fun e w' => e = .returned (.int .i64 (nearI y b.m b.k)) ∧ w' = W) := fun W => nearest_any _ _ _ W
  unfold Bx.val
  generalize nearI x b.l b.h = r at *
  generalize nearI y b.m b.k = s at *
  go_enter Try.func17, Try.ntmps17
  go_wp2_with (fail)
  go_region_held2 (fun w' => w'.cell? ⟨w.heap.size, 0, none⟩ = some (.int .i64 x) ∧ w'.cell? ⟨w.heap.size, 1, none⟩ = some (.int .i64 y) ∧ w'.cell? ⟨w.heap.size + 1, 0, none⟩ = some (.int .i64 b.l) ∧ w'.cell? ⟨w.heap.size + 1, 1, none⟩ = some (.int .i64 b.m) ∧ w'.cell? ⟨w.heap.size + 1, 2, none⟩ = some (.int .i64 b.h) ∧ w'.cell? ⟨w.heap.size + 1, 3, none⟩ = some (.int .i64 b.k)) (go_keep)
    (first
      | (go_at_call 31; go_fit (c1.out _); rintro e w' ⟨rfl, rfl⟩)
      | (go_at_call 31; go_fit (c2.out _); rintro e w' ⟨rfl, rfl⟩))
  go_wp2
  simp [bodyPost, results, Try.results17, go_sem]
  exact (G.out _).drew
end Go.Proofs.Ytlfncfjlfccfhaa

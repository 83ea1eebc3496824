/-
  What package shape's calls do: what the plain functions say, or a panic of a Fault; more blocks are in memory, and nothing else.
-/
import Derived.Test.YtnkhknmpffcfbaaGreatBNum
import Derived.Test.YtnkhknmpffcfbaaGreatVCalls
import Derived.Test.YtnkhknmpffcfbaaGreatVAlive
import Derived.Deep.QuietTactic
import Derived.BigQuiet
namespace Go.Proofs.YtnkhknmpffcfbaaGreat
open Go.RowKit


theorem side_any (a : Int) (w : World) :
    Calls Tryz.prog 77 #[.int .i64 a] w fun e w' => e = .returned (.bool (sideB a)) ∧ w' = w := by
  go_enter Tryz.func77, Tryz.ntmps77
  go_wp2
  all_goals
    go_ret
    exact ⟨ret_bool (by unfold sideB; rw [Bool.eq_iff_iff]; simp at *; omega), rfl⟩

theorem mass_any (m : Int) (w : World) :
    Calls Tryz.prog 58 #[.int .i64 m] w fun e w' => e = .returned (.bool (massB m)) ∧ w' = w := by
  go_enter Tryz.func58, Tryz.ntmps58
  go_wp2
  all_goals
    go_ret
    exact ⟨ret_bool (by unfold massB; rw [Bool.eq_iff_iff]; simp at *; omega), rfl⟩

theorem within_any (x y k : Int) (w : World) (hk : 0 ≤ k ∧ k ≤ 4294967296000000) :
    Calls Tryz.prog 60 #[.agg #[.int .i64 x, .int .i64 y], .int .i64 k] w fun e w' => e = .returned (.bool (withinB x y k)) ∧ Grew w w' := by
  obtain ⟨k0, k1⟩ := hk
  have G : Hid (Grew w (w.alloc (.cells #[.int .i64 x, .int .i64 y] 24))) := (Grew.refl w).alloc _ _
  go_enter Tryz.func60, Tryz.ntmps60
  go_wp2
  all_goals
    go_ret
    exact ⟨ret_bool (by unfold withinB; rw [Bool.eq_iff_iff]; simp at *; omega), G.out⟩

theorem sizeB_1 (a b : Int) : sizeB 1 a b = (sideB a && decide (b = 0)) := rfl
theorem sizeB_2 (a b : Int) : sizeB 2 a b = (sideB a && sideB b) := rfl
theorem sizeB_no {s : Int} (h1 : ¬ s = 1) (h2 : ¬ s = 2) (a b : Int) : sizeB s a b = false := by unfold sizeB; rw [if_neg h1, if_neg h2]
theorem ssize_any (s a b : Int) (w : World) :
    Calls Tryz.prog 57 #[.int .i64 s, .agg #[.int .i64 a, .int .i64 b]] w fun e w' => e = .returned (.bool (sizeB s a b)) ∧ Grew w w' := by
  have G : Hid (Grew w (w.alloc (.cells #[.int .i64 a, .int .i64 b] 24))) := (Grew.refl w).alloc _ _
  have c1 : Hid (∀ W, Calls Tryz.prog 77 #[.int .i64 a] W fun e w' => e = .returned (.bool (sideB a)) ∧ w' = W) := fun W => side_any a W
  have c2 : Hid (∀ W, Calls Tryz.prog 77 #[.int .i64 b] W fun e w' => e = .returned (.bool (sideB b)) ∧ w' = W) := fun W => side_any b W
  by_cases h1 : s = 1
  · subst h1
    rw [sizeB_1]
    generalize sideB a = r at *
    by_cases hb : b = 0
    · subst hb
      cases r
      all_goals
        go_enter Tryz.func57, Tryz.ntmps57
        go_wp2_with (first
          | (go_at_call 77; go_fit (c1.out _); rintro e w' ⟨rfl, rfl⟩))
        go_ret
        exact ⟨rfl, G.out⟩
    · have hz : (b == 0) = false := by simpa using hb
      cases r
      all_goals
        go_enter Tryz.func57, Tryz.ntmps57
        go_wp2_with (first
          | (go_at_call 77; go_fit (c1.out _); rintro e w' ⟨rfl, rfl⟩))
        go_ret
        exact ⟨ret_bool (by simp [hb]), G.out⟩
  · have k1 : (s == 1) = false := by simpa using h1
    by_cases h2 : s = 2
    · subst h2
      rw [sizeB_2]
      generalize sideB a = r at *
      generalize sideB b = t at *
      cases r <;> cases t
      all_goals
        go_enter Tryz.func57, Tryz.ntmps57
        go_wp2_with (first
          | (go_at_call 77; go_fit (c1.out _); rintro e w' ⟨rfl, rfl⟩)
          | (go_at_call 77; go_fit (c2.out _); rintro e w' ⟨rfl, rfl⟩))
        go_ret
        exact ⟨rfl, G.out⟩
    · have k2 : (s == 2) = false := by simpa using h2
      rw [sizeB_no h1 h2]
      clear c1 c2
      go_enter Tryz.func57, Tryz.ntmps57
      go_wp2
      go_ret
      exact ⟨rfl, G.out⟩

theorem momB_0 (u v : Int) : momB u v 0 = decide (u = 0 ∧ v = 0) := rfl
theorem momB_m {m : Int} (h : ¬ m = 0) (u v : Int) : momB u v m = withinB u v 4294967296000000 := by unfold momB; rw [if_neg h]
theorem smom_any (u v m : Int) (w : World) :
    Calls Tryz.prog 59 #[.agg #[.int .i64 u, .int .i64 v], .int .i64 m] w fun e w' => e = .returned (.bool (momB u v m)) ∧ Grew w w' := by
  have G : Hid (Grew w (w.alloc (.cells #[.int .i64 u, .int .i64 v] 24))) := (Grew.refl w).alloc _ _
  by_cases hm : m = 0
  · subst hm
    rw [momB_0]
    have hq := eq_vec u v 0 0
    go_enter Tryz.func59, Tryz.ntmps59
    go_wp2
    go_ret
    exact ⟨ret_bool (by rw [Bool.eq_iff_iff]; simp), G.out⟩
  · have hz : (m == 0) = false := by simpa using hm
    rw [momB_m hm]
    have c1 : Hid (∀ W, Calls Tryz.prog 60 #[.agg #[.int .i64 u, .int .i64 v], .int .i64 4294967296000000] W fun e w' => e = .returned (.bool (withinB u v 4294967296000000)) ∧ Grew W w') := fun W => within_any u v _ W (by omega)
    go_enter Tryz.func59, Tryz.ntmps59
    go_wp2_with (first
      | (go_at_call 60; go_fit (c1.out _); rintro e w' ⟨rfl, U⟩))
    go_ret
    exact ⟨rfl, G.out.trans U⟩

theorem shape_right (B : Bd) (w : World) :
    Calls Tryz.prog 39 #[B.val] w fun e w' => e = .returned (.bool (rightB B)) ∧ Grew w w' := by
  have G : Hid (Grew w (w.alloc (.cells #[.int .i64 B.s, .int .i64 B.a, .int .i64 B.b, .int .i64 B.m, .int .i64 B.p, .int .i64 B.q, .int .i64 B.u, .int .i64 B.v] 39))) := (Grew.refl w).alloc _ _
  have c1 : Hid (∀ W, Calls Tryz.prog 57 #[.int .i64 B.s, .agg #[.int .i64 B.a, .int .i64 B.b]] W fun e w' => e = .returned (.bool (sizeB B.s B.a B.b)) ∧ Grew W w') := fun W => ssize_any _ _ _ W
  have c2 : Hid (∀ W, Calls Tryz.prog 58 #[.int .i64 B.m] W fun e w' => e = .returned (.bool (massB B.m)) ∧ w' = W) := fun W => mass_any _ W
  have c3 : Hid (∀ W, Calls Tryz.prog 59 #[.agg #[.int .i64 B.u, .int .i64 B.v], .int .i64 B.m] W fun e w' => e = .returned (.bool (momB B.u B.v B.m)) ∧ Grew W w') := fun W => smom_any _ _ _ W
  have c4 : Hid (∀ W, Calls Tryz.prog 60 #[.agg #[.int .i64 B.p, .int .i64 B.q], .int .i64 42949672960000] W fun e w' => e = .returned (.bool (withinB B.p B.q 42949672960000)) ∧ Grew W w') := fun W => within_any _ _ _ W (by omega)
  unfold rightB Bd.val
  generalize sizeB B.s B.a B.b = r1 at *
  generalize massB B.m = r2 at *
  generalize momB B.u B.v B.m = r3 at *
  generalize withinB B.p B.q 42949672960000 = r4 at *
  cases r1
  · go_enter Tryz.func39, Tryz.ntmps39
    go_wp2_with (first
      | (go_at_call 57; go_fit (c1.out _); rintro e w' ⟨rfl, U⟩))
    go_ret
    exact ⟨rfl, G.out.trans U⟩
  cases r2
  · go_enter Tryz.func39, Tryz.ntmps39
    go_wp2_with (first
      | (go_at_call 57; go_fit (c1.out _); rintro e w' ⟨rfl, U⟩; have m3 := U.cell (p := ⟨w.heap.size, 3, none⟩) (v := .int .i64 B.m) (by simp [go_sem]))
      | (go_at_call 58; go_fit (c2.out _); rintro e w' ⟨rfl, rfl⟩))
    go_ret
    exact ⟨rfl, G.out.trans U⟩
  cases r3
  · go_enter Tryz.func39, Tryz.ntmps39
    go_wp2_with (first
      | (go_at_call 57; go_fit (c1.out _); rintro e w' ⟨rfl, U⟩; have m3 := U.cell (p := ⟨w.heap.size, 3, none⟩) (v := .int .i64 B.m) (by simp [go_sem]); have m6 := U.cell (p := ⟨w.heap.size, 6, none⟩) (v := .int .i64 B.u) (by simp [go_sem]); have m7 := U.cell (p := ⟨w.heap.size, 7, none⟩) (v := .int .i64 B.v) (by simp [go_sem]))
      | (go_at_call 58; go_fit (c2.out _); rintro e w' ⟨rfl, rfl⟩)
      | (go_at_call 59; go_fit (c3.out _); rintro e w' ⟨rfl, U2⟩))
    go_ret
    exact ⟨rfl, (G.out.trans U).trans U2⟩
  cases r4
  all_goals
    go_enter Tryz.func39, Tryz.ntmps39
    go_wp2_with (first
      | (go_at_call 57; go_fit (c1.out _); rintro e w' ⟨rfl, U⟩; have m3 := U.cell (p := ⟨w.heap.size, 3, none⟩) (v := .int .i64 B.m) (by simp [go_sem]); have m6 := U.cell (p := ⟨w.heap.size, 6, none⟩) (v := .int .i64 B.u) (by simp [go_sem]); have m7 := U.cell (p := ⟨w.heap.size, 7, none⟩) (v := .int .i64 B.v) (by simp [go_sem]); have m4 := U.cell (p := ⟨w.heap.size, 4, none⟩) (v := .int .i64 B.p) (by simp [go_sem]); have m5 := U.cell (p := ⟨w.heap.size, 5, none⟩) (v := .int .i64 B.q) (by simp [go_sem]))
      | (go_at_call 58; go_fit (c2.out _); rintro e w' ⟨rfl, rfl⟩)
      | (go_at_call 59; go_fit (c3.out _); rintro e w' ⟨rfl, U2⟩; have n4 := U2.cell m4; have n5 := U2.cell m5)
      | (go_at_call 60; go_fit (c4.out _); rintro e w' ⟨rfl, U3⟩))
    go_ret
    exact ⟨rfl, ((G.out.trans U).trans U2).trans U3⟩

theorem speedR_0 {B : Bd} (h : B.m = 0) : speedR B = (0, 0, 0) := if_pos h
theorem speedR_m {B : Bd} (h : ¬ B.m = 0) : speedR B = two (divR B.u B.m) (divR B.v B.m) := if_neg h
theorem lightR_0 {B : Bd} (h : B.m = 0) : lightR B = (0, 0) := if_pos h
theorem lightR_m {B : Bd} (h : ¬ B.m = 0) : lightR B = divR 4294967296 B.m := if_neg h
theorem outV_ways (t : Int × Int × Int) : (outV t = .returned (vec t.1 t.2.1) ∧ t.2.2 = 0) ∨ (outV t = .panicked [fault t.2.2] ∧ ¬ t.2.2 = 0) := by
  by_cases h : t.2.2 = 0
  · exact .inl ⟨if_pos h, h⟩
  · exact .inr ⟨if_neg h, h⟩
theorem waysV_of {P : Program} {f : Nat} {args : Array Value} {w : World} {t : Int × Int × Int} {A : World → Prop} (h : Calls P f args w fun e w' => e = outV t ∧ A w') :
    Calls P f args w fun e w' => ((e = .returned (vec t.1 t.2.1) ∧ Hid (t.2.2 = 0)) ∨ (e = .panicked [fault t.2.2] ∧ Hid (¬ t.2.2 = 0))) ∧ A w' := by
  refine h.mono ?_
  rintro e w' ⟨rfl, hA⟩
  rcases outV_ways t with ⟨h1, h2⟩ | ⟨h1, h2⟩
  · exact ⟨.inl ⟨h1, h2⟩, hA⟩
  · exact ⟨.inr ⟨h1, h2⟩, hA⟩

set_option maxHeartbeats 400000 in
theorem shape_speed (B : Bd) (hB : B.ok) (w : World) :
    Calls Tryz.prog 76 #[B.val] w fun e w' => e = outV (speedR B) ∧ Grew w w' := by
  have G : Hid (∀ c, Grew w ((w.alloc (.cells #[.int .i64 B.s, .int .i64 B.a, .int .i64 B.b, .int .i64 B.m, .int .i64 B.p, .int .i64 B.q, .int .i64 B.u, .int .i64 B.v] 39)).alloc (.cells c 24))) := fun c => ((Grew.refl w).alloc _ _).alloc _ _
  by_cases hm : B.m = 0
  · rw [speedR_0 hm]
    unfold Bd.val
    rw [hm]
    obtain ⟨s, a, b, m, p, q, u, v⟩ := B
    change m = 0 at hm
    subst hm
    go_enter Tryz.func76, Tryz.ntmps76
    go_wp2
    simp [bodyPost, results, Tryz.results76, go_sem, outV, vec]
    exact G.out _
  · rw [speedR_m hm]
    have hz : (B.m == 0) = false := by simpa using hm
    have c1 := fun W => waysV_of (vover_any B.u B.v B.m W hB.u hB.v hB.m)
    generalize two (divR B.u B.m) (divR B.v B.m) = t at *
    unfold Bd.val
    unfold vec at c1
    have C1 : Hid _ := c1
    clear c1
    go_enter Tryz.func76, Tryz.ntmps76
    go_wp2_with (first
      | (go_at_call 98; go_fit (C1.out _); rintro e w' ⟨(⟨rfl, h1⟩ | ⟨rfl, h1⟩), U⟩; have t0 := U.cell (p := ⟨w.heap.size + 1, 0, none⟩) (v := .int .i64 0) (by simp [go_sem]); have t1 := U.cell (p := ⟨w.heap.size + 1, 1, none⟩) (v := .int .i64 0) (by simp [go_sem]); have y0 := U.frozen (p := ⟨w.heap.size + 1, 0, none⟩) (by simp [go_sem]); have y1 := U.frozen (p := ⟨w.heap.size + 1, 1, none⟩) (by simp [go_sem])))
    · simp [bodyPost, results, Tryz.results76, go_sem, outV, vec, t0, t1, h1.out]
      exact (((G.out _).trans U).setCell (by simp) _).setCell (by simp) _
    · exact ⟨rfl, (if_neg h1.out).symm, (G.out _).trans U⟩

set_option maxHeartbeats 400000 in
theorem shape_light (B : Bd) (hB : B.ok) (w : World) :
    Calls Tryz.prog 97 #[B.val] w fun e w' => e = outR (lightR B) ∧ Grew w w' := by
  have G : Hid (Grew w (w.alloc (.cells #[.int .i64 B.s, .int .i64 B.a, .int .i64 B.b, .int .i64 B.m, .int .i64 B.p, .int .i64 B.q, .int .i64 B.u, .int .i64 B.v] 39))) := (Grew.refl w).alloc _ _
  by_cases hm : B.m = 0
  · rw [lightR_0 hm]
    unfold Bd.val
    rw [hm] at G ⊢
    clear hm
    go_enter Tryz.func97, Tryz.ntmps97
    go_wp2
    go_ret
    exact ⟨rfl, G.out⟩
  · rw [lightR_m hm]
    have hz : (B.m == 0) = false := by simpa using hm
    have C1 : Hid (∀ W, _) := fun W => ways_of (cdiv_any 4294967296 B.m W ⟨by decide, by decide⟩ hB.m)
    generalize divR 4294967296 B.m = t at *
    unfold Bd.val
    go_enter Tryz.func97, Tryz.ntmps97
    go_wp2_with (first
      | (go_at_call 87; go_fit (C1.out _); rintro e w' ⟨(⟨rfl, h1⟩ | ⟨rfl, h1⟩), n, rfl⟩))
    · go_ret
      exact ⟨(if_pos h1.out).symm, G.out.drewN _⟩
    · exact ⟨rfl, (if_neg h1.out).symm, G.out.drewN _⟩
end Go.Proofs.YtnkhknmpffcfbaaGreat

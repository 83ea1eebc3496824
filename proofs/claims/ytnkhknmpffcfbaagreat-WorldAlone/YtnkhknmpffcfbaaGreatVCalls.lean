/-
  What package vec's calls do: what the plain functions say, or a panic of a Fault of the first error; more blocks are in memory, and nothing else.
-/
import Derived.Test.YtnkhknmpffcfbaaGreatVNum
import Derived.Test.YtnkhknmpffcfbaaGreatQOf
import Derived.Deep.RegionHeld2
import Derived.Deep.DeepFit
namespace Go.Proofs.YtnkhknmpffcfbaaGreat
open Go.RowKit

set_option maxHeartbeats 2000000 in
theorem vadd_any (x y u v : Int) (w : World) (hx : inF x) (hy : inF y) (hu : inF u) (hv : inF v) :
    Calls Tryz.prog 25 #[vec x y, vec u v] w fun e w' => e = outV (two (addR x u) (addR y v)) ∧ Grew w w' := by
  have G : Hid (∀ c, Grew w (((w.alloc (.cells #[.int .i64 x, .int .i64 y] 24)).alloc (.cells #[.int .i64 u, .int .i64 v] 24)).alloc (.cells c 24))) := fun c => (((Grew.refl w).alloc _ _).alloc _ _).alloc _ _
  obtain ⟨r, hr⟩ : ∃ r, addR x u = r := ⟨_, rfl⟩
  obtain ⟨s, hs⟩ : ∃ s, addR y v = s := ⟨_, rfl⟩
  have c1 : Hid (∀ W, Calls Tryz.prog 44 #[.int .i64 x, .int .i64 u] W fun e w' => ((e = .returned (.int .i64 r.1) ∧ Hid (r.2 = 0)) ∨ (e = .panicked [fault r.2] ∧ Hid (¬ r.2 = 0))) ∧ w' = W) := fun W => by rw [← hr]; exact ways_of (cadd_any x u W hx hu)
  have c2 : Hid (∀ W, Calls Tryz.prog 44 #[.int .i64 y, .int .i64 v] W fun e w' => ((e = .returned (.int .i64 s.1) ∧ Hid (s.2 = 0)) ∨ (e = .panicked [fault s.2] ∧ Hid (¬ s.2 = 0))) ∧ w' = W) := fun W => by rw [← hs]; exact ways_of (cadd_any y v W hy hv)
  rw [hr, hs]
  clear hr hs
  unfold vec
  go_enter Tryz.func25, Tryz.ntmps25
  go_wp2_with (fail)
  go_region_held2 (fun w' => w'.cell? ⟨w.heap.size, 0, none⟩ = some (.int .i64 x) ∧ w'.cell? ⟨w.heap.size, 1, none⟩ = some (.int .i64 y) ∧ w'.cell? ⟨w.heap.size + 1, 0, none⟩ = some (.int .i64 u) ∧ w'.cell? ⟨w.heap.size + 1, 1, none⟩ = some (.int .i64 v)) (go_keep)
    (first
      | (go_at_call 44; go_fit (c1.out _); rintro e w' ⟨(⟨rfl, h1⟩ | ⟨rfl, h1⟩), rfl⟩; rotate_left; (exact post_panic (P := Tryz.prog) (fn := Tryz.f25) (R := fun e w' => e = outV (two r s) ∧ Grew w w') rfl ⟨(outV_no1 h1.out).symm, (G.out _).drew⟩))
      | (go_at_call 44; go_fit (c2.out _); rintro e w' ⟨(⟨rfl, h2⟩ | ⟨rfl, h2⟩), rfl⟩; rotate_left; (exact post_panic (P := Tryz.prog) (fn := Tryz.f25) (R := fun e w' => e = outV (two r s) ∧ Grew w w') rfl ⟨(outV_no2 h1.out h2.out).symm, (G.out _).drew⟩)))
  go_wp2
  rw [outV_ok h1.out h2.out]
  simp [bodyPost, results, Tryz.results25, go_sem, vec]
  exact (G.out _).drew

set_option maxHeartbeats 2000000 in
theorem vsub_any (x y u v : Int) (w : World) (hx : inF x) (hy : inF y) (hu : inF u) (hv : inF v) :
    Calls Tryz.prog 82 #[vec x y, vec u v] w fun e w' => e = outV (two (subR x u) (subR y v)) ∧ Grew w w' := by
  have G : Hid (∀ c, Grew w (((w.alloc (.cells #[.int .i64 x, .int .i64 y] 24)).alloc (.cells #[.int .i64 u, .int .i64 v] 24)).alloc (.cells c 24))) := fun c => (((Grew.refl w).alloc _ _).alloc _ _).alloc _ _
  obtain ⟨r, hr⟩ : ∃ r, subR x u = r := ⟨_, rfl⟩
  obtain ⟨s, hs⟩ : ∃ s, subR y v = s := ⟨_, rfl⟩
  have c1 : Hid (∀ W, Calls Tryz.prog 85 #[.int .i64 x, .int .i64 u] W fun e w' => ((e = .returned (.int .i64 r.1) ∧ Hid (r.2 = 0)) ∨ (e = .panicked [fault r.2] ∧ Hid (¬ r.2 = 0))) ∧ w' = W) := fun W => by rw [← hr]; exact ways_of (csub_any x u W hx hu)
  have c2 : Hid (∀ W, Calls Tryz.prog 85 #[.int .i64 y, .int .i64 v] W fun e w' => ((e = .returned (.int .i64 s.1) ∧ Hid (s.2 = 0)) ∨ (e = .panicked [fault s.2] ∧ Hid (¬ s.2 = 0))) ∧ w' = W) := fun W => by rw [← hs]; exact ways_of (csub_any y v W hy hv)
  rw [hr, hs]
  clear hr hs
  unfold vec
  go_enter Tryz.func82, Tryz.ntmps82
  go_wp2_with (fail)
  go_region_held2 (fun w' => w'.cell? ⟨w.heap.size, 0, none⟩ = some (.int .i64 x) ∧ w'.cell? ⟨w.heap.size, 1, none⟩ = some (.int .i64 y) ∧ w'.cell? ⟨w.heap.size + 1, 0, none⟩ = some (.int .i64 u) ∧ w'.cell? ⟨w.heap.size + 1, 1, none⟩ = some (.int .i64 v)) (go_keep)
    (first
      | (go_at_call 85; go_fit (c1.out _); rintro e w' ⟨(⟨rfl, h1⟩ | ⟨rfl, h1⟩), rfl⟩; rotate_left; (exact post_panic (P := Tryz.prog) (fn := Tryz.f82) (R := fun e w' => e = outV (two r s) ∧ Grew w w') rfl ⟨(outV_no1 h1.out).symm, (G.out _).drew⟩))
      | (go_at_call 85; go_fit (c2.out _); rintro e w' ⟨(⟨rfl, h2⟩ | ⟨rfl, h2⟩), rfl⟩; rotate_left; (exact post_panic (P := Tryz.prog) (fn := Tryz.f82) (R := fun e w' => e = outV (two r s) ∧ Grew w w') rfl ⟨(outV_no2 h1.out h2.out).symm, (G.out _).drew⟩)))
  go_wp2
  rw [outV_ok h1.out h2.out]
  simp [bodyPost, results, Tryz.results82, go_sem, vec]
  exact (G.out _).drew

set_option maxHeartbeats 2000000 in
theorem vscale_any (x y k : Int) (w : World) (hx : inF x) (hy : inF y) (hk : inF k) :
    Calls Tryz.prog 70 #[vec x y, .int .i64 k] w fun e w' => e = outV (two (mulR x k) (mulR y k)) ∧ Grew w w' := by
  have G : Hid (∀ c, Grew w ((w.alloc (.cells #[.int .i64 x, .int .i64 y] 24)).alloc (.cells c 24))) := fun c => ((Grew.refl w).alloc _ _).alloc _ _
  obtain ⟨r, hr⟩ : ∃ r, mulR x k = r := ⟨_, rfl⟩
  obtain ⟨s, hs⟩ : ∃ s, mulR y k = s := ⟨_, rfl⟩
  have c1 : Hid (∀ W, Calls Tryz.prog 80 #[.int .i64 x, .int .i64 k] W fun e w' => ((e = .returned (.int .i64 r.1) ∧ Hid (r.2 = 0)) ∨ (e = .panicked [fault r.2] ∧ Hid (¬ r.2 = 0))) ∧ w' = W) := fun W => by rw [← hr]; exact ways_of (cmul_any x k W hx hk)
  have c2 : Hid (∀ W, Calls Tryz.prog 80 #[.int .i64 y, .int .i64 k] W fun e w' => ((e = .returned (.int .i64 s.1) ∧ Hid (s.2 = 0)) ∨ (e = .panicked [fault s.2] ∧ Hid (¬ s.2 = 0))) ∧ w' = W) := fun W => by rw [← hs]; exact ways_of (cmul_any y k W hy hk)
  rw [hr, hs]
  clear hr hs
  unfold vec
  go_enter Tryz.func70, Tryz.ntmps70
  go_wp2_with (fail)
  go_region_held2 (fun w' => w'.cell? ⟨w.heap.size, 0, none⟩ = some (.int .i64 x) ∧ w'.cell? ⟨w.heap.size, 1, none⟩ = some (.int .i64 y)) (go_keep)
    (first
      | (go_at_call 80; go_fit (c1.out _); rintro e w' ⟨(⟨rfl, h1⟩ | ⟨rfl, h1⟩), rfl⟩; rotate_left; (exact post_panic (P := Tryz.prog) (fn := Tryz.f70) (R := fun e w' => e = outV (two r s) ∧ Grew w w') rfl ⟨(outV_no1 h1.out).symm, (G.out _).drew⟩))
      | (go_at_call 80; go_fit (c2.out _); rintro e w' ⟨(⟨rfl, h2⟩ | ⟨rfl, h2⟩), rfl⟩; rotate_left; (exact post_panic (P := Tryz.prog) (fn := Tryz.f70) (R := fun e w' => e = outV (two r s) ∧ Grew w w') rfl ⟨(outV_no2 h1.out h2.out).symm, (G.out _).drew⟩)))
  go_wp2
  rw [outV_ok h1.out h2.out]
  simp [bodyPost, results, Tryz.results70, go_sem, vec]
  exact (G.out _).drew

set_option maxHeartbeats 2000000 in
theorem vover_any (x y k : Int) (w : World) (hx : inF x) (hy : inF y) (hk : inF k) :
    Calls Tryz.prog 98 #[vec x y, .int .i64 k] w fun e w' => e = outV (two (divR x k) (divR y k)) ∧ Grew w w' := by
  have G : Hid (∀ c, Grew w ((w.alloc (.cells #[.int .i64 x, .int .i64 y] 24)).alloc (.cells c 24))) := fun c => ((Grew.refl w).alloc _ _).alloc _ _
  obtain ⟨r, hr⟩ : ∃ r, divR x k = r := ⟨_, rfl⟩
  obtain ⟨s, hs⟩ : ∃ s, divR y k = s := ⟨_, rfl⟩
  have c1 : Hid (∀ W, Calls Tryz.prog 87 #[.int .i64 x, .int .i64 k] W fun e w' => ((e = .returned (.int .i64 r.1) ∧ Hid (r.2 = 0)) ∨ (e = .panicked [fault r.2] ∧ Hid (¬ r.2 = 0))) ∧ ∃ n, w' = W.drewN n) := fun W => by rw [← hr]; exact ways_of (cdiv_any x k W hx hk)
  have c2 : Hid (∀ W, Calls Tryz.prog 87 #[.int .i64 y, .int .i64 k] W fun e w' => ((e = .returned (.int .i64 s.1) ∧ Hid (s.2 = 0)) ∨ (e = .panicked [fault s.2] ∧ Hid (¬ s.2 = 0))) ∧ ∃ n, w' = W.drewN n) := fun W => by rw [← hs]; exact ways_of (cdiv_any y k W hy hk)
  rw [hr, hs]
  clear hr hs
  unfold vec
  go_enter Tryz.func98, Tryz.ntmps98
  go_wp2_with (fail)
  go_region_held2 (fun w' => w'.cell? ⟨w.heap.size, 0, none⟩ = some (.int .i64 x) ∧ w'.cell? ⟨w.heap.size, 1, none⟩ = some (.int .i64 y)) (go_keep)
    (first
      | (go_at_call 87; go_fit (c1.out _); rintro e w' ⟨(⟨rfl, h1⟩ | ⟨rfl, h1⟩), ⟨n, rfl⟩⟩; rotate_left; (exact post_panic (P := Tryz.prog) (fn := Tryz.f98) (R := fun e w' => e = outV (two r s) ∧ Grew w w') rfl ⟨(outV_no1 h1.out).symm, (G.out _).drew.drewN _⟩))
      | (go_at_call 87; go_fit (c2.out _); rintro e w' ⟨(⟨rfl, h2⟩ | ⟨rfl, h2⟩), ⟨m, rfl⟩⟩; rotate_left; (exact post_panic (P := Tryz.prog) (fn := Tryz.f98) (R := fun e w' => e = outV (two r s) ∧ Grew w w') rfl ⟨(outV_no2 h1.out h2.out).symm, ((G.out _).drewN _).drewN _⟩)))
  go_wp2
  rw [outV_ok h1.out h2.out]
  simp [bodyPost, results, Tryz.results98, go_sem, vec]
  exact (((G.out _).drewN _).setCell (by simp) _).setCell (by simp) _

theorem dotV_ok {x y u v : Int} (h : (mulR x u).2 = 0) (g : (mulR y v).2 = 0) : dotV x y u v = addR (mulR x u).1 (mulR y v).1 := by unfold dotV; rw [if_pos h, if_pos g]
theorem dotV_no1 {x y u v : Int} (h : ¬ (mulR x u).2 = 0) : outR (dotV x y u v) = .panicked [fault (mulR x u).2] := by unfold dotV; rw [if_neg h]; exact if_neg h
theorem dotV_no2 {x y u v : Int} (h : (mulR x u).2 = 0) (g : ¬ (mulR y v).2 = 0) : outR (dotV x y u v) = .panicked [fault (mulR y v).2] := by unfold dotV; rw [if_pos h, if_neg g]; exact if_neg g
set_option maxHeartbeats 2000000 in
theorem vdot_any (x y u v : Int) (w : World) (hx : inF x) (hy : inF y) (hu : inF u) (hv : inF v) :
    Calls Tryz.prog 102 #[vec x y, vec u v] w fun e w' => e = outR (dotV x y u v) ∧ Grew w w' := by
  have G : Hid (Grew w ((w.alloc (.cells #[.int .i64 x, .int .i64 y] 24)).alloc (.cells #[.int .i64 u, .int .i64 v] 24)).drew) := (((Grew.refl w).alloc _ _).alloc _ _).drew
  have f1 : Hid (_ → _) := @dotV_no1 x y u v
  have f2 : Hid (_ → _ → _) := @dotV_no2 x y u v
  have f3 : Hid (_ → _ → _) := @dotV_ok x y u v
  have i1 := (mulR_in x u).1
  have i2 := (mulR_in y v).1
  obtain ⟨d, hd⟩ : ∃ d, dotV x y u v = d := ⟨_, rfl⟩
  rw [hd] at f1 f2 f3 ⊢
  obtain ⟨r, hr⟩ : ∃ r, mulR x u = r := ⟨_, rfl⟩
  obtain ⟨s, hs⟩ : ∃ s, mulR y v = s := ⟨_, rfl⟩
  have c1 : Hid (∀ W, Calls Tryz.prog 80 #[.int .i64 x, .int .i64 u] W fun e w' => ((e = .returned (.int .i64 r.1) ∧ Hid (r.2 = 0)) ∨ (e = .panicked [fault r.2] ∧ Hid (¬ r.2 = 0))) ∧ w' = W) := fun W => by rw [← hr]; exact ways_of (cmul_any x u W hx hu)
  have c2 : Hid (∀ W, Calls Tryz.prog 80 #[.int .i64 y, .int .i64 v] W fun e w' => ((e = .returned (.int .i64 s.1) ∧ Hid (s.2 = 0)) ∨ (e = .panicked [fault s.2] ∧ Hid (¬ s.2 = 0))) ∧ w' = W) := fun W => by rw [← hs]; exact ways_of (cmul_any y v W hy hv)
  rw [hr] at f1 f2 f3 i1; rw [hs] at f2 f3 i2
  clear hr hs hd
  obtain ⟨t, ht⟩ : ∃ t, addR r.1 s.1 = t := ⟨_, rfl⟩
  have c3 : Hid (∀ W, Calls Tryz.prog 44 #[.int .i64 r.1, .int .i64 s.1] W fun e w' => ((e = .returned (.int .i64 t.1) ∧ Hid (t.2 = 0)) ∨ (e = .panicked [fault t.2] ∧ Hid (¬ t.2 = 0))) ∧ w' = W) := fun W => by rw [← ht]; exact ways_of (cadd_any _ _ W i1 i2)
  rw [ht] at f3
  clear ht i1 i2
  unfold vec
  go_enter Tryz.func102, Tryz.ntmps102
  go_wp2_with (fail)
  go_region_held2 (fun w' => w'.cell? ⟨w.heap.size, 0, none⟩ = some (.int .i64 x) ∧ w'.cell? ⟨w.heap.size, 1, none⟩ = some (.int .i64 y) ∧ w'.cell? ⟨w.heap.size + 1, 0, none⟩ = some (.int .i64 u) ∧ w'.cell? ⟨w.heap.size + 1, 1, none⟩ = some (.int .i64 v)) (go_keep)
    (first
      | (go_at_call 80; go_fit (c1.out _); rintro e w' ⟨(⟨rfl, h1⟩ | ⟨rfl, h1⟩), rfl⟩; rotate_left; (exact post_panic (P := Tryz.prog) (fn := Tryz.f102) (R := fun e w' => e = outR d ∧ Grew w w') rfl ⟨(f1.out h1.out).symm, G.out⟩))
      | (go_at_call 80; go_fit (c2.out _); rintro e w' ⟨(⟨rfl, h2⟩ | ⟨rfl, h2⟩), rfl⟩; rotate_left; (exact post_panic (P := Tryz.prog) (fn := Tryz.f102) (R := fun e w' => e = outR d ∧ Grew w w') rfl ⟨(f2.out h1.out h2.out).symm, G.out⟩))
      | (go_at_call 44; go_fit (c3.out _); rintro e w' ⟨(⟨rfl, h3⟩ | ⟨rfl, h3⟩), rfl⟩; rotate_left; (exact post_panic (P := Tryz.prog) (fn := Tryz.f102) (R := fun e w' => e = outR d ∧ Grew w w') rfl ⟨by rw [f3.out h1.out h2.out]; exact (if_neg h3.out).symm, G.out⟩)))
  go_wp2
  go_ret
  exact ⟨by rw [f3.out h1.out h2.out]; exact (if_pos h3.out).symm, G.out⟩

theorem vlen_any (x y : Int) (w : World) (hx : inF x) (hy : inF y) :
    Calls Tryz.prog 101 #[vec x y] w fun e w' => e = outR (lenR x y) ∧ Grew w w' := by
  obtain ⟨r, hr⟩ : ∃ r, lenR x y = r := ⟨_, rfl⟩
  have c1 : Hid (∀ W, Calls Tryz.prog 122 #[.int .i64 x, .int .i64 y] W fun e w' => e = .returned (.tuple #[.int .i64 r.1, .int .i64 r.2]) ∧ Grew W w') := fun W => by rw [← hr]; exact len_any x y W hx hy
  rw [hr]
  clear hr
  unfold vec
  obtain ⟨n, k⟩ := r
  by_cases hk : k = 0
  · subst hk
    rw [outR_ok]
    go_enter Tryz.func101, Tryz.ntmps101
    go_wp2_with (first
      | (go_at_call 122; go_fit (c1.out _); rintro e V ⟨rfl, U⟩))
    go_ret
    exact ⟨rfl, ((Grew.refl w).alloc _ _).trans U⟩
  · rw [outR_bad hk]
    have hk' : (k != 0) = true := by simp [hk]
    go_enter Tryz.func101, Tryz.ntmps101
    go_wp2_with (first
      | (go_at_call 122; go_fit (c1.out _); rintro e V ⟨rfl, U⟩))
    exact ⟨rfl, rfl, ((Grew.refl w).alloc _ _).trans U⟩
end Go.Proofs.YtnkhknmpffcfbaaGreat

/-
  What package vec's calls do: what the plain functions say, or a panic of a Fault of the first error; more blocks are in memory, and nothing else. What package vec's calls do: what the plain functions say, or a panic of a Fault of the first error; more blocks are in memory, and nothing else. Plain numbers, no program in sight: what chapter 10's calls answer. Nothing is claimed here. Worlds in which some blocks may have been written (Wrote), and Try of a function that writes such blocks alone: its error, and what holds behind it. The statements' own first look ('alive' of stage 6's laws): it returns true; what was there stays. What package shape's calls do: what the plain functions say, or a panic of a Fault; more blocks are in memory, and nothing else. append, whatever is appended: what the slice owned it owns still, and the new one owns both. No program in sight. A region that draws its order, reads cells, and writes some of these towards its end: what is read may be taken first, if those operations that write (D) wait for it. (What must hold of the world, S, is asked till the first of D has come up.) What bounds' Meet does: what the plain function says; more blocks are in memory, and nothing else. What package bounds' calls do: what the plain functions say, or a panic of a Fault; more blocks are in memory, and nothing else. The statements' own first look ('alive' of stage 7's laws): it returns true; what was there stays. What bounds.Of does: the box that the plain function says, or a panic of a Fault; more blocks are in memory, and nothing else.
-/
import Derived.Test.YtcoooehcgbohgaaGreatPk02
import Derived.Deep.RegionHeld2
import Derived.Deep.DeepFit
import Derived.Laws.EntriesVeiled
import Derived.Deep.QuietTactic
import Derived.BigQuiet
import Derived.OwnWalk
import Derived.Laws.OwnMore
import Derived.LoopTactic
import Derived.Test.YtcoooehcgbohgaaGreatRows
import Derived.Deep.RegionHeld
import Derived.Test.YtcoooehcgbohgaaGreatPk01
namespace Go.Proofs.YtcoooehcgbohgaaGreat
open Go.RowKit

set_option maxHeartbeats 2000000 in
theorem vadd_any (x y u v : Int) (w : World) (hx : inF x) (hy : inF y) (hu : inF u) (hv : inF v) :
    Calls Tryz.prog 29 #[vec x y, vec u v] w fun e w' => e = outV (two (addR x u) (addR y v)) ∧ Grew w w' := by
  have G : Hid (∀ c, Grew w (((w.alloc (.cells #[.int .i64 x, .int .i64 y] 26)).alloc (.cells #[.int .i64 u, .int .i64 v] 26)).alloc (.cells c 26))) := fun c => (((Grew.refl w).alloc _ _).alloc _ _).alloc _ _
  obtain ⟨r, hr⟩ : ∃ r, addR x u = r := ⟨_, rfl⟩
  obtain ⟨s, hs⟩ : ∃ s, addR y v = s := ⟨_, rfl⟩
  have c1 : Hid (∀ W, Calls Tryz.prog 47 #[.int .i64 x, .int .i64 u] W fun e w' => ((e = .returned (.int .i64 r.1) ∧ Hid (r.2 = 0)) ∨ (e = .panicked [fault r.2] ∧ Hid (¬ r.2 = 0))) ∧ w' = W) := fun W => by rw [← hr]; exact ways_of (cadd_any x u W hx hu)
  have c2 : Hid (∀ W, Calls Tryz.prog 47 #[.int .i64 y, .int .i64 v] W fun e w' => ((e = .returned (.int .i64 s.1) ∧ Hid (s.2 = 0)) ∨ (e = .panicked [fault s.2] ∧ Hid (¬ s.2 = 0))) ∧ w' = W) := fun W => by rw [← hs]; exact ways_of (cadd_any y v W hy hv)
  rw [hr, hs]
  clear hr hs
  unfold vec
  go_enter Tryz.func29, Tryz.ntmps29
  go_wp2_with (fail)
  go_region_held2 (fun w' => w'.cell? ⟨w.heap.size, 0, none⟩ = some (.int .i64 x) ∧ w'.cell? ⟨w.heap.size, 1, none⟩ = some (.int .i64 y) ∧ w'.cell? ⟨w.heap.size + 1, 0, none⟩ = some (.int .i64 u) ∧ w'.cell? ⟨w.heap.size + 1, 1, none⟩ = some (.int .i64 v)) (go_keep)
    (first
      | (go_at_call 47; go_fit (c1.out _); rintro e w' ⟨(⟨rfl, h1⟩ | ⟨rfl, h1⟩), rfl⟩; rotate_left; (exact post_panic (P := Tryz.prog) (fn := Tryz.f29) (R := fun e w' => e = outV (two r s) ∧ Grew w w') rfl ⟨(outV_no1 h1.out).symm, (G.out _).drew⟩))
      | (go_at_call 47; go_fit (c2.out _); rintro e w' ⟨(⟨rfl, h2⟩ | ⟨rfl, h2⟩), rfl⟩; rotate_left; (exact post_panic (P := Tryz.prog) (fn := Tryz.f29) (R := fun e w' => e = outV (two r s) ∧ Grew w w') rfl ⟨(outV_no2 h1.out h2.out).symm, (G.out _).drew⟩)))
  go_wp2
  rw [outV_ok h1.out h2.out]
  simp [bodyPost, results, Tryz.results29, go_sem, vec]
  exact (G.out _).drew

set_option maxHeartbeats 2000000 in
theorem vsub_any (x y u v : Int) (w : World) (hx : inF x) (hy : inF y) (hu : inF u) (hv : inF v) :
    Calls Tryz.prog 74 #[vec x y, vec u v] w fun e w' => e = outV (two (subR x u) (subR y v)) ∧ Grew w w' := by
  have G : Hid (∀ c, Grew w (((w.alloc (.cells #[.int .i64 x, .int .i64 y] 26)).alloc (.cells #[.int .i64 u, .int .i64 v] 26)).alloc (.cells c 26))) := fun c => (((Grew.refl w).alloc _ _).alloc _ _).alloc _ _
  obtain ⟨r, hr⟩ : ∃ r, subR x u = r := ⟨_, rfl⟩
  obtain ⟨s, hs⟩ : ∃ s, subR y v = s := ⟨_, rfl⟩
  have c1 : Hid (∀ W, Calls Tryz.prog 77 #[.int .i64 x, .int .i64 u] W fun e w' => ((e = .returned (.int .i64 r.1) ∧ Hid (r.2 = 0)) ∨ (e = .panicked [fault r.2] ∧ Hid (¬ r.2 = 0))) ∧ w' = W) := fun W => by rw [← hr]; exact ways_of (csub_any x u W hx hu)
  have c2 : Hid (∀ W, Calls Tryz.prog 77 #[.int .i64 y, .int .i64 v] W fun e w' => ((e = .returned (.int .i64 s.1) ∧ Hid (s.2 = 0)) ∨ (e = .panicked [fault s.2] ∧ Hid (¬ s.2 = 0))) ∧ w' = W) := fun W => by rw [← hs]; exact ways_of (csub_any y v W hy hv)
  rw [hr, hs]
  clear hr hs
  unfold vec
  go_enter Tryz.func74, Tryz.ntmps74
  go_wp2_with (fail)
  go_region_held2 (fun w' => w'.cell? ⟨w.heap.size, 0, none⟩ = some (.int .i64 x) ∧ w'.cell? ⟨w.heap.size, 1, none⟩ = some (.int .i64 y) ∧ w'.cell? ⟨w.heap.size + 1, 0, none⟩ = some (.int .i64 u) ∧ w'.cell? ⟨w.heap.size + 1, 1, none⟩ = some (.int .i64 v)) (go_keep)
    (first
      | (go_at_call 77; go_fit (c1.out _); rintro e w' ⟨(⟨rfl, h1⟩ | ⟨rfl, h1⟩), rfl⟩; rotate_left; (exact post_panic (P := Tryz.prog) (fn := Tryz.f74) (R := fun e w' => e = outV (two r s) ∧ Grew w w') rfl ⟨(outV_no1 h1.out).symm, (G.out _).drew⟩))
      | (go_at_call 77; go_fit (c2.out _); rintro e w' ⟨(⟨rfl, h2⟩ | ⟨rfl, h2⟩), rfl⟩; rotate_left; (exact post_panic (P := Tryz.prog) (fn := Tryz.f74) (R := fun e w' => e = outV (two r s) ∧ Grew w w') rfl ⟨(outV_no2 h1.out h2.out).symm, (G.out _).drew⟩)))
  go_wp2
  rw [outV_ok h1.out h2.out]
  simp [bodyPost, results, Tryz.results74, go_sem, vec]
  exact (G.out _).drew

set_option maxHeartbeats 2000000 in
theorem vscale_any (x y k : Int) (w : World) (hx : inF x) (hy : inF y) (hk : inF k) :
    Calls Tryz.prog 57 #[vec x y, .int .i64 k] w fun e w' => e = outV (two (mulR x k) (mulR y k)) ∧ Grew w w' := by
  have G : Hid (∀ c, Grew w ((w.alloc (.cells #[.int .i64 x, .int .i64 y] 26)).alloc (.cells c 26))) := fun c => ((Grew.refl w).alloc _ _).alloc _ _
  obtain ⟨r, hr⟩ : ∃ r, mulR x k = r := ⟨_, rfl⟩
  obtain ⟨s, hs⟩ : ∃ s, mulR y k = s := ⟨_, rfl⟩
  have c1 : Hid (∀ W, Calls Tryz.prog 72 #[.int .i64 x, .int .i64 k] W fun e w' => ((e = .returned (.int .i64 r.1) ∧ Hid (r.2 = 0)) ∨ (e = .panicked [fault r.2] ∧ Hid (¬ r.2 = 0))) ∧ w' = W) := fun W => by rw [← hr]; exact ways_of (cmul_any x k W hx hk)
  have c2 : Hid (∀ W, Calls Tryz.prog 72 #[.int .i64 y, .int .i64 k] W fun e w' => ((e = .returned (.int .i64 s.1) ∧ Hid (s.2 = 0)) ∨ (e = .panicked [fault s.2] ∧ Hid (¬ s.2 = 0))) ∧ w' = W) := fun W => by rw [← hs]; exact ways_of (cmul_any y k W hy hk)
  rw [hr, hs]
  clear hr hs
  unfold vec
  go_enter Tryz.func57, Tryz.ntmps57
  go_wp2_with (fail)
  go_region_held2 (fun w' => w'.cell? ⟨w.heap.size, 0, none⟩ = some (.int .i64 x) ∧ w'.cell? ⟨w.heap.size, 1, none⟩ = some (.int .i64 y)) (go_keep)
    (first
      | (go_at_call 72; go_fit (c1.out _); rintro e w' ⟨(⟨rfl, h1⟩ | ⟨rfl, h1⟩), rfl⟩; rotate_left; (exact post_panic (P := Tryz.prog) (fn := Tryz.f57) (R := fun e w' => e = outV (two r s) ∧ Grew w w') rfl ⟨(outV_no1 h1.out).symm, (G.out _).drew⟩))
      | (go_at_call 72; go_fit (c2.out _); rintro e w' ⟨(⟨rfl, h2⟩ | ⟨rfl, h2⟩), rfl⟩; rotate_left; (exact post_panic (P := Tryz.prog) (fn := Tryz.f57) (R := fun e w' => e = outV (two r s) ∧ Grew w w') rfl ⟨(outV_no2 h1.out h2.out).symm, (G.out _).drew⟩)))
  go_wp2
  rw [outV_ok h1.out h2.out]
  simp [bodyPost, results, Tryz.results57, go_sem, vec]
  exact (G.out _).drew

set_option maxHeartbeats 2000000 in
theorem vover_any (x y k : Int) (w : World) (hx : inF x) (hy : inF y) (hk : inF k) :
    Calls Tryz.prog 90 #[vec x y, .int .i64 k] w fun e w' => e = outV (two (divR x k) (divR y k)) ∧ Grew w w' := by
  have G : Hid (∀ c, Grew w ((w.alloc (.cells #[.int .i64 x, .int .i64 y] 26)).alloc (.cells c 26))) := fun c => ((Grew.refl w).alloc _ _).alloc _ _
  obtain ⟨r, hr⟩ : ∃ r, divR x k = r := ⟨_, rfl⟩
  obtain ⟨s, hs⟩ : ∃ s, divR y k = s := ⟨_, rfl⟩
  have c1 : Hid (∀ W, Calls Tryz.prog 79 #[.int .i64 x, .int .i64 k] W fun e w' => ((e = .returned (.int .i64 r.1) ∧ Hid (r.2 = 0)) ∨ (e = .panicked [fault r.2] ∧ Hid (¬ r.2 = 0))) ∧ ∃ n, w' = W.drewN n) := fun W => by rw [← hr]; exact ways_of (cdiv_any x k W hx hk)
  have c2 : Hid (∀ W, Calls Tryz.prog 79 #[.int .i64 y, .int .i64 k] W fun e w' => ((e = .returned (.int .i64 s.1) ∧ Hid (s.2 = 0)) ∨ (e = .panicked [fault s.2] ∧ Hid (¬ s.2 = 0))) ∧ ∃ n, w' = W.drewN n) := fun W => by rw [← hs]; exact ways_of (cdiv_any y k W hy hk)
  rw [hr, hs]
  clear hr hs
  unfold vec
  go_enter Tryz.func90, Tryz.ntmps90
  go_wp2_with (fail)
  go_region_held2 (fun w' => w'.cell? ⟨w.heap.size, 0, none⟩ = some (.int .i64 x) ∧ w'.cell? ⟨w.heap.size, 1, none⟩ = some (.int .i64 y)) (go_keep)
    (first
      | (go_at_call 79; go_fit (c1.out _); rintro e w' ⟨(⟨rfl, h1⟩ | ⟨rfl, h1⟩), ⟨n, rfl⟩⟩; rotate_left; (exact post_panic (P := Tryz.prog) (fn := Tryz.f90) (R := fun e w' => e = outV (two r s) ∧ Grew w w') rfl ⟨(outV_no1 h1.out).symm, (G.out _).drew.drewN _⟩))
      | (go_at_call 79; go_fit (c2.out _); rintro e w' ⟨(⟨rfl, h2⟩ | ⟨rfl, h2⟩), ⟨m, rfl⟩⟩; rotate_left; (exact post_panic (P := Tryz.prog) (fn := Tryz.f90) (R := fun e w' => e = outV (two r s) ∧ Grew w w') rfl ⟨(outV_no2 h1.out h2.out).symm, ((G.out _).drewN _).drewN _⟩)))
  go_wp2
  rw [outV_ok h1.out h2.out]
  simp [bodyPost, results, Tryz.results90, go_sem, vec]
  exact (((G.out _).drewN _).setCell (by simp) _).setCell (by simp) _

theorem dotV_ok {x y u v : Int} (h : (mulR x u).2 = 0) (g : (mulR y v).2 = 0) : dotV x y u v = addR (mulR x u).1 (mulR y v).1 := by unfold dotV; rw [if_pos h, if_pos g]
theorem dotV_no1 {x y u v : Int} (h : ¬ (mulR x u).2 = 0) : outR (dotV x y u v) = .panicked [fault (mulR x u).2] := by unfold dotV; rw [if_neg h]; exact if_neg h
theorem dotV_no2 {x y u v : Int} (h : (mulR x u).2 = 0) (g : ¬ (mulR y v).2 = 0) : outR (dotV x y u v) = .panicked [fault (mulR y v).2] := by unfold dotV; rw [if_pos h, if_neg g]; exact if_neg g
set_option maxHeartbeats 2000000 in
theorem vdot_any (x y u v : Int) (w : World) (hx : inF x) (hy : inF y) (hu : inF u) (hv : inF v) :
    Calls Tryz.prog 95 #[vec x y, vec u v] w fun e w' => e = outR (dotV x y u v) ∧ Grew w w' := by
  have G : Hid (Grew w ((w.alloc (.cells #[.int .i64 x, .int .i64 y] 26)).alloc (.cells #[.int .i64 u, .int .i64 v] 26)).drew) := (((Grew.refl w).alloc _ _).alloc _ _).drew
  have f1 : Hid (_ → _) := @dotV_no1 x y u v
  have f2 : Hid (_ → _ → _) := @dotV_no2 x y u v
  have f3 : Hid (_ → _ → _) := @dotV_ok x y u v
  have i1 := (mulR_in x u).1
  have i2 := (mulR_in y v).1
  obtain ⟨d, hd⟩ : ∃ d, dotV x y u v = d := ⟨_, rfl⟩
  rw [hd] at f1 f2 f3 ⊢
  obtain ⟨r, hr⟩ : ∃ r, mulR x u = r := ⟨_, rfl⟩
  obtain ⟨s, hs⟩ : ∃ s, mulR y v = s := ⟨_, rfl⟩
  have c1 : Hid (∀ W, Calls Tryz.prog 72 #[.int .i64 x, .int .i64 u] W fun e w' => ((e = .returned (.int .i64 r.1) ∧ Hid (r.2 = 0)) ∨ (e = .panicked [fault r.2] ∧ Hid (¬ r.2 = 0))) ∧ w' = W) := fun W => by rw [← hr]; exact ways_of (cmul_any x u W hx hu)
  have c2 : Hid (∀ W, Calls Tryz.prog 72 #[.int .i64 y, .int .i64 v] W fun e w' => ((e = .returned (.int .i64 s.1) ∧ Hid (s.2 = 0)) ∨ (e = .panicked [fault s.2] ∧ Hid (¬ s.2 = 0))) ∧ w' = W) := fun W => by rw [← hs]; exact ways_of (cmul_any y v W hy hv)
  rw [hr] at f1 f2 f3 i1; rw [hs] at f2 f3 i2
  clear hr hs hd
  obtain ⟨t, ht⟩ : ∃ t, addR r.1 s.1 = t := ⟨_, rfl⟩
  have c3 : Hid (∀ W, Calls Tryz.prog 47 #[.int .i64 r.1, .int .i64 s.1] W fun e w' => ((e = .returned (.int .i64 t.1) ∧ Hid (t.2 = 0)) ∨ (e = .panicked [fault t.2] ∧ Hid (¬ t.2 = 0))) ∧ w' = W) := fun W => by rw [← ht]; exact ways_of (cadd_any _ _ W i1 i2)
  rw [ht] at f3
  clear ht i1 i2
  unfold vec
  go_enter Tryz.func95, Tryz.ntmps95
  go_wp2_with (fail)
  go_region_held2 (fun w' => w'.cell? ⟨w.heap.size, 0, none⟩ = some (.int .i64 x) ∧ w'.cell? ⟨w.heap.size, 1, none⟩ = some (.int .i64 y) ∧ w'.cell? ⟨w.heap.size + 1, 0, none⟩ = some (.int .i64 u) ∧ w'.cell? ⟨w.heap.size + 1, 1, none⟩ = some (.int .i64 v)) (go_keep)
    (first
      | (go_at_call 72; go_fit (c1.out _); rintro e w' ⟨(⟨rfl, h1⟩ | ⟨rfl, h1⟩), rfl⟩; rotate_left; (exact post_panic (P := Tryz.prog) (fn := Tryz.f95) (R := fun e w' => e = outR d ∧ Grew w w') rfl ⟨(f1.out h1.out).symm, G.out⟩))
      | (go_at_call 72; go_fit (c2.out _); rintro e w' ⟨(⟨rfl, h2⟩ | ⟨rfl, h2⟩), rfl⟩; rotate_left; (exact post_panic (P := Tryz.prog) (fn := Tryz.f95) (R := fun e w' => e = outR d ∧ Grew w w') rfl ⟨(f2.out h1.out h2.out).symm, G.out⟩))
      | (go_at_call 47; go_fit (c3.out _); rintro e w' ⟨(⟨rfl, h3⟩ | ⟨rfl, h3⟩), rfl⟩; rotate_left; (exact post_panic (P := Tryz.prog) (fn := Tryz.f95) (R := fun e w' => e = outR d ∧ Grew w w') rfl ⟨by rw [f3.out h1.out h2.out]; exact (if_neg h3.out).symm, G.out⟩)))
  go_wp2
  go_ret
  exact ⟨by rw [f3.out h1.out h2.out]; exact (if_pos h3.out).symm, G.out⟩

theorem vlen_any (x y : Int) (w : World) (hx : inF x) (hy : inF y) :
    Calls Tryz.prog 94 #[vec x y] w fun e w' => e = outR (lenR x y) ∧ Grew w w' := by
  obtain ⟨r, hr⟩ : ∃ r, lenR x y = r := ⟨_, rfl⟩
  have c1 : Hid (∀ W, Calls Tryz.prog 115 #[.int .i64 x, .int .i64 y] W fun e w' => e = .returned (.tuple #[.int .i64 r.1, .int .i64 r.2]) ∧ Grew W w') := fun W => by rw [← hr]; exact len_any x y W hx hy
  rw [hr]
  clear hr
  unfold vec
  obtain ⟨n, k⟩ := r
  by_cases hk : k = 0
  · subst hk
    rw [outR_ok]
    go_enter Tryz.func94, Tryz.ntmps94
    go_wp2_with (first
      | (go_at_call 115; go_fit (c1.out _); rintro e V ⟨rfl, U⟩))
    go_ret
    exact ⟨rfl, ((Grew.refl w).alloc _ _).trans U⟩
  · rw [outR_bad hk]
    have hk' : (k != 0) = true := by simp [hk]
    go_enter Tryz.func94, Tryz.ntmps94
    go_wp2_with (first
      | (go_at_call 115; go_fit (c1.out _); rintro e V ⟨rfl, U⟩))
    exact ⟨rfl, rfl, ((Grew.refl w).alloc _ _).trans U⟩
end Go.Proofs.YtcoooehcgbohgaaGreat

namespace Go.Proofs.YtcoooehcgbohgaaGreat
open Go.RowKit

/-- How Unit ends. -/
def outU (t : (Int × Int) × Int × Int) : Ending := if t.2.2 = 0 then .returned (.tuple #[vec t.1.1 t.1.2, .int .i64 t.2.1]) else .panicked [fault t.2.2]
theorem unitR_no {x y : Int} (h : ¬ (lenR x y).2 = 0) : outU (unitR x y) = .panicked [fault (lenR x y).2] := by unfold unitR; rw [if_neg h]; exact if_neg h
theorem unitR_zero {x y : Int} (h : (lenR x y).2 = 0) (g : (lenR x y).1 = 0) : unitR x y = ((0, 0), 0, 0) := by unfold unitR; rw [if_pos h, if_pos g]
theorem unitR_ok {x y : Int} (h : (lenR x y).2 = 0) (g : ¬ (lenR x y).1 = 0) (i : (two (divR x (lenR x y).1) (divR y (lenR x y).1)).2.2 = 0) : unitR x y = (((divR x (lenR x y).1).1, (divR y (lenR x y).1).1), (lenR x y).1, 0) := by unfold unitR; rw [if_pos h, if_neg g, if_pos i]
theorem unitR_bad {x y : Int} (h : (lenR x y).2 = 0) (g : ¬ (lenR x y).1 = 0) (i : ¬ (two (divR x (lenR x y).1) (divR y (lenR x y).1)).2.2 = 0) : outU (unitR x y) = .panicked [fault (two (divR x (lenR x y).1) (divR y (lenR x y).1)).2.2] := by unfold unitR; rw [if_pos h, if_neg g, if_neg i]; exact if_neg i
theorem lenR_in {x y : Int} (hx : inF x) (hy : inF y) : inF (lenR x y).1 := by
  unfold lenR
  have h := rt_u64 (inF_sum hx hy).1 (inF_sum hx hy).2
  split
  · exact ⟨by simp; omega, by simp; omega⟩
  · exact ⟨by decide, by decide⟩
theorem two_fst {r s : Int × Int} (h : (two r s).2.2 = 0) : r.2 = 0 ∧ s.2 = 0 := by
  unfold two at h
  by_cases h1 : r.2 = 0
  · rw [if_pos h1] at h
    by_cases h2 : s.2 = 0
    · exact ⟨h1, h2⟩
    · rw [if_neg h2] at h; exact absurd h h2
  · rw [if_neg h1] at h; exact absurd h h1
set_option maxHeartbeats 1000000 in
theorem vunit_any (x y : Int) (w : World) (hx : inF x) (hy : inF y) :
    Calls Tryz.prog 73 #[vec x y] w fun e w' => e = outU (unitR x y) ∧ Grew w w' := by
  have e0 := @unitR_no x y
  have e1 := @unitR_zero x y
  have e2 := @unitR_ok x y
  have e3 := @unitR_bad x y
  have fl := lenR_in hx hy
  have hl := fun W => vlen_any x y W hx hy
  have ho := fun W k hk => vover_any x y k W hx hy hk
  generalize unitR x y = t at *
  generalize lenR x y = r at *
  obtain ⟨n, k⟩ := r
  simp only at e0 e1 e2 e3 fl
  have ho := fun W => ho W n fl
  have hv : vec x y = .agg #[.int .i64 x, .int .i64 y] := rfl
  by_cases hk : k = 0
  · subst hk
    have HL : Hid (∀ W, Calls Tryz.prog 94 #[.agg #[.int .i64 x, .int .i64 y]] W fun e w' => e = .returned (.int .i64 n) ∧ Grew W w') := hl
    clear e0
    by_cases hn : n = 0
    · subst hn
      rw [e1 rfl rfl]
      clear e1 e2 e3 fl ho hl
      rw [hv]
      go_enter Tryz.func73, Tryz.ntmps73
      go_wp2_with (first
        | (go_at_call 94; go_fit (HL.out _); rintro e V ⟨rfl, U⟩; have c0 := U.cell (p := ⟨w.heap.size + 1, 0, none⟩) (v := .int .i64 0) (by simp); have c1 := U.cell (p := ⟨w.heap.size + 1, 1, none⟩) (v := .int .i64 0) (by simp); have z0 := U.frozen (p := ⟨w.heap.size + 1, 0, none⟩) (by simp); have z1 := U.frozen (p := ⟨w.heap.size + 1, 1, none⟩) (by simp)))
      simp [bodyPost, results, Tryz.results73, go_sem, vec, outU, c0, c1]
      exact ((((Grew.refl w).alloc _ _).alloc _ _).trans U).setCell (by simp) _ |>.setCell (by simp) _
    · clear e1
      have hn' : (n == 0) = false := by simp [hn]
      have t0 := @two_fst (divR x n) (divR y n)
      have t1 := @two_ok (divR x n) (divR y n)
      generalize divR x n = p at *
      generalize divR y n = q at *
      by_cases hs : (two p q).2.2 = 0
      · have HO : Hid (∀ W, Calls Tryz.prog 90 #[.agg #[.int .i64 x, .int .i64 y], .int .i64 n] W fun e w' => e = .returned (.agg #[.int .i64 p.1, .int .i64 q.1]) ∧ Grew W w') := fun W => (ho W).mono fun e w' h => ⟨h.1.trans (outV_ok (t0 hs).1 (t0 hs).2), h.2⟩
        rw [e2 rfl hn hs]
        clear e2 e3 fl ho hl t0 t1
        rw [hv]
        go_enter Tryz.func73, Tryz.ntmps73
        go_wp2_with (first
          | (go_at_call 94; go_fit (HL.out _); rintro e V ⟨rfl, U⟩; have a0 := U.cell (p := ⟨w.heap.size, 0, none⟩) (v := .int .i64 x) (by simp); have a1 := U.cell (p := ⟨w.heap.size, 1, none⟩) (v := .int .i64 y) (by simp); have c0 := U.cell (p := ⟨w.heap.size + 1, 0, none⟩) (v := .int .i64 0) (by simp); have c1 := U.cell (p := ⟨w.heap.size + 1, 1, none⟩) (v := .int .i64 0) (by simp); have z0 := U.frozen (p := ⟨w.heap.size + 1, 0, none⟩) (by simp); have z1 := U.frozen (p := ⟨w.heap.size + 1, 1, none⟩) (by simp))
          | (go_at_call 90; go_fit (HO.out _); rintro e V' ⟨rfl, U'⟩; have b0 := U'.cell c0; have b1 := U'.cell c1; have y0 := U'.frozen z0; have y1 := U'.frozen z1))
        simp [bodyPost, results, Tryz.results73, go_sem, vec, outU, b0, b1]
        exact (((((Grew.refl w).alloc _ _).alloc _ _).trans U).trans U').setCell (by simp) _ |>.setCell (by simp) _
      · have HO : Hid (∀ W, Calls Tryz.prog 90 #[.agg #[.int .i64 x, .int .i64 y], .int .i64 n] W fun e w' => e = .panicked [fault (two p q).2.2] ∧ Grew W w') := fun W => (ho W).mono fun e w' h => ⟨h.1.trans (if_neg hs), h.2⟩
        rw [e3 rfl hn hs]
        clear e2 e3 fl ho hl t0 t1
        rw [hv]
        go_enter Tryz.func73, Tryz.ntmps73
        go_wp2_with (first
          | (go_at_call 94; go_fit (HL.out _); rintro e V ⟨rfl, U⟩; have a0 := U.cell (p := ⟨w.heap.size, 0, none⟩) (v := .int .i64 x) (by simp); have a1 := U.cell (p := ⟨w.heap.size, 1, none⟩) (v := .int .i64 y) (by simp))
          | (go_at_call 90; go_fit (HO.out _); rintro e V' ⟨rfl, U'⟩))
        exact ⟨rfl, rfl, ((((Grew.refl w).alloc _ _).alloc _ _).trans U).trans U'⟩
  · have HL : Hid (∀ W, Calls Tryz.prog 94 #[.agg #[.int .i64 x, .int .i64 y]] W fun e w' => e = .panicked [fault k] ∧ Grew W w') := fun W => (hl W).mono fun e w' h => ⟨h.1.trans (outR_bad hk), h.2⟩
    rw [e0 hk]
    clear e0 e1 e2 e3 fl ho hl
    rw [hv]
    go_enter Tryz.func73, Tryz.ntmps73
    go_wp2_with (first
      | (go_at_call 94; go_fit (HL.out _); rintro e V ⟨rfl, U⟩))
    exact ⟨rfl, rfl, (((Grew.refl w).alloc _ _).alloc _ _).trans U⟩

theorem tdiv_in {a n : Int} (ha : -9223372036854775808 ≤ a ∧ a ≤ 9223372036854775807) (hn : ¬ n = 0) (h : ¬ (a = -9223372036854775808 ∧ n = -1)) : -9223372036854775808 ≤ a.tdiv n ∧ a.tdiv n ≤ 9223372036854775807 := by
  have e : (a.tdiv n).natAbs = a.natAbs / n.natAbs := Int.natAbs_tdiv a n
  by_cases h1 : n = 1
  · rw [h1, Int.tdiv_one]; exact ha
  by_cases h2 : n = -1
  · rw [h2, show (-1 : Int) = -(1) from rfl, Int.tdiv_neg, Int.tdiv_one]; omega
  have h3 : 2 ≤ n.natAbs := by omega
  have : a.natAbs / n.natAbs ≤ a.natAbs / 2 := Nat.div_le_div_left h3 (by decide)
  generalize a.tdiv n = q at *
  generalize a.natAbs / n.natAbs = m at *
  omega
theorem part_any (a n : Int) (w : World) (ha : inF a) (hn0 : inF n) (hn : ¬ n = 0) :
    Calls Tryz.prog 71 #[.int .i64 a, .int .i64 n] w fun e w' => e = outR (partR a n) ∧ w' = w := by
  unfold inF at ha hn0
  by_cases h : a = -9223372036854775808 ∧ n = -1
  · obtain ⟨rfl, rfl⟩ := h
    rw [show outR (partR (-9223372036854775808) (-1)) = .panicked [fault 3] from rfl]
    go_enter Tryz.func71, Tryz.ntmps71
    go_wp2
    exact ⟨rfl, rfl, rfl⟩
  · rw [show partR a n = (a.tdiv n, 0) by unfold partR; rw [if_neg hn, if_neg h], outR_ok]
    by_cases h1 : a = -9223372036854775808
    · have h2 : ¬ n = -1 := fun e => h ⟨h1, e⟩
      go_enter Tryz.func71, Tryz.ntmps71
      go_wp2
      go_ret
      refine ⟨ret_int ?_, rfl⟩
      rw [show -Int.tdiv 9223372036854775808 n = a.tdiv n by rw [h1, show (-9223372036854775808 : Int) = -(9223372036854775808) from rfl, Int.neg_tdiv]]
      exact IntWalk.wrap64_in _ (tdiv_in ha hn h)
    · go_enter Tryz.func71, Tryz.ntmps71
      go_wp2
      go_ret
      exact ⟨ret_int (IntWalk.wrap64_in _ (tdiv_in ha hn h)), rfl⟩

set_option maxHeartbeats 2000000 in
theorem vshare_some (x y k : Int) (w : World) (hx : inF x) (hy : inF y) (hk : inF k) (hn : ¬ k = 0) :
    Calls Tryz.prog 56 #[vec x y, .int .i64 k] w fun e w' => e = outV (two (partR x k) (partR y k)) ∧ Grew w w' := by
  have G : Hid (∀ c, Grew w ((w.alloc (.cells #[.int .i64 x, .int .i64 y] 26)).alloc (.cells c 26))) := fun c => ((Grew.refl w).alloc _ _).alloc _ _
  obtain ⟨r, hr⟩ : ∃ r, partR x k = r := ⟨_, rfl⟩
  obtain ⟨s, hs⟩ : ∃ s, partR y k = s := ⟨_, rfl⟩
  have c1 : Hid (∀ W, Calls Tryz.prog 71 #[.int .i64 x, .int .i64 k] W fun e w' => ((e = .returned (.int .i64 r.1) ∧ Hid (r.2 = 0)) ∨ (e = .panicked [fault r.2] ∧ Hid (¬ r.2 = 0))) ∧ w' = W) := fun W => by rw [← hr]; exact ways_of (part_any x k W hx hk hn)
  have c2 : Hid (∀ W, Calls Tryz.prog 71 #[.int .i64 y, .int .i64 k] W fun e w' => ((e = .returned (.int .i64 s.1) ∧ Hid (s.2 = 0)) ∨ (e = .panicked [fault s.2] ∧ Hid (¬ s.2 = 0))) ∧ w' = W) := fun W => by rw [← hs]; exact ways_of (part_any y k W hy hk hn)
  rw [hr, hs]
  clear hr hs
  unfold vec
  have hn0 : (k == 0) = false := by simp [hn]
  go_enter Tryz.func56, Tryz.ntmps56
  go_wp2_with (fail)
  go_region_held2 (fun w' => w'.cell? ⟨w.heap.size, 0, none⟩ = some (.int .i64 x) ∧ w'.cell? ⟨w.heap.size, 1, none⟩ = some (.int .i64 y)) (go_keep)
    (first
      | (go_at_call 71; go_fit (c1.out _); rintro e w' ⟨(⟨rfl, h1⟩ | ⟨rfl, h1⟩), rfl⟩; rotate_left; (exact post_panic (P := Tryz.prog) (fn := Tryz.f56) (R := fun e w' => e = outV (two r s) ∧ Grew w w') rfl ⟨(outV_no1 h1.out).symm, (G.out _).drew⟩))
      | (go_at_call 71; go_fit (c2.out _); rintro e w' ⟨(⟨rfl, h2⟩ | ⟨rfl, h2⟩), rfl⟩; rotate_left; (exact post_panic (P := Tryz.prog) (fn := Tryz.f56) (R := fun e w' => e = outV (two r s) ∧ Grew w w') rfl ⟨(outV_no2 h1.out h2.out).symm, (G.out _).drew⟩)))
  go_wp2
  rw [outV_ok h1.out h2.out]
  simp [bodyPost, results, Tryz.results56, go_sem, vec]
  exact (G.out _).drew

theorem vshare_zero (x y : Int) (w : World) :
    Calls Tryz.prog 56 #[vec x y, .int .i64 0] w fun e w' => e = outV (two (partR x 0) (partR y 0)) ∧ Grew w w' := by
  rw [show outV (two (partR x 0) (partR y 0)) = .panicked [fault 4] from rfl]
  unfold vec
  go_enter Tryz.func56, Tryz.ntmps56
  go_wp2
  exact ⟨rfl, rfl, ((Grew.refl w).alloc _ _).alloc _ _⟩
theorem vshare_any (x y k : Int) (w : World) (hx : inF x) (hy : inF y) (hk : inF k) :
    Calls Tryz.prog 56 #[vec x y, .int .i64 k] w fun e w' => e = outV (two (partR x k) (partR y k)) ∧ Grew w w' := by
  by_cases h : k = 0
  · subst h; exact vshare_zero x y w
  · exact vshare_some x y k w hx hy hk h
end Go.Proofs.YtcoooehcgbohgaaGreat

namespace Go.Proofs.YtcoooehcgbohgaaGreat
open Go Go.RowKit

/-- A contact: its direction (x, y), its depth. -/
structure Ht where
  x : Int
  y : Int
  d : Int
/-- .. as the code has it. -/
def Ht.val (h : Ht) : Value := .agg #[.int .i64 h.x, .int .i64 h.y, .int .i64 h.d]
structure Ht.ok (h : Ht) : Prop where
  x : inF h.x
  y : inF h.y
  d : inF h.d

def contactH (x y d : Int) : Ht × Bool := if d ≤ 0 then (⟨0, 0, 0⟩, false) else (⟨x, y, d⟩, true)
def towI (d : Int) : Int := if d < 0 then -4294967296 else 4294967296
def amtR (d : Int) : Int × Int := if d < 0 then subR 0 d else (d, 0)
/-- One number behind another. -/
def behind (r : Int × Int) (f : Int → Int × Int) : Int × Int := if r.2 = 0 then f r.1 else (0, r.2)
def overR (a b d : Int) : Int × Int := behind (addR a b) fun s => behind (amtR d) fun m => subR s m
/-- A contact that is asked where there is no error so far. -/
def ifH (k : Int) (r : (Ht × Bool) × Int) : (Ht × Bool) × Int := if k = 0 then r else ((⟨0, 0, 0⟩, false), k)
theorem ifH_ok {k : Int} (h : k = 0) (r : (Ht × Bool) × Int) : ifH k r = r := if_pos h
theorem ifH_no {k : Int} (h : ¬ k = 0) (r : (Ht × Bool) × Int) : ifH k r = ((⟨0, 0, 0⟩, false), k) := if_neg h
def noneH : (Ht × Bool) × Int := ((⟨0, 0, 0⟩, false), 0)
/-- Two crates: of both overlaps. -/
def lessH (X Y x y : Int) : Ht × Bool := if Y < X then contactH 0 (towI y) Y else contactH (towI x) 0 X
def cratesR (a b c d x y : Int) : (Ht × Bool) × Int := ifH (overR a c x).2 (if (overR a c x).1 ≤ 0 then noneH else ifH (overR b d y).2 (lessH (overR a c x).1 (overR b d y).1 x y, 0))
def gapV (A B : Bd) : Int × Int × Int := two (subR B.p A.p) (subR B.q A.q)
def crateR (A B : Bd) : (Ht × Bool) × Int := ifH (gapV A B).2.2 (cratesR A.a A.b B.a B.b (gapV A B).1 (gapV A B).2.1)
/-- Two balls: of the direction and the length. -/
def sumR (a b l : Int) : Int × Int := behind (addR a b) fun s => subR s l
def awayH (n : Int × Int) (l d : Int) : Ht × Bool := if l = 0 then contactH 4294967296 0 d else contactH n.1 n.2 d
def ballsU (a b : Int) (u : (Int × Int) × Int × Int) : (Ht × Bool) × Int := ifH u.2.2 (ifH (sumR a b u.2.1).2 (awayH u.1 u.2.1 (sumR a b u.2.1).1, 0))
def ballsR (A B : Bd) : (Ht × Bool) × Int := ifH (gapV A B).2.2 (ballsU A.a B.a (unitR (gapV A B).1 (gapV A B).2.1))
/-- A ball and a crate. -/
def roundB (A : Bd) : Bd := ⟨A.s, A.a, A.a, A.m, A.p, A.q, A.u, A.v⟩
def edgeV (A : Bd) (b : Bx) : Int × Int × Int := two (subR (nearI A.p b.l b.h) A.p) (subR (nearI A.q b.m b.k) A.q)
def ballU (A B : Bd) (u : (Int × Int) × Int × Int) : (Ht × Bool) × Int := ifH u.2.2 (if u.2.1 = 0 then crateR (roundB A) B else ifH (subR A.a u.2.1).2 (contactH u.1.1 u.1.2 (subR A.a u.2.1).1, 0))
def ballR (A B : Bd) : (Ht × Bool) × Int := ifH (boxR B).2 (ifH (edgeV A (boxR B).1).2.2 (ballU A B (unitR (edgeV A (boxR B).1).1 (edgeV A (boxR B).1).2.1)))
/-- A contact turned around. -/
def flipR (h : Ht) : Ht × Int := if (two (subR 0 h.x) (subR 0 h.y)).2.2 = 0 then (⟨(subR 0 h.x).1, (subR 0 h.y).1, h.d⟩, 0) else (⟨0, 0, 0⟩, (two (subR 0 h.x) (subR 0 h.y)).2.2)
def flipB (r : (Ht × Bool) × Int) : (Ht × Bool) × Int := ifH r.2 (ifH (flipR r.1.1).2 (((flipR r.1.1).1, r.1.2), 0))
/-- What Hit answers. -/
def hitR (A B : Bd) : (Ht × Bool) × Int :=
  if A.s = 1 ∧ B.s = 1 then ballsR A B else if A.s = 2 ∧ B.s = 2 then crateR A B else if A.s = 1 ∧ B.s = 2 then ballR A B else if A.s = 2 ∧ B.s = 1 then flipB (ballR B A) else noneH
/-- How Hit ends, and Flip. -/
def outH (t : (Ht × Bool) × Int) : Ending := if t.2 = 0 then .returned (.tuple #[t.1.1.val, .bool t.1.2]) else .panicked [fault t.2]
def outF (t : Ht × Int) : Ending := if t.2 = 0 then .returned t.1.val else .panicked [fault t.2]

/-! ### Numbers that are not too great -/
theorem aOk {a b : Int} (h : -9223372036854775808 ≤ a + b ∧ a + b ≤ 9223372036854775807) : addR a b = (a + b, 0) := inR_ok h
theorem sOk {a b : Int} (h : -9223372036854775808 ≤ a - b ∧ a - b ≤ 9223372036854775807) : subR a b = (a - b, 0) := inR_ok h
theorem twoOk (a b : Int) : two (a, 0) (b, 0) = (a, b, 0) := rfl
def rt2 (x y : Int) : Int := rt (x * x + y * y)
theorem rt2_is {x y : Int} (h : inF x) (g : inF y) : isR (x * x + y * y) (rt2 x y) := rt_is (inF_sum h g).1 (inF_sum h g).2
theorem rt2_nonneg {x y : Int} (h : inF x) (g : inF y) : 0 ≤ rt2 x y := (rt2_is h g).1
theorem rt2_swap (x y : Int) : rt2 x y = rt2 y x := by unfold rt2; rw [Int.add_comm]
theorem rt2_gex {x y : Int} (h : inF x) (g : inF y) : ab x ≤ rt2 x y := by
  have k := rt2_is h g
  have := lt_sq (a := ab x) (b := rt2 x y + 1) (by have := k.1; omega) (by rw [ab_sq]; have := k.2.2; have := (inF_sq g).1; omega)
  omega
theorem rt2_gey {x y : Int} (h : inF x) (g : inF y) : ab y ≤ rt2 x y := by rw [rt2_swap]; exact rt2_gex g h
theorem rt2_neg (x y : Int) : rt2 (-x) (-y) = rt2 x y := by unfold rt2; rw [Int.neg_mul_neg, Int.neg_mul_neg]
theorem rt_0 : rt 0 = 0 := rt_eq ⟨by decide, by decide, by decide⟩ (by decide)
theorem rt2_zero {x y : Int} (h : inF x) (g : inF y) : rt2 x y = 0 ↔ x = 0 ∧ y = 0 := by
  constructor
  · intro e
    have h1 := rt2_gex h g
    have h2 := rt2_gey h g
    have := ab_of x; have := ab_of y
    omega
  · rintro ⟨rfl, rfl⟩
    exact rt_0
theorem rt2_lt {x y k : Int} (hk : 0 ≤ k) (hx : -k ≤ x ∧ x ≤ k) (hy : -k ≤ y ∧ y ≤ k) (h : inF x) (g : inF y) : rt2 x y ≤ 2 * k := by
  have i := rt2_is h g
  have e1 := sq_le (ab_nonneg x) (show ab x ≤ k by have := ab_of x; omega)
  have e2 := sq_le (ab_nonneg y) (show ab y ≤ k by have := ab_of y; omega)
  rw [ab_sq] at e1 e2
  refine le_sq (by omega) ?_
  have e3 : (2 * k) * (2 * k) = 4 * (k * k) := by grind
  have := Int.mul_nonneg hk hk
  have := i.2.1
  omega
/-- x over l, towards 0, in bits. -/
def qd (x l : Int) : Int := if x < 0 then -(ab x * 4294967296 / l) else ab x * 4294967296 / l
theorem qd_amt {x l : Int} (hl : 0 < l) (h : ab x ≤ l) : 0 ≤ ab x * 4294967296 / l ∧ ab x * 4294967296 / l ≤ 4294967296 := by
  refine ⟨Int.ediv_nonneg (Int.mul_nonneg (ab_nonneg x) (by decide)) (by omega), ?_⟩
  refine Int.ediv_le_of_le_mul hl ?_
  rw [Int.mul_comm 4294967296]
  exact Int.mul_le_mul_of_nonneg_right h (by decide)
theorem qd_in {x l : Int} (hl : 0 < l) (h : ab x ≤ l) : -4294967296 ≤ qd x l ∧ qd x l ≤ 4294967296 := by
  have := qd_amt hl h
  unfold qd
  split <;> omega
theorem div_qd {x l : Int} (hl : 0 < l) (h : ab x ≤ l) : divR x l = (qd x l, 0) := by
  have := qd_amt hl h
  have e : divM x l = ab x * 4294967296 / l := by
    unfold divM
    rw [show ab l = l by have := ab_of l; omega]
  unfold divR
  rw [if_neg (by omega), e]
  unfold qd sgn sgR
  by_cases g : x < 0
  · rw [if_pos g, if_pos (by simp [g]; omega), if_pos (by omega)]
  · rw [if_neg g, if_neg (by simp [g]; omega), if_pos (by omega)]
theorem qd_neg {x l : Int} : qd (-x) l = -qd x l := by
  unfold qd
  rw [ab_neg]
  by_cases h : x = 0
  · subst h; simp [ab]
  · by_cases g : x < 0
    · rw [if_pos g, if_neg (by omega)]; omega
    · rw [if_neg g, if_pos (by omega)]
theorem qd_zero (l : Int) : qd 0 l = 0 := by unfold qd ab; simp
theorem qd_self {l : Int} (h : 0 < l) : qd l l = 4294967296 := by
  unfold qd
  rw [if_neg (by omega), show ab l = l by have := ab_of l; omega]
  exact Int.mul_ediv_cancel_left _ (by omega)
/-- Unit where nothing is too great. -/
def unitI (x y : Int) : (Int × Int) × Int × Int := if rt2 x y = 0 then ((0, 0), 0, 0) else ((qd x (rt2 x y), qd y (rt2 x y)), rt2 x y, 0)
theorem unit_mild {x y : Int} (hx : -36028797018963968 ≤ x ∧ x ≤ 36028797018963968) (hy : -36028797018963968 ≤ y ∧ y ≤ 36028797018963968) : unitR x y = unitI x y := by
  have h : inF x := ⟨by omega, by omega⟩
  have g : inF y := ⟨by omega, by omega⟩
  have e : lenR x y = (rt2 x y, 0) := by
    have := rt2_lt (by decide) hx hy h g
    unfold lenR
    exact if_pos (show rt2 x y < 9223372036854775808 by omega)
  have k0 := rt2_nonneg h g
  have k1 := rt2_gex h g
  have k2 := rt2_gey h g
  unfold unitI
  by_cases hz : rt2 x y = 0
  · rw [if_pos hz]
    exact unitR_zero (by rw [e]) (by rw [e]; exact hz)
  · rw [if_neg hz]
    have d1 := div_qd (x := x) (l := rt2 x y) (by omega) k1
    have d2 := div_qd (x := y) (l := rt2 x y) (by omega) k2
    have := @unitR_ok x y
    rw [e] at this
    simp only [d1, d2] at this
    exact this trivial hz rfl
def ballsI (r x y : Int) : Ht × Bool := awayH (unitI x y).1 (rt2 x y) (r - rt2 x y)
def cratesI (a b x y : Int) : Ht × Bool := if a - ab x ≤ 0 then (⟨0, 0, 0⟩, false) else lessH (a - ab x) (b - ab y) x y
def bcI (r c d x y u v : Int) : Ht × Bool := if rt2 u v = 0 then cratesI (r + c) (r + d) x y else contactH (qd u (rt2 u v)) (qd v (rt2 u v)) (r - rt2 u v)
def ballI (r c d x y : Int) : Ht × Bool := bcI r c d x y (nearI 0 (x - c) (x + c)) (nearI 0 (y - d) (y + d))
def flipI (h : Ht × Bool) : Ht × Bool := (⟨-h.1.x, -h.1.y, h.1.d⟩, h.2)
def hitI (A B : Bd) : Ht × Bool :=
  if A.s = 1 ∧ B.s = 1 then ballsI (A.a + B.a) (B.p - A.p) (B.q - A.q) else if A.s = 2 ∧ B.s = 2 then cratesI (A.a + B.a) (A.b + B.b) (B.p - A.p) (B.q - A.q) else if A.s = 1 ∧ B.s = 2 then ballI A.a B.a B.b (B.p - A.p) (B.q - A.q) else if A.s = 2 ∧ B.s = 1 then flipI (ballI B.a A.a A.b (A.p - B.p) (A.q - B.q)) else (⟨0, 0, 0⟩, false)
/-- A body that is neither great nor far away. -/
structure Mild (B : Bd) : Prop where
  a : 0 ≤ B.a ∧ B.a ≤ 8796093022208
  b : 0 ≤ B.b ∧ B.b ≤ 8796093022208
  p : -4503599627370496 ≤ B.p ∧ B.p ≤ 4503599627370496
  q : -4503599627370496 ≤ B.q ∧ B.q ≤ 4503599627370496
theorem gap_mild {A B : Bd} (hA : Mild A) (hB : Mild B) : gapV A B = (B.p - A.p, B.q - A.q, 0) := by
  have := hA.p; have := hA.q; have := hB.p; have := hB.q
  unfold gapV
  rw [sOk (by omega), sOk (by omega)]
  rfl
theorem over_mild {a b d : Int} (ha : 0 ≤ a ∧ a ≤ 8796093022208) (hb : 0 ≤ b ∧ b ≤ 8796093022208) (hd : -36028797018963968 ≤ d ∧ d ≤ 36028797018963968) : overR a b d = (a + b - ab d, 0) := by
  have e1 : amtR d = (ab d, 0) := by
    unfold amtR ab
    split
    · rw [sOk (by omega)]; simp
    · rfl
  have := ab_of d
  unfold overR behind
  rw [aOk (by omega), if_pos rfl, e1]
  show subR (a + b) (ab d) = _
  exact sOk (by omega)
theorem crates_mild {a b c d x y : Int} (ha : 0 ≤ a ∧ a ≤ 8796093022208) (hb : 0 ≤ b ∧ b ≤ 8796093022208) (hc : 0 ≤ c ∧ c ≤ 8796093022208) (hd : 0 ≤ d ∧ d ≤ 8796093022208) (hx : -36028797018963968 ≤ x ∧ x ≤ 36028797018963968) (hy : -36028797018963968 ≤ y ∧ y ≤ 36028797018963968) : cratesR a b c d x y = (cratesI (a + c) (b + d) x y, 0) := by
  unfold cratesR cratesI
  rw [over_mild ha hc hx, over_mild hb hd hy]
  simp only [ifH, noneH]
  rw [if_pos trivial, if_pos trivial]
  split <;> rfl
theorem crate_mild {A B : Bd} (hA : Mild A) (hB : Mild B) : crateR A B = (cratesI (A.a + B.a) (A.b + B.b) (B.p - A.p) (B.q - A.q), 0) := by
  have := hA.p; have := hA.q; have := hB.p; have := hB.q
  unfold crateR
  rw [gap_mild hA hB]
  simp only [ifH]
  rw [if_pos trivial]
  exact crates_mild hA.a hA.b hB.a hB.b (by omega) (by omega)
theorem unitI_err (x y : Int) : (unitI x y).2.2 = 0 := by unfold unitI; split <;> rfl
theorem unitI_len (x y : Int) : (unitI x y).2.1 = rt2 x y := by
  unfold unitI
  by_cases h : rt2 x y = 0
  · rw [if_pos h, h]
  · rw [if_neg h]
theorem balls_mild {A B : Bd} (hA : Mild A) (hB : Mild B) : ballsR A B = (ballsI (A.a + B.a) (B.p - A.p) (B.q - A.q), 0) := by
  have := hA.p; have := hA.q; have := hB.p; have := hB.q; have := hA.a; have := hB.a
  unfold ballsR
  rw [gap_mild hA hB]
  simp only
  have hx : -36028797018963968 ≤ B.p - A.p ∧ B.p - A.p ≤ 36028797018963968 := by omega
  have hy : -36028797018963968 ≤ B.q - A.q ∧ B.q - A.q ≤ 36028797018963968 := by omega
  rw [ifH_ok rfl, unit_mild hx hy]
  generalize B.p - A.p = x at *
  generalize B.q - A.q = y at *
  have h : inF x := ⟨by omega, by omega⟩
  have g : inF y := ⟨by omega, by omega⟩
  have k0 := rt2_nonneg h g
  have k1 := rt2_lt (by decide) hx hy h g
  unfold ballsU ballsI sumR behind
  rw [ifH_ok (unitI_err x y), unitI_len, aOk (by omega)]
  simp only
  rw [if_pos trivial, sOk (by omega)]
  exact ifH_ok rfl _
theorem near_shift (a l h : Int) : nearI a l h - a = nearI 0 (l - a) (h - a) := by
  rcases near_cases a l h with ⟨h1, e⟩ | ⟨h1, h2, e⟩ | ⟨h1, h2, e⟩ <;> rcases near_cases 0 (l - a) (h - a) with ⟨g1, f⟩ | ⟨g1, g2, f⟩ | ⟨g1, g2, f⟩ <;> rw [e, f] <;> omega
theorem box_mild {B : Bd} (h : Mild B) (hs : B.s = 2) : boxR B = (⟨B.p - B.a, B.q - B.b, B.p + B.a, B.q + B.b⟩, 0) := by
  have := h.a; have := h.b; have := h.p; have := h.q
  unfold boxR pairX
  rw [reach_else (by omega), sOk (by omega), sOk (by omega), aOk (by omega), aOk (by omega), twoOk, twoOk]
  rfl
theorem near_mid {c x : Int} (hc : 0 ≤ c ∧ c ≤ 8796093022208) (hx : -9007199254740992 ≤ x ∧ x ≤ 9007199254740992) : -36028797018963968 ≤ nearI 0 (x - c) (x + c) ∧ nearI 0 (x - c) (x + c) ≤ 36028797018963968 := by
  rcases near_cases 0 (x - c) (x + c) with ⟨g1, f⟩ | ⟨g1, g2, f⟩ | ⟨g1, g2, f⟩ <;> rw [f] <;> omega
theorem ball_mild {A B : Bd} (hA : Mild A) (hB : Mild B) (hs : B.s = 2) : ballR A B = (ballI A.a B.a B.b (B.p - A.p) (B.q - A.q), 0) := by
  have hp := hA.p; have hq := hA.q; have hr := hB.p; have ht := hB.q; have ha := hA.a
  unfold ballR
  rw [box_mild hB hs]
  simp only
  have e1 := near_shift A.p (B.p - B.a) (B.p + B.a)
  have e2 := near_shift A.q (B.q - B.b) (B.q + B.b)
  rw [show B.p - B.a - A.p = B.p - A.p - B.a by omega, show B.p + B.a - A.p = B.p - A.p + B.a by omega] at e1
  rw [show B.q - B.b - A.q = B.q - A.q - B.b by omega, show B.q + B.b - A.q = B.q - A.q + B.b by omega] at e2
  have u := near_mid (x := B.p - A.p) hB.a (by omega)
  have v := near_mid (x := B.q - A.q) hB.b (by omega)
  have ee : edgeV A ⟨B.p - B.a, B.q - B.b, B.p + B.a, B.q + B.b⟩ = (nearI 0 (B.p - A.p - B.a) (B.p - A.p + B.a), nearI 0 (B.q - A.q - B.b) (B.q - A.q + B.b), 0) := by
    unfold edgeV
    simp only
    rw [sOk (by omega), sOk (by omega), twoOk, e1, e2]
  rw [ifH_ok rfl, ee]
  simp only
  rw [ifH_ok rfl, unit_mild u v]
  unfold ballI bcI ballU
  have cm : crateR (roundB A) B = (cratesI (A.a + B.a) (A.a + B.b) (B.p - A.p) (B.q - A.q), 0) := crate_mild (A := roundB A) ⟨hA.a, hA.a, hA.p, hA.q⟩ hB
  rw [cm]
  generalize nearI 0 (B.p - A.p - B.a) (B.p - A.p + B.a) = x at *
  generalize nearI 0 (B.q - A.q - B.b) (B.q - A.q + B.b) = y at *
  have h : inF x := ⟨by omega, by omega⟩
  have g : inF y := ⟨by omega, by omega⟩
  have k0 := rt2_nonneg h g
  have k1 := rt2_lt (by decide) u v h g
  rw [ifH_ok (unitI_err x y), unitI_len]
  by_cases z : rt2 x y = 0
  · rw [if_pos z, if_pos z]
  · rw [if_neg z, if_neg z, sOk (by omega), ifH_ok rfl]
    unfold unitI
    rw [if_neg z]
/-- A contact's direction is not too great. -/
def Slim (h : Ht × Bool) : Prop := (-4294967296 ≤ h.1.x ∧ h.1.x ≤ 4294967296) ∧ -4294967296 ≤ h.1.y ∧ h.1.y ≤ 4294967296
theorem contact_slim {x y d : Int} (hx : -4294967296 ≤ x ∧ x ≤ 4294967296) (hy : -4294967296 ≤ y ∧ y ≤ 4294967296) : Slim (contactH x y d) := by
  unfold contactH Slim
  split
  · simp
  · exact ⟨hx, hy⟩
theorem tow_in (d : Int) : -4294967296 ≤ towI d ∧ towI d ≤ 4294967296 := by unfold towI; split <;> omega
theorem crates_slim (a b x y : Int) : Slim (cratesI a b x y) := by
  unfold cratesI lessH
  split
  · simp [Slim]
  · split
    · exact contact_slim (by omega) (tow_in y)
    · exact contact_slim (tow_in x) (by omega)
theorem balls_slim {r x y : Int} (h : inF x) (g : inF y) : Slim (ballsI r x y) := by
  have k0 := rt2_nonneg h g
  have k1 := rt2_gex h g
  have k2 := rt2_gey h g
  unfold ballsI awayH
  split
  · exact contact_slim (by omega) (by omega)
  · rename_i z
    unfold unitI
    rw [if_neg z]
    exact contact_slim (qd_in (by omega) k1) (qd_in (by omega) k2)
theorem bc_slim {r c d x y u v : Int} (h : inF u) (g : inF v) : Slim (bcI r c d x y u v) := by
  have k0 := rt2_nonneg h g
  have k1 := rt2_gex h g
  have k2 := rt2_gey h g
  unfold bcI
  split
  · exact crates_slim _ _ _ _
  · rename_i z
    exact contact_slim (qd_in (by omega) k1) (qd_in (by omega) k2)
theorem flip_slim {h : Ht × Bool} (s : Slim h) : Slim (flipI h) := by
  unfold Slim flipI at *
  simp only
  omega
theorem flip_ok {h : Ht} (hx : -4294967296 ≤ h.x ∧ h.x ≤ 4294967296) (hy : -4294967296 ≤ h.y ∧ h.y ≤ 4294967296) : flipR h = (⟨-h.x, -h.y, h.d⟩, 0) := by
  unfold flipR
  rw [sOk (by omega), sOk (by omega), twoOk]
  simp
theorem ball_slim {A B : Bd} (hA : Mild A) (hB : Mild B) : Slim (ballI A.a B.a B.b (B.p - A.p) (B.q - A.q)) := by
  have hp := hA.p; have hq := hA.q; have hr := hB.p; have ht := hB.q
  have u := near_mid (x := B.p - A.p) hB.a (by omega)
  have v := near_mid (x := B.q - A.q) hB.b (by omega)
  exact bc_slim ⟨by omega, by omega⟩ ⟨by omega, by omega⟩
theorem hit_mild {A B : Bd} (hA : Mild A) (hB : Mild B) : hitR A B = (hitI A B, 0) := by
  unfold hitR hitI
  by_cases h1 : A.s = 1 ∧ B.s = 1
  · rw [if_pos h1, if_pos h1]; exact balls_mild hA hB
  rw [if_neg h1, if_neg h1]
  by_cases h2 : A.s = 2 ∧ B.s = 2
  · rw [if_pos h2, if_pos h2]; exact crate_mild hA hB
  rw [if_neg h2, if_neg h2]
  by_cases h3 : A.s = 1 ∧ B.s = 2
  · rw [if_pos h3, if_pos h3]; exact ball_mild hA hB h3.2
  rw [if_neg h3, if_neg h3]
  by_cases h4 : A.s = 2 ∧ B.s = 1
  · rw [if_pos h4, if_pos h4, ball_mild hB hA h4.1]
    have s := ball_slim hB hA
    generalize ballI B.a A.a A.b (A.p - B.p) (A.q - B.q) = r at *
    unfold flipB
    simp only
    rw [ifH_ok rfl, flip_ok s.1 s.2, ifH_ok rfl]
    rfl
  · rw [if_neg h4, if_neg h4]; rfl
theorem hit_slim {A B : Bd} (hA : Mild A) (hB : Mild B) : Slim (hitI A B) := by
  have hp := hA.p; have hq := hA.q; have hr := hB.p; have ht := hB.q
  unfold hitI
  split
  · exact balls_slim ⟨by omega, by omega⟩ ⟨by omega, by omega⟩
  split
  · exact crates_slim _ _ _ _
  split
  · exact ball_slim hA hB
  split
  · exact flip_slim (ball_slim hB hA)
  · simp [Slim]
theorem right_mild {B : Bd} (h : rightB B = true) : Mild B := by
  obtain ⟨h1, h2, h3, h4, h5, h6, h7, h8, _⟩ := (rightB_iff B).1 h
  exact ⟨by omega, by omega, by omega, by omega⟩
end Go.Proofs.YtcoooehcgbohgaaGreat

namespace Go.Proofs.YtcoooehcgbohgaaGreat
open Go.RowKit

/-- W is w1 with new blocks, and the blocks of S may have been written. -/
structure Wrote (S : Nat → Prop) (w1 W : World) : Prop where
  grew : ∀ w₀ : World, (∀ n, S n → w₀.heap.size ≤ n) → Grew w₀ w1 → Grew w₀ W
  block : ∀ i, i < w1.heap.size → ¬ S i → W.heap[i]? = w1.heap[i]?
  size : w1.heap.size ≤ W.heap.size

theorem Wrote.refl (S : Nat → Prop) (w : World) : Wrote S w w := ⟨fun _ _ h => h, fun _ _ _ => rfl, Nat.le_refl _⟩
theorem Wrote.trans {S : Nat → Prop} {a b c : World} (h : Wrote S a b) (g : Wrote S b c) : Wrote S a c :=
  ⟨fun w₀ hw G => g.grew w₀ hw (h.grew w₀ hw G), fun i hi hn => (g.block i (Nat.lt_of_lt_of_le hi h.size) hn).trans (h.block i hi hn), Nat.le_trans h.size g.size⟩
theorem Wrote.more {S T : Nat → Prop} {a b : World} (h : Wrote S a b) (hS : ∀ n, S n → T n) : Wrote T a b :=
  ⟨fun w₀ hw G => h.grew w₀ (fun n hn => hw n (hS n hn)) G, fun i hi hn => h.block i hi (fun x => hn (hS i x)), h.size⟩
theorem Grew.wrote {S : Nat → Prop} {w W : World} (h : Grew w W) : Wrote S w W := ⟨fun _ _ G => G.trans h, fun _ hi _ => h.heap hi, h.size⟩
theorem Past.wrote {S : Nat → Prop} {n : Nat} {w W : World} (h : Past n w W) (hn : S n) : Wrote S w W :=
  ⟨fun w₀ hw G => h.grew w₀ (hw n hn) G, fun i hi hi' => h.block i hi (fun e => hi' (e ▸ hn)), h.size⟩
theorem Wrote.set {S : Nat → Prop} {w W : World} (h : Wrote S w W) {b : Nat} (hb : S b) (o : Nat) (s : Option Nat) (v : Value) : Wrote S w (W.setCell ⟨b, o, s⟩ v) :=
  h.trans ((past_setCell b W o s v).wrote hb)
theorem Wrote.cell {S : Nat → Prop} {w W : World} (h : Wrote S w W) {p : Addr} {v : Value} (hc : w.cell? p = some v) (hn : ¬ S p.block) : W.cell? p = some v := by
  rw [cell_of_heap (h.block _ (cell_block hc) hn), hc]
theorem Wrote.frozen {S : Nat → Prop} {w W : World} (h : Wrote S w W) {p : Addr} (hc : p.block < w.heap.size) (hn : ¬ S p.block) (hz : w.frozen? p = false) : W.frozen? p = false := by
  rw [frozen_of_heap (h.block _ hc hn), hz]
theorem Wrote.to {S : Nat → Prop} {w v W : World} (h : Wrote S v W) (g : Grew w v) (hS : ∀ n, S n → w.heap.size ≤ n) : Grew w W := h.grew w hS g

/-- Try of what writes S alone. -/
theorem try_set {S : Nat → Prop} {P : Int → World → Prop} (F : Nat) (cap : Array Value) (w : World) (hF : ∀ w, (callFunc F cap).run Tryz.prog w = .ok (.enter F cap) w)
    (hS : ∀ n, S n → n < w.heap.size) (hP : ∀ x W W', (∀ i, i < w.heap.size → W'.heap[i]? = W.heap[i]?) → P x W → P x W')
    (h : ∀ W0, Grew w W0 → Calls Tryz.prog F cap W0 fun e w1 => Wrote S W0 w1 ∧ ∃ x, (e = .returned (.tuple #[]) ∧ x = 0 ∨ e = .panicked [fault x]) ∧ P x w1) :
    Calls Tryz.prog 24 #[.func (.func F) #[] cap] w fun e w' => Wrote S w w' ∧ ∃ x, e = .returned (.int .i64 x) ∧ P x w' := by
  refine try_wp F cap w _ hF ?_
  have G := (Grew.refl w).alloc #[.int .i64 0] 30
  refine (h _ G).mono ?_
  rintro e w1 ⟨hW, x, he, hx⟩
  have hn : ¬ S w.heap.size := fun e => Nat.lt_irrefl _ (hS _ e)
  have hc : (w.alloc (.cells #[.int .i64 0] 30)).cell? ⟨w.heap.size, 0, none⟩ = some (.int .i64 0) := by simp
  refine ⟨hW.cell hc hn, hW.frozen (cell_block hc) hn (by simp), x, he, fun W hp => ⟨⟨fun w₀ hw g => ?_, fun i hi hi' => ?_, ?_⟩, x, rfl, ?_⟩⟩
  · exact hp.grew w₀ g.size (hW.grew w₀ hw (g.trans G))
  · rw [hp.block i (Nat.lt_of_lt_of_le (Nat.lt_of_lt_of_le hi G.size) hW.size) (by omega), hW.block i (Nat.lt_of_lt_of_le hi G.size) hi', G.heap hi]
  · exact Nat.le_trans G.size (Nat.le_trans hW.size hp.size)
  · exact hP x w1 W (fun i hi => hp.block i (Nat.lt_of_lt_of_le (Nat.lt_of_lt_of_le hi G.size) hW.size) (by omega)) hx

theorem mk_func (fn : Fn) (first cap : Array Value) (w : World) : (Instr.makeFunc fn first cap).run Tryz.prog w = .ok (.func fn first cap) w := rfl
end Go.Proofs.YtcoooehcgbohgaaGreat

namespace Go.Proofs.YtcoooehcgbohgaaGreat
open Go.RowKit

theorem al_len : lenR 12884901888 17179869184 = (21474836480, 0) := by
  unfold lenR
  rw [show rt (12884901888 * 12884901888 + 17179869184 * 17179869184) = 21474836480 from rt_eq ⟨by decide, by decide, by decide⟩ (by decide)]
  decide
theorem al_d1 : divR 12884901888 21474836480 = (2576980377, 0) := by decide +kernel
theorem al_d2 : divR 17179869184 21474836480 = (3435973836, 0) := by decide +kernel
theorem al_unit : unitR 12884901888 17179869184 = ((2576980377, 3435973836), 21474836480, 0) := by
  have h := @unitR_ok 12884901888 17179869184
  rw [al_len] at h
  simp only [al_d1, al_d2] at h
  exact h trivial (by decide) rfl
theorem al_over : outV (two (divR 0 0) (divR 0 0)) = .panicked [fault 4] := rfl

/-- A place that lies in memory. -/
def At (w : World) (b : Nat) (x y : Int) : Prop := w.cell? ⟨b, 0, none⟩ = some (.int .i64 x) ∧ w.cell? ⟨b, 1, none⟩ = some (.int .i64 y)
theorem At.wrote {S : Nat → Prop} {w W : World} {b : Nat} {x y : Int} (h : At w b x y) (g : Wrote S w W) (hb : ¬ S b) : At W b x y := ⟨g.cell h.1 hb, g.cell h.2 hb⟩
theorem At.grew {w W : World} {b : Nat} {x y : Int} (h : At w b x y) (g : Grew w W) : At W b x y := ⟨g.cell h.1, g.cell h.2⟩
theorem At.heap {w W : World} {b : Nat} {x y : Int} (h : At w b x y) (g : W.heap[b]? = w.heap[b]?) : At W b x y := ⟨by rw [cell_of_heap g]; exact h.1, by rw [cell_of_heap g]; exact h.2⟩
/-- .. and may be written. -/
def Free (w : World) (b : Nat) : Prop := ∀ o s, w.frozen? ⟨b, o, s⟩ = false
theorem Grew.freeB {w₀ w : World} (h : Grew w₀ w) {b : Nat} (hb : w₀.heap.size ≤ b) : Free w b := fun _ _ => h.free hb
theorem Free.grew {w W : World} {b : Nat} (h : Free w b) (g : Grew w W) : Free W b := fun o s => g.frozen (h o s)
theorem at_set (w : World) (b : Nat) (x y u v : Int) (h : At w b x y) : At ((w.setCell ⟨b, 0, none⟩ (.int .i64 u)).setCell ⟨b, 1, none⟩ (.int .i64 v)) b u v := by
  obtain ⟨h1, h2⟩ := h
  constructor <;> simp [go_sem, h1, h2]

/-- What a closure that asks a number leaves: the error, and the number where there is none. -/
def Left (X : Nat) (d : Int × Int) (k : Int) (W : World) : Prop := k = d.2 ∧ (k = 0 → W.cell? ⟨X, 0, none⟩ = some (.int .i64 d.1))
theorem Left.keep {X n : Nat} {d : Int × Int} (hX : X < n) : ∀ k W W', (∀ i, i < n → W'.heap[i]? = W.heap[i]?) → Left X d k W → Left X d k W' :=
  fun _ _ _ hh h => ⟨h.1, fun hk => by rw [cell_of_heap (hh X hX)]; exact h.2 hk⟩

/-- .. that asks a place. -/
def LeftV (X : Nat) (d : Int × Int × Int) (k : Int) (W : World) : Prop := k = d.2.2 ∧ (k = 0 → At W X d.1 d.2.1)
theorem LeftV.keep {X n : Nat} {d : Int × Int × Int} (hX : X < n) : ∀ k W W', (∀ i, i < n → W'.heap[i]? = W.heap[i]?) → LeftV X d k W → LeftV X d k W' :=
  fun _ _ _ hh h => ⟨h.1, fun hk => (h.2 hk).heap (hh X hX)⟩

theorem eq_vec (x y u v : Int) (w : World) : (binOp .eql 26 (.agg #[.int .i64 x, .int .i64 y]) (.agg #[.int .i64 u, .int .i64 v])).run Tryz.prog w = .ok (.bool (x == u && y == v)) w := by
  have hu := run_underlying Tryz.underlying26 w
  have hd : ∀ t x y, Op.equal t x y = Op.equalIn (9998 + 1 + 1) t x y := fun _ _ _ => rfl
  simp only [binOp, hd]
  rw [Op.equalIn]
  simp [go_sem, hu]
  by_cases h1 : x = u <;> by_cases h2 : y = v <;> simp [h1, h2]
theorem ne_vec (x y u v : Int) (w : World) : (binOp .neq 26 (.agg #[.int .i64 x, .int .i64 y]) (.agg #[.int .i64 u, .int .i64 v])).run Tryz.prog w = .ok (.bool (!(x == u && y == v))) w := by
  have hu := run_underlying Tryz.underlying26 w
  have hd : ∀ t x y, Op.equal t x y = Op.equalIn (9998 + 1 + 1) t x y := fun _ _ _ => rfl
  simp only [binOp, hd]
  rw [Op.equalIn]
  simp [go_sem, hu]
  by_cases h1 : x = u <;> by_cases h2 : y = v <;> simp [h1, h2]
theorem same_vec (x y : Int) (w : World) : (binOp .eql 26 (.agg #[.int .i64 x, .int .i64 y]) (.agg #[.int .i64 x, .int .i64 y])).run Tryz.prog w = .ok (.bool true) w := by
  rw [eq_vec]; simp

theorem Free.wrote {S : Nat → Prop} {w W : World} {b : Nat} (h : Free w b) (g : Wrote S w W) (hb : ¬ S b) (hs : b < w.heap.size) : Free W b := fun o s => g.frozen (p := ⟨b, o, s⟩) hs hb (h o s)
theorem At.size {w : World} {b : Nat} {x y : Int} (h : At w b x y) : b < w.heap.size := cell_block h.1
theorem Grew.set1 {W V : World} (U : Grew W V) (S : Nat) (p q : Value) : Wrote (fun n => n = S) W ((V.setCell ⟨S, 0, none⟩ p).setCell ⟨S, 1, none⟩ q) := (U.wrote.set (S := fun n => n = S) rfl _ _ _).set (S := fun n => n = S) rfl _ _ _

/-- A place and a number, laid into two variables. -/
theorem at_set2 (V : World) (a b : Nat) (hab : a ≠ b) (x y u v n : Int) (z : Value) (h : At V a x y) (hb : V.cell? ⟨b, 0, none⟩ = some z) :
    At (((V.setCell ⟨a, 0, none⟩ (.int .i64 u)).setCell ⟨a, 1, none⟩ (.int .i64 v)).setCell ⟨b, 0, none⟩ (.int .i64 n)) a u v ∧ (((V.setCell ⟨a, 0, none⟩ (.int .i64 u)).setCell ⟨a, 1, none⟩ (.int .i64 v)).setCell ⟨b, 0, none⟩ (.int .i64 n)).cell? ⟨b, 0, none⟩ = some (.int .i64 n) := by
  have A := at_set V a x y u v h
  have P := past_setCell b ((V.setCell ⟨a, 0, none⟩ (.int .i64 u)).setCell ⟨a, 1, none⟩ (.int .i64 v)) 0 none (.int .i64 n)
  refine ⟨⟨P.cell hab A.1, P.cell hab A.2⟩, ?_⟩
  have h1 := (past_setCell a V 0 none (.int .i64 u)).cell (p := ⟨b, 0, none⟩) hab.symm hb
  have h2 := (past_setCell a (V.setCell ⟨a, 0, none⟩ (.int .i64 u)) 1 none (.int .i64 v)).cell (p := ⟨b, 0, none⟩) hab.symm h1
  exact World.cell?_setCell_same _ _ _ h2
theorem wrote_set2 {S : Nat → Prop} {W V : World} (U : Wrote S W V) (a b : Nat) (ha : S a) (hb : S b) (u v n : Value) :
    Wrote S W (((V.setCell ⟨a, 0, none⟩ u).setCell ⟨a, 1, none⟩ v).setCell ⟨b, 0, none⟩ n) := ((U.set ha _ _ _).set ha _ _ _).set hb _ _ _

end Go.Proofs.YtcoooehcgbohgaaGreat

namespace Go.Proofs.YtcoooehcgbohgaaGreat
open Go.RowKit


theorem side_any (a : Int) (w : World) :
    Calls Tryz.prog 91 #[.int .i64 a] w fun e w' => e = .returned (.bool (sideB a)) ∧ w' = w := by
  go_enter Tryz.func91, Tryz.ntmps91
  go_wp2
  all_goals
    go_ret
    exact ⟨ret_bool (by unfold sideB; rw [Bool.eq_iff_iff]; simp at *; omega), rfl⟩

theorem mass_any (m : Int) (w : World) :
    Calls Tryz.prog 65 #[.int .i64 m] w fun e w' => e = .returned (.bool (massB m)) ∧ w' = w := by
  go_enter Tryz.func65, Tryz.ntmps65
  go_wp2
  all_goals
    go_ret
    exact ⟨ret_bool (by unfold massB; rw [Bool.eq_iff_iff]; simp at *; omega), rfl⟩

theorem within_any (x y k : Int) (w : World) (hk : 0 ≤ k ∧ k ≤ 4294967296000000) :
    Calls Tryz.prog 67 #[.agg #[.int .i64 x, .int .i64 y], .int .i64 k] w fun e w' => e = .returned (.bool (withinB x y k)) ∧ Grew w w' := by
  obtain ⟨k0, k1⟩ := hk
  have G : Hid (Grew w (w.alloc (.cells #[.int .i64 x, .int .i64 y] 26))) := (Grew.refl w).alloc _ _
  go_enter Tryz.func67, Tryz.ntmps67
  go_wp2
  all_goals
    go_ret
    exact ⟨ret_bool (by unfold withinB; rw [Bool.eq_iff_iff]; simp at *; omega), G.out⟩

theorem sizeB_1 (a b : Int) : sizeB 1 a b = (sideB a && decide (b = 0)) := rfl
theorem sizeB_2 (a b : Int) : sizeB 2 a b = (sideB a && sideB b) := rfl
theorem sizeB_no {s : Int} (h1 : ¬ s = 1) (h2 : ¬ s = 2) (a b : Int) : sizeB s a b = false := by unfold sizeB; rw [if_neg h1, if_neg h2]
theorem ssize_any (s a b : Int) (w : World) :
    Calls Tryz.prog 64 #[.int .i64 s, .agg #[.int .i64 a, .int .i64 b]] w fun e w' => e = .returned (.bool (sizeB s a b)) ∧ Grew w w' := by
  have G : Hid (Grew w (w.alloc (.cells #[.int .i64 a, .int .i64 b] 26))) := (Grew.refl w).alloc _ _
  have c1 : Hid (∀ W, Calls Tryz.prog 91 #[.int .i64 a] W fun e w' => e = .returned (.bool (sideB a)) ∧ w' = W) := fun W => side_any a W
  have c2 : Hid (∀ W, Calls Tryz.prog 91 #[.int .i64 b] W fun e w' => e = .returned (.bool (sideB b)) ∧ w' = W) := fun W => side_any b W
  by_cases h1 : s = 1
  · subst h1
    rw [sizeB_1]
    generalize sideB a = r at *
    by_cases hb : b = 0
    · subst hb
      cases r
      all_goals
        go_enter Tryz.func64, Tryz.ntmps64
        go_wp2_with (first
          | (go_at_call 91; go_fit (c1.out _); rintro e w' ⟨rfl, rfl⟩))
        go_ret
        exact ⟨rfl, G.out⟩
    · have hz : (b == 0) = false := by simpa using hb
      cases r
      all_goals
        go_enter Tryz.func64, Tryz.ntmps64
        go_wp2_with (first
          | (go_at_call 91; go_fit (c1.out _); rintro e w' ⟨rfl, rfl⟩))
        go_ret
        exact ⟨ret_bool (by simp [hb]), G.out⟩
  · have k1 : (s == 1) = false := by simpa using h1
    by_cases h2 : s = 2
    · subst h2
      rw [sizeB_2]
      generalize sideB a = r at *
      generalize sideB b = t at *
      cases r <;> cases t
      all_goals
        go_enter Tryz.func64, Tryz.ntmps64
        go_wp2_with (first
          | (go_at_call 91; go_fit (c1.out _); rintro e w' ⟨rfl, rfl⟩)
          | (go_at_call 91; go_fit (c2.out _); rintro e w' ⟨rfl, rfl⟩))
        go_ret
        exact ⟨rfl, G.out⟩
    · have k2 : (s == 2) = false := by simpa using h2
      rw [sizeB_no h1 h2]
      clear c1 c2
      go_enter Tryz.func64, Tryz.ntmps64
      go_wp2
      go_ret
      exact ⟨rfl, G.out⟩

theorem momB_0 (u v : Int) : momB u v 0 = decide (u = 0 ∧ v = 0) := rfl
theorem momB_m {m : Int} (h : ¬ m = 0) (u v : Int) : momB u v m = withinB u v 4294967296000000 := by unfold momB; rw [if_neg h]
theorem smom_any (u v m : Int) (w : World) :
    Calls Tryz.prog 66 #[.agg #[.int .i64 u, .int .i64 v], .int .i64 m] w fun e w' => e = .returned (.bool (momB u v m)) ∧ Grew w w' := by
  have G : Hid (Grew w (w.alloc (.cells #[.int .i64 u, .int .i64 v] 26))) := (Grew.refl w).alloc _ _
  by_cases hm : m = 0
  · subst hm
    rw [momB_0]
    have hq := eq_vec u v 0 0
    go_enter Tryz.func66, Tryz.ntmps66
    go_wp2
    go_ret
    exact ⟨ret_bool (by rw [Bool.eq_iff_iff]; simp), G.out⟩
  · have hz : (m == 0) = false := by simpa using hm
    rw [momB_m hm]
    have c1 : Hid (∀ W, Calls Tryz.prog 67 #[.agg #[.int .i64 u, .int .i64 v], .int .i64 4294967296000000] W fun e w' => e = .returned (.bool (withinB u v 4294967296000000)) ∧ Grew W w') := fun W => within_any u v _ W (by omega)
    go_enter Tryz.func66, Tryz.ntmps66
    go_wp2_with (first
      | (go_at_call 67; go_fit (c1.out _); rintro e w' ⟨rfl, U⟩))
    go_ret
    exact ⟨rfl, G.out.trans U⟩

theorem shape_right (B : Bd) (w : World) :
    Calls Tryz.prog 46 #[B.val] w fun e w' => e = .returned (.bool (rightB B)) ∧ Grew w w' := by
  have G : Hid (Grew w (w.alloc (.cells #[.int .i64 B.s, .int .i64 B.a, .int .i64 B.b, .int .i64 B.m, .int .i64 B.p, .int .i64 B.q, .int .i64 B.u, .int .i64 B.v] 28))) := (Grew.refl w).alloc _ _
  have c1 : Hid (∀ W, Calls Tryz.prog 64 #[.int .i64 B.s, .agg #[.int .i64 B.a, .int .i64 B.b]] W fun e w' => e = .returned (.bool (sizeB B.s B.a B.b)) ∧ Grew W w') := fun W => ssize_any _ _ _ W
  have c2 : Hid (∀ W, Calls Tryz.prog 65 #[.int .i64 B.m] W fun e w' => e = .returned (.bool (massB B.m)) ∧ w' = W) := fun W => mass_any _ W
  have c3 : Hid (∀ W, Calls Tryz.prog 66 #[.agg #[.int .i64 B.u, .int .i64 B.v], .int .i64 B.m] W fun e w' => e = .returned (.bool (momB B.u B.v B.m)) ∧ Grew W w') := fun W => smom_any _ _ _ W
  have c4 : Hid (∀ W, Calls Tryz.prog 67 #[.agg #[.int .i64 B.p, .int .i64 B.q], .int .i64 42949672960000] W fun e w' => e = .returned (.bool (withinB B.p B.q 42949672960000)) ∧ Grew W w') := fun W => within_any _ _ _ W (by omega)
  unfold rightB Bd.val
  generalize sizeB B.s B.a B.b = r1 at *
  generalize massB B.m = r2 at *
  generalize momB B.u B.v B.m = r3 at *
  generalize withinB B.p B.q 42949672960000 = r4 at *
  cases r1
  · go_enter Tryz.func46, Tryz.ntmps46
    go_wp2_with (first
      | (go_at_call 64; go_fit (c1.out _); rintro e w' ⟨rfl, U⟩))
    go_ret
    exact ⟨rfl, G.out.trans U⟩
  cases r2
  · go_enter Tryz.func46, Tryz.ntmps46
    go_wp2_with (first
      | (go_at_call 64; go_fit (c1.out _); rintro e w' ⟨rfl, U⟩; have m3 := U.cell (p := ⟨w.heap.size, 3, none⟩) (v := .int .i64 B.m) (by simp [go_sem]))
      | (go_at_call 65; go_fit (c2.out _); rintro e w' ⟨rfl, rfl⟩))
    go_ret
    exact ⟨rfl, G.out.trans U⟩
  cases r3
  · go_enter Tryz.func46, Tryz.ntmps46
    go_wp2_with (first
      | (go_at_call 64; go_fit (c1.out _); rintro e w' ⟨rfl, U⟩; have m3 := U.cell (p := ⟨w.heap.size, 3, none⟩) (v := .int .i64 B.m) (by simp [go_sem]); have m6 := U.cell (p := ⟨w.heap.size, 6, none⟩) (v := .int .i64 B.u) (by simp [go_sem]); have m7 := U.cell (p := ⟨w.heap.size, 7, none⟩) (v := .int .i64 B.v) (by simp [go_sem]))
      | (go_at_call 65; go_fit (c2.out _); rintro e w' ⟨rfl, rfl⟩)
      | (go_at_call 66; go_fit (c3.out _); rintro e w' ⟨rfl, U2⟩))
    go_ret
    exact ⟨rfl, (G.out.trans U).trans U2⟩
  cases r4
  all_goals
    go_enter Tryz.func46, Tryz.ntmps46
    go_wp2_with (first
      | (go_at_call 64; go_fit (c1.out _); rintro e w' ⟨rfl, U⟩; have m3 := U.cell (p := ⟨w.heap.size, 3, none⟩) (v := .int .i64 B.m) (by simp [go_sem]); have m6 := U.cell (p := ⟨w.heap.size, 6, none⟩) (v := .int .i64 B.u) (by simp [go_sem]); have m7 := U.cell (p := ⟨w.heap.size, 7, none⟩) (v := .int .i64 B.v) (by simp [go_sem]); have m4 := U.cell (p := ⟨w.heap.size, 4, none⟩) (v := .int .i64 B.p) (by simp [go_sem]); have m5 := U.cell (p := ⟨w.heap.size, 5, none⟩) (v := .int .i64 B.q) (by simp [go_sem]))
      | (go_at_call 65; go_fit (c2.out _); rintro e w' ⟨rfl, rfl⟩)
      | (go_at_call 66; go_fit (c3.out _); rintro e w' ⟨rfl, U2⟩; have n4 := U2.cell m4; have n5 := U2.cell m5)
      | (go_at_call 67; go_fit (c4.out _); rintro e w' ⟨rfl, U3⟩))
    go_ret
    exact ⟨rfl, ((G.out.trans U).trans U2).trans U3⟩

theorem speedR_0 {B : Bd} (h : B.m = 0) : speedR B = (0, 0, 0) := if_pos h
theorem speedR_m {B : Bd} (h : ¬ B.m = 0) : speedR B = two (divR B.u B.m) (divR B.v B.m) := if_neg h
theorem lightR_0 {B : Bd} (h : B.m = 0) : lightR B = (0, 0) := if_pos h
theorem lightR_m {B : Bd} (h : ¬ B.m = 0) : lightR B = divR 4294967296 B.m := if_neg h
theorem outV_ways (t : Int × Int × Int) : (outV t = .returned (vec t.1 t.2.1) ∧ t.2.2 = 0) ∨ (outV t = .panicked [fault t.2.2] ∧ ¬ t.2.2 = 0) := by
  by_cases h : t.2.2 = 0
  · exact .inl ⟨if_pos h, h⟩
  · exact .inr ⟨if_neg h, h⟩
theorem waysV_of {P : Program} {f : Nat} {args : Array Value} {w : World} {t : Int × Int × Int} {A : World → Prop} (h : Calls P f args w fun e w' => e = outV t ∧ A w') :
    Calls P f args w fun e w' => ((e = .returned (vec t.1 t.2.1) ∧ Hid (t.2.2 = 0)) ∨ (e = .panicked [fault t.2.2] ∧ Hid (¬ t.2.2 = 0))) ∧ A w' := by
  refine h.mono ?_
  rintro e w' ⟨rfl, hA⟩
  rcases outV_ways t with ⟨h1, h2⟩ | ⟨h1, h2⟩
  · exact ⟨.inl ⟨h1, h2⟩, hA⟩
  · exact ⟨.inr ⟨h1, h2⟩, hA⟩

set_option maxHeartbeats 400000 in
theorem shape_speed (B : Bd) (hB : B.ok) (w : World) :
    Calls Tryz.prog 63 #[B.val] w fun e w' => e = outV (speedR B) ∧ Grew w w' := by
  have G : Hid (∀ c, Grew w ((w.alloc (.cells #[.int .i64 B.s, .int .i64 B.a, .int .i64 B.b, .int .i64 B.m, .int .i64 B.p, .int .i64 B.q, .int .i64 B.u, .int .i64 B.v] 28)).alloc (.cells c 26))) := fun c => ((Grew.refl w).alloc _ _).alloc _ _
  by_cases hm : B.m = 0
  · rw [speedR_0 hm]
    unfold Bd.val
    rw [hm]
    obtain ⟨s, a, b, m, p, q, u, v⟩ := B
    change m = 0 at hm
    subst hm
    go_enter Tryz.func63, Tryz.ntmps63
    go_wp2
    simp [bodyPost, results, Tryz.results63, go_sem, outV, vec]
    exact G.out _
  · rw [speedR_m hm]
    have hz : (B.m == 0) = false := by simpa using hm
    have c1 := fun W => waysV_of (vover_any B.u B.v B.m W hB.u hB.v hB.m)
    generalize two (divR B.u B.m) (divR B.v B.m) = t at *
    unfold Bd.val
    unfold vec at c1
    have C1 : Hid _ := c1
    clear c1
    go_enter Tryz.func63, Tryz.ntmps63
    go_wp2_with (first
      | (go_at_call 90; go_fit (C1.out _); rintro e w' ⟨(⟨rfl, h1⟩ | ⟨rfl, h1⟩), U⟩; have t0 := U.cell (p := ⟨w.heap.size + 1, 0, none⟩) (v := .int .i64 0) (by simp [go_sem]); have t1 := U.cell (p := ⟨w.heap.size + 1, 1, none⟩) (v := .int .i64 0) (by simp [go_sem]); have y0 := U.frozen (p := ⟨w.heap.size + 1, 0, none⟩) (by simp [go_sem]); have y1 := U.frozen (p := ⟨w.heap.size + 1, 1, none⟩) (by simp [go_sem])))
    · simp [bodyPost, results, Tryz.results63, go_sem, outV, vec, t0, t1, h1.out]
      exact (((G.out _).trans U).setCell (by simp) _).setCell (by simp) _
    · exact ⟨rfl, (if_neg h1.out).symm, (G.out _).trans U⟩

set_option maxHeartbeats 400000 in
theorem shape_light (B : Bd) (hB : B.ok) (w : World) :
    Calls Tryz.prog 89 #[B.val] w fun e w' => e = outR (lightR B) ∧ Grew w w' := by
  have G : Hid (Grew w (w.alloc (.cells #[.int .i64 B.s, .int .i64 B.a, .int .i64 B.b, .int .i64 B.m, .int .i64 B.p, .int .i64 B.q, .int .i64 B.u, .int .i64 B.v] 28))) := (Grew.refl w).alloc _ _
  by_cases hm : B.m = 0
  · rw [lightR_0 hm]
    unfold Bd.val
    rw [hm] at G ⊢
    clear hm
    go_enter Tryz.func89, Tryz.ntmps89
    go_wp2
    go_ret
    exact ⟨rfl, G.out⟩
  · rw [lightR_m hm]
    have hz : (B.m == 0) = false := by simpa using hm
    have C1 : Hid (∀ W, _) := fun W => ways_of (cdiv_any 4294967296 B.m W ⟨by decide, by decide⟩ hB.m)
    generalize divR 4294967296 B.m = t at *
    unfold Bd.val
    go_enter Tryz.func89, Tryz.ntmps89
    go_wp2_with (first
      | (go_at_call 79; go_fit (C1.out _); rintro e w' ⟨(⟨rfl, h1⟩ | ⟨rfl, h1⟩), n, rfl⟩))
    · go_ret
      exact ⟨(if_pos h1.out).symm, G.out.drewN _⟩
    · exact ⟨rfl, (if_neg h1.out).symm, G.out.drewN _⟩
end Go.Proofs.YtcoooehcgbohgaaGreat

namespace Go.Proofs.YtcoooehcgbohgaaGreat
open Go Go.RowKit

/-- Cells that a slice reads, one behind the other. -/
def Reads (w : World) (a : Option Addr) (xs : List Value) : Prop :=
  xs = [] ∨ ∃ b off, a = some ⟨b, off, none⟩ ∧ ∀ j u, xs[j]? = some u → w.cell? ⟨b, off + j, none⟩ = some u
theorem Reads.below {w w' : World} {a : Option Addr} {xs : List Value} (h : Reads w a xs) (g : Below w.heap.size w w') : Reads w' a xs := by
  rcases h with h | ⟨b, off, e, h⟩
  · exact .inl h
  · exact .inr ⟨b, off, e, fun j u hj => (g.cell (cell_block (h j u hj))).trans (h j u hj)⟩

/-- What is owned is read. -/
theorem own_reads {w : World} {B n k : Nat} {E : TypeId} {v : Value} {xs : List Value} (h : w.ownsRow B E k v n xs) : ∃ a cap, v = .slice a n cap ∧ Reads w a xs := by
  rcases h.2 with ⟨rfl, h0⟩ | ⟨g, cap, cur, rfl, _⟩
  · refine ⟨none, 0, by rw [h0], .inl (List.eq_nil_of_length_eq_zero ?_)⟩
    rw [h.1, h0]; simp
  · refine ⟨_, cap, rfl, .inr ⟨g, 0, rfl, fun j u hj => ?_⟩⟩
    rw [Nat.zero_add, h.cellAt j (by rw [← h.1]; exact (List.getElem?_eq_some_iff.1 hj).1)]
    exact hj
/-- A slice that begins as one that is owned. -/
theorem own_prefix {w : World} {B n m k g cap : Nat} {E : TypeId} {xs ys : List Value} (h : w.ownsRow B E k (.slice (some ⟨g, 0, none⟩) (n + m) cap) (n + m) (xs ++ ys)) (hx : xs.length = n * k) : w.ownsRow B E k (.slice (some ⟨g, 0, none⟩) n cap) n xs := by
  refine ⟨hx, ?_⟩
  rcases h.2 with ⟨h', _⟩ | ⟨g', cap', cur, h', hb, hg, hnc, hcm, hcs, htake⟩
  · simp at h'
  · simp only [Value.slice.injEq, Option.some.injEq, Addr.mk.injEq, and_true, true_and] at h'
    obtain ⟨rfl, rfl⟩ := h'
    refine .inr ⟨g, cap, cur, rfl, hb, hg, by omega, hcm, hcs, ?_⟩
    have e : (cur.toList.take ((n + m) * k)).take (n * k) = xs := by rw [htake, ← hx]; exact List.take_left
    rw [List.take_take, Nat.min_eq_left (Nat.mul_le_mul_right k (by omega))] at e
    exact e

section
variable {P : Program} (w : World)
theorem run_app (base : Nat) (t ty e : TypeId) (i : TypeInfo) (z : Value) (size bytes : Nat) (ht : P.underlying t = some (.slice e)) (hi : P.info? e = some i) (hz : i.zero = some z)
    (hsize : i.size = size) (hby : i.bytes = bytes) (hzs : z.cells.size = size) (hsz : 0 < size)
    (v : Value) (n : Nat) (xs : List Value) (hown : w.ownsRow base e size v n xs)
    (a : Option Addr) (m c : Nat) (news : List Value) (hl : news.length = m * size) (hnews : Reads w a news) (h1 : ∀ u ∈ news, u.oneCell' = true)
    (h63 : n + m ≤ maxLen) (hbytes : (n + m) * bytes ≤ 140737488355328) (hbase : base ≤ w.heap.size) :
    ∃ v' w', (Builtin.append_ #[t, t] ty #[v, .slice a m c]).run P w = .ok v' w' ∧ w'.ownsRow base e size v' (n + m) (xs ++ news) ∧ w.grownBy w' v.ownBlock ∧ w'.ownsRow base e size v n xs ∧
      (v'.ownBlock = v.ownBlock ∨ v'.ownBlock = some w.heap.size) := by
  by_cases hm : m = 0
  · subst hm
    obtain rfl : news = [] := List.eq_nil_of_length_eq_zero (by rw [hl]; simp)
    refine ⟨v, w, ?_, by simpa using hown, ⟨rfl, rfl, rfl, Nat.le_refl _, fun _ _ _ => rfl⟩, hown, .inl rfl⟩
    rcases hown.2 with ⟨rfl, rfl⟩ | ⟨g, cap, cur, rfl, _, _, hnc, _⟩
    · cases a <;> simp [Builtin.append_, run_underlying ht, sizeOf, typeInfo, hi, Builtin.lenOf, Builtin.firstCells, loadCells, loadCellsFrom]
    · cases a <;> simp [Builtin.append_, run_underlying ht, sizeOf, typeInfo, hi, Builtin.lenOf, Builtin.firstCells, loadCells, loadCellsFrom, hnc, storeCells]
  · have hne : news ≠ [] := fun e => by
      rw [e] at hl
      have := Nat.mul_pos (by omega : 0 < m) hsz
      simp at hl
      omega
    obtain ⟨b, off, rfl, hc⟩ := hnews.resolve_left hne
    have hc' : ∀ j u, news[j]? = some u → w.cell? ((⟨b, off, none⟩ : Addr).add j) = some u := fun j u hj => by
      rw [Go.WideShapes.add_plain]; exact hc j u hj
    obtain ⟨v', w', hr, h2, h3, h4⟩ := run_append_own (P := P) w base t ty e i z size bytes ht hi hz hsize hby hzs hsz v n xs hown ⟨b, off, none⟩ m c news hl hc' h1 h63 hbytes hbase
    refine ⟨v', w', hr, h2, h3, ?_⟩
    rcases hown.2 with ⟨rfl, rfl⟩ | ⟨g, cap, cur, rfl, hbg, hg, hnc, hcm, hcs, htake⟩
    · obtain rfl : xs = [] := List.eq_nil_of_length_eq_zero (by rw [hown.1]; simp)
      refine ⟨World.ownsRow_nil _ _ _ _, ?_⟩
      have hr2 := run_append_nil (P := P) w t ty e i z ht hi hz ⟨b, off, none⟩ m c news (by rw [hsize]; exact hl) hc' (by omega) (by simp only [maxLen] at h63; omega) (by rw [hby]; have hb := hbytes; simp only [Nat.zero_add] at hb; omega)
      rw [hr] at hr2
      simp only [Result.ok.injEq] at hr2
      rw [hr2.1]
      exact .inr rfl
    · by_cases hroom : n + m ≤ cap
      · obtain ⟨w2, hr2, h5, h6⟩ := run_append_fits (P := P) w base t ty e i size ht hi hsize g n cap xs hown ⟨b, off, none⟩ m c news hl hc' h1 hroom
        rw [hr] at hr2
        simp only [Result.ok.injEq] at hr2
        obtain ⟨rfl, rfl⟩ := hr2
        exact ⟨own_prefix h5 hown.1, .inl rfl⟩
      · have hr2 := run_append_grow (P := P) w t ty e i z ht hi hz ⟨g, 0, none⟩ n cap xs (by rw [hsize]; exact hown.1) (hown.cells (g := g) rfl) ⟨b, off, none⟩ m c news (by rw [hsize]; exact hl) hc' (by omega) (by simp only [maxLen] at h63; omega) (by rw [hby]; exact growslice_fits (by omega) hbytes)
        rw [hr] at hr2
        simp only [Result.ok.injEq] at hr2
        rw [hr2.1, hr2.2]
        exact ⟨(show w.drew.ownsRow base e size (.slice (some ⟨g, 0, none⟩) n cap) n xs from hown).alloc _, .inr rfl⟩

theorem wp_app {o : Oper} {a : Act} {K : Act → World → Prop} {Q : Exit → Act → World → Prop} (s x : Operand) (t : TypeId)
    (ho : o.op = .call { callee := .builtin .append, args := #[s, x], argTypes := #[t, t] })
    (base : Nat) (e : TypeId) (i : TypeInfo) (z : Value) (size bytes : Nat) (ht : P.underlying t = some (.slice e)) (hi : P.info? e = some i) (hz : i.zero = some z)
    (hsize : i.size = size) (hby : i.bytes = bytes) (hzs : z.cells.size = size) (hsz : 0 < size)
    (v : Value) (n : Nat) (xs : List Value) (hs : a.eval s = v) (hown : w.ownsRow base e size v n xs)
    (ad : Option Addr) (m c : Nat) (news : List Value) (hx : a.eval x = .slice ad m c) (hl : news.length = m * size) (hnews : Reads w ad news) (h1 : ∀ u ∈ news, u.oneCell' = true)
    (h63 : n + m ≤ maxLen) (hbytes : (n + m) * bytes ≤ 140737488355328) (hbase : base ≤ w.heap.size)
    (h : ∀ v' w', w'.ownsRow base e size v' (n + m) (xs ++ news) → w.grownBy w' v.ownBlock → w'.ownsRow base e size v n xs → (v'.ownBlock = v.ownBlock ∨ v'.ownBlock = some w.heap.size) → K (a.put o.dst v') w') : o.wp P a w K Q := by
  obtain ⟨v', w', hr, h2, h3, h4, h5⟩ := run_app (P := P) w base t o.type e i z size bytes ht hi hz hsize hby hzs hsz v n xs hown ad m c news hl hnews h1 h63 hbytes hbase
  unfold Oper.wp execOp
  simp only [ho, resolve, invoke, builtin, Sem.run_bind, Sem.run_pure, Result.andThen_ok, List.map_toArray, List.map_cons, List.map_nil, hs, hx, hr]
  exact h v' w' h2 h3 h4 h5

theorem wpList_app {ops : Array Oper} {rest : List Oper} {o : Oper} {a : Act} {Q : Exit → Act → World → Prop} (hgd : o.guard = none) (s x : Operand) (t : TypeId)
    (ho : o.op = .call { callee := .builtin .append, args := #[s, x], argTypes := #[t, t] })
    (base : Nat) (e : TypeId) (i : TypeInfo) (z : Value) (size bytes : Nat) (ht : P.underlying t = some (.slice e)) (hi : P.info? e = some i) (hz : i.zero = some z)
    (hsize : i.size = size) (hby : i.bytes = bytes) (hzs : z.cells.size = size) (hsz : 0 < size)
    (v : Value) (n : Nat) (xs : List Value) (hs : a.eval s = v) (hown : w.ownsRow base e size v n xs)
    (ad : Option Addr) (m c : Nat) (news : List Value) (hx : a.eval x = .slice ad m c) (hl : news.length = m * size) (hnews : Reads w ad news) (h1 : ∀ u ∈ news, u.oneCell' = true)
    (h63 : n + m ≤ maxLen) (hbytes : (n + m) * bytes ≤ 140737488355328) (hbase : base ≤ w.heap.size)
    (h : ∀ v' w', w'.ownsRow base e size v' (n + m) (xs ++ news) → w.grownBy w' v.ownBlock → w'.ownsRow base e size v n xs → (v'.ownBlock = v.ownBlock ∨ v'.ownBlock = some w.heap.size) → wpList P ops Q rest (a.put o.dst v') w') : wpList P ops Q (o :: rest) a w :=
  wpList_plain hgd fun _ hK => wp_app w s x t ho base e i z size bytes ht hi hz hsize hby hzs hsz v n xs hs hown ad m c news hx hl hnews h1 h63 hbytes hbase fun v' w' h2 h3 h4 h5 => hK _ _ (h v' w' h2 h3 h4 h5)

/-- At a step of a region that draws its order. -/
theorem step_app {ops : Array Oper} {o : Oper} {a : Act} {K : Act → World → Prop} {Q : Exit → Act → World → Prop} {F : Prop} (hgd : o.guard = none) (s x : Operand) (t : TypeId)
    (ho : o.op = .call { callee := .builtin .append, args := #[s, x], argTypes := #[t, t] })
    (base : Nat) (e : TypeId) (i : TypeInfo) (z : Value) (size bytes : Nat) (ht : P.underlying t = some (.slice e)) (hi : P.info? e = some i) (hz : i.zero = some z)
    (hsize : i.size = size) (hby : i.bytes = bytes) (hzs : z.cells.size = size) (hsz : 0 < size)
    (v : Value) (n : Nat) (xs : List Value) (hs : a.eval s = v) (hown : w.ownsRow base e size v n xs)
    (ad : Option Addr) (m c : Nat) (news : List Value) (hx : a.eval x = .slice ad m c) (hl : news.length = m * size) (hnews : Reads w ad news) (h1 : ∀ u ∈ news, u.oneCell' = true)
    (h63 : n + m ≤ maxLen) (hbytes : (n + m) * bytes ≤ 140737488355328) (hbase : base ≤ w.heap.size)
    (h : ∀ v' w', w'.ownsRow base e size v' (n + m) (xs ++ news) → w.grownBy w' v.ownBlock → w'.ownsRow base e size v n xs → (v'.ownBlock = v.ownBlock ∨ v'.ownBlock = some w.heap.size) → K (a.put o.dst v') w') :
    if Region.wanted o (yielded ops a.tmps) = true then Oper.wp P o a w K Q else F := by
  have hw : Region.wanted o (yielded ops a.tmps) = true := by simp [Region.wanted, hgd]
  rw [if_pos hw]
  exact wp_app w s x t ho base e i z size bytes ht hi hz hsize hby hzs hsz v n xs hs hown ad m c news hx hl hnews h1 h63 hbytes hbase h
end
end Go.Proofs.YtcoooehcgbohgaaGreat

namespace Go.Proofs.YtcoooehcgbohgaaGreat
open Go

section
variable {P : Program} {ops : Array Oper} {Q : Exit → Act → World → Prop} {md : Region.Mode} {S : World → Prop} {D : List Nat}

/-- None of D has come up. -/
def fresh (D : List Nat) (l : Array Bool) : Bool := D.all fun d => !l.getD d false
/-- Whatever order is drawn; S holds as long as none of D has come up. -/
def wpLate (P : Program) (md : Region.Mode) (ops : Array Oper) (Q : Exit → Act → World → Prop) (S : World → Prop) (D : List Nat) : Nat → Array Bool → Act → World → Prop
  | 0, l, a, w => Region.ready md ops l = [] ∧ Q .normal a w
  | n + 1, l, a, w => (Region.ready md ops l = [] → Q .normal a w) ∧ ∀ i ∈ Region.ready md ops l, wpOp P ops Q i (fun b v => (fresh D (l.setIfInBounds i true) = true → S v) ∧ wpLate P md ops Q S D n (l.setIfInBounds i true) b v) a w

theorem late_any : ∀ (n : Nat) (l : Array Bool) (a : Act) (w : World), wpLate P md ops Q S D n l a w → wpAny P md ops Q n l a w := by
  intro n
  induction n with
  | zero => exact fun _ _ _ h => h
  | succ n ih => exact fun l a w h => ⟨h.1, fun i hi => wpOp_mono (fun b v g => ih _ b v g.2) (h.2 i hi)⟩

/-- All of D wait for i, which is none of them. -/
def waits (md : Region.Mode) (ops : Array Oper) (D : List Nat) (i : Nat) : Bool :=
  D.all fun d => d != i && (match ops[d]? with | some o => o.after.any fun e => Region.binds md e && e.on == i | none => false)
theorem waits_spec {i : Nat} (h : waits md ops D i = true) : ∀ d ∈ D, d ≠ i ∧ ∃ o, ops[d]? = some o ∧ ∃ e ∈ o.after, Region.binds md e = true ∧ e.on = i := by
  intro d hd
  have g := List.all_eq_true.1 h d hd
  rw [Bool.and_eq_true] at g
  refine ⟨by simpa using g.1, ?_⟩
  have g2 := g.2
  cases ho : ops[d]? with
  | none => simp [ho] at g2
  | some o =>
    simp only [ho] at g2
    obtain ⟨e, he, k⟩ := Array.any_eq_true'.1 g2
    rw [Bool.and_eq_true] at k
    exact ⟨o, rfl, e, he, k.1, by simpa using k.2⟩
theorem fresh_spec {l : Array Bool} : fresh D l = true ↔ ∀ d ∈ D, l.getD d false = false := by
  unfold fresh
  rw [List.all_eq_true]
  simp
theorem fresh_set {l : Array Bool} {j : Nat} (h : fresh D l = true) (hj : ∀ d ∈ D, d ≠ j) : fresh D (l.setIfInBounds j true) = true := by
  rw [fresh_spec] at *
  intro d hd
  rw [getD_set_ne false (Ne.symm (hj d hd))]
  exact h d hd

theorem late_take {i : Nat} {oi : Oper} {v : Value} {n : Nat} {l : Array Bool} {a : Act} {w : World} (hi : ops[i]? = some oi)
    (hs : Region.noSelect ops = true) (hf0 : Region.free md ops l i = true) (hr0 : (Region.ready md ops l).contains i = true) (hw : waits md ops D i = true) (hfr : fresh D l = true)
    (hQ : ∀ c a w, Q (.panic c) (a.put oi.dst v) w → Q (.panic c) a w) (hy : YieldsIf P ops S oi v a) (hS : S w)
    (h : wpLate P md ops Q S D n (l.setIfInBounds i true) (a.put oi.dst v) w) : wpLate P md ops Q S D (n + 1) l a w := by
  have hw := waits_spec hw
  have hf := fun j oj => Region.free_spec (ops := ops) (md := md) hi hf0 j oj
  have hr : i ∈ Region.ready md ops l := by simpa using hr0
  have sel := Region.noSelect_spec hs
  clear hs hf0 hr0
  revert l a w
  induction n with
  | zero =>
    intro l a w hfr hy hS h hf hr
    refine ⟨fun e => absurd hr (by rw [e]; exact List.not_mem_nil), fun j hj => ?_⟩
    rcases Decidable.em (j = i) with rfl | hji
    · exact hy.wpOp hi hS ⟨fun _ => hS, h⟩
    · exact absurd (ready_mono hj hji) (by rw [h.1]; exact List.not_mem_nil)
  | succ n ih =>
    intro l a w hfr hy hS h hf hr
    refine ⟨fun e => absurd hr (by rw [e]; exact List.not_mem_nil), fun j hj => ?_⟩
    rcases Decidable.em (j = i) with rfl | hji
    · exact hy.wpOp hi hS ⟨fun _ => hS, h⟩
    obtain ⟨hun, oj, hoj, hdone⟩ := mem_ready.1 hj
    have hlt : l.getD i false = false := by
      have := (mem_ready.1 hr).1
      rcases Nat.lt_or_ge i l.size with g | g
      · simp [g] at this ⊢; exact this
      · simp [Array.getElem?_eq_none g] at this
    have hno : ∀ e ∈ oj.after, Region.binds md e = true → e.on ≠ i := fun e he hb hon => by
      have := hdone e he hb
      rw [hon, hlt] at this
      cases this
    have hjd : ∀ d ∈ D, d ≠ j := fun d hd hdj => by
      obtain ⟨_, o, ho, e, he, hb, hon⟩ := hw d hd
      rw [hdj, hoj] at ho
      obtain rfl := Option.some.inj ho
      exact hno e he hb hon
    have hset : ∀ d ∈ D, d ≠ i := fun d hd => (hw d hd).1
    have f1 : fresh D (l.setIfInBounds j true) = true := fresh_set hfr hjd
    have f2 : fresh D ((l.setIfInBounds i true).setIfInBounds j true) = true := fresh_set (fresh_set hfr hset) hjd
    refine wpOp_mono (fun b u g => ⟨fun _ => g.2.1 f2, ih f1 g.1 (g.2.1 f2) ?_ ?_ (ready_mono hr (Ne.symm hji))⟩) (wpOp_putIf hoj (hf j oj hoj hji hun hno) (fun cs b => sel i oi cs b hi) (fun cs b => sel j oj cs b hoj) hQ hy (h.2 j (ready_mono hj hji)))
    · rw [Array.setIfInBounds_comm _ _ hji]
      exact g.2.2
    · intro m om hm hmi hmun hmno
      refine hf m om hm hmi ?_ hmno
      rcases Decidable.em (j = m) with rfl | hjm
      · exact hun
      · rw [getD_set_ne true hjm] at hmun; exact hmun

/-- What is handed to the walk for an operation that comes up: ahead of D's first (S is shown anew), or not. -/
def LateStep (P : Program) (md : Region.Mode) (ops : Array Oper) (Q : Exit → Act → World → Prop) (S : World → Prop) (D : List Nat) (n : Nat) (l : Array Bool) (a : Act) (w : World) (i : Nat) : Prop :=
  wpOp P ops Q i (fun b v => (fresh D (l.setIfInBounds i true) = true → S v) ∧ wpLate P md ops Q S D n (l.setIfInBounds i true) b v) a w
theorem late_run {i : Nat} {o : Oper} {n : Nat} {l : Array Bool} {a : Act} {w : World} (ho : ops[i]? = some o)
    (h : ∀ K : Act → World → Prop, Shut (∀ a w, S w → (S w → wpLate P md ops Q S D n (l.setIfInBounds i true) a w) → K a w) → if Region.wanted o (yielded ops a.tmps) = true then Oper.wp P o a w K Q else K (a.put o.dst undef) w) :
    LateStep P md ops Q S D n l a w i := wpOp_step ho fun K hK => h K fun a w hS hW => hK a w ⟨fun _ => hS, hW hS⟩
theorem late_write {i : Nat} {o : Oper} {n : Nat} {l : Array Bool} {a : Act} {w : World} (ho : ops[i]? = some o) (hl : fresh D (l.setIfInBounds i true) = false)
    (h : ∀ K : Act → World → Prop, Shut (∀ a w, wpLate P md ops Q S D n (l.setIfInBounds i true) a w → K a w) → if Region.wanted o (yielded ops a.tmps) = true then Oper.wp P o a w K Q else K (a.put o.dst undef) w) :
    LateStep P md ops Q S D n l a w i := wpOp_step ho fun K hK => h K fun a w hW => hK a w ⟨fun e => (by rw [hl] at e; cases e), hW⟩
theorem late_one {i : Nat} {n : Nat} {l : Array Bool} {a : Act} {w : World} (hr : Region.ready md ops l = [i]) (h : LateStep P md ops Q S D n l a w i) : wpLate P md ops Q S D (n + 1) l a w := by
  refine ⟨fun e => absurd (e.symm.trans hr) (by simp), fun j hj => ?_⟩
  rw [hr] at hj
  obtain rfl := List.mem_singleton.1 hj
  exact h
theorem late_two {i k : Nat} {n : Nat} {l : Array Bool} {a : Act} {w : World} (hr : Region.ready md ops l = [i, k]) (h : LateStep P md ops Q S D n l a w i) (g : LateStep P md ops Q S D n l a w k) : wpLate P md ops Q S D (n + 1) l a w := by
  refine ⟨fun e => absurd (e.symm.trans hr) (by simp), fun j hj => ?_⟩
  rw [hr] at hj
  rcases List.mem_cons.1 hj with rfl | hj
  · exact h
  · obtain rfl := List.mem_singleton.1 hj
    exact g
theorem late_done {l : Array Bool} {a : Act} {w : World} (hr : Region.ready md ops l = []) (h : Q .normal a w) : ∀ n, wpLate P md ops Q S D n l a w
  | 0 => ⟨hr, h⟩
  | _ + 1 => ⟨fun _ => h, fun i hi => by rw [hr] at hi; cases hi⟩
theorem late_region {id : Nat} {a : Act} {w : World} (D : List Nat) (hm : P.follows .mixedOrders = true) (hS : S w.drew)
    (h : S w.drew → wpLate P .any ops Q S D ops.size (Array.replicate ops.size false) a w.drew) : (Code.region id ops true).wp P Q a w :=
  wp_region_any hm (late_any _ _ _ _ (h hS))
end
end Go.Proofs.YtcoooehcgbohgaaGreat

namespace Go.Proofs.YtcoooehcgbohgaaGreat
open Go.RowKit

theorem none_any (x y u v : Int) (w : World) :
    Calls Tryz.prog 103 #[.agg #[.int .i64 x, .int .i64 y], .agg #[.int .i64 u, .int .i64 v]] w fun e w' => e = .returned (.bool (noneB x y u v)) ∧ Grew w w' := by
  have G : Hid (Grew w ((w.alloc (.cells #[.int .i64 x, .int .i64 y] 26)).alloc (.cells #[.int .i64 u, .int .i64 v] 26))) := ((Grew.refl w).alloc _ _).alloc _ _
  go_enter Tryz.func103, Tryz.ntmps103
  go_wp2
  all_goals
    go_ret
    exact ⟨ret_bool (by unfold noneB; rw [Bool.eq_iff_iff]; simp at *; omega), G.out⟩

theorem meet_any (a b : Bx) (w : World) :
    Calls Tryz.prog 81 #[a.val, b.val] w fun e w' => e = .returned (.bool (meetB a b)) ∧ Grew w w' := by
  have G : Hid (Grew w ((w.alloc (.cells #[.int .i64 a.l, .int .i64 a.m, .int .i64 a.h, .int .i64 a.k] 57)).alloc (.cells #[.int .i64 b.l, .int .i64 b.m, .int .i64 b.h, .int .i64 b.k] 57))) := ((Grew.refl w).alloc _ _).alloc _ _
  have c1 : Hid (∀ W, Calls Tryz.prog 103 #[.agg #[.int .i64 a.l, .int .i64 a.m], .agg #[.int .i64 b.h, .int .i64 b.k]] W fun e w' => e = .returned (.bool (noneB a.l a.m b.h b.k)) ∧ Grew W w') := fun W => none_any _ _ _ _ W
  have c2 : Hid (∀ W, Calls Tryz.prog 103 #[.agg #[.int .i64 b.l, .int .i64 b.m], .agg #[.int .i64 a.h, .int .i64 a.k]] W fun e w' => e = .returned (.bool (noneB b.l b.m a.h a.k)) ∧ Grew W w') := fun W => none_any _ _ _ _ W
  unfold meetB Bx.val
  generalize noneB a.l a.m b.h b.k = r at *
  generalize noneB b.l b.m a.h a.k = t at *
  cases r
  · clear c2
    go_enter Tryz.func81, Tryz.ntmps81
    go_wp2_with (first
      | (go_at_call 103; go_fit (c1.out _); rintro e V ⟨rfl, U⟩))
    go_ret
    exact ⟨rfl, G.out.trans U⟩
  · go_enter Tryz.func81, Tryz.ntmps81
    go_wp2_with (first
      | (go_at_call 103; go_fit (c1.out _); rintro e V ⟨rfl, U⟩; have m2 := U.cell (p := ⟨w.heap.size, 2, none⟩) (v := .int .i64 a.h) (by simp [go_sem]); have m3 := U.cell (p := ⟨w.heap.size, 3, none⟩) (v := .int .i64 a.k) (by simp [go_sem]); have m0 := U.cell (p := ⟨w.heap.size + 1, 0, none⟩) (v := .int .i64 b.l) (by simp [go_sem]); have m1 := U.cell (p := ⟨w.heap.size + 1, 1, none⟩) (v := .int .i64 b.m) (by simp [go_sem]))
      | (go_at_call 103; go_fit (c2.out _); rintro e V2 ⟨rfl, U2⟩))
    go_ret
    exact ⟨rfl, (G.out.trans U).trans U2⟩

end Go.Proofs.YtcoooehcgbohgaaGreat

namespace Go.Proofs.YtcoooehcgbohgaaGreat
open Go.RowKit

theorem nearest_any (a l h : Int) (w : World) :
    Calls Tryz.prog 128 #[.int .i64 a, .int .i64 l, .int .i64 h] w fun e w' => e = .returned (.int .i64 (nearI a l h)) ∧ w' = w := by
  by_cases g : a < l
  · rw [near_low g]
    go_enter Tryz.func128, Tryz.ntmps128
    go_wp2
    go_ret
    exact ⟨rfl, rfl⟩
  · by_cases g2 : h < a
    · rw [near_high g g2]
      go_enter Tryz.func128, Tryz.ntmps128
      go_wp2
      go_ret
      exact ⟨rfl, rfl⟩
    · rw [near_self g g2]
      go_enter Tryz.func128, Tryz.ntmps128
      go_wp2
      go_ret
      exact ⟨rfl, rfl⟩

theorem reach_any (B : Bd) (w : World) :
    Calls Tryz.prog 106 #[B.val] w fun e w' => e = .returned (.agg #[.int .i64 B.a, .int .i64 (reachY B)]) ∧ Grew w w' := by
  have G : Hid (∀ c, Grew w ((w.alloc (.cells #[.int .i64 B.s, .int .i64 B.a, .int .i64 B.b, .int .i64 B.m, .int .i64 B.p, .int .i64 B.q, .int .i64 B.u, .int .i64 B.v] 28)).alloc (.cells c 26))) := fun c => ((Grew.refl w).alloc _ _).alloc _ _
  unfold Bd.val
  by_cases h : B.s = 1
  · rw [reach_ball h]
    have hz : (B.s == 1) = true := by simpa using h
    clear h
    go_enter Tryz.func106, Tryz.ntmps106
    go_wp2
    simp [bodyPost, results, Tryz.results106, go_sem]
    exact G.out _
  · rw [reach_else h]
    have hz : (B.s == 1) = false := by simpa using h
    clear h
    go_enter Tryz.func106, Tryz.ntmps106
    go_wp2
    simp [bodyPost, results, Tryz.results106, go_sem]
    exact G.out _

set_option maxHeartbeats 2000000 in
theorem clamp_any (x y : Int) (b : Bx) (w : World) :
    Calls Tryz.prog 110 #[.agg #[.int .i64 x, .int .i64 y], b.val] w fun e w' => e = .returned (.agg #[.int .i64 (nearI x b.l b.h), .int .i64 (nearI y b.m b.k)]) ∧ Grew w w' := by
  have G : Hid (∀ c, Grew w (((w.alloc (.cells #[.int .i64 x, .int .i64 y] 26)).alloc (.cells #[.int .i64 b.l, .int .i64 b.m, .int .i64 b.h, .int .i64 b.k] 57)).alloc (.cells c 26))) := fun c => (((Grew.refl w).alloc _ _).alloc _ _).alloc _ _
  have c1 : Hid (∀ W, Calls Tryz.prog 128 #[.int .i64 x, .int .i64 b.l, .int .i64 b.h] W fun e w' => e = .returned (.int .i64 (nearI x b.l b.h)) ∧ w' = W) := fun W => nearest_any _ _ _ W
  have c2 : Hid (∀ W, Calls Tryz.prog 128 #[.int .i64 y, .int .i64 b.m, .int .i64 b.k] W fun e w' => e = .returned (.int .i64 (nearI y b.m b.k)) ∧ w' = W) := fun W => nearest_any _ _ _ W
  unfold Bx.val
  generalize nearI x b.l b.h = r at *
  generalize nearI y b.m b.k = s at *
  go_enter Tryz.func110, Tryz.ntmps110
  go_wp2_with (fail)
  go_region_held2 (fun w' => w'.cell? ⟨w.heap.size, 0, none⟩ = some (.int .i64 x) ∧ w'.cell? ⟨w.heap.size, 1, none⟩ = some (.int .i64 y) ∧ w'.cell? ⟨w.heap.size + 1, 0, none⟩ = some (.int .i64 b.l) ∧ w'.cell? ⟨w.heap.size + 1, 1, none⟩ = some (.int .i64 b.m) ∧ w'.cell? ⟨w.heap.size + 1, 2, none⟩ = some (.int .i64 b.h) ∧ w'.cell? ⟨w.heap.size + 1, 3, none⟩ = some (.int .i64 b.k)) (go_keep)
    (first
      | (go_at_call 128; go_fit (c1.out _); rintro e w' ⟨rfl, rfl⟩)
      | (go_at_call 128; go_fit (c2.out _); rintro e w' ⟨rfl, rfl⟩))
  go_wp2
  simp [bodyPost, results, Tryz.results110, go_sem]
  exact (G.out _).drew
end Go.Proofs.YtcoooehcgbohgaaGreat

namespace Go.Proofs.YtcoooehcgbohgaaGreat
open Go.RowKit

def balB : Bd := ⟨1, 4294967296, 0, 8589934592, 0, 0, 17179869184, 0⟩
theorem balB_speed : speedR balB = (8589934592, 0, 0) := by decide +kernel
theorem balB_light : lightR balB = (2147483648, 0) := by decide +kernel
theorem balB_right : rightB balB = true := by decide +kernel
theorem bal0_right : rightB ⟨0, 0, 0, 0, 0, 0, 0, 0⟩ = false := by decide +kernel
theorem balB_ok : balB.ok := by constructor <;> exact ⟨by decide, by decide⟩

/-- A body that lies in memory. -/
structure BAt (w : World) (b : Nat) (B : Bd) : Prop where
  c0 : w.cell? ⟨b, 0, none⟩ = some (.int .i64 B.s)
  c1 : w.cell? ⟨b, 1, none⟩ = some (.int .i64 B.a)
  c2 : w.cell? ⟨b, 2, none⟩ = some (.int .i64 B.b)
  c3 : w.cell? ⟨b, 3, none⟩ = some (.int .i64 B.m)
  c4 : w.cell? ⟨b, 4, none⟩ = some (.int .i64 B.p)
  c5 : w.cell? ⟨b, 5, none⟩ = some (.int .i64 B.q)
  c6 : w.cell? ⟨b, 6, none⟩ = some (.int .i64 B.u)
  c7 : w.cell? ⟨b, 7, none⟩ = some (.int .i64 B.v)
theorem BAt.heap {w W : World} {b : Nat} {B : Bd} (h : BAt w b B) (g : W.heap[b]? = w.heap[b]?) : BAt W b B := by
  have k : ∀ o s, W.cell? ⟨b, o, s⟩ = w.cell? ⟨b, o, s⟩ := fun o s => cell_of_heap g
  exact ⟨(k _ _).trans h.c0, (k _ _).trans h.c1, (k _ _).trans h.c2, (k _ _).trans h.c3, (k _ _).trans h.c4, (k _ _).trans h.c5, (k _ _).trans h.c6, (k _ _).trans h.c7⟩
theorem BAt.size {w : World} {b : Nat} {B : Bd} (h : BAt w b B) : b < w.heap.size := cell_block h.c0
theorem BAt.grew {w W : World} {b : Nat} {B : Bd} (h : BAt w b B) (g : Grew w W) : BAt W b B := h.heap (g.heap h.size)
theorem BAt.wrote {S : Nat → Prop} {w W : World} {b : Nat} {B : Bd} (h : BAt w b B) (g : Wrote S w W) (hb : ¬ S b) : BAt W b B := h.heap (g.block b h.size hb)

theorem bat_m {w : World} {b : Nat} {B : Bd} (h : BAt w b B) (m : Int) : BAt (w.setCell ⟨b, 3, none⟩ (.int .i64 m)) b ⟨B.s, B.a, B.b, m, B.p, B.q, B.u, B.v⟩ := by
  obtain ⟨c0, c1, c2, c3, c4, c5, c6, c7⟩ := h
  constructor <;> simp [go_sem, *]
theorem Free.set {w : World} {b : Nat} (h : Free w b) (a : Addr) (v : Value) : Free (w.setCell a v) b := fun o s => by rw [World.frozen?_setCell]; exact h o s
theorem Free.set2 {w : World} {b : Nat} (h : Free w b) (c : Nat) (u v : Value) : Free ((w.setCell ⟨c, 0, none⟩ u).setCell ⟨c, 1, none⟩ v) b := (h.set _ _).set _ _
theorem Grew.cells {w W : World} (h : Grew w W) {b : Nat} (hb : b < w.heap.size) : ∀ o, W.cell? ⟨b, o, none⟩ = w.cell? ⟨b, o, none⟩ := fun _ => cell_of_heap (h.heap hb)
theorem Grew.marks {w W : World} (h : Grew w W) (b : Nat) : ∀ o, W.frozen? ⟨b, o, none⟩ = w.frozen? ⟨b, o, none⟩ := fun _ => h.grown.2.1 _
theorem set_far {a c : Nat} (h : c ≠ a) (V : World) (o o' : Nat) (v : Value) : (V.setCell ⟨a, o, none⟩ v).cell? ⟨c, o', none⟩ = V.cell? ⟨c, o', none⟩ := by
  refine cell_of_heap ?_
  simp only [World.setCell, Array.getElem?_modify]
  rw [if_neg (fun e => h e.symm)]
end Go.Proofs.YtcoooehcgbohgaaGreat

namespace Go.Proofs.YtcoooehcgbohgaaGreat
open Go.RowKit

set_option maxHeartbeats 2000000 in
theorem of_box (B : Bd) (hB : B.ok) (w : World) :
    Calls Tryz.prog 84 #[B.val] w fun e w' => e = outX (boxR B) ∧ Grew w w' := by
  have c0 : Hid (∀ W, Calls Tryz.prog 106 #[.agg #[.int .i64 B.s, .int .i64 B.a, .int .i64 B.b, .int .i64 B.m, .int .i64 B.p, .int .i64 B.q, .int .i64 B.u, .int .i64 B.v]] W fun e w' => e = .returned (.agg #[.int .i64 B.a, .int .i64 (reachY B)]) ∧ Grew W w') := fun W => reach_any B W
  have c1 := fun W => waysV_of (vsub_any B.p B.q B.a (reachY B) W hB.p hB.q hB.a (reach_in hB))
  have c2 := fun W => waysV_of (vadd_any B.p B.q B.a (reachY B) W hB.p hB.q hB.a (reach_in hB))
  unfold boxR
  generalize two (subR B.p B.a) (subR B.q (reachY B)) = s at *
  generalize two (addR B.p B.a) (addR B.q (reachY B)) = t at *
  generalize reachY B = r at *
  unfold vec at c1 c2
  have C1 : Hid _ := c1
  have C2 : Hid _ := c2
  clear c1 c2 hB
  unfold Bd.val
  have G0 : Hid (∀ c, Grew w ((w.alloc (.cells #[.int .i64 B.s, .int .i64 B.a, .int .i64 B.b, .int .i64 B.m, .int .i64 B.p, .int .i64 B.q, .int .i64 B.u, .int .i64 B.v] 28)).alloc (.cells c 57))) := fun c => ((Grew.refl w).alloc _ _).alloc _ _
  go_enter Tryz.func84, Tryz.ntmps84
  go_wp2_with (first
    | (go_at_call 106; go_fit (c0.out _); rintro e V ⟨rfl, U⟩))
  have sz := U.size
  simp at sz
  obtain ⟨M, hM⟩ : ∃ M, M = V.alloc (.cells #[.int .i64 B.a, .int .i64 r] 26) := ⟨_, rfl⟩
  rw [← hM]
  have UM := U.alloc #[.int .i64 B.a, .int .i64 r] 26
  rw [← hM] at UM
  have GM : Hid (Grew w M) := (G0.out _).trans UM
  have m4 := UM.cell (p := ⟨w.heap.size, 4, none⟩) (v := .int .i64 B.p) (by simp [go_sem])
  have m5 := UM.cell (p := ⟨w.heap.size, 5, none⟩) (v := .int .i64 B.q) (by simp [go_sem])
  have n0 := UM.cell (p := ⟨w.heap.size + 1, 0, none⟩) (v := .int .i64 0) (by simp [go_sem])
  have n1 := UM.cell (p := ⟨w.heap.size + 1, 1, none⟩) (v := .int .i64 0) (by simp [go_sem])
  have n2 := UM.cell (p := ⟨w.heap.size + 1, 2, none⟩) (v := .int .i64 0) (by simp [go_sem])
  have n3 := UM.cell (p := ⟨w.heap.size + 1, 3, none⟩) (v := .int .i64 0) (by simp [go_sem])
  have r0 : M.cell? ⟨V.heap.size, 0, none⟩ = some (.int .i64 B.a) := by rw [hM]; simp [go_sem]
  have r1 : M.cell? ⟨V.heap.size, 1, none⟩ = some (.int .i64 r) := by rw [hM]; simp [go_sem]
  have hs : M.heap.size = V.heap.size + 1 := by rw [hM]; simp [go_sem]
  have z0 : Free M (w.heap.size + 1) := GM.out.freeB (by omega)
  clear U UM G0 c0 hM
  have fV := set_far (show V.heap.size ≠ w.heap.size + 1 by omega)
  go_region_held2 (fun w' => w'.cell? ⟨w.heap.size, 4, none⟩ = some (.int .i64 B.p) ∧ w'.cell? ⟨w.heap.size, 5, none⟩ = some (.int .i64 B.q) ∧ w'.cell? ⟨V.heap.size, 0, none⟩ = some (.int .i64 B.a) ∧ w'.cell? ⟨V.heap.size, 1, none⟩ = some (.int .i64 r)) (go_keep)
    (first
      | (go_at_call 74; go_fit (C1.out _); rintro e V1 ⟨(⟨rfl, h1⟩ | ⟨rfl, h1⟩), U1⟩; rotate_left; (exact post_panic (P := Tryz.prog) (fn := Tryz.f84) (R := fun e w' => e = outX (pairX s t) ∧ Grew w w') rfl ⟨(outX_no1 h1.out).symm, GM.out.drew.trans U1⟩); have s1 := U1.size; (try (simp at s1)); have k1 := U1.cells (b := w.heap.size) (by first | omega | (simp; omega)); have k2 := U1.cells (b := V.heap.size) (by first | omega | (simp; omega)))
      | (go_at_call 29; go_fit (C2.out _); rintro e V2 ⟨(⟨rfl, h2⟩ | ⟨rfl, h2⟩), U2⟩; rotate_left; (exact post_panic (P := Tryz.prog) (fn := Tryz.f84) (R := fun e w' => e = outX (pairX s t) ∧ Grew w w') rfl ⟨(outX_no2 h1.out h2.out).symm, (GM.out.drew.trans U1).trans U2⟩); have k3 := U2.cells (b := w.heap.size) (by first | omega | (simp; omega)); have k4 := U2.cells (b := V.heap.size) (by first | omega | (simp; omega)); have GV : Grew M V2 := ((Grew.refl M).drew.trans U1).trans U2; have l0 := GV.cell n0; have l1 := GV.cell n1; have l2 := GV.cell n2; have l3 := GV.cell n3; have i0 := z0.grew GV 0 none; have i1 := z0.grew GV 1 none; have i2 := z0.grew GV 2 none; have i3 := z0.grew GV 3 none))
  go_wp2
  rw [outX_ok h1.out h2.out]
  simp [bodyPost, results, Tryz.results84, go_sem, l0, l1, l2, l3]
  exact ((((GM.out.trans GV).setCell (by simp) _).setCell (by simp) _).setCell (by simp) _).setCell (by simp) _
end Go.Proofs.YtcoooehcgbohgaaGreat

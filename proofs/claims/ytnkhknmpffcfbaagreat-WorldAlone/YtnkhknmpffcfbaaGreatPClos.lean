/-
  The two functions that package prune sorts by: of two pairs, of two places among boxes in memory.
-/
import Derived.Test.YtnkhknmpffcfbaaGreatPCmp
import Derived.Deep.RegionHeld2
namespace Go.Proofs.YtnkhknmpffcfbaaGreat
open Go.RowKit

set_option maxHeartbeats 1000000 in
theorem byp_any (a b c d : Int) (w : World) :
    Calls Tryz.prog 91 #[.agg #[.int .i64 a, .int .i64 b], .agg #[.int .i64 c, .int .i64 d]] w fun e w' => e = .returned (.int .i64 (orI (cmpI a c) (cmpI b d))) ∧ Ext w w' := by
  have G : Hid (∀ c1, Ext w ((((w.alloc (.cells #[.int .i64 a, .int .i64 b] 111)).alloc (.cells #[.int .i64 c, .int .i64 d] 111)).drew).alloc (.cells c1 3))) := fun c1 => (((Ext.refl w).alloc _).alloc _).drew.alloc _
  have k1 : Hid (∀ W, Calls Tryz.prog 109 #[.int .i64 a, .int .i64 c] W fun e w' => e = .returned (.int .i64 (cmpI a c)) ∧ w' = W) := fun W => cmpint_any _ _ W
  have k2 : Hid (∀ W, Calls Tryz.prog 109 #[.int .i64 b, .int .i64 d] W fun e w' => e = .returned (.int .i64 (cmpI b d)) ∧ w' = W) := fun W => cmpint_any _ _ W
  generalize cmpI a c = r at *
  generalize cmpI b d = t at *
  go_enter Tryz.func91, Tryz.ntmps91
  go_wp2_with (fail)
  go_region_held2 (fun w' => w'.cell? ⟨w.heap.size, 0, none⟩ = some (.int .i64 a) ∧ w'.cell? ⟨w.heap.size, 1, none⟩ = some (.int .i64 b) ∧ w'.cell? ⟨w.heap.size + 1, 0, none⟩ = some (.int .i64 c) ∧ w'.cell? ⟨w.heap.size + 1, 1, none⟩ = some (.int .i64 d)) (go_keep)
    (first
      | (go_at_call 109; go_fit (k1.out _); rintro e w' ⟨rfl, rfl⟩)
      | (go_at_call 109; go_fit (k2.out _); rintro e w' ⟨rfl, rfl⟩)
      | (go_at_call 107; refine (or_any _ r t _ _ (by simp [go_sem]) (by simp [go_sem])).mono ?_; rintro e w' ⟨rfl, rfl⟩))
  go_wp2
  go_ret
  exact ⟨rfl, (((Ext.refl w).alloc _).alloc _).alloc _ |>.drew⟩

set_option maxHeartbeats 1000000 in
theorem clo_any (p : Addr) (b off n cap : Nat) (i j : Nat) (x y : Int) (w : World) (hp : w.cell? p = some (.slice (some ⟨b, off, none⟩) n cap)) (hi : i < n) (hj : j < n)
    (hx : w.cell? ⟨b, off + i * 4, none⟩ = some (.int .i64 x)) (hy : w.cell? ⟨b, off + j * 4, none⟩ = some (.int .i64 y)) :
    Calls Tryz.prog 106 #[.int .i64 i, .int .i64 j, .pointer (some p)] w fun e w' => e = .returned (.int .i64 (orI (cmpI x y) (cmpI i j))) ∧ Ext w w' := by
  have k1 : Hid (∀ W, Calls Tryz.prog 108 #[.int .i64 x, .int .i64 y] W fun e w' => e = .returned (.int .i64 (cmpI x y)) ∧ w' = W) := fun W => cmpfix_any _ _ W
  have k2 : Hid (∀ W, Calls Tryz.prog 109 #[.int .i64 i, .int .i64 j] W fun e w' => e = .returned (.int .i64 (cmpI i j)) ∧ w' = W) := fun W => cmpint_any _ _ W
  generalize cmpI x y = r at *
  generalize cmpI i j = t at *
  have hi' : (i : Int) < (n : Int) := by omega
  have hj' : (j : Int) < (n : Int) := by omega
  go_enter Tryz.func106, Tryz.ntmps106
  go_wp2_with (fail)
  go_region_held2 (fun w' => w'.cell? p = some (.slice (some ⟨b, off, none⟩) n cap) ∧ w'.cell? ⟨b, off + i * 4, none⟩ = some (.int .i64 x) ∧ w'.cell? ⟨b, off + j * 4, none⟩ = some (.int .i64 y)) (go_keep)
    (first
      | (go_at_call 108; go_fit (k1.out _); rintro e w' ⟨rfl, rfl⟩)
      | (go_at_call 109; go_fit (k2.out _); rintro e w' ⟨rfl, rfl⟩)
      | (go_at_call 107; refine (or_any _ r t _ _ (by simp [go_sem]) (by simp [go_sem])).mono ?_; rintro e w' ⟨rfl, rfl⟩))
  go_wp2
  go_ret
  exact ⟨rfl, ((Ext.refl w).alloc _).drew⟩
end Go.Proofs.YtnkhknmpffcfbaaGreat

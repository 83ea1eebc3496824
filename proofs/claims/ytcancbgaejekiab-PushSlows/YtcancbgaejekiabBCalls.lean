/-
  What package shape's calls do: what the plain functions say, or a panic of a Fault; more blocks are in memory, and nothing else.
-/
import Derived.Test.YtcancbgaejekiabBNum
import Derived.Test.YtcancbgaejekiabVCalls
import Derived.Test.YtcancbgaejekiabVAlive
import Derived.Deep.QuietTactic
import Derived.BigQuiet
namespace Go.Proofs.Ytcancbgaejekiab
open Go.RowKit


theorem sizeB_1 (a b : Int) : sizeB 1 a b = (sideB a && decide (b = 0)) := rfl
theorem sizeB_2 (a b : Int) : sizeB 2 a b = (sideB a && sideB b) := rfl
theorem sizeB_no {s : Int} (h1 : ¬ s = 1) (h2 : ¬ s = 2) (a b : Int) : sizeB s a b = false := by unfold sizeB; rw [if_neg h1, if_neg h2]
theorem momB_0 (u v : Int) : momB u v 0 = decide (u = 0 ∧ v = 0) := rfl
theorem momB_m {m : Int} (h : ¬ m = 0) (u v : Int) : momB u v m = withinB u v 4294967296000000 := by unfold momB; rw [if_neg h]
theorem speedR_0 {B : Bd} (h : B.m = 0) : speedR B = (0, 0, 0) := if_pos h
theorem speedR_m {B : Bd} (h : ¬ B.m = 0) : speedR B = two (divR B.u B.m) (divR B.v B.m) := if_neg h
theorem lightR_0 {B : Bd} (h : B.m = 0) : lightR B = (0, 0) := if_pos h
theorem lightR_m {B : Bd} (h : ¬ B.m = 0) : lightR B = divR 4294967296 B.m := if_neg h
theorem outV_ways (t : Int × Int × Int) : (outV t = .returned (vec t.1 t.2.1) ∧ t.2.2 = 0) ∨ (outV t = .panicked [fault t.2.2] ∧ ¬ t.2.2 = 0) := by
  by_cases h : t.2.2 = 0
  · exact .inl ⟨if_pos h, h⟩
  · exact .inr ⟨if_neg h, h⟩
theorem waysV_of {P : Program} {f : Nat} {args : Array Value} {w : World} {t : Int × Int × Int} {A : World → Prop} (h : Calls P f args w fun e w' => e = outV t ∧ A w') :
    Calls P f args w fun e w' => ((e = .returned (vec t.1 t.2.1) ∧ Hid (t.2.2 = 0)) ∨ (e = .panicked [fault t.2.2] ∧ Hid (¬ t.2.2 = 0))) ∧ A w' := by
  refine h.mono ?_
  rintro e w' ⟨rfl, hA⟩
  rcases outV_ways t with ⟨h1, h2⟩ | ⟨h1, h2⟩
  · exact ⟨.inl ⟨h1, h2⟩, hA⟩
  · exact ⟨.inr ⟨h1, h2⟩, hA⟩

set_option maxHeartbeats 400000 in
theorem shape_speed (B : Bd) (hB : B.ok) (w : World) :
    Calls Try.prog 23 #[B.val] w fun e w' => e = outV (speedR B) ∧ Grew w w' := by
  have G : Hid (∀ c, Grew w ((w.alloc (.cells #[.int .i64 B.s, .int .i64 B.a, .int .i64 B.b, .int .i64 B.m, .int .i64 B.p, .int .i64 B.q, .int .i64 B.u, .int .i64 B.v] 27)).alloc (.cells c 25))) := fun c => ((Grew.refl w).alloc _ _).alloc _ _
  by_cases hm : B.m = 0
  · rw [speedR_0 hm]
    unfold Bd.val
    rw [hm]
    obtain ⟨s, a, b, m, p, q, u, v⟩ := B
    change m = 0 at hm
    subst hm
    go_enter Try.func23, Try.ntmps23
    go_wp2
    simp [bodyPost, results, Try.results23, go_sem, outV, vec]
    exact G.out _
  · rw [speedR_m hm]
    have hz : (B.m == 0) = false := by simpa using hm
    have c1 := fun W => waysV_of (vover_any B.u B.v B.m W hB.u hB.v hB.m)
    generalize two (divR B.u B.m) (divR B.v B.m) = t at *
    unfold Bd.val
    unfold vec at c1
    have C1 : Hid _ := c1
    clear c1
    go_enter Try.func23, Try.ntmps23
    go_wp2_with (first
      | (go_at_call 29; go_fit (C1.out _); rintro e w' ⟨(⟨rfl, h1⟩ | ⟨rfl, h1⟩), U⟩; have t0 := U.cell (p := ⟨w.heap.size + 1, 0, none⟩) (v := .int .i64 0) (by simp [go_sem]); have t1 := U.cell (p := ⟨w.heap.size + 1, 1, none⟩) (v := .int .i64 0) (by simp [go_sem]); have y0 := U.frozen (p := ⟨w.heap.size + 1, 0, none⟩) (by simp [go_sem]); have y1 := U.frozen (p := ⟨w.heap.size + 1, 1, none⟩) (by simp [go_sem])))
    · simp [bodyPost, results, Try.results23, go_sem, outV, vec, t0, t1, h1.out]
      exact (((G.out _).trans U).setCell (by simp) _).setCell (by simp) _
    · exact ⟨rfl, (if_neg h1.out).symm, (G.out _).trans U⟩

set_option maxHeartbeats 400000 in
theorem shape_light (B : Bd) (hB : B.ok) (w : World) :
    Calls Try.prog 20 #[B.val] w fun e w' => e = outR (lightR B) ∧ Grew w w' := by
  have G : Hid (Grew w (w.alloc (.cells #[.int .i64 B.s, .int .i64 B.a, .int .i64 B.b, .int .i64 B.m, .int .i64 B.p, .int .i64 B.q, .int .i64 B.u, .int .i64 B.v] 27))) := (Grew.refl w).alloc _ _
  by_cases hm : B.m = 0
  · rw [lightR_0 hm]
    unfold Bd.val
    rw [hm] at G ⊢
    clear hm
    go_enter Try.func20, Try.ntmps20
    go_wp2
    go_ret
    exact ⟨rfl, G.out⟩
  · rw [lightR_m hm]
    have hz : (B.m == 0) = false := by simpa using hm
    have C1 : Hid (∀ W, _) := fun W => ways_of (cdiv_any 4294967296 B.m W ⟨by decide, by decide⟩ hB.m)
    generalize divR 4294967296 B.m = t at *
    unfold Bd.val
    go_enter Try.func20, Try.ntmps20
    go_wp2_with (first
      | (go_at_call 14; go_fit (C1.out _); rintro e w' ⟨(⟨rfl, h1⟩ | ⟨rfl, h1⟩), n, rfl⟩))
    · go_ret
      exact ⟨(if_pos h1.out).symm, G.out.drewN _⟩
    · exact ⟨rfl, (if_neg h1.out).symm, G.out.drewN _⟩
end Go.Proofs.Ytcancbgaejekiab

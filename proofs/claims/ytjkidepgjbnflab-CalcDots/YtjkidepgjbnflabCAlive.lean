/-
  The statements' own first look ('alive' of stage 3's laws): it returns true; what was there stays.
-/
import Derived.Test.YtjkidepgjbnflabCSum
import Derived.RegionTactic
import Derived.Laws.EntriesVeiled
import Derived.Deep.RegionWith
namespace Go.Proofs.Ytjkidepgjbnflab
open Go.RowKit

/-- Try of what leaves all that was there. -/
theorem try_grow (F : Nat) (cap : Array Value) (w : World) (x : Int) (e0 : Ending) (hF : ∀ w, (callFunc F cap).run Try.prog w = .ok (.enter F cap) w)
    (he : e0 = .returned (.tuple #[]) ∧ x = 0 ∨ e0 = .panicked [fault x]) (h : ∀ W, Grew w W → Calls Try.prog F cap W fun e w1 => e = e0 ∧ Grew W w1) :
    Calls Try.prog 8 #[.func (.func F) #[] cap] w fun e w' => e = .returned (.int .i64 x) ∧ Grew w w' := by
  refine try_wp F cap w _ hF ?_
  have G := (Grew.refl w).alloc #[.int .i64 0] 25
  refine (h _ G).mono ?_
  rintro e w1 ⟨rfl, G1⟩
  refine ⟨G1.cell (by simp), (G.trans G1).free (by simp), x, he, fun W hP => ⟨rfl, hP.grew w (by simp) (G.trans G1)⟩⟩

theorem al_add : addR 4294967296 4294967296 = (8589934592, 0) := by decide +kernel
theorem al_div : divR 4294967296 0 = (0, 4) := by decide +kernel
theorem al_sum : sumR 0 [1, 2, 3] = (6, 0) := by decide +kernel

theorem al1_any (x : Addr) (u : Int) (w : World) (hc : w.cell? x = some (.int .i64 u)) (hz : w.frozen? x = false) :
    Calls Try.prog 12 #[.pointer (some x)] w fun e w' => e = .returned (.tuple #[]) ∧ w' = w.setCell x (.int .i64 8589934592) := by
  go_enter Try.func12, Try.ntmps12
  go_wp2_with (first
    | (go_at_call 13; refine (cadd_any _ _ _ ⟨by decide, by decide⟩ ⟨by decide, by decide⟩).mono ?_; rintro e w' ⟨rfl, rfl⟩; rw [al_add, outR_ok]))
  go_end0
  exact ⟨rfl, rfl⟩

theorem al2_any (w : World) :
    Calls Try.prog 14 #[] w fun e w' => e = .panicked [fault 4] ∧ ∃ n, w' = w.drewN n := by
  go_enter Try.func14, Try.ntmps14
  go_wp2_with (first
    | (go_at_call 11; refine (cdiv_any _ _ _ ⟨by decide, by decide⟩ ⟨by decide, by decide⟩).mono ?_; rintro e w' ⟨rfl, n, rfl⟩; rw [al_div, outR_bad (by decide)]))
  exact ⟨rfl, rfl, _, rfl⟩

theorem alive_any (w : World) :
    Calls Try.prog 5 #[] w fun e w' => e = .returned (.bool true) ∧ Grew w w' := by
  have hmf := mk_func
  go_enter Try.func5, Try.ntmps5
  go_wp2_with (fail)
  refine try_wp 12 _ _ _ (fun _ => by simp [go_sem]) ?_
  obtain ⟨W2, hW2⟩ : ∃ W2, W2 = (w.alloc (.cells #[.int .i64 0] 24)).alloc (.cells #[.int .i64 0] 25) := ⟨_, rfl⟩
  have G2 : Grew w W2 := by rw [hW2]; exact ((Grew.refl w).alloc _ _).alloc _ _
  have c0 : W2.cell? ⟨w.heap.size, 0, none⟩ = some (.int .i64 0) := by rw [hW2]; simp [go_sem]
  have c1 : W2.cell? ⟨w.heap.size + 1, 0, none⟩ = some (.int .i64 0) := by rw [hW2]; simp [go_sem]
  have hs : (w.alloc (.cells #[.int .i64 0] 24)).heap.size = w.heap.size + 1 := by simp [go_sem]
  rw [← hW2, hs]
  clear hW2 hs
  refine (al1_any ⟨w.heap.size, 0, none⟩ 0 W2 c0 (G2.free (by simp))).mono ?_
  rintro e w' ⟨rfl, rfl⟩
  have G3 := G2.setCell (a := ⟨w.heap.size, 0, none⟩) (by simp) (.int .i64 8589934592)
  refine ⟨(past_setCell _ _ _ _ _).cell (by simp) c1, G3.free (by simp), 0, .inl ⟨rfl, rfl⟩, fun W hP => ?_⟩
  have G4 := hP.grew w (by simp) G3
  have c2 := hP.cell (p := ⟨w.heap.size, 0, none⟩) (by simp) (World.cell?_setCell_same _ _ _ c0)
  clear hP G3 c0 c1 G2 W2
  go_wp2_with (fail)
  refine (try_grow 14 _ W 4 _ (fun _ => by simp [go_sem]) (.inr rfl) (fun W' _ => (al2_any W').mono ?_)).mono ?_
  · rintro e w' ⟨rfl, n, rfl⟩
    exact ⟨rfl, (Grew.refl W').drewN n⟩
  rintro e W' ⟨rfl, G5⟩
  have c3 := G5.cell c2
  have G6 := G4.trans G5
  clear G4 G5 c2 W
  go_wp2_with (fail)
  have G7 := G6.alloc #[.int .i64 1, .int .i64 2, .int .i64 3] 24
  have c4 := ((Grew.refl W').alloc #[.int .i64 1, .int .i64 2, .int .i64 3] 24).cell c3
  have r4 : Row (W'.alloc (.cells #[.int .i64 1, .int .i64 2, .int .i64 3] 24)) (some ⟨W'.heap.size, 0, none⟩) [1, 2, 3] := by
    refine ⟨by decide, fun x hx => ?_, .inr ⟨_, _, rfl, fun i hi => ?_⟩⟩
    · simp at hx; rcases hx with rfl | rfl | rfl <;> exact ⟨by decide, by decide⟩
    · simp at hi
      rcases (by omega : i = 0 ∨ i = 1 ∨ i = 2) with rfl | rfl | rfl <;> simp
  refine (sum_any _ 3 [1, 2, 3] _ r4).mono ?_
  rintro e W4 ⟨rfl, G8⟩
  rw [al_sum]
  have c5 := G8.cell c4
  have G9 := G7.trans G8
  clear r4 c4 G8 G7 G6 c3
  go_wp2
  go_ret
  exact ⟨rfl, G9⟩
end Go.Proofs.Ytjkidepgjbnflab

/-
  What bounds' Meet does: what the plain function says; more blocks are in memory, and nothing else.
-/
import Derived.Test.YtnkhknmpffcfbaaGreatXBox
import Derived.Test.YtnkhknmpffcfbaaGreatCWorld
import Derived.Deep.DeepFit
namespace Go.Proofs.YtnkhknmpffcfbaaGreat
open Go.RowKit

theorem none_any (x y u v : Int) (w : World) :
    Calls Tryz.prog 110 #[.agg #[.int .i64 x, .int .i64 y], .agg #[.int .i64 u, .int .i64 v]] w fun e w' => e = .returned (.bool (noneB x y u v)) ∧ Grew w w' := by
  have G : Hid (Grew w ((w.alloc (.cells #[.int .i64 x, .int .i64 y] 24)).alloc (.cells #[.int .i64 u, .int .i64 v] 24))) := ((Grew.refl w).alloc _ _).alloc _ _
  go_enter Tryz.func110, Tryz.ntmps110
  go_wp2
  all_goals
    go_ret
    exact ⟨ret_bool (by unfold noneB; rw [Bool.eq_iff_iff]; simp at *; omega), G.out⟩

theorem meet_any (a b : Bx) (w : World) :
    Calls Tryz.prog 89 #[a.val, b.val] w fun e w' => e = .returned (.bool (meetB a b)) ∧ Grew w w' := by
  have G : Hid (Grew w ((w.alloc (.cells #[.int .i64 a.l, .int .i64 a.m, .int .i64 a.h, .int .i64 a.k] 73)).alloc (.cells #[.int .i64 b.l, .int .i64 b.m, .int .i64 b.h, .int .i64 b.k] 73))) := ((Grew.refl w).alloc _ _).alloc _ _
  have c1 : Hid (∀ W, Calls Tryz.prog 110 #[.agg #[.int .i64 a.l, .int .i64 a.m], .agg #[.int .i64 b.h, .int .i64 b.k]] W fun e w' => e = .returned (.bool (noneB a.l a.m b.h b.k)) ∧ Grew W w') := fun W => none_any _ _ _ _ W
  have c2 : Hid (∀ W, Calls Tryz.prog 110 #[.agg #[.int .i64 b.l, .int .i64 b.m], .agg #[.int .i64 a.h, .int .i64 a.k]] W fun e w' => e = .returned (.bool (noneB b.l b.m a.h a.k)) ∧ Grew W w') := fun W => none_any _ _ _ _ W
  unfold meetB Bx.val
  generalize noneB a.l a.m b.h b.k = r at *
  generalize noneB b.l b.m a.h a.k = t at *
  cases r
  · clear c2
    go_enter Tryz.func89, Tryz.ntmps89
    go_wp2_with (first
      | (go_at_call 110; go_fit (c1.out _); rintro e V ⟨rfl, U⟩))
    go_ret
    exact ⟨rfl, G.out.trans U⟩
  · go_enter Tryz.func89, Tryz.ntmps89
    go_wp2_with (first
      | (go_at_call 110; go_fit (c1.out _); rintro e V ⟨rfl, U⟩; have m2 := U.cell (p := ⟨w.heap.size, 2, none⟩) (v := .int .i64 a.h) (by simp [go_sem]); have m3 := U.cell (p := ⟨w.heap.size, 3, none⟩) (v := .int .i64 a.k) (by simp [go_sem]); have m0 := U.cell (p := ⟨w.heap.size + 1, 0, none⟩) (v := .int .i64 b.l) (by simp [go_sem]); have m1 := U.cell (p := ⟨w.heap.size + 1, 1, none⟩) (v := .int .i64 b.m) (by simp [go_sem]))
      | (go_at_call 110; go_fit (c2.out _); rintro e V2 ⟨rfl, U2⟩))
    go_ret
    exact ⟨rfl, (G.out.trans U).trans U2⟩

end Go.Proofs.YtnkhknmpffcfbaaGreat

/-
  The statements' own first look ('alive' of stage 12's laws): it returns true; what was there stays.
-/
import Derived.Test.YtnkhknmpffcfbaaGreatSSum
namespace Go.Proofs.YtnkhknmpffcfbaaGreat
open Go Go.RowKit

def alS : Bd := ⟨1, 4294967296, 0, 4294967296, 0, 0, 4294967296, 0⟩
theorem alS_ok : alS.ok := by constructor <;> exact ⟨by decide, by decide⟩
theorem alS_step : stepE 0 0 [] [alS] = ([⟨1, 4294967296, 0, 4294967296, 67108864, 0, 4294967296, 0⟩], 0) := by kernel_rfl
theorem alS_sum : sumE [⟨1, 4294967296, 0, 4294967296, 67108864, 0, 4294967296, 0⟩] 0 0 = (4294967296, 0, 0) := by kernel_rfl
theorem bodies_one {B : Bd} (h : B.ok) (w : World) : Bodies (w.alloc (.cells #[.int .i64 B.s, .int .i64 B.a, .int .i64 B.b, .int .i64 B.m, .int .i64 B.p, .int .i64 B.q, .int .i64 B.u, .int .i64 B.v] 39)) (some ⟨w.heap.size, 0, none⟩) [B] := by
  refine ⟨fun z hz => by rw [List.mem_singleton.1 hz]; exact h, .inr ⟨w.heap.size, 0, rfl, fun i hi => ?_⟩⟩
  obtain rfl : i = 0 := by simpa using hi
  show BatO _ _ 0 B
  constructor <;> simp [go_sem]
theorem joints_none (w : World) (a : Option Addr) : Joints w a [] := ⟨fun z hz => (by cases hz), .inl rfl⟩
/-- A body laid in a list behind one block more. -/
theorem bodies_two {B : Bd} (h : B.ok) (w : World) (c : Array Value) (t : TypeId) : Bodies ((w.alloc (.cells c t)).alloc (.cells #[.int .i64 B.s, .int .i64 B.a, .int .i64 B.b, .int .i64 B.m, .int .i64 B.p, .int .i64 B.q, .int .i64 B.u, .int .i64 B.v] 39)) (some ⟨w.heap.size + 1, 0, none⟩) [B] := by
  have := bodies_one h (w.alloc (.cells c t))
  rw [show (w.alloc (.cells c t)).heap.size = w.heap.size + 1 by simp] at this
  exact this
theorem below_alloc {B : Nat} {w V : World} (h : Below B w V) (hB : B ≤ V.heap.size) (o : Obj) : Below B w (V.alloc o) := Go.RowKit.Below.alloc h hB o

theorem onto {a b c : World} (h : Below a.heap.size a b) (g : Below b.heap.size b c) : Below a.heap.size a c := h.trans (g.mono h.size)
theorem onto_alloc {a b : World} (h : Below a.heap.size a b) (o : Obj) : Below a.heap.size a (b.alloc o) := below_alloc h h.size o

set_option maxRecDepth 10000 in
set_option maxHeartbeats 2000000 in
theorem alive_any (w : World) :
    Calls Tryz.prog 9 #[] w fun e w' => e = .returned (.bool true) ∧ Below w.heap.size w w' := by
  have HS : Hid (∀ q W, Bodies W (some ⟨q, 0, none⟩) [alS] → Calls Tryz.prog 18 #[.agg #[.int .i64 0, .int .i64 0, .slice (some ⟨q, 0, none⟩) 1 1, .slice none 0 0]] W fun e w' => Below W.heap.size W w' ∧ ∃ a' c' b' d', e = .returned (.tuple #[.agg #[.int .i64 0, .int .i64 0, .slice a' 1 c', .slice b' 0 d'], .int .i64 0]) ∧ Bodies w' a' [⟨1, 4294967296, 0, 4294967296, 67108864, 0, 4294967296, 0⟩]) := fun q W h => by
    have := step_any 0 0 inF0 inF0 [alS] [] (some ⟨q, 0, none⟩) 1 none 0 W h (joints_none W _) (by simp) (by simp)
    unfold StepTo worldV at this
    rw [alS_step] at this
    refine this.mono ?_
    rintro e w' ⟨h1, ⟨_, a', c', b', d', rfl, h2, _⟩ | ⟨h0, _⟩⟩
    · exact ⟨h1, a', c', b', d', rfl, h2⟩
    · exact absurd rfl h0
  have HM : Hid (∀ a c b d W, Bodies W a [⟨1, 4294967296, 0, 4294967296, 67108864, 0, 4294967296, 0⟩] → Calls Tryz.prog 14 #[.agg #[.int .i64 0, .int .i64 0, .slice a 1 c, .slice b 0 d]] W fun e w' => e = .returned (.tuple #[.agg #[.int .i64 4294967296, .int .i64 0], .int .i64 0]) ∧ Below W.heap.size W w') := fun a c b d W h => by
    have := momentum_any 0 0 _ a c b 0 d W h (by simp)
    rw [alS_sum] at this
    exact this
  have HB0 : Hid (∀ c, Bodies ((w.alloc (.cells c 39)).alloc (.cells #[.int .i64 1, .int .i64 4294967296, .int .i64 0, .int .i64 4294967296, .int .i64 0, .int .i64 0, .int .i64 4294967296, .int .i64 0] 39)) (some ⟨w.heap.size + 1, 0, none⟩) [alS]) := fun c => bodies_two alS_ok w c _
  go_enter Tryz.func9, Tryz.ntmps9
  go_wp2_with (first
    | (go_at_call 18; go_fit (HS.out _ _ (HB0.out _)); rintro e V ⟨U, a2, c2, b2, d2, rfl, hB⟩; (have hB2 := hB.below (below_alloc (Below.refl _ V) (Nat.le_refl _) (.cells #[.int .i64 0, .int .i64 0, .slice a2 1 c2, .slice b2 0 d2] 29))); obtain ⟨z, off, rfl, hc⟩ := hB.block (i := 0) (by simp))
    | (go_at_call 14; go_fit (HM.out _ _ _ _ _ hB2); rintro e V2 ⟨rfl, U2⟩; (have hv : V.heap.size < V2.heap.size := by (have h9 := U2.size; simp at h9; omega)); (have hcv : V2.cell? ⟨V.heap.size, 2, none⟩ = some (.slice (some ⟨z, off, none⟩) 1 c2) := (U2.cell (by simp)).trans (by simp [go_sem])); obtain ⟨z2, off2, e2, hc2⟩ := (hB2.below U2).block (i := 0) (by simp); cases e2; (have hz2 := hc2.size); (have hc4 : V2.cell? ⟨z, off + 4, none⟩ = some (.int .i64 67108864) := by (have h9 := hc2.c4; simpa [bd] using h9))))
  go_ret
  exact ⟨rfl, onto_alloc (onto (onto_alloc (onto (onto_alloc (onto_alloc (Below.refl _ _) _) _) U) _) U2) _⟩
end Go.Proofs.YtnkhknmpffcfbaaGreat

/-
  The statements' own Pairs: the pairs of the boxes that meet, in order; more blocks are in memory, and nothing else.
-/
import Derived.Test.YtflffgjldoipfaaPPairs
namespace Go.Proofs.Ytflffgjldoipfaa
open Go.RowKit

theorem rmeet_any (a b : Bx) (w : World) :
    Calls Try.prog 28 #[a.val, b.val] w fun e w' => e = .returned (.bool (meetB a b)) ∧ Grew w w' := by
  have G : Hid (Grew w ((w.alloc (.cells #[.int .i64 a.l, .int .i64 a.m, .int .i64 a.h, .int .i64 a.k] 28)).alloc (.cells #[.int .i64 b.l, .int .i64 b.m, .int .i64 b.h, .int .i64 b.k] 28))) := ((Grew.refl w).alloc _ _).alloc _ _
  unfold Bx.val
  go_enter Try.func28, Try.ntmps28
  go_wp2
  all_goals
    go_ret
    exact ⟨ret_bool (by rw [Bool.eq_iff_iff, meetB_iff]; simp at *; omega), G.out⟩

set_option maxRecDepth 10000 in
set_option maxHeartbeats 4000000 in
theorem rpairs_any (L : List Bx) (a : Option Addr) (cap : Nat) (w : World) (hL : Boxes w a L) (hn : L.length ≤ 500) :
    Calls Try.prog 14 #[.slice a L.length cap] w fun e w' => (∃ v, e = .returned v ∧ w'.ownsRow w.heap.size 50 2 v (prs L).length ((prs L).flatMap encP)) ∧ Below w.heap.size w w' := by
  obtain ⟨i0, hi0, hz0, hz1, hz2⟩ := info_parts info_pair
  have HR : Hid (∀ k, k < L.length → (List.range L.length)[k]? = some k) := fun k hk => by simp [hk]
  have HL : Hid ((List.range L.length).length ≤ 500) := by show _ ≤ _; simp; omega
  go_enter Try.func14, Try.ntmps14
  go_upto_region 3 with (fail)
  obtain ⟨V, rfl⟩ : ∃ V, V = w := ⟨_, rfl⟩
  go_loopw [3, 4] (fun f i wr => ∃ (k : Nat) (F : List (Nat × Nat)), k ≤ L.length ∧ i = .int .i64 k ∧ wr.ownsRow V.heap.size 50 2 f F.length (F.flatMap encP) ∧ prs L = F ++ sweep (mt L) ((List.range L.length).drop k) ∧ Below V.heap.size V wr) (fun _ i _ => L.length - (intOf i).toNat)
  case atStart => exact ⟨0, [], by omega, rfl, World.ownsRow_nil _ _ _ _, rfl, Below.refl _ _⟩
  case round =>
    obtain ⟨k, F, hk, rfl, hF, hsw, hB⟩ := hrel
    by_cases hlt : k < L.length
    · have hi : (k : Int) < (L.length : Int) := by omega
      have HW : Hid (prs L = F ++ sweep (mt L) ((List.range L.length).drop k)) := hsw
      clear hsw
      go_upto_region 6 with (fail)
      go_loopw [3, 5] (fun f i wr => ∃ (t : Nat) (F : List (Nat × Nat)), t ≤ L.length - (k + 1) ∧ i = .int .i64 ((k : Int) + 1 + t) ∧ wr.ownsRow V.heap.size 50 2 f F.length (F.flatMap encP) ∧ prs L = F ++ mid L (List.range L.length) k k t ∧ Below V.heap.size V wr) (fun _ i _ => L.length - (intOf i).toNat)
      case atStart => exact ⟨0, F, by omega, by simp, hF, by rw [← mid_start L (HR.out k hlt)]; exact HW.out, hB⟩
      case round =>
        obtain ⟨t, F', ht, rfl, hF', hsw', hB'⟩ := hrel
        by_cases hlt' : t < L.length - (k + 1)
        · have hi' : (k : Int) + 1 + (t : Int) < (L.length : Int) := by omega
          obtain ⟨y, hy⟩ : ∃ y : Nat, y = k + 1 + t := ⟨_, rfl⟩
          have hyi : (k : Int) + 1 + (t : Int) = (y : Int) := by omega
          have hyn : y < L.length := by omega
          obtain ⟨b, off, ea, hbV, hcell⟩ := hL.block (by omega)
          obtain ⟨p0, p1, p2, p3⟩ := hcell k hlt
          obtain ⟨q0, q1, q2, q3⟩ := hcell y hyn
          have x0 := (hB'.cell (p := ⟨b, _, none⟩) hbV).trans p0
          have x1 := (hB'.cell (p := ⟨b, _, none⟩) hbV).trans p1
          have x2 := (hB'.cell (p := ⟨b, _, none⟩) hbV).trans p2
          have x3 := (hB'.cell (p := ⟨b, _, none⟩) hbV).trans p3
          have y0 := (hB'.cell (p := ⟨b, _, none⟩) hbV).trans q0
          have y1 := (hB'.cell (p := ⟨b, _, none⟩) hbV).trans q1
          have y2 := (hB'.cell (p := ⟨b, _, none⟩) hbV).trans q2
          have y3 := (hB'.cell (p := ⟨b, _, none⟩) hbV).trans q3
          subst ea
          have HY : Hid ((List.range L.length)[k + 1 + t]? = some y) := by rw [← hy]; exact HR.out y hyn
          have HW' : Hid (prs L = F' ++ mid L (List.range L.length) k k t) := hsw'
          have Hy : Hid (y = k + 1 + t) := hy
          have hyn' : (y : Int) < (L.length : Int) := by omega
          rw [hyi]
          rw [hyi] at hi'
          clear hcell hy hsw' p0 p1 p2 p3 q0 q1 q2 q3
          have HM : Hid (∀ W, Calls Try.prog 28 #[.agg #[.int .i64 (bx L k).l, .int .i64 (bx L k).m, .int .i64 (bx L k).h, .int .i64 (bx L k).k], .agg #[.int .i64 (bx L y).l, .int .i64 (bx L y).m, .int .i64 (bx L y).h, .int .i64 (bx L y).k]] W fun e w' => e = .returned (.bool (mt L k y)) ∧ Grew W w') := fun W => rmeet_any _ _ W
          obtain ⟨m, hm⟩ : ∃ m, mt L k y = m := ⟨_, rfl⟩
          have Hm : Hid (mt L k y = m) := hm
          rw [hm] at HM
          clear hm
          go_upto_region 8 with (fail)
          go_region_held2 (fun w' => w'.cell? ⟨b, off + k * 4, none⟩ = some (.int .i64 (bx L k).l) ∧ w'.cell? ⟨b, off + k * 4 + 1, none⟩ = some (.int .i64 (bx L k).m) ∧ w'.cell? ⟨b, off + k * 4 + 2, none⟩ = some (.int .i64 (bx L k).h) ∧ w'.cell? ⟨b, off + k * 4 + 3, none⟩ = some (.int .i64 (bx L k).k) ∧ w'.cell? ⟨b, off + y * 4, none⟩ = some (.int .i64 (bx L y).l) ∧ w'.cell? ⟨b, off + y * 4 + 1, none⟩ = some (.int .i64 (bx L y).m) ∧ w'.cell? ⟨b, off + y * 4 + 2, none⟩ = some (.int .i64 (bx L y).h) ∧ w'.cell? ⟨b, off + y * 4 + 3, none⟩ = some (.int .i64 (bx L y).k)) (go_keep)
              (first
                | (go_at_call 28; go_fit (HM.out _); rintro e w' ⟨rfl, U⟩; have zx0 := U.cell (p := ⟨b, off + k * 4, none⟩) (v := .int .i64 (bx L k).l) x0; have zx1 := U.cell (p := ⟨b, off + k * 4 + 1, none⟩) (v := .int .i64 (bx L k).m) x1; have zx2 := U.cell (p := ⟨b, off + k * 4 + 2, none⟩) (v := .int .i64 (bx L k).h) x2; have zx3 := U.cell (p := ⟨b, off + k * 4 + 3, none⟩) (v := .int .i64 (bx L k).k) x3; have zy0 := U.cell (p := ⟨b, off + y * 4, none⟩) (v := .int .i64 (bx L y).l) y0; have zy1 := U.cell (p := ⟨b, off + y * 4 + 1, none⟩) (v := .int .i64 (bx L y).m) y1; have zy2 := U.cell (p := ⟨b, off + y * 4 + 2, none⟩) (v := .int .i64 (bx L y).h) y2; have zy3 := U.cell (p := ⟨b, off + y * 4 + 3, none⟩) (v := .int .i64 (bx L y).k) y3))
          have U2 : Grew wr w' := ((Grew.refl wr).drewN _).trans U
          have hF2 := own_grew hF' U2
          have hB2 : Below V.heap.size V w' := hB'.trans (U2.below.mono hB'.size)
          clear zx0 zx1 zx2 zx3 zy0 zy1 zy2 zy3 x0 x1 x2 x3 y0 y1 y2 y3 U U2 hF' hB'
          have hst : (y : Int) + 1 = (k : Int) + 1 + ((t + 1 : Nat) : Int) := by omega
          cases m
          · go_wp2_with (fail)
            refine ⟨⟨t + 1, F', by omega, congrArg (Value.int .i64) (by omega), hF2, by rw [HW'.out, mid_miss HY.out Hm.out], hB2⟩, ?_⟩
            simp [intOf]; omega
          · have hsm := sweep_small HL.out HW'.out
            have hszB := hB2.size
            go_wp2_with (first
              | (at_builtin; refine wpList_append_own _ rfl (.tmp 29) (.tmp 33) 29 rfl V.heap.size 50 i0 (.agg #[.int .i64 0, .int .i64 0]) 2 16 Try.underlying29 hi0 hz0 hz1 hz2 rfl (by decide) u3 _ _ rfl (hF2.alloc _) ⟨w'.heap.size, 0, none⟩ 1 1 (encP (k, y)) rfl rfl (fun j u hj => by match j, hj with | 0, hj => (simp [encP] at hj; subst hj; simp [Addr.add, go_sem]) | 1, hj => (simp [encP] at hj; subst hj; simp [Addr.add, go_sem])) (fun u hu => by simp [encP] at hu; rcases hu with rfl | rfl <;> rfl) (by unfold maxLen; omega) (by omega) (by simp; omega) ?_; intro f1 w1 hf1 hg1 _))
            have hB3 : Below V.heap.size V w1 := (hB2.alloc hszB _).grown hg1 (by simp; omega) (fun k hk => (hF2.lt k hk).1)
            refine ⟨⟨t + 1, F' ++ [(k, y)], by omega, congrArg (Value.int .i64) (by omega), ?_, ?_, hB3⟩, ?_⟩
            · rw [flat_snoc, List.length_append]; exact hf1
            · rw [HW'.out, mid_hit HY.out Hm.out, show min k y = k by have := Hy.out; omega, show max k y = y by have := Hy.out; omega]; simp
            · simp [intOf]; omega
        · have hi' : ¬ (k : Int) + 1 + (t : Int) < (L.length : Int) := by omega
          have HW' : Hid (prs L = F' ++ mid L (List.range L.length) k k t) := hsw'
          clear hsw'
          go_wp2_with (fail)
          refine ⟨⟨k + 1, F', by omega, by simp, hF', by rw [HW'.out, mid_end (by simp; omega)], hB'⟩, ?_⟩
          simp [intOf]; omega
    · have hi : ¬ (k : Int) < (L.length : Int) := by omega
      have hF0 : prs L = F := by rw [hsw, List.drop_eq_nil_of_le (by simp; omega)]; simp [sweep]
      clear hsw
      subst hF0
      go_wp2_with (fail)
      go_ret
      exact ⟨⟨_, rfl, hF⟩, hB⟩
end Go.Proofs.Ytflffgjldoipfaa

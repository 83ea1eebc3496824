/-
  What prune.Pairs does: all two that meet, in order, in a slice of its own; nothing that was there is written.
-/
import Derived.Test.YtcoooehcgbohgaaGreatPk08
import Derived.Test.YtcoooehcgbohgaaGreatPk03
import Derived.Deep.QuietTactic
import Derived.BigQuiet
import Derived.Deep.CutRange
import Derived.Deep.CutBlock
namespace Go.Proofs.YtcoooehcgbohgaaGreat
open Go.RowKit

theorem info_pair : (Tryz.prog.info? 99).map (fun i => (i.zero, i.size, i.bytes)) = some (some (.agg #[.int .i64 0, .int .i64 0]), 2, 16) := by kernel_rfl

theorem drop_some {α : Type} {l : List α} {k : Nat} {a : α} (h : l[k]? = some a) : l.drop k = a :: l.drop (k + 1) := by
  obtain ⟨hk, rfl⟩ := List.getElem?_eq_some_iff.1 h
  exact List.drop_eq_getElem_cons hk
/-- What the sweep has found so far, and what is left: within a round. -/
def mid (L : List Bx) (S : List Nat) (a k t : Nat) : List (Nat × Nat) := ((S.drop (k + 1 + t)).filter (mt L a)).map (fun b => (min a b, max a b)) ++ sweep (mt L) (S.drop (k + 1))
theorem mid_start (L : List Bx) {S : List Nat} {a k : Nat} (h : S[k]? = some a) : sweep (mt L) (S.drop k) = mid L S a k 0 := by
  rw [drop_some h]; rfl
theorem mid_hit {L : List Bx} {S : List Nat} {a b k t : Nat} (h : S[k + 1 + t]? = some b) (hm : mt L a b = true) : mid L S a k t = (min a b, max a b) :: mid L S a k (t + 1) := by
  unfold mid
  rw [drop_some h, List.filter_cons, if_pos hm]
  rfl
theorem mid_miss {L : List Bx} {S : List Nat} {a b k t : Nat} (h : S[k + 1 + t]? = some b) (hm : mt L a b = false) : mid L S a k t = mid L S a k (t + 1) := by
  unfold mid
  rw [drop_some h, List.filter_cons, if_neg (by simp [hm])]
  rfl
theorem mid_end {L : List Bx} {S : List Nat} {a k t : Nat} (h : S.length ≤ k + 1 + t) : mid L S a k t = sweep (mt L) (S.drop (k + 1)) := by
  unfold mid
  rw [List.drop_eq_nil_of_le h]
  rfl
theorem mid_far {L : List Bx} {S : List Nat} {a b k t : Nat} (hS : IsSorted L S) (h : S[k + 1 + t]? = some b) (hf : (bx L a).h < (bx L b).l) : mid L S a k t = sweep (mt L) (S.drop (k + 1)) := by
  unfold mid
  have hs : (S.drop (k + 1 + t)).Pairwise (ltS L) := hS.sorted.sublist (List.drop_sublist _ _)
  rw [drop_some h] at hs ⊢
  rw [filter_far hf hs]
  rfl
theorem below_drewN {B : Nat} {w w' : World} (h : Below B w w') (n : Nat) : Below B w (w'.drewN n) := ⟨h.os, h.tape, h.output, h.size, h.block⟩
theorem own_base {w : World} {B B' n k : Nat} {E : TypeId} {v : Value} {xs : List Value} (h : w.ownsRow B E k v n xs) (g : B' ≤ B) : w.ownsRow B' E k v n xs := by
  refine ⟨h.1, ?_⟩
  rcases h.2 with h | ⟨b, cap, cur, e, hb, r⟩
  · exact .inl h
  · exact .inr ⟨b, cap, cur, e, by omega, r⟩
theorem own_grew {w w' : World} {B n k : Nat} {E : TypeId} {v : Value} {xs : List Value} (h : w.ownsRow B E k v n xs) (g : Grew w w') : w'.ownsRow B E k v n xs := by
  refine ⟨h.1, ?_⟩
  rcases h.2 with h | ⟨b, cap, cur, e, hb, hg, r⟩
  · exact .inl h
  · exact .inr ⟨b, cap, cur, e, hb, (g.heap (Array.getElem?_eq_some_iff.1 hg).1).trans hg, r⟩
theorem sweep_len (m : Nat → Nat → Bool) : ∀ l : List Nat, (sweep m l).length ≤ l.length * l.length
  | [] => by simp [sweep]
  | a :: r => by
    have h1 := sweep_len m r
    have h2 := List.length_filter_le (m a) r
    rw [sweep, List.length_append, List.length_map, List.length_cons, Nat.add_mul, Nat.mul_add]
    omega
theorem sweep_small {L : List Bx} {S : List Nat} {F R : List (Nat × Nat)} (hS : S.length ≤ 500) (h : sweep (mt L) S = F ++ R) : F.length ≤ 250000 := by
  have h1 := sweep_len (mt L) S
  have h2 := Nat.mul_le_mul hS hS
  rw [h, List.length_append] at h1
  omega
theorem flat_snoc (F : List (Nat × Nat)) (p : Nat × Nat) : (F ++ [p]).flatMap encP = F.flatMap encP ++ encP p := by simp

/-- What stands behind a place of a slice. -/
theorem tail_run (g n k : Nat) (h : k < n) : ∃ tl : Option Addr, (k + 1 < n → tl = some ⟨g, k + 1, none⟩) ∧
    ∀ w, (Instr.sliceAt 112 (.slice (some ⟨g, 0, none⟩) n n) (some (.int .i64 ((k : Int) + 1))) none none).run Tryz.prog w = .ok (.slice tl (n - (k + 1)) (n - (k + 1))) w := by
  refine ⟨if n = k + 1 then some ⟨g, 0, none⟩ else some ⟨g, k + 1, none⟩, fun hk => if_neg (by omega), fun w => ?_⟩
  have h1 : (k : Int) + 1 ≤ (n : Int) := by omega
  have h2 : ((k : Int) + 1).toNat = k + 1 := by omega
  by_cases e : n = k + 1
  · simp [go_sem, h2, e]
    omega
  · simp [go_sem, h1, h2, e]
    omega

set_option maxRecDepth 10000 in
set_option maxHeartbeats 4000000 in
theorem pairs_any (L : List Bx) (a : Option Addr) (cap : Nat) (w : World) (hL : Boxes w a L) (hn : L.length ≤ 500) :
    Calls Tryz.prog 59 #[.slice a L.length cap] w fun e w' => (∃ v, e = .returned v ∧ w'.ownsRow w.heap.size 99 2 v (prs L).length ((prs L).flatMap encP)) ∧ Below w.heap.size w w' := by
  obtain ⟨i0, hi0, hz0, hz1, hz2⟩ := info_parts info_pair
  go_enter Tryz.func59, Tryz.ntmps59
  go_wp2_with (first
    | (go_at_call 80; go_fit (sorted_any L a cap _ hL (by omega)); rintro e V ⟨⟨g, S, rfl, hS, hO⟩, hB0⟩))
  have hLV := hL.below hB0
  have hlen := hS.length
  go_loopw [3, 13] (fun f i wr => ∃ (k : Nat) (F : List (Nat × Nat)), k ≤ L.length ∧ i = .int .i64 k ∧ wr.ownsRow V.heap.size 99 2 f F.length (F.flatMap encP) ∧ sweep (mt L) S = F ++ sweep (mt L) (S.drop k) ∧ Below V.heap.size V wr) (fun _ i _ => L.length - (intOf i).toNat)
  case atStart => exact ⟨0, [], by omega, rfl, World.ownsRow_nil _ _ _ _, rfl, Below.refl _ _⟩
  case round =>
    obtain ⟨k, F, hk, rfl, hF, hsw, hB⟩ := hrel
    by_cases hlt : k < L.length
    · have hi : (k : Int) < (L.length : Int) := by omega
      obtain ⟨x, hx⟩ : ∃ x, S[k]? = some x := ⟨_, List.getElem?_eq_getElem (by omega)⟩
      have hcx : wr.cell? ⟨g, k, none⟩ = some (.int .i64 x) := by
        have h1 := hO.cellAt k (by omega)
        rw [List.getElem?_map, hx] at h1
        exact (hB.cell (cell_block h1)).trans h1
      have HX : Hid (S[k]? = some x) := hx
      have HW : Hid (sweep (mt L) S = F ++ sweep (mt L) (S.drop k)) := hsw
      have HL : Hid (S.length = L.length) := hlen
      clear hx hsw hlen
      obtain ⟨tl, htl, hsl⟩ := tail_run g L.length k hlt
      go_upto_region 7 with (fail)
      clear hsl
      go_loopw [3, 23] (fun f i wr => ∃ (t : Nat) (F : List (Nat × Nat)), t ≤ L.length - (k + 1) ∧ i = .int .i64 t ∧ wr.ownsRow V.heap.size 99 2 f F.length (F.flatMap encP) ∧ sweep (mt L) S = F ++ mid L S x k t ∧ Below V.heap.size V wr) (fun _ i _ => L.length - (k + 1) - (intOf i).toNat)
      case atStart => exact ⟨0, F, by omega, rfl, hF, by rw [← mid_start L HX.out]; exact HW.out, hB⟩
      case round =>
        obtain ⟨t, F', ht, rfl, hF', hsw', hB'⟩ := hrel
        by_cases hlt' : t < L.length - (k + 1)
        · have hi' : (t : Int) < ((L.length - (k + 1) : Nat) : Int) := by omega
          obtain rfl := htl (by omega)
          obtain ⟨y, hy⟩ : ∃ y, S[k + 1 + t]? = some y := ⟨_, List.getElem?_eq_getElem (by have := HL.out; omega)⟩
          have hcy : wr.cell? ⟨g, k + 1 + t, none⟩ = some (.int .i64 y) := by
            have h1 := hO.cellAt (k + 1 + t) (by omega)
            rw [List.getElem?_map, hy] at h1
            exact (hB'.cell (cell_block h1)).trans h1
          have hxn := hS.lt (List.mem_of_getElem? HX.out)
          have hyn := hS.lt (List.mem_of_getElem? hy)
          obtain ⟨b, off, ea, hbV, hcell⟩ := hLV.block (by omega)
          obtain ⟨p0, p1, p2, p3⟩ := hcell x hxn
          obtain ⟨q0, q1, q2, q3⟩ := hcell y hyn
          have x0 := (hB'.cell (p := ⟨b, _, none⟩) hbV).trans p0
          have x1 := (hB'.cell (p := ⟨b, _, none⟩) hbV).trans p1
          have x2 := (hB'.cell (p := ⟨b, _, none⟩) hbV).trans p2
          have x3 := (hB'.cell (p := ⟨b, _, none⟩) hbV).trans p3
          have y0 := (hB'.cell (p := ⟨b, _, none⟩) hbV).trans q0
          have y1 := (hB'.cell (p := ⟨b, _, none⟩) hbV).trans q1
          have y2 := (hB'.cell (p := ⟨b, _, none⟩) hbV).trans q2
          have y3 := (hB'.cell (p := ⟨b, _, none⟩) hbV).trans q3
          subst ea
          have HY : Hid (S[k + 1 + t]? = some y) := hy
          have HW' : Hid (sweep (mt L) S = F' ++ mid L S x k t) := hsw'
          have hxn' : (x : Int) < (L.length : Int) := by omega
          have hyn' : (y : Int) < (L.length : Int) := by omega
          clear hcell hy hsw' htl p0 p1 p2 p3 q0 q1 q2 q3
          by_cases hfar : (bx L x).h < (bx L y).l
          · go_upto_region 9 with (fail)
            go_quiet (fail)
            go_wp2_with (fail)
            refine ⟨⟨k + 1, F', by omega, rfl, hF', by rw [HW'.out, mid_far hS HY.out hfar], below_drewN hB' _⟩, ?_⟩
            simp [intOf]; omega
          · have HM : Hid (∀ W, Calls Tryz.prog 81 #[.agg #[.int .i64 (bx L x).l, .int .i64 (bx L x).m, .int .i64 (bx L x).h, .int .i64 (bx L x).k], .agg #[.int .i64 (bx L y).l, .int .i64 (bx L y).m, .int .i64 (bx L y).h, .int .i64 (bx L y).k]] W fun e w' => e = .returned (.bool (mt L x y)) ∧ Grew W w') := fun W => meet_any _ _ W
            obtain ⟨m, hm⟩ : ∃ m, mt L x y = m := ⟨_, rfl⟩
            have Hm : Hid (mt L x y = m) := hm
            rw [hm] at HM
            clear hm
            go_upto_region 9 with (fail)
            go_quiet (fail)
            go_upto_region 10 with (fail)
            go_region_held2 (fun w' => w'.cell? ⟨b, off + x * 4, none⟩ = some (.int .i64 (bx L x).l) ∧ w'.cell? ⟨b, off + x * 4 + 1, none⟩ = some (.int .i64 (bx L x).m) ∧ w'.cell? ⟨b, off + x * 4 + 2, none⟩ = some (.int .i64 (bx L x).h) ∧ w'.cell? ⟨b, off + x * 4 + 3, none⟩ = some (.int .i64 (bx L x).k) ∧ w'.cell? ⟨b, off + y * 4, none⟩ = some (.int .i64 (bx L y).l) ∧ w'.cell? ⟨b, off + y * 4 + 1, none⟩ = some (.int .i64 (bx L y).m) ∧ w'.cell? ⟨b, off + y * 4 + 2, none⟩ = some (.int .i64 (bx L y).h) ∧ w'.cell? ⟨b, off + y * 4 + 3, none⟩ = some (.int .i64 (bx L y).k)) (go_keep)
              (first
                | (go_at_call 81; go_fit (HM.out _); rintro e w' ⟨rfl, U⟩; have zx0 := U.cell (p := ⟨b, off + x * 4, none⟩) (v := .int .i64 (bx L x).l) x0; have zx1 := U.cell (p := ⟨b, off + x * 4 + 1, none⟩) (v := .int .i64 (bx L x).m) x1; have zx2 := U.cell (p := ⟨b, off + x * 4 + 2, none⟩) (v := .int .i64 (bx L x).h) x2; have zx3 := U.cell (p := ⟨b, off + x * 4 + 3, none⟩) (v := .int .i64 (bx L x).k) x3; have zy0 := U.cell (p := ⟨b, off + y * 4, none⟩) (v := .int .i64 (bx L y).l) y0; have zy1 := U.cell (p := ⟨b, off + y * 4 + 1, none⟩) (v := .int .i64 (bx L y).m) y1; have zy2 := U.cell (p := ⟨b, off + y * 4 + 2, none⟩) (v := .int .i64 (bx L y).h) y2; have zy3 := U.cell (p := ⟨b, off + y * 4 + 3, none⟩) (v := .int .i64 (bx L y).k) y3))
            have U2 : Grew wr w' := ((Grew.refl wr).drewN _).trans U
            have hF2 := own_grew hF' U2
            have hB2 : Below V.heap.size V w' := hB'.trans (U2.below.mono hB'.size)
            clear zx0 zx1 zx2 zx3 zy0 zy1 zy2 zy3 x0 x1 x2 x3 y0 y1 y2 y3 U U2 hF' hB' hcx hcy
            cases m
            · go_wp2_with (fail)
              refine ⟨⟨t + 1, F', by omega, rfl, hF2, by rw [HW'.out, mid_miss HY.out Hm.out], hB2⟩, ?_⟩
              simp [intOf]; omega
            · obtain ⟨mn, hmn⟩ : ∃ mn, min x y = mn := ⟨_, rfl⟩
              obtain ⟨mx, hmx⟩ : ∃ mx, max x y = mx := ⟨_, rfl⟩
              have h1 : min (x : Int) (y : Int) = (mn : Int) := by omega
              have h2 : max (x : Int) (y : Int) = (mx : Int) := by omega
              have HN : Hid (min x y = mn ∧ max x y = mx) := ⟨hmn, hmx⟩
              have hsm := sweep_small (by have := HL.out; omega) HW'.out
              have hszB := hB2.size
              clear hmn hmx
              go_wp2_with (first
                | (at_builtin; refine wpList_append_own _ rfl (.tmp 49) (.tmp 57) 94 rfl V.heap.size 99 i0 (.agg #[.int .i64 0, .int .i64 0]) 2 16 Tryz.underlying94 hi0 hz0 hz1 hz2 rfl (by decide) u3 _ _ rfl (hF2.alloc _) ⟨w'.heap.size, 0, none⟩ 1 1 (encP (mn, mx)) rfl rfl (fun j u hj => by match j, hj with | 0, hj => (simp [encP] at hj; subst hj; simp [Addr.add, go_sem]) | 1, hj => (simp [encP] at hj; subst hj; simp [Addr.add, go_sem])) (fun u hu => by simp [encP] at hu; rcases hu with rfl | rfl <;> rfl) (by unfold maxLen; omega) (by omega) (by simp; omega) ?_; intro f1 w1 hf1 hg1 _))
              have hB3 : Below V.heap.size V w1 := (hB2.alloc hszB _).grown hg1 (by simp; omega) (fun k hk => (hF2.lt k hk).1)
              refine ⟨⟨t + 1, F' ++ [(mn, mx)], by omega, rfl, ?_, ?_, hB3⟩, ?_⟩
              · rw [flat_snoc, List.length_append]; exact hf1
              · rw [HW'.out, mid_hit HY.out Hm.out, HN.out.1, HN.out.2]; simp
              · simp [intOf]; omega
        · have hi' : ¬ (t : Int) < ((L.length - (k + 1) : Nat) : Int) := by omega
          have HW' : Hid (sweep (mt L) S = F' ++ mid L S x k t) := hsw'
          clear hsw' htl
          go_wp2_with (fail)
          refine ⟨⟨k + 1, F', by omega, rfl, hF', by rw [HW'.out, mid_end (by have := HL.out; omega)], hB'⟩, ?_⟩
          simp [intOf]; omega
    · have hi : ¬ (k : Int) < (L.length : Int) := by omega
      have hF0 : sweep (mt L) S = F := by rw [hsw, List.drop_eq_nil_of_le (by omega)]; simp [sweep]
      have hsm := sweep_small (by omega) hsw
      have hperm : F.Perm (prs L) := by rw [← hF0]; exact hS.sweep
      clear hsw hF0 hlen
      go_wp2_with (first
        | (go_at_call 82; go_fit (sortp_any F (prs L) u3 V.heap.size _ hperm (prs_sorted L) (by omega) hF); rintro e w' ⟨rfl, hR, hG⟩))
      go_ret
      refine ⟨⟨u3, rfl, own_base hR hB0.size⟩, hB0.trans ?_⟩
      exact (hB.grown hG hB.size (fun k hk => (hF.lt k hk).1)).mono hB0.size
end Go.Proofs.YtcoooehcgbohgaaGreat

/-
  Package shelf's reading.leaf: the cells of a slot.
-/
import Derived.Test.YtbkkhafckkndfaaGreatPxOText
import Derived.Test.YtbkkhafckkndfaaGreatPk05
import Derived.BigQuiet
namespace Go.Proofs.YtbkkhafckkndfaaGreat
open Go Go.RowKit

/-- What is told of a leaf: the error, its cells, what was seen. -/
structure LfR where
  e : Int
  C : List Ce
  T : List Int
def leafR (ld : Ld) (s : Sl) (last : Int) (T : List Int) : LfR :=
  if ¬ (ld s.page).2 = 0 then ⟨(ld s.page).2, [], T⟩ else bif leafAt (ld s.page).1 s.key last then ⟨0, cellsS (ld s.page).1, s.page :: T⟩ else ⟨5, [], s.page :: T⟩
theorem lf_seen {ld : Ld} {s : Sl} {last : Int} {T : List Int} (hT : ∀ k ∈ T, (ld k).2 = 0) : ∀ k ∈ (leafR ld s last T).T, (ld k).2 = 0 := by
  unfold leafR
  split
  · exact hT
  · rename_i h
    have : ∀ k ∈ s.page :: T, (ld k).2 = 0 := fun k hk => by
      rcases List.mem_cons.1 hk with e | e
      · rw [e]
        exact Decidable.of_not_not h
      · exact hT k e
    cases leafAt (ld s.page).1 s.key last <;> exact this
theorem drewN_below {B : Nat} {w w' : World} (h : Below B w w') (n : Nat) : Below B w (w'.drewN n) := ⟨h.os, h.tape, h.output, h.size, h.block⟩
theorem row_low {w : World} {B B' n k : Nat} {E : TypeId} {v : Value} {xs : List Value} (h : w.ownsRow B E k v n xs) (hb : B' ≤ B) : w.ownsRow B' E k v n xs := by
  refine ⟨h.1, ?_⟩
  rcases h.2 with q | ⟨g, cap, cur, e, hg, q⟩
  · exact .inl q
  · exact .inr ⟨g, cap, cur, e, Nat.le_trans hb hg, q⟩
theorem slot_kept {w w1 : World} {r : Nat} {K n : Int} (g : WrR r (w.alloc (.cells #[.int .i64 K, .int .i64 n] 104)) w1) (h : r < w.heap.size) : w1.cell? ⟨w.heap.size, 0, none⟩ = some (.int .i64 K) := by
  have hb := heap_alloc_new w (.cells #[.int .i64 K, .int .i64 n] 104)
  have e := g.block w.heap.size (by rw [World.size_alloc]; omega) fun s => by
    rcases s with s | s
    · omega
    · exact absurd (OfT.ne s ⟨_, hb⟩) (by decide)
  rw [cell_of_row _ _ _ _ _ _ (e.trans hb)]
  rfl
def LeafK (w0 w w' : World) (r p : Nat) (ld : Ld) (q : LfR) (e : Ending) : Prop := ∃ v, e = .returned (.tuple #[v, .int .i64 q.e]) ∧ w'.ownsRow w.heap.size 108 4 v q.C.length (cesV q.C) ∧ RdK w0 w' r p (canon ld q.T) ∧ WrR r w w'
set_option maxRecDepth 100000 in
set_option maxHeartbeats 8000000 in
theorem kleaf_in {w0 w : World} {r p : Nat} {ld : Ld} {T : List Int} (hL : Loads w0 p ld) (h : RdK w0 w r p (canon ld T)) (hT : ∀ k ∈ T, (ld k).2 = 0) (s : Sl) (last : Int) :
    Calls Tryz.prog 36 #[.pointer (some ⟨r, 0, none⟩), .agg #[.int .i64 s.key, .int .i64 s.page], .int .i64 last] w fun e w' => LeafK w0 w w' r p ld (leafR ld s last T) e := by
  obtain ⟨K, n⟩ := s
  have h1 : RdK w0 (w.alloc (.cells #[.int .i64 K, .int .i64 n] 104)) r p (canon ld T) := h.below (below_one _ _)
  have hP := kpage_in hL h1 hT n
  have hsz := hL.sz n
  have hW1 : Hid (WrR r w (w.alloc (.cells #[.int .i64 K, .int .i64 n] 104))) := WrR.of (below_one _ _)
  have hlt := h1.lt
  have hlt0 := h.lt.2
  unfold leafR
  dsimp only
  unfold seeT at hP
  obtain ⟨⟨X, E⟩, hld⟩ : ∃ q, ld n = q := ⟨_, rfl⟩
  rw [hld] at hP hsz ⊢
  dsimp only at hP hsz ⊢
  clear hld hL hT h h1
  by_cases hE : E = 0
  · subst hE
    rw [if_pos rfl] at hP
    rw [if_neg (by simp)]
    have hC : Hid (∀ W, Calls Tryz.prog 58 #[.string X] W fun e w' => CBack W X e w') := fun W => cells_any X W (by omega)
    have hempty : isLeaf X = false → cellsS X = [] := fun e => by unfold cellsS; rw [e]; rfl
    unfold leafAt
    unfold CBack at hC
    generalize cellsS X = C at *
    generalize isLeaf X = I at *
    replace hP : Hid (Calls Tryz.prog 34 #[.pointer (some ⟨r, 0, none⟩), .int .i64 n] (w.alloc (.cells #[.int .i64 K, .int .i64 n] 104)) fun e w' => e = .returned (.tuple #[.string X, .int .i64 0]) ∧ RdK w0 w' r p (canon ld (n :: T)) ∧ WrR r (w.alloc (.cells #[.int .i64 K, .int .i64 n] 104)) w') := hP
    have hno : Hid (∀ w', RdK w0 w' r p (canon ld (n :: T)) → WrR r w w' → LeafK w0 w w' r p ld ⟨5, [], n :: T⟩ (.returned (.tuple #[.slice none 0 0, .int .i64 5]))) := fun w' a b => ⟨_, rfl, World.ownsRow_nil _ _ _ _, a, b⟩
    cases I with
    | false =>
      rw [hempty rfl] at hC ⊢
      rw [Bool.false_and, Bool.false_and, cond_false]
      replace hC : Hid _ := hC
      go_enter Tryz.func36, Tryz.ntmps36
      go_upto_region 5 with (first
        | (go_at_call 34; go_fit hP.out; rintro e w1 ⟨rfl, hR, hW⟩; have hkey := slot_kept hW hlt0)
        | (go_at_call 58; go_fit (hC.out _); rintro e w2 ⟨v, rfl, hr2, B2⟩)
        | fail)
      go_quiet (fail)
      go_wp2_with (fail)
      go_ret2
      exact hno.out _ (hR.below (drewN_below B2 _)) (hW1.out.trans (hW.trans (WrR.of (drewN_below B2 _))))
    | true =>
      clear hempty
      cases C with
      | nil =>
        rw [Bool.true_and, Bool.false_and, cond_false]
        replace hC : Hid _ := hC
        go_enter Tryz.func36, Tryz.ntmps36
        go_upto_region 5 with (first
          | (go_at_call 34; go_fit hP.out; rintro e w1 ⟨rfl, hR, hW⟩; have hkey := slot_kept hW hlt0)
          | (go_at_call 58; go_fit (hC.out _); rintro e w2 ⟨v, rfl, hr2, B2⟩)
          | fail)
        obtain ⟨a2, cap2, rfl⟩ : ∃ a2 cap2, v = .slice a2 0 cap2 := by
          rcases hr2.2 with ⟨q, q2⟩ | ⟨g, cap, cur, q, _⟩
          · exact ⟨none, 0, q⟩
          · exact ⟨_, _, q⟩
        go_quiet (fail)
        go_wp2_with (fail)
        go_ret2
        exact hno.out _ (hR.below (drewN_below B2 _)) (hW1.out.trans (hW.trans (WrR.of (drewN_below B2 _))))
      | cons c C =>
        rw [Bool.true_and]
        dsimp only
        have hcr : Hid (∀ (w2 : World) (B : Nat) (v : Value), w2.ownsRow B 108 4 v (c :: C).length (cesV (c :: C)) → ∃ b cap, v = .slice (some ⟨b, 0, none⟩) (C.length + 1) cap ∧ w2.cell? ⟨b, 0, none⟩ = some (.int .i64 c.key)) := fun w2 B v hr => by
          obtain ⟨b, cap, rfl⟩ := own_pos hr (by simp)
          obtain ⟨a', cap', e, hS⟩ := cells_of hr
          simp only [Value.slice.injEq] at e
          obtain ⟨b', off', e2, hcs⟩ := hS.resolve_left (by simp)
          have hc := (hcs 0 (by simp)).1
          rw [e2] at e
          simp at e
          obtain ⟨e1, e3⟩ := e
          obtain ⟨rfl, rfl⟩ := e1
          exact ⟨_, _, rfl, by simpa using hc⟩
        obtain ⟨k, hk⟩ : ∃ k, c.key = k := ⟨_, rfl⟩
        obtain ⟨m, hm⟩ : ∃ m, C.length = m := ⟨_, rfl⟩
        rw [hk, hm] at hcr
        rw [hk]
        replace hm : Hid (C.length = m) := hm
        have hm0 : ¬ ((m : Int) + 1 = 0) := by omega
        have hm1 : ((m : Int) + 1 == 0) = false := by simpa using hm0
        replace hC : Hid _ := hC
        by_cases h1 : k = K
        · subst h1
          rw [decide_eq_true rfl, Bool.true_and]
          by_cases h2 : last < k
          · rw [decide_eq_true h2, cond_true]
            have h3 : ¬ k ≤ last := by omega
            go_enter Tryz.func36, Tryz.ntmps36
            go_upto_region 5 with (first
              | (go_at_call 34; go_fit hP.out; rintro e w1 ⟨rfl, hR, hW⟩; have hkey := slot_kept hW hlt0)
              | (go_at_call 58; go_fit (hC.out _); rintro e w2 ⟨v, rfl, hr2, B2⟩)
              | fail)
            have hrow : Hid (w2.ownsRow w.heap.size 108 4 v (c :: C).length (cesV (c :: C))) := row_low hr2 (Nat.le_trans (Nat.le_of_lt (by rw [World.size_alloc]; omega)) hW.size)
            have kq := below_cell B2 hkey
            obtain ⟨b, cap, rfl, c0⟩ := hcr.out _ _ _ hr2
            replace hr2 : Hid _ := hr2
            go_quiet (fail)
            go_wp2_with (fail)
            go_ret2
            exact ⟨_, rfl, row_below hrow.out (drewN_below (Below.refl _ w2) _), hR.below (drewN_below B2 _), hW1.out.trans (hW.trans (WrR.of (drewN_below B2 _)))⟩
          · rw [decide_eq_false h2, cond_false]
            have h3 : k ≤ last := by omega
            go_enter Tryz.func36, Tryz.ntmps36
            go_upto_region 5 with (first
              | (go_at_call 34; go_fit hP.out; rintro e w1 ⟨rfl, hR, hW⟩; have hkey := slot_kept hW hlt0)
              | (go_at_call 58; go_fit (hC.out _); rintro e w2 ⟨v, rfl, hr2, B2⟩)
              | fail)
            have kq := below_cell B2 hkey
            obtain ⟨b, cap, rfl, c0⟩ := hcr.out _ _ _ hr2
            replace hr2 : Hid _ := hr2
            go_quiet (fail)
            go_wp2_with (fail)
            go_ret2
            exact hno.out _ (hR.below (drewN_below B2 _)) (hW1.out.trans (hW.trans (WrR.of (drewN_below B2 _))))
        · rw [decide_eq_false h1, Bool.false_and, cond_false]
          have h2 : ¬ K = k := fun e => h1 e.symm
          go_enter Tryz.func36, Tryz.ntmps36
          go_upto_region 5 with (first
            | (go_at_call 34; go_fit hP.out; rintro e w1 ⟨rfl, hR, hW⟩; have hkey := slot_kept hW hlt0)
            | (go_at_call 58; go_fit (hC.out _); rintro e w2 ⟨v, rfl, hr2, B2⟩)
            | fail)
          have kq := below_cell B2 hkey
          obtain ⟨b, cap, rfl, c0⟩ := hcr.out _ _ _ hr2
          replace hr2 : Hid _ := hr2
          go_quiet (fail)
          go_wp2_with (fail)
          go_ret2
          exact hno.out _ (hR.below (drewN_below B2 _)) (hW1.out.trans (hW.trans (WrR.of (drewN_below B2 _))))
  · rw [if_neg hE] at hP
    rw [if_pos hE]
    have hEnd : Hid (∀ w', RdK w0 w' r p (canon ld T) → WrR r w w' → LeafK w0 w w' r p ld ⟨E, [], T⟩ (.returned (.tuple #[.slice none 0 0, .int .i64 E]))) := fun w' a b => ⟨_, rfl, World.ownsRow_nil _ _ _ _, a, b⟩
    replace hP : Hid (Calls Tryz.prog 34 #[.pointer (some ⟨r, 0, none⟩), .int .i64 n] (w.alloc (.cells #[.int .i64 K, .int .i64 n] 104)) fun e w' => e = .returned (.tuple #[.string X, .int .i64 E]) ∧ RdK w0 w' r p (canon ld T) ∧ WrR r (w.alloc (.cells #[.int .i64 K, .int .i64 n] 104)) w') := hP
    go_enter Tryz.func36, Tryz.ntmps36
    go_wp2_with (first
      | (go_at_call 34; go_fit hP.out; rintro e w1 ⟨rfl, hR, hW⟩)
      | fail)
    go_ret2
    exact hEnd.out _ hR (hW1.out.trans hW)
end Go.Proofs.YtbkkhafckkndfaaGreat

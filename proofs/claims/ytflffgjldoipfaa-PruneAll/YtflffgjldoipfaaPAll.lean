/-
  PruneAll's walk: boxes with one place in common.
-/
import Derived.Test.YtflffgjldoipfaaPFar
import Derived.Test.YtflffgjldoipfaaVVec
namespace Go.Proofs.Ytflffgjldoipfaa
open Go.RowKit

/-- Boxes around a place, each around the one before. -/
def allB (x y : Int) (k : Nat) : Bx := ⟨x - k, y - 2 * k, x + k, y + k⟩
def allL (x y : Int) (n : Nat) : List Bx := (List.range n).map (allB x y)
theorem allL_len (x y : Int) (n : Nat) : (allL x y n).length = n := by simp [allL]
theorem allL_bx (x y : Int) {n i : Nat} (h : i < n) : bx (allL x y n) i = allB x y i := by simp [bx, allL, List.getD, h]
theorem allL_succ (x y : Int) (n : Nat) : (allL x y (n + 1)).flatMap Bx.row = (allL x y n).flatMap Bx.row ++ (allB x y n).row := by
  unfold allL
  rw [List.range_succ, List.map_append, List.flatMap_append]
  simp
theorem all_mt (x y : Int) {n i j : Nat} (hi : i < n) (hj : j < n) : mt (allL x y n) i j = true := by
  unfold mt
  rw [allL_bx x y hi, allL_bx x y hj, meetB_iff]
  simp only [allB]
  omega
theorem sweep_all {m : Nat → Nat → Bool} : ∀ {l : List Nat}, (∀ a ∈ l, ∀ b ∈ l, m a b = true) → (sweep m l).length * 2 = l.length * (l.length - 1)
  | [], _ => by simp [sweep]
  | a :: r, h => by
    have ih := sweep_all (l := r) (fun x hx y hy => h x (by simp [hx]) y (by simp [hy]))
    have hf : r.filter (m a) = r := List.filter_eq_self.2 (fun b hb => h a (by simp) b (by simp [hb]))
    rw [sweep, hf, List.length_append, List.length_map, List.length_cons, Nat.add_mul, ih]
    cases hr : r.length with
    | zero => simp
    | succ k =>
      simp only [Nat.add_sub_cancel]
      rw [← Nat.mul_add, Nat.mul_comm (k + 1) (2 + k)]
      congr 1
      omega
theorem all_count (x y : Int) (n : Nat) : (prs (allL x y n)).length * 2 = n * (n - 1) := by
  unfold prs
  have := sweep_all (m := mt (allL x y n)) (l := List.range (allL x y n).length) (fun a ha b hb => all_mt x y (by simpa [allL_len] using ha) (by simpa [allL_len] using hb))
  simpa [allL_len] using this
theorem all_first {x y : Int} {n : Nat} {S : List Nat} (hn : 0 < n) (h : IsSorted (allL x y n) S) : S[0]? = some (n - 1) := by
  have hm : n - 1 ∈ S := h.perm.mem_iff.2 (by simp [allL_len]; omega)
  have hl := h.length
  rw [allL_len] at hl
  cases S with
  | nil => simp at hl; omega
  | cons a r =>
    have ha := h.lt (i := a) (by simp)
    rw [allL_len] at ha
    rcases List.mem_cons.1 hm with e | e
    · simp [e]
    · have := (List.pairwise_cons.1 h.sorted).1 _ e
      unfold ltS at this
      rw [allL_bx x y ha, allL_bx x y (by omega)] at this
      simp only [allB] at this
      omega
theorem all_ok {x y : Int} (h1 : x ≤ 1152921504606846976) (h2 : -1152921504606846976 ≤ x) (h3 : y ≤ 1152921504606846976) (h4 : -1152921504606846976 ≤ y) {n : Nat} (hn : n ≤ 30) : ∀ b ∈ allL x y n, b.ok := by
  intro b hb
  obtain ⟨k, hk, rfl⟩ := List.mem_map.1 hb
  have hk := List.mem_range.1 hk
  constructor <;> simp only [allB] <;> exact ⟨by omega, by omega⟩

theorem all_nums (x y : Int) {k : Nat} (hk : k ≤ 30) : ∃ (c : Nat) (D : Int), (prs (allL x y k)).length = c ∧ (k : Int) * ((k : Int) - 1) = D ∧ D.tdiv 2 = c ∧ D / 2 = c ∧ 0 ≤ D ∧ D ≤ 870 := by
  have h := all_count x y k
  have hb : k * (k - 1) ≤ 30 * 29 := Nat.mul_le_mul hk (by omega)
  have e : (k : Int) * ((k : Int) - 1) = ((k * (k - 1) : Nat) : Int) := by
    cases k with
    | zero => simp
    | succ m => simp
  refine ⟨_, _, rfl, rfl, ?_, ?_, ?_, ?_⟩
  · rw [e, ← h, Int.tdiv_eq_ediv_of_nonneg (by omega)]; omega
  · rw [e, ← h]; omega
  · rw [e]; omega
  · rw [e]; omega
theorem first_cell {x y : Int} {k g B n : Nat} {W : World} {E : TypeId} {S : List Nat} (hk : 0 < k) (hS : IsSorted (allL x y k) S) (h : W.ownsRow B E 1 (.slice (some ⟨g, 0, none⟩) k n) k (S.map natV)) : W.cell? ⟨g, 0, none⟩ = some (.int .i64 ((k : Int) - 1)) := by
  rw [h.cellAt 0 (by omega), List.getElem?_map, all_first hk hS]
  simp [natV]
  omega

set_option maxRecDepth 10000 in
set_option maxHeartbeats 4000000 in
theorem all_any (n : Nat) (x y : Int) (hn2 : n ≤ 30) (h1 : x ≤ 1152921504606846976) (h2 : -1152921504606846976 ≤ x) (h3 : y ≤ 1152921504606846976) (h4 : -1152921504606846976 ≤ y) (w : World) :
    Calls Try.prog 7 #[.int .i64 n, .agg #[.int .i64 x, .int .i64 y]] w fun e w' => e = .returned (.bool true) ∧ Below w.heap.size w w' := by
  obtain ⟨i0, hi0, hz0, hz1, hz2⟩ := info_parts info_box
  have g1 : ¬ (n : Int) < 0 := by omega
  have g2 : ¬ (30 : Int) < (n : Int) := by omega
  have g3 : ¬ 1152921504606846976 < x := by omega
  have g4 : ¬ x < -1152921504606846976 := by omega
  have g5 : ¬ 1152921504606846976 < y := by omega
  have g6 : ¬ y < -1152921504606846976 := by omega
  go_enter Try.func7, Try.ntmps7
  go_wp2_with (first
    | (go_at_call 8; go_fit (alive_any _); rintro e V ⟨rfl, hV0⟩))
  have hV : Below w.heap.size w V := on_trans (below1 w _) hV0
  have p0 : V.cell? ⟨w.heap.size, 0, none⟩ = some (.int .i64 x) := (hV0.cell (by simp)).trans (by simp [go_sem])
  have p1 : V.cell? ⟨w.heap.size, 1, none⟩ = some (.int .i64 y) := (hV0.cell (by simp)).trans (by simp [go_sem])
  have hsV := hV0.size
  simp at hsV
  clear hV0
  go_loopw [5, 6] (fun f i wr => ∃ k : Nat, k ≤ n ∧ i = .int .i64 k ∧ wr.ownsRow V.heap.size 28 4 f k ((allL x y k).flatMap Bx.row) ∧ Below V.heap.size V wr) (fun _ i _ => n - (intOf i).toNat)
  case atStart => exact ⟨0, by omega, rfl, World.ownsRow_nil _ _ _ _, Below.refl _ _⟩
  case round =>
    obtain ⟨k, hk, rfl, hF, hB⟩ := hrel
    by_cases hlt : k < n
    · have hi : (k : Int) < (n : Int) := by omega
      have q0 := (hB.cell (p := ⟨w.heap.size, 0, none⟩) hsV).trans p0
      have q1 := (hB.cell (p := ⟨w.heap.size, 1, none⟩) hsV).trans p1
      have HR : Hid ((allB x y k).row = [.int .i64 (x - k), .int .i64 (y - 2 * k), .int .i64 (x + k), .int .i64 (y + k)]) := by show _ = _; simp [allB, Bx.row]
      have hsz := hB.size
      go_wp2_with (first
        | (at_builtin; refine wpList_append_own _ rfl (.tmp 45) (.tmp 66) 22 rfl V.heap.size 28 i0 (.agg #[.int .i64 0, .int .i64 0, .int .i64 0, .int .i64 0]) 4 32 Try.underlying22 hi0 hz0 hz1 hz2 rfl (by decide) u5 _ _ rfl (hF.alloc _) ⟨wr.heap.size, 0, none⟩ 1 1 [.int .i64 (x - k), .int .i64 (y - 2 * k), .int .i64 (x + k), .int .i64 (y + k)] rfl rfl (fun j u hj => by match j, hj with | 0, hj => (simp at hj; subst hj; simp [Addr.add, go_sem]) | 1, hj => (simp at hj; subst hj; simp [Addr.add, go_sem]) | 2, hj => (simp at hj; subst hj; simp [Addr.add, go_sem]) | 3, hj => (simp at hj; subst hj; simp [Addr.add, go_sem])) (fun u hu => by simp at hu; rcases hu with rfl | rfl | rfl | rfl <;> rfl) (by unfold maxLen; omega) (by omega) (by simp; omega) ?_; intro f1 w1 hf1 hg1 _))
      refine ⟨⟨k + 1, by omega, rfl, by rw [allL_succ, HR.out]; exact hf1, (hB.alloc hsz _).grown hg1 (by simp; omega) (fun k hk => (hF.lt k hk).1)⟩, ?_⟩
      simp [intOf]; omega
    · have hi : ¬ (k : Int) < (n : Int) := by omega
      obtain rfl : k = n := by omega
      obtain ⟨a, cap, rfl, hL⟩ := own_boxes hF (allL_len x y k) (all_ok h1 h2 h3 h4 hn2)
      have hP := fun W h => pairs_any (allL x y k) a cap W h (by rw [allL_len]; omega)
      have hS := fun W h => sorted_any (allL x y k) a cap W h (by rw [allL_len]; omega)
      rw [allL_len] at hP hS
      obtain ⟨c, D, hlen, hD, hq, hq2, hD0, hD1⟩ := all_nums x y hn2
      have G := on_trans hV hB
      by_cases hk0 : k = 0
      · have hk1 : (k : Int) < 1 := by omega
        clear hk0 hS
        go_wp2_with (first
          | (go_at_call 9; go_fit (hP _ hL); rintro e W ⟨⟨v, rfl, hv⟩, hW⟩; obtain ⟨a2, cap2, rfl, _⟩ := own_pairs hv rfl; rw [hlen]))
        go_ret
        exact ⟨rfl, on_trans G hW⟩
      · have hk1 : ¬ (k : Int) < 1 := by omega
        clear hk0
        go_wp2_with (first
          | (go_at_call 9; go_fit (hP _ hL); rintro e W ⟨⟨v, rfl, hv⟩, hW⟩; obtain ⟨a2, cap2, rfl, _⟩ := own_pairs hv rfl; rw [hlen]; have hL2 := hL.below hW; have G := on_trans G hW)
          | (go_at_call 10; go_fit (hS _ hL2); rintro e W2 ⟨⟨g2, S2, rfl, hS2, hO2⟩, hW2⟩; have hL2 := hL2.below hW2; have z2 := first_cell (by omega) hS2 hO2; have G := on_trans G hW2))
        go_ret
        exact ⟨rfl, G⟩

set_option maxRecDepth 10000 in
set_option maxHeartbeats 2000000 in
theorem all_out (a x y : Int) (h : ¬ (0 ≤ a ∧ a ≤ 30 ∧ x ≤ 1152921504606846976 ∧ -1152921504606846976 ≤ x ∧ y ≤ 1152921504606846976 ∧ -1152921504606846976 ≤ y)) (w : World) :
    Calls Try.prog 7 #[.int .i64 a, .agg #[.int .i64 x, .int .i64 y]] w fun e w' => e = .returned (.bool true) ∧ Below w.heap.size w w' := by
  have hA : Hid (∀ W, Calls Try.prog 8 #[] W fun e w' => e = .returned (.bool true) ∧ Below W.heap.size W w') := fun W => alive_any W
  have g : a < 0 ∨ (0 ≤ a ∧ 30 < a) ∨ (0 ≤ a ∧ a ≤ 30 ∧ 1152921504606846976 < x) ∨ (0 ≤ a ∧ a ≤ 30 ∧ x ≤ 1152921504606846976 ∧ x < -1152921504606846976) ∨ (0 ≤ a ∧ a ≤ 30 ∧ x ≤ 1152921504606846976 ∧ -1152921504606846976 ≤ x ∧ 1152921504606846976 < y) ∨ (0 ≤ a ∧ a ≤ 30 ∧ x ≤ 1152921504606846976 ∧ -1152921504606846976 ≤ x ∧ y ≤ 1152921504606846976 ∧ y < -1152921504606846976) := by omega
  clear h
  rcases g with g1 | ⟨g1, g2⟩ | ⟨g1, g2, g3⟩ | ⟨g1, g2, g3, g4⟩ | ⟨g1, g2, g3, g4, g5⟩ | ⟨g1, g2, g3, g4, g5, g6⟩
  all_goals
    go_enter Try.func7, Try.ntmps7
    go_wp2_with (first
      | (go_at_call 8; go_fit (hA.out _); rintro e V ⟨rfl, hV⟩))
    go_ret
    exact ⟨rfl, on_trans (below1 w _) hV⟩
end Go.Proofs.Ytflffgjldoipfaa

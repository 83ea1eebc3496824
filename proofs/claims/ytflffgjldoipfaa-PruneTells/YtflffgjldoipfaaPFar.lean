/-
  PruneFar's walk: boxes in a row, apart or not.
-/
import Derived.Test.YtflffgjldoipfaaPAlive
namespace Go.Proofs.Ytflffgjldoipfaa
open Go.RowKit

theorem ltP_ext {l m : List (Nat × Nat)} (hl : l.Pairwise ltP) (hm : m.Pairwise ltP) (h : ∀ p, p ∈ l ↔ p ∈ m) : l = m := by
  have irr : ∀ {l : List (Nat × Nat)}, l.Pairwise ltP → l.Nodup := fun h => h.imp (fun {a b} hab e => by subst e; unfold ltP at hab; omega)
  refine List.Perm.eq_of_pairwise (le := ltP) ?_ hl hm ((List.perm_ext_iff_of_nodup (irr hl) (irr hm)).2 h)
  intro a b _ _ h1 h2
  unfold ltP at *
  omega

/-- Boxes in a row. -/
def farB (c : Int) (k : Nat) : Bx := ⟨(k : Int) * (10 + c), 0, (k : Int) * (10 + c) + 10, 5⟩
def farL (c : Int) (n : Nat) : List Bx := (List.range n).map (farB c)
theorem farL_len (c : Int) (n : Nat) : (farL c n).length = n := by simp [farL]
theorem farL_bx (c : Int) {n i : Nat} (h : i < n) : bx (farL c n) i = farB c i := by simp [bx, farL, List.getD, h]
theorem farL_succ (c : Int) (n : Nat) : (farL c (n + 1)).flatMap Bx.row = (farL c n).flatMap Bx.row ++ (farB c n).row := by
  unfold farL
  rw [List.range_succ, List.map_append, List.flatMap_append]
  simp
theorem far_mt {c : Int} (hc : -2 ≤ c) {n i j : Nat} (hij : i < j) (hj : j < n) : mt (farL c n) i j = decide (j = i + 1 ∧ c ≤ 0) := by
  rw [Bool.eq_iff_iff, decide_eq_true_iff]
  unfold mt
  rw [farL_bx c (by omega), farL_bx c hj, meetB_iff]
  simp only [farB]
  obtain ⟨d, rfl⟩ : ∃ d, j = i + 1 + d := ⟨j - (i + 1), by omega⟩
  have e : ((i + 1 + d : Nat) : Int) * (10 + c) = (i : Int) * (10 + c) + (10 + c) + (d : Int) * (10 + c) := by
    rw [show ((i + 1 + d : Nat) : Int) = (i : Int) + 1 + (d : Int) by omega, Int.add_mul, Int.add_mul]
    omega
  rw [e]
  have h0 : 0 ≤ (i : Int) * (10 + c) := Int.mul_nonneg (by omega) (by omega)
  have h1 : 0 ≤ (d : Int) * (10 + c) := Int.mul_nonneg (by omega) (by omega)
  have h2 : d ≠ 0 → 8 ≤ (d : Int) * (10 + c) := fun hd => by
    have : (1 : Int) * (10 + c) ≤ (d : Int) * (10 + c) := Int.mul_le_mul_of_nonneg_right (by omega) (by omega)
    omega
  constructor
  · rintro ⟨_, h3, _⟩
    have hd : d = 0 := by
      rcases Nat.eq_zero_or_pos d with h | h
      · exact h
      · have := h2 (by omega); omega
    subst hd
    omega
  · rintro ⟨h3, h4⟩
    have hd : d = 0 := by omega
    subst hd
    omega
theorem prs_apart {c : Int} (hc : 0 < c) (n : Nat) : prs (farL c n) = [] := by
  rw [List.eq_nil_iff_forall_not_mem]
  rintro ⟨i, j⟩ h
  obtain ⟨h1, h2, h3⟩ := (prs_mem _ _).1 h
  rw [farL_len] at h2
  rw [far_mt (by omega) h1 h2, decide_eq_true_iff] at h3
  omega
def nextP (n : Nat) : List (Nat × Nat) := (List.range n).map fun i => (i, i + 1)
theorem nextP_len (n : Nat) : (nextP n).length = n := by simp [nextP]
theorem prs_next {c : Int} (hc : -2 ≤ c) (h0 : c ≤ 0) (n : Nat) : prs (farL c n) = nextP (n - 1) := by
  unfold nextP
  refine ltP_ext (prs_sorted _) ?_ ?_
  · rw [List.pairwise_map]
    exact List.pairwise_lt_range.imp (fun h => .inl h)
  · rintro ⟨i, j⟩
    rw [prs_mem, farL_len]
    simp only [List.mem_map, List.mem_range, Prod.mk.injEq]
    constructor
    · rintro ⟨h1, h2, h3⟩
      rw [far_mt hc h1 h2, decide_eq_true_iff] at h3
      exact ⟨i, by omega, rfl, h3.1.symm⟩
    · rintro ⟨k, hk, rfl, rfl⟩
      refine ⟨by omega, by omega, ?_⟩
      rw [far_mt hc (by omega) (by omega), decide_eq_true_iff]
      exact ⟨rfl, h0⟩
theorem far_ok {c : Int} (h1 : -2 ≤ c) (h2 : c ≤ 1073741824) {n : Nat} (hn : n ≤ 30) : ∀ x ∈ farL c n, x.ok := by
  intro x hx
  obtain ⟨k, hk, rfl⟩ := List.mem_map.1 hx
  have hk := List.mem_range.1 hk
  have a := Int.mul_nonneg (a := (k : Int)) (b := 10 + c) (by omega) (by omega)
  have b : (k : Int) * (10 + c) ≤ 30 * (10 + c) := Int.mul_le_mul_of_nonneg_right (by omega) (by omega)
  constructor <;> simp only [farB] <;> exact ⟨by omega, by omega⟩

theorem info_box : (Try.prog.info? 28).map (fun i => (i.zero, i.size, i.bytes)) = some (some (.agg #[.int .i64 0, .int .i64 0, .int .i64 0, .int .i64 0]), 4, 32) := by kernel_rfl

set_option maxRecDepth 10000 in
set_option maxHeartbeats 2000000 in
theorem far_any (n : Nat) (c : Int) (hn : 1 ≤ n) (hn2 : n ≤ 30) (hc : -2 ≤ c) (hc2 : c ≤ 1073741824) (w : World) :
    Calls Try.prog 4 #[.int .i64 n, .int .i64 c] w fun e w' => e = .returned (.bool true) ∧ Below w.heap.size w w' := by
  obtain ⟨i0, hi0, hz0, hz1, hz2⟩ := info_parts info_box
  have g1 : ¬ (n : Int) < 1 := by omega
  have g2 : ¬ (30 : Int) < (n : Int) := by omega
  have g3 : ¬ c < -2 := by omega
  have g4 : ¬ 1073741824 < c := by omega
  go_enter Try.func4, Try.ntmps4
  go_wp2_with (first
    | (go_at_call 8; go_fit (alive_any _); rintro e V ⟨rfl, hV⟩))
  go_loopw [5, 6] (fun f i wr => ∃ k : Nat, k ≤ n ∧ i = .int .i64 k ∧ wr.ownsRow w.heap.size 28 4 f k ((farL c k).flatMap Bx.row) ∧ Below w.heap.size w wr) (fun _ i _ => n - (intOf i).toNat)
  case atStart => exact ⟨0, by omega, rfl, World.ownsRow_nil _ _ _ _, hV⟩
  case round =>
    obtain ⟨k, hk, rfl, hF, hB⟩ := hrel
    by_cases hlt : k < n
    · have hi : (k : Int) < (n : Int) := by omega
      have a1 := Int.mul_nonneg (a := (k : Int)) (b := 10 + c) (by omega) (by omega)
      have a2 : (k : Int) * (10 + c) ≤ 30 * (10 + c) := Int.mul_le_mul_of_nonneg_right (by omega) (by omega)
      obtain ⟨t, ht⟩ : ∃ t, (k : Int) * (10 + c) = t := ⟨_, rfl⟩
      rw [ht] at a1 a2
      have a3 : t ≤ 32212255020 := by omega
      have HR : Hid ((farB c k).row = [.int .i64 t, .int .i64 0, .int .i64 (t + 10), .int .i64 5]) := by show _ = _; simp [farB, Bx.row, ht]
      have hsz := hB.size
      clear a2
      go_wp2_with (first
        | (at_builtin; refine wpList_append_own _ rfl (.tmp 39) (.tmp 46) 22 rfl w.heap.size 28 i0 (.agg #[.int .i64 0, .int .i64 0, .int .i64 0, .int .i64 0]) 4 32 Try.underlying22 hi0 hz0 hz1 hz2 rfl (by decide) u5 _ _ rfl (hF.alloc _) ⟨wr.heap.size, 0, none⟩ 1 1 [.int .i64 t, .int .i64 0, .int .i64 (t + 10), .int .i64 5] rfl rfl (fun j u hj => by match j, hj with | 0, hj => (simp at hj; subst hj; simp [Addr.add, go_sem]) | 1, hj => (simp at hj; subst hj; simp [Addr.add, go_sem]) | 2, hj => (simp at hj; subst hj; simp [Addr.add, go_sem]) | 3, hj => (simp at hj; subst hj; simp [Addr.add, go_sem])) (fun u hu => by simp at hu; rcases hu with rfl | rfl | rfl | rfl <;> rfl) (by unfold maxLen; omega) (by omega) (by simp; omega) ?_; intro f1 w1 hf1 hg1 _))
      refine ⟨⟨k + 1, by omega, rfl, by rw [farL_succ, HR.out]; exact hf1, (hB.alloc hsz _).grown hg1 (by simp; omega) (fun k hk => (hF.lt k hk).1)⟩, ?_⟩
      simp [intOf]; omega
    · have hi : ¬ (k : Int) < (n : Int) := by omega
      obtain rfl : k = n := by omega
      obtain ⟨a, cap, rfl, hL⟩ := own_boxes hF (farL_len c k) (far_ok hc hc2 hn2)
      have hP := fun W h => pairs_any (farL c k) a cap W h (by rw [farL_len]; omega)
      rw [farL_len] at hP
      by_cases h0 : 0 < c
      · rw [prs_apart h0] at hP
        go_wp2_with (first
          | (go_at_call 9; go_fit (hP _ hL); rintro e W ⟨⟨v, rfl, hv⟩, hW⟩; obtain ⟨a2, cap2, rfl, _⟩ := own_pairs hv rfl; simp only [List.length_nil] at hv))
        go_ret
        exact ⟨rfl, on_trans hB hW⟩
      · rw [prs_next hc (by omega)] at hP
        simp only [nextP_len] at hP
        have hne : (((k - 1 : Nat) : Int) != (k : Int) - 1) = false := by simp; omega
        go_wp2_with (first
          | (go_at_call 9; go_fit (hP _ hL); rintro e W ⟨⟨v, rfl, hv⟩, hW⟩; obtain ⟨a2, cap2, rfl, hA⟩ := own_pairs hv (nextP_len _)))
        have hB2 := on_trans hB hW
        clear hv hP hL hF hB hW
        go_loopw [62] (fun i wr => ∃ t : Nat, t ≤ k - 1 ∧ i = .int .i64 t ∧ PairsAt wr a2 ((nextP (k - 1)).map toI) ∧ Below w.heap.size w wr) (fun i _ => k - 1 - (intOf i).toNat)
        case atStart => exact ⟨0, by omega, rfl, hA, hB2⟩
        case round =>
          obtain ⟨t, ht, rfl, hA', hB'⟩ := hrel
          by_cases hlt : t < k - 1
          · have hi2 : (t : Int) < ((k - 1 : Nat) : Int) := by omega
            obtain ⟨b, off, rfl, hc⟩ := hA'.resolve_left (fun e => by have := congrArg List.length e; simp [nextP_len] at this; omega)
            obtain ⟨d0, d1⟩ := hc t (by simpa [nextP_len] using hlt)
            have c0 : wr.cell? ⟨b, off + t * 2, none⟩ = some (.int .i64 t) := by rw [d0]; simp [List.getD, hlt, nextP, toI]
            have c1 : wr.cell? ⟨b, off + t * 2 + 1, none⟩ = some (.int .i64 ((t : Int) + 1)) := by rw [d1]; simp [List.getD, hlt, nextP, toI]
            have hee : ∀ w, (binOp .neq 50 (.agg #[.int .i64 (t : Int), .int .i64 ((t : Int) + 1)]) (.agg #[.int .i64 (t : Int), .int .i64 ((t : Int) + 1)])).run Try.prog w = .ok (.bool false) w := fun w => by rw [ne_pair]; simp
            clear hA hc hB2 d0 d1
            go_wp2_with (fail)
            refine ⟨⟨t + 1, by omega, rfl, hA'.below (below1 _ _), hB'.alloc hB'.size _⟩, ?_⟩
            simp [intOf]; omega
          · have hi2 : ¬ (t : Int) < ((k - 1 : Nat) : Int) := by omega
            go_wp2_with (fail)
            go_ret
            exact ⟨rfl, hB'⟩

set_option maxRecDepth 10000 in
theorem far_out (a c : Int) (h : ¬ (1 ≤ a ∧ a ≤ 30 ∧ -2 ≤ c ∧ c ≤ 1073741824)) (w : World) :
    Calls Try.prog 4 #[.int .i64 a, .int .i64 c] w fun e w' => e = .returned (.bool true) ∧ Below w.heap.size w w' := by
  have hA : Hid (∀ W, Calls Try.prog 8 #[] W fun e w' => e = .returned (.bool true) ∧ Below W.heap.size W w') := fun W => alive_any W
  have g : a < 1 ∨ (1 ≤ a ∧ 30 < a) ∨ (1 ≤ a ∧ a ≤ 30 ∧ c < -2) ∨ (1 ≤ a ∧ a ≤ 30 ∧ -2 ≤ c ∧ 1073741824 < c) := by omega
  clear h
  rcases g with g1 | ⟨g1, g2⟩ | ⟨g1, g2, g3⟩ | ⟨g1, g2, g3, g4⟩
  all_goals
    go_enter Try.func4, Try.ntmps4
    go_wp2_with (first
      | (go_at_call 8; go_fit (hA.out _); rintro e V ⟨rfl, hV⟩))
    go_ret
    exact ⟨rfl, hV⟩
end Go.Proofs.Ytflffgjldoipfaa

/-
  What package root's rootOf, Int, Sqrt and Len do: the whole root, for whatever words; more blocks are in memory, and nothing else.
-/
import Derived.Test.YtnkhknmpffcfbaaGreatQRoot
import Derived.Deep.RegionWith
namespace Go.Proofs.YtnkhknmpffcfbaaGreat
open Go.RowKit

/-- With the root so far x, of which the j lowest bits lack. -/
def OfRel (n x : Int) (j : Nat) : Prop := j ≤ 64 ∧ 0 ≤ x ∧ x % 2 ^ j = 0 ∧ x + 2 ^ j ≤ 18446744073709551616 ∧ x * x ≤ n ∧ n < (x + 2 ^ j) * (x + 2 ^ j)
theorem OfRel.start (n : Int) (l : Nat) (h0 : 0 ≤ n) (hl : l ≤ 128) (hn : n < 2 ^ l) : OfRel n 0 ((l + 1) / 2) := by
  refine ⟨by omega, Int.le_refl 0, Int.zero_emod _, ?_, by omega, ?_⟩
  · rw [Int.zero_add]
    have h : 2 ^ ((l + 1) / 2) ≤ 2 ^ 64 := Nat.pow_le_pow_right (by decide) (by omega)
    have e : ((2 ^ ((l + 1) / 2) : Nat) : Int) = (2 : Int) ^ ((l + 1) / 2) := by simp
    rw [← e]
    omega
  · rw [Int.zero_add, ← Int.pow_add]
    have : 2 ^ l ≤ 2 ^ ((l + 1) / 2 + (l + 1) / 2) := Nat.pow_le_pow_right (by decide) (by omega)
    have : (2 : Int) ^ l ≤ 2 ^ ((l + 1) / 2 + (l + 1) / 2) := by exact_mod_cast this
    omega
theorem OfRel.stop {n x : Int} (h1 : n ≤ 340282366920938463463374607431768211455) (h : OfRel n x 0) : rt n = x := by
  obtain ⟨_, a, _, _, b, c⟩ := h
  exact rt_eq ⟨a, b, by simpa using c⟩ h1
theorem OfRel.bit {n x : Int} {j : Nat} (h : OfRel n x (j + 1)) : bits .or .u64 x (2 ^ j) = x + 2 ^ j ∧ (0 : Int) < 2 ^ j ∧ 0 ≤ x + 2 ^ j ∧ x + 2 ^ j ≤ 18446744073709551615 := by
  obtain ⟨a, b, c, d, _, _⟩ := h
  have p : (0 : Int) < 2 ^ j := by have := Nat.two_pow_pos j; exact_mod_cast this
  have e : (2 : Int) ^ (j + 1) = 2 * 2 ^ j := by rw [Int.pow_succ]; omega
  rw [e] at d
  refine ⟨bits_join .u64 64 (by decide) (fun n h0 h1 => by rw [IntKind.wrap_u64]; omega) (j + 1) _ _ b c (by omega) (by omega) (by rw [e]; omega) (by omega), p, by omega, by omega⟩
theorem OfRel.take {n x : Int} {j : Nat} (h : OfRel n x (j + 1)) (g : (x + 2 ^ j) * (x + 2 ^ j) ≤ n) : OfRel n (x + 2 ^ j) j := by
  obtain ⟨a, b, c, d, f, i⟩ := h
  have p : (0 : Int) < 2 ^ j := by have := Nat.two_pow_pos j; exact_mod_cast this
  have e : (2 : Int) ^ (j + 1) = 2 ^ j + 2 ^ j := by rw [Int.pow_succ]; omega
  rw [e] at d i
  rw [Int.pow_succ] at c
  refine ⟨by omega, by omega, ?_, by omega, g, by rw [Int.add_assoc]; exact i⟩
  rw [Int.add_emod_right]
  exact Int.emod_eq_zero_of_dvd (Int.dvd_trans ⟨2, rfl⟩ (Int.dvd_of_emod_eq_zero c))
theorem OfRel.leave {n x : Int} {j : Nat} (h : OfRel n x (j + 1)) (g : n < (x + 2 ^ j) * (x + 2 ^ j)) : OfRel n x j := by
  obtain ⟨a, b, c, d, f, i⟩ := h
  have p : (0 : Int) < 2 ^ j := by have := Nat.two_pow_pos j; exact_mod_cast this
  have e : (2 : Int) ^ (j + 1) = 2 ^ j + 2 ^ j := by rw [Int.pow_succ]; omega
  rw [e] at d i
  rw [Int.pow_succ] at c
  refine ⟨by omega, b, ?_, by omega, f, g⟩
  exact Int.emod_eq_zero_of_dvd (Int.dvd_trans ⟨2, rfl⟩ (Int.dvd_of_emod_eq_zero c))

set_option maxHeartbeats 1000000 in
theorem rootOf_any (n : Int) (w : World) (h0 : 0 ≤ n) (h1 : n ≤ 340282366920938463463374607431768211455) :
    Calls Tryz.prog 136 #[wide n] w fun e w' => e = .returned (.int .u64 (rt n)) ∧ Grew w w' := by
  have hw : wide n = .agg #[.int .u64 (n / 18446744073709551616), .int .u64 (n % 18446744073709551616)] := rfl
  obtain ⟨W0, hW0⟩ : ∃ W0, W0 = w.alloc (.cells #[.int .u64 (n / 18446744073709551616), .int .u64 (n % 18446744073709551616)] 153) := ⟨_, rfl⟩
  have G0 : Grew w W0 := by rw [hW0]; exact (Grew.refl w).alloc _ _
  have c0 : W0.cell? ⟨w.heap.size, 0, none⟩ = some (.int .u64 (n / 18446744073709551616)) := by rw [hW0]; simp [go_sem]
  have c1 : W0.cell? ⟨w.heap.size, 1, none⟩ = some (.int .u64 (n % 18446744073709551616)) := by rw [hW0]; simp [go_sem]
  rw [hw]
  go_enter Tryz.func136, Tryz.ntmps136
  go_wp2_with (first
    | (go_at_call 153; rw [← hW0, ← hw]; refine (length_any n _ h0 h1).mono ?_; rintro e W1 ⟨⟨l, hl, hn, rfl⟩, G1⟩; have c2 := G1.cell c0; have c3 := G1.cell c1))
  clear c2 c3 hW0
  go_loopw [3, 4] (fun r k v => ∃ (x : Int) (j : Nat), r = .int .u64 x ∧ k = .int .i64 j ∧ OfRel n x j ∧ Grew W0 v) (fun _ k _ => (intOf k).toNat)
  case atStart => exact ⟨0, (l + 1) / 2, rfl, by rw [Int.natCast_ediv]; rfl, OfRel.start n l h0 hl hn, G1⟩
  case round =>
    obtain ⟨x, j, rfl, rfl, R, G⟩ := hrel
    have c2 := G.cell c0
    have c3 := G.cell c1
    cases j with
    | zero =>
      go_wp2
      go_ret
      exact ⟨ret_int (OfRel.stop h1 R).symm, G0.trans G⟩
    | succ j =>
      have hj : ((j + 1 : Nat) : Int) = (j : Int) + 1 := rfl
      rw [hj]
      have hj0 : (0 : Int) ≤ j := by omega
      have hj1 : (j : Int) ≤ 63 := by have := R.1; omega
      obtain ⟨b1, b2, b3, b4⟩ := R.bit
      have bw : IntKind.u64.wrap (2 ^ j) = 2 ^ j := by rw [IntKind.wrap_u64]; have := R.2.1; omega
      obtain ⟨y, hy⟩ : ∃ y : Int, y = x + 2 ^ j := ⟨_, rfl⟩
      have hor : bits .or .u64 x (IntKind.u64.wrap (2 ^ j)) = y := by rw [bw, b1, hy]
      rw [← hy] at b3 b4
      have R1 : Hid (y * y ≤ n → OfRel n y j) := fun g => by rw [hy] at g ⊢; exact R.take g
      have R2 : Hid (n < y * y → OfRel n x j) := fun g => by rw [hy] at g; exact R.leave g
      clear b1 b2 bw hy R
      go_wp2
      go_region_with (first
        | (go_at_call 138; refine (square_any y _ b3 b4).mono ?_; rintro e V1 ⟨rfl, V⟩; have d2 := V.cell c2; have d3 := V.cell c3)
        | (go_at_call 154; rw [← hw]; refine (above_any (y * y) n _).mono ?_; rintro e V2 ⟨rfl, V'⟩))
      all_goals
        have GG : Grew W0 V2 := (G.drew.trans V).trans V'
        by_cases g : n < y * y
        · have gd : decide (n < y * y) = true := decide_eq_true g
          rw [gd]
          have R3 : Hid (OfRel n x j) := R2.out g
          clear g gd
          go_wp2
          go_roundw
          case rel => exact ⟨x, j, rfl, rfl, R3.out, GG⟩
          case measure => simp [intOf]
        · have gd : decide (n < y * y) = false := decide_eq_false g
          rw [gd]
          have R3 : Hid (OfRel n y j) := R1.out (Int.not_lt.1 g)
          clear g gd
          go_wp2
          go_roundw
          case rel => exact ⟨y, j, rfl, rfl, R3.out, GG⟩
          case measure => simp [intOf]

theorem wide_small (n : Int) (h0 : 0 ≤ n) (h1 : n ≤ 18446744073709551615) : wide n = .agg #[.int .u64 0, .int .u64 n] := by
  unfold wide
  rw [show n / 18446744073709551616 = 0 by omega, show n % 18446744073709551616 = n by omega]


set_option maxHeartbeats 400000 in
theorem len_any (x y : Int) (w : World) (hx : inF x) (hy : inF y) :
    Calls Tryz.prog 122 #[.int .i64 x, .int .i64 y] w fun e w' => e = .returned (.tuple #[.int .i64 (lenR x y).1, .int .i64 (lenR x y).2]) ∧ Grew w w' := by
  obtain ⟨s0, s1⟩ := inF_sum hx hy
  obtain ⟨r0, r1⟩ := rt_u64 s0 s1
  have x0 := ab_nonneg x; have x1 := ab_le hx; have y0 := ab_nonneg y; have y1 := ab_le hy
  have q1 := inF_sq hx; have q2 := inF_sq hy
  obtain ⟨r, hr⟩ : ∃ r, rt (x * x + y * y) = r := ⟨_, rfl⟩
  unfold lenR
  rw [hr] at r0 r1 ⊢
  by_cases h : r < 9223372036854775808
  · rw [if_pos h]
    go_enter Tryz.func122, Tryz.ntmps122
    have G := Grew.refl w
    go_wp2_with (first
      | (go_at_call 139; refine (rsize_any _ _ (by assumption)).mono ?_; rintro e w' ⟨rfl, rfl⟩)
      | (go_at_call 138; refine (square_any _ _ (ab_nonneg _) (by omega)).mono ?_; rintro e V ⟨rfl, U⟩; rw [ab_sq]; replace G := G.trans U; clear U)
      | (go_at_call 137; refine (add2_any _ _ _ q1.1 q2.1 s1).mono ?_; rintro e V ⟨rfl, U⟩; replace G := G.trans U; clear U)
      | (go_at_call 136; refine (rootOf_any _ _ s0 s1).mono ?_; rintro e V ⟨rfl, U⟩; rw [hr]; replace G := G.trans U; clear U))
    go_ret2
    exact ⟨rfl, G⟩
  · rw [if_neg h]
    have h' : 9223372036854775808 ≤ r := by omega
    clear h
    go_enter Tryz.func122, Tryz.ntmps122
    have G := Grew.refl w
    go_wp2_with (first
      | (go_at_call 139; refine (rsize_any _ _ (by assumption)).mono ?_; rintro e w' ⟨rfl, rfl⟩)
      | (go_at_call 138; refine (square_any _ _ (ab_nonneg _) (by omega)).mono ?_; rintro e V ⟨rfl, U⟩; rw [ab_sq]; replace G := G.trans U; clear U)
      | (go_at_call 137; refine (add2_any _ _ _ q1.1 q2.1 s1).mono ?_; rintro e V ⟨rfl, U⟩; replace G := G.trans U; clear U)
      | (go_at_call 136; refine (rootOf_any _ _ s0 s1).mono ?_; rintro e V ⟨rfl, U⟩; rw [hr]; replace G := G.trans U; clear U))
    go_ret2
    exact ⟨rfl, G⟩
end Go.Proofs.YtnkhknmpffcfbaaGreat

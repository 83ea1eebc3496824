/-
  The document's own roots (maquetteref1's Root, Calc.Sqrt, Calc.Len): what the plain functions say, for whatever numbers.
-/
import Derived.Test.YtcoooehcgbohgaaGreatPk02
import Derived.Test.YtcoooehcgbohgaaGreatPxRefBase
namespace Go.Proofs.YtcoooehcgbohgaaGreat
open Go.RowKit

/-- The two words of a number. -/
def wordsOf (n h l : Int) : Prop := (0 ≤ n ∧ n ≤ 340282366920938463463374607431768211455) ∧ n / 18446744073709551616 = h ∧ n % 18446744073709551616 = l
theorem OfRel.first (n : Int) (h0 : 0 ≤ n) (h1 : n ≤ 340282366920938463463374607431768211455) : OfRel n 0 64 :=
  ⟨by decide, by decide, by decide, by decide, by omega, by omega⟩
theorem root_test (n y h l : Int) (k : wordsOf n h l) (y0 : 0 ≤ y) (y1 : y ≤ 18446744073709551615) :
    ∃ H L : Int, words y y H L ∧ ((y * y ≤ n ∧ H < h) ∨ (y * y ≤ n ∧ ¬ H < h ∧ H = h ∧ L ≤ l) ∨ (n < y * y ∧ ¬ H < h ∧ H = h ∧ ¬ L ≤ l) ∨ (n < y * y ∧ ¬ H < h ∧ (H == h) = false)) := by
  obtain ⟨_, rfl, rfl⟩ := k
  refine ⟨_, _, ⟨⟨y0, y1⟩, ⟨y0, y1⟩, rfl, rfl⟩, ?_⟩
  generalize y * y = q
  have e : ∀ a b : Int, (a == b) = false ↔ ¬ a = b := fun a b => by simp
  rw [e]
  omega

set_option maxHeartbeats 1000000 in
theorem rroot_any (n h l : Int) (w : World) (k : wordsOf n h l) :
    Calls Tryz.prog 52 #[.int .u64 h, .int .u64 l] w fun e w' => e = .returned (.int .u64 (rt n)) ∧ w' = w := by
  have S := OfRel.first n k.1.1 k.1.2
  have h1 := k.1.2
  have K : Hid (wordsOf n h l) := k
  clear k
  go_enter Tryz.func52, Tryz.ntmps52
  go_wp2
  go_loop [5, 6] (fun r i => ∃ (x : Int) (j : Nat), r = .int .u64 x ∧ i = .int .i64 (j - 1) ∧ OfRel n x j) (fun _ i => (intOf i + 1).toNat)
  case atStart => exact ⟨0, 64, rfl, rfl, S⟩
  case round =>
    clear S
    obtain ⟨x, j, rfl, rfl, R⟩ := hrel
    cases j with
    | zero =>
      have hz : (((0 : Nat) : Int) - 1) = -1 := rfl
      rw [hz]
      go_wp2
      go_ret
      exact ⟨ret_int (OfRel.stop h1 R).symm, rfl⟩
    | succ j =>
      have hj : ((j + 1 : Nat) : Int) - 1 = (j : Int) := by omega
      rw [hj]
      have hj0 : (0 : Int) ≤ j := by omega
      have hj1 : (j : Int) ≤ 63 := by have := R.1; omega
      obtain ⟨b1, b2, b3, b4⟩ := R.bit
      have bw : IntKind.u64.wrap (2 ^ j) = 2 ^ j := by rw [IntKind.wrap_u64]; have := R.2.1; omega
      obtain ⟨y, hy⟩ : ∃ y : Int, y = x + 2 ^ j := ⟨_, rfl⟩
      have hor : bits .or .u64 x (IntKind.u64.wrap (2 ^ j)) = y := by rw [bw, b1, hy]
      rw [← hy] at b3 b4
      have R1 : Hid (y * y ≤ n → OfRel n y j) := fun g => by rw [hy] at g ⊢; exact R.take g
      have R2 : Hid (n < y * y → OfRel n x j) := fun g => by rw [hy] at g; exact R.leave g
      obtain ⟨H, L, kw, t⟩ := root_test n y h l K.out b3 b4
      clear b1 b2 bw hy R hj h1 b3 b4
      rcases t with ⟨t1, t2⟩ | ⟨t1, t2, rfl, t4⟩ | ⟨t1, t2, rfl, t4⟩ | ⟨t1, t2, t3⟩
      · have R3 : Hid (OfRel n y j) := R1.out t1
        clear t1 R1 R2
        go_wp2_with (first | (go_at_call 48; refine (mul64_w kw _).mono ?_; rintro e w' ⟨rfl, rfl⟩))
        refine ⟨⟨y, j, rfl, rfl, R3.out⟩, ?_⟩
        simp [intOf]
      · have R3 : Hid (OfRel n y j) := R1.out t1
        clear t1 R1 R2
        go_wp2_with (first | (go_at_call 48; refine (mul64_w kw _).mono ?_; rintro e w' ⟨rfl, rfl⟩))
        refine ⟨⟨y, j, rfl, rfl, R3.out⟩, ?_⟩
        simp [intOf]
      · have R3 : Hid (OfRel n x j) := R2.out t1
        clear t1 R1 R2
        go_wp2_with (first | (go_at_call 48; refine (mul64_w kw _).mono ?_; rintro e w' ⟨rfl, rfl⟩))
        refine ⟨⟨x, j, rfl, rfl, R3.out⟩, ?_⟩
        simp [intOf]
      · have R3 : Hid (OfRel n x j) := R2.out t1
        clear t1 R1 R2
        go_wp2_with (first | (go_at_call 48; refine (mul64_w kw _).mono ?_; rintro e w' ⟨rfl, rfl⟩))
        refine ⟨⟨x, j, rfl, rfl, R3.out⟩, ?_⟩
        simp [intOf]

theorem sg_sq (a : Int) (h : 0 ≤ a) (h1 : a ≤ 9223372036854775807) : sqR a = sgR false (rt (a * 4294967296)) ∧ 0 ≤ rt (a * 4294967296) ∧ rt (a * 4294967296) ≤ 18446744073709551615 := by
  have k := rt_is (n := a * 4294967296) (by omega) (by omega)
  have e : sqR a = (rt (a * 4294967296), 0) := if_neg (by omega)
  rw [e]
  generalize rt (a * 4294967296) = r at *
  have l : r < 281474976710656 := lt_sq (by decide) (by have := k.2.1; omega)
  have := k.1
  rcases sgR_cases false r with ⟨h, _, _⟩ | ⟨_, _, h⟩ | ⟨h, _, _⟩
  · cases h
  · exact ⟨h.symm, by omega, by omega⟩
  · omega
theorem sg_len (x y : Int) (hx : inF x) (hy : inF y) : lenR x y = sgR false (rt (x * x + y * y)) ∧ 0 ≤ rt (x * x + y * y) ∧ rt (x * x + y * y) ≤ 18446744073709551615 := by
  obtain ⟨s0, s1⟩ := inF_sum hx hy
  refine ⟨?_, rt_u64 s0 s1⟩
  unfold lenR
  generalize rt (x * x + y * y) = r at *
  rcases sgR_cases false r with ⟨h, _, _⟩ | ⟨_, g, h⟩ | ⟨g, _, h⟩
  · cases h
  · rw [h, if_pos g]
  · rw [h, if_neg (by omega)]


theorem two_sums (p q : Int) (p0 : 0 ≤ p) (p1 : p ≤ 85070591730234615865843651857942052864) (q0 : 0 ≤ q) (q1 : q ≤ 85070591730234615865843651857942052864) :
    ∃ S C T : Int, (∀ w, (callFunc 50 #[.int .u64 (p % 18446744073709551616), .int .u64 (q % 18446744073709551616), .int .u64 0]).run Tryz.prog w = .ok (.value (.tuple #[.int .u64 S, .int .u64 C])) w) ∧
      (∀ w, (callFunc 50 #[.int .u64 (p / 18446744073709551616), .int .u64 (q / 18446744073709551616), .int .u64 C]).run Tryz.prog w = .ok (.value (.tuple #[.int .u64 T, .int .u64 0])) w) ∧ wordsOf (p + q) T S := by
  refine ⟨_, _, (p + q) / 18446744073709551616, fun w => call_add64 _ _ _ w (by omega) (by omega) (by omega) (by omega), fun w => ?_, ⟨by omega, rfl, by omega⟩⟩
  rw [call_add64 _ _ _ w (by omega) (by omega) (by omega) (by omega)]
  have e1 : (p / 18446744073709551616 + q / 18446744073709551616 + (p % 18446744073709551616 + q % 18446744073709551616 + 0) / 18446744073709551616) / 18446744073709551616 = 0 := by omega
  have e2 : (p / 18446744073709551616 + q / 18446744073709551616 + (p % 18446744073709551616 + q % 18446744073709551616 + 0) / 18446744073709551616) % 18446744073709551616 = (p + q) / 18446744073709551616 := by omega
  rw [e1, e2]

set_option maxHeartbeats 400000 in
theorem rlen_any (b off : Nat) (x y : Int) (w : World) (hx : inF x) (hy : inF y) (hc : w.cell? ⟨b, off, none⟩ = some (.int .i64 0)) (hf : w.frozen? ⟨b, off, none⟩ = false) :
    Calls Tryz.prog 30 #[.pointer (some ⟨b, off, none⟩), .int .i64 x, .int .i64 y] w fun e w' => e = .returned (.int .i64 (lenR x y).1) ∧ w' = w.setCell ⟨b, off, none⟩ (.int .i64 (lenR x y).2) := by
  obtain ⟨e, r0, r1⟩ := sg_len x y hx hy
  rw [e]
  clear e
  have p := inF_sq hx; have q := inF_sq hy
  obtain ⟨S, C, T, k1, k2, K⟩ := two_sums (x * x) (y * y) p.1 p.2 q.1 q.2
  obtain ⟨r, hr⟩ : ∃ r, rt (x * x + y * y) = r := ⟨_, rfl⟩
  rw [hr] at r0 r1 ⊢
  have HR : Hid (_ = _) := hr
  clear hr p q
  have x0 := ab_nonneg x; have x1 := ab_le hx; have y0 := ab_nonneg y; have y1 := ab_le hy
  have w1 : words (ab x) (ab x) (x * x / 18446744073709551616) (x * x % 18446744073709551616) := ⟨⟨x0, by omega⟩, ⟨x0, by omega⟩, by rw [ab_sq], by rw [ab_sq]⟩
  have w2 : words (ab y) (ab y) (y * y / 18446744073709551616) (y * y % 18446744073709551616) := ⟨⟨y0, by omega⟩, ⟨y0, by omega⟩, by rw [ab_sq], by rw [ab_sq]⟩
  generalize x * x / 18446744073709551616 = a1 at *
  generalize x * x % 18446744073709551616 = a2 at *
  generalize y * y / 18446744073709551616 = b1 at *
  generalize y * y % 18446744073709551616 = b2 at *
  go_enter Tryz.func30, Tryz.ntmps30
  go_wp2_with (first
    | (go_at_call 49; refine (rabs_any _ _ (by assumption)).mono ?_; rintro e w' ⟨rfl, rfl⟩)
    | (go_at_call 48; refine (mul64_w (by assumption) _).mono ?_; rintro e w' ⟨rfl, rfl⟩)
    | (go_at_call 52; refine (rroot_any _ _ _ _ K).mono ?_; rintro e w' ⟨rfl, rfl⟩; rw [HR.out])
    | (go_at_call 51; refine (rsigned_any b off r false _ ⟨r0, r1⟩ hc hf).mono ?_; rintro e w' ⟨rfl, rfl⟩))
  go_ret
  exact ⟨rfl, rfl⟩
end Go.Proofs.YtcoooehcgbohgaaGreat

/-
  Plain numbers, no program in sight: whole roots of numbers of 128 bits. Nothing is claimed here.
-/
import Derived.Test.YtnkhknmpffcfbaaGreatNum
namespace Go.Proofs.YtnkhknmpffcfbaaGreat
open Go Go.RowKit

/-- r is the whole root of n. -/
def isR (n r : Int) : Prop := 0 ≤ r ∧ r * r ≤ n ∧ n < (r + 1) * (r + 1)
theorem sq_lt {a b : Int} (h0 : 0 ≤ a) (h : a < b) : a * a < b * b := by
  have h1 := Int.mul_le_mul_of_nonneg_left (Int.le_of_lt h) h0
  have h2 := Int.mul_lt_mul_of_pos_right h (show 0 < b by omega)
  omega
theorem sq_le {a b : Int} (h0 : 0 ≤ a) (h : a ≤ b) : a * a ≤ b * b := Int.mul_le_mul h h h0 (by omega)
theorem lt_sq {a b : Int} (h0 : 0 ≤ b) (h : a * a < b * b) : a < b := Int.not_le.1 fun g => Int.not_lt.2 (sq_le h0 g) h
theorem le_sq {a b : Int} (h0 : 0 ≤ b) (h : a * a ≤ b * b) : a ≤ b := Int.not_lt.1 fun g => Int.not_le.2 (sq_lt h0 g) h
theorem isR_mono {m n r s : Int} (h : isR m r) (g : isR n s) (hmn : m ≤ n) : r ≤ s := by
  have := lt_sq (a := r) (b := s + 1) (by have := g.1; omega) (by have := h.2.1; have := g.2.2; omega)
  omega
theorem isR_one {n r s : Int} (h : isR n r) (g : isR n s) : r = s := Int.le_antisymm (isR_mono h g (Int.le_refl n)) (isR_mono g h (Int.le_refl n))
/-- The root, digit by digit. -/
def rtW (n : Nat) : Int := if h : n = 0 then 0 else if (2 * rtW (n / 4) + 1) * (2 * rtW (n / 4) + 1) ≤ (n : Int) then 2 * rtW (n / 4) + 1 else 2 * rtW (n / 4)
theorem rtW_is : ∀ (f n : Nat), n < 4 ^ f → isR n (rtW n)
  | 0, n, h => by
    have : n = 0 := by simp at h; omega
    subst this; rw [rtW]; exact ⟨by decide, by decide, by decide⟩
  | f + 1, n, h => by
    obtain ⟨g0, g1, g2⟩ := rtW_is f (n / 4) (by rw [Nat.pow_succ] at h; omega)
    rw [rtW]
    by_cases hz : n = 0
    · rw [dif_pos hz, hz]; exact ⟨by decide, by decide, by decide⟩
    rw [dif_neg hz]
    generalize rtW (n / 4) = r at *
    have e1 : (2 * r) * (2 * r) = 4 * (r * r) := by grind
    have e2 : (2 * r + 1 + 1) * (2 * r + 1 + 1) = 4 * ((r + 1) * (r + 1)) := by grind
    generalize r * r = p at *
    generalize (r + 1) * (r + 1) = q at *
    split
    · refine ⟨by omega, by assumption, by rw [e2]; omega⟩
    · refine ⟨by omega, by rw [e1]; omega, by omega⟩
/-- The whole root of a number that is not below 0. -/
def rt (n : Int) : Int := rtW n.toNat
theorem rt_is {n : Int} (h0 : 0 ≤ n) (_ : n ≤ 340282366920938463463374607431768211455) : isR n (rt n) := by
  obtain ⟨m, rfl⟩ := Int.eq_ofNat_of_zero_le h0
  exact rtW_is m m (Nat.lt_pow_self (by decide))
theorem rt_eq {n r : Int} (h : isR n r) (h1 : n ≤ 340282366920938463463374607431768211455) : rt n = r :=
  isR_one (rt_is (by have := h.2.1; have := Int.mul_nonneg h.1 h.1; omega) h1) h
/-- With the root so far r, of which the bits below the k-th lack: one bit more, taken or not. -/
theorem rt_take (n r p : Int) (h : n < (r + 2 * p) * (r + 2 * p)) (g : (r + p) * (r + p) ≤ n) : (r + p) * (r + p) ≤ n ∧ n < (r + p + p) * (r + p + p) := ⟨g, by rw [show r + p + p = r + 2 * p by omega]; exact h⟩
/-- The two words of a number hold the order. -/
theorem two_words (a b : Int) : (b / 18446744073709551616 < a / 18446744073709551616 ∨ (a / 18446744073709551616 = b / 18446744073709551616 ∧ b % 18446744073709551616 < a % 18446744073709551616)) ↔ b < a := by omega
theorem sq_fits {a : Int} (h0 : 0 ≤ a) (h1 : a ≤ 18446744073709551615) : 0 ≤ a * a ∧ a * a ≤ 340282366920938463426481119284349108225 := ⟨Int.mul_nonneg h0 h0, by have := sq_le h0 h1; omega⟩
theorem rt_u64 {n : Int} (h0 : 0 ≤ n) (h1 : n ≤ 340282366920938463463374607431768211455) : 0 ≤ rt n ∧ rt n ≤ 18446744073709551615 := by
  have h := rt_is h0 h1
  refine ⟨h.1, ?_⟩
  have := lt_sq (a := rt n) (b := 18446744073709551616) (by decide) (by have := h.2.1; omega)
  omega

/-- What Sqrt answers. -/
def sqR (a : Int) : Int × Int := if a < 0 then (0, 9) else (rt (a * 4294967296), 0)
/-- What Len answers. -/
def lenR (x y : Int) : Int × Int := if rt (x * x + y * y) < 9223372036854775808 then (rt (x * x + y * y), 0) else (0, 3)
theorem ab_sq (x : Int) : ab x * ab x = x * x := by rcases ab_of x with ⟨_, h⟩ | ⟨_, h⟩ <;> rw [h] <;> grind
theorem inF_sq {x : Int} (h : inF x) : 0 ≤ x * x ∧ x * x ≤ 85070591730234615865843651857942052864 := by
  rw [← ab_sq]
  exact ⟨Int.mul_nonneg (ab_nonneg x) (ab_nonneg x), by have := sq_le (ab_nonneg x) (ab_le h); omega⟩
theorem inF_sum {x y : Int} (h : inF x) (g : inF y) : 0 ≤ x * x + y * y ∧ x * x + y * y ≤ 340282366920938463463374607431768211455 := by
  have := inF_sq h; have := inF_sq g; omega
end Go.Proofs.YtnkhknmpffcfbaaGreat

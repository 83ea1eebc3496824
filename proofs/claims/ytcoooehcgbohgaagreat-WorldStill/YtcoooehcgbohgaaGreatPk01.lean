/-
  Plain numbers, no program in sight: what chapter 1's calls answer, as functions of whole numbers, and the bits that the code looks at. Nothing is claimed here. Boxes as plain numbers, and which two meet. Nothing is claimed here. A place as a value. Nothing is claimed here. Plain numbers, no program in sight: whole roots of numbers of 128 bits. Nothing is claimed here. Plain numbers: what the laws of chapter 1 lean on: products and quotients by One, signs turned, halves, orders. No program in sight. Nothing is claimed here. What math/bits.Mul64 does: the two words of a product, for whatever uint64s; the world is as it was. What each call of package fix does, but for Div: for whatever int64s it returns what the plain function of the Num text says, and the world is as it was. Plain numbers: the school division of 128 bits by 64 in two digits of 32 bits, as math/bits.Div64 does it: no program in sight. Nothing is claimed here. What math/bits.Len64 does: how many bits a uint64 has; the world is as it was. Lists of boxes: who meets whom, in order; their order by their left edges. No program in sight; nothing is claimed here.
-/
import Derived.WalkKit
import Derived.Laws.BitsLemmas
import Derived.Laws.Bits64b
import Derived.Test.YtcoooehcgbohgaaGreatRows
import Derived.WalkSpells
import Derived.WalkLawsBesides
import Derived.Lib.BitFns
import Derived.Lib.Small
import Derived.Lib.Walk
namespace Go.Proofs.YtcoooehcgbohgaaGreat
open Go Go.RowKit

/-- What an int64 can be. -/
def inF (x : Int) : Prop := -9223372036854775808 ≤ x ∧ x ≤ 9223372036854775807
/-- The amount of a number. -/
def ab (x : Int) : Int := if x < 0 then -x else x
/-- A number of an amount and a sign, or the error 3. -/
def sgR (neg : Bool) (m : Int) : Int × Int := if neg = true then (if m ≤ 9223372036854775808 then (-m, 0) else (0, 3)) else (if m < 9223372036854775808 then (m, 0) else (0, 3))
/-- What is in the range, or the error 3. -/
def inR (x : Int) : Int × Int := if -9223372036854775808 ≤ x ∧ x ≤ 9223372036854775807 then (x, 0) else (0, 3)
def sgn (a b : Int) : Bool := decide (a < 0) != decide (b < 0)
def mulM (a b : Int) : Int := ab a * ab b / 4294967296
def divM (a b : Int) : Int := ab a * 4294967296 / ab b
def addR (a b : Int) : Int × Int := inR (a + b)
def subR (a b : Int) : Int × Int := inR (a - b)
def mulR (a b : Int) : Int × Int := sgR (sgn a b) (mulM a b)
def divR (a b : Int) : Int × Int := if b = 0 then (0, 4) else sgR (sgn a b) (divM a b)
def ofR (n : Int) : Int × Int := inR (n * 4294967296)

theorem inF_wf {x : Int} (h : (Lit.int .i64 x).wf = true) : inF x := by
  simp [Lit.wf, IntKind.min, IntKind.max, IntKind.signed, IntKind.bits] at h
  exact ⟨by omega, by omega⟩
theorem inR_ok {x : Int} (h : -9223372036854775808 ≤ x ∧ x ≤ 9223372036854775807) : inR x = (x, 0) := by unfold inR; rw [if_pos h]
theorem inR_no {x : Int} (h : ¬ (-9223372036854775808 ≤ x ∧ x ≤ 9223372036854775807)) : inR x = (0, 3) := by unfold inR; rw [if_neg h]
theorem inR_cases (x : Int) : (inR x = (x, 0) ∧ -9223372036854775808 ≤ x ∧ x ≤ 9223372036854775807) ∨ (inR x = (0, 3) ∧ ¬ (-9223372036854775808 ≤ x ∧ x ≤ 9223372036854775807)) := by
  by_cases h : -9223372036854775808 ≤ x ∧ x ≤ 9223372036854775807
  · exact Or.inl ⟨inR_ok h, h⟩
  · exact Or.inr ⟨inR_no h, h⟩
theorem inR_in (x : Int) : inF (inR x).1 ∧ 0 ≤ (inR x).2 ∧ (inR x).2 ≤ 3 := by
  rcases inR_cases x with ⟨h, g⟩ | ⟨h, g⟩ <;> rw [h]
  · exact ⟨g, Int.le_refl 0, show (0 : Int) ≤ 3 by decide⟩
  · exact ⟨⟨by decide, by decide⟩, by decide, by decide⟩
theorem ab_of (x : Int) : (x < 0 ∧ ab x = -x) ∨ (0 ≤ x ∧ ab x = x) := by
  unfold ab; split
  · exact Or.inl ⟨by assumption, rfl⟩
  · exact Or.inr ⟨by omega, rfl⟩
theorem ab_nonneg (x : Int) : 0 ≤ ab x := by have := ab_of x; omega
theorem ab_le {x : Int} (h : inF x) : ab x ≤ 9223372036854775808 := by have := ab_of x; unfold inF at h; omega
theorem ab_neg (x : Int) : ab (-x) = ab x := by have := ab_of x; have := ab_of (-x); omega
theorem ab_pos {x : Int} (h : x ≠ 0) : 1 ≤ ab x := by have := ab_of x; omega
theorem sgR_cases (neg : Bool) (m : Int) :
    (neg = true ∧ m ≤ 9223372036854775808 ∧ sgR neg m = (-m, 0)) ∨ (neg = false ∧ m < 9223372036854775808 ∧ sgR neg m = (m, 0)) ∨ (9223372036854775808 ≤ m ∧ ¬ (neg = true ∧ m = 9223372036854775808) ∧ sgR neg m = (0, 3)) := by
  unfold sgR
  cases neg
  · rw [if_neg (by decide)]
    by_cases h : m < 9223372036854775808
    · rw [if_pos h]; exact Or.inr (Or.inl ⟨rfl, h, rfl⟩)
    · rw [if_neg h]; exact Or.inr (Or.inr ⟨by omega, by simp, rfl⟩)
  · rw [if_pos rfl]
    by_cases h : m ≤ 9223372036854775808
    · rw [if_pos h]; exact Or.inl ⟨rfl, h, rfl⟩
    · rw [if_neg h]; exact Or.inr (Or.inr ⟨by omega, by omega, rfl⟩)
theorem sgR_in (neg : Bool) (m : Int) (h0 : 0 ≤ m) : inF (sgR neg m).1 ∧ 0 ≤ (sgR neg m).2 ∧ (sgR neg m).2 ≤ 3 := by
  unfold inF
  rcases sgR_cases neg m with ⟨_, _, h⟩ | ⟨_, _, h⟩ | ⟨_, _, h⟩ <;> rw [h] <;> simp <;> omega
theorem mulM_nonneg (a b : Int) : 0 ≤ mulM a b := Int.ediv_nonneg (Int.mul_nonneg (ab_nonneg a) (ab_nonneg b)) (by decide)
theorem divM_nonneg (a b : Int) : 0 ≤ divM a b := Int.ediv_nonneg (Int.mul_nonneg (ab_nonneg a) (by decide)) (ab_nonneg b)
theorem mulM_comm (a b : Int) : mulM a b = mulM b a := by unfold mulM; rw [Int.mul_comm]
theorem sgn_comm (a b : Int) : sgn a b = sgn b a := by unfold sgn; cases decide (a < 0) <;> cases decide (b < 0) <;> rfl
theorem addR_comm (a b : Int) : addR a b = addR b a := by unfold addR; rw [Int.add_comm]
theorem mulR_comm (a b : Int) : mulR a b = mulR b a := by unfold mulR; rw [mulM_comm, sgn_comm]
theorem mulR_in (a b : Int) : inF (mulR a b).1 ∧ 0 ≤ (mulR a b).2 ∧ (mulR a b).2 ≤ 3 := sgR_in _ _ (mulM_nonneg a b)
theorem divR_in (a b : Int) : inF (divR a b).1 ∧ 0 ≤ (divR a b).2 ∧ (divR a b).2 ≤ 4 := by
  unfold divR
  by_cases h : b = 0
  · rw [if_pos h]; exact ⟨⟨by decide, by decide⟩, by decide, by decide⟩
  · rw [if_neg h]; have := sgR_in (sgn a b) (divM a b) (divM_nonneg a b); exact ⟨this.1, this.2.1, by omega⟩

/-! ### Bits of an int64, and of a uint64 -/
theorem i64_wrap_lt0 (v : BitVec 64) : IntKind.i64.wrap (v.toNat : Int) < 0 ↔ v.msb = true := by
  rw [IntKind.wrap_i64, BitVec.msb_eq_decide]
  have := v.isLt
  simp
  omega
theorem ofInt_msb (x : Int) (h : -9223372036854775808 ≤ x ∧ x ≤ 9223372036854775807) : (BitVec.ofInt 64 x).msb = decide (x < 0) := by
  rw [BitVec.msb_eq_decide]
  simp [BitVec.toNat_ofInt]
  omega
theorem bits_and_lt0 (x y : Int) (hx : -9223372036854775808 ≤ x ∧ x ≤ 9223372036854775807) (hy : -9223372036854775808 ≤ y ∧ y ≤ 9223372036854775807) :
    bits .and .i64 x y < 0 ↔ x < 0 ∧ y < 0 := by
  unfold bits
  show IntKind.i64.wrap (((BitVec.ofInt 64 x &&& BitVec.ofInt 64 y : BitVec 64)).toNat : Int) < 0 ↔ _
  rw [i64_wrap_lt0, BitVec.msb_and, ofInt_msb x hx, ofInt_msb y hy]
  simp
theorem bits_xor_lt0 (x y : Int) (hx : -9223372036854775808 ≤ x ∧ x ≤ 9223372036854775807) (hy : -9223372036854775808 ≤ y ∧ y ≤ 9223372036854775807) :
    bits .xor .i64 x y < 0 ↔ ¬ (x < 0 ↔ y < 0) := by
  unfold bits
  show IntKind.i64.wrap (((BitVec.ofInt 64 x ^^^ BitVec.ofInt 64 y : BitVec 64)).toNat : Int) < 0 ↔ _
  rw [i64_wrap_lt0, BitVec.msb_xor, ofInt_msb x hx, ofInt_msb y hy]
  by_cases h1 : x < 0 <;> by_cases h2 : y < 0 <;> simp [h1, h2]
theorem bits_in (op : BinOp) (x y : Int) : -9223372036854775808 ≤ bits op .i64 x y ∧ bits op .i64 x y ≤ 9223372036854775807 := bits_within op .i64 x y
theorem wrap64_of (x : Int) : wrap64 x = (x + 9223372036854775808) % 18446744073709551616 - 9223372036854775808 := by unfold wrap64; rfl
theorem add_bits (a b : Int) (ha : inF a) (hb : inF b) :
    bits .and .i64 (bits .xor .i64 a (wrap64 (a + b))) (bits .xor .i64 b (wrap64 (a + b))) < 0 ↔ ¬ (-9223372036854775808 ≤ a + b ∧ a + b ≤ 9223372036854775807) := by
  unfold inF at ha hb
  have hw : -9223372036854775808 ≤ wrap64 (a + b) ∧ wrap64 (a + b) ≤ 9223372036854775807 := by rw [wrap64_of]; omega
  rw [bits_and_lt0 _ _ (bits_in _ _ _) (bits_in _ _ _), bits_xor_lt0 _ _ ha hw, bits_xor_lt0 _ _ hb hw, wrap64_of]
  omega
theorem sub_bits (a b : Int) (ha : inF a) (hb : inF b) :
    bits .and .i64 (bits .xor .i64 a b) (bits .xor .i64 a (wrap64 (a - b))) < 0 ↔ ¬ (-9223372036854775808 ≤ a - b ∧ a - b ≤ 9223372036854775807) := by
  unfold inF at ha hb
  have hw : -9223372036854775808 ≤ wrap64 (a - b) ∧ wrap64 (a - b) ≤ 9223372036854775807 := by rw [wrap64_of]; omega
  rw [bits_and_lt0 _ _ (bits_in _ _ _) (bits_in _ _ _), bits_xor_lt0 _ _ ha hb, bits_xor_lt0 _ _ ha hw, wrap64_of]
  omega
/-- Two halves of a uint64 that do not meet. -/
theorem or_halves (h l : Int) (h0 : 0 ≤ h) (h1 : h < 4294967296) (l0 : 0 ≤ l) (l1 : l < 4294967296) : bits .or .u64 (h * 4294967296) l = h * 4294967296 + l :=
  bits_join .u64 64 (by decide) (fun n h0 h1 => by rw [IntKind.wrap_u64]; omega) 32 _ _ (by omega) (by omega) (by omega) (by omega) (by omega) (by omega)
end Go.Proofs.YtcoooehcgbohgaaGreat

namespace Go.Proofs.YtcoooehcgbohgaaGreat
open Go Go.RowKit

/-- A box: its low corner (l, m), its high one (h, k). -/
structure Bx where
  l : Int
  m : Int
  h : Int
  k : Int
/-- .. as the code has it. -/
def Bx.val (b : Bx) : Value := .agg #[.int .i64 b.l, .int .i64 b.m, .int .i64 b.h, .int .i64 b.k]
/-- .. its cells. -/
def Bx.row (b : Bx) : List Value := [.int .i64 b.l, .int .i64 b.m, .int .i64 b.h, .int .i64 b.k]
structure Bx.ok (b : Bx) : Prop where
  l : inF b.l
  m : inF b.m
  h : inF b.h
  k : inF b.k

def noneB (x y u v : Int) : Bool := decide (x ≤ u ∧ y ≤ v)
def meetB (a b : Bx) : Bool := noneB a.l a.m b.h b.k && noneB b.l b.m a.h a.k
theorem noneB_iff (x y u v : Int) : noneB x y u v = true ↔ x ≤ u ∧ y ≤ v := by unfold noneB; simp
theorem meetB_iff (a b : Bx) : meetB a b = true ↔ (a.l ≤ b.h ∧ a.m ≤ b.k) ∧ b.l ≤ a.h ∧ b.m ≤ a.k := by unfold meetB; rw [Bool.and_eq_true, noneB_iff, noneB_iff]
end Go.Proofs.YtcoooehcgbohgaaGreat

namespace Go.Proofs.YtcoooehcgbohgaaGreat
open Go Go.RowKit

/-- A place as the code has it. -/
def vec (x y : Int) : Value := .agg #[.int .i64 x, .int .i64 y]
end Go.Proofs.YtcoooehcgbohgaaGreat

namespace Go.Proofs.YtcoooehcgbohgaaGreat
open Go Go.RowKit

/-- r is the whole root of n. -/
def isR (n r : Int) : Prop := 0 ≤ r ∧ r * r ≤ n ∧ n < (r + 1) * (r + 1)
theorem sq_lt {a b : Int} (h0 : 0 ≤ a) (h : a < b) : a * a < b * b := by
  have h1 := Int.mul_le_mul_of_nonneg_left (Int.le_of_lt h) h0
  have h2 := Int.mul_lt_mul_of_pos_right h (show 0 < b by omega)
  omega
theorem sq_le {a b : Int} (h0 : 0 ≤ a) (h : a ≤ b) : a * a ≤ b * b := Int.mul_le_mul h h h0 (by omega)
theorem lt_sq {a b : Int} (h0 : 0 ≤ b) (h : a * a < b * b) : a < b := Int.not_le.1 fun g => Int.not_lt.2 (sq_le h0 g) h
theorem le_sq {a b : Int} (h0 : 0 ≤ b) (h : a * a ≤ b * b) : a ≤ b := Int.not_lt.1 fun g => Int.not_le.2 (sq_lt h0 g) h
theorem isR_mono {m n r s : Int} (h : isR m r) (g : isR n s) (hmn : m ≤ n) : r ≤ s := by
  have := lt_sq (a := r) (b := s + 1) (by have := g.1; omega) (by have := h.2.1; have := g.2.2; omega)
  omega
theorem isR_one {n r s : Int} (h : isR n r) (g : isR n s) : r = s := Int.le_antisymm (isR_mono h g (Int.le_refl n)) (isR_mono g h (Int.le_refl n))
/-- The root, digit by digit. -/
def rtW (n : Nat) : Int := if h : n = 0 then 0 else if (2 * rtW (n / 4) + 1) * (2 * rtW (n / 4) + 1) ≤ (n : Int) then 2 * rtW (n / 4) + 1 else 2 * rtW (n / 4)
theorem rtW_is : ∀ (f n : Nat), n < 4 ^ f → isR n (rtW n)
  | 0, n, h => by
    have : n = 0 := by simp at h; omega
    subst this; rw [rtW]; exact ⟨by decide, by decide, by decide⟩
  | f + 1, n, h => by
    obtain ⟨g0, g1, g2⟩ := rtW_is f (n / 4) (by rw [Nat.pow_succ] at h; omega)
    rw [rtW]
    by_cases hz : n = 0
    · rw [dif_pos hz, hz]; exact ⟨by decide, by decide, by decide⟩
    rw [dif_neg hz]
    generalize rtW (n / 4) = r at *
    have e1 : (2 * r) * (2 * r) = 4 * (r * r) := by grind
    have e2 : (2 * r + 1 + 1) * (2 * r + 1 + 1) = 4 * ((r + 1) * (r + 1)) := by grind
    generalize r * r = p at *
    generalize (r + 1) * (r + 1) = q at *
    split
    · refine ⟨by omega, by assumption, by rw [e2]; omega⟩
    · refine ⟨by omega, by rw [e1]; omega, by omega⟩
/-- The whole root of a number that is not below 0. -/
def rt (n : Int) : Int := rtW n.toNat
theorem rt_is {n : Int} (h0 : 0 ≤ n) (_ : n ≤ 340282366920938463463374607431768211455) : isR n (rt n) := by
  obtain ⟨m, rfl⟩ := Int.eq_ofNat_of_zero_le h0
  exact rtW_is m m (Nat.lt_pow_self (by decide))
theorem rt_eq {n r : Int} (h : isR n r) (h1 : n ≤ 340282366920938463463374607431768211455) : rt n = r :=
  isR_one (rt_is (by have := h.2.1; have := Int.mul_nonneg h.1 h.1; omega) h1) h
/-- With the root so far r, of which the bits below the k-th lack: one bit more, taken or not. -/
theorem rt_take (n r p : Int) (h : n < (r + 2 * p) * (r + 2 * p)) (g : (r + p) * (r + p) ≤ n) : (r + p) * (r + p) ≤ n ∧ n < (r + p + p) * (r + p + p) := ⟨g, by rw [show r + p + p = r + 2 * p by omega]; exact h⟩
/-- The two words of a number hold the order. -/
theorem two_words (a b : Int) : (b / 18446744073709551616 < a / 18446744073709551616 ∨ (a / 18446744073709551616 = b / 18446744073709551616 ∧ b % 18446744073709551616 < a % 18446744073709551616)) ↔ b < a := by omega
theorem sq_fits {a : Int} (h0 : 0 ≤ a) (h1 : a ≤ 18446744073709551615) : 0 ≤ a * a ∧ a * a ≤ 340282366920938463426481119284349108225 := ⟨Int.mul_nonneg h0 h0, by have := sq_le h0 h1; omega⟩
theorem rt_u64 {n : Int} (h0 : 0 ≤ n) (h1 : n ≤ 340282366920938463463374607431768211455) : 0 ≤ rt n ∧ rt n ≤ 18446744073709551615 := by
  have h := rt_is h0 h1
  refine ⟨h.1, ?_⟩
  have := lt_sq (a := rt n) (b := 18446744073709551616) (by decide) (by have := h.2.1; omega)
  omega

/-- What Sqrt answers. -/
def sqR (a : Int) : Int × Int := if a < 0 then (0, 9) else (rt (a * 4294967296), 0)
/-- What Len answers. -/
def lenR (x y : Int) : Int × Int := if rt (x * x + y * y) < 9223372036854775808 then (rt (x * x + y * y), 0) else (0, 3)
theorem ab_sq (x : Int) : ab x * ab x = x * x := by rcases ab_of x with ⟨_, h⟩ | ⟨_, h⟩ <;> rw [h] <;> grind
theorem inF_sq {x : Int} (h : inF x) : 0 ≤ x * x ∧ x * x ≤ 85070591730234615865843651857942052864 := by
  rw [← ab_sq]
  exact ⟨Int.mul_nonneg (ab_nonneg x) (ab_nonneg x), by have := sq_le (ab_nonneg x) (ab_le h); omega⟩
theorem inF_sum {x y : Int} (h : inF x) (g : inF y) : 0 ≤ x * x + y * y ∧ x * x + y * y ≤ 340282366920938463463374607431768211455 := by
  have := inF_sq h; have := inF_sq g; omega
end Go.Proofs.YtcoooehcgbohgaaGreat

namespace Go.Proofs.YtcoooehcgbohgaaGreat
open Go Go.RowKit

theorem sgR_neg (m : Int) (h : m ≤ 9223372036854775808) : sgR true m = (-m, 0) := by unfold sgR; rw [if_pos rfl, if_pos h]
theorem sgR_pos (m : Int) (h : m < 9223372036854775808) : sgR false m = (m, 0) := by unfold sgR; rw [if_neg (by decide), if_pos h]
theorem sgR_zero (b : Bool) : sgR b 0 = (0, 0) := by cases b <;> decide
theorem sgn_one {a c : Int} (hc : 0 ≤ c) : sgn a c = decide (a < 0) := by
  unfold sgn; rw [show decide (c < 0) = false by simp; omega]; cases decide (a < 0) <;> rfl
/-- A number of its own amount and sign. -/
theorem sgR_self {a : Int} (ha : inF a) : sgR (decide (a < 0)) (ab a) = (a, 0) := by
  unfold inF at ha
  rcases ab_of a with ⟨h, e⟩ | ⟨h, e⟩
  · rw [e, show decide (a < 0) = true by simp [h], sgR_neg _ (by omega), Int.neg_neg]
  · rw [e, show decide (a < 0) = false by simp; omega, sgR_pos _ (by omega)]
theorem mulR_one {a : Int} (ha : inF a) : mulR a 4294967296 = (a, 0) := by
  unfold mulR mulM
  rw [sgn_one (by decide), show ab 4294967296 = 4294967296 by decide, Int.mul_ediv_cancel _ (by decide), sgR_self ha]
theorem mulR_zero (a : Int) : mulR a 0 = (0, 0) := by
  unfold mulR mulM
  rw [show ab 0 = 0 by decide, Int.mul_zero, Int.zero_ediv, sgR_zero]
theorem divR_one {a : Int} (ha : inF a) : divR a 4294967296 = (a, 0) := by
  unfold divR divM
  rw [if_neg (by decide), sgn_one (by decide), show ab 4294967296 = 4294967296 by decide, Int.mul_ediv_cancel _ (by decide), sgR_self ha]
theorem divR_zero (a : Int) : divR a 0 = (0, 4) := by unfold divR; rw [if_pos rfl]
/-- What a product, or a quotient, that is told can be. -/
theorem sgR_told (a b m : Int) (h0 : 0 ≤ m) : sgR (sgn a b) m = (0, 3) ∨ ∃ q, sgR (sgn a b) m = (q, 0) ∧ inF q ∧ (q = 0 ∨ (0 < q ∧ (a < 0 ↔ b < 0)) ∨ (q < 0 ∧ ¬ (a < 0 ↔ b < 0))) := by
  rcases sgR_cases (sgn a b) m with ⟨h1, h2, h3⟩ | ⟨h1, h2, h3⟩ | ⟨h1, h2, h3⟩
  · refine Or.inr ⟨-m, h3, ⟨by omega, by omega⟩, ?_⟩
    have : ¬ (a < 0 ↔ b < 0) := by
      unfold sgn at h1; by_cases x : a < 0 <;> by_cases y : b < 0 <;> simp [x, y] at h1 ⊢
    by_cases z : m = 0
    · exact Or.inl (by omega)
    · exact Or.inr (Or.inr ⟨by omega, this⟩)
  · refine Or.inr ⟨m, h3, ⟨by omega, by omega⟩, ?_⟩
    have : a < 0 ↔ b < 0 := by
      unfold sgn at h1; by_cases x : a < 0 <;> by_cases y : b < 0 <;> simp [x, y] at h1 ⊢
    by_cases z : m = 0
    · exact Or.inl z
    · exact Or.inr (Or.inl ⟨by omega, this⟩)
  · exact Or.inl h3
theorem sgn_neg_neg {a b : Int} (ha : a ≠ 0) (hb : b ≠ 0) : sgn (-a) (-b) = sgn a b := by
  unfold sgn
  by_cases x : a < 0 <;> by_cases y : b < 0
  · rw [show decide (-a < 0) = false by simp; omega, show decide (-b < 0) = false by simp; omega]; simp [x, y]
  · rw [show decide (-a < 0) = false by simp; omega, show decide (-b < 0) = true by simp; omega]; simp [x, y]
  · rw [show decide (-a < 0) = true by simp; omega, show decide (-b < 0) = false by simp; omega]; simp [x, y]
  · rw [show decide (-a < 0) = true by simp; omega, show decide (-b < 0) = true by simp; omega]; simp [x, y]
theorem sgn_neg {a b : Int} (ha : a ≠ 0) : sgn (-a) b = !sgn a b := by
  unfold sgn
  by_cases x : a < 0
  · rw [show decide (-a < 0) = false by simp; omega]; simp [x]
  · rw [show decide (-a < 0) = true by simp; omega]; simp [x]
theorem mulM_neg_neg (a b : Int) : mulM (-a) (-b) = mulM a b := by unfold mulM; rw [ab_neg, ab_neg]
theorem mulM_neg (a b : Int) : mulM (-a) b = mulM a b := by unfold mulM; rw [ab_neg]
theorem divM_neg_neg (a b : Int) : divM (-a) (-b) = divM a b := by unfold divM; rw [ab_neg, ab_neg]
theorem mulM_zero_left (b : Int) : mulM 0 b = 0 := by unfold mulM; rw [show ab 0 = 0 by decide, Int.zero_mul, Int.zero_ediv]
theorem mulM_zero_right (a : Int) : mulM a 0 = 0 := by rw [mulM_comm, mulM_zero_left]
theorem divM_zero_left (b : Int) : divM 0 b = 0 := by unfold divM; rw [show ab 0 = 0 by decide, Int.zero_mul, Int.zero_ediv]
theorem mulR_neg_neg (a b : Int) : mulR (-a) (-b) = mulR a b := by
  by_cases ha : a = 0
  · subst ha; unfold mulR; rw [show (-0 : Int) = 0 from rfl, mulM_zero_left, mulM_zero_left, sgR_zero, sgR_zero]
  by_cases hb : b = 0
  · subst hb; unfold mulR; rw [show (-0 : Int) = 0 from rfl, mulM_zero_right, mulM_zero_right, sgR_zero, sgR_zero]
  unfold mulR
  rw [sgn_neg_neg ha hb, mulM_neg_neg]
theorem divR_neg_neg (a b : Int) : divR (-a) (-b) = divR a b := by
  unfold divR
  by_cases hb : b = 0
  · subst hb; rfl
  rw [if_neg (by omega), if_neg hb]
  by_cases ha : a = 0
  · subst ha; rw [show (-0 : Int) = 0 from rfl, divM_zero_left, divM_zero_left, sgR_zero, sgR_zero]
  rw [sgn_neg_neg ha hb, divM_neg_neg]
/-- A product, and the same with one sign turned. -/
theorem mulR_turned (a b : Int) : mulR a b = (0, 3) ∨ (∃ p, mulR a b = (p, 0) ∧ mulR (-a) b = (-p, 0) ∧ inF p ∧ inF (-p)) ∨ (mulR a b = (-9223372036854775808, 0) ∧ mulR (-a) b = (0, 3)) := by
  by_cases ha : a = 0
  · subst ha; exact Or.inr (Or.inl ⟨0, by unfold mulR; rw [mulM_zero_left, sgR_zero], by unfold mulR; rw [show (-0 : Int) = 0 from rfl, mulM_zero_left, sgR_zero], ⟨by decide, by decide⟩, ⟨by decide, by decide⟩⟩)
  have m0 := mulM_nonneg a b
  unfold mulR
  rw [sgn_neg ha, mulM_neg]
  rcases sgR_cases (sgn a b) (mulM a b) with ⟨h1, h2, h3⟩ | ⟨h1, h2, h3⟩ | ⟨h1, h2, h3⟩
  · rw [h1] at h3 ⊢
    by_cases g : mulM a b = 9223372036854775808
    · rw [g]; exact Or.inr (Or.inr ⟨by decide, by decide⟩)
    · exact Or.inr (Or.inl ⟨_, h3, by rw [Int.neg_neg]; exact sgR_pos _ (by omega), ⟨by omega, by omega⟩, ⟨by omega, by omega⟩⟩)
  · rw [h1] at h3 ⊢
    exact Or.inr (Or.inl ⟨_, h3, sgR_neg _ (by omega), ⟨by omega, by omega⟩, ⟨by omega, by omega⟩⟩)
  · exact Or.inl h3
end Go.Proofs.YtcoooehcgbohgaaGreat

namespace Go.Proofs.YtcoooehcgbohgaaGreat
open Go.RowKit

theorem ret_int {k : IntKind} {a b : Int} (h : a = b) : Ending.returned (.int k a) = .returned (.int k b) := by rw [h]
theorem ret_two {k l : IntKind} {a b c d : Int} (h : a = b) (g : c = d) : Ending.returned (.tuple #[.int k a, .int l c]) = .returned (.tuple #[.int k b, .int l d]) := by rw [h, g]

theorem low_half (a : Int) (h0 : 0 ≤ a) (h1 : a ≤ 18446744073709551615) : bits .and .u64 a 4294967295 = a % 4294967296 :=
  bits_mask .u64 64 (by decide) (fun n h0 h1 => by rw [IntKind.wrap_u64]; omega) 32 (by decide) a h0 (by omega)
theorem half_times {a b : Int} (a0 : 0 ≤ a) (a1 : a < 4294967296) (b0 : 0 ≤ b) (b1 : b < 4294967296) : 0 ≤ a * b ∧ a * b ≤ 18446744065119617025 :=
  ⟨Int.mul_nonneg a0 b0, by have := Int.mul_le_mul (show a ≤ 4294967295 by omega) (show b ≤ 4294967295 by omega) b0 (by decide); omega⟩
/-- The halves of two factors, their four products, and the two digits of the middle sum, each under a name. -/
theorem mul_setup (x y : Int) (h0 : 0 ≤ x) (h1 : x ≤ 18446744073709551615) (g0 : 0 ≤ y) (g1 : y ≤ 18446744073709551615) :
    ∃ x0 x1 y0 y1 a b c d t0 t1 : Int, bits .and .u64 x 4294967295 = x0 ∧ x / 4294967296 = x1 ∧ bits .and .u64 y 4294967295 = y0 ∧ y / 4294967296 = y1 ∧
      x1 * y1 = a ∧ x1 * y0 = b ∧ x0 * y1 = c ∧ x0 * y0 = d ∧ bits .and .u64 (b + d / 4294967296) 4294967295 = t0 ∧ (b + d / 4294967296) / 4294967296 = t1 ∧
      (0 ≤ a ∧ a ≤ 18446744065119617025) ∧ (0 ≤ b ∧ b ≤ 18446744065119617025) ∧ (0 ≤ c ∧ c ≤ 18446744065119617025) ∧ (0 ≤ d ∧ d ≤ 18446744065119617025) ∧ (0 ≤ t0 ∧ t0 < 4294967296) ∧ (0 ≤ t1 ∧ t1 < 4294967296) ∧
      a + t1 + (t0 + c) / 4294967296 = x * y / 18446744073709551616 ∧ a + t1 + (t0 + c) / 4294967296 ≤ 18446744073709551615 := by
  have ha := half_times (a := x / 4294967296) (b := y / 4294967296) (by omega) (by omega) (by omega) (by omega)
  have hb := half_times (a := x / 4294967296) (b := y % 4294967296) (by omega) (by omega) (by omega) (by omega)
  have hc := half_times (a := x % 4294967296) (b := y / 4294967296) (by omega) (by omega) (by omega) (by omega)
  have hd := half_times (a := x % 4294967296) (b := y % 4294967296) (by omega) (by omega) (by omega) (by omega)
  have e : x * y = x / 4294967296 * (y / 4294967296) * 18446744073709551616 + (x / 4294967296 * (y % 4294967296) + x % 4294967296 * (y / 4294967296)) * 4294967296 + x % 4294967296 * (y % 4294967296) := by
    have ex : x = x / 4294967296 * 4294967296 + x % 4294967296 := by omega
    have ey : y = y / 4294967296 * 4294967296 + y % 4294967296 := by omega
    generalize x / 4294967296 = p at *
    generalize x % 4294967296 = q at *
    generalize y / 4294967296 = r at *
    generalize y % 4294967296 = s at *
    rw [ex, ey, Int.add_mul, Int.mul_add, Int.mul_add, show p * 4294967296 * (r * 4294967296) = p * r * (4294967296 * 4294967296) by ac_rfl, show p * 4294967296 * s = p * s * 4294967296 by ac_rfl, show q * (r * 4294967296) = q * r * 4294967296 by ac_rfl]
    omega
  have hm : 0 ≤ x / 4294967296 * (y % 4294967296) + x % 4294967296 * (y % 4294967296) / 4294967296 ∧ x / 4294967296 * (y % 4294967296) + x % 4294967296 * (y % 4294967296) / 4294967296 ≤ 18446744073709551615 := by omega
  refine ⟨_, _, _, _, _, _, _, _, _, _, low_half x h0 h1, rfl, low_half y g0 g1, rfl, rfl, rfl, rfl, rfl, low_half _ hm.1 hm.2, rfl, ha, hb, hc, hd, by omega, by omega, ?_, ?_⟩
  · rw [e]; omega
  · omega

set_option maxHeartbeats 1000000 in
theorem mul64_any (x y : Int) (w : World) (h0 : 0 ≤ x) (h1 : x ≤ 18446744073709551615) (g0 : 0 ≤ y) (g1 : y ≤ 18446744073709551615) :
    Calls Tryz.prog 48 #[.int .u64 x, .int .u64 y] w fun e w' => e = .returned (.tuple #[.int .u64 (x * y / 18446744073709551616), .int .u64 (x * y % 18446744073709551616)]) ∧ w' = w := by
  obtain ⟨x0, x1, y0, y1, a, b, c, d, t0, t1, e1, e2, e3, e4, e5, e6, e7, e8, e9, e10, ba, bb, bc, bd, b0, b1, fin, top⟩ := mul_setup x y h0 h1 g0 g1
  rw [← fin]
  clear fin
  go_enter Tryz.func48, Tryz.ntmps48
  go_wp2
  go_ret2
  exact ⟨ret_two rfl (IntKind.wrap_u64 _), rfl⟩

/-- The two words of a product, each under a name. -/
def words (x y h l : Int) : Prop := (0 ≤ x ∧ x ≤ 18446744073709551615) ∧ (0 ≤ y ∧ y ≤ 18446744073709551615) ∧ x * y / 18446744073709551616 = h ∧ x * y % 18446744073709551616 = l
theorem mul64_w {x y h l : Int} (k : words x y h l) (w : World) :
    Calls Tryz.prog 48 #[.int .u64 x, .int .u64 y] w fun e w' => e = .returned (.tuple #[.int .u64 h, .int .u64 l]) ∧ w' = w := by
  obtain ⟨⟨a, b⟩, ⟨c, d⟩, rfl, rfl⟩ := k
  exact mul64_any x y w a b c d
end Go.Proofs.YtcoooehcgbohgaaGreat

namespace Go.Proofs.YtcoooehcgbohgaaGreat
open Go.RowKit

set_option maxHeartbeats 400000 in
theorem add_any (a b : Int) (w : World) (ha : inF a) (hb : inF b) :
    Calls Tryz.prog 69 #[.int .i64 a, .int .i64 b] w fun e w' => e = .returned (.tuple #[.int .i64 (addR a b).1, .int .i64 (addR a b).2]) ∧ w' = w := by
  have hc := add_bits a b ha hb
  unfold inF at ha hb
  by_cases h : -9223372036854775808 ≤ a + b ∧ a + b ≤ 9223372036854775807
  · have h1 : 0 ≤ bits .and .i64 (bits .xor .i64 a (wrap64 (a + b))) (bits .xor .i64 b (wrap64 (a + b))) := Int.not_lt.1 (fun x => (hc.1 x) h)
    rw [show addR a b = (a + b, 0) from inR_ok h]
    have hw := IntWalk.wrap64_in (a + b) h
    rw [hw] at h1
    clear hc hw
    go_enter Tryz.func69, Tryz.ntmps69
    go_wp2
    go_ret2
    exact ⟨rfl, rfl⟩
  · have h1 : bits .and .i64 (bits .xor .i64 a (wrap64 (a + b))) (bits .xor .i64 b (wrap64 (a + b))) < 0 := hc.2 h
    rw [show addR a b = (0, 3) from inR_no h]
    clear hc h
    go_enter Tryz.func69, Tryz.ntmps69
    go_wp2
    go_ret2
    exact ⟨rfl, rfl⟩

set_option maxHeartbeats 400000 in
theorem sub_any (a b : Int) (w : World) (ha : inF a) (hb : inF b) :
    Calls Tryz.prog 96 #[.int .i64 a, .int .i64 b] w fun e w' => e = .returned (.tuple #[.int .i64 (subR a b).1, .int .i64 (subR a b).2]) ∧ w' = w := by
  have hc := sub_bits a b ha hb
  unfold inF at ha hb
  by_cases h : -9223372036854775808 ≤ a - b ∧ a - b ≤ 9223372036854775807
  · have h1 : 0 ≤ bits .and .i64 (bits .xor .i64 a b) (bits .xor .i64 a (wrap64 (a - b))) := Int.not_lt.1 (fun x => (hc.1 x) h)
    rw [show subR a b = (a - b, 0) from inR_ok h]
    have hw := IntWalk.wrap64_in (a - b) h
    rw [hw] at h1
    clear hc hw
    go_enter Tryz.func96, Tryz.ntmps96
    go_wp2
    go_ret2
    exact ⟨rfl, rfl⟩
  · have h1 : bits .and .i64 (bits .xor .i64 a b) (bits .xor .i64 a (wrap64 (a - b))) < 0 := hc.2 h
    rw [show subR a b = (0, 3) from inR_no h]
    clear hc h
    go_enter Tryz.func96, Tryz.ntmps96
    go_wp2
    go_ret2
    exact ⟨rfl, rfl⟩

set_option maxHeartbeats 400000 in
theorem size_any (a : Int) (w : World) (ha : inF a) :
    Calls Tryz.prog 113 #[.int .i64 a] w fun e w' => e = .returned (.int .u64 (ab a)) ∧ w' = w := by
  unfold inF at ha
  go_enter Tryz.func113, Tryz.ntmps113
  go_wp2
  all_goals (go_ret; refine ⟨ret_int ?_, rfl⟩; have := ab_of a; try rw [IntKind.wrap_u64, wrap64_of])
  all_goals omega

set_option maxHeartbeats 400000 in
theorem signed_any (n : Int) (b : Bool) (w : World) (ha : 0 ≤ n ∧ n ≤ 18446744073709551615) :
    Calls Tryz.prog 114 #[.int .u64 n, .bool b] w fun e w' => e = .returned (.tuple #[.int .i64 (sgR b n).1, .int .i64 (sgR b n).2]) ∧ w' = w := by
  rcases sgR_cases b n with ⟨h1, h2, h3⟩ | ⟨h1, h2, h3⟩ | ⟨h1, h2, h3⟩
  · subst h1
    rw [h3]; clear h3
    go_enter Tryz.func114, Tryz.ntmps114
    go_wp2
    go_ret2
    exact ⟨ret_two (by rw [IntKind.wrap_u64, wrap64_of]; omega) rfl, rfl⟩
  · subst h1
    rw [h3]; clear h3
    go_enter Tryz.func114, Tryz.ntmps114
    go_wp2
    go_ret2
    exact ⟨rfl, rfl⟩
  · rw [h3]; clear h3
    cases b
    · go_enter Tryz.func114, Tryz.ntmps114
      go_wp2
      go_ret2
      exact ⟨rfl, rfl⟩
    · have h4 : 9223372036854775808 < n := by simp at h2; omega
      clear h2
      go_enter Tryz.func114, Tryz.ntmps114
      go_wp2
      go_ret2
      exact ⟨rfl, rfl⟩




set_option maxHeartbeats 400000 in
theorem mul_any (a b : Int) (w : World) (ha : inF a) (hb : inF b) :
    Calls Tryz.prog 93 #[.int .i64 a, .int .i64 b] w fun e w' => e = .returned (.tuple #[.int .i64 (mulR a b).1, .int .i64 (mulR a b).2]) ∧ w' = w := by
  have a0 := ab_nonneg a; have a1 := ab_le ha; have b0 := ab_nonneg b; have b1 := ab_le hb
  have p0 : 0 ≤ ab a * ab b := Int.mul_nonneg a0 b0
  unfold mulR sgn mulM
  by_cases h : ab a * ab b / 18446744073709551616 / 4294967296 = 0
  · have hq : 0 ≤ ab a * ab b / 18446744073709551616 ∧ ab a * ab b / 18446744073709551616 < 4294967296 := by omega
    have hor : bits .or .u64 (ab a * ab b / 18446744073709551616 * 4294967296) (ab a * ab b % 18446744073709551616 / 4294967296) = ab a * ab b / 4294967296 := by
      rw [or_halves _ _ hq.1 hq.2 (by omega) (by omega)]; omega
    go_enter Tryz.func93, Tryz.ntmps93
    go_wp2_with (first | (go_at_call 113; refine (size_any _ _ (by assumption)).mono ?_; rintro e w' ⟨rfl, rfl⟩) | (go_at_call 48; refine (mul64_any _ _ _ a0 (by omega) b0 (by omega)).mono ?_; rintro e w' ⟨rfl, rfl⟩) | (go_at_call 114; refine (signed_any _ _ _ (by omega)).mono ?_; rintro e w' ⟨rfl, rfl⟩))
    go_ret2
    exact ⟨rfl, rfl⟩
  · have hs : sgR (decide (a < 0) != decide (b < 0)) (ab a * ab b / 4294967296) = (0, 3) := by
      rcases sgR_cases (decide (a < 0) != decide (b < 0)) (ab a * ab b / 4294967296) with ⟨_, h2, _⟩ | ⟨_, h2, _⟩ | ⟨_, _, h3⟩
      · omega
      · omega
      · exact h3
    rw [hs]; clear hs
    go_enter Tryz.func93, Tryz.ntmps93
    go_wp2_with (first | (go_at_call 113; refine (size_any _ _ (by assumption)).mono ?_; rintro e w' ⟨rfl, rfl⟩) | (go_at_call 48; refine (mul64_any _ _ _ a0 (by omega) b0 (by omega)).mono ?_; rintro e w' ⟨rfl, rfl⟩))
    go_ret2
    exact ⟨rfl, rfl⟩
end Go.Proofs.YtcoooehcgbohgaaGreat

namespace Go.Proofs.YtcoooehcgbohgaaGreat
open Go Go.RowKit

theorem mask_u64 (a : Int) (h0 : 0 ≤ a) (h1 : a ≤ 18446744073709551615) : bits .and .u64 a 4294967295 = a % 4294967296 :=
  bits_mask .u64 64 (by decide) (fun n h0 h1 => by rw [IntKind.wrap_u64]; omega) 32 (by decide) a h0 (by omega)
theorem or_u64 (i : Nat) (hi : i ≤ 63) (x y : Int) (hx0 : 0 ≤ x) (hx : x % 2 ^ i = 0) (hx1 : x < 18446744073709551616) (hy0 : 0 ≤ y) (hy : y < 2 ^ i) : bits .or .u64 x y = x + y := by
  have hp : (2 : Int) ^ i ≤ 18446744073709551616 := by
    have h := Nat.pow_le_pow_right (show 0 < 2 by decide) (show i ≤ 64 by omega)
    have e : ((2 ^ i : Nat) : Int) = (2 : Int) ^ i := by simp
    have e2 : (2 ^ 64 : Nat) = 18446744073709551616 := by decide
    rw [e2] at h
    generalize (2 : Nat) ^ i = z at *
    omega
  exact bits_join .u64 64 (by decide) (fun n h0 h1 => by rw [IntKind.wrap_u64]; omega) i x y hx0 hx (by omega) hy0 hy (by omega)
theorem div_of (n d q : Int) (hd : 0 < d) (h1 : q * d ≤ n) (h2 : n < q * d + d) : n / d = q := by
  have e : n = (n - q * d) + q * d := by omega
  rw [e, Int.add_mul_ediv_right _ _ (by omega), Int.ediv_eq_zero_of_lt (by omega) (by omega)]
  omega
theorem two_parts (x a b : Int) : x * (a * 4294967296 + b) = x * a * 4294967296 + x * b := by rw [Int.mul_add, ← Int.mul_assoc]

/-- What Div64 makes of its numbers ahead of its loops. -/
theorem div_setup (hi lo y : Int) (s : Nat) (hs : s ≤ 63) (l0 : 0 ≤ lo) (l1 : lo ≤ 18446744073709551615) (_y0 : 1 ≤ y) (h0 : 0 ≤ hi) (h1 : hi < y) (n1 : 9223372036854775808 ≤ y * 2 ^ s) (n2 : y * 2 ^ s < 18446744073709551616) :
    ∃ Y yn1 yn0 H L1 U V un1 un0 : Int, y * 2 ^ s = Y ∧ Y / 4294967296 = yn1 ∧ bits .and .u64 Y 4294967295 = yn0 ∧ hi * 2 ^ s = H ∧ lo / 2 ^ (64 - s) = L1 ∧ bits .or .u64 H L1 = U ∧ IntKind.u64.wrap (lo * 2 ^ s) = V ∧ V / 4294967296 = un1 ∧ bits .and .u64 V 4294967295 = un0 ∧
      Y = yn1 * 4294967296 + yn0 ∧ 2147483648 ≤ yn1 ∧ yn1 < 4294967296 ∧ 0 ≤ yn0 ∧ yn0 < 4294967296 ∧ 0 ≤ H ∧ H < 18446744073709551616 ∧ 0 ≤ L1 ∧ 0 ≤ U ∧ U < Y ∧ Y < 18446744073709551616 ∧ 0 ≤ V ∧ V < 18446744073709551616 ∧ 0 ≤ un1 ∧ un1 < 4294967296 ∧ 0 ≤ un0 ∧ un0 < 4294967296 ∧
      (∀ q1 q0 : Int, q1 * Y ≤ U * 4294967296 + un1 → U * 4294967296 + un1 < q1 * Y + Y → q0 * Y ≤ (U * 4294967296 + un1 - q1 * Y) * 4294967296 + un0 → (U * 4294967296 + un1 - q1 * Y) * 4294967296 + un0 < q0 * Y + Y → (hi * 18446744073709551616 + lo) / y = q1 * 4294967296 + q0) := by
  have P0 : (0 : Int) < 2 ^ s := Int.pow_pos (by decide)
  have R0 : (0 : Int) < 2 ^ (64 - s) := Int.pow_pos (by decide)
  have PR : (2 : Int) ^ (64 - s) * 2 ^ s = 18446744073709551616 := by
    rw [← Int.pow_add, show 64 - s + s = 64 by omega]; decide
  have hHP : (hi * 2 ^ s) % 2 ^ s = 0 := Int.mul_emod_left _ _
  have orr := or_u64 s hs (hi * 2 ^ s) (lo / 2 ^ (64 - s))
  generalize (2 : Int) ^ s = P at *
  generalize (2 : Int) ^ (64 - s) = R at *
  have d1 := Int.mul_ediv_add_emod lo R
  have d2 := Int.emod_nonneg lo (show R ≠ 0 by omega)
  have d3 := Int.emod_lt_of_pos lo R0
  have dL : 0 ≤ lo / R := Int.ediv_nonneg l0 (by omega)
  have dLP : lo / R < P := Int.ediv_lt_of_lt_mul R0 (by rw [Int.mul_comm, PR]; omega)
  have H0 : 0 ≤ hi * P := Int.mul_nonneg h0 (by omega)
  have HY : hi * P + P ≤ y * P := by
    have := Int.mul_le_mul_of_nonneg_right (show hi + 1 ≤ y by omega) (show 0 ≤ P by omega)
    rw [Int.add_mul, Int.one_mul] at this; exact this
  have eV : lo * P = lo / R * 18446744073709551616 + lo % R * P := by
    have : lo * P = (R * (lo / R) + lo % R) * P := by rw [d1]
    rw [this, Int.add_mul, Int.mul_comm R, Int.mul_assoc, PR]
  have v0 : 0 ≤ lo % R * P := Int.mul_nonneg d2 (by omega)
  have v1 : lo % R * P < 18446744073709551616 := by rw [← PR]; exact Int.mul_lt_mul_of_pos_right d3 P0
  have eW : IntKind.u64.wrap (lo * P) = lo % R * P := by rw [IntKind.wrap_u64, eV]; omega
  have eO : bits .or .u64 (hi * P) (lo / R) = hi * P + lo / R := orr H0 hHP (by omega) dL dLP
  have eM := mask_u64 (y * P) (by omega) (by omega)
  have eM2 := mask_u64 (lo % R * P) v0 (by omega)
  refine ⟨y * P, _, _, hi * P, lo / R, hi * P + lo / R, lo % R * P, _, _, rfl, rfl, eM, rfl, rfl, eO, eW, rfl, eM2, by omega, by omega, by omega, by omega, by omega, by omega, by omega, dL, by omega, by omega, by omega, v0, v1, by omega, by omega, by omega, by omega, ?_⟩
  intro q1 q0 a1 a2 b1 b2
  have e1 : (hi * 18446744073709551616 + lo) / y = ((hi * 18446744073709551616 + lo) * P) / (y * P) := (Int.mul_ediv_mul_of_pos_left _ _ P0).symm
  have e2 : (hi * 18446744073709551616 + lo) * P = hi * P * 18446744073709551616 + lo * P := by rw [Int.add_mul, Int.mul_right_comm]
  rw [e1, e2, eV]
  have e3 : (q1 * 4294967296 + q0) * (y * P) = q1 * (y * P) * 4294967296 + q0 * (y * P) := by rw [Int.add_mul, Int.mul_right_comm]
  refine div_of _ _ _ (by omega) ?_ ?_
  · rw [e3]; omega
  · rw [e3]; omega

/-- A digit as it is guessed first. -/
theorem digit_start (Y yn1 yn0 U u : Int) (eY : Y = yn1 * 4294967296 + yn0) (a1 : 2147483648 ≤ yn1) (a2 : yn1 < 4294967296) (b1 : 0 ≤ yn0) (b2 : yn0 < 4294967296) (c1 : 0 ≤ U) (c2 : U < Y) (d2 : u < 4294967296) :
    ∃ q a : Int, U / yn1 = q ∧ q * yn1 = a ∧ 0 ≤ q ∧ q ≤ 4294967297 ∧ 0 ≤ a ∧ a ≤ U ∧ U - a < 4294967296 ∧ U * 4294967296 + u < a * 4294967296 + q * yn0 + Y := by
  have e := Int.mul_ediv_add_emod U yn1
  have m0 := Int.emod_nonneg U (show yn1 ≠ 0 by omega)
  have m1 := Int.emod_lt_of_pos U (show 0 < yn1 by omega)
  have q0 : 0 ≤ U / yn1 := Int.ediv_nonneg c1 (by omega)
  have q1 : U / yn1 < 4294967298 := Int.ediv_lt_of_lt_mul (by omega) (by omega)
  have p := Int.mul_nonneg q0 b1
  rw [Int.mul_comm] at e
  refine ⟨_, _, rfl, rfl, q0, by omega, Int.mul_nonneg q0 (by omega), by omega, by omega, by omega⟩

/-- A round of a digit's correction: it goes on, or it is over with the digit X. -/
theorem digit_round (Y yn1 yn0 U u x r : Int) (eY : Y = yn1 * 4294967296 + yn0) (a1 : 2147483648 ≤ yn1) (a2 : yn1 < 4294967296) (b1 : 0 ≤ yn0) (b2 : yn0 < 4294967296) (c2 : U < Y) (d1 : 0 ≤ u) (d2 : u < 4294967296)
    (x0 : 0 ≤ x) (x1 : x ≤ 4294967297) (r0 : 0 ≤ r) (_r1 : r < 4294967296) (er : x * yn1 + r = U) (inv : U * 4294967296 + u < x * yn1 * 4294967296 + x * yn0 + Y) :
    (x < 4294967296 → 0 ≤ x * yn0 ∧ x * yn0 < 18446744073709551616) ∧
    ((4294967296 ≤ x ∨ (x < 4294967296 ∧ 4294967296 * r + u < x * yn0)) → 1 ≤ x ∧ (x - 1) * yn1 + (r + yn1) = U ∧ U * 4294967296 + u < (x - 1) * yn1 * 4294967296 + (x - 1) * yn0 + Y) ∧
    ((4294967296 ≤ x ∨ (x < 4294967296 ∧ 4294967296 * r + u < x * yn0)) → 4294967296 ≤ r + yn1 → x - 1 < 4294967296 ∧ (x - 1) * Y ≤ U * 4294967296 + u ∧ U * 4294967296 + u < (x - 1) * Y + Y) ∧
    (x < 4294967296 → x * yn0 ≤ 4294967296 * r + u → x * Y ≤ U * 4294967296 + u ∧ U * 4294967296 + u < x * Y + Y) := by
  have p0 : 0 ≤ x * yn0 := Int.mul_nonneg x0 b1
  have pa : 0 ≤ x * yn1 := Int.mul_nonneg x0 (by omega)
  have eS1 : (x - 1) * yn1 = x * yn1 - yn1 := by rw [Int.sub_mul, Int.one_mul]
  have eS0 : (x - 1) * yn0 = x * yn0 - yn0 := by rw [Int.sub_mul, Int.one_mul]
  have eX : x * Y = x * yn1 * 4294967296 + x * yn0 := by rw [eY, two_parts]
  have eX1 : (x - 1) * Y = (x * yn1 - yn1) * 4294967296 + (x * yn0 - yn0) := by rw [eY, two_parts, eS1, eS0]
  have over : 4294967296 ≤ x ∨ (x < 4294967296 ∧ 4294967296 * r + u < x * yn0) → U * 4294967296 + u < x * yn1 * 4294967296 + x * yn0 := by
    rintro (h | ⟨_, h⟩)
    · have f1 := Int.mul_le_mul_of_nonneg_right h (show 0 ≤ yn1 by omega)
      have f0 := Int.mul_le_mul_of_nonneg_right h b1
      omega
    · omega
  have le0 := Int.mul_le_mul_of_nonneg_right x1 b1
  have pos : U * 4294967296 + u < x * yn1 * 4294967296 + x * yn0 → 1 ≤ x := by
    intro h
    by_cases g : x = 0
    · subst g; simp only [Int.zero_mul] at h; omega
    · omega
  refine ⟨fun h => ⟨p0, ?_⟩, fun h => ?_, fun h g => ?_, fun h g => ?_⟩
  · have := Int.mul_le_mul_of_nonneg_right (show x ≤ 4294967295 by omega) b1; omega
  · have o := over h
    rw [eS1, eS0]
    exact ⟨pos o, by omega, by omega⟩
  · have o := over h
    rw [eX1]
    have le1 : x * yn0 ≤ 4294967297 * yn0 := le0
    have : 0 ≤ (x - 1) * yn1 ∨ x = 0 := by
      by_cases g : x = 0
      · exact Or.inr g
      · exact Or.inl (Int.mul_nonneg (by omega) (by omega))
    have px := pos o
    have lt : x - 1 < 4294967296 := by
      by_cases g2 : 4294967297 ≤ x
      · have f1 := Int.mul_le_mul_of_nonneg_right g2 (show 0 ≤ yn1 by omega)
        omega
      · omega
    exact ⟨lt, by omega, by omega⟩
  · rw [eX]; exact ⟨by omega, by omega⟩

/-- What the first digit leaves: the rest T, and how the second digit then gives the quotient. -/
def Out (hi lo y Y U u v X T : Int) : Prop :=
  IntKind.u64.wrap (IntKind.u64.wrap (IntKind.u64.wrap (U * 4294967296) + u) - IntKind.u64.wrap (X * Y)) = T ∧ 0 ≤ T ∧ T < Y ∧ 0 ≤ X ∧ X < 4294967296 ∧
    ∀ q0 : Int, q0 * Y ≤ T * 4294967296 + v → T * 4294967296 + v < q0 * Y + Y → (hi * 18446744073709551616 + lo) / y = X * 4294967296 + q0
theorem digit_out (hi lo y Y U u v X : Int) (_c4 : 0 ≤ U) (_d1 : 0 ≤ u) (hY : Y < 18446744073709551616) (x0 : 0 ≤ X) (k1 : X * Y ≤ U * 4294967296 + u) (k2 : U * 4294967296 + u < X * Y + Y) (x1 : X < 4294967296)
    (fin : ∀ q1 q0 : Int, q1 * Y ≤ U * 4294967296 + u → U * 4294967296 + u < q1 * Y + Y → q0 * Y ≤ (U * 4294967296 + u - q1 * Y) * 4294967296 + v → (U * 4294967296 + u - q1 * Y) * 4294967296 + v < q0 * Y + Y → (hi * 18446744073709551616 + lo) / y = q1 * 4294967296 + q0) :
    ∃ T, Out hi lo y Y U u v X T := by
  refine ⟨U * 4294967296 + u - X * Y, ?_, by omega, by omega, x0, x1, fun q0 h1 h2 => fin X q0 k1 k2 h1 h2⟩
  simp only [IntKind.wrap_u64]
  omega
theorem digit_cases (hi lo y Y yn1 yn0 U u v x r : Int) (eY : Y = yn1 * 4294967296 + yn0) (a1 : 2147483648 ≤ yn1) (a2 : yn1 < 4294967296) (b1 : 0 ≤ yn0) (b2 : yn0 < 4294967296) (c1 : 0 ≤ U) (c2 : U < Y) (hY : Y < 18446744073709551616) (d1 : 0 ≤ u) (d2 : u < 4294967296)
    (x0 : 0 ≤ x) (x1 : x ≤ 4294967297) (r0 : 0 ≤ r) (r1 : r < 4294967296) (er : x * yn1 + r = U) (inv : U * 4294967296 + u < x * yn1 * 4294967296 + x * yn0 + Y)
    (fin : ∀ q1 q0 : Int, q1 * Y ≤ U * 4294967296 + u → U * 4294967296 + u < q1 * Y + Y → q0 * Y ≤ (U * 4294967296 + u - q1 * Y) * 4294967296 + v → (U * 4294967296 + u - q1 * Y) * 4294967296 + v < q0 * Y + Y → (hi * 18446744073709551616 + lo) / y = q1 * 4294967296 + q0) :
    (x < 4294967296 ∧ 0 ≤ x * yn0 ∧ x * yn0 < 18446744073709551616 ∧ 4294967296 * r + u < x * yn0 ∧ r + yn1 < 4294967296 ∧ 1 ≤ x ∧ (x - 1) * yn1 + (r + yn1) = U ∧ U * 4294967296 + u < (x - 1) * yn1 * 4294967296 + (x - 1) * yn0 + Y) ∨
    (4294967296 ≤ x ∧ r + yn1 < 4294967296 ∧ 1 ≤ x ∧ (x - 1) * yn1 + (r + yn1) = U ∧ U * 4294967296 + u < (x - 1) * yn1 * 4294967296 + (x - 1) * yn0 + Y) ∨
    (x < 4294967296 ∧ 0 ≤ x * yn0 ∧ x * yn0 < 18446744073709551616 ∧ 4294967296 * r + u < x * yn0 ∧ 4294967296 ≤ r + yn1 ∧ 1 ≤ x ∧ ∃ T, Out hi lo y Y U u v (x - 1) T) ∨
    (4294967296 ≤ x ∧ 4294967296 ≤ r + yn1 ∧ 1 ≤ x ∧ ∃ T, Out hi lo y Y U u v (x - 1) T) ∨
    (x < 4294967296 ∧ 0 ≤ x * yn0 ∧ x * yn0 < 18446744073709551616 ∧ x * yn0 ≤ 4294967296 * r + u ∧ ∃ T, Out hi lo y Y U u v x T) := by
  obtain ⟨k1, k2, k3, k4⟩ := digit_round Y yn1 yn0 U u x r eY a1 a2 b1 b2 c2 d1 d2 x0 x1 r0 r1 er inv
  by_cases t1 : x < 4294967296
  · obtain ⟨p0, p1⟩ := k1 t1
    by_cases t2 : 4294967296 * r + u < x * yn0
    · obtain ⟨m1, m2, m3⟩ := k2 (Or.inr ⟨t1, t2⟩)
      by_cases t3 : r + yn1 < 4294967296
      · exact Or.inl ⟨t1, p0, p1, t2, t3, m1, m2, m3⟩
      · obtain ⟨n1, n2, n3⟩ := k3 (Or.inr ⟨t1, t2⟩) (by omega)
        exact Or.inr (Or.inr (Or.inl ⟨t1, p0, p1, t2, by omega, m1, digit_out hi lo y Y U u v (x - 1) c1 d1 hY (by omega) n2 n3 n1 fin⟩))
    · obtain ⟨n2, n3⟩ := k4 t1 (by omega)
      exact Or.inr (Or.inr (Or.inr (Or.inr ⟨t1, p0, p1, by omega, digit_out hi lo y Y U u v x c1 d1 hY x0 n2 n3 t1 fin⟩)))
  · obtain ⟨m1, m2, m3⟩ := k2 (Or.inl (by omega))
    by_cases t3 : r + yn1 < 4294967296
    · exact Or.inr (Or.inl ⟨by omega, t3, m1, m2, m3⟩)
    · obtain ⟨n1, n2, n3⟩ := k3 (Or.inl (by omega)) (by omega)
      exact Or.inr (Or.inr (Or.inr (Or.inl ⟨by omega, by omega, m1, digit_out hi lo y Y U u v (x - 1) c1 d1 hY (by omega) n2 n3 n1 fin⟩)))
end Go.Proofs.YtcoooehcgbohgaaGreat

namespace Go.Proofs.YtcoooehcgbohgaaGreat
open Go.RowKit

theorem tab_size : Lib.len8tab.size = 256 := by decide +kernel
theorem tab_fin : ∀ k : Fin 256, (Lib.len8tab[k.val]'(by rw [tab_size]; exact k.isLt)).toNat = Lib.bitLen k.val := by decide +kernel
theorem tab_at (k : Int) (h0 : 0 ≤ k) (h1 : k < 256) (h : k.toNat < Lib.len8tab.size) : wrap64 ((Lib.len8tab[k.toNat]'h).toNat : Int) = (Lib.bitLen k.toNat : Int) ∧ Lib.bitLen k.toNat ≤ 8 := by
  have e : (Lib.len8tab[k.toNat]'h).toNat = Lib.bitLen k.toNat := tab_fin ⟨k.toNat, by omega⟩
  have l := Lib.bitLen_le8' k h0 (by omega)
  rw [e, wrap64_of]
  exact ⟨by omega, l⟩

theorem tab_sum (X : Nat) (c k : Int) (h0 : 0 ≤ k) (h1 : k < 256) (h : k.toNat < Lib.len8tab.size) (c0 : 0 ≤ c) (c1 : c ≤ 56) (s : (Lib.bitLen X : Int) = c + Lib.bitLen k.toNat) :
    wrap64 (c + wrap64 ((Lib.len8tab[k.toNat]'h).toNat : Int)) = (Lib.bitLen X : Int) := by
  obtain ⟨t1, t2⟩ := tab_at k h0 h1 h
  rw [t1, s, wrap64_of]; omega

/-- So far a number can be shifted up within 64 bits. -/
theorem bitLenAux_bounds : ∀ (f x : Nat), x < 2 ^ f → 1 ≤ x → 1 ≤ Lib.bitLenAux f x ∧ Lib.bitLenAux f x ≤ f ∧ 2 ^ (Lib.bitLenAux f x - 1) ≤ x ∧ x < 2 ^ Lib.bitLenAux f x
  | 0, x, h, h1 => by simp at h; omega
  | f + 1, x, h, h1 => by
    rw [Lib.bitLenAux, if_neg (by omega)]
    by_cases g : x / 2 = 0
    · have : Lib.bitLenAux f (x / 2) = 0 := by rw [g]; cases f <;> simp [Lib.bitLenAux]
      rw [this]
      have : x = 1 := by omega
      subst this
      simp
    · have r := bitLenAux_bounds f (x / 2) (by rw [Nat.pow_succ] at h; omega) (by omega)
      obtain ⟨r1, r2, r3, r4⟩ := r
      refine ⟨by omega, by omega, ?_, ?_⟩
      · rw [show 1 + Lib.bitLenAux f (x / 2) - 1 = Lib.bitLenAux f (x / 2) - 1 + 1 by omega, Nat.pow_succ]; omega
      · rw [show 1 + Lib.bitLenAux f (x / 2) = Lib.bitLenAux f (x / 2) + 1 by omega, Nat.pow_succ]; omega

set_option maxHeartbeats 1000000 in
set_option maxRecDepth 100000 in
theorem len64_any (x : Int) (w : World) (h0 : 0 ≤ x) (h1 : x ≤ 18446744073709551615) :
    Calls Tryz.prog 112 #[.int .u64 x] w fun e w' => e = .returned (.int .i64 (Lib.bitLen x.toNat)) ∧ w' = w := by
  have hz := tab_size
  go_enter Tryz.func112, Tryz.ntmps112
  go_wp2
  all_goals (go_ret; refine ⟨ret_int ?_, rfl⟩)
  · exact tab_sum _ 56 _ (by omega) (by omega) _ (by decide) (by decide) (by rw [Lib.bitLen_shift56 x.toNat (by omega) (by omega), show (x / 4294967296 / 65536 / 256).toNat = x.toNat / 72057594037927936 by omega]; omega)
  · exact tab_sum _ 48 _ (by omega) (by omega) _ (by decide) (by decide) (by rw [Lib.bitLen_shift48 x.toNat (by omega) (by omega), show (x / 4294967296 / 65536).toNat = x.toNat / 281474976710656 by omega]; omega)
  · exact tab_sum _ 40 _ (by omega) (by omega) _ (by decide) (by decide) (by rw [Lib.bitLen_shift40 x.toNat (by omega) (by omega), show (x / 4294967296 / 256).toNat = x.toNat / 1099511627776 by omega]; omega)
  · exact tab_sum _ 32 _ (by omega) (by omega) _ (by decide) (by decide) (by rw [Lib.bitLen_shift32 x.toNat (by omega) (by omega), show (x / 4294967296).toNat = x.toNat / 4294967296 by omega]; omega)
  · exact tab_sum _ 24 _ (by omega) (by omega) _ (by decide) (by decide) (by rw [Lib.bitLen_shift24 x.toNat (by omega) (by omega), show (x / 65536 / 256).toNat = x.toNat / 16777216 by omega]; omega)
  · exact tab_sum _ 16 _ (by omega) (by omega) _ (by decide) (by decide) (by rw [Lib.bitLen_shift16 x.toNat (by omega) (by omega), show (x / 65536).toNat = x.toNat / 65536 by omega]; omega)
  · exact tab_sum _ 8 _ (by omega) (by omega) _ (by decide) (by decide) (by rw [Lib.bitLen_shift8 x.toNat (by omega) (by omega), show (x / 256).toNat = x.toNat / 256 by omega]; omega)
  · obtain ⟨t1, t2⟩ := tab_at x h0 (by omega) (by omega)
    rw [t1, wrap64_of]; omega
end Go.Proofs.YtcoooehcgbohgaaGreat

namespace Go.Proofs.YtcoooehcgbohgaaGreat
open Go Go.RowKit

def bx (L : List Bx) (i : Nat) : Bx := L.getD i ⟨0, 0, 0, 0⟩
def mt (L : List Bx) (a b : Nat) : Bool := meetB (bx L a) (bx L b)
theorem meetB_comm (a b : Bx) : meetB a b = meetB b a := by unfold meetB; exact Bool.and_comm _ _
theorem mt_comm (L : List Bx) (a b : Nat) : mt L a b = mt L b a := meetB_comm _ _

/-- All two of a list that meet, as it goes. -/
def sweep (m : Nat → Nat → Bool) : List Nat → List (Nat × Nat)
  | [] => []
  | a :: r => (r.filter (m a)).map (fun b => (min a b, max a b)) ++ sweep m r
/-- Who meets whom, in order. -/
def prs (L : List Bx) : List (Nat × Nat) := sweep (mt L) (List.range L.length)

theorem sweep_perm {m : Nat → Nat → Bool} (hm : ∀ a b, m a b = m b a) {l l' : List Nat} (h : l.Perm l') : (sweep m l).Perm (sweep m l') := by
  induction h with
  | nil => exact List.Perm.refl _
  | cons x h ih => exact List.Perm.append ((h.filter _).map _) ih
  | swap x y l =>
    simp only [sweep, List.filter_cons]
    rw [hm y x]
    cases hxy : m x y
    · simp only [Bool.false_eq_true, if_false]
      rw [← List.append_assoc, ← List.append_assoc]
      exact List.Perm.append_right _ List.perm_append_comm
    · simp only [if_true, List.map_cons, List.cons_append]
      rw [Nat.min_comm y x, Nat.max_comm y x]
      refine List.Perm.cons _ ?_
      rw [← List.append_assoc, ← List.append_assoc]
      exact List.Perm.append_right _ List.perm_append_comm
  | trans _ _ ih1 ih2 => exact ih1.trans ih2

/-- One pair ahead of another. -/
def ltP (p q : Nat × Nat) : Prop := p.1 < q.1 ∨ p.1 = q.1 ∧ p.2 < q.2

theorem sweep_mem {m : Nat → Nat → Bool} : ∀ {l : List Nat}, l.Pairwise (· < ·) → ∀ p, p ∈ sweep m l ↔ p.1 ∈ l ∧ p.2 ∈ l ∧ p.1 < p.2 ∧ m p.1 p.2 = true
  | [], _, p => by simp [sweep]
  | a :: r, h, (x, y) => by
    rw [List.pairwise_cons] at h
    simp only [sweep, List.mem_append, List.mem_map, List.mem_filter, List.mem_cons, sweep_mem h.2, Prod.mk.injEq]
    constructor
    · rintro (⟨b, ⟨hb, hm⟩, rfl, rfl⟩ | ⟨h1, h2, h3⟩)
      · have := h.1 b hb
        rw [show min a b = a by omega, show max a b = b by omega]
        exact ⟨.inl rfl, .inr hb, this, hm⟩
      · exact ⟨.inr h1, .inr h2, h3⟩
    · rintro ⟨h1, h2, h3, h4⟩
      rcases h1 with rfl | h1
      · rcases h2 with rfl | h2
        · omega
        · exact .inl ⟨y, ⟨h2, h4⟩, by omega, by omega⟩
      · rcases h2 with rfl | h2
        · have := h.1 x h1; omega
        · exact .inr ⟨h1, h2, h3, h4⟩

theorem sweep_sorted {m : Nat → Nat → Bool} : ∀ {l : List Nat}, l.Pairwise (· < ·) → (sweep m l).Pairwise ltP
  | [], _ => by simp [sweep]
  | a :: r, h => by
    have h' := h
    rw [List.pairwise_cons] at h
    rw [sweep, List.pairwise_append]
    refine ⟨?_, sweep_sorted h.2, ?_⟩
    · rw [List.pairwise_map]
      refine (h.2.filter _).imp_of_mem ?_
      intro x y hx hy hxy
      have h1 := h.1 x (List.mem_filter.1 hx).1
      right
      simp only
      omega
    · rintro p hp ⟨x, y⟩ hq
      obtain ⟨b, hb, rfl⟩ := List.mem_map.1 hp
      have h1 := h.1 b (List.mem_filter.1 hb).1
      have h2 := h.1 x ((sweep_mem h.2 (x, y)).1 hq).1
      left
      simp only
      omega

theorem prs_mem (L : List Bx) (p : Nat × Nat) : p ∈ prs L ↔ p.1 < p.2 ∧ p.2 < L.length ∧ mt L p.1 p.2 = true := by
  unfold prs
  rw [sweep_mem List.pairwise_lt_range]
  simp only [List.mem_range]
  constructor
  · rintro ⟨h1, h2, h3, h4⟩; exact ⟨h3, h2, h4⟩
  · rintro ⟨h1, h2, h3⟩; exact ⟨by omega, h2, h1, h3⟩
theorem prs_sorted (L : List Bx) : (prs L).Pairwise ltP := sweep_sorted List.pairwise_lt_range

/-- One place ahead of another, by left edges. -/
def ltS (L : List Bx) (i j : Nat) : Prop := (bx L i).l < (bx L j).l ∨ (bx L i).l = (bx L j).l ∧ i < j
/-- The places by their left edges. -/
structure IsSorted (L : List Bx) (S : List Nat) : Prop where
  perm : S.Perm (List.range L.length)
  sorted : S.Pairwise (ltS L)
theorem IsSorted.length {L : List Bx} {S : List Nat} (h : IsSorted L S) : S.length = L.length := by rw [h.perm.length_eq, List.length_range]
theorem IsSorted.lt {L : List Bx} {S : List Nat} (h : IsSorted L S) {i : Nat} (hi : i ∈ S) : i < L.length := List.mem_range.1 (h.perm.mem_iff.1 hi)
theorem IsSorted.sweep {L : List Bx} {S : List Nat} (h : IsSorted L S) : (sweep (mt L) S).Perm (prs L) := sweep_perm (mt_comm L) h.perm

/-- What lies further right than a box ends does not meet it. -/
theorem mt_far {L : List Bx} {a b : Nat} (h : (bx L a).h < (bx L b).l) : mt L a b = false := by
  cases g : mt L a b
  · rfl
  · unfold mt at g
    rw [meetB_iff] at g
    omega
theorem filter_far {L : List Bx} {a b : Nat} {r : List Nat} (h : (bx L a).h < (bx L b).l) (hs : (b :: r).Pairwise (ltS L)) : (b :: r).filter (mt L a) = [] := by
  rw [List.pairwise_cons] at hs
  rw [List.filter_eq_nil_iff]
  intro x hx
  rw [mt_far]
  · simp
  · rcases List.mem_cons.1 hx with rfl | hx
    · exact h
    · rcases hs.1 x hx with g | g <;> omega
end Go.Proofs.YtcoooehcgbohgaaGreat

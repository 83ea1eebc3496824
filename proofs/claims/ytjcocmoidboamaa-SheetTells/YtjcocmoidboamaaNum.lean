/-
  Plain numbers, no program in sight: what chapter 1's calls answer, as functions of whole numbers, and the bits that the code looks at. Nothing is claimed here.
-/
import Derived.WalkKit
import Derived.Laws.BitsLemmas
import Derived.Laws.Bits64b
namespace Go.Proofs.Ytjcocmoidboamaa
open Go Go.RowKit

/-- What an int64 can be. -/
def inF (x : Int) : Prop := -9223372036854775808 ≤ x ∧ x ≤ 9223372036854775807
/-- The amount of a number. -/
def ab (x : Int) : Int := if x < 0 then -x else x
/-- A number of an amount and a sign, or the error 3. -/
def sgR (neg : Bool) (m : Int) : Int × Int := if neg = true then (if m ≤ 9223372036854775808 then (-m, 0) else (0, 3)) else (if m < 9223372036854775808 then (m, 0) else (0, 3))
/-- What is in the range, or the error 3. -/
def inR (x : Int) : Int × Int := if -9223372036854775808 ≤ x ∧ x ≤ 9223372036854775807 then (x, 0) else (0, 3)
def sgn (a b : Int) : Bool := decide (a < 0) != decide (b < 0)
def mulM (a b : Int) : Int := ab a * ab b / 4294967296
def divM (a b : Int) : Int := ab a * 4294967296 / ab b
def addR (a b : Int) : Int × Int := inR (a + b)
def subR (a b : Int) : Int × Int := inR (a - b)
def mulR (a b : Int) : Int × Int := sgR (sgn a b) (mulM a b)
def divR (a b : Int) : Int × Int := if b = 0 then (0, 4) else sgR (sgn a b) (divM a b)
def ofR (n : Int) : Int × Int := inR (n * 4294967296)

theorem inF_wf {x : Int} (h : (Lit.int .i64 x).wf = true) : inF x := by
  simp [Lit.wf, IntKind.min, IntKind.max, IntKind.signed, IntKind.bits] at h
  exact ⟨by omega, by omega⟩
theorem inR_ok {x : Int} (h : -9223372036854775808 ≤ x ∧ x ≤ 9223372036854775807) : inR x = (x, 0) := by unfold inR; rw [if_pos h]
theorem inR_no {x : Int} (h : ¬ (-9223372036854775808 ≤ x ∧ x ≤ 9223372036854775807)) : inR x = (0, 3) := by unfold inR; rw [if_neg h]
theorem inR_cases (x : Int) : (inR x = (x, 0) ∧ -9223372036854775808 ≤ x ∧ x ≤ 9223372036854775807) ∨ (inR x = (0, 3) ∧ ¬ (-9223372036854775808 ≤ x ∧ x ≤ 9223372036854775807)) := by
  by_cases h : -9223372036854775808 ≤ x ∧ x ≤ 9223372036854775807
  · exact Or.inl ⟨inR_ok h, h⟩
  · exact Or.inr ⟨inR_no h, h⟩
theorem inR_in (x : Int) : inF (inR x).1 ∧ 0 ≤ (inR x).2 ∧ (inR x).2 ≤ 3 := by
  rcases inR_cases x with ⟨h, g⟩ | ⟨h, g⟩ <;> rw [h]
  · exact ⟨g, Int.le_refl 0, show (0 : Int) ≤ 3 by decide⟩
  · exact ⟨⟨by decide, by decide⟩, by decide, by decide⟩
theorem ab_of (x : Int) : (x < 0 ∧ ab x = -x) ∨ (0 ≤ x ∧ ab x = x) := by
  unfold ab; split
  · exact Or.inl ⟨by assumption, rfl⟩
  · exact Or.inr ⟨by omega, rfl⟩
theorem ab_nonneg (x : Int) : 0 ≤ ab x := by have := ab_of x; omega
theorem ab_le {x : Int} (h : inF x) : ab x ≤ 9223372036854775808 := by have := ab_of x; unfold inF at h; omega
theorem ab_neg (x : Int) : ab (-x) = ab x := by have := ab_of x; have := ab_of (-x); omega
theorem ab_pos {x : Int} (h : x ≠ 0) : 1 ≤ ab x := by have := ab_of x; omega
theorem sgR_cases (neg : Bool) (m : Int) :
    (neg = true ∧ m ≤ 9223372036854775808 ∧ sgR neg m = (-m, 0)) ∨ (neg = false ∧ m < 9223372036854775808 ∧ sgR neg m = (m, 0)) ∨ (9223372036854775808 ≤ m ∧ ¬ (neg = true ∧ m = 9223372036854775808) ∧ sgR neg m = (0, 3)) := by
  unfold sgR
  cases neg
  · rw [if_neg (by decide)]
    by_cases h : m < 9223372036854775808
    · rw [if_pos h]; exact Or.inr (Or.inl ⟨rfl, h, rfl⟩)
    · rw [if_neg h]; exact Or.inr (Or.inr ⟨by omega, by simp, rfl⟩)
  · rw [if_pos rfl]
    by_cases h : m ≤ 9223372036854775808
    · rw [if_pos h]; exact Or.inl ⟨rfl, h, rfl⟩
    · rw [if_neg h]; exact Or.inr (Or.inr ⟨by omega, by omega, rfl⟩)
theorem sgR_in (neg : Bool) (m : Int) (h0 : 0 ≤ m) : inF (sgR neg m).1 ∧ 0 ≤ (sgR neg m).2 ∧ (sgR neg m).2 ≤ 3 := by
  unfold inF
  rcases sgR_cases neg m with ⟨_, _, h⟩ | ⟨_, _, h⟩ | ⟨_, _, h⟩ <;> rw [h] <;> simp <;> omega
theorem mulM_nonneg (a b : Int) : 0 ≤ mulM a b := Int.ediv_nonneg (Int.mul_nonneg (ab_nonneg a) (ab_nonneg b)) (by decide)
theorem divM_nonneg (a b : Int) : 0 ≤ divM a b := Int.ediv_nonneg (Int.mul_nonneg (ab_nonneg a) (by decide)) (ab_nonneg b)
theorem mulM_comm (a b : Int) : mulM a b = mulM b a := by unfold mulM; rw [Int.mul_comm]
theorem sgn_comm (a b : Int) : sgn a b = sgn b a := by unfold sgn; cases decide (a < 0) <;> cases decide (b < 0) <;> rfl
theorem addR_comm (a b : Int) : addR a b = addR b a := by unfold addR; rw [Int.add_comm]
theorem mulR_comm (a b : Int) : mulR a b = mulR b a := by unfold mulR; rw [mulM_comm, sgn_comm]
theorem mulR_in (a b : Int) : inF (mulR a b).1 ∧ 0 ≤ (mulR a b).2 ∧ (mulR a b).2 ≤ 3 := sgR_in _ _ (mulM_nonneg a b)
theorem divR_in (a b : Int) : inF (divR a b).1 ∧ 0 ≤ (divR a b).2 ∧ (divR a b).2 ≤ 4 := by
  unfold divR
  by_cases h : b = 0
  · rw [if_pos h]; exact ⟨⟨by decide, by decide⟩, by decide, by decide⟩
  · rw [if_neg h]; have := sgR_in (sgn a b) (divM a b) (divM_nonneg a b); exact ⟨this.1, this.2.1, by omega⟩

/-! ### Bits of an int64, and of a uint64 -/
theorem i64_wrap_lt0 (v : BitVec 64) : IntKind.i64.wrap (v.toNat : Int) < 0 ↔ v.msb = true := by
  rw [IntKind.wrap_i64, BitVec.msb_eq_decide]
  have := v.isLt
  simp
  omega
theorem ofInt_msb (x : Int) (h : -9223372036854775808 ≤ x ∧ x ≤ 9223372036854775807) : (BitVec.ofInt 64 x).msb = decide (x < 0) := by
  rw [BitVec.msb_eq_decide]
  simp [BitVec.toNat_ofInt]
  omega
theorem bits_and_lt0 (x y : Int) (hx : -9223372036854775808 ≤ x ∧ x ≤ 9223372036854775807) (hy : -9223372036854775808 ≤ y ∧ y ≤ 9223372036854775807) :
    bits .and .i64 x y < 0 ↔ x < 0 ∧ y < 0 := by
  unfold bits
  show IntKind.i64.wrap (((BitVec.ofInt 64 x &&& BitVec.ofInt 64 y : BitVec 64)).toNat : Int) < 0 ↔ _
  rw [i64_wrap_lt0, BitVec.msb_and, ofInt_msb x hx, ofInt_msb y hy]
  simp
theorem bits_xor_lt0 (x y : Int) (hx : -9223372036854775808 ≤ x ∧ x ≤ 9223372036854775807) (hy : -9223372036854775808 ≤ y ∧ y ≤ 9223372036854775807) :
    bits .xor .i64 x y < 0 ↔ ¬ (x < 0 ↔ y < 0) := by
  unfold bits
  show IntKind.i64.wrap (((BitVec.ofInt 64 x ^^^ BitVec.ofInt 64 y : BitVec 64)).toNat : Int) < 0 ↔ _
  rw [i64_wrap_lt0, BitVec.msb_xor, ofInt_msb x hx, ofInt_msb y hy]
  by_cases h1 : x < 0 <;> by_cases h2 : y < 0 <;> simp [h1, h2]
theorem bits_in (op : BinOp) (x y : Int) : -9223372036854775808 ≤ bits op .i64 x y ∧ bits op .i64 x y ≤ 9223372036854775807 := bits_within op .i64 x y
theorem wrap64_of (x : Int) : wrap64 x = (x + 9223372036854775808) % 18446744073709551616 - 9223372036854775808 := by unfold wrap64; rfl
theorem add_bits (a b : Int) (ha : inF a) (hb : inF b) :
    bits .and .i64 (bits .xor .i64 a (wrap64 (a + b))) (bits .xor .i64 b (wrap64 (a + b))) < 0 ↔ ¬ (-9223372036854775808 ≤ a + b ∧ a + b ≤ 9223372036854775807) := by
  unfold inF at ha hb
  have hw : -9223372036854775808 ≤ wrap64 (a + b) ∧ wrap64 (a + b) ≤ 9223372036854775807 := by rw [wrap64_of]; omega
  rw [bits_and_lt0 _ _ (bits_in _ _ _) (bits_in _ _ _), bits_xor_lt0 _ _ ha hw, bits_xor_lt0 _ _ hb hw, wrap64_of]
  omega
theorem sub_bits (a b : Int) (ha : inF a) (hb : inF b) :
    bits .and .i64 (bits .xor .i64 a b) (bits .xor .i64 a (wrap64 (a - b))) < 0 ↔ ¬ (-9223372036854775808 ≤ a - b ∧ a - b ≤ 9223372036854775807) := by
  unfold inF at ha hb
  have hw : -9223372036854775808 ≤ wrap64 (a - b) ∧ wrap64 (a - b) ≤ 9223372036854775807 := by rw [wrap64_of]; omega
  rw [bits_and_lt0 _ _ (bits_in _ _ _) (bits_in _ _ _), bits_xor_lt0 _ _ ha hb, bits_xor_lt0 _ _ ha hw, wrap64_of]
  omega
/-- Two halves of a uint64 that do not meet. -/
theorem or_halves (h l : Int) (h0 : 0 ≤ h) (h1 : h < 4294967296) (l0 : 0 ≤ l) (l1 : l < 4294967296) : bits .or .u64 (h * 4294967296) l = h * 4294967296 + l :=
  bits_join .u64 64 (by decide) (fun n h0 h1 => by rw [IntKind.wrap_u64]; omega) 32 _ _ (by omega) (by omega) (by omega) (by omega) (by omega) (by omega)
end Go.Proofs.Ytjcocmoidboamaa

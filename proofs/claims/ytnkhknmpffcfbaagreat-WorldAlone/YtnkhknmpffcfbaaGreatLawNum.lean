/-
  Plain numbers: what the laws of chapter 1 lean on: products and quotients by One, signs turned, halves, orders. No program in sight. Nothing is claimed here.
-/
import Derived.Test.YtnkhknmpffcfbaaGreatNum
namespace Go.Proofs.YtnkhknmpffcfbaaGreat
open Go Go.RowKit

theorem sgR_neg (m : Int) (h : m ≤ 9223372036854775808) : sgR true m = (-m, 0) := by unfold sgR; rw [if_pos rfl, if_pos h]
theorem sgR_pos (m : Int) (h : m < 9223372036854775808) : sgR false m = (m, 0) := by unfold sgR; rw [if_neg (by decide), if_pos h]
theorem sgR_zero (b : Bool) : sgR b 0 = (0, 0) := by cases b <;> decide
theorem sgn_one {a c : Int} (hc : 0 ≤ c) : sgn a c = decide (a < 0) := by
  unfold sgn; rw [show decide (c < 0) = false by simp; omega]; cases decide (a < 0) <;> rfl
/-- A number of its own amount and sign. -/
theorem sgR_self {a : Int} (ha : inF a) : sgR (decide (a < 0)) (ab a) = (a, 0) := by
  unfold inF at ha
  rcases ab_of a with ⟨h, e⟩ | ⟨h, e⟩
  · rw [e, show decide (a < 0) = true by simp [h], sgR_neg _ (by omega), Int.neg_neg]
  · rw [e, show decide (a < 0) = false by simp; omega, sgR_pos _ (by omega)]
theorem mulR_one {a : Int} (ha : inF a) : mulR a 4294967296 = (a, 0) := by
  unfold mulR mulM
  rw [sgn_one (by decide), show ab 4294967296 = 4294967296 by decide, Int.mul_ediv_cancel _ (by decide), sgR_self ha]
theorem mulR_zero (a : Int) : mulR a 0 = (0, 0) := by
  unfold mulR mulM
  rw [show ab 0 = 0 by decide, Int.mul_zero, Int.zero_ediv, sgR_zero]
theorem divR_one {a : Int} (ha : inF a) : divR a 4294967296 = (a, 0) := by
  unfold divR divM
  rw [if_neg (by decide), sgn_one (by decide), show ab 4294967296 = 4294967296 by decide, Int.mul_ediv_cancel _ (by decide), sgR_self ha]
theorem divR_zero (a : Int) : divR a 0 = (0, 4) := by unfold divR; rw [if_pos rfl]
/-- What a product, or a quotient, that is told can be. -/
theorem sgR_told (a b m : Int) (h0 : 0 ≤ m) : sgR (sgn a b) m = (0, 3) ∨ ∃ q, sgR (sgn a b) m = (q, 0) ∧ inF q ∧ (q = 0 ∨ (0 < q ∧ (a < 0 ↔ b < 0)) ∨ (q < 0 ∧ ¬ (a < 0 ↔ b < 0))) := by
  rcases sgR_cases (sgn a b) m with ⟨h1, h2, h3⟩ | ⟨h1, h2, h3⟩ | ⟨h1, h2, h3⟩
  · refine Or.inr ⟨-m, h3, ⟨by omega, by omega⟩, ?_⟩
    have : ¬ (a < 0 ↔ b < 0) := by
      unfold sgn at h1; by_cases x : a < 0 <;> by_cases y : b < 0 <;> simp [x, y] at h1 ⊢
    by_cases z : m = 0
    · exact Or.inl (by omega)
    · exact Or.inr (Or.inr ⟨by omega, this⟩)
  · refine Or.inr ⟨m, h3, ⟨by omega, by omega⟩, ?_⟩
    have : a < 0 ↔ b < 0 := by
      unfold sgn at h1; by_cases x : a < 0 <;> by_cases y : b < 0 <;> simp [x, y] at h1 ⊢
    by_cases z : m = 0
    · exact Or.inl z
    · exact Or.inr (Or.inl ⟨by omega, this⟩)
  · exact Or.inl h3
theorem sgn_neg_neg {a b : Int} (ha : a ≠ 0) (hb : b ≠ 0) : sgn (-a) (-b) = sgn a b := by
  unfold sgn
  by_cases x : a < 0 <;> by_cases y : b < 0
  · rw [show decide (-a < 0) = false by simp; omega, show decide (-b < 0) = false by simp; omega]; simp [x, y]
  · rw [show decide (-a < 0) = false by simp; omega, show decide (-b < 0) = true by simp; omega]; simp [x, y]
  · rw [show decide (-a < 0) = true by simp; omega, show decide (-b < 0) = false by simp; omega]; simp [x, y]
  · rw [show decide (-a < 0) = true by simp; omega, show decide (-b < 0) = true by simp; omega]; simp [x, y]
theorem sgn_neg {a b : Int} (ha : a ≠ 0) : sgn (-a) b = !sgn a b := by
  unfold sgn
  by_cases x : a < 0
  · rw [show decide (-a < 0) = false by simp; omega]; simp [x]
  · rw [show decide (-a < 0) = true by simp; omega]; simp [x]
theorem mulM_neg_neg (a b : Int) : mulM (-a) (-b) = mulM a b := by unfold mulM; rw [ab_neg, ab_neg]
theorem mulM_neg (a b : Int) : mulM (-a) b = mulM a b := by unfold mulM; rw [ab_neg]
theorem divM_neg_neg (a b : Int) : divM (-a) (-b) = divM a b := by unfold divM; rw [ab_neg, ab_neg]
theorem mulM_zero_left (b : Int) : mulM 0 b = 0 := by unfold mulM; rw [show ab 0 = 0 by decide, Int.zero_mul, Int.zero_ediv]
theorem mulM_zero_right (a : Int) : mulM a 0 = 0 := by rw [mulM_comm, mulM_zero_left]
theorem divM_zero_left (b : Int) : divM 0 b = 0 := by unfold divM; rw [show ab 0 = 0 by decide, Int.zero_mul, Int.zero_ediv]
theorem mulR_neg_neg (a b : Int) : mulR (-a) (-b) = mulR a b := by
  by_cases ha : a = 0
  · subst ha; unfold mulR; rw [show (-0 : Int) = 0 from rfl, mulM_zero_left, mulM_zero_left, sgR_zero, sgR_zero]
  by_cases hb : b = 0
  · subst hb; unfold mulR; rw [show (-0 : Int) = 0 from rfl, mulM_zero_right, mulM_zero_right, sgR_zero, sgR_zero]
  unfold mulR
  rw [sgn_neg_neg ha hb, mulM_neg_neg]
theorem divR_neg_neg (a b : Int) : divR (-a) (-b) = divR a b := by
  unfold divR
  by_cases hb : b = 0
  · subst hb; rfl
  rw [if_neg (by omega), if_neg hb]
  by_cases ha : a = 0
  · subst ha; rw [show (-0 : Int) = 0 from rfl, divM_zero_left, divM_zero_left, sgR_zero, sgR_zero]
  rw [sgn_neg_neg ha hb, divM_neg_neg]
/-- A product, and the same with one sign turned. -/
theorem mulR_turned (a b : Int) : mulR a b = (0, 3) ∨ (∃ p, mulR a b = (p, 0) ∧ mulR (-a) b = (-p, 0) ∧ inF p ∧ inF (-p)) ∨ (mulR a b = (-9223372036854775808, 0) ∧ mulR (-a) b = (0, 3)) := by
  by_cases ha : a = 0
  · subst ha; exact Or.inr (Or.inl ⟨0, by unfold mulR; rw [mulM_zero_left, sgR_zero], by unfold mulR; rw [show (-0 : Int) = 0 from rfl, mulM_zero_left, sgR_zero], ⟨by decide, by decide⟩, ⟨by decide, by decide⟩⟩)
  have m0 := mulM_nonneg a b
  unfold mulR
  rw [sgn_neg ha, mulM_neg]
  rcases sgR_cases (sgn a b) (mulM a b) with ⟨h1, h2, h3⟩ | ⟨h1, h2, h3⟩ | ⟨h1, h2, h3⟩
  · rw [h1] at h3 ⊢
    by_cases g : mulM a b = 9223372036854775808
    · rw [g]; exact Or.inr (Or.inr ⟨by decide, by decide⟩)
    · exact Or.inr (Or.inl ⟨_, h3, by rw [Int.neg_neg]; exact sgR_pos _ (by omega), ⟨by omega, by omega⟩, ⟨by omega, by omega⟩⟩)
  · rw [h1] at h3 ⊢
    exact Or.inr (Or.inl ⟨_, h3, sgR_neg _ (by omega), ⟨by omega, by omega⟩, ⟨by omega, by omega⟩⟩)
  · exact Or.inl h3
end Go.Proofs.YtnkhknmpffcfbaaGreat

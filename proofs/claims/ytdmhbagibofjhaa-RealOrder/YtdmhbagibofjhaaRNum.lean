/-
  Float64s as whole numbers, no program in sight: the rung of a word, what it stands for in units of 2 to the -1074th, how a number is rounded to a rung. Nothing is claimed here.
-/
import Derived.WalkKit
import Derived.WalkLawsBesides
namespace Go.Proofs.Ytdmhbagibofjhaa
open Go Go.RowKit

/-- To the nearest multiple, of two as near the even one. -/
def rne (n d : Nat) : Nat := if d < 2 * (n % d) ∨ (2 * (n % d) = d ∧ n / d % 2 = 1) then n / d + 1 else n / d
/-- The digits of a rung. -/
def mg (r : Nat) : Nat := if r < 4503599627370496 then r else 4503599627370496 + r % 4503599627370496
/-- How far up they stand. -/
def up (r : Nat) : Nat := r / 4503599627370496 - 1
/-- What a rung stands for, in units of 2 to the -1074th. -/
def V (r : Nat) : Nat := mg r * 2 ^ up r
def infR : Nat := 9218868437227405312
def rg (x : Nat) : Nat := x % 9223372036854775808
def sg (x : Nat) : Bool := x / 9223372036854775808 % 2 == 1
def wd (s : Bool) (r : Nat) : Nat := if s = true then 9223372036854775808 + r else r
/-- A number that rises as float64s do (both zeros alike). -/
def key (x : Nat) : Int := if sg x = true then -(rg x : Int) else (rg x : Int)
def sV (x : Nat) : Int := if sg x = true then -(V (rg x) : Int) else (V (rg x) : Int)

theorem p_pos (n : Nat) : 0 < 2 ^ n := Nat.two_pow_pos n

theorem rne_zero (d : Nat) : rne 0 d = 0 := by unfold rne; simp
theorem rne_spec (n d : Nat) (hd : 0 < d) : (2 * n ≤ (2 * rne n d + 1) * d) ∧ (2 * rne n d * d ≤ 2 * n + d) ∧ ((2 * n = (2 * rne n d + 1) * d ∨ 2 * rne n d * d = 2 * n + d) → rne n d % 2 = 0) := by
  have h1 := Nat.div_add_mod n d
  have h2 := Nat.mod_lt n hd
  have h3 : d * (n / d) = n / d * d := Nat.mul_comm ..
  unfold rne
  generalize n / d = q at *
  generalize n % d = r at *
  split
  · rename_i h
    have e1 : (2 * (q + 1) + 1) * d = 2 * (q * d) + 3 * d := by grind
    have e2 : 2 * (q + 1) * d = 2 * (q * d) + 2 * d := by grind
    rw [e1, e2]
    refine ⟨by omega, by omega, ?_⟩
    intro h4
    rcases h with h | h <;> omega
  · rename_i h
    have e1 : (2 * q + 1) * d = 2 * (q * d) + d := by grind
    have e2 : 2 * q * d = 2 * (q * d) := by grind
    rw [e1, e2]
    refine ⟨by omega, by omega, ?_⟩
    intro h4
    by_cases h5 : q % 2 = 1
    · exfalso; apply h; omega
    · omega
/-- What is as near, and even where two are, is it. -/
theorem rne_eq {n d k : Nat} (hd : 0 < d) (h1 : 2 * n ≤ (2 * k + 1) * d) (h2 : 2 * k * d ≤ 2 * n + d) (h3 : (2 * n = (2 * k + 1) * d ∨ 2 * k * d = 2 * n + d) → k % 2 = 0) : rne n d = k := by
  obtain ⟨g1, g2, g3⟩ := rne_spec n d hd
  generalize rne n d = q at *
  rcases Nat.lt_trichotomy q k with h | h | h
  · exfalso
    have e : (2 * q + 1 + 1) * d ≤ 2 * k * d := Nat.mul_le_mul_right d (by omega)
    have e1 : (2 * q + 1 + 1) * d = (2 * q + 1) * d + d := by grind
    have e3 : (2 * q + 1) * d = 2 * n := by omega
    have e2 : 2 * k * d = 2 * n + d := by omega
    have a := g3 (Or.inl e3.symm)
    have b := h3 (Or.inr e2)
    have e4 : (2 * q + 2 + 1) * d ≤ 2 * k * d := Nat.mul_le_mul_right d (by omega)
    have e5 : (2 * q + 2 + 1) * d = (2 * q + 1) * d + 2 * d := by grind
    omega
  · exact h
  · exfalso
    have e : (2 * k + 1 + 1) * d ≤ 2 * q * d := Nat.mul_le_mul_right d (by omega)
    have e1 : (2 * k + 1 + 1) * d = (2 * k + 1) * d + d := by grind
    have e3 : (2 * k + 1) * d = 2 * n := by omega
    have e2 : 2 * q * d = 2 * n + d := by omega
    have a := g3 (Or.inr e2)
    have b := h3 (Or.inl e3.symm)
    have e4 : (2 * k + 2 + 1) * d ≤ 2 * q * d := Nat.mul_le_mul_right d (by omega)
    have e5 : (2 * k + 2 + 1) * d = (2 * k + 1) * d + 2 * d := by grind
    omega
theorem rne_mul (n d c : Nat) (hc : 0 < c) : rne (n * c) (d * c) = rne n d := by
  unfold rne
  rw [Nat.mul_div_mul_right _ _ hc, Nat.mul_mod_mul_right]
  generalize n % d = r
  have e : (d * c < 2 * (r * c)) ↔ d < 2 * r := by
    rw [← Nat.mul_assoc]; exact Nat.mul_lt_mul_right hc
  have e2 : (2 * (r * c) = d * c) ↔ 2 * r = d := by
    rw [← Nat.mul_assoc]; exact Nat.mul_left_inj (by omega)
  simp only [e, e2]
theorem rne_exact (k d : Nat) (hd : 0 < d) : rne (k * d) d = k := by
  refine rne_eq hd ?_ ?_ ?_
  · have : (2 * k + 1) * d = 2 * (k * d) + d := by grind
    omega
  · have : 2 * k * d = 2 * (k * d) := by grind
    omega
  · have e1 : (2 * k + 1) * d = 2 * (k * d) + d := by grind
    have e2 : 2 * k * d = 2 * (k * d) := by grind
    omega
theorem rne_one (n : Nat) : rne n 1 = n := by have := rne_exact n 1 (by decide); rwa [Nat.mul_one] at this
theorem rne_mono {a b d : Nat} (hd : 0 < d) (h : a ≤ b) : rne a d ≤ rne b d := by
  obtain ⟨g1, g2, g3⟩ := rne_spec a d hd
  obtain ⟨f1, f2, f3⟩ := rne_spec b d hd
  generalize rne a d = q at *
  generalize rne b d = k at *
  apply Nat.le_of_not_lt
  intro h5
  have e : (2 * k + 1 + 1) * d ≤ 2 * q * d := Nat.mul_le_mul_right d (by omega)
  have e1 : (2 * k + 1 + 1) * d = (2 * k + 1) * d + d := by grind
  have e3 : (2 * k + 1) * d = 2 * b := by omega
  have e2 : 2 * q * d = 2 * a + d := by omega
  have a := g3 (Or.inr e2)
  have b := f3 (Or.inl e3.symm)
  have e4 : (2 * k + 2 + 1) * d ≤ 2 * q * d := Nat.mul_le_mul_right d (by omega)
  have e5 : (2 * k + 2 + 1) * d = (2 * k + 1) * d + 2 * d := by grind
  omega
theorem rne_small {n d : Nat} (h : 2 * n ≤ d) (hd : 0 < d) : rne n d = 0 := by
  refine rne_eq hd ?_ ?_ ?_ <;> omega
theorem rne_add (n d c : Nat) (hd : 0 < d) (hc : c % 2 = 0) : rne (n + c * d) d = rne n d + c := by
  obtain ⟨g1, g2, g3⟩ := rne_spec n d hd
  have e1 : (2 * (rne n d + c) + 1) * d = (2 * rne n d + 1) * d + 2 * (c * d) := by grind
  have e2 : 2 * (rne n d + c) * d = 2 * rne n d * d + 2 * (c * d) := by grind
  refine rne_eq hd ?_ ?_ ?_
  · rw [e1]; omega
  · rw [e2]; omega
  · rw [e1, e2]; intro h
    have := g3 (by omega)
    omega

theorem V_of (e k : Nat) (h1 : k ≤ 9007199254740992) (h2 : e = 0 ∨ 4503599627370496 ≤ k) : V (e * 4503599627370496 + k) = k * 2 ^ e := by
  unfold V mg up
  by_cases h3 : k < 4503599627370496
  · have he : e = 0 := by omega
    subst he
    have a : (0 * 4503599627370496 + k) / 4503599627370496 - 1 = 0 := by omega
    rw [a, if_pos (by omega)]
    simp
  · by_cases h4 : k = 9007199254740992
    · subst h4
      have a : (e * 4503599627370496 + 9007199254740992) / 4503599627370496 - 1 = e + 1 := by omega
      have b : (e * 4503599627370496 + 9007199254740992) % 4503599627370496 = 0 := by omega
      rw [a, b, if_neg (by omega), Nat.pow_succ]
      omega
    · have a : (e * 4503599627370496 + k) / 4503599627370496 - 1 = e := by omega
      have b : (e * 4503599627370496 + k) % 4503599627370496 = k - 4503599627370496 := by omega
      rw [a, b, if_neg (by omega)]
      have c : 4503599627370496 + (k - 4503599627370496) = k := by omega
      rw [c]
theorem mg_lt (r : Nat) : mg r < 9007199254740992 := by unfold mg; split <;> omega
theorem rung_of (r : Nat) : r = up r * 4503599627370496 + mg r ∧ (up r = 0 ∨ 4503599627370496 ≤ mg r) := by
  unfold up mg; split <;> omega
theorem V_succ (r : Nat) : V r < V (r + 1) := by
  obtain ⟨h1, h2⟩ := rung_of r
  have h3 := mg_lt r
  have e : r + 1 = up r * 4503599627370496 + (mg r + 1) := by omega
  rw [e, V_of _ _ (by omega) (by omega)]
  unfold V
  exact Nat.mul_lt_mul_of_pos_right (by omega) (p_pos _)
theorem V_lt {a b : Nat} (h : a < b) : V a < V b := by
  induction b with
  | zero => omega
  | succ n ih =>
    by_cases g : a = n
    · subst g; exact V_succ a
    · exact Nat.lt_trans (ih (by omega)) (V_succ n)
theorem V_le {a b : Nat} (h : a ≤ b) : V a ≤ V b := by
  rcases Nat.lt_or_ge a b with g | g
  · exact Nat.le_of_lt (V_lt g)
  · have : a = b := by omega
    subst this; exact Nat.le_refl _
theorem V_lt_iff (a b : Nat) : V a < V b ↔ a < b := by
  constructor
  · intro h
    apply Nat.lt_of_not_le
    intro g
    have := V_le g
    omega
  · exact V_lt
theorem V_inj {a b : Nat} (h : V a = V b) : a = b := by
  have h1 := V_lt_iff a b
  have h2 := V_lt_iff b a
  omega
theorem V_zero : V 0 = 0 := by decide

/-! the model's words -/
theorem read_num (x : Nat) (h : rg x < infR) : Ieee.double.read x = .number (sg x) (mg (rg x)) (-1074 + (up (rg x) : Nat)) := by
  unfold Ieee.Format.read
  have e1 : Ieee.double.signWeight = 9223372036854775808 := by decide
  have e2 : Ieee.double.binade = 4503599627370496 := by decide
  have e3 : Ieee.double.infRung = 9218868437227405312 := by decide
  have e4 : Ieee.double.leastPlace = -1074 := by decide
  simp only [e1, e2, e3, e4]
  unfold sg mg up rg at *
  unfold infR at h
  split
  · rename_i g
    have : x % 9223372036854775808 / 4503599627370496 - 1 = 0 := by omega
    rw [this]; simp
  · first | rfl | rw [if_pos h]
theorem read_inf (x : Nat) (h : rg x = infR) : Ieee.double.read x = .infinity (sg x) := by
  unfold Ieee.Format.read
  have e1 : Ieee.double.signWeight = 9223372036854775808 := by decide
  have e2 : Ieee.double.binade = 4503599627370496 := by decide
  have e3 : Ieee.double.infRung = 9218868437227405312 := by decide
  simp only [e1, e2, e3]
  unfold rg infR at h
  rw [if_neg (by omega), if_neg (by omega), if_pos (by omega)]
  rfl
theorem read_nan (x : Nat) (h : infR < rg x) : Ieee.double.read x = .nan (sg x) (rg x - infR) := by
  unfold Ieee.Format.read
  have e1 : Ieee.double.signWeight = 9223372036854775808 := by decide
  have e2 : Ieee.double.binade = 4503599627370496 := by decide
  have e3 : Ieee.double.infRung = 9218868437227405312 := by decide
  simp only [e1, e2, e3]
  unfold rg infR at h
  rw [if_neg (by omega), if_neg (by omega), if_neg (by omega)]
  rfl
theorem word_wd (s : Bool) (r : Nat) : Ieee.double.word s r = wd s r := by
  unfold Ieee.Format.word wd
  have e1 : Ieee.double.signWeight = 9223372036854775808 := by decide
  rw [e1]
theorem rg_wd (s : Bool) {r : Nat} (h : r < 9223372036854775808) : rg (wd s r) = r := by
  unfold rg wd; split <;> omega
theorem sg_wd (s : Bool) {r : Nat} (h : r < 9223372036854775808) : sg (wd s r) = s := by
  unfold sg wd
  cases s
  · have : r / 9223372036854775808 = 0 := by omega
    simp [this]
  · have : (9223372036854775808 + r) / 9223372036854775808 = 1 := by omega
    simp [this]
theorem wd_of {x : Nat} (h : x < 18446744073709551616) : x = wd (sg x) (rg x) := by
  unfold wd sg rg
  by_cases g : x / 9223372036854775808 = 1
  · simp [g]; omega
  · have : x / 9223372036854775808 = 0 := by omega
    simp [this]; omega
theorem wd_lt (s : Bool) {r : Nat} (h : r < 9223372036854775808) : wd s r < 18446744073709551616 := by
  unfold wd; split <;> omega
theorem rg_lt (x : Nat) : rg x < 9223372036854775808 := by unfold rg; omega
theorem key_wd (s : Bool) {r : Nat} (h : r < 9223372036854775808) : key (wd s r) = if s = true then -(r : Int) else (r : Int) := by
  unfold key; rw [rg_wd s h, sg_wd s h]
theorem key_neg {x : Nat} (h : 0 < rg x) : (key x < 0) ↔ sg x = true := by
  unfold key; cases sg x <;> simp <;> omega

/-! the order -/
theorem V_inf : ∃ k, k = 2046 ∧ V infR = 4503599627370496 * 2 ^ k := by
  obtain ⟨k, hk⟩ : ∃ k : Nat, k = 2046 := ⟨_, rfl⟩
  have h := V_of k 4503599627370496 (by decide) (Or.inr (by decide))
  have e : k * 4503599627370496 + 4503599627370496 = infR := by unfold infR; omega
  rw [e] at h
  exact ⟨k, hk, h⟩
theorem signed_eq (s : Bool) (m k : Nat) : Ieee.signed s m k = if s = true then -((m * 2 ^ k : Nat) : Int) else ((m * 2 ^ k : Nat) : Int) := by
  unfold Ieee.signed
  rw [Nat.shiftLeft_eq]
theorem cmp_scale (a b : Int) (c : Nat) (hc : 0 < c) : compare (a * c) (b * c) = compare a b := by
  have hc' : (0 : Int) < c := by omega
  have h1 : a * (c : Int) < b * (c : Int) ↔ a < b := Int.mul_lt_mul_right hc'
  have h2 : a * (c : Int) = b * (c : Int) ↔ a = b := Int.mul_eq_mul_right_iff (by omega)
  simp only [compare, compareOfLessAndEq, h1, h2]
theorem sV_scale (x : Nat) (k : Nat) (hk : k ≤ up (rg x)) : Ieee.signed (sg x) (mg (rg x)) (up (rg x) - k) * ((2 ^ k : Nat) : Int) = sV x := by
  rw [signed_eq]
  unfold sV V
  have e : mg (rg x) * 2 ^ (up (rg x) - k) * 2 ^ k = mg (rg x) * 2 ^ up (rg x) := by
    rw [Nat.mul_assoc, ← Nat.pow_add]; congr 2; omega
  cases sg x
  · simp only [Bool.false_eq_true, if_false]
    rw [← Int.natCast_mul, e]
  · simp only [if_true]
    rw [Int.neg_mul, ← Int.natCast_mul, e]
theorem key_cmp (x y : Nat) : compare (sV x) (sV y) = compare (key x) (key y) := by
  have h1 := V_lt_iff (rg x) (rg y)
  have h2 := V_lt_iff (rg y) (rg x)
  have h0 : V 0 = 0 := V_zero
  have h3 := V_lt_iff 0 (rg x)
  have h4 := V_lt_iff 0 (rg y)
  unfold sV key
  generalize V (rg x) = a at *
  generalize V (rg y) = b at *
  generalize rg x = p at *
  generalize rg y = q at *
  cases sg x <;> cases sg y <;> simp only [Bool.false_eq_true, if_false, if_true, compare, compareOfLessAndEq] <;> split <;> split <;> (try split) <;> (try split) <;> first | rfl | omega
theorem order_key (x y : Nat) (hx : rg x ≤ infR) (hy : rg y ≤ infR) : Ieee.double.order x y = some (compare (key x) (key y)) := by
  unfold Ieee.Format.order
  rcases Nat.lt_or_ge (rg x) infR with h1 | h1 <;> rcases Nat.lt_or_ge (rg y) infR with h2 | h2
  · rw [read_num x h1, read_num y h2]
    simp only [Ieee.Datum.order]
    rw [← key_cmp]
    have key2 : ∀ k : Nat, k ≤ up (rg x) → k ≤ up (rg y) → (compare (Ieee.signed (sg x) (mg (rg x)) (up (rg x) - k)) (Ieee.signed (sg y) (mg (rg y)) (up (rg y) - k))) = compare (sV x) (sV y) := by
      intro k a b
      rw [← sV_scale x k a, ← sV_scale y k b, cmp_scale _ _ _ (p_pos k)]
    rcases Nat.le_total (up (rg x)) (up (rg y)) with g | g
    · have e : min (-1074 + ((up (rg x) : Nat) : Int)) (-1074 + ((up (rg y) : Nat) : Int)) = -1074 + ((up (rg x) : Nat) : Int) := by omega
      rw [e, ← key2 (up (rg x)) (Nat.le_refl _) g]
      congr 3 <;> omega
    · have e : min (-1074 + ((up (rg x) : Nat) : Int)) (-1074 + ((up (rg y) : Nat) : Int)) = -1074 + ((up (rg y) : Nat) : Int) := by omega
      rw [e, ← key2 (up (rg y)) g (Nat.le_refl _)]
      congr 3 <;> omega
  · rw [read_num x h1, read_inf y (by omega)]
    simp only [Ieee.Datum.order, key]
    cases sg x <;> cases sg y <;> simp only [Bool.false_eq_true, if_false, if_true, compare, compareOfLessAndEq] <;> congr 1 <;> split <;> (try split) <;> first | rfl | omega
  · rw [read_inf x (by omega), read_num y h2]
    simp only [Ieee.Datum.order, key]
    cases sg x <;> cases sg y <;> simp only [Bool.false_eq_true, if_false, if_true, compare, compareOfLessAndEq] <;> congr 1 <;> split <;> (try split) <;> first | rfl | omega
  · rw [read_inf x (by omega), read_inf y (by omega)]
    have e : rg x = infR := by omega
    have e' : rg y = infR := by omega
    simp only [Ieee.Datum.order, key, e, e']
    cases sg x <;> cases sg y <;> rfl
theorem order_nan (x y : Nat) (h : infR < rg x ∨ infR < rg y) : Ieee.double.order x y = none := by
  unfold Ieee.Format.order
  rcases h with h | h
  · rw [read_nan x h]; cases Ieee.double.read y <;> rfl
  · rw [read_nan y h]; cases Ieee.double.read x <;> rfl
end Go.Proofs.Ytdmhbagibofjhaa

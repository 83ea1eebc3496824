/-
  How the model's float64s are rounded, told by rungs; no program in sight. Nothing is claimed here.
-/
import Derived.Test.YtdmhbagibofjhabRNum
namespace Go.Proofs.Ytdmhbagibofjhab
open Go Go.RowKit

theorem log2_mul_pow (m k : Nat) (hm : m ≠ 0) : (m * 2 ^ k).log2 = m.log2 + k := by
  have h1 := Nat.log2_self_le hm
  have h2 := Nat.lt_log2_self (n := m)
  have hp := p_pos k
  have hz : m * 2 ^ k ≠ 0 := Nat.mul_ne_zero hm (by omega)
  apply Nat.le_antisymm
  · have : (m * 2 ^ k).log2 < m.log2 + 1 + k := by
      rw [Nat.log2_lt hz, Nat.pow_add]
      exact Nat.mul_lt_mul_of_pos_right h2 hp
    omega
  · rw [Nat.le_log2 hz, Nat.pow_add]
    exact Nat.mul_le_mul_right _ h1
theorem pow_lt_pow {a b : Nat} (h : a < b) : 2 ^ a < 2 ^ b := Nat.pow_lt_pow_right (by decide) h
theorem pow_le_pow {a b : Nat} (h : a ≤ b) : 2 ^ a ≤ 2 ^ b := Nat.pow_le_pow_right (by decide) h
theorem shl (n k : Nat) : n <<< k = n * 2 ^ k := Nat.shiftLeft_eq n k

theorem cut_even (s : Bool) (n drop : Nat) : Ieee.Toward.even.cut s n drop = rne n (2 ^ drop) := by
  unfold Ieee.Toward.cut rne
  simp only [shl, Nat.one_mul]
  rcases Nat.lt_or_ge (n.log2 + 2) drop with h | h
  · have e : min drop (n.log2 + 2) = n.log2 + 2 := by omega
    rw [e]
    have h2 := Nat.lt_log2_self (n := n)
    have h3 : 2 ^ (n.log2 + 2) = 2 * 2 ^ (n.log2 + 1) := by rw [Nat.pow_succ 2 (n.log2 + 1)]; omega
    have h4 := pow_lt_pow h
    have d1 : n / 2 ^ (n.log2 + 2) = 0 := Nat.div_eq_of_lt (by omega)
    have d2 : n % 2 ^ (n.log2 + 2) = n := Nat.mod_eq_of_lt (by omega)
    have d3 : n / 2 ^ drop = 0 := Nat.div_eq_of_lt (by omega)
    have d4 : n % 2 ^ drop = n := Nat.mod_eq_of_lt (by omega)
    rw [d1, d2, d3, d4, if_neg (by omega)]
    have : decide (2 ^ (n.log2 + 2) < 2 * n) = false := by simp; omega
    rw [this]; simp
  · have e : min drop (n.log2 + 2) = drop := by omega
    rw [e]
    generalize n % 2 ^ drop = r
    generalize n / 2 ^ drop = q
    generalize 2 ^ drop = d
    split
    · rename_i h
      have : (decide (d < 2 * r) || d == 2 * r && q % 2 == 1) = true := by
        rcases h with h | h
        · simp [h]
        · simp [h.1, h.2]
      rw [this]; rfl
    · rename_i h
      have : (decide (d < 2 * r) || d == 2 * r && q % 2 == 1) = false := by
        simp; omega
      rw [this]; rfl
theorem cut_zero (s : Bool) (n drop : Nat) : Ieee.Toward.zero.cut s n drop = n / 2 ^ drop := by
  unfold Ieee.Toward.cut
  simp only [shl, Nat.one_mul]
  rcases Nat.lt_or_ge (n.log2 + 2) drop with h | h
  · have e : min drop (n.log2 + 2) = n.log2 + 2 := by omega
    rw [e]
    have h2 := Nat.lt_log2_self (n := n)
    have h3 : 2 ^ (n.log2 + 2) = 2 * 2 ^ (n.log2 + 1) := by rw [Nat.pow_succ 2 (n.log2 + 1)]; omega
    have h4 := pow_lt_pow h
    have d1 : n / 2 ^ (n.log2 + 2) = 0 := Nat.div_eq_of_lt (by omega)
    have d3 : n / 2 ^ drop = 0 := Nat.div_eq_of_lt (by omega)
    rw [d1, d3]; simp
  · have e : min drop (n.log2 + 2) = drop := by omega
    rw [e]; simp

/-- What is near, at the place where it is cut. -/
theorem nearest_at (s : Bool) (m : Nat) (p : Int) (e : Nat) (hm : m ≠ 0) (he : (e : Int) = max (p + m.log2 - 52) (-1074) + 1074) :
    Ieee.double.nearest s m p = wd s (min (e * 4503599627370496 + rne (m * 2 ^ (p + 1074 - e).toNat) (2 ^ (e - 1074 - p : Int).toNat)) infR) := by
  unfold Ieee.Format.nearest
  rw [if_neg hm]
  have e2 : Ieee.double.binade = 4503599627370496 := by decide
  have e3 : Ieee.double.infRung = infR := by decide
  have e4 : Ieee.double.leastPlace = -1074 := by decide
  have e5 : Ieee.double.fractionBits = 52 := rfl
  simp only [e2, e3, e4, e5, word_wd, cut_even, shl]
  have a : max (p + (m.log2 : Int) - ((52 : Nat) : Int)) (-1074) = (e : Int) - 1074 := by omega
  rw [a]
  have b : (p - ((e : Int) - 1074)).toNat = (p + 1074 - (e : Int)).toNat := by omega
  have c : ((e : Int) - 1074 - -1074).toNat = e := by omega
  rw [b, c]
theorem log2_of {M : Nat} (h1 : 4503599627370496 ≤ M) (h2 : M < 9007199254740992) : M.log2 = 52 := by
  have hz : M ≠ 0 := by omega
  apply Nat.le_antisymm
  · have : M.log2 < 53 := by rw [Nat.log2_lt hz]; exact h2
    omega
  · rw [Nat.le_log2 hz]; exact h1
/-- What a rung stands for is that rung. -/
theorem nearest_exact (s : Bool) (m : Nat) (p : Int) (M e a b : Nat) (hm : m ≠ 0) (h1 : M < 9007199254740992) (h2 : e = 0 ∨ 4503599627370496 ≤ M) (hp : p + 1074 = (a : Int) - b) (h : m * 2 ^ a = M * 2 ^ (e + b)) :
    Ieee.double.nearest s m p = wd s (min (e * 4503599627370496 + M) infR) := by
  have hM : M ≠ 0 := by
    intro g; subst g
    rw [Nat.zero_mul] at h
    have := Nat.mul_ne_zero hm (Nat.ne_of_gt (p_pos a))
    omega
  have l1 : m.log2 + a = M.log2 + (e + b) := by rw [← log2_mul_pow m a hm, ← log2_mul_pow M _ hM, h]
  have l2 : M.log2 < 53 := by rw [Nat.log2_lt hM]; exact h1
  have he : (e : Int) = max (p + m.log2 - 52) (-1074) + 1074 := by
    rcases h2 with h2 | h2
    · omega
    · have := log2_of h2 h1
      omega
  rw [nearest_at s m p e hm he]
  congr 3
  rcases Nat.le_total (e + b) a with g | g
  · have x1 : (p + 1074 - (e : Int)).toNat = a - (e + b) := by omega
    have x2 : ((e : Int) - 1074 - p).toNat = 0 := by omega
    rw [x1, x2, Nat.pow_zero, rne_one]
    have : m * 2 ^ (a - (e + b)) * 2 ^ (e + b) = M * 2 ^ (e + b) := by
      rw [← h, Nat.mul_assoc, ← Nat.pow_add]; congr 2; omega
    exact Nat.eq_of_mul_eq_mul_right (p_pos _) this
  · have x1 : (p + 1074 - (e : Int)).toNat = 0 := by omega
    have x2 : ((e : Int) - 1074 - p).toNat = e + b - a := by omega
    rw [x1, x2, Nat.pow_zero, Nat.mul_one]
    have : m * 2 ^ a = M * 2 ^ (e + b - a) * 2 ^ a := by
      rw [h, Nat.mul_assoc, ← Nat.pow_add]; congr 2; omega
    rw [Nat.eq_of_mul_eq_mul_right (p_pos _) this]
    exact rne_exact _ _ (p_pos _)
theorem nearest_V (s : Bool) (m : Nat) (p : Int) (r a b : Nat) (hp : p + 1074 = (a : Int) - b) (h : m * 2 ^ a = V r * 2 ^ b) :
    Ieee.double.nearest s m p = wd s (min r infR) := by
  by_cases hm : m = 0
  · subst hm
    rw [Nat.zero_mul] at h
    have hv : V r = 0 := by
      rcases Nat.mul_eq_zero.1 h.symm with g | g
      · exact g
      · have := p_pos b; omega
    have : r = 0 := V_inj (hv.trans V_zero.symm)
    subst this
    unfold Ieee.Format.nearest
    rw [if_pos rfl, word_wd]
    rfl
  · obtain ⟨h1, h2⟩ := rung_of r
    have := nearest_exact s m p (mg r) (up r) a b hm (mg_lt r) h2 hp (by rw [h]; unfold V; rw [Nat.mul_assoc, ← Nat.pow_add])
    rw [this]; congr 2; exact h1.symm

/-- Fifty-three digits are a rung. -/
theorem rep (M e : Nat) (h : M < 9007199254740992) : ∃ r, V r = M * 2 ^ e := by
  induction e generalizing M with
  | zero =>
    refine ⟨M, ?_⟩
    have := V_of 0 M (by omega) (Or.inl rfl)
    simpa using this
  | succ n ih =>
    by_cases g : M < 4503599627370496
    · obtain ⟨r, hr⟩ := ih (M * 2) (by omega)
      exact ⟨r, by rw [hr, Nat.mul_assoc, Nat.pow_succ, Nat.mul_comm 2]⟩
    · exact ⟨_, V_of (n + 1) M (by omega) (Or.inr (by omega))⟩
theorem rep' (M e : Nat) (h : M ≤ 9007199254740992) : ∃ r, V r = M * 2 ^ e := by
  by_cases g : M = 9007199254740992
  · subst g
    obtain ⟨r, hr⟩ := rep 4503599627370496 (e + 1) (by decide)
    exact ⟨r, by rw [hr, Nat.pow_succ]; omega⟩
  · exact rep M e (by omega)
theorem infR_lt : infR < 9223372036854775808 := by decide
theorem lt_pow {M e k : Nat} (h1 : M ≤ 9007199254740992) (h2 : e + 2 ≤ k) : M * 2 ^ e < 4503599627370496 * 2 ^ k := by
  obtain ⟨k, rfl⟩ : ∃ j, k = j + 2 := ⟨k - 2, by omega⟩
  have g := pow_le_pow (show e ≤ k by omega)
  have hp := p_pos k
  have a1 : M * 2 ^ e ≤ 9007199254740992 * 2 ^ e := Nat.mul_le_mul_right _ h1
  rw [Nat.pow_succ, Nat.pow_succ]
  omega
theorem lt_inf {r M e : Nat} (h : V r = M * 2 ^ e) (h1 : M ≤ 9007199254740992) (h2 : e ≤ 2000) : r < infR := by
  obtain ⟨k, hk, hv⟩ := V_inf
  rw [← V_lt_iff, h, hv]
  exact lt_pow h1 (by omega)

/-! multiplied, divided by 2 to the 32nd -/
theorem mul_unit (x : Nat) (h : rg x < infR) (r : Nat) (hr : V r = V (rg x) * 2 ^ 32) : Ieee.double.mul x 4751297606875873280 = some (wd (sg x) (min r infR)) := by
  unfold Ieee.Format.mul
  have e : Ieee.double.read 4751297606875873280 = .number false 4503599627370496 (-20) := by decide
  rw [e, read_num x h]
  simp only [Ieee.Datum.product, Option.map, Ieee.Format.write, Bool.xor_false]
  congr 1
  refine nearest_V _ _ _ r (up (rg x)) 20 (by omega) ?_
  rw [hr]; unfold V
  generalize mg (rg x) = m
  generalize up (rg x) = u
  have : (2 : Nat) ^ 32 * 2 ^ 20 = 4503599627370496 := by decide
  rw [Nat.mul_assoc (m * 2 ^ u), this, Nat.mul_assoc, Nat.mul_assoc, Nat.mul_comm 4503599627370496]
theorem div_unit (x : Nat) (h : rg x < infR) (r : Nat) (hr : V r * 2 ^ 32 = V (rg x)) : Ieee.double.div x 4751297606875873280 = some (wd (sg x) (min r infR)) := by
  unfold Ieee.Format.div
  have e : Ieee.double.read 4751297606875873280 = .number false 4503599627370496 (-20) := by decide
  have e' : Ieee.double.fractionBits = 52 := rfl
  have e'' : (4503599627370496 : Nat).log2 = 52 := log2_of (by decide) (by decide)
  rw [e, read_num x h, e']
  simp only [Ieee.Datum.quotient, Option.map, Ieee.Format.write, Bool.xor_false, e'', shl]
  rw [if_neg (by decide)]
  simp only []
  congr 1
  have hl : (mg (rg x)).log2 ≤ 52 := by
    by_cases hz : mg (rg x) = 0
    · rw [hz]; decide
    · have : (mg (rg x)).log2 < 53 := by rw [Nat.log2_lt hz]; exact mg_lt _
      omega
  revert hr hl
  unfold V
  generalize mg (rg x) = m
  generalize up (rg x) = u
  generalize m.log2 = l
  intro hr hl
  obtain ⟨k, hk⟩ : ∃ k, 54 + 52 - l = k + 52 := ⟨54 + 52 - l - 52, by omega⟩
  rw [hk, Nat.pow_add, show (2 : Nat) ^ 52 = 4503599627370496 by decide, ← Nat.mul_assoc, Nat.mul_div_cancel _ (by decide), Nat.mul_mod_left]
  refine nearest_V _ _ _ r u (k + 33) (by omega) ?_
  have hr' : V r * 2 ^ 32 = m * 2 ^ u := hr
  show (2 * (m * 2 ^ k) + 0) * 2 ^ u = V r * 2 ^ (k + 33)
  have : V r * 2 ^ (k + 33) = (V r * 2 ^ 32) * (2 ^ k * 2) := by
    rw [show k + 33 = 32 + (k + 1) by omega, Nat.pow_add, Nat.pow_succ 2 k, Nat.mul_assoc]
  rw [this, hr']
  grind

/-! sums -/
theorem sum_T (x y : Nat) (k : Nat) (hx : k ≤ up (rg x)) (hy : k ≤ up (rg y)) :
    (Ieee.signed (sg x) (mg (rg x)) (up (rg x) - k) + Ieee.signed (sg y) (mg (rg y)) (up (rg y) - k)) * ((2 ^ k : Nat) : Int) = sV x + sV y := by
  rw [Int.add_mul, sV_scale x k hx, sV_scale y k hy]
theorem sum_exact (x y : Nat) (hx : rg x < infR) (hy : rg y < infR) (r : Nat) (hr : (sV x + sV y).natAbs = V r) :
    ((Ieee.double.read x).sum (Ieee.double.read y)).map Ieee.double.write = some (wd (if sV x + sV y = 0 then sg x && sg y else decide (sV x + sV y < 0)) (min r infR)) := by
  rw [read_num x hx, read_num y hy]
  simp only [Ieee.Datum.sum, Option.map, Ieee.Format.write]
  have key2 : ∀ k : Nat, k ≤ up (rg x) → k ≤ up (rg y) →
      Ieee.double.nearest (if Ieee.signed (sg x) (mg (rg x)) (up (rg x) - k) + Ieee.signed (sg y) (mg (rg y)) (up (rg y) - k) = 0 then sg x && sg y else decide (Ieee.signed (sg x) (mg (rg x)) (up (rg x) - k) + Ieee.signed (sg y) (mg (rg y)) (up (rg y) - k) < 0)) (Ieee.signed (sg x) (mg (rg x)) (up (rg x) - k) + Ieee.signed (sg y) (mg (rg y)) (up (rg y) - k)).natAbs (-1074 + (k : Int)) = wd (if sV x + sV y = 0 then sg x && sg y else decide (sV x + sV y < 0)) (min r infR) := by
    intro k a b
    have ht := sum_T x y k a b
    generalize Ieee.signed (sg x) (mg (rg x)) (up (rg x) - k) + Ieee.signed (sg y) (mg (rg y)) (up (rg y) - k) = T at *
    have hp : (0 : Int) < ((2 ^ k : Nat) : Int) := by have := p_pos k; omega
    have z1 : T = 0 ↔ sV x + sV y = 0 := by
      rw [← ht]
      constructor
      · intro g; rw [g, Int.zero_mul]
      · intro g; rcases Int.mul_eq_zero.1 g with g | g
        · exact g
        · omega
    have z2 : T < 0 ↔ sV x + sV y < 0 := by
      rw [← ht]
      have : T * ((2 ^ k : Nat) : Int) < 0 * ((2 ^ k : Nat) : Int) ↔ T < 0 := Int.mul_lt_mul_right hp
      rw [Int.zero_mul] at this
      exact this.symm
    simp only [z1, z2]
    refine nearest_V _ _ _ r k 0 (by omega) ?_
    rw [← hr, ← ht, Int.natAbs_mul, Int.natAbs_natCast, Nat.pow_zero, Nat.mul_one]
  rcases Nat.le_total (up (rg x)) (up (rg y)) with g | g
  · have e : min (-1074 + ((up (rg x) : Nat) : Int)) (-1074 + ((up (rg y) : Nat) : Int)) = -1074 + ((up (rg x) : Nat) : Int) := by omega
    have t1 : (-1074 + ((up (rg x) : Nat) : Int) - (-1074 + ((up (rg x) : Nat) : Int))).toNat = up (rg x) - up (rg x) := by omega
    have t2 : (-1074 + ((up (rg y) : Nat) : Int) - (-1074 + ((up (rg x) : Nat) : Int))).toNat = up (rg y) - up (rg x) := by omega
    rw [e, t1, t2, ← key2 (up (rg x)) (Nat.le_refl _) g]
  · have e : min (-1074 + ((up (rg x) : Nat) : Int)) (-1074 + ((up (rg y) : Nat) : Int)) = -1074 + ((up (rg y) : Nat) : Int) := by omega
    have t1 : (-1074 + ((up (rg x) : Nat) : Int) - (-1074 + ((up (rg y) : Nat) : Int))).toNat = up (rg x) - up (rg y) := by omega
    have t2 : (-1074 + ((up (rg y) : Nat) : Int) - (-1074 + ((up (rg y) : Nat) : Int))).toNat = up (rg y) - up (rg y) := by omega
    rw [e, t1, t2, ← key2 (up (rg y)) g (Nat.le_refl _)]
theorem add_exact (x y : Nat) (hx : rg x < infR) (hy : rg y < infR) (r : Nat) (hr : (sV x + sV y).natAbs = V r) :
    Ieee.double.add x y = some (wd (if sV x + sV y = 0 then sg x && sg y else decide (sV x + sV y < 0)) (min r infR)) := sum_exact x y hx hy r hr
theorem opp_read (y : Nat) (hy : rg y < infR) : (Ieee.double.read y).opposite = Ieee.double.read (wd (!sg y) (rg y)) := by
  have := rg_lt y
  rw [read_num y hy, read_num _ (by rw [rg_wd _ this]; exact hy), rg_wd _ this, sg_wd _ this]
  rfl
theorem sub_exact (x y : Nat) (hx : rg x < infR) (hy : rg y < infR) (r : Nat) (hr : (sV x - sV y).natAbs = V r) :
    Ieee.double.sub x y = some (wd (if sV x - sV y = 0 then sg x && !sg y else decide (sV x - sV y < 0)) (min r infR)) := by
  have h1 := rg_lt y
  have e : sV (wd (!sg y) (rg y)) = -sV y := by
    unfold sV
    rw [rg_wd _ h1, sg_wd _ h1]
    cases sg y <;> simp
  unfold Ieee.Format.sub
  rw [opp_read y hy]
  have := sum_exact x (wd (!sg y) (rg y)) hx (by rw [rg_wd _ h1]; exact hy) r (by rw [e]; exact hr)
  rw [e, sg_wd _ h1, ← Int.sub_eq_add_neg] at this
  exact this
end Go.Proofs.Ytdmhbagibofjhab

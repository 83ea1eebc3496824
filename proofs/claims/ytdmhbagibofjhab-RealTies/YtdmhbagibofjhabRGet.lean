/-
  The Fix that is nearest to a float64, and the float64 that is nearest to a Fix, by rungs; no program in sight. Nothing is claimed here.
-/
import Derived.Test.YtdmhbagibofjhabRNear
import Derived.Test.YtdmhbagibofjhabNum
namespace Go.Proofs.Ytdmhbagibofjhab
open Go Go.RowKit

/-- The places of the units: kept in a box, so that nobody reckons the powers. -/
structure Ks where
  g : Nat
  u : Nat
  hg : g = 1042
  hu : u = g + 32
theorem Ks.u_eq (K : Ks) : K.u = 1074 := by have := K.hg; have := K.hu; omega
variable {K : Ks}
/-- The amount of the Fix that is nearest to what a rung stands for. -/
def gN (K : Ks) (r : Nat) : Nat := rne (V r) (2 ^ K.g)
/-- What RoundToEven answers of what is no NaN. -/
def rteW (x : Nat) : Nat := Ieee.double.write ((Ieee.double.read x).integral .even)
theorem uE_gE : (2 : Nat) ^ K.u = 2 ^ K.g * 2 ^ 32 := by
  rw [← Nat.pow_add, K.hu]

theorem rte_whole (x : Nat) (h : rg x < infR) : (Ieee.double.read x).integral .even = .number (sg x) (rne (V (rg x)) (2 ^ K.u)) 0 := by
  rw [read_num x h]
  simp only [Ieee.Datum.integral, cut_even, shl]
  congr 1
  unfold V
  generalize mg (rg x) = m
  generalize up (rg x) = u
  rcases Nat.le_total K.u u with g | g
  · have a : (-1074 + (u : Int)).toNat = u - K.u := by have := K.u_eq; omega
    have b : (-(-1074 + (u : Int))).toNat = 0 := by have := K.u_eq; omega
    rw [a, b, Nat.pow_zero, rne_one]
    have : m * 2 ^ u = m * 2 ^ (u - K.u) * 2 ^ K.u := by rw [Nat.mul_assoc, ← Nat.pow_add]; congr 2; omega
    rw [this, rne_exact _ _ (p_pos _)]
  · have a : (-1074 + (u : Int)).toNat = 0 := by have := K.u_eq; omega
    have b : (-(-1074 + (u : Int))).toNat = K.u - u := by have := K.u_eq; omega
    rw [a, b, Nat.pow_zero, Nat.mul_one]
    have : (2 : Nat) ^ K.u = 2 ^ (K.u - u) * 2 ^ u := by rw [← Nat.pow_add]; congr 1; omega
    rw [this, rne_mul _ _ _ (p_pos _)]
theorem rne_le {n d k : Nat} (hd : 0 < d) (h : n ≤ k * d) : rne n d ≤ k := by
  have := rne_mono hd h
  rwa [rne_exact _ _ hd] at this
theorem rne_ge {n d k : Nat} (hd : 0 < d) (h : k * d ≤ n) : k ≤ rne n d := by
  have := rne_mono hd h
  rwa [rne_exact _ _ hd] at this
theorem rte_rep (r : Nat) (h : r < infR) : ∃ r2, V r2 = rne (V r) (2 ^ K.u) * 2 ^ K.u ∧ r2 < infR := by
  rcases Nat.le_total K.u (up r) with g | g
  · refine ⟨r, ?_, h⟩
    have : V r = mg r * 2 ^ (up r - K.u) * 2 ^ K.u := by unfold V; rw [Nat.mul_assoc, ← Nat.pow_add]; congr 2; omega
    have h2 := rne_exact (mg r * 2 ^ (up r - K.u)) (2 ^ K.u) (p_pos _)
    rw [← this] at h2
    rw [h2]; exact this
  · have h1 : rne (V r) (2 ^ K.u) ≤ 9007199254740992 := by
      apply rne_le (p_pos _)
      unfold V
      have := mg_lt r
      exact Nat.mul_le_mul (by omega) (pow_le_pow g)
    obtain ⟨r2, h2⟩ := rep' _ K.u h1
    exact ⟨r2, h2, lt_inf h2 h1 (by have := K.u_eq; omega)⟩
theorem rte_num (x : Nat) (h : rg x < infR) (r2 : Nat) (hr : V r2 = rne (V (rg x)) (2 ^ K.u) * 2 ^ K.u) : rteW x = wd (sg x) (min r2 infR) := by
  unfold rteW
  rw [rte_whole (K := K) x h]
  simp only [Ieee.Format.write]
  refine nearest_V _ _ _ r2 K.u 0 (by have := K.u_eq; omega) ?_
  rw [hr, Nat.pow_zero, Nat.mul_one]
theorem rte_inf (x : Nat) (h : rg x = infR) : rteW x = wd (sg x) infR := by
  unfold rteW
  rw [read_inf x h]
  simp only [Ieee.Datum.integral, Ieee.Format.write, word_wd]
  rfl
theorem gN_unit (r r1 : Nat) (h : V r1 = V r * 2 ^ 32) : rne (V r1) (2 ^ K.u) = gN K r := by
  rw [h, uE_gE, rne_mul _ _ _ (p_pos _)]; rfl
theorem get_math (x : Nat) (h : rg x < infR) : ∃ x1 x2, Ieee.double.mul x 4751297606875873280 = some x1 ∧ rg x1 ≤ infR ∧ rteW x1 = x2 ∧ rg x2 ≤ infR ∧ sg x2 = sg x ∧ x2 < 18446744073709551616 ∧ (rg x2 < infR → V (rg x2) = gN K (rg x) * 2 ^ K.u) ∧ (rg x2 = infR → 18446744073709551616 ≤ gN K (rg x)) := by
  obtain ⟨r, hr⟩ := rep (mg (rg x)) (up (rg x) + 32) (mg_lt _)
  have hr' : V r = V (rg x) * 2 ^ 32 := by rw [hr]; unfold V; rw [Nat.pow_add, Nat.mul_assoc]
  have hm := mul_unit x h r hr'
  have hi := infR_lt
  have hg := gN_unit (K := K) _ _ hr'
  have b1 : rg (wd (sg x) (min r infR)) = min r infR := rg_wd _ (by omega)
  have b2 : sg (wd (sg x) (min r infR)) = sg x := sg_wd _ (by omega)
  rcases Nat.lt_or_ge r infR with g | g
  · have e : min r infR = r := by omega
    rw [e] at hm b1 b2
    obtain ⟨r2, g1, g2⟩ := rte_rep (K := K) r g
    have h2 := rte_num (wd (sg x) r) (by rw [b1]; exact g) r2 (by rw [b1]; exact g1)
    have e2 : min r2 infR = r2 := by omega
    rw [e2, b2] at h2
    have c1 : rg (wd (sg x) r2) = r2 := rg_wd _ (by omega)
    have c2 : sg (wd (sg x) r2) = sg x := sg_wd _ (by omega)
    refine ⟨_, _, hm, by rw [b1]; omega, h2, by rw [c1]; omega, c2, wd_lt _ (by omega), ?_, ?_⟩
    · intro _; rw [c1, g1, hg]
    · intro k; rw [c1] at k; omega
  · have e : min r infR = infR := by omega
    rw [e] at hm b1 b2
    have h2 := rte_inf (wd (sg x) infR) b1
    rw [b2] at h2
    refine ⟨_, _, hm, by rw [b1]; omega, h2, by rw [b1]; omega, b2, wd_lt _ hi, ?_, ?_⟩
    · intro k; rw [b1] at k; omega
    · intro _
      rw [← hg]
      apply rne_ge (p_pos _)
      have h3 := V_le g
      obtain ⟨k, hk, hv⟩ := V_inf
      refine Nat.le_trans ?_ h3
      rw [hv]
      have h4 : 2 ^ (K.u + 12) ≤ 2 ^ k := pow_le_pow (by have := K.u_eq; omega)
      rw [Nat.pow_add] at h4
      have : (2 : Nat) ^ 12 = 4096 := by decide
      rw [this] at h4
      clear hk hv
      generalize 2 ^ k = A at *
      generalize 2 ^ K.u = B at *
      omega
theorem V_63 : V 4890909195324358656 = 9223372036854775808 * 2 ^ K.u := by
  obtain ⟨k, hk⟩ : ∃ k : Nat, k = 1085 := ⟨_, rfl⟩
  have h := V_of k 4503599627370496 (by decide) (Or.inr (by decide))
  have e : k * 4503599627370496 + 4503599627370496 = 4890909195324358656 := by omega
  have e2 : k = 11 + K.u := by have := K.u_eq; omega
  rw [e] at h
  rw [h, e2, Nat.pow_add, ← Nat.mul_assoc, show 4503599627370496 * 2 ^ 11 = 9223372036854775808 by decide]
theorem key_m63 : key 14114281232179134464 = -4890909195324358656 := by decide
theorem key_63 : key 4890909195324358656 = 4890909195324358656 := by decide
/-- What the two tests against the ends tell. -/
theorem ends (x2 N : Nat) (h0 : rg x2 ≤ infR) (h1 : rg x2 < infR → V (rg x2) = N * 2 ^ K.u) (h2 : rg x2 = infR → 18446744073709551616 ≤ N) :
    (4890909195324358656 < rg x2 ↔ 9223372036854775808 < N) ∧ (4890909195324358656 ≤ rg x2 ↔ 9223372036854775808 ≤ N) := by
  rcases Nat.lt_or_ge (rg x2) infR with g | g
  · have hv := h1 g
    have a := V_lt_iff 4890909195324358656 (rg x2)
    have b := V_lt_iff (rg x2) 4890909195324358656
    rw [hv, V_63] at a b
    rw [Nat.mul_lt_mul_right (p_pos _)] at a b
    omega
  · have := h2 (by omega)
    have hi : infR = 9218868437227405312 := rfl
    omega
theorem cmp_lt (a b : Int) : (some (compare a b) == some Ordering.lt) = decide (a < b) := by
  simp only [compare, compareOfLessAndEq]
  by_cases h : a < b
  · simp [h]
  · by_cases h2 : a = b <;> simp [h, h2]
theorem cmp_gt (a b : Int) : (some (compare a b) == some Ordering.gt) = decide (b < a) := by
  simp only [compare, compareOfLessAndEq]
  by_cases h : a < b
  · have : ¬ b < a := by omega
    simp [h, this]
  · by_cases h2 : a = b
    · simp [h2]
    · have : b < a := by omega
      simp [h, h2, this]
theorem cmp_eq (a b : Int) : (some (compare a b) == some Ordering.eq) = decide (a = b) := by
  simp only [compare, compareOfLessAndEq]
  by_cases h : a < b
  · have : ¬ a = b := by omega
    simp [h, this]
  · by_cases h2 : a = b
    · simp [h2]
    · simp [h, h2]
theorem test_low (x2 N : Nat) (h0 : rg x2 ≤ infR) (h1 : rg x2 < infR → V (rg x2) = N * 2 ^ K.u) (h2 : rg x2 = infR → 18446744073709551616 ≤ N) :
    (Ieee.double.order x2 14114281232179134464 == some .lt) = (sg x2 && decide (9223372036854775808 < N)) := by
  obtain ⟨a, b⟩ := ends x2 N h0 h1 h2
  rw [order_key _ _ h0 (by decide), cmp_lt, key_m63]
  unfold key
  cases sg x2
  · simp
  · simp; omega
theorem test_high (x2 N : Nat) (h0 : rg x2 ≤ infR) (h1 : rg x2 < infR → V (rg x2) = N * 2 ^ K.u) (h2 : rg x2 = infR → 18446744073709551616 ≤ N) :
    ((Ieee.double.order x2 4890909195324358656 == some .gt) || (Ieee.double.order x2 4890909195324358656 == some .eq)) = (!sg x2 && decide (9223372036854775808 ≤ N)) := by
  obtain ⟨a, b⟩ := ends x2 N h0 h1 h2
  rw [order_key _ _ h0 (by decide), cmp_gt, cmp_eq, key_63]
  unfold key
  cases sg x2
  · simp only [Bool.false_eq_true, if_false, Bool.not_false, Bool.true_and]
    rw [Bool.eq_iff_iff]; simp; omega
  · simp; omega
theorem toInt_of (x2 N : Nat) (h0 : rg x2 < infR) (h1 : V (rg x2) = N * 2 ^ K.u) : (Ieee.double.read x2).toInt .zero = some (if sg x2 = true then -(N : Int) else (N : Int)) := by
  have hN : Ieee.Toward.zero.cut (sg x2) (mg (rg x2) <<< (-1074 + ((up (rg x2) : Nat) : Int)).toNat) (-(-1074 + ((up (rg x2) : Nat) : Int))).toNat = N := by
    rw [cut_zero, shl]
    unfold V at h1
    revert h1
    generalize mg (rg x2) = m
    generalize up (rg x2) = u
    intro h1
    rcases Nat.le_total K.u u with g | g
    · have a : (-1074 + (u : Int)).toNat = u - K.u := by have := K.u_eq; omega
      have b : (-(-1074 + (u : Int))).toNat = 0 := by have := K.u_eq; omega
      rw [a, b, Nat.pow_zero, Nat.div_one]
      have : m * 2 ^ u = m * 2 ^ (u - K.u) * 2 ^ K.u := by rw [Nat.mul_assoc, ← Nat.pow_add]; congr 2; omega
      rw [this] at h1
      exact Nat.eq_of_mul_eq_mul_right (p_pos _) h1
    · have a : (-1074 + (u : Int)).toNat = 0 := by have := K.u_eq; omega
      have b : (-(-1074 + (u : Int))).toNat = K.u - u := by have := K.u_eq; omega
      rw [a, b, Nat.pow_zero, Nat.mul_one]
      have : (2 : Nat) ^ K.u = 2 ^ (K.u - u) * 2 ^ u := by rw [← Nat.pow_add]; congr 1; omega
      rw [this, ← Nat.mul_assoc] at h1
      rw [Nat.eq_of_mul_eq_mul_right (p_pos _) h1, Nat.mul_div_cancel _ (p_pos _)]
  unfold Ieee.Datum.toInt
  rw [read_num x2 h0]
  simp only [Ieee.Datum.integral, hN]
  rw [signed_eq, Nat.pow_zero, Nat.mul_one]
theorem toFix (x2 N : Nat) (h0 : rg x2 < infR) (h1 : V (rg x2) = N * 2 ^ K.u) (v : Int) (hv : v = if sg x2 = true then -(N : Int) else (N : Int)) (hf : inF v) : floatToIntVal .f64 x2 .i64 = some v := by
  unfold floatToIntVal
  have e : (FloatKind.f64.decode x2).toInt .zero = some v := by rw [hv]; exact toInt_of x2 N h0 h1
  rw [e]
  simp only []
  rw [if_pos]
  unfold inF at hf
  simp [IntKind.min, IntKind.max, IntKind.signed, IntKind.bits]
  omega

/-- What Get answers: the number and the error. -/
def gR (K : Ks) (x : Nat) : Int × Int := if infR < rg x then (0, 1) else if rg x = infR then (0, 2) else sgR (sg x) (gN K (rg x))
theorem gR_in (x : Nat) : inF (gR K x).1 := by
  unfold gR
  split
  · exact ⟨by decide, by decide⟩
  split
  · exact ⟨by decide, by decide⟩
  rcases sgR_cases (sg x) (gN K (rg x)) with ⟨_, h2, h3⟩ | ⟨_, h2, h3⟩ | ⟨_, _, h3⟩ <;> rw [h3]
  · unfold inF; simp only []; omega
  · unfold inF; simp only []; omega
  · exact ⟨by decide, by decide⟩

/-! whole numbers as float64s -/
/-- The amount of a whole number's float64. -/
def fl (n : Nat) : Nat := if n.log2 ≤ 52 then n else rne n (2 ^ (n.log2 - 52)) * 2 ^ (n.log2 - 52)
theorem fl_small {n : Nat} (h : n < 9007199254740992) : fl n = n := by
  unfold fl
  by_cases hz : n = 0
  · subst hz; rfl
  · have : n.log2 < 53 := by rw [Nat.log2_lt hz]; exact h
    rw [if_pos (by omega)]
theorem fl_big {n l : Nat} (h1 : 4503599627370496 * 2 ^ l ≤ n) (h2 : n < 9007199254740992 * 2 ^ l) : fl n = rne n (2 ^ l) * 2 ^ l := by
  have hp := p_pos l
  have hz : n ≠ 0 := by omega
  have e : n.log2 = 52 + l := by
    apply Nat.le_antisymm
    · have : n.log2 < 53 + l := by rw [Nat.log2_lt hz, Nat.pow_add]; exact h2
      omega
    · rw [Nat.le_log2 hz, Nat.pow_add]; exact h1
  unfold fl
  by_cases g : l = 0
  · subst g; rw [if_pos (by omega), Nat.pow_zero, Nat.mul_one, rne_one]
  · rw [if_neg (by omega), e, Nat.add_sub_cancel_left]
theorem fl_place (n : Nat) (h : 9007199254740992 ≤ n) : ∃ l, 1 ≤ l ∧ 4503599627370496 * 2 ^ l ≤ n ∧ n < 9007199254740992 * 2 ^ l := by
  have hz : n ≠ 0 := by omega
  have h1 := Nat.log2_self_le hz
  have h2 := Nat.lt_log2_self (n := n)
  have h3 : 53 ≤ n.log2 := by rw [Nat.le_log2 hz]; exact h
  refine ⟨n.log2 - 52, by omega, ?_, ?_⟩
  · rw [show n.log2 = 52 + (n.log2 - 52) by omega, Nat.pow_add] at h1; exact h1
  · rw [show n.log2 + 1 = 53 + (n.log2 - 52) by omega, Nat.pow_add] at h2; exact h2
theorem fl_between {n l : Nat} (h1 : 4503599627370496 * 2 ^ l ≤ n) (h2 : n < 9007199254740992 * 2 ^ l) : 4503599627370496 * 2 ^ l ≤ fl n ∧ fl n ≤ 9007199254740992 * 2 ^ l := by
  rw [fl_big h1 h2]
  exact ⟨Nat.mul_le_mul_right _ (rne_ge (p_pos _) h1), Nat.mul_le_mul_right _ (rne_le (p_pos _) (by omega))⟩
theorem fl_mono {a b : Nat} (h : a ≤ b) : fl a ≤ fl b := by
  rcases Nat.lt_or_ge b 9007199254740992 with g | g
  · rw [fl_small g, fl_small (by omega)]; exact h
  obtain ⟨l, _, b1, b2⟩ := fl_place b g
  have c := fl_between b1 b2
  rcases Nat.lt_or_ge a (4503599627370496 * 2 ^ l) with k | k
  · refine Nat.le_trans ?_ c.1
    rcases Nat.lt_or_ge a 9007199254740992 with g' | g'
    · rw [fl_small g']; omega
    obtain ⟨l', _, a1, a2⟩ := fl_place a g'
    have c' := fl_between a1 a2
    have : l' < l := by
      apply Nat.lt_of_not_le
      intro q
      have := pow_le_pow q
      omega
    obtain ⟨j, rfl⟩ : ∃ j, l = j + 1 := ⟨l - 1, by omega⟩
    have := pow_le_pow (show l' ≤ j by omega)
    rw [Nat.pow_succ]
    omega
  · rw [fl_big k (by omega), fl_big b1 b2]
    exact Nat.mul_le_mul_right _ (rne_mono (p_pos _) h)
theorem fl_near {n : Nat} (h : n ≤ 9223372036854775808) : n ≤ fl n + 512 ∧ fl n ≤ n + 512 ∧ fl n ≤ 9223372036854775808 := by
  rcases Nat.lt_or_ge n 9007199254740992 with g | g
  · rw [fl_small g]; omega
  obtain ⟨l, hl, b1, b2⟩ := fl_place n g
  by_cases e : n = 9223372036854775808
  · have : fl 9223372036854775808 = 9223372036854775808 := by
      have := fl_big (n := 9223372036854775808) (l := 11) (by decide) (by decide)
      rw [this]
      decide
    subst e
    omega
  have hl2 : l ≤ 10 := by
    apply Nat.le_of_not_lt
    intro q
    have := pow_le_pow (show 11 ≤ l by omega)
    rw [show (2 : Nat) ^ 11 = 2048 by decide] at this
    omega
  have hp : 2 ^ l ≤ 1024 := by
    have := pow_le_pow hl2
    rwa [show (2 : Nat) ^ 10 = 1024 by decide] at this
  obtain ⟨s1, s2, s3⟩ := rne_spec n (2 ^ l) (p_pos l)
  have t := fl_big b1 b2
  have c := fl_between b1 b2
  have e1 : (2 * rne n (2 ^ l) + 1) * 2 ^ l = 2 * (rne n (2 ^ l) * 2 ^ l) + 2 ^ l := by grind
  have e2 : 2 * rne n (2 ^ l) * 2 ^ l = 2 * (rne n (2 ^ l) * 2 ^ l) := by grind
  rw [← t] at e1 e2
  have h3 : fl n ≤ 9223372036854775808 := by
    have := fl_mono h
    rwa [show fl 9223372036854775808 = 9223372036854775808 by rw [fl_big (n := 9223372036854775808) (l := 11) (by decide) (by decide)]; decide] at this
  omega
theorem fl_pos {n : Nat} (h : 0 < n) : 0 < fl n := by
  have := fl_mono (show 1 ≤ n by omega)
  rw [fl_small (show 1 < 9007199254740992 by decide)] at this
  omega
/-- Its rung. -/
theorem fl_rung (s : Bool) (n : Nat) (h : n ≤ 9223372036854775808) : ∃ r, V r = fl n * 2 ^ K.u ∧ r < infR ∧ Ieee.double.nearest s n 0 = wd s r := by
  rcases Nat.lt_or_ge n 9007199254740992 with g | g
  · obtain ⟨r, hr⟩ := rep n K.u g
    have hi := lt_inf hr (by omega) (by have := K.u_eq; omega)
    refine ⟨r, by rw [fl_small g]; exact hr, hi, ?_⟩
    rw [nearest_V s n 0 r K.u 0 (by have := K.u_eq; omega) (by rw [hr, Nat.pow_zero, Nat.mul_one])]
    congr 1; omega
  · obtain ⟨l, hl, b1, b2⟩ := fl_place n g
    have hp := p_pos l
    have hz : n ≠ 0 := by omega
    have e : n.log2 = 52 + l := by
      apply Nat.le_antisymm
      · have : n.log2 < 53 + l := by rw [Nat.log2_lt hz, Nat.pow_add]; exact b2
        omega
      · rw [Nat.le_log2 hz, Nat.pow_add]; exact b1
    have hl2 : l ≤ 11 := by
      apply Nat.le_of_not_lt
      intro q
      have := pow_le_pow (show 12 ≤ l by omega)
      rw [show (2 : Nat) ^ 12 = 4096 by decide] at this
      omega
    have hn := nearest_at s n 0 (l + K.u) hz (by rw [e]; have := K.u_eq; omega)
    have x1 : ((0 : Int) + 1074 - ((l + K.u : Nat) : Int)).toNat = 0 := by have := K.u_eq; omega
    have x2 : (((l + K.u : Nat) : Int) - 1074 - 0).toNat = l := by have := K.u_eq; omega
    rw [x1, x2, Nat.pow_zero, Nat.mul_one] at hn
    have k1 : 4503599627370496 ≤ rne n (2 ^ l) := rne_ge hp b1
    have k2 : rne n (2 ^ l) ≤ 9007199254740992 := rne_le hp (by omega)
    have hv := V_of (l + K.u) (rne n (2 ^ l)) k2 (Or.inr k1)
    have hi := lt_inf hv k2 (by have := K.u_eq; omega)
    refine ⟨_, ?_, hi, ?_⟩
    · rw [hv, fl_big b1 b2, Nat.pow_add, Nat.mul_assoc]
    · rw [hn, Nat.min_eq_left (Nat.le_of_lt hi)]
/-- The rung of a Fix's float64. -/
theorem put_math (a : Int) (h : inF a) : ∃ r, V r = fl a.natAbs * 2 ^ K.g ∧ r < infR ∧ Ieee.double.div (floatOfInt .f64 a) 4751297606875873280 = some (wd (decide (a < 0)) r) := by
  unfold inF at h
  obtain ⟨r0, h1, h2, h3⟩ := fl_rung (K := K) (decide (a < 0)) a.natAbs (by omega)
  have e : floatOfInt .f64 a = wd (decide (a < 0)) r0 := h3
  have hi := infR_lt
  have hx : ∃ r, V r * 2 ^ 32 = V r0 := by
    rcases Nat.lt_or_ge a.natAbs 9007199254740992 with g | g
    · obtain ⟨r, hr⟩ := rep a.natAbs K.g g
      exact ⟨r, by rw [hr, h1, fl_small g, uE_gE, Nat.mul_assoc]⟩
    · obtain ⟨l, hl, b1, b2⟩ := fl_place _ g
      have k2 : rne a.natAbs (2 ^ l) ≤ 9007199254740992 := rne_le (p_pos _) (by omega)
      obtain ⟨r, hr⟩ := rep' _ (l + K.g) k2
      exact ⟨r, by rw [hr, h1, fl_big b1 b2, uE_gE, Nat.pow_add]; grind⟩
  obtain ⟨r, hr⟩ := hx
  have hr2 : V r = fl a.natAbs * 2 ^ K.g := by
    have : V r * 2 ^ 32 = fl a.natAbs * 2 ^ K.g * 2 ^ 32 := by rw [hr, h1, uE_gE, Nat.mul_assoc]
    exact Nat.eq_of_mul_eq_mul_right (p_pos _) this
  have hlt : r < infR := by
    have : V r ≤ V r0 := by rw [← hr]; exact Nat.le_mul_of_pos_right _ (p_pos _)
    have := V_lt_iff r0 r
    omega
  refine ⟨r, hr2, hlt, ?_⟩
  rw [e, div_unit _ (by rw [rg_wd _ (by omega)]; exact h2) r (by rw [rg_wd _ (by omega)]; exact hr), sg_wd _ (by omega)]
  congr 2; omega
end Go.Proofs.Ytdmhbagibofjhab

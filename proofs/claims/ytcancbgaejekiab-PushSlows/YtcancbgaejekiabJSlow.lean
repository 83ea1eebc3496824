/-
  Plain numbers, no program in sight: a contact along X of two balls of whole masses and speeds. Nothing is claimed here.
-/
import Derived.Test.YtcancbgaejekiabJLaw
namespace Go.Proofs.Ytcancbgaejekiab
open Go Go.RowKit

def ballM (m u : Int) : Bd := ⟨1, 4294967296, 0, m, 0, 0, u, 0⟩
/-- By a whole number: the amount is shared. -/
theorem divM_shift {a m : Int} (hm : 0 < m) : divM a (m * 4294967296) = ab a / m := by
  unfold divM
  rw [show ab (m * 4294967296) = m * 4294967296 by have := ab_of (m * 4294967296); omega]
  exact Int.mul_ediv_mul_of_pos_left _ _ (by decide)
theorem light_ball {m u : Int} (hm : 0 < m) : lightR (ballM (m * 4294967296) u) = (4294967296 / m, 0) := by
  have h0 : 0 ≤ 4294967296 / m := Int.ediv_nonneg (by decide) (by omega)
  have h1 : 4294967296 / m ≤ 4294967296 := Int.ediv_le_self _ (by decide)
  unfold lightR ballM
  simp only
  rw [if_neg (by omega)]
  unfold divR
  rw [if_neg (by omega), divM_shift hm, sgn_one (by omega), show ab 4294967296 = 4294967296 by decide, show decide ((4294967296 : Int) < 0) = false by decide]
  exact sgR_pos _ (by omega)
theorem div_times {z m : Int} (hm : 0 < m) (hz : inF z) : divR (z * m) (m * 4294967296) = (z, 0) := by
  have e : ab (z * m) = ab z * m := by
    rcases ab_of z with ⟨h, e⟩ | ⟨h, e⟩
    · have := Int.mul_neg_of_neg_of_pos h hm
      rw [e, Int.neg_mul]
      have := ab_of (z * m)
      omega
    · have := Int.mul_nonneg h (Int.le_of_lt hm)
      rw [e]
      have := ab_of (z * m)
      omega
  have s : decide (z * m < 0) = decide (z < 0) := by
    rw [decide_eq_decide]
    constructor
    · intro h
      refine Decidable.byContradiction fun g => ?_
      have := Int.mul_nonneg (show 0 ≤ z by omega) (Int.le_of_lt hm)
      omega
    · intro h; exact Int.mul_neg_of_neg_of_pos h hm
  unfold divR
  rw [if_neg (by omega), divM_shift hm, e, Int.mul_ediv_cancel _ (by omega), sgn_one (by omega), s]
  exact sgR_self hz
theorem div_nothing {m : Int} (hm : 0 < m) : divR 0 m = (0, 0) := by
  unfold divR
  rw [if_neg (by omega), divM_zero_left, sgR_zero]
theorem speed_ball {m z : Int} (hm : 0 < m) (hz : inF z) : speedR (ballM (m * 4294967296) (z * m)) = (z, 0, 0) := by
  unfold speedR ballM
  simp only
  rw [if_neg (by omega), div_times hm hz, div_nothing (by omega)]; rfl
theorem v_ball {m n z y : Int} (hm : 0 < m) (hn : 0 < n) (hz : -4398046511104 ≤ z ∧ z ≤ 4398046511104) (hy : -4398046511104 ≤ y ∧ y ≤ 4398046511104) :
    vR (ballM (m * 4294967296) (z * m)) (ballM (n * 4294967296) (y * n)) 4294967296 0 = (y - z, 0) := by
  have iz : inF z := ⟨by omega, by omega⟩
  have iy : inF y := ⟨by omega, by omega⟩
  have id : inF (y - z) := ⟨by omega, by omega⟩
  unfold vR
  rw [speed_ball hm iz, speed_ball hn iy]
  simp only
  rw [ifN_ok rfl, ifN_ok rfl, show subR y z = (y - z, 0) from inR_ok id, subR_zero inF0]
  show ifN 0 (dotV (y - z) 0 4294967296 0) = _
  rw [ifN_ok rfl]
  unfold dotV
  rw [mulR_one id, mulR_zero]
  show addR (y - z) 0 = _
  exact addR_zero id
theorem k_ball {m n u v : Int} (hm : 0 < m) (hn : 0 < n) : kR (ballM (m * 4294967296) u) (ballM (n * 4294967296) v) = (4294967296 / m + 4294967296 / n, 0) := by
  have h0 : 0 ≤ 4294967296 / m := Int.ediv_nonneg (by decide) (by omega)
  have h1 : 4294967296 / m ≤ 4294967296 := Int.ediv_le_self _ (by decide)
  have h2 : 0 ≤ 4294967296 / n := Int.ediv_nonneg (by decide) (by omega)
  have h3 : 4294967296 / n ≤ 4294967296 := Int.ediv_le_self _ (by decide)
  unfold kR
  rw [light_ball hm, light_ball hn, behind_ok rfl, behind_ok rfl]
  exact inR_ok ⟨by simp only; omega, by simp only; omega⟩
/-- Nothing deep: places stay. -/
theorem apart_none {A B : Bd} {k : Int} (hA : A.ok) (hB : B.ok) (hk : 0 < k) (la : (lightR A).2 = 0) (lb : (lightR B).2 = 0) : thenR ((A, B), 0) 4294967296 0 0 k = ((A, B), 0) := by
  have c0 : cR 0 k = (0, 0) := by unfold cR; exact div_nothing hk
  have oA : offR A 0 = (0, 0) := mulR_zero_left _
  have oB : offR B 0 = (0, 0) := mulR_zero_left _
  have vA : offV A 4294967296 0 0 = (0, 0, 0) := by unfold offV; rw [oA]; exact scale_zero _ _
  have vB : offV B 4294967296 0 0 = (0, 0, 0) := by unfold offV; rw [oB]; exact scale_zero _ _
  have bA : backV A 4294967296 0 0 = (A.p, A.q, 0) := by unfold backV; rw [vA]; simp only; rw [subR_zero hA.p, subR_zero hA.q]; rfl
  have bB : forthV B 4294967296 0 0 = (B.p, B.q, 0) := by unfold forthV; rw [vB]; simp only; rw [addR_zero hB.p, addR_zero hB.q]; rfl
  unfold thenR
  rw [c0]
  unfold apartR
  rw [ifP_ok rfl, ifP_ok rfl, ifP_ok la, oA, ifP_ok rfl, vA, ifP_ok rfl, bA, ifP_ok rfl, ifP_ok lb, oB, ifP_ok rfl, vB, ifP_ok rfl, bB, ifP_ok rfl]; rfl
/-- The push: three halves of the way that they come nearer, by the lightness. -/
def slowJ (m n d : Int) : Int := d * 3 / 2 * 4294967296 / (4294967296 / m + 4294967296 / n)
theorem tdiv_half {d : Int} (h : 0 ≤ d) : (-d).tdiv 2 = -(d / 2) := by
  rw [Int.neg_tdiv, Int.tdiv_eq_ediv_of_nonneg h]
theorem slow_bound {m n d : Int} (hm : 0 < m) (hm2 : m ≤ 50) (hn : 0 < n) (hn2 : n ≤ 50) (hd : 0 ≤ d) (hd2 : d ≤ 858993459200) : 0 ≤ slowJ m n d ∧ slowJ m n d ≤ 26 * (d * 3 / 2) ∧ 0 < 4294967296 / m + 4294967296 / n := by
  obtain ⟨a, ha⟩ : ∃ a, a = 4294967296 / m := ⟨_, rfl⟩
  obtain ⟨b, hb⟩ : ∃ b, b = 4294967296 / n := ⟨_, rfl⟩
  have a0 : 85899345 ≤ a := by
    rw [ha]
    exact Int.le_ediv_of_mul_le hm (by have := Int.mul_le_mul_of_nonneg_left hm2 (show (0 : Int) ≤ 85899345 by decide); omega)
  have b0 : 85899345 ≤ b := by
    rw [hb]
    exact Int.le_ediv_of_mul_le hn (by have := Int.mul_le_mul_of_nonneg_left hn2 (show (0 : Int) ≤ 85899345 by decide); omega)
  unfold slowJ
  rw [← ha, ← hb]
  obtain ⟨q, hq⟩ : ∃ q, q = d * 3 / 2 := ⟨_, rfl⟩
  have q0 : 0 ≤ q := by omega
  rw [← hq]
  refine ⟨Int.ediv_nonneg (by omega) (by omega), ?_, by omega⟩
  refine Int.ediv_le_of_le_mul (by omega) ?_
  have := Int.mul_le_mul_of_nonneg_left (show (4294967296 : Int) ≤ 26 * (a + b) by omega) q0
  have e : q * (26 * (a + b)) = 26 * q * (a + b) := by grind
  omega
/-- What becomes of two that come nearer. -/
theorem contact_slow {m n z y : Int} (hm : 0 < m) (hm2 : m ≤ 50) (hn : 0 < n) (hn2 : n ≤ 50) (hz : -429496729600 ≤ z ∧ z ≤ 429496729600) (hy : -429496729600 ≤ y ∧ y ≤ 429496729600) (ez : z % 2 = 0) (ey : y % 2 = 0) (h : y < z) :
    contactR (ballM (m * 4294967296) (z * m)) (ballM (n * 4294967296) (y * n)) ⟨4294967296, 0, 0⟩ = ((ballM (m * 4294967296) (z * m - slowJ m n (z - y)), ballM (n * 4294967296) (y * n + slowJ m n (z - y))), 0) := by
  have kb := @k_ball m n (z * m) (y * n) hm hn
  have vb := @v_ball m n z y hm hn ⟨by omega, by omega⟩ ⟨by omega, by omega⟩
  obtain ⟨j0, j1, kp⟩ := slow_bound hm hm2 hn hn2 (show 0 ≤ z - y by omega) (by omega)
  have zm : -21474836480000 ≤ z * m ∧ z * m ≤ 21474836480000 := by
    have h1 := Int.mul_le_mul_of_nonneg_right hz.2 (Int.le_of_lt hm)
    have h2 := Int.mul_le_mul_of_nonneg_right hz.1 (Int.le_of_lt hm)
    omega
  have yn : -21474836480000 ≤ y * n ∧ y * n ≤ 21474836480000 := by
    have h1 := Int.mul_le_mul_of_nonneg_right hy.2 (Int.le_of_lt hn)
    have h2 := Int.mul_le_mul_of_nonneg_right hy.1 (Int.le_of_lt hn)
    omega
  obtain ⟨k, hk⟩ : ∃ k, k = 4294967296 / m + 4294967296 / n := ⟨_, rfl⟩
  obtain ⟨J, hJ⟩ : ∃ J, J = slowJ m n (z - y) := ⟨_, rfl⟩
  have hj : jR (y - z) k = (J, 0) ∧ (halfR (y - z)).2 = 0 ∧ (turnR (y - z)).2 = 0 := by
    have e1 : halfR (y - z) = (-((z - y) * 3 / 2), 0) := by
      unfold halfR
      rw [show y - z = -(z - y) by omega, tdiv_half (by omega)]
      unfold addR
      rw [show -(z - y) + -((z - y) / 2) = -((z - y) * 3 / 2) by omega]
      exact inR_ok ⟨by omega, by omega⟩
    have e2 : turnR (y - z) = ((z - y) * 3 / 2, 0) := by
      unfold turnR subR
      rw [e1]
      simp only
      rw [show 0 - -((z - y) * 3 / 2) = (z - y) * 3 / 2 by omega]
      exact inR_ok ⟨by omega, by omega⟩
    refine ⟨?_, by rw [e1], by rw [e2]⟩
    unfold jR
    rw [e2]
    simp only
    unfold divR
    rw [if_neg (by omega), sgn_one (by omega), show decide ((z - y) * 3 / 2 < 0) = false from decide_eq_false (by omega)]
    have e3 : divM ((z - y) * 3 / 2) k = J := by
      rw [hJ, hk]
      unfold divM slowJ
      rw [show ab ((z - y) * 3 / 2) = (z - y) * 3 / 2 by have := ab_of ((z - y) * 3 / 2); omega]
      rw [show ab (4294967296 / m + 4294967296 / n) = 4294967296 / m + 4294967296 / n by have := ab_of (4294967296 / m + 4294967296 / n); omega]
    rw [e3]
    exact sgR_pos _ (by omega)
  rw [← hJ] at j0 j1
  rw [← hk] at kb kp
  have iJ : inF J := ⟨by omega, by omega⟩
  have okA : (ballM (m * 4294967296) (z * m - J)).ok := by constructor <;> constructor <;> simp only [ballM] <;> omega
  have okB : (ballM (n * 4294967296) (y * n + J)).ok := by constructor <;> constructor <;> simp only [ballM] <;> omega
  have ap : applyR (ballM (m * 4294967296) (z * m)) (ballM (n * 4294967296) (y * n)) J 0 = ((ballM (m * 4294967296) (z * m - J), ballM (n * 4294967296) (y * n + J)), 0) := by
    have l1 : lessM (ballM (m * 4294967296) (z * m)) J 0 = (ballM (m * 4294967296) (z * m - J), 0) := by
      unfold lessM lessV
      rw [if_neg (by simp only [ballM]; omega)]
      show put (two (subR (z * m) J) (subR 0 0)) _ = _
      rw [subR_zero inF0, show subR (z * m) J = (z * m - J, 0) from inR_ok ⟨by omega, by omega⟩]; rfl
    have l2 : plusM (ballM (n * 4294967296) (y * n)) J 0 = (ballM (n * 4294967296) (y * n + J), 0) := by
      unfold plusM plusV
      rw [if_neg (by simp only [ballM]; omega)]
      show put (two (addR (y * n) J) (addR 0 0)) _ = _
      rw [addR_zero inF0, show addR (y * n) J = (y * n + J, 0) from inR_ok ⟨by omega, by omega⟩]; rfl
    unfold applyR
    rw [l1, l2]; rfl
  have mt : metR (ballM (m * 4294967296) (z * m)) (ballM (n * 4294967296) (y * n)) 4294967296 0 (y - z) k = ((ballM (m * 4294967296) (z * m - J), ballM (n * 4294967296) (y * n + J)), 0) := by
    unfold metR
    rw [if_pos (by omega)]
    unfold pushR
    rw [ifP_ok hj.2.1, ifP_ok hj.2.2, hj.1, ifP_ok rfl, scale_x iJ, ifP_ok rfl]
    exact ap
  rw [← hJ]
  unfold contactR
  rw [kb]
  simp only
  rw [ifP_ok rfl, if_neg (by omega), vb]
  simp only
  rw [ifP_ok rfl, mt]
  exact apart_none okA okB kp (by rw [light_ball hm]) (by rw [light_ball hn])
theorem contact_same {m n z y : Int} (hm : 0 < m) (hm2 : m ≤ 50) (hn : 0 < n) (hn2 : n ≤ 50) (hz : -429496729600 ≤ z ∧ z ≤ 429496729600) (hy : -429496729600 ≤ y ∧ y ≤ 429496729600) (h : z ≤ y) :
    contactR (ballM (m * 4294967296) (z * m)) (ballM (n * 4294967296) (y * n)) ⟨4294967296, 0, 0⟩ = ((ballM (m * 4294967296) (z * m), ballM (n * 4294967296) (y * n)), 0) := by
  have kb := @k_ball m n (z * m) (y * n) hm hn
  have vb := @v_ball m n z y hm hn ⟨by omega, by omega⟩ ⟨by omega, by omega⟩
  obtain ⟨_, _, kp⟩ := slow_bound hm hm2 hn hn2 (show 0 ≤ (0 : Int) by decide) (by decide)
  have zm : -21474836480000 ≤ z * m ∧ z * m ≤ 21474836480000 := by
    have h1 := Int.mul_le_mul_of_nonneg_right hz.2 (Int.le_of_lt hm)
    have h2 := Int.mul_le_mul_of_nonneg_right hz.1 (Int.le_of_lt hm)
    omega
  have yn : -21474836480000 ≤ y * n ∧ y * n ≤ 21474836480000 := by
    have h1 := Int.mul_le_mul_of_nonneg_right hy.2 (Int.le_of_lt hn)
    have h2 := Int.mul_le_mul_of_nonneg_right hy.1 (Int.le_of_lt hn)
    omega
  have okA : (ballM (m * 4294967296) (z * m)).ok := by constructor <;> constructor <;> simp only [ballM] <;> omega
  have okB : (ballM (n * 4294967296) (y * n)).ok := by constructor <;> constructor <;> simp only [ballM] <;> omega
  unfold contactR
  rw [kb]
  simp only
  rw [ifP_ok rfl, if_neg (by omega), vb]
  simp only
  rw [ifP_ok rfl]
  unfold metR
  rw [if_neg (by omega)]
  exact apart_none okA okB kp (by rw [light_ball hm]) (by rw [light_ball hn])
/-- How fast they go apart. -/
theorem slow_gone {m n z y : Int} (hm : 0 < m) (hm2 : m ≤ 50) (hn : 0 < n) (hn2 : n ≤ 50) (hd2 : z - y ≤ 858993459200) (h : 4294967296 ≤ z - y) :
    0 < (y * n + slowJ m n (z - y)).tdiv n - (z * m - slowJ m n (z - y)).tdiv m ∧ (y * n + slowJ m n (z - y)).tdiv n - (z * m - slowJ m n (z - y)).tdiv m ≤ z - y := by
  obtain ⟨j0, j1, kp⟩ := slow_bound hm hm2 hn hn2 (show 0 ≤ z - y by omega) (by omega)
  obtain ⟨a, ha⟩ : ∃ a, a = 4294967296 / m := ⟨_, rfl⟩
  obtain ⟨b, hb⟩ : ∃ b, b = 4294967296 / n := ⟨_, rfl⟩
  have a0 : 0 ≤ a := by rw [ha]; exact Int.ediv_nonneg (by decide) (by omega)
  have b0 : 0 ≤ b := by rw [hb]; exact Int.ediv_nonneg (by decide) (by omega)
  have a1 : a * m ≤ 4294967296 := by rw [ha]; exact Int.ediv_mul_le _ (by omega)
  have b1 : b * n ≤ 4294967296 := by rw [hb]; exact Int.ediv_mul_le _ (by omega)
  have a2 : 4294967296 < (a + 1) * m := by rw [ha]; exact Int.lt_ediv_add_one_mul_self _ hm
  have b2 : 4294967296 < (b + 1) * n := by rw [hb]; exact Int.lt_ediv_add_one_mul_self _ hn
  have a3 : a ≤ 4294967296 := by rw [ha]; exact Int.ediv_le_self _ (by decide)
  have b3 : b ≤ 4294967296 := by rw [hb]; exact Int.ediv_le_self _ (by decide)
  obtain ⟨q, hq⟩ : ∃ q, q = (z - y) * 3 / 2 := ⟨_, rfl⟩
  obtain ⟨J, hJ⟩ : ∃ J, J = slowJ m n (z - y) := ⟨_, rfl⟩
  have J1 : J * (a + b) ≤ q * 4294967296 := by
    rw [hJ]; unfold slowJ; rw [← ha, ← hb, ← hq]
    exact Int.ediv_mul_le _ (by omega)
  have J2 : q * 4294967296 < (J + 1) * (a + b) := by
    rw [hJ]; unfold slowJ; rw [← ha, ← hb, ← hq]
    exact Int.lt_ediv_add_one_mul_self _ (by omega)
  rw [← hJ] at j0 j1 ⊢
  rw [← hq] at j1
  obtain ⟨t, ht⟩ : ∃ t, t = (y * n + J).tdiv n := ⟨_, rfl⟩
  obtain ⟨s, hs⟩ : ∃ s, s = (z * m - J).tdiv m := ⟨_, rfl⟩
  have t1 := Int.mul_tdiv_add_tmod (y * n + J) n
  have t2 := Int.tmod_lt_of_pos (y * n + J) hn
  have t3 := Int.lt_tmod_of_pos (y * n + J) hn
  have s1 := Int.mul_tdiv_add_tmod (z * m - J) m
  have s2 := Int.tmod_lt_of_pos (z * m - J) hm
  have s3 := Int.lt_tmod_of_pos (z * m - J) hm
  rw [← ht] at t1 ⊢
  rw [← hs] at s1 ⊢
  -- how far each is from its own speed
  obtain ⟨p, hp⟩ : ∃ p, p = t - y := ⟨_, rfl⟩
  obtain ⟨r, hr⟩ : ∃ r, r = z - s := ⟨_, rfl⟩
  have ep : n * t = y * n + n * p := by rw [hp]; grind
  have er : m * s = z * m - m * r := by rw [hr]; grind
  have p1 : J - n < n * p := by omega
  have p2 : n * p < J + n := by omega
  have r1 : J - m < m * r := by omega
  have r2 : m * r < J + m := by omega
  have p0 : 0 ≤ p := by
    refine Decidable.byContradiction fun g => ?_
    have := Int.mul_le_mul_of_nonneg_left (show p ≤ -1 by omega) (Int.le_of_lt hn)
    omega
  have r0 : 0 ≤ r := by
    refine Decidable.byContradiction fun g => ?_
    have := Int.mul_le_mul_of_nonneg_left (show r ≤ -1 by omega) (Int.le_of_lt hm)
    omega
  -- from below
  have l1 : 4294967296 * r ≥ a * J - 4294967296 := by
    have e1 := Int.mul_le_mul_of_nonneg_right a1 r0
    have e2 := Int.mul_le_mul_of_nonneg_left (show J - m ≤ m * r by omega) a0
    have e3 : a * (m * r) = a * m * r := by grind
    have e4 : a * (J - m) = a * J - a * m := by grind
    omega
  have l2 : 4294967296 * p ≥ b * J - 4294967296 := by
    have e1 := Int.mul_le_mul_of_nonneg_right b1 p0
    have e2 := Int.mul_le_mul_of_nonneg_left (show J - n ≤ n * p by omega) b0
    have e3 : b * (n * p) = b * n * p := by grind
    have e4 : b * (J - n) = b * J - b * n := by grind
    omega
  have e5 : J * (a + b) = a * J + b * J := by grind
  have e6 : (J + 1) * (a + b) = a * J + b * J + a + b := by grind
  -- from above
  have u1 : 4294967296 * r ≤ a * J + J + 8589934592 := by
    have e1 := Int.mul_le_mul_of_nonneg_right (Int.le_of_lt a2) r0
    have e2 := Int.mul_le_mul_of_nonneg_left (show m * r ≤ J + m by omega) (show 0 ≤ a + 1 by omega)
    have e3 : (a + 1) * (m * r) = (a + 1) * m * r := by grind
    have e4 : (a + 1) * (J + m) = a * J + J + a * m + m := by grind
    omega
  have u2 : 4294967296 * p ≤ b * J + J + 8589934592 := by
    have e1 := Int.mul_le_mul_of_nonneg_right (Int.le_of_lt b2) p0
    have e2 := Int.mul_le_mul_of_nonneg_left (show n * p ≤ J + n by omega) (show 0 ≤ b + 1 by omega)
    have e3 : (b + 1) * (n * p) = (b + 1) * n * p := by grind
    have e4 : (b + 1) * (J + n) = b * J + J + b * n + n := by grind
    omega
  clear ep er t1 t2 t3 s1 s2 s3 a1 a2 b1 b2 p1 p2 r1 r2
  constructor <;> omega
end Go.Proofs.Ytcancbgaejekiab

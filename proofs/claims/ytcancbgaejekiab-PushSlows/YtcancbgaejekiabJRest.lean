/-
  Plain numbers, no program in sight: a joint between two that rest. Nothing is claimed here.
-/
import Derived.Test.YtcancbgaejekiabJLaw
namespace Go.Proofs.Ytcancbgaejekiab
open Go Go.RowKit

def alJ : Bd := ⟨1, 4294967296, 0, 4294967296, 0, 0, 0, 0⟩
theorem alJ_ok : alJ.ok := by constructor <;> exact ⟨by decide, by decide⟩
theorem joint_of {A B : Bd} {n x y p q l k v t s j a b : Int} (h1 : wayV A B = (x, y, 0)) (h2 : unitR x y = ((p, q), l, 0)) (h3 : ¬ l = 0) (h4 : kR A B = (k, 0)) (h5 : ¬ k = 0) (h6 : vR A B p q = (v, 0)) (h7 : pullR v l n = (t, 0)) (h8 : subR 0 t = (s, 0)) (h9 : divR s k = (j, 0)) (h10 : scaleV p q j = (a, b, 0)) :
    jointR A B n = applyR A B a b := by
  unfold jointR
  rw [h1]
  simp only
  rw [ifP_ok rfl, h2]
  unfold heldU
  simp only
  rw [ifP_ok rfl, if_neg h3, h4]
  simp only
  rw [ifP_ok rfl, if_neg h5, h6]
  simp only
  rw [ifP_ok rfl, h7]
  simp only
  rw [ifP_ok rfl]
  unfold heldR
  rw [h8]
  simp only
  rw [ifP_ok rfl, h9]
  simp only
  rw [ifP_ok rfl, h10]
  simp only
  rw [ifP_ok rfl]
theorem rest_k (x y : Int) : kR alJ (alJ.pos x y) = (8589934592, 0) := by kernel_rfl
theorem rest_way {x y : Int} (hx : inF x) (hy : inF y) : wayV alJ (alJ.pos x y) = (x, y, 0) := by
  show two (subR x 0) (subR y 0) = _
  rw [subR_zero hx, subR_zero hy]; rfl
theorem rest_v (x y p q : Int) : vR alJ (alJ.pos x y) p q = (0, 0) := by
  have h1 : speedR alJ = (0, 0, 0) := by kernel_rfl
  have h2 : speedR (alJ.pos x y) = (0, 0, 0) := by kernel_rfl
  unfold vR
  rw [h1, h2]
  simp only
  rw [ifN_ok rfl, ifN_ok rfl, subR_zero inF0]
  show ifN 0 (dotV 0 0 p q) = _
  rw [ifN_ok rfl]
  unfold dotV
  rw [mulR_zero_left, mulR_zero_left]
  rfl
theorem rt2_side {s : Int} (h0 : 0 ≤ s) (h1 : s ≤ 9223372036854775807) : rt2 s 0 = s ∧ rt2 0 s = s := by
  have b : s * s ≤ 9223372036854775807 * 9223372036854775807 := Int.mul_le_mul h1 h1 h0 (by decide)
  have n := Int.mul_nonneg h0 h0
  have e : rt (s * s) = s := rt_eq ⟨h0, Int.le_refl _, by have : (s + 1) * (s + 1) = s * s + 2 * s + 1 := (by grind); omega⟩ (by omega)
  unfold rt2
  rw [Int.mul_zero, Int.add_zero, Int.zero_add]
  exact ⟨e, e⟩
theorem unit_y {s : Int} (h0 : 0 < s) (h1 : s ≤ 36028797018963968) : unitR 0 s = ((0, 4294967296), s, 0) := by
  rw [unit_mild ⟨by decide, by decide⟩ ⟨by omega, h1⟩]
  unfold unitI
  rw [(rt2_side (by omega) (by omega)).2, if_neg (by omega), qd_zero, qd_self h0]
theorem unit_x {s : Int} (h0 : 0 < s) (h1 : s ≤ 36028797018963968) : unitR s 0 = ((4294967296, 0), s, 0) := by
  rw [unit_mild ⟨by omega, h1⟩ ⟨by decide, by decide⟩]
  unfold unitI
  rw [(rt2_side (by omega) (by omega)).1, if_neg (by omega), qd_zero, qd_self h0]
theorem joint_none {s : Int} (h0 : 0 < s) (h1 : s ≤ 36028797018963968) : jointR alJ (alJ.pos 0 s) s = ((alJ, alJ.pos 0 s), 0) := by
  have i : inF s := ⟨by omega, by omega⟩
  rw [joint_of (rest_way inF0 i) (unit_y h0 h1) (by omega) (rest_k 0 s) (by decide) (rest_v 0 s 0 4294967296) (t := 0) (s := 0) (j := 0) (a := 0) (b := 0) ?_ (by kernel_rfl) (by kernel_rfl) (scale_zero _ _)]
  · exact apply_none alJ_ok (alJ_ok.pos inF0 i)
  · unfold pullR
    rw [show subR s s = (0, 0) by unfold subR; rw [Int.sub_self]; rfl]
    kernel_rfl
theorem ab_twice (y : Int) : ab (2 * y) = 2 * ab y := by have := ab_of y; have := ab_of (2 * y); omega
theorem div_twice {y : Int} (h : inF y) : divR (2 * y) 8589934592 = (y, 0) := by
  have e : divM (2 * y) 8589934592 = ab y := by
    unfold divM
    rw [ab_twice, show ab 8589934592 = 8589934592 by decide, show 2 * ab y * 4294967296 = ab y * 8589934592 by omega]
    exact Int.mul_ediv_cancel _ (by decide)
  unfold divR
  rw [if_neg (by decide), e, sgn_one (by decide), show decide (2 * y < 0) = decide (y < 0) by rw [decide_eq_decide]; omega]
  exact sgR_self h
theorem mul_eight {y : Int} (h : inF (8 * y)) : mulR y 34359738368 = (8 * y, 0) := by
  have a8 : ab (8 * y) = 8 * ab y := by have := ab_of y; have := ab_of (8 * y); omega
  have e : mulM y 34359738368 = ab (8 * y) := by
    unfold mulM
    rw [a8, show ab 34359738368 = 34359738368 by decide, show ab y * 34359738368 = 8 * ab y * 4294967296 by omega]
    exact Int.mul_ediv_cancel _ (by decide)
  unfold mulR
  rw [e, sgn_one (by decide), show decide (y < 0) = decide (8 * y < 0) by rw [decide_eq_decide]; omega]
  exact sgR_self h
/-- A joint along X between two that rest: s long, n wanted. -/
theorem joint_pulls {s n : Int} (h0 : 0 < s) (h1 : s ≤ 36028797018963968) (g0 : 0 ≤ n) (g1 : n ≤ 36028797018963968) : jointR alJ (alJ.pos s 0) n = ((alJ.mom (4 * (s - n)) 0, (alJ.pos s 0).mom (-(4 * (s - n))) 0), 0) := by
  have i : inF s := ⟨by omega, by omega⟩
  have ij : inF (-(4 * (s - n))) := ⟨by omega, by omega⟩
  rw [joint_of (rest_way i inF0) (unit_x h0 h1) (by omega) (rest_k s 0) (by decide) (rest_v s 0 4294967296 0) (t := 8 * (s - n)) (s := 2 * -(4 * (s - n))) (j := -(4 * (s - n))) ?_ ?_ (div_twice ij) (scale_x ij)]
  · have e1 : subR 0 (-(4 * (s - n))) = (4 * (s - n), 0) := by unfold subR; rw [show 0 - -(4 * (s - n)) = 4 * (s - n) by omega]; exact inR_ok ⟨by omega, by omega⟩
    have e2 : addR 0 (-(4 * (s - n))) = (-(4 * (s - n)), 0) := by unfold addR; rw [Int.zero_add]; exact inR_ok ij
    have l1 : lessM alJ (-(4 * (s - n))) 0 = (alJ.mom (4 * (s - n)) 0, 0) := by
      unfold lessM lessV
      show put (two (subR 0 (-(4 * (s - n)))) (subR 0 0)) alJ.mom = _
      rw [e1, subR_zero inF0]; rfl
    have l2 : plusM (alJ.pos s 0) (-(4 * (s - n))) 0 = ((alJ.pos s 0).mom (-(4 * (s - n))) 0, 0) := by
      unfold plusM plusV
      show put (two (addR 0 (-(4 * (s - n)))) (addR 0 0)) (alJ.pos s 0).mom = _
      rw [e2, addR_zero inF0]; rfl
    unfold applyR
    rw [l1, l2]; rfl
  · unfold pullR
    rw [show subR s n = (s - n, 0) from inR_ok ⟨by omega, by omega⟩]
    simp only
    rw [ifN_ok rfl, mul_eight ⟨by omega, by omega⟩]
    simp only
    rw [ifN_ok rfl]
    unfold addR
    rw [Int.zero_add]
    exact inR_ok ⟨by omega, by omega⟩
  · unfold subR
    rw [show 0 - 8 * (s - n) = 2 * -(4 * (s - n)) by omega]
    exact inR_ok ⟨by omega, by omega⟩
end Go.Proofs.Ytcancbgaejekiab

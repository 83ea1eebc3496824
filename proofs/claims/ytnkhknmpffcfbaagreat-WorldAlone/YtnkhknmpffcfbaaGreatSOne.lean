/-
  Plain numbers, no program in sight: worlds of one body; what goes alone, what falls alone.
-/
import Derived.Test.YtnkhknmpffcfbaaGreatSLaw
import Derived.Test.YtnkhknmpffcfbaaGreatLawNum
namespace Go.Proofs.YtnkhknmpffcfbaaGreat
open Go Go.RowKit

theorem roundE_none (L : List Bd) : roundE [] L = (L, 0) := rfl
theorem fallsE_one {x y : Int} {B B1 : Bd} (h : fallB x y B = (B1, 0)) : fallsE x y [B] = ([B1], 0) := by
  have e : fallE x y 0 [B] = ([B1], 0) := by
    show putE [B] 0 (fallB x y B) = _
    rw [h]; rfl
  show (if (fallE x y 0 [B]).2 = 0 then upE (fallE x y) 0 1 (fallE x y 0 [B]).1 else ([], (fallE x y 0 [B]).2)) = _
  rw [e]; rfl
theorem movesE_one {B B1 : Bd} (h : moveB B = (B1, 0)) : movesE [B] = ([B1], 0) := by
  have e : moveE 0 [B] = ([B1], 0) := by
    show putE [B] 0 (moveB B) = _
    rw [h]; rfl
  show (if (moveE 0 [B]).2 = 0 then upE moveE 0 1 (moveE 0 [B]).1 else ([], (moveE 0 [B]).2)) = _
  rw [e]; rfl
theorem bounceE_one {B : Bd} (h : (boxR B).2 = 0) : bounceE [B] = ([B], 0) := by
  have e : boxE [B] = ([(boxR B).1], 0) := by
    show (if (boxR B).2 = 0 then _ else _) = _
    rw [if_pos h]; rfl
  unfold bounceE
  rw [e]; rfl
theorem rightW_one {x y : Int} {B : Bd} (h : rightB B = true) (hx : -4294967296000 ≤ x ∧ x ≤ 4294967296000) (hy : -4294967296000 ≤ y ∧ y ≤ 4294967296000) : rightW x y [B] [] = true :=
  rightW_iff.2 ⟨by rw [List.all_cons, h]; rfl, rfl, decide_eq_true hx, decide_eq_true hy⟩
theorem step_one {x y : Int} {B B1 B2 : Bd} (h0 : rightB B = true) (hx : -4294967296000 ≤ x ∧ x ≤ 4294967296000) (hy : -4294967296000 ≤ y ∧ y ≤ 4294967296000) (h1 : fallB x y B = (B1, 0)) (h2 : (boxR B1).2 = 0) (h3 : moveB B1 = (B2, 0)) (h4 : rightB B2 = true) : stepE x y [] [B] = ([B2], 0) := by
  have ha : advE x y [] [B] = ([B2], 0) := by
    unfold advE
    rw [fallsE_one h1, thenE_ok rfl, roundE_none, thenE_ok rfl, bounceE_one h2, thenE_ok rfl, movesE_one h3]
  unfold stepE
  rw [if_pos (rightW_one h0 hx hy), ha, thenE_ok rfl]
  unfold endE
  rw [if_pos (by rw [List.all_cons, h4]; rfl)]
/-- Step by step. -/
theorem go_each {x y : Int} {J : List Jt} {F : Nat → List Bd} {n : Nat} (h : ∀ k, k < n → stepE x y J (F k) = (F (k + 1), 0)) : ∀ m k, k + m ≤ n → goE x y J m k (F k) = ((F (k + m), 0), 0)
  | 0, _, _ => rfl
  | m + 1, k, hk => by
    have h1 := h k (by omega)
    unfold goE
    rw [h1, if_pos rfl]
    have := go_each h m (k + 1) (by omega)
    rw [show k + 1 + m = k + (m + 1) by omega] at this
    exact this
theorem run_each {x y : Int} {J : List Jt} {F : Nat → List Bd} {n : Nat} (hn : n ≤ 200) (hr : rightW x y (F 0) J = true) (h : ∀ k, k < n → stepE x y J (F k) = (F (k + 1), 0)) : runE x y J (F 0) n = ((F n, 0), 0) := by
  unfold runE
  rw [if_neg (by omega)]
  by_cases h0 : n = 0
  · subst h0
    rw [if_pos (by rfl), if_pos hr]
  · rw [if_neg (by omega), Int.toNat_natCast]
    have := go_each h n 0 (by omega)
    rw [Nat.zero_add] at this
    exact this

theorem addR_is {a b : Int} (h : inF (a + b)) : addR a b = (a + b, 0) := inR_ok h
theorem partR_is (a : Int) : partR (a * 64) 64 = (a, 0) := by
  unfold partR
  rw [if_neg (by decide), if_neg (by omega), Int.mul_tdiv_cancel _ (by decide)]
theorem shareV_is (a b : Int) : shareV (a * 64, b * 64, 0) = (a, b, 0) := by
  unfold shareV
  rw [ifV_ok rfl]
  simp only
  rw [partR_is, partR_is]; rfl
theorem mulR_zl (a : Int) : mulR 0 a = (0, 0) := by rw [mulR_comm]; exact mulR_zero a
/-- Gravity of nothing gives nothing. -/
theorem fall_none {B : Bd} (h : B.ok) : fallB 0 0 B = (B, 0) := by
  unfold fallB
  by_cases hm : B.m = 0
  · rw [if_pos hm]
  · rw [if_neg hm]
    have e : gainV 0 0 B.m = (0, 0, 0) := by
      unfold gainV scaleV
      rw [mulR_zl]; rfl
    unfold fallV
    rw [e, ifV_ok rfl]
    simp only
    rw [addR_zero h.u, addR_zero h.v]; rfl
theorem box_ok {B : Bd} (hp : -1125899906842624 ≤ B.p ∧ B.p ≤ 1125899906842624) (hq : -1125899906842624 ≤ B.q ∧ B.q ≤ 1125899906842624) (ha : 0 ≤ B.a ∧ B.a ≤ 4294967296000) (hb : 0 ≤ B.b ∧ B.b ≤ 4294967296000) : (boxR B).2 = 0 := by
  have hr : 0 ≤ reachY B ∧ reachY B ≤ 4294967296000 := by unfold reachY; split <;> assumption
  unfold boxR
  rw [sOk (by omega), sOk (by omega), aOk (by omega), aOk (by omega)]; rfl

/-! ### What goes alone -/
def alone (x y : Int) (k : Nat) : Bd := ⟨2, 4294967296, 4294967296, 8589934592, x * k * 67108864, y * k * 67108864, 2 * (x * 4294967296), 2 * (y * 4294967296)⟩
theorem mul_small {x : Int} {k : Nat} (hx : -100 ≤ x ∧ x ≤ 100) (hk : k ≤ 51) : -5100 ≤ x * k ∧ x * k ≤ 5100 := by
  have h1 : x * k ≤ 100 * k := Int.mul_le_mul_of_nonneg_right hx.2 (by omega)
  have h2 : -100 * (k : Int) ≤ x * k := Int.mul_le_mul_of_nonneg_right hx.1 (by omega)
  omega
theorem alone_ok {x y : Int} {k : Nat} (hx : -100 ≤ x ∧ x ≤ 100) (hy : -100 ≤ y ∧ y ≤ 100) (hk : k ≤ 51) : (alone x y k).ok := by
  have := mul_small hx hk
  have := mul_small hy hk
  constructor <;> simp only [alone] <;> exact ⟨by omega, by omega⟩
theorem alone_right {x y : Int} {k : Nat} (hx : -100 ≤ x ∧ x ≤ 100) (hy : -100 ≤ y ∧ y ≤ 100) (hk : k ≤ 51) : rightB (alone x y k) = true := by
  have := mul_small hx hk
  have := mul_small hy hk
  rw [rightB_iff]
  simp only [alone]
  refine ⟨.inr ⟨by trivial, by decide, by decide⟩, by decide, by decide, .inr ⟨by decide, by decide⟩, ?_, ?_, ?_, ?_, ?_, ?_, ?_, ?_⟩ <;> omega
theorem div_two {y : Int} (h : inF y) : divR (2 * y) 8589934592 = (y, 0) := by
  unfold divR
  rw [if_neg (by decide)]
  have e : divM (2 * y) 8589934592 = ab y := by
    unfold divM
    rw [show ab (8589934592 : Int) = 8589934592 by decide, show ab (2 * y) = 2 * ab y by have := ab_of y; have := ab_of (2 * y); omega]
    omega
  rw [e]
  have hs : sgn (2 * y) 8589934592 = decide (y < 0) := by
    unfold sgn
    rw [show decide ((8589934592 : Int) < 0) = false by decide]
    by_cases hy : y < 0
    · rw [decide_eq_true hy, decide_eq_true (by omega)]; rfl
    · rw [decide_eq_false hy, decide_eq_false (by omega)]; rfl
  rw [hs]
  unfold sgR
  unfold inF at h
  by_cases hy : y < 0
  · rw [decide_eq_true hy, if_pos rfl, if_pos (by have := ab_of y; omega)]
    have := ab_of y
    exact Prod.ext (by show -ab y = y; omega) rfl
  · rw [decide_eq_false hy, if_neg (by decide), if_pos (by have := ab_of y; omega)]
    have := ab_of y
    exact Prod.ext (by show ab y = y; omega) rfl
theorem alone_move {x y : Int} {k : Nat} (hx : -100 ≤ x ∧ x ≤ 100) (hy : -100 ≤ y ∧ y ≤ 100) (hk : k ≤ 50) : moveB (alone x y k) = (alone x y (k + 1), 0) := by
  have b1 := mul_small hx (show k ≤ 51 by omega)
  have b2 := mul_small hy (show k ≤ 51 by omega)
  have hs : speedR (alone x y k) = (x * 67108864 * 64, y * 67108864 * 64, 0) := by
    unfold speedR
    rw [if_neg (by simp only [alone]; decide)]
    simp only [alone]
    rw [div_two ⟨by omega, by omega⟩, div_two ⟨by omega, by omega⟩]
    show (x * 4294967296, y * 4294967296, (0 : Int)) = _
    rw [Int.mul_assoc, Int.mul_assoc]; rfl
  unfold moveB
  rw [if_neg (by simp only [alone]; decide)]
  unfold moveV
  rw [hs, shareV_is, ifV_ok rfl]
  have e1 : (alone x y k).p + x * 67108864 = x * ((k + 1 : Nat) : Int) * 67108864 := by
    simp only [alone]
    rw [show ((k + 1 : Nat) : Int) = (k : Int) + 1 by omega, Int.mul_add, Int.mul_one, Int.add_mul]
  have e2 : (alone x y k).q + y * 67108864 = y * ((k + 1 : Nat) : Int) * 67108864 := by
    simp only [alone]
    rw [show ((k + 1 : Nat) : Int) = (k : Int) + 1 by omega, Int.mul_add, Int.mul_one, Int.add_mul]
  have c1 := mul_small hx (show k + 1 ≤ 51 by omega)
  have c2 := mul_small hy (show k + 1 ≤ 51 by omega)
  simp only
  rw [addR_is (by rw [e1]; exact ⟨by omega, by omega⟩), addR_is (by rw [e2]; exact ⟨by omega, by omega⟩), e1, e2]
  rfl
theorem alone_step {x y : Int} (hx : -100 ≤ x ∧ x ≤ 100) (hy : -100 ≤ y ∧ y ≤ 100) {k : Nat} (hk : k ≤ 50) : stepE 0 0 [] [alone x y k] = ([alone x y (k + 1)], 0) := by
  have b1 := mul_small hx (show k ≤ 51 by omega)
  have b2 := mul_small hy (show k ≤ 51 by omega)
  refine step_one (alone_right hx hy (by omega)) (by decide) (by decide) (fall_none (alone_ok hx hy (by omega))) (box_ok ?_ ?_ ?_ ?_) (alone_move hx hy hk) (alone_right hx hy (by omega)) <;> simp only [alone] <;> omega
theorem alone_run {x y : Int} (hx : -100 ≤ x ∧ x ≤ 100) (hy : -100 ≤ y ∧ y ≤ 100) {n : Nat} (hn : n ≤ 50) : runE 0 0 [] [alone x y 0] n = (([alone x y n], 0), 0) :=
  run_each (F := fun k => [alone x y k]) (by omega) (rightW_one (alone_right hx hy (by omega)) (by decide) (by decide)) fun k hk => alone_step hx hy (by omega)

/-! ### What falls alone -/
def tri (n : Nat) : Int := match n with | 0 => 0 | n + 1 => tri n + (n + 1 : Nat)
theorem tri_le : ∀ n : Nat, 0 ≤ tri n ∧ tri n ≤ n * 61 ∨ 60 < n
  | 0 => .inl ⟨Int.le_refl _, Int.le_refl _⟩
  | n + 1 => by
    rcases tri_le n with h | h
    · by_cases hn : 60 < n + 1
      · exact .inr hn
      · left
        unfold tri
        omega
    · exact .inr (by omega)
def drop1 (g : Int) (k : Nat) : Bd := ⟨1, 4294967296, 0, 4294967296, 0, g * tri k * 1048576, 0, g * k * 67108864⟩
theorem tri_small {g : Int} {k : Nat} (hg : -100 ≤ g ∧ g ≤ 100) (hk : k ≤ 60) : -366000 ≤ g * tri k ∧ g * tri k ≤ 366000 := by
  have ht : 0 ≤ tri k ∧ tri k ≤ 3660 := by
    rcases tri_le k with h | h <;> omega
  have h1 : g * tri k ≤ 100 * tri k := Int.mul_le_mul_of_nonneg_right hg.2 ht.1
  have h2 : -100 * tri k ≤ g * tri k := Int.mul_le_mul_of_nonneg_right hg.1 ht.1
  omega
theorem mul_small2 {x : Int} {k : Nat} (hx : -100 ≤ x ∧ x ≤ 100) (hk : k ≤ 60) : -6000 ≤ x * k ∧ x * k ≤ 6000 := by
  have h1 : x * k ≤ 100 * k := Int.mul_le_mul_of_nonneg_right hx.2 (by omega)
  have h2 : -100 * (k : Int) ≤ x * k := Int.mul_le_mul_of_nonneg_right hx.1 (by omega)
  omega
theorem drop_ok {g : Int} {k : Nat} (hg : -100 ≤ g ∧ g ≤ 100) (hk : k ≤ 60) : (drop1 g k).ok := by
  have := tri_small hg hk
  have := mul_small2 hg hk
  constructor <;> simp only [drop1] <;> exact ⟨by omega, by omega⟩
theorem drop_right {g : Int} {k : Nat} (hg : -100 ≤ g ∧ g ≤ 100) (hk : k ≤ 60) : rightB (drop1 g k) = true := by
  have := tri_small hg hk
  have := mul_small2 hg hk
  rw [rightB_iff]
  simp only [drop1]
  refine ⟨.inl ⟨by trivial, by trivial⟩, by decide, by decide, .inr ⟨by decide, by decide⟩, ?_, ?_, ?_, ?_, ?_, ?_, ?_, ?_⟩ <;> omega
def dropM (g : Int) (k : Nat) : Bd := ⟨1, 4294967296, 0, 4294967296, 0, g * tri k * 1048576, 0, g * (k + 1 : Nat) * 67108864⟩
theorem drop_fall {g : Int} {k : Nat} (hg : -100 ≤ g ∧ g ≤ 100) (hk : k < 60) : fallB 0 (g * 4294967296) (drop1 g k) = (dropM g k, 0) := by
  have b1 := mul_small2 hg (show k ≤ 60 by omega)
  have b2 := mul_small2 hg (show k + 1 ≤ 60 by omega)
  unfold fallB
  rw [if_neg (by simp only [drop1]; decide)]
  have e : gainV 0 (g * 4294967296) (drop1 g k).m = (0, g * 67108864, 0) := by
    unfold gainV scaleV
    simp only [drop1]
    rw [mulR_zl, mulR_one ⟨by omega, by omega⟩]
    show shareV (0 * 64, g * 4294967296, 0) = _
    rw [show g * 4294967296 = g * 67108864 * 64 by rw [Int.mul_assoc]; rfl, shareV_is]
  unfold fallV
  rw [e, ifV_ok rfl]
  have e2 : (drop1 g k).v + g * 67108864 = g * ((k + 1 : Nat) : Int) * 67108864 := by
    simp only [drop1]
    rw [show ((k + 1 : Nat) : Int) = (k : Int) + 1 by omega, Int.mul_add, Int.mul_one, Int.add_mul]
  simp only
  rw [addR_zero (drop_ok hg (show k ≤ 60 by omega)).u, addR_is (by rw [e2]; exact ⟨by omega, by omega⟩), e2]
  rfl
theorem drop_move {g : Int} {k : Nat} (hg : -100 ≤ g ∧ g ≤ 100) (hk : k < 60) : moveB (dropM g k) = (drop1 g (k + 1), 0) := by
  have b1 := tri_small hg (show k ≤ 60 by omega)
  have b2 := tri_small hg (show k + 1 ≤ 60 by omega)
  have b3 := mul_small2 hg (show k + 1 ≤ 60 by omega)
  have hs : speedR (dropM g k) = (0 * 64, g * ((k + 1 : Nat) : Int) * 1048576 * 64, 0) := by
    unfold speedR
    rw [if_neg (by simp only [dropM]; decide)]
    simp only [dropM]
    rw [divR_one ⟨by omega, by omega⟩, divR_one ⟨by omega, by omega⟩]
    show ((0 : Int), g * ((k + 1 : Nat) : Int) * 67108864, (0 : Int)) = _
    rw [Int.mul_assoc _ 1048576 64]; rfl
  unfold moveB
  rw [if_neg (by simp only [dropM]; decide)]
  unfold moveV
  rw [hs, shareV_is, ifV_ok rfl]
  have e2 : (dropM g k).q + g * ((k + 1 : Nat) : Int) * 1048576 = g * tri (k + 1) * 1048576 := by
    simp only [dropM]
    rw [show tri (k + 1) = tri k + ((k + 1 : Nat) : Int) from rfl, Int.mul_add, Int.add_mul]
  simp only
  rw [addR_zero (show inF (dropM g k).p from inF0), addR_is (by rw [e2]; exact ⟨by omega, by omega⟩), e2]
  rfl
theorem drop_step {g : Int} (hg : -100 ≤ g ∧ g ≤ 100) {k : Nat} (hk : k < 60) : stepE 0 (g * 4294967296) [] [drop1 g k] = ([drop1 g (k + 1)], 0) := by
  have b1 := tri_small hg (show k ≤ 60 by omega)
  refine step_one (drop_right hg (by omega)) (by decide) (by omega) (drop_fall hg hk) (box_ok ?_ ?_ ?_ ?_) (drop_move hg hk) (drop_right hg (by omega)) <;> simp only [dropM] <;> omega
theorem drop_run {g : Int} (hg : -100 ≤ g ∧ g ≤ 100) {n : Nat} (hn : n ≤ 60) : runE 0 (g * 4294967296) [] [drop1 g 0] n = (([drop1 g n], 0), 0) :=
  run_each (F := fun k => [drop1 g k]) (by omega) (rightW_one (drop_right hg (by omega)) (by decide) (by omega)) fun k hk => drop_step hg (by omega)
end Go.Proofs.YtnkhknmpffcfbaaGreat

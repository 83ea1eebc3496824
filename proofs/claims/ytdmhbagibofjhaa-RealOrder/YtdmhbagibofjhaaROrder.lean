/-
  What package real's Order does at every two float64s, and the statements' own first look. Nothing is claimed here.
-/
import Derived.Test.YtdmhbagibofjhaaRCalls
namespace Go.Proofs.Ytdmhbagibofjhaa
open Go.RowKit
variable {K : Ks}

theorem cmpInt_any (a b : Int) (w : World) : Calls Try.prog 31 #[.int .i64 a, .int .i64 b] w fun e w' => e = .returned (.int .i64 (if a < b then -1 else if b < a then 1 else 0)) ∧ w' = w := by
  by_cases h1 : a < b
  · rw [if_pos h1]
    go_enter Try.func31, Try.ntmps31
    go_wp2_with (go_at_call 36; refine (cmpNo_any _ _).mono ?_; rintro e w' ⟨rfl, rfl⟩)
    go_ret
    exact ⟨rfl, rfl⟩
  · rw [if_neg h1]
    by_cases h2 : b < a
    · rw [if_pos h2]
      go_enter Try.func31, Try.ntmps31
      go_wp2_with (go_at_call 36; refine (cmpNo_any _ _).mono ?_; rintro e w' ⟨rfl, rfl⟩)
      go_ret
      exact ⟨rfl, rfl⟩
    · rw [if_neg h2]
      go_enter Try.func31, Try.ntmps31
      go_wp2_with (go_at_call 36; refine (cmpNo_any _ _).mono ?_; rintro e w' ⟨rfl, rfl⟩)
      go_ret
      exact ⟨rfl, rfl⟩
theorem rank_any (x : Nat) (hx : x < 18446744073709551616) (w : World) : Calls Try.prog 32 #[.float .f64 x] w fun e w' => e = .returned (.int .i64 (if sg x = true then 0 else 1)) ∧ w' = w := by
  cases hs : sg x
  · go_enter Try.func32, Try.ntmps32
    go_wp2_with (go_at_call 30; refine (signbit_any _ hx _).mono ?_; rintro e w' ⟨rfl, rfl⟩)
    go_ret
    exact ⟨rfl, rfl⟩
  · go_enter Try.func32, Try.ntmps32
    go_wp2_with (go_at_call 30; refine (signbit_any _ hx _).mono ?_; rintro e w' ⟨rfl, rfl⟩)
    go_ret
    exact ⟨rfl, rfl⟩
theorem lt_test (x y : Nat) (hx : rg x ≤ infR) (hy : rg y ≤ infR) : (FloatKind.f64.format.order x y == some .lt) = decide (key x < key y) := by
  have := order_key x y hx hy
  show (Ieee.double.order x y == some .lt) = _
  rw [this, cmp_lt]
theorem gt_test (x y : Nat) (hx : rg x ≤ infR) (hy : rg y ≤ infR) : (FloatKind.f64.format.order x y == some .gt) = decide (key y < key x) := by
  have := order_key x y hx hy
  show (Ieee.double.order x y == some .gt) = _
  rw [this, cmp_gt]
theorem eq_test (x y : Nat) (hx : rg x ≤ infR) (hy : rg y ≤ infR) : (FloatKind.f64.format.order x y == some .eq) = decide (key x = key y) := by
  have := order_key x y hx hy
  show (Ieee.double.order x y == some .eq) = _
  rw [this, cmp_eq]
def cmpF (x y : Nat) : Int := if infR < rg x then (if infR < rg y then 0 else -1) else if infR < rg y then 1 else if key x < key y then -1 else if key y < key x then 1 else 0
set_option maxHeartbeats 400000 in
theorem cmpF_any (x y : Nat) (w : World) : Calls Try.prog 33 #[.float .f64 x, .float .f64 y] w fun e w' => e = .returned (.int .i64 (cmpF x y)) ∧ w' = w := by
  unfold cmpF
  by_cases h1 : infR < rg x
  · rw [if_pos h1]
    have d1 : decide (infR < rg x) = true := by simp [h1]
    by_cases h2 : infR < rg y
    · rw [if_pos h2]
      have d2 : decide (infR < rg y) = true := by simp [h2]
      clear h1 h2
      go_enter Try.func33, Try.ntmps33
      go_wp2_with (go_at_call 37; refine (cmpNaN_any _ _).mono ?_; rintro e w' ⟨rfl, rfl⟩)
      go_ret
      exact ⟨rfl, rfl⟩
    · rw [if_neg h2]
      have d2 : decide (infR < rg y) = false := by simp [h2]
      clear h1 h2
      go_enter Try.func33, Try.ntmps33
      go_wp2_with (go_at_call 37; refine (cmpNaN_any _ _).mono ?_; rintro e w' ⟨rfl, rfl⟩)
      go_ret
      exact ⟨rfl, rfl⟩
  · rw [if_neg h1]
    have d1 : decide (infR < rg x) = false := by simp [h1]
    by_cases h2 : infR < rg y
    · rw [if_pos h2]
      have d2 : decide (infR < rg y) = true := by simp [h2]
      clear h1 h2
      go_enter Try.func33, Try.ntmps33
      go_wp2_with (go_at_call 37; refine (cmpNaN_any _ _).mono ?_; rintro e w' ⟨rfl, rfl⟩)
      go_ret
      exact ⟨rfl, rfl⟩
    · rw [if_neg h2]
      have d2 : decide (infR < rg y) = false := by simp [h2]
      have t1 := lt_test x y (by omega) (by omega)
      have t2 := gt_test x y (by omega) (by omega)
      by_cases h3 : key x < key y
      · rw [if_pos h3]
        have q1 := t1.trans (show decide (key x < key y) = true by simp [h3])
        clear h1 h2 h3 t1 t2
        go_enter Try.func33, Try.ntmps33
        go_wp2_with (go_at_call 37; refine (cmpNaN_any _ _).mono ?_; rintro e w' ⟨rfl, rfl⟩)
        go_ret
        exact ⟨rfl, rfl⟩
      · rw [if_neg h3]
        have q1 := t1.trans (show decide (key x < key y) = false by simp; omega)
        by_cases h4 : key y < key x
        · rw [if_pos h4]
          have q2 := t2.trans (show decide (key y < key x) = true by simp [h4])
          clear h1 h2 h3 h4 t1 t2
          go_enter Try.func33, Try.ntmps33
          go_wp2_with (go_at_call 37; refine (cmpNaN_any _ _).mono ?_; rintro e w' ⟨rfl, rfl⟩)
          go_ret
          exact ⟨rfl, rfl⟩
        · rw [if_neg h4]
          have q2 := t2.trans (show decide (key y < key x) = false by simp; omega)
          clear h1 h2 h3 h4 t1 t2
          go_enter Try.func33, Try.ntmps33
          go_wp2_with (go_at_call 37; refine (cmpNaN_any _ _).mono ?_; rintro e w' ⟨rfl, rfl⟩)
          go_ret
          exact ⟨rfl, rfl⟩
theorem key2_in (x : Nat) : inF (key2 x) := by
  have := rg_lt x
  unfold key2 inF
  split
  · omega
  · split <;> omega
/-- At two zeros the signs tell, else the numbers. -/
theorem ordV_zero (x y : Nat) (hx : rg x = 0) (hy : rg y = 0) : ordV x y = (if (if sg x = true then (0 : Int) else 1) < (if sg y = true then 0 else 1) then -1 else if (if sg y = true then (0 : Int) else 1) < (if sg x = true then 0 else 1) then 1 else 0) := by
  unfold ordV key2
  have a : ¬ infR < 0 := by decide
  rw [hx, hy]
  simp only [a, if_false]
  cases sg x <;> cases sg y <;> decide
theorem ordV_else (x y : Nat) (h : ¬ (rg x = 0 ∧ rg y = 0)) : ordV x y = cmpF x y := by
  have h1 := rg_lt x
  have h2 := rg_lt y
  unfold ordV cmpF key2 key
  cases sg x <;> cases sg y <;> simp only [Bool.false_eq_true, if_false, if_true] <;> (repeat' split) <;> omega
set_option maxHeartbeats 400000 in
theorem order_any (x y : Nat) (hx : x < 18446744073709551616) (hy : y < 18446744073709551616) (w : World) : Calls Try.prog 19 #[.float .f64 x, .float .f64 y] w fun e w' => e = .returned (.int .i64 (ordV x y)) ∧ w' = w := by
  have z1 : (FloatKind.f64.format.order x 0 == some .eq) = decide (rg x = 0) := zero_test x
  have z2 : (FloatKind.f64.format.order y 0 == some .eq) = decide (rg y = 0) := zero_test y
  by_cases h1 : rg x = 0
  · have q1 := z1.trans (show decide (rg x = 0) = true by simp [h1])
    by_cases h2 : rg y = 0
    · have q2 := z2.trans (show decide (rg y = 0) = true by simp [h2])
      rw [ordV_zero x y h1 h2]
      clear z1 z2 h1 h2
      generalize hp : (if sg x = true then (0 : Int) else 1) = p at *
      generalize hq : (if sg y = true then (0 : Int) else 1) = q at *
      go_enter Try.func19, Try.ntmps19
      go_wp2_with (first | (go_at_call 32; refine (rank_any _ hx _).mono ?_; rintro e w' ⟨rfl, rfl⟩; rw [hp]) | (go_at_call 32; refine (rank_any _ hy _).mono ?_; rintro e w' ⟨rfl, rfl⟩; rw [hq]) | (go_at_call 31; refine (cmpInt_any _ _ _).mono ?_; rintro e w' ⟨rfl, rfl⟩))
      all_goals (go_ret; exact ⟨rfl, rfl⟩)
    · have q2 := z2.trans (show decide (rg y = 0) = false by simp [h2])
      rw [ordV_else x y (by omega)]
      clear z1 z2 h1 h2
      go_enter Try.func19, Try.ntmps19
      go_wp2_with (go_at_call 33; refine (cmpF_any _ _ _).mono ?_; rintro e w' ⟨rfl, rfl⟩)
      go_ret
      exact ⟨rfl, rfl⟩
  · have q1 := z1.trans (show decide (rg x = 0) = false by simp [h1])
    rw [ordV_else x y (by omega)]
    clear z1 z2 h1
    go_enter Try.func19, Try.ntmps19
    go_wp2_with (go_at_call 33; refine (cmpF_any _ _ _).mono ?_; rintro e w' ⟨rfl, rfl⟩)
    go_ret
    exact ⟨rfl, rfl⟩
/-! the first look -/
theorem gN_of (r M e N d : Nat) (hv : V r = M * 2 ^ e) (h : e + d = K.g) (hM : M = N * 2 ^ d) : gN K r = N := by
  unfold gN
  have : V r = N * 2 ^ K.g := by rw [hv, hM, ← h, Nat.add_comm e d, Nat.pow_add, Nat.mul_assoc]
  rw [this]; exact rne_exact _ _ (p_pos _)
theorem gN_zero : gN K 0 = 0 := by unfold gN; rw [V_zero]; exact rne_zero _
theorem gR_num {x : Nat} (h : rg x < infR) : gR K x = sgR (sg x) (gN K (rg x)) := by
  unfold gR; rw [if_neg (by omega), if_neg (by omega)]
theorem gR_half : gR K 4602678819172646912 = (2147483648, 0) := by
  have e1 : rg 4602678819172646912 = 4602678819172646912 := by decide
  have e2 : sg 4602678819172646912 = false := by decide
  rw [gR_num (by decide), e1, e2]
  obtain ⟨k, hk⟩ : ∃ k : Nat, k = 1021 := ⟨_, rfl⟩
  have h := V_of k 4503599627370496 (by decide) (Or.inr (by decide))
  have e : k * 4503599627370496 + 4503599627370496 = 4602678819172646912 := by omega
  rw [e] at h
  rw [gN_of _ _ k 2147483648 21 h (by have := K.hg; omega) (by decide)]
  decide
theorem gR_nan : gR K 9221120237041090561 = (0, 1) := by unfold gR; rw [if_pos (by decide)]
theorem gR_minf : gR K 18442240474082181120 = (0, 2) := by unfold gR; rw [if_neg (by decide), if_pos (by decide)]
theorem gR_mzero : gR K 9223372036854775808 = (0, 0) := by
  have e1 : rg 9223372036854775808 = 0 := by decide
  rw [gR_num (by decide), e1, gN_zero]
  decide
theorem put_one (r : Nat) (h : V r = fl (4294967296 : Int).natAbs * 2 ^ K.g) : r = 4607182418800017408 := by
  obtain ⟨k, hk⟩ : ∃ k : Nat, k = 1022 := ⟨_, rfl⟩
  have h2 := V_of k 4503599627370496 (by decide) (Or.inr (by decide))
  have e : k * 4503599627370496 + 4503599627370496 = 4607182418800017408 := by omega
  rw [e] at h2
  apply V_inj
  rw [h, h2, show (4294967296 : Int).natAbs = 4294967296 from rfl, fl_small (by decide)]
  have e2 : K.g = 20 + k := by have := K.hg; omega
  rw [e2, Nat.pow_add, ← Nat.mul_assoc, show 4294967296 * 2 ^ 20 = 4503599627370496 by decide]
set_option maxHeartbeats 1000000 in
theorem alive_any (w : World) : Calls Try.prog 9 #[] w fun e w' => e = .returned (.bool true) ∧ w' = w := by
  obtain ⟨K⟩ : Nonempty Ks := ⟨⟨1042, 1074, rfl, rfl⟩⟩
  have g1 := gR_half (K := K)
  have g2 := gR_nan (K := K)
  have g3 := gR_minf (K := K)
  have g4 := gR_mzero (K := K)
  have c1 : wd (sg 13830554455654793216) (rg 0) = 9223372036854775808 := by decide
  have c2 : cls 9223372036854775808 = 5 := by decide
  have c3 : ordV 9221120237041090561 18442240474082181120 = -1 := by decide
  have c4 : wd (decide ((4294967296 : Int) < 0)) 4607182418800017408 = 4607182418800017408 := by decide
  have c5 : (FloatKind.f64.format.order 4607182418800017408 4607182418800017408 == some .eq) = true := by
    rw [eq_test _ _ (by decide) (by decide)]; simp
  go_enter Try.func9, Try.ntmps9
  go_wp2_with (first
    | (go_at_call 11; refine (get_any (K := K) _ (by decide) _).mono ?_; rintro e w' ⟨rfl, rfl⟩; first | rw [g1] | rw [g2] | rw [g3] | rw [g4])
    | (go_at_call 24; refine (nan_any _).mono ?_; rintro e w' ⟨rfl, rfl⟩)
    | (go_at_call 25; refine (inf_any _).mono ?_; rintro e w' ⟨rfl, rfl⟩)
    | (go_at_call 26; refine (copysign_any _ _ (by decide) (by decide) _).mono ?_; rintro e w' ⟨rfl, rfl⟩; rw [c1])
    | (go_at_call 17; refine (class_any _ (by decide) _).mono ?_; rintro e w' ⟨rfl, rfl⟩; rw [c2])
    | (go_at_call 16; refine (put_any (K := K) _ ⟨by decide, by decide⟩ _).mono ?_; rintro e w' ⟨r, p1, p2, p3, rfl, rfl⟩; have p4 := put_one (K := K) r p1; subst p4; clear p1 p2 p3; rw [c4])
    | (go_at_call 19; refine (order_any _ _ (by decide) (by decide) _).mono ?_; rintro e w' ⟨rfl, rfl⟩; rw [c3]))
  go_ret
  exact ⟨rfl, rfl⟩
theorem call_fromN (X : Nat) (w : World) : (callFunc 10 #[.int .u64 (X : Int)]).run Try.prog w = .ok (.value (.float .f64 X)) w := call_from (X : Int) w
theorem u64_nat {a : Int} (h : (Lit.int .u64 a).wf = true) : ∃ X : Nat, a = (X : Int) ∧ X < 18446744073709551616 := by
  simp [Lit.wf, IntKind.min, IntKind.max, IntKind.signed, IntKind.bits] at h
  exact ⟨a.toNat, by omega, by omega⟩
theorem gN_mono {a b : Nat} (h : a ≤ b) : gN K a ≤ gN K b := rne_mono (p_pos _) (V_le h)
/-- Float64s that rise never fall as numbers. -/
theorem gR_mono {x y : Nat} (hx : rg x ≤ infR) (hy : rg y ≤ infR) (h : key x ≤ key y) (e1 : (gR K x).2 = 0) (e2 : (gR K y).2 = 0) : (gR K x).1 ≤ (gR K y).1 := by
  have a1 : rg x < infR := by
    rcases Nat.lt_or_ge (rg x) infR with g | g
    · exact g
    · unfold gR at e1; rw [if_neg (by omega), if_pos (by omega)] at e1; cases e1
  have a2 : rg y < infR := by
    rcases Nat.lt_or_ge (rg y) infR with g | g
    · exact g
    · unfold gR at e2; rw [if_neg (by omega), if_pos (by omega)] at e2; cases e2
  rw [gR_num a1] at e1 ⊢
  rw [gR_num a2] at e2 ⊢
  unfold key at h
  have z := gN_zero (K := K)
  rcases sgR_cases (sg x) (gN K (rg x)) with ⟨b1, b2, b3⟩ | ⟨b1, b2, b3⟩ | ⟨b1, b2, b3⟩
  · rcases sgR_cases (sg y) (gN K (rg y)) with ⟨c1, c2, c3⟩ | ⟨c1, c2, c3⟩ | ⟨c1, c2, c3⟩
    · rw [b3, c3]
      rw [b1, c1] at h
      simp only [if_true] at h
      have := gN_mono (K := K) (show rg y ≤ rg x by omega)
      show -(gN K (rg x) : Int) ≤ -(gN K (rg y) : Int)
      omega
    · rw [b3, c3]
      show -(gN K (rg x) : Int) ≤ (gN K (rg y) : Int)
      omega
    · rw [c3] at e2; cases e2
  · rcases sgR_cases (sg y) (gN K (rg y)) with ⟨c1, c2, c3⟩ | ⟨c1, c2, c3⟩ | ⟨c1, c2, c3⟩
    · rw [b3, c3]
      rw [b1, c1] at h
      simp only [if_true, Bool.false_eq_true, if_false] at h
      have k1 : rg x = 0 := by omega
      have k2 : rg y = 0 := by omega
      rw [k1, k2, z]; decide
    · rw [b3, c3]
      rw [b1, c1] at h
      simp only [Bool.false_eq_true, if_false] at h
      have := gN_mono (K := K) (show rg x ≤ rg y by omega)
      show (gN K (rg x) : Int) ≤ (gN K (rg y) : Int)
      omega
    · rw [c3] at e2; cases e2
  · rw [b3] at e1; cases e1
theorem le_test (x y : Nat) (hx : rg x ≤ infR) (hy : rg y ≤ infR) : ((FloatKind.f64.format.order x y == some .lt) || (FloatKind.f64.format.order x y == some .eq)) = decide (key x ≤ key y) := by
  rw [lt_test x y hx hy, eq_test x y hx hy, Bool.eq_iff_iff]; simp; omega
theorem le_nan (x y : Nat) (h : infR < rg x ∨ infR < rg y) : ((FloatKind.f64.format.order x y == some .lt) || (FloatKind.f64.format.order x y == some .eq)) = false := by
  have := order_nan x y h
  show ((Ieee.double.order x y == some .lt) || (Ieee.double.order x y == some .eq)) = false
  rw [this]; rfl
/-- Answers drawn leave memory as it was. -/
theorem grown_drewN (w : World) (n : Nat) : Grown w (w.drewN n) := Grown.refl w
end Go.Proofs.Ytdmhbagibofjhaa

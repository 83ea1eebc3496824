/-
  What each call of package real does at every float64 (but for Bytes and Read). Nothing is claimed here.
-/
import Derived.Test.YtdmhbagibofjhabRLeaf
namespace Go.Proofs.Ytdmhbagibofjhab
open Go.RowKit
variable {K : Ks}

/-- Which kind it is. -/
def cls (x : Nat) : Int := if infR < rg x then 1 else if rg x = infR then (if sg x = true then 3 else 2) else if rg x = 0 then (if sg x = true then 5 else 4) else if rg x < 4503599627370496 then 6 else 7
/-- A number that rises as float64s do: NaNs least, then -0 below +0. -/
def key2 (x : Nat) : Int := if infR < rg x then -9223372036854775808 else if sg x = true then -1 - (rg x : Int) else (rg x : Int)
def ordV (x y : Nat) : Int := if key2 x < key2 y then -1 else if key2 y < key2 x then 1 else 0

theorem ret_i {a b : Int} (h : a = b) : Ending.returned (.int .i64 a) = .returned (.int .i64 b) := by rw [h]
set_option maxHeartbeats 1000000 in
theorem class_any (x : Nat) (hx : x < 18446744073709551616) (w : World) : Calls Try.prog 18 #[.float .f64 x] w fun e w' => e = .returned (.int .i64 (cls x)) ∧ w' = w := by
  have z := zero_test x
  have l := least_test (rg x) (rg_lt x)
  by_cases h1 : infR < rg x
  · have c : cls x = 1 := by unfold cls; rw [if_pos h1]
    rw [c]
    have d1 : decide (infR < rg x) = true := by simp [h1]
    clear z l c h1
    go_enter Try.func18, Try.ntmps18
    go_wp2_with (go_at_call 20; refine (isNaN_any _ _).mono ?_; rintro e w' ⟨rfl, rfl⟩)
    go_ret
    exact ⟨rfl, rfl⟩
  have d1 : decide (infR < rg x) = false := by simp [h1]
  by_cases h2 : rg x = infR
  · cases hs : sg x
    · have d2 : infV 1 x = true := by unfold infV; simp [h2, hs]
      have c : cls x = 2 := by unfold cls; rw [if_neg h1, if_pos h2, hs]; rfl
      rw [c]
      clear z l c h1 h2
      go_enter Try.func18, Try.ntmps18
      go_wp2_with (first | (go_at_call 20; refine (isNaN_any _ _).mono ?_; rintro e w' ⟨rfl, rfl⟩) | (go_at_call 21; refine (isAny_any _ _ (by decide) hx _).mono ?_; rintro e w' ⟨rfl, rfl⟩))
      go_ret
      exact ⟨rfl, rfl⟩
    · have d2 : infV 1 x = false := by unfold infV; simp [hs]
      have d3 : infV (-1) x = true := by unfold infV; simp [h2, hs]
      have c : cls x = 3 := by unfold cls; rw [if_neg h1, if_pos h2, hs]; rfl
      rw [c]
      clear z l c h1 h2
      go_enter Try.func18, Try.ntmps18
      go_wp2_with (first | (go_at_call 20; refine (isNaN_any _ _).mono ?_; rintro e w' ⟨rfl, rfl⟩) | (go_at_call 21; refine (isAny_any _ _ (by decide) hx _).mono ?_; rintro e w' ⟨rfl, rfl⟩))
      go_ret
      exact ⟨rfl, rfl⟩
  have d2 : infV 1 x = false := by unfold infV; simp [h2]
  have d2' : infV (-1) x = false := by unfold infV; simp [h2]
  by_cases h3 : rg x = 0
  · have d3 : (FloatKind.f64.format.order x 0 == some .eq) = true := z.trans (by simp [h3])
    cases hs : sg x
    · have c : cls x = 4 := by unfold cls; rw [if_neg h1, if_neg h2, if_pos h3, hs]; rfl
      rw [c]
      clear z l c h1 h2 h3
      go_enter Try.func18, Try.ntmps18
      go_wp2_with (first | (go_at_call 20; refine (isNaN_any _ _).mono ?_; rintro e w' ⟨rfl, rfl⟩) | (go_at_call 21; refine (isAny_any _ _ (by decide) hx _).mono ?_; rintro e w' ⟨rfl, rfl⟩) | (go_at_call 28; refine (signbit_any _ hx _).mono ?_; rintro e w' ⟨rfl, rfl⟩))
      go_ret
      exact ⟨rfl, rfl⟩
    · have c : cls x = 5 := by unfold cls; rw [if_neg h1, if_neg h2, if_pos h3, hs]; rfl
      rw [c]
      clear z l c h1 h2 h3
      go_enter Try.func18, Try.ntmps18
      go_wp2_with (first | (go_at_call 20; refine (isNaN_any _ _).mono ?_; rintro e w' ⟨rfl, rfl⟩) | (go_at_call 21; refine (isAny_any _ _ (by decide) hx _).mono ?_; rintro e w' ⟨rfl, rfl⟩) | (go_at_call 28; refine (signbit_any _ hx _).mono ?_; rintro e w' ⟨rfl, rfl⟩))
      go_ret
      exact ⟨rfl, rfl⟩
  have d3 : (FloatKind.f64.format.order x 0 == some .eq) = false := z.trans (by simp [h3])
  by_cases h4 : rg x < 4503599627370496
  · have c : cls x = 6 := by unfold cls; rw [if_neg h1, if_neg h2, if_neg h3, if_pos h4]
    have d4 : (FloatKind.f64.format.order (rg x) 4503599627370496 == some .lt) = true := l.trans (by simp [h4])
    rw [c]
    clear z l c h1 h2 h3 h4
    go_enter Try.func18, Try.ntmps18
    go_wp2_with (first | (go_at_call 20; refine (isNaN_any _ _).mono ?_; rintro e w' ⟨rfl, rfl⟩) | (go_at_call 21; refine (isAny_any _ _ (by decide) hx _).mono ?_; rintro e w' ⟨rfl, rfl⟩) | (go_at_call 29; refine (abs_any _ hx _).mono ?_; rintro e w' ⟨rfl, rfl⟩))
    go_ret
    exact ⟨rfl, rfl⟩
  · have c : cls x = 7 := by unfold cls; rw [if_neg h1, if_neg h2, if_neg h3, if_neg h4]
    have d4 : (FloatKind.f64.format.order (rg x) 4503599627370496 == some .lt) = false := l.trans (by simp [h4])
    rw [c]
    clear z l c h1 h2 h3 h4
    go_enter Try.func18, Try.ntmps18
    go_wp2_with (first | (go_at_call 20; refine (isNaN_any _ _).mono ?_; rintro e w' ⟨rfl, rfl⟩) | (go_at_call 21; refine (isAny_any _ _ (by decide) hx _).mono ?_; rintro e w' ⟨rfl, rfl⟩) | (go_at_call 29; refine (abs_any _ hx _).mono ?_; rintro e w' ⟨rfl, rfl⟩))
    go_ret
    exact ⟨rfl, rfl⟩

set_option maxHeartbeats 1000000 in
theorem get_any (x : Nat) (hx : x < 18446744073709551616) (w : World) : Calls Try.prog 10 #[.float .f64 x] w fun e w' => e = .returned (.tuple #[.int .i64 (gR K x).1, .int .i64 (gR K x).2]) ∧ w' = w := by
  by_cases h1 : infR < rg x
  · have c : gR K x = (0, 1) := by unfold gR; rw [if_pos h1]
    rw [c]
    have d1 : decide (infR < rg x) = true := by simp [h1]
    clear c h1
    go_enter Try.func10, Try.ntmps10
    go_wp2_with (go_at_call 20; refine (isNaN_any _ _).mono ?_; rintro e w' ⟨rfl, rfl⟩)
    go_ret2
    exact ⟨rfl, rfl⟩
  have d1 : decide (infR < rg x) = false := by simp [h1]
  by_cases h2 : rg x = infR
  · have c : gR K x = (0, 2) := by unfold gR; rw [if_neg h1, if_pos h2]
    rw [c]
    have d2 : infV 0 x = true := by unfold infV; simp [h2]
    clear c h1 h2
    go_enter Try.func10, Try.ntmps10
    go_wp2_with (first | (go_at_call 20; refine (isNaN_any _ _).mono ?_; rintro e w' ⟨rfl, rfl⟩) | (go_at_call 21; refine (isAny_any _ _ (by decide) hx _).mono ?_; rintro e w' ⟨rfl, rfl⟩))
    go_ret2
    exact ⟨rfl, rfl⟩
  have d2 : infV 0 x = false := by unfold infV; simp [h2]
  obtain ⟨x1, x2, g1, g2, g3, g4, g5, g6, g7, g8⟩ := get_math (K := K) x (by omega)
  have c : gR K x = sgR (sg x) (gN K (rg x)) := by unfold gR; rw [if_neg h1, if_neg h2]
  have t1 := test_low x2 (gN K (rg x)) g4 g7 g8
  have t2 := test_high x2 (gN K (rg x)) g4 g7 g8
  have m1 : ∀ t w, (binOp .mul t (.float .f64 x) (.float .f64 4751297606875873280)).run Try.prog w = .ok (.float .f64 x1) w := fun t w => run_float_arith w .mul t .f64 x 4751297606875873280 x1 g1
  have m2 := fun w => call_rte x1 w g2
  rw [g3] at m2
  rw [g5] at t1 t2
  rw [c]
  rcases sgR_cases (sg x) (gN K (rg x)) with ⟨a1, a2, a3⟩ | ⟨a1, a2, a3⟩ | ⟨a1, a2, a3⟩
  · have q1 : (FloatKind.f64.format.order x2 14114281232179134464 == some .lt) = false := t1.trans (by simp; omega)
    have q2 : ((FloatKind.f64.format.order x2 4890909195324358656 == some .gt) || (FloatKind.f64.format.order x2 4890909195324358656 == some .eq)) = false := t2.trans (by rw [a1]; rfl)
    have f0 : rg x2 < infR := by
      rcases Nat.lt_or_ge (rg x2) infR with k | k
      · exact k
      · have := g8 (by omega); omega
    have f1 := toFix x2 (gN K (rg x)) f0 (g7 f0) (-(gN K (rg x) : Int)) (by rw [g5, a1]; rfl) ⟨by omega, by omega⟩
    have m3 : ∀ w, (convert 27 23 (.float .f64 x2)).run Try.prog w = .ok (.int .i64 (-(gN K (rg x) : Int))) w := fun w => run_convert_float_int w _ _ .f64 .i64 x2 _ (by kernel_rfl) (by kernel_rfl) f1
    rw [a3]
    clear f0 f1 t1 t2 a1 a2 a3 c g1 g2 g3 g4 g5 g6 g7 g8 h1 h2
    generalize gN K (rg x) = N at *
    go_enter Try.func10, Try.ntmps10
    go_wp2_with (first | (go_at_call 20; refine (isNaN_any _ _).mono ?_; rintro e w' ⟨rfl, rfl⟩) | (go_at_call 21; refine (isAny_any _ _ (by decide) hx _).mono ?_; rintro e w' ⟨rfl, rfl⟩))
    go_ret2
    exact ⟨rfl, rfl⟩
  · have q1 : (FloatKind.f64.format.order x2 14114281232179134464 == some .lt) = false := t1.trans (by rw [a1]; rfl)
    have q2 : ((FloatKind.f64.format.order x2 4890909195324358656 == some .gt) || (FloatKind.f64.format.order x2 4890909195324358656 == some .eq)) = false := t2.trans (by simp; omega)
    have f0 : rg x2 < infR := by
      rcases Nat.lt_or_ge (rg x2) infR with k | k
      · exact k
      · have := g8 (by omega); omega
    have f1 := toFix x2 (gN K (rg x)) f0 (g7 f0) (gN K (rg x) : Int) (by rw [g5, a1]; rfl) ⟨by omega, by omega⟩
    have m3 : ∀ w, (convert 27 23 (.float .f64 x2)).run Try.prog w = .ok (.int .i64 (gN K (rg x) : Int)) w := fun w => run_convert_float_int w _ _ .f64 .i64 x2 _ (by kernel_rfl) (by kernel_rfl) f1
    rw [a3]
    clear f0 f1 t1 t2 a1 a2 a3 c g1 g2 g3 g4 g5 g6 g7 g8 h1 h2
    generalize gN K (rg x) = N at *
    go_enter Try.func10, Try.ntmps10
    go_wp2_with (first | (go_at_call 20; refine (isNaN_any _ _).mono ?_; rintro e w' ⟨rfl, rfl⟩) | (go_at_call 21; refine (isAny_any _ _ (by decide) hx _).mono ?_; rintro e w' ⟨rfl, rfl⟩))
    go_ret2
    exact ⟨rfl, rfl⟩
  · rw [a3]
    cases hs : sg x
    · have q1 : (FloatKind.f64.format.order x2 14114281232179134464 == some .lt) = false := t1.trans (by rw [hs]; rfl)
      have q2 : ((FloatKind.f64.format.order x2 4890909195324358656 == some .gt) || (FloatKind.f64.format.order x2 4890909195324358656 == some .eq)) = true := t2.trans (by rw [hs]; simp; omega)
      clear t1 t2 a1 a2 a3 c g1 g2 g3 g4 g5 g6 g7 g8 h1 h2
      go_enter Try.func10, Try.ntmps10
      go_wp2_with (first | (go_at_call 20; refine (isNaN_any _ _).mono ?_; rintro e w' ⟨rfl, rfl⟩) | (go_at_call 21; refine (isAny_any _ _ (by decide) hx _).mono ?_; rintro e w' ⟨rfl, rfl⟩))
      go_ret2
      exact ⟨rfl, rfl⟩
    · have q1 : (FloatKind.f64.format.order x2 14114281232179134464 == some .lt) = true := by
        refine t1.trans ?_
        rw [hs]
        have : ¬ ((gN K (rg x) : Int) = 9223372036854775808) := fun k => a2 ⟨hs, k⟩
        simp; omega
      clear t1 t2 a1 a2 a3 c g1 g2 g3 g4 g5 g6 g7 g8 h1 h2
      go_enter Try.func10, Try.ntmps10
      go_wp2_with (first | (go_at_call 20; refine (isNaN_any _ _).mono ?_; rintro e w' ⟨rfl, rfl⟩) | (go_at_call 21; refine (isAny_any _ _ (by decide) hx _).mono ?_; rintro e w' ⟨rfl, rfl⟩))
      go_ret2
      exact ⟨rfl, rfl⟩

/-- A Fix's float64. -/
theorem put_any (a : Int) (h : inF a) (w : World) : Calls Try.prog 19 #[.int .i64 a] w fun e w' => ∃ r, V r = fl a.natAbs * 2 ^ K.g ∧ r < infR ∧ Ieee.double.div (floatOfInt .f64 a) 4751297606875873280 = some (wd (decide (a < 0)) r) ∧ e = .returned (.float .f64 (wd (decide (a < 0)) r)) ∧ w' = w := by
  obtain ⟨r, h1, h2, h3⟩ := put_math (K := K) a h
  have m1 : ∀ t w, (binOp .quo t (.float .f64 (floatOfInt .f64 a)) (.float .f64 4751297606875873280)).run Try.prog w = .ok (.float .f64 (wd (decide (a < 0)) r)) w := fun t w => run_float_arith w .quo t .f64 _ 4751297606875873280 _ h3
  go_enter Try.func19, Try.ntmps19
  go_wp2
  go_ret
  exact ⟨r, h1, h2, h3, rfl, rfl⟩

theorem same_any (x y : Nat) (w : World) : Calls Try.prog 16 #[.float .f64 x, .float .f64 y] w fun e w' => e = .returned (.bool (decide ((x : Int) = (y : Int)))) ∧ w' = w := by
  have h1 := fun b w => call_bits b w
  go_enter Try.func16, Try.ntmps16
  go_wp2
  go_ret
  exact ⟨rfl, rfl⟩
end Go.Proofs.Ytdmhbagibofjhab

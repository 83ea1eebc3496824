/-
  What the small calls of package math do at every float64. Nothing is claimed here.
-/
import Derived.Test.YtdmhbagibofjhaaRows
import Derived.Test.YtdmhbagibofjhaaRGet
import Derived.WalkKit
import Derived.WalkSpells
import Derived.WalkLawsBesides
import Derived.Laws.BitsAllLaws
namespace Go.Proofs.Ytdmhbagibofjhaa
open Go.RowKit

theorem call_bits (b : Nat) (w : World) : (callFunc 15 #[.float .f64 b]).run Try.prog w = .ok (.value (.int .u64 (b : Int))) w := by
  rw [run_callFunc_extern Try.func15 (by kernel_rfl) (by kernel_rfl) (by kernel_rfl) (e := Extern.MathFloatBits.float64bits) (by kernel_rfl)]
  rfl
theorem call_from (n : Int) (w : World) : (callFunc 10 #[.int .u64 n]).run Try.prog w = .ok (.value (.float .f64 n.toNat)) w := by
  rw [run_callFunc_extern Try.func10 (by kernel_rfl) (by kernel_rfl) (by kernel_rfl) (e := Extern.MathFloatBits.float64frombits) (by kernel_rfl)]
  rfl
theorem call_rte (x : Nat) (w : World) (h : rg x ≤ infR) : (callFunc 28 #[.float .f64 x]).run Try.prog w = .ok (.value (.float .f64 (rteW x))) w := by
  rw [run_callFunc_extern Try.func28 (by kernel_rfl) (by kernel_rfl) (by kernel_rfl) (e := Extern.MathFloor.toIntegral "math.RoundToEven" .even) (by kernel_rfl)]
  have e : ∃ F : Bool → Nat → Sem Value, Extern.MathFloor.toIntegral "math.RoundToEven" .even #[.float .f64 x] = (match FloatKind.f64.decode x with | .nan s t => F s t | d => pure (.float .f64 (FloatKind.f64.encode (d.integral .even)))) := ⟨_, rfl⟩
  obtain ⟨F, e⟩ := e
  rw [e]
  have er : FloatKind.f64.decode x = Ieee.double.read x := rfl
  unfold rteW
  rcases Nat.lt_or_ge (rg x) infR with g | g
  · rw [er, read_num x g]; rfl
  · rw [er, read_inf x (by omega)]; rfl

/-! bits -/
theorem low63 (x : Nat) (hx : x < 18446744073709551616) : bits .andNot .u64 (x : Int) 9223372036854775808 = ((rg x : Nat) : Int) := by
  have := u64_andNot_nat x 9223372036854775808 hx (by decide)
  rw [show ((9223372036854775808 : Nat) : Int) = 9223372036854775808 from rfl] at this
  rw [this]
  congr 1
  exact Nat.and_two_pow_sub_one_eq_mod x 63
theorem top_bit (y : Nat) (hy : y < 18446744073709551616) : bits .and .u64 (y : Int) 9223372036854775808 = ((wd (sg y) 0 : Nat) : Int) := by
  have := u64_and_nat y 9223372036854775808 hy (by decide)
  rw [show ((9223372036854775808 : Nat) : Int) = 9223372036854775808 from rfl] at this
  rw [this]
  congr 1
  have t : y.testBit 63 = sg y := by
    rw [Nat.testBit_eq_decide_div_mod_eq, show (2 : Nat) ^ 63 = 9223372036854775808 by decide]; rfl
  have p : ∀ i, Nat.testBit 9223372036854775808 i = decide (63 = i) := fun i => Nat.testBit_two_pow (n := 63) (m := i)
  apply Nat.eq_of_testBit_eq
  intro i
  rw [Nat.testBit_and, p]
  unfold wd
  by_cases hi : 63 = i
  · subst hi
    rw [t]
    cases sg y
    · simp
    · simp only [if_true, Nat.add_zero, p]; simp
  · cases sg y
    · simp [hi]
    · simp only [if_true, Nat.add_zero, p]; simp [hi]
theorem or_top (s : Bool) (r : Nat) (hr : r < 9223372036854775808) : bits .or .u64 ((r : Nat) : Int) ((wd s 0 : Nat) : Int) = ((wd s r : Nat) : Int) := by
  rw [u64_or_nat r (wd s 0) (by omega) (wd_lt s (by decide))]
  congr 1
  unfold wd
  cases s
  · simp
  · simp only [if_true]
    rw [Nat.or_comm, Nat.add_zero]
    have := Nat.two_pow_add_eq_or_of_lt (i := 63) (b := r) hr 1
    rw [Nat.mul_one] at this
    exact this.symm
theorem neg_word (x : Nat) (hx : x < 18446744073709551616) : Op.negFloat .f64 x = wd (!sg x) (rg x) := by
  show x ^^^ 2 ^ 63 = _
  have h1 := rg_lt x
  have h2 : x = wd (sg x) (rg x) := wd_of hx
  have e : ∀ r, r < 9223372036854775808 → r ^^^ 2 ^ 63 = 9223372036854775808 + r := by
    intro r hr
    have a := Nat.two_pow_add_eq_or_of_lt (i := 63) (b := r) hr 1
    rw [Nat.mul_one] at a
    rw [show (2 : Nat) ^ 63 = 9223372036854775808 by decide] at *
    rw [a]
    apply Nat.eq_of_testBit_eq
    intro i
    rw [Nat.testBit_xor, Nat.testBit_or]
    by_cases hi : i = 63
    · subst hi
      have : r.testBit 63 = false := Nat.testBit_lt_two_pow hr
      simp [this]
    · have : Nat.testBit 9223372036854775808 i = false := by
        have := Nat.testBit_two_pow_of_ne (n := 63) (m := i) (by omega)
        exact this
      simp [this]
  generalize hs : sg x = s at *
  generalize hr : rg x = r at *
  rw [h2]
  unfold wd
  cases s
  · simp only [Bool.false_eq_true, if_false, Bool.not_false, if_true]
    exact e r h1
  · simp only [Bool.not_true, Bool.false_eq_true, if_false, if_true]
    rw [← e r h1, Nat.xor_assoc, Nat.xor_self, Nat.xor_zero]
theorem sign_wrap (x : Nat) (hx : x < 18446744073709551616) : decide (wrap64 (x : Int) < 0) = sg x := by
  unfold sg
  by_cases h : x < 9223372036854775808
  · have : wrap64 (x : Int) = x := IntWalk.wrap64_in _ (by omega)
    have e : x / 9223372036854775808 = 0 := by omega
    rw [this, e]; simp
  · have e : x / 9223372036854775808 = 1 := by omega
    have : wrap64 (x : Int) = x - 18446744073709551616 := by
      rw [wrap64_of]; omega
    rw [this, e]; simp; omega

/-! tests -/
theorem nan_test (x : Nat) : (Ieee.double.order x x != some .eq) = decide (infR < rg x) := by
  rcases Nat.lt_or_ge infR (rg x) with h | h
  · rw [order_nan x x (Or.inl h)]; simp [h]
  · rw [order_key x x h h]
    have : ¬ infR < rg x := by omega
    simp [this, compare, compareOfLessAndEq]
theorem max_test (x : Nat) : (Ieee.double.order x 9218868437227405311 == some .gt) = (!sg x && decide (rg x = infR)) := by
  rcases Nat.lt_or_ge infR (rg x) with h | h
  · rw [order_nan x _ (Or.inl h)]
    have : ¬ rg x = infR := by omega
    simp [this]
  · rw [order_key x _ h (by decide), cmp_gt]
    have e : key 9218868437227405311 = 9218868437227405311 := by decide
    rw [e]
    unfold key infR at *
    cases sg x
    · simp only [Bool.false_eq_true, if_false, Bool.not_false, Bool.true_and, decide_eq_decide]; omega
    · simp
theorem zero_test (x : Nat) : (Ieee.double.order x 0 == some .eq) = decide (rg x = 0) := by
  rcases Nat.lt_or_ge infR (rg x) with h | h
  · rw [order_nan x _ (Or.inl h)]
    have : ¬ rg x = 0 := by omega
    simp [this]
  · rw [order_key x _ h (by decide), cmp_eq]
    have e : key 0 = 0 := by decide
    rw [e]
    unfold key
    cases sg x
    · simp
    · simp
theorem least_test (r : Nat) (hr : r < 9223372036854775808) : (Ieee.double.order r 4503599627370496 == some .lt) = decide (r < 4503599627370496) := by
  have e1 : rg r = r := by unfold rg; omega
  have e2 : sg r = false := by unfold sg; have : r / 9223372036854775808 = 0 := by omega
                               rw [this]; rfl
  rcases Nat.lt_or_ge infR r with h | h
  · rw [order_nan r _ (Or.inl (by omega))]
    unfold infR at h
    have : ¬ r < 4503599627370496 := by omega
    simp [this]
  · rw [order_key r _ (by omega) (by decide), cmp_lt]
    have e : key 4503599627370496 = 4503599627370496 := by decide
    rw [e]
    unfold key
    rw [e1, e2]
    simp only [Bool.false_eq_true, if_false, decide_eq_decide]; omega

theorem unary_neg (b : Nat) : Op.unary .neg (.float .f64 b) = pure (.float .f64 (Op.negFloat .f64 b)) := rfl
theorem ret_f {a b : Nat} (h : a = b) : Ending.returned (.float .f64 a) = .returned (.float .f64 b) := by rw [h]
theorem ret_b {a b : Bool} (h : a = b) : Ending.returned (.bool a) = .returned (.bool b) := by rw [h]
theorem isNaN_any (x : Nat) (w : World) : Calls Try.prog 27 #[.float .f64 x] w fun e w' => e = .returned (.bool (decide (infR < rg x))) ∧ w' = w := by
  have h := nan_test x
  go_enter Try.func27, Try.ntmps27
  go_wp2
  go_ret
  exact ⟨ret_b h, rfl⟩
theorem cmpNaN_any (x : Nat) (w : World) : Calls Try.prog 37 #[.float .f64 x] w fun e w' => e = .returned (.bool (decide (infR < rg x))) ∧ w' = w := by
  have h := nan_test x
  go_enter Try.func37, Try.ntmps37
  go_wp2
  go_ret
  exact ⟨ret_b h, rfl⟩
theorem cmpNo_any (x : Int) (w : World) : Calls Try.prog 36 #[.int .i64 x] w fun e w' => e = .returned (.bool false) ∧ w' = w := by
  go_enter Try.func36, Try.ntmps36
  go_wp2
  go_ret
  exact ⟨ret_b (by simp), rfl⟩
theorem abs_any (x : Nat) (hx : x < 18446744073709551616) (w : World) : Calls Try.prog 22 #[.float .f64 x] w fun e w' => e = .returned (.float .f64 (rg x)) ∧ w' = w := by
  have h1 := fun b w => call_bits b w
  have h2 := fun b w => call_from b w
  have h3 := low63 x hx
  go_enter Try.func22, Try.ntmps22
  go_wp2
  go_ret
  exact ⟨rfl, rfl⟩
theorem signbit_any (x : Nat) (hx : x < 18446744073709551616) (w : World) : Calls Try.prog 30 #[.float .f64 x] w fun e w' => e = .returned (.bool (sg x)) ∧ w' = w := by
  have h1 := fun b w => call_bits b w
  have h2 := sign_wrap x hx
  go_enter Try.func30, Try.ntmps30
  go_wp2
  go_ret
  exact ⟨rfl, rfl⟩
theorem isInf_any (x : Nat) (hx : x < 18446744073709551616) (w : World) : Calls Try.prog 23 #[.float .f64 x, .int .i64 0] w fun e w' => e = .returned (.bool (decide (rg x = infR))) ∧ w' = w := by
  have h := max_test (rg x)
  have h1 := rg_lt x
  have e1 : rg (rg x) = rg x := by unfold rg; omega
  have e2 : sg (rg x) = false := by unfold sg; have : rg x / 9223372036854775808 = 0 := by omega
                                    rw [this]; rfl
  rw [e1, e2] at h
  go_enter Try.func23, Try.ntmps23
  go_wp2_with (go_at_call 22; refine (abs_any _ hx _).mono ?_; rintro e w' ⟨rfl, rfl⟩)
  go_ret
  exact ⟨ret_b h, rfl⟩
theorem isPos_any (x : Nat) (w : World) : Calls Try.prog 23 #[.float .f64 x, .int .i64 1] w fun e w' => e = .returned (.bool (!sg x && decide (rg x = infR))) ∧ w' = w := by
  have h := max_test x
  go_enter Try.func23, Try.ntmps23
  go_wp2
  go_ret
  exact ⟨ret_b h, rfl⟩
theorem isNeg_any (x : Nat) (hx : x < 18446744073709551616) (w : World) : Calls Try.prog 23 #[.float .f64 x, .int .i64 (-1)] w fun e w' => e = .returned (.bool (sg x && decide (rg x = infR))) ∧ w' = w := by
  have h := max_test (wd (!sg x) (rg x))
  rw [sg_wd _ (rg_lt x), rg_wd _ (rg_lt x), Bool.not_not, ← neg_word x hx] at h
  have hu := fun b => unary_neg b
  go_enter Try.func23, Try.ntmps23
  go_wp2
  go_ret
  exact ⟨ret_b h, rfl⟩
def infV (s : Int) (x : Nat) : Bool := if s = 0 then decide (rg x = infR) else if s = 1 then (!sg x && decide (rg x = infR)) else (sg x && decide (rg x = infR))
theorem isAny_any (s : Int) (x : Nat) (hs : s = 0 ∨ s = 1 ∨ s = -1) (hx : x < 18446744073709551616) (w : World) : Calls Try.prog 23 #[.float .f64 x, .int .i64 s] w fun e w' => e = .returned (.bool (infV s x)) ∧ w' = w := by
  rcases hs with h | h | h
  · subst h; exact isInf_any x hx w
  · subst h; exact isPos_any x w
  · subst h; exact isNeg_any x hx w
theorem copysign_any (x y : Nat) (hx : x < 18446744073709551616) (hy : y < 18446744073709551616) (w : World) : Calls Try.prog 26 #[.float .f64 x, .float .f64 y] w fun e w' => e = .returned (.float .f64 (wd (sg y) (rg x))) ∧ w' = w := by
  have h1 := fun b w => call_bits b w
  have h2 := fun b w => call_from b w
  have h3 := low63 x hx
  have h4 := top_bit y hy
  have h5 := or_top (sg y) (rg x) (rg_lt x)
  go_enter Try.func26, Try.ntmps26
  go_wp2
  go_ret
  exact ⟨rfl, rfl⟩
theorem nan_any (w : World) : Calls Try.prog 24 #[] w fun e w' => e = .returned (.float .f64 9221120237041090561) ∧ w' = w := by
  have h2 := fun b w => call_from b w
  go_enter Try.func24, Try.ntmps24
  go_wp2
  go_ret
  exact ⟨rfl, rfl⟩
theorem inf_any (w : World) : Calls Try.prog 25 #[.int .i64 (-1)] w fun e w' => e = .returned (.float .f64 18442240474082181120) ∧ w' = w := by
  have h2 := fun b w => call_from b w
  go_enter Try.func25, Try.ntmps25
  go_wp2
  go_ret
  exact ⟨rfl, rfl⟩
end Go.Proofs.Ytdmhbagibofjhaa

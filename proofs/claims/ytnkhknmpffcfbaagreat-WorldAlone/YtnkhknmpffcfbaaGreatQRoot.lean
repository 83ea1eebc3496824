/-
  What package root's inner calls do: the two words of a square, of a sum, which of two is above, how many bits; for whatever words; more blocks are in memory, and nothing else.
-/
import Derived.Test.YtnkhknmpffcfbaaGreatLen64
import Derived.Test.YtnkhknmpffcfbaaGreatQNum
import Derived.Test.YtnkhknmpffcfbaaGreatCWorld
import Derived.LoopTactic
import Derived.Laws.Externs
namespace Go.Proofs.YtnkhknmpffcfbaaGreat
open Go.RowKit

/-- A number of 128 bits as the code has it. -/
def wide (n : Int) : Value := .agg #[.int .u64 (n / 18446744073709551616), .int .u64 (n % 18446744073709551616)]

theorem square_any (a : Int) (w : World) (h0 : 0 ≤ a) (h1 : a ≤ 18446744073709551615) :
    Calls Tryz.prog 138 #[.int .u64 a] w fun e w' => e = .returned (wide (a * a)) ∧ Grew w w' := by
  go_enter Tryz.func138, Tryz.ntmps138
  go_wp2_with (first
    | (go_at_call 63; refine (mul64_any _ _ _ h0 h1 h0 h1).mono ?_; rintro e w' ⟨rfl, rfl⟩))
  simp [bodyPost, results, Tryz.results138, go_sem]
  exact ⟨rfl, (Grew.refl w).alloc _ _⟩

theorem above_any (a b : Int) (w : World) :
    Calls Tryz.prog 154 #[wide a, wide b] w fun e w' => e = .returned (.bool (decide (b < a))) ∧ Grew w w' := by
  unfold wide
  have t := two_words a b
  generalize a / 18446744073709551616 = ah at *
  generalize a % 18446744073709551616 = al at *
  generalize b / 18446744073709551616 = bh at *
  generalize b % 18446744073709551616 = bl at *
  have e : decide (b < a) = (decide (bh < ah) || (decide (ah = bh) && decide (bl < al))) := by rw [← Bool.decide_and, ← Bool.decide_or]; exact decide_eq_decide.2 t.symm
  rw [e]
  clear e t
  go_enter Tryz.func154, Tryz.ntmps154
  go_wp2
  all_goals
    go_ret
    refine ⟨?_, ((Grew.refl w).alloc _ _).alloc _ _⟩
    simp_all

theorem bitLen_over (x : Nat) (h : x < 2 ^ 64) : Lib.bitLen x ≤ 64 ∧ x < 2 ^ Lib.bitLen x := by
  by_cases g : x = 0
  · subst g; decide
  · obtain ⟨_, h2, _, h4⟩ := bitLenAux_bounds 64 x h (by omega)
    exact ⟨h2, h4⟩
theorem wide_over (a : Int) (h0 : 0 ≤ a) (h1 : a ≤ 340282366920938463463374607431768211455) :
    ((a / 18446744073709551616 != 0) = true → a < 2 ^ (64 + Lib.bitLen (a / 18446744073709551616).toNat) ∧ Lib.bitLen (a / 18446744073709551616).toNat ≤ 64) ∧
    (a / 18446744073709551616 = 0 → a < 2 ^ Lib.bitLen (a % 18446744073709551616).toNat ∧ Lib.bitLen (a % 18446744073709551616).toNat ≤ 64) := by
  obtain ⟨n, rfl⟩ := Int.eq_ofNat_of_zero_le h0
  have e1 : ((n : Int) / 18446744073709551616).toNat = n / 18446744073709551616 := by omega
  have e2 : ((n : Int) % 18446744073709551616).toNat = n % 18446744073709551616 := by omega
  rw [e1, e2]
  obtain ⟨p1, p2⟩ := bitLen_over (n / 18446744073709551616) (by omega)
  obtain ⟨q1, q2⟩ := bitLen_over (n % 18446744073709551616) (by omega)
  refine ⟨fun _ => ⟨?_, p1⟩, fun hz => ⟨?_, q1⟩⟩
  · have : n < 2 ^ (64 + Lib.bitLen (n / 18446744073709551616)) := by
      rw [Nat.pow_add]
      have := Nat.mul_le_mul_left (2 ^ 64) p2
      omega
    exact_mod_cast this
  · have : n < 2 ^ Lib.bitLen (n % 18446744073709551616) := by omega
    exact_mod_cast this

theorem length_any (a : Int) (w : World) (h0 : 0 ≤ a) (h1 : a ≤ 340282366920938463463374607431768211455) :
    Calls Tryz.prog 153 #[wide a] w fun e w' => (∃ k : Nat, k ≤ 128 ∧ a < 2 ^ k ∧ e = .returned (.int .i64 k)) ∧ Grew w w' := by
  obtain ⟨f1, f2⟩ := wide_over a h0 h1
  unfold wide
  have hh : 0 ≤ a / 18446744073709551616 ∧ a / 18446744073709551616 ≤ 18446744073709551615 := by omega
  have hl : 0 ≤ a % 18446744073709551616 ∧ a % 18446744073709551616 ≤ 18446744073709551615 := by omega
  clear h0 h1
  generalize a / 18446744073709551616 = x at *
  generalize a % 18446744073709551616 = y at *
  have F1 : Hid (_ → _) := f1; have F2 : Hid (_ → _) := f2; clear f1 f2
  go_enter Tryz.func153, Tryz.ntmps153
  go_wp2_with (first
    | (go_at_call 119; refine (len64_any _ _ (by first | exact hh.1 | exact hl.1) (by first | exact hh.2 | exact hl.2)).mono ?_; rintro e w' ⟨rfl, rfl⟩))
  · rename_i hx
    obtain ⟨g1, g2⟩ := F1.out hx
    go_ret
    exact ⟨⟨64 + Lib.bitLen x.toNat, by omega, g1, ret_int (by rw [wrap64_of]; omega)⟩, (Grew.refl w).alloc _ _⟩
  · rename_i hx
    obtain ⟨g1, g2⟩ := F2.out (by simpa using hx)
    go_ret
    exact ⟨⟨Lib.bitLen y.toNat, by omega, g1, rfl⟩, (Grew.refl w).alloc _ _⟩

theorem call_add64 (a b c : Int) (w : World) (a0 : 0 ≤ a) (b0 : 0 ≤ b) (c0 : 0 ≤ c) (c1 : c ≤ 1) :
    (callFunc 65 #[.int .u64 a, .int .u64 b, .int .u64 c]).run Tryz.prog w = .ok (.value (.tuple #[.int .u64 ((a + b + c) % 18446744073709551616), .int .u64 ((a + b + c) / 18446744073709551616)])) w := by
  rw [run_callFunc_extern Tryz.func65 (by kernel_rfl) (by kernel_rfl) (by kernel_rfl) (e := add64Entry) (by kernel_rfl)]
  rw [run_add64 a b c a0 b0 c0 c1]
  rfl

theorem add_words (a b : Int) (a0 : 0 ≤ a) (b0 : 0 ≤ b) (h : a + b ≤ 340282366920938463463374607431768211455) :
    (a / 18446744073709551616 + b / 18446744073709551616 + (a % 18446744073709551616 + b % 18446744073709551616 + 0) / 18446744073709551616) % 18446744073709551616 = (a + b) / 18446744073709551616 ∧ (a % 18446744073709551616 + b % 18446744073709551616 + 0) % 18446744073709551616 = (a + b) % 18446744073709551616 := by omega

theorem add2_any (a b : Int) (w : World) (a0 : 0 ≤ a) (b0 : 0 ≤ b) (h : a + b ≤ 340282366920938463463374607431768211455) :
    Calls Tryz.prog 137 #[wide a, wide b] w fun e w' => e = .returned (wide (a + b)) ∧ Grew w w' := by
  have A1 := add_words a b a0 b0 h
  have e1 : ∀ w, (callFunc 65 #[.int .u64 (a % 18446744073709551616), .int .u64 (b % 18446744073709551616), .int .u64 0]).run Tryz.prog w = .ok (.value (.tuple #[.int .u64 ((a % 18446744073709551616 + b % 18446744073709551616 + 0) % 18446744073709551616), .int .u64 ((a % 18446744073709551616 + b % 18446744073709551616 + 0) / 18446744073709551616)])) w :=
    fun w => call_add64 _ _ _ w (by omega) (by omega) (by omega) (by omega)
  have e2 : ∀ w, (callFunc 65 #[.int .u64 (a / 18446744073709551616), .int .u64 (b / 18446744073709551616), .int .u64 ((a % 18446744073709551616 + b % 18446744073709551616 + 0) / 18446744073709551616)]).run Tryz.prog w = .ok (.value (.tuple #[.int .u64 ((a / 18446744073709551616 + b / 18446744073709551616 + (a % 18446744073709551616 + b % 18446744073709551616 + 0) / 18446744073709551616) % 18446744073709551616), .int .u64 ((a / 18446744073709551616 + b / 18446744073709551616 + (a % 18446744073709551616 + b % 18446744073709551616 + 0) / 18446744073709551616) / 18446744073709551616)])) w :=
    fun w => call_add64 _ _ _ w (by omega) (by omega) (by omega) (by omega)
  unfold wide
  rw [← A1.1, ← A1.2]
  clear A1
  generalize (a % 18446744073709551616 + b % 18446744073709551616 + 0) / 18446744073709551616 = cy at *
  generalize (a % 18446744073709551616 + b % 18446744073709551616 + 0) % 18446744073709551616 = lo at *
  generalize (a / 18446744073709551616 + b / 18446744073709551616 + cy) % 18446744073709551616 = hi at *
  generalize (a / 18446744073709551616 + b / 18446744073709551616 + cy) / 18446744073709551616 = hc at *
  generalize a / 18446744073709551616 = ah at *
  generalize a % 18446744073709551616 = al at *
  generalize b / 18446744073709551616 = bh at *
  generalize b % 18446744073709551616 = bl at *
  go_enter Tryz.func137, Tryz.ntmps137
  go_wp2
  simp [bodyPost, results, Tryz.results137, go_sem]
  exact (((Grew.refl w).alloc _ _).alloc _ _).alloc _ _

theorem rsize_any (a : Int) (w : World) (ha : inF a) :
    Calls Tryz.prog 139 #[.int .i64 a] w fun e w' => e = .returned (.int .u64 (ab a)) ∧ w' = w := by
  unfold inF at ha
  go_enter Tryz.func139, Tryz.ntmps139
  go_wp2
  all_goals (go_ret; refine ⟨ret_int ?_, rfl⟩; have := ab_of a; try rw [IntKind.wrap_u64, wrap64_of])
  all_goals omega

end Go.Proofs.YtnkhknmpffcfbaaGreat

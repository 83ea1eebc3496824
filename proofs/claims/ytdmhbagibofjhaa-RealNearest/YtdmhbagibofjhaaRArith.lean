/-
  Sums and quotients of float64s that are told exactly, and what they are as Fixes; no program in sight but for Put's contract at its answer. Nothing is claimed here.
-/
import Derived.Test.YtdmhbagibofjhaaROrder
namespace Go.Proofs.Ytdmhbagibofjhaa
open Go.RowKit
variable {K : Ks}

theorem put_at (a : Int) (W : Nat) (h3 : Ieee.double.div (floatOfInt .f64 a) 4751297606875873280 = some W) (w : World) : Calls Try.prog 16 #[.int .i64 a] w fun e w' => e = .returned (.float .f64 W) ∧ w' = w := by
  have m1 : ∀ t w, (binOp .quo t (.float .f64 (floatOfInt .f64 a)) (.float .f64 4751297606875873280)).run Try.prog w = .ok (.float .f64 W) w := fun t w => run_float_arith w .quo t .f64 _ 4751297606875873280 _ h3
  go_enter Try.func16, Try.ntmps16
  go_wp2
  go_ret
  exact ⟨rfl, rfl⟩

theorem sV_wd (s : Bool) {r : Nat} (h : r < infR) : sV (wd s r) = if s = true then -(V r : Int) else (V r : Int) := by
  have := infR_lt
  unfold sV; rw [rg_wd s (by omega), sg_wd s (by omega)]
theorem inf_wd (s : Bool) {r : Nat} (h : r < infR) : rg (wd s r) < infR := by
  have := infR_lt
  rw [rg_wd s (by omega)]; exact h
theorem lt_wd (s : Bool) {r : Nat} (h : r < infR) : wd s r < 18446744073709551616 := by
  have := infR_lt
  exact wd_lt s (by omega)
/-- What a float64's Fix is, by its rung. -/
theorem gR_wd (s : Bool) {r : Nat} (h : r < infR) : gR K (wd s r) = sgR s (gN K r) := by
  have := infR_lt
  rw [gR_num (inf_wd s h), rg_wd s (by omega), sg_wd s (by omega)]
theorem gN_exact {r N : Nat} (h : V r = N * 2 ^ K.g) : gN K r = N := by
  unfold gN; rw [h]; exact rne_exact _ _ (p_pos _)
theorem V_up (M e : Nat) (w N d k : Nat) (hw : w = e * 4503599627370496 + M) (h1 : M ≤ 9007199254740992) (h2 : e = 0 ∨ 4503599627370496 ≤ M) (hM : M = N * 2 ^ d) (he : e + d = k) : V w = N * 2 ^ k := by
  rw [hw, V_of e M h1 h2, hM, ← he, Nat.add_comm e d, Nat.pow_add, Nat.mul_assoc]
theorem V_down (M e : Nat) (w N d k : Nat) (hw : w = e * 4503599627370496 + M) (h1 : M ≤ 9007199254740992) (h2 : e = 0 ∨ 4503599627370496 ≤ M) (hN : N = M * 2 ^ d) (he : e = k + d) : V w = N * 2 ^ k := by
  rw [hw, V_of e M h1 h2, hN, he, Nat.add_comm k d, Nat.pow_add, Nat.mul_assoc]
theorem scaled (T : Int) (k : Nat) : (T * ((2 ^ k : Nat) : Int)).natAbs = T.natAbs * 2 ^ k := by
  rw [Int.natAbs_mul, Int.natAbs_natCast]
theorem scaled_neg (T : Int) (k : Nat) : (T * ((2 ^ k : Nat) : Int) < 0) ↔ T < 0 := by
  have hp : (0 : Int) < ((2 ^ k : Nat) : Int) := by have := p_pos k; omega
  have : T * ((2 ^ k : Nat) : Int) < 0 * ((2 ^ k : Nat) : Int) ↔ T < 0 := Int.mul_lt_mul_right hp
  rwa [Int.zero_mul] at this
theorem scaled_zero (T : Int) (k : Nat) : (T * ((2 ^ k : Nat) : Int) = 0) ↔ T = 0 := by
  have hp := p_pos k
  constructor
  · intro g; rcases Int.mul_eq_zero.1 g with g | g
    · exact g
    · omega
  · intro g; rw [g, Int.zero_mul]
theorem add_k (k : Nat) (hk : k ≤ 2000) (x y : Nat) (a b : Int) (hx : rg x < infR) (hy : rg y < infR) (sx : sV x = a * ((2 ^ k : Nat) : Int)) (sy : sV y = b * ((2 ^ k : Nat) : Int)) (hb : (a + b).natAbs ≤ 9007199254740992) (hz : a + b ≠ 0) :
    ∃ r, V r = (a + b).natAbs * 2 ^ k ∧ r < infR ∧ Ieee.double.add x y = some (wd (decide (a + b < 0)) r) := by
  obtain ⟨r, hr⟩ := rep' _ k hb
  have hi := lt_inf hr hb hk
  have e : sV x + sV y = (a + b) * ((2 ^ k : Nat) : Int) := by rw [sx, sy, Int.add_mul]
  refine ⟨r, hr, hi, ?_⟩
  rw [add_exact x y hx hy r (by rw [e, scaled, hr]), e, if_neg (by rw [scaled_zero]; exact hz), Nat.min_eq_left (Nat.le_of_lt hi)]
  congr 2
  simp only [scaled_neg]
theorem sub_k (k : Nat) (hk : k ≤ 2000) (x y : Nat) (a b : Int) (hx : rg x < infR) (hy : rg y < infR) (sx : sV x = a * ((2 ^ k : Nat) : Int)) (sy : sV y = b * ((2 ^ k : Nat) : Int)) (hb : (a - b).natAbs ≤ 9007199254740992) :
    ∃ r s, V r = (a - b).natAbs * 2 ^ k ∧ r < infR ∧ Ieee.double.sub x y = some (wd s r) ∧ (a - b ≠ 0 → s = decide (a - b < 0)) := by
  obtain ⟨r, hr⟩ := rep' _ k hb
  have hi := lt_inf hr hb hk
  have e : sV x - sV y = (a - b) * ((2 ^ k : Nat) : Int) := by rw [sx, sy, Int.sub_mul]
  refine ⟨r, if a - b = 0 then sg x && !sg y else decide (a - b < 0), hr, hi, ?_, ?_⟩
  · rw [sub_exact x y hx hy r (by rw [e, scaled, hr]), e, Nat.min_eq_left (Nat.le_of_lt hi)]
    simp only [scaled_zero, scaled_neg]
  · intro hz
    rw [if_neg hz]
/-- A whole number's float64. -/
theorem int_float (n : Int) (h : n.natAbs < 9007199254740992) : rg (floatOfInt .f64 n) < infR ∧ sV (floatOfInt .f64 n) = n * ((2 ^ K.u : Nat) : Int) := by
  obtain ⟨r, h1, h2, h3⟩ := fl_rung (K := K) (decide (n < 0)) n.natAbs (by omega)
  have e : floatOfInt .f64 n = wd (decide (n < 0)) r := h3
  rw [e]
  refine ⟨inf_wd _ h2, ?_⟩
  rw [sV_wd _ h2, h1, fl_small h]
  by_cases g : n < 0
  · rw [if_pos (by simp [g]), Int.natCast_mul, ← Int.neg_mul]; congr 1; omega
  · rw [if_neg (by simp [g]), Int.natCast_mul]; congr 1; omega
theorem rung_mono {r r' n n' : Nat} (h : V r = fl n * 2 ^ K.g) (h' : V r' = fl n' * 2 ^ K.g) (hn : n ≤ n') : r ≤ r' := by
  have a : V r ≤ V r' := by rw [h, h']; exact Nat.mul_le_mul_right _ (fl_mono hn)
  have := V_lt_iff r' r
  omega
theorem rung_pos {r n : Nat} (h : V r = fl n * 2 ^ K.g) (hn : 0 < n) : 0 < r := by
  have a : 0 < V r := by rw [h]; exact Nat.mul_pos (fl_pos hn) (p_pos _)
  apply Nat.pos_of_ne_zero
  intro g; subst g; rw [V_zero] at a; omega
theorem rung_zero {r : Nat} (h : V r = fl 0 * 2 ^ K.g) : r = 0 := by
  have : fl 0 = 0 := rfl
  rw [this, Nat.zero_mul] at h
  exact V_inj (h.trans V_zero.symm)
theorem sV_pos {x r : Nat} (h : sg x = false) (e : rg x = r) : sV x = (V r : Int) := by unfold sV; rw [h, e]; rfl
theorem sV_neg {x r : Nat} (h : sg x = true) (e : rg x = r) : sV x = -(V r : Int) := by unfold sV; rw [h, e]; rfl
theorem low_bit (n : Int) : bits .and .i64 n 1 = n % 2 := by
  show IntKind.i64.wrap (((BitVec.ofInt 64 n &&& BitVec.ofInt 64 1).toNat : Nat) : Int) = n % 2
  rw [BitVec.toNat_and, BitVec.toNat_ofInt, show (BitVec.ofInt 64 1).toNat = 1 by decide, Nat.and_one_is_mod, IntKind.wrap_i64]
  omega
end Go.Proofs.Ytdmhbagibofjhaa

/-
  What the document's own reckoner (maquetteref1's Calc) does: with no error so far it returns what the plain function says and keeps its error; the rest of the world is as it was but for answers drawn.
-/
import Derived.Test.YtcoooehcgbohgaaGreatPk02
import Derived.Test.YtcoooehcgbohgaaGreatPxRefCalc
namespace Go.Proofs.YtcoooehcgbohgaaGreat
open Go.RowKit

set_option maxHeartbeats 400000 in
theorem rdiv_any (b off : Nat) (x y : Int) (w : World) (hx : inF x) (hy : inF y) (hc : w.cell? ⟨b, off, none⟩ = some (.int .i64 0)) (hf : w.frozen? ⟨b, off, none⟩ = false) :
    Calls Tryz.prog 53 #[.pointer (some ⟨b, off, none⟩), .int .i64 x, .int .i64 y] w fun e w' => e = .returned (.int .i64 (divR x y).1) ∧ ∃ n, w' = (w.setCell ⟨b, off, none⟩ (.int .i64 (divR x y).2)).drewN n := by
  have a0 := ab_nonneg x; have a1 := ab_le hx; have b0 := ab_nonneg y; have b1 := ab_le hy
  unfold divR
  by_cases h : y = 0
  · subst h
    rw [if_pos rfl]
    clear hy b0 b1
    go_enter Tryz.func53, Tryz.ntmps53
    go_wp2_with (go_at_call 32; refine (fail_any b off 4 _ hc hf).mono ?_; rintro e w' ⟨rfl, rfl⟩)
    go_ret
    exact ⟨rfl, 0, rfl⟩
  · rw [if_neg h]
    have p := ab_pos h
    have hz : (y == 0) = false := by simp [h]
    have e : (ab x / 4294967296 * 18446744073709551616 + IntKind.u64.wrap (ab x * 4294967296)) / ab y = divM x y := by
      unfold divM; rw [IntKind.wrap_u64]; congr 1; omega
    by_cases g : ab x / 4294967296 < ab y
    · have w0 : 0 ≤ IntKind.u64.wrap (ab x * 4294967296) ∧ IntKind.u64.wrap (ab x * 4294967296) ≤ 18446744073709551615 := by rw [IntKind.wrap_u64]; omega
      have q0 := divM_nonneg x y
      have q1 : divM x y ≤ 18446744073709551615 := by
        have : divM x y < 18446744073709551616 := Int.ediv_lt_of_lt_mul (by omega) (by omega)
        omega
      unfold sgn
      have E : Hid (_ = _) := e; clear e
      go_enter Tryz.func53, Tryz.ntmps53
      go_wp2_with (first | (go_at_call 49; refine (rabs_any _ _ (by assumption)).mono ?_; rintro e w' ⟨rfl, hw⟩; rw [hw]; clear hw) | (go_at_call 70; refine (div64_any _ _ _ _ w0.1 w0.2 p (by omega) (by omega) g).mono ?_; rintro e w' ⟨r, rfl, n, rfl⟩; rw [E.out]) | (go_at_call 51; refine (rsigned_any b off _ _ _ ⟨q0, q1⟩ (by simpa using hc) (by simpa using hf)).mono ?_; rintro e w' ⟨rfl, rfl⟩))
      go_ret
      exact ⟨rfl, _, rfl⟩
    · have hs : sgR (sgn x y) (divM x y) = (0, 3) := by
        have l : 18446744073709551616 ≤ divM x y := Int.le_ediv_of_mul_le (by omega) (by omega)
        rcases sgR_cases (sgn x y) (divM x y) with ⟨_, h2, _⟩ | ⟨_, h2, _⟩ | ⟨_, _, h3⟩
        · omega
        · omega
        · exact h3
      rw [hs]; clear hs e
      go_enter Tryz.func53, Tryz.ntmps53
      go_wp2_with (first | (go_at_call 49; refine (rabs_any _ _ (by assumption)).mono ?_; rintro e w' ⟨rfl, hw⟩; rw [hw]; clear hw) | (go_at_call 32; refine (fail_any b off 3 _ hc hf).mono ?_; rintro e w' ⟨rfl, rfl⟩))
      go_ret
      exact ⟨rfl, 0, rfl⟩
end Go.Proofs.YtcoooehcgbohgaaGreat

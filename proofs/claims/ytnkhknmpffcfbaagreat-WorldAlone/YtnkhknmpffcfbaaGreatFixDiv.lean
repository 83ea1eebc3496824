/-
  What fix.Div does: for whatever int64s it returns what the plain function of the Num text says; the world is as it was but for answers drawn.
-/
import Derived.Test.YtnkhknmpffcfbaaGreatDiv
namespace Go.Proofs.YtnkhknmpffcfbaaGreat
open Go.RowKit

set_option maxHeartbeats 400000 in
theorem div_any (a b : Int) (w : World) (ha : inF a) (hb : inF b) :
    Calls Tryz.prog 104 #[.int .i64 a, .int .i64 b] w fun e w' => e = .returned (.tuple #[.int .i64 (divR a b).1, .int .i64 (divR a b).2]) ∧ ∃ n, w' = w.drewN n := by
  have a0 := ab_nonneg a; have a1 := ab_le ha; have b0 := ab_nonneg b; have b1 := ab_le hb
  unfold divR
  by_cases h : b = 0
  · subst h
    rw [if_pos rfl]
    clear hb b0 b1
    go_enter Tryz.func104, Tryz.ntmps104
    go_wp2
    go_ret2
    exact ⟨rfl, 0, rfl⟩
  · rw [if_neg h]
    have p := ab_pos h
    have hz : (b == 0) = false := by simp [h]
    have e : (ab a / 4294967296 * 18446744073709551616 + IntKind.u64.wrap (ab a * 4294967296)) / ab b = divM a b := by
      unfold divM; rw [IntKind.wrap_u64]; congr 1; omega
    by_cases g : ab a / 4294967296 < ab b
    · have w0 : 0 ≤ IntKind.u64.wrap (ab a * 4294967296) ∧ IntKind.u64.wrap (ab a * 4294967296) ≤ 18446744073709551615 := by rw [IntKind.wrap_u64]; omega
      have q0 := divM_nonneg a b
      have q1 : divM a b ≤ 18446744073709551615 := by
        have : divM a b < 18446744073709551616 := Int.ediv_lt_of_lt_mul (by omega) (by omega)
        omega
      unfold sgn
      have E : Hid (_ = _) := e; clear e
      go_enter Tryz.func104, Tryz.ntmps104
      go_wp2_with (first | (go_at_call 120; refine (size_any _ _ (by assumption)).mono ?_; rintro e w' ⟨rfl, rfl⟩) | (go_at_call 78; refine (div64_any _ _ _ _ w0.1 w0.2 p (by omega) (by omega) g).mono ?_; rintro e w' ⟨r, rfl, n, rfl⟩; rw [E.out]) | (go_at_call 121; refine (signed_any _ _ _ ⟨q0, q1⟩).mono ?_; rintro e w' ⟨rfl, rfl⟩))
      go_ret2
      exact ⟨rfl, _, rfl⟩
    · have hs : sgR (sgn a b) (divM a b) = (0, 3) := by
        have l : 18446744073709551616 ≤ divM a b := Int.le_ediv_of_mul_le (by omega) (by omega)
        rcases sgR_cases (sgn a b) (divM a b) with ⟨_, h2, _⟩ | ⟨_, h2, _⟩ | ⟨_, _, h3⟩
        · omega
        · omega
        · exact h3
      rw [hs]; clear hs e
      go_enter Tryz.func104, Tryz.ntmps104
      go_wp2_with (go_at_call 120; refine (size_any _ _ (by assumption)).mono ?_; rintro e w' ⟨rfl, rfl⟩)
      go_ret2
      exact ⟨rfl, 0, rfl⟩
end Go.Proofs.YtnkhknmpffcfbaaGreat

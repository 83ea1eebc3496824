/-
  What each call of package fix does, but for Div: for whatever int64s it returns what the plain function of the Num text says, and the world is as it was.
-/
import Derived.Test.YtnkhknmpffcfbaaGreatRows
import Derived.Test.YtnkhknmpffcfbaaGreatNum
import Derived.Test.YtnkhknmpffcfbaaGreatMul64
import Derived.WalkKit
import Derived.WalkSpells
import Derived.WalkLawsBesides
namespace Go.Proofs.YtnkhknmpffcfbaaGreat
open Go.RowKit

set_option maxHeartbeats 400000 in
theorem add_any (a b : Int) (w : World) (ha : inF a) (hb : inF b) :
    Calls Tryz.prog 62 #[.int .i64 a, .int .i64 b] w fun e w' => e = .returned (.tuple #[.int .i64 (addR a b).1, .int .i64 (addR a b).2]) ∧ w' = w := by
  have hc := add_bits a b ha hb
  unfold inF at ha hb
  by_cases h : -9223372036854775808 ≤ a + b ∧ a + b ≤ 9223372036854775807
  · have h1 : 0 ≤ bits .and .i64 (bits .xor .i64 a (wrap64 (a + b))) (bits .xor .i64 b (wrap64 (a + b))) := Int.not_lt.1 (fun x => (hc.1 x) h)
    rw [show addR a b = (a + b, 0) from inR_ok h]
    have hw := IntWalk.wrap64_in (a + b) h
    rw [hw] at h1
    clear hc hw
    go_enter Tryz.func62, Tryz.ntmps62
    go_wp2
    go_ret2
    exact ⟨rfl, rfl⟩
  · have h1 : bits .and .i64 (bits .xor .i64 a (wrap64 (a + b))) (bits .xor .i64 b (wrap64 (a + b))) < 0 := hc.2 h
    rw [show addR a b = (0, 3) from inR_no h]
    clear hc h
    go_enter Tryz.func62, Tryz.ntmps62
    go_wp2
    go_ret2
    exact ⟨rfl, rfl⟩

set_option maxHeartbeats 400000 in
theorem sub_any (a b : Int) (w : World) (ha : inF a) (hb : inF b) :
    Calls Tryz.prog 103 #[.int .i64 a, .int .i64 b] w fun e w' => e = .returned (.tuple #[.int .i64 (subR a b).1, .int .i64 (subR a b).2]) ∧ w' = w := by
  have hc := sub_bits a b ha hb
  unfold inF at ha hb
  by_cases h : -9223372036854775808 ≤ a - b ∧ a - b ≤ 9223372036854775807
  · have h1 : 0 ≤ bits .and .i64 (bits .xor .i64 a b) (bits .xor .i64 a (wrap64 (a - b))) := Int.not_lt.1 (fun x => (hc.1 x) h)
    rw [show subR a b = (a - b, 0) from inR_ok h]
    have hw := IntWalk.wrap64_in (a - b) h
    rw [hw] at h1
    clear hc hw
    go_enter Tryz.func103, Tryz.ntmps103
    go_wp2
    go_ret2
    exact ⟨rfl, rfl⟩
  · have h1 : bits .and .i64 (bits .xor .i64 a b) (bits .xor .i64 a (wrap64 (a - b))) < 0 := hc.2 h
    rw [show subR a b = (0, 3) from inR_no h]
    clear hc h
    go_enter Tryz.func103, Tryz.ntmps103
    go_wp2
    go_ret2
    exact ⟨rfl, rfl⟩

set_option maxHeartbeats 400000 in
theorem size_any (a : Int) (w : World) (ha : inF a) :
    Calls Tryz.prog 120 #[.int .i64 a] w fun e w' => e = .returned (.int .u64 (ab a)) ∧ w' = w := by
  unfold inF at ha
  go_enter Tryz.func120, Tryz.ntmps120
  go_wp2
  all_goals (go_ret; refine ⟨ret_int ?_, rfl⟩; have := ab_of a; try rw [IntKind.wrap_u64, wrap64_of])
  all_goals omega

set_option maxHeartbeats 400000 in
theorem signed_any (n : Int) (b : Bool) (w : World) (ha : 0 ≤ n ∧ n ≤ 18446744073709551615) :
    Calls Tryz.prog 121 #[.int .u64 n, .bool b] w fun e w' => e = .returned (.tuple #[.int .i64 (sgR b n).1, .int .i64 (sgR b n).2]) ∧ w' = w := by
  rcases sgR_cases b n with ⟨h1, h2, h3⟩ | ⟨h1, h2, h3⟩ | ⟨h1, h2, h3⟩
  · subst h1
    rw [h3]; clear h3
    go_enter Tryz.func121, Tryz.ntmps121
    go_wp2
    go_ret2
    exact ⟨ret_two (by rw [IntKind.wrap_u64, wrap64_of]; omega) rfl, rfl⟩
  · subst h1
    rw [h3]; clear h3
    go_enter Tryz.func121, Tryz.ntmps121
    go_wp2
    go_ret2
    exact ⟨rfl, rfl⟩
  · rw [h3]; clear h3
    cases b
    · go_enter Tryz.func121, Tryz.ntmps121
      go_wp2
      go_ret2
      exact ⟨rfl, rfl⟩
    · have h4 : 9223372036854775808 < n := by simp at h2; omega
      clear h2
      go_enter Tryz.func121, Tryz.ntmps121
      go_wp2
      go_ret2
      exact ⟨rfl, rfl⟩




set_option maxHeartbeats 400000 in
theorem mul_any (a b : Int) (w : World) (ha : inF a) (hb : inF b) :
    Calls Tryz.prog 100 #[.int .i64 a, .int .i64 b] w fun e w' => e = .returned (.tuple #[.int .i64 (mulR a b).1, .int .i64 (mulR a b).2]) ∧ w' = w := by
  have a0 := ab_nonneg a; have a1 := ab_le ha; have b0 := ab_nonneg b; have b1 := ab_le hb
  have p0 : 0 ≤ ab a * ab b := Int.mul_nonneg a0 b0
  unfold mulR sgn mulM
  by_cases h : ab a * ab b / 18446744073709551616 / 4294967296 = 0
  · have hq : 0 ≤ ab a * ab b / 18446744073709551616 ∧ ab a * ab b / 18446744073709551616 < 4294967296 := by omega
    have hor : bits .or .u64 (ab a * ab b / 18446744073709551616 * 4294967296) (ab a * ab b % 18446744073709551616 / 4294967296) = ab a * ab b / 4294967296 := by
      rw [or_halves _ _ hq.1 hq.2 (by omega) (by omega)]; omega
    go_enter Tryz.func100, Tryz.ntmps100
    go_wp2_with (first | (go_at_call 120; refine (size_any _ _ (by assumption)).mono ?_; rintro e w' ⟨rfl, rfl⟩) | (go_at_call 63; refine (mul64_any _ _ _ a0 (by omega) b0 (by omega)).mono ?_; rintro e w' ⟨rfl, rfl⟩) | (go_at_call 121; refine (signed_any _ _ _ (by omega)).mono ?_; rintro e w' ⟨rfl, rfl⟩))
    go_ret2
    exact ⟨rfl, rfl⟩
  · have hs : sgR (decide (a < 0) != decide (b < 0)) (ab a * ab b / 4294967296) = (0, 3) := by
      rcases sgR_cases (decide (a < 0) != decide (b < 0)) (ab a * ab b / 4294967296) with ⟨_, h2, _⟩ | ⟨_, h2, _⟩ | ⟨_, _, h3⟩
      · omega
      · omega
      · exact h3
    rw [hs]; clear hs
    go_enter Tryz.func100, Tryz.ntmps100
    go_wp2_with (first | (go_at_call 120; refine (size_any _ _ (by assumption)).mono ?_; rintro e w' ⟨rfl, rfl⟩) | (go_at_call 63; refine (mul64_any _ _ _ a0 (by omega) b0 (by omega)).mono ?_; rintro e w' ⟨rfl, rfl⟩))
    go_ret2
    exact ⟨rfl, rfl⟩
end Go.Proofs.YtnkhknmpffcfbaaGreat

/-
  What each call of package fix does, but for Div: for whatever int64s it returns what the plain function of the Num text says, and the world is as it was.
-/
import Derived.Test.YthfecjmgmnjaoaaRows
import Derived.Test.YthfecjmgmnjaoaaNum
import Derived.Test.YthfecjmgmnjaoaaMul64
import Derived.WalkKit
import Derived.WalkSpells
import Derived.WalkLawsBesides
namespace Go.Proofs.Ythfecjmgmnjaoaa
open Go.RowKit

set_option maxHeartbeats 400000 in
theorem size_any (a : Int) (w : World) (ha : inF a) :
    Calls Try.prog 41 #[.int .i64 a] w fun e w' => e = .returned (.int .u64 (ab a)) ∧ w' = w := by
  unfold inF at ha
  go_enter Try.func41, Try.ntmps41
  go_wp2
  all_goals (go_ret; refine ⟨ret_int ?_, rfl⟩; have := ab_of a; try rw [IntKind.wrap_u64, wrap64_of])
  all_goals omega

set_option maxHeartbeats 400000 in
theorem signed_any (n : Int) (b : Bool) (w : World) (ha : 0 ≤ n ∧ n ≤ 18446744073709551615) :
    Calls Try.prog 42 #[.int .u64 n, .bool b] w fun e w' => e = .returned (.tuple #[.int .i64 (sgR b n).1, .int .i64 (sgR b n).2]) ∧ w' = w := by
  rcases sgR_cases b n with ⟨h1, h2, h3⟩ | ⟨h1, h2, h3⟩ | ⟨h1, h2, h3⟩
  · subst h1
    rw [h3]; clear h3
    go_enter Try.func42, Try.ntmps42
    go_wp2
    go_ret2
    exact ⟨ret_two (by rw [IntKind.wrap_u64, wrap64_of]; omega) rfl, rfl⟩
  · subst h1
    rw [h3]; clear h3
    go_enter Try.func42, Try.ntmps42
    go_wp2
    go_ret2
    exact ⟨rfl, rfl⟩
  · rw [h3]; clear h3
    cases b
    · go_enter Try.func42, Try.ntmps42
      go_wp2
      go_ret2
      exact ⟨rfl, rfl⟩
    · have h4 : 9223372036854775808 < n := by simp at h2; omega
      clear h2
      go_enter Try.func42, Try.ntmps42
      go_wp2
      go_ret2
      exact ⟨rfl, rfl⟩




end Go.Proofs.Ythfecjmgmnjaoaa

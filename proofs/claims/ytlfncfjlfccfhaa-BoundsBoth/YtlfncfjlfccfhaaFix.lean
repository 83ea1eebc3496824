/-
  What each call of package fix does, but for Div: for whatever int64s it returns what the plain function of the Num text says, and the world is as it was.
-/
import Derived.Test.YtlfncfjlfccfhaaRows
import Derived.Test.YtlfncfjlfccfhaaNum
import Derived.Test.YtlfncfjlfccfhaaMul64
import Derived.WalkKit
import Derived.WalkSpells
import Derived.WalkLawsBesides
namespace Go.Proofs.Ytlfncfjlfccfhaa
open Go.RowKit

set_option maxHeartbeats 400000 in
theorem add_any (a b : Int) (w : World) (ha : inF a) (hb : inF b) :
    Calls Try.prog 42 #[.int .i64 a, .int .i64 b] w fun e w' => e = .returned (.tuple #[.int .i64 (addR a b).1, .int .i64 (addR a b).2]) ∧ w' = w := by
  have hc := add_bits a b ha hb
  unfold inF at ha hb
  by_cases h : -9223372036854775808 ≤ a + b ∧ a + b ≤ 9223372036854775807
  · have h1 : 0 ≤ bits .and .i64 (bits .xor .i64 a (wrap64 (a + b))) (bits .xor .i64 b (wrap64 (a + b))) := Int.not_lt.1 (fun x => (hc.1 x) h)
    rw [show addR a b = (a + b, 0) from inR_ok h]
    have hw := IntWalk.wrap64_in (a + b) h
    rw [hw] at h1
    clear hc hw
    go_enter Try.func42, Try.ntmps42
    go_wp2
    go_ret2
    exact ⟨rfl, rfl⟩
  · have h1 : bits .and .i64 (bits .xor .i64 a (wrap64 (a + b))) (bits .xor .i64 b (wrap64 (a + b))) < 0 := hc.2 h
    rw [show addR a b = (0, 3) from inR_no h]
    clear hc h
    go_enter Try.func42, Try.ntmps42
    go_wp2
    go_ret2
    exact ⟨rfl, rfl⟩

set_option maxHeartbeats 400000 in
theorem sub_any (a b : Int) (w : World) (ha : inF a) (hb : inF b) :
    Calls Try.prog 41 #[.int .i64 a, .int .i64 b] w fun e w' => e = .returned (.tuple #[.int .i64 (subR a b).1, .int .i64 (subR a b).2]) ∧ w' = w := by
  have hc := sub_bits a b ha hb
  unfold inF at ha hb
  by_cases h : -9223372036854775808 ≤ a - b ∧ a - b ≤ 9223372036854775807
  · have h1 : 0 ≤ bits .and .i64 (bits .xor .i64 a b) (bits .xor .i64 a (wrap64 (a - b))) := Int.not_lt.1 (fun x => (hc.1 x) h)
    rw [show subR a b = (a - b, 0) from inR_ok h]
    have hw := IntWalk.wrap64_in (a - b) h
    rw [hw] at h1
    clear hc hw
    go_enter Try.func41, Try.ntmps41
    go_wp2
    go_ret2
    exact ⟨rfl, rfl⟩
  · have h1 : bits .and .i64 (bits .xor .i64 a b) (bits .xor .i64 a (wrap64 (a - b))) < 0 := hc.2 h
    rw [show subR a b = (0, 3) from inR_no h]
    clear hc h
    go_enter Try.func41, Try.ntmps41
    go_wp2
    go_ret2
    exact ⟨rfl, rfl⟩

end Go.Proofs.Ytlfncfjlfccfhaa

/-
  What the document's own reckoner (maquetteref1's Calc) does in Add, Sub, Mul: with no error so far it returns what the plain function says and keeps its error; the rest of the world is as it was.
-/
import Derived.Test.YtcancbgaejekiaaRefBase
namespace Go.Proofs.Ytcancbgaejekiaa
open Go.RowKit

set_option maxHeartbeats 400000 in
theorem radd_any (b off : Nat) (x y : Int) (w : World) (hx : inF x) (hy : inF y) (hc : w.cell? ⟨b, off, none⟩ = some (.int .i64 0)) (hf : w.frozen? ⟨b, off, none⟩ = false) :
    Calls Try.prog 43 #[.pointer (some ⟨b, off, none⟩), .int .i64 x, .int .i64 y] w fun e w' => e = .returned (.int .i64 (addR x y).1) ∧ w' = w.setCell ⟨b, off, none⟩ (.int .i64 (addR x y).2) := by
  have hid := setCell_id w b off _ hc
  unfold inF at hx hy
  rcases inR_cases (x + y) with ⟨h, h2⟩ | ⟨h, h2⟩
  · rw [show addR x y = (x + y, 0) from h]; clear h
    rw [hid]; clear hid
    by_cases g1 : 0 < y
    · go_enter Try.func43, Try.ntmps43
      go_wp2
      go_ret
      exact ⟨rfl, rfl⟩
    · by_cases g2 : y < 0
      · go_enter Try.func43, Try.ntmps43
        go_wp2
        go_ret
        exact ⟨rfl, rfl⟩
      · go_enter Try.func43, Try.ntmps43
        go_wp2
        go_ret
        exact ⟨rfl, rfl⟩
  · rw [show addR x y = (0, 3) from h]; clear h hid
    by_cases g1 : 0 < y
    · have g2 : 9223372036854775807 - y < x := by omega
      clear h2
      go_enter Try.func43, Try.ntmps43
      go_wp2_with (go_at_call 63; refine (fail_any b off 3 _ hc hf).mono ?_; rintro e w' ⟨rfl, rfl⟩)
      go_ret
      exact ⟨rfl, rfl⟩
    · have g2 : y < 0 := by omega
      have g3 : x < -9223372036854775808 - y := by omega
      clear h2
      go_enter Try.func43, Try.ntmps43
      go_wp2_with (go_at_call 63; refine (fail_any b off 3 _ hc hf).mono ?_; rintro e w' ⟨rfl, rfl⟩)
      go_ret
      exact ⟨rfl, rfl⟩
set_option maxHeartbeats 400000 in
theorem rsub_any (b off : Nat) (x y : Int) (w : World) (hx : inF x) (hy : inF y) (hc : w.cell? ⟨b, off, none⟩ = some (.int .i64 0)) (hf : w.frozen? ⟨b, off, none⟩ = false) :
    Calls Try.prog 48 #[.pointer (some ⟨b, off, none⟩), .int .i64 x, .int .i64 y] w fun e w' => e = .returned (.int .i64 (subR x y).1) ∧ w' = w.setCell ⟨b, off, none⟩ (.int .i64 (subR x y).2) := by
  have hid := setCell_id w b off _ hc
  unfold inF at hx hy
  rcases inR_cases (x - y) with ⟨h, h2⟩ | ⟨h, h2⟩
  · rw [show subR x y = (x - y, 0) from h]; clear h
    rw [hid]; clear hid
    by_cases g1 : y < 0
    · go_enter Try.func48, Try.ntmps48
      go_wp2
      go_ret
      exact ⟨rfl, rfl⟩
    · by_cases g2 : 0 < y
      · go_enter Try.func48, Try.ntmps48
        go_wp2
        go_ret
        exact ⟨rfl, rfl⟩
      · go_enter Try.func48, Try.ntmps48
        go_wp2
        go_ret
        exact ⟨rfl, rfl⟩
  · rw [show subR x y = (0, 3) from h]; clear h hid
    by_cases g1 : y < 0
    · have g2 : 9223372036854775807 + y < x := by omega
      clear h2
      go_enter Try.func48, Try.ntmps48
      go_wp2_with (go_at_call 63; refine (fail_any b off 3 _ hc hf).mono ?_; rintro e w' ⟨rfl, rfl⟩)
      go_ret
      exact ⟨rfl, rfl⟩
    · have g2 : 0 < y := by omega
      have g3 : x < -9223372036854775808 + y := by omega
      clear h2
      go_enter Try.func48, Try.ntmps48
      go_wp2_with (go_at_call 63; refine (fail_any b off 3 _ hc hf).mono ?_; rintro e w' ⟨rfl, rfl⟩)
      go_ret
      exact ⟨rfl, rfl⟩
set_option maxHeartbeats 400000 in
theorem rmul_any (b off : Nat) (x y : Int) (w : World) (hx : inF x) (hy : inF y) (hc : w.cell? ⟨b, off, none⟩ = some (.int .i64 0)) (hf : w.frozen? ⟨b, off, none⟩ = false) :
    Calls Try.prog 50 #[.pointer (some ⟨b, off, none⟩), .int .i64 x, .int .i64 y] w fun e w' => e = .returned (.int .i64 (mulR x y).1) ∧ w' = w.setCell ⟨b, off, none⟩ (.int .i64 (mulR x y).2) := by
  have a0 := ab_nonneg x; have a1 := ab_le hx; have b0 := ab_nonneg y; have b1 := ab_le hy
  have p0 : 0 ≤ ab x * ab y := Int.mul_nonneg a0 b0
  unfold mulR sgn mulM
  by_cases h : ab x * ab y / 18446744073709551616 < 4294967296
  · have hq : 0 ≤ ab x * ab y / 18446744073709551616 := by omega
    have hor : bits .or .u64 (ab x * ab y / 18446744073709551616 * 4294967296) (ab x * ab y % 18446744073709551616 / 4294967296) = ab x * ab y / 4294967296 := by
      rw [or_halves _ _ hq h (by omega) (by omega)]; omega
    go_enter Try.func50, Try.ntmps50
    go_wp2_with (first | (go_at_call 65; refine (rabs_any _ _ (by assumption)).mono ?_; rintro e w' ⟨rfl, hw⟩; rw [hw]; clear hw) | (go_at_call 68; refine (mul64_any _ _ _ a0 (by omega) b0 (by omega)).mono ?_; rintro e w' ⟨rfl, hw⟩; rw [hw]; clear hw) | (go_at_call 67; refine (rsigned_any b off _ _ _ (by omega) hc hf).mono ?_; rintro e w' ⟨rfl, rfl⟩))
    go_ret
    exact ⟨rfl, rfl⟩
  · have hs : sgR (decide (x < 0) != decide (y < 0)) (ab x * ab y / 4294967296) = (0, 3) := by
      rcases sgR_cases (decide (x < 0) != decide (y < 0)) (ab x * ab y / 4294967296) with ⟨_, h2, _⟩ | ⟨_, h2, _⟩ | ⟨_, _, h3⟩
      · omega
      · omega
      · exact h3
    rw [hs]; clear hs
    go_enter Try.func50, Try.ntmps50
    go_wp2_with (first | (go_at_call 65; refine (rabs_any _ _ (by assumption)).mono ?_; rintro e w' ⟨rfl, hw⟩; rw [hw]; clear hw) | (go_at_call 68; refine (mul64_any _ _ _ a0 (by omega) b0 (by omega)).mono ?_; rintro e w' ⟨rfl, hw⟩; rw [hw]; clear hw) | (go_at_call 63; refine (fail_any b off 3 _ hc hf).mono ?_; rintro e w' ⟨rfl, rfl⟩))
    go_ret
    exact ⟨rfl, rfl⟩
end Go.Proofs.Ytcancbgaejekiaa

/-
  The statements' own first look ('alive' of stage 1's laws): it returns true; the world is as it was but for answers drawn.
-/
import Derived.Test.YtgemflldnplkbaaFixDiv
namespace Go.Proofs.Ytgemflldnplkbaa
open Go.RowKit

theorem alive_mul : mulR 4294967296 12884901888 = (12884901888, 0) := by decide +kernel
theorem alive_div : divR 4294967296 8589934592 = (2147483648, 0) := by decide +kernel
theorem alive_add : addR 4611686018427387904 4611686018427387904 = (0, 3) := by decide +kernel
theorem alive_of : ofR 2 = (8589934592, 0) := by decide +kernel
set_option maxHeartbeats 400000 in
theorem alive_any (w : World) :
    Calls Try.prog 9 #[] w fun e w' => e = .returned (.bool true) ∧ ∃ n, w' = w.drewN n := by
  have h1 := alive_mul; have h2 := alive_div; have h3 := alive_add; have h4 := alive_of
  go_enter Try.func9, Try.ntmps9
  go_wp2_with (first
    | (go_at_call 16; refine (mul_any _ _ _ ⟨by decide, by decide⟩ ⟨by decide, by decide⟩).mono ?_; rintro e w' ⟨rfl, rfl⟩; rw [alive_mul])
    | (go_at_call 17; refine (div_any _ _ _ ⟨by decide, by decide⟩ ⟨by decide, by decide⟩).mono ?_; rintro e w' ⟨rfl, n, rfl⟩; rw [alive_div])
    | (go_at_call 14; refine (add_any _ _ _ ⟨by decide, by decide⟩ ⟨by decide, by decide⟩).mono ?_; rintro e w' ⟨rfl, rfl⟩; rw [alive_add])
    | (go_at_call 19; refine (of_any _ _ ⟨by decide, by decide⟩).mono ?_; rintro e w' ⟨rfl, rfl⟩; rw [alive_of])
    | (go_at_call 20; refine (whole_any _ _).mono ?_; rintro e w' ⟨rfl, rfl⟩))
  go_ret
  exact ⟨rfl, _, rfl⟩
/-- Answers drawn leave memory as it was. -/
theorem grown_drewN (w : World) (n : Nat) : Grown w (w.drewN n) := Grown.refl w
end Go.Proofs.Ytgemflldnplkbaa

/-
  The statements' own first look ('alive' of stage 5's laws): it returns true; the world is as it was.
-/
import Derived.Test.YtflggohamonojabWCalls
namespace Go.Proofs.Ytflggohamonojab
open Go.RowKit

theorem alive_rot : rotR 4294967296 0 (sinI 16384) (cosI 16384) = (0, 4294967296, 0) := by decide +kernel
theorem alive_sin0 : sinI 0 = 0 := by decide +kernel
theorem alive_sin1 : sinI 16384 = 4294967296 := by decide +kernel
theorem alive_cos0 : cosI 0 = 4294967296 := by decide +kernel
theorem alive_norm : (-1 : Int) % 65536 = 65535 := by decide
set_option maxHeartbeats 400000 in
theorem alive_any (w : World) :
    Calls Try.prog 4 #[] w fun e w' => e = .returned (.bool true) ∧ w' = w := by
  go_enter Try.func4, Try.ntmps4
  go_wp2_with (first
    | (go_at_call 5; refine (sin_any _ _ ⟨by decide, by decide⟩).mono ?_; rintro e w' ⟨rfl, rfl⟩; (first | rw [alive_sin0] | rw [alive_sin1]))
    | (go_at_call 6; refine (cos_any _ _ ⟨by decide, by decide⟩).mono ?_; rintro e w' ⟨rfl, rfl⟩; rw [alive_cos0])
    | (go_at_call 8; refine (norm_any _ _ ⟨by decide, by decide⟩).mono ?_; rintro e w' ⟨rfl, rfl⟩; rw [alive_norm])
    | (go_at_call 7; refine (rotate_any _ _ _ _ ⟨by decide, by decide⟩ ⟨by decide, by decide⟩ ⟨by decide, by decide⟩).mono ?_; rintro e w' ⟨rfl, rfl⟩; rw [alive_rot]))
  go_ret
  exact ⟨rfl, rfl⟩
end Go.Proofs.Ytflggohamonojab

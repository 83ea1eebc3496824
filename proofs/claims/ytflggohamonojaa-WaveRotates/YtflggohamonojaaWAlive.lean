/-
  The statements' own first look ('alive' of stage 5's laws): it returns true; the world is as it was.
-/
import Derived.Test.YtflggohamonojaaWCalls
namespace Go.Proofs.Ytflggohamonojaa
open Go.RowKit

theorem alive_rot : rotR 4294967296 0 (sinI 16384) (cosI 16384) = (0, 4294967296, 0) := by decide +kernel
theorem alive_sin0 : sinI 0 = 0 := by decide +kernel
theorem alive_sin1 : sinI 16384 = 4294967296 := by decide +kernel
theorem alive_cos0 : cosI 0 = 4294967296 := by decide +kernel
theorem alive_norm : (-1 : Int) % 65536 = 65535 := by decide
set_option maxHeartbeats 400000 in
theorem alive_any (w : World) :
    Calls Try.prog 9 #[] w fun e w' => e = .returned (.bool true) ∧ w' = w := by
  go_enter Try.func9, Try.ntmps9
  go_wp2_with (first
    | (go_at_call 14; refine (sin_any _ _ ⟨by decide, by decide⟩).mono ?_; rintro e w' ⟨rfl, rfl⟩; (first | rw [alive_sin0] | rw [alive_sin1]))
    | (go_at_call 16; refine (cos_any _ _ ⟨by decide, by decide⟩).mono ?_; rintro e w' ⟨rfl, rfl⟩; rw [alive_cos0])
    | (go_at_call 12; refine (norm_any _ _ ⟨by decide, by decide⟩).mono ?_; rintro e w' ⟨rfl, rfl⟩; rw [alive_norm])
    | (go_at_call 11; refine (rotate_any _ _ _ _ ⟨by decide, by decide⟩ ⟨by decide, by decide⟩ ⟨by decide, by decide⟩).mono ?_; rintro e w' ⟨rfl, rfl⟩; rw [alive_rot]))
  go_ret
  exact ⟨rfl, rfl⟩
end Go.Proofs.Ytflggohamonojaa

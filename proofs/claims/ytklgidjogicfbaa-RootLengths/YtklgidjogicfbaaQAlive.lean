/-
  The statements' own first look ('alive' of stage 4's laws): it returns true; more blocks are in memory, and nothing else.
-/
import Derived.Test.YtklgidjogicfbaaQOf
namespace Go.Proofs.Ytklgidjogicfbaa
open Go.RowKit

theorem alive_sqrt : sqR 17179869184 = (8589934592, 0) := by
  unfold sqR; rw [if_neg (by decide), rt_eq (r := 8589934592) ⟨by decide, by decide, by decide⟩ (by decide)]
theorem alive_sqrt1 : sqR (-1) = (0, 9) := by unfold sqR; rw [if_pos (by decide)]
theorem alive_rt : rt (12884901888 * 12884901888 + (-17179869184) * (-17179869184)) = 21474836480 := rt_eq ⟨by decide, by decide, by decide⟩ (by decide)
theorem alive_len : lenR 12884901888 (-17179869184) = (21474836480, 0) := by
  unfold lenR; rw [alive_rt]; rfl
theorem alive_int : rt 99 = 9 := rt_eq ⟨by decide, by decide, by decide⟩ (by decide)
set_option maxHeartbeats 400000 in
theorem alive_any (w : World) :
    Calls Try.prog 9 #[] w fun e w' => e = .returned (.bool true) ∧ Grew w w' := by
  go_enter Try.func9, Try.ntmps9
  have G := Grew.refl w
  go_wp2_with (first
    | (go_at_call 12; refine (sqrt_any _ _ ⟨by decide, by decide⟩).mono ?_; rintro e V ⟨rfl, U⟩; (first | rw [alive_sqrt] | rw [alive_sqrt1]); replace G := G.trans U; clear U)
    | (go_at_call 13; refine (len_any _ _ _ ⟨by decide, by decide⟩ ⟨by decide, by decide⟩).mono ?_; rintro e V ⟨rfl, U⟩; rw [alive_len]; replace G := G.trans U; clear U)
    | (go_at_call 14; refine (int_any _ _ (by decide) (by decide)).mono ?_; rintro e V ⟨rfl, U⟩; rw [alive_int]; replace G := G.trans U; clear U))
  go_ret
  exact ⟨rfl, G⟩
end Go.Proofs.Ytklgidjogicfbaa

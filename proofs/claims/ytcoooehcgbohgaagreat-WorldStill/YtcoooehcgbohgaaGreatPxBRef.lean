/-
  The document's own word on bodies (maquetteref1's Right, Speed, Light): what the plain functions say.
-/
import Derived.Test.YtcoooehcgbohgaaGreatPk03
import Derived.Test.YtcoooehcgbohgaaGreatPxVRef
namespace Go.Proofs.YtcoooehcgbohgaaGreat
open Go.RowKit

theorem two_val {r s : Int × Int} (h : (two r s).2.2 = 0) : (two r s).1 = r.1 ∧ (two r s).2.1 = s.1 := by
  obtain ⟨h1, h2⟩ := two_fst h
  rw [two_ok h1 h2]
  exact ⟨rfl, rfl⟩
def w1B (x k : Int) : Bool := decide (-(k * 4294967296) ≤ x ∧ x ≤ k * 4294967296)
theorem rside_any (a : Int) (w : World) :
    Calls Tryz.prog 11 #[.int .i64 a] w fun e w' => e = .returned (.bool (sideB a)) ∧ w' = w := by
  go_enter Tryz.func11, Tryz.ntmps11
  go_wp2
  all_goals
    go_ret
    exact ⟨ret_bool (by unfold sideB; rw [Bool.eq_iff_iff]; simp at *; omega), rfl⟩
theorem rwithin_any (x k : Int) (w : World) (k0 : 0 ≤ k) (k1 : k ≤ 1000000) :
    Calls Tryz.prog 12 #[.int .i64 x, .int .i64 k] w fun e w' => e = .returned (.bool (w1B x k)) ∧ w' = w := by
  go_enter Tryz.func12, Tryz.ntmps12
  go_wp2
  all_goals
    go_ret
    exact ⟨ret_bool (by unfold w1B; rw [Bool.eq_iff_iff]; simp at *; omega), rfl⟩

set_option maxHeartbeats 2000000 in
theorem ref_right (B : Bd) (w : World) :
    Calls Tryz.prog 5 #[B.val] w fun e w' => e = .returned (.bool (rightB B)) ∧ Grew w w' := by
  have hR := rightB_iff B
  obtain ⟨r, hr⟩ : ∃ r, rightB B = r := ⟨_, rfl⟩
  rw [hr] at hR ⊢
  have HR : Hid _ := hR
  clear hr hR
  unfold Bd.val
  have hq := eq_vec B.u B.v 0 0
  go_enter Tryz.func5, Tryz.ntmps5
  go_wp2_with (first
    | (go_at_call 11; refine (rside_any _ _).mono ?_; rintro e w' ⟨rfl, rfl⟩)
    | (go_at_call 12; refine (rwithin_any _ _ _ (by omega) (by omega)).mono ?_; rintro e w' ⟨rfl, rfl⟩))
  all_goals
    go_ret
    refine ⟨ret_bool ?_, (Grew.refl w).alloc _ _⟩
    have h0 := HR.out
    clear HR hq
    rw [Bool.eq_iff_iff, h0]
    clear h0
    simp [sideB, w1B] at *
    omega

end Go.Proofs.YtcoooehcgbohgaaGreat

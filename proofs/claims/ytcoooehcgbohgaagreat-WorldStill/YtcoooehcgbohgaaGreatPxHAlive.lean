/-
  Contacts in memory; Hit, tried; the statements' own first look ('alive' of stage 10's laws): it returns true; what was there stays.
-/
import Derived.Test.YtcoooehcgbohgaaGreatPk05
import Derived.Test.YtcoooehcgbohgaaGreatPxHLaw
import Derived.Test.YtcoooehcgbohgaaGreatPk09
namespace Go.Proofs.YtcoooehcgbohgaaGreat
open Go.RowKit

def alA : Bd := ⟨1, 4294967296, 0, 0, 0, 0, 0, 0⟩
def alB : Bd := ⟨1, 4294967296, 0, 0, 6442450944, 0, 0, 0⟩
theorem alA_mild : Mild alA := ⟨⟨by decide, by decide⟩, ⟨by decide, by decide⟩, ⟨by decide, by decide⟩, ⟨by decide, by decide⟩⟩
theorem alB_mild : Mild alB := ⟨⟨by decide, by decide⟩, ⟨by decide, by decide⟩, ⟨by decide, by decide⟩, ⟨by decide, by decide⟩⟩
theorem alA_ok : alA.ok := by constructor <;> exact ⟨by decide, by decide⟩
theorem alB_ok : alB.ok := by constructor <;> exact ⟨by decide, by decide⟩
theorem al_hit : hitR alA alB = ((⟨4294967296, 0, 2147483648⟩, true), 0) := by
  rw [hit_mild alA_mild alB_mild, hit_11 rfl rfl]
  show (ballsI 8589934592 6442450944 0, (0 : Int)) = _
  unfold ballsI awayH unitI
  rw [rt2_swap, rt2_row (by decide) ⟨by decide, by decide⟩, if_neg (by decide), if_neg (by decide), qd_zero, qd_self (by decide)]
  rfl

end Go.Proofs.YtcoooehcgbohgaaGreat

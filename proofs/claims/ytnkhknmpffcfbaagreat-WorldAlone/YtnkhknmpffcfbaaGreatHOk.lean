/-
  Plain numbers: what Hit answers are numbers of the language's own. Nothing is claimed here.
-/
import Derived.Test.YtnkhknmpffcfbaaGreatHTouch3
namespace Go.Proofs.YtnkhknmpffcfbaaGreat
open Go Go.RowKit

theorem ballsR_ok {A B : Bd} : (ballsR A B).1.1.ok := by
  have iD := two_in (subR_in B.p A.p) (subR_in B.q A.q)
  have iU := unitR_in iD.1 iD.2
  refine ifH_okH (ifH_okH (ifH_okH ?_))
  have iS : inF (sumR A.a B.a (unitR (gapV A B).1 (gapV A B).2.1).2.1).1 := behind_in (subR_in _ _)
  show (awayH _ _ _).1.ok
  unfold awayH
  split
  · exact contact_ok ⟨by decide, by decide⟩ inF0 iS
  · exact contact_ok iU.2.1 iU.2.2 iS
theorem flipR_ok {h : Ht} (o : h.ok) : (flipR h).1.ok := by
  unfold flipR
  split
  · exact ⟨subR_in _ _, subR_in _ _, o.d⟩
  · exact ⟨inF0, inF0, inF0⟩
theorem hitR_ok (A B : Bd) : (hitR A B).1.1.ok := by
  unfold hitR
  split
  · exact ballsR_ok
  split
  · exact crateR_ok
  split
  · exact ballR_ok
  split
  · exact ifH_okH (ifH_okH (flipR_ok ballR_ok))
  · exact none_okH
end Go.Proofs.YtnkhknmpffcfbaaGreat

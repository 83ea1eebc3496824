/-
  What package platter's Settle does at a platter that lies in memory.
-/
import Derived.Test.YtbkkhafckkndfaaGreatPxTStore
import Derived.Test.YtbkkhafckkndfaaGreatPxTBox
namespace Go.Proofs.YtbkkhafckkndfaaGreat
open Go Go.RowKit

theorem range_tail {w : World} {q o : Nat} {v : Value} {cs : List Value} (h : w.rangeAt q o (v :: cs)) : w.rangeAt q (o + 1) cs := fun j u hj => by
  have := h (j + 1) u hj
  rw [show o + (j + 1) = o + 1 + j by omega] at this
  exact this
theorem meas (m k : Nat) (h : k < m) (e : wrap64 ((k : Int) + 1) = (k : Int) + 1) : m - (intOf (Value.int IntKind.i64 (wrap64 ((k : Int) + 1)))).toNat < m - (intOf (Value.int IntKind.i64 (k : Int))).toNat := by
  rw [e]
  show m - ((k : Int) + 1).toNat < m - (k : Int).toNat
  omega
section
variable {w : World} {base b g1 c1 g2 c2 c3 : Nat} {a3 : Option Addr} {P : Pl}
end
end Go.Proofs.YtbkkhafckkndfaaGreat

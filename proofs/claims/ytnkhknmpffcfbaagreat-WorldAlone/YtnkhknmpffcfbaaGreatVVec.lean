/-
  A place as a value. Nothing is claimed here.
-/
import Derived.Test.YtnkhknmpffcfbaaGreatNum
namespace Go.Proofs.YtnkhknmpffcfbaaGreat
open Go Go.RowKit

/-- A place as the code has it. -/
def vec (x y : Int) : Value := .agg #[.int .i64 x, .int .i64 y]
end Go.Proofs.YtnkhknmpffcfbaaGreat

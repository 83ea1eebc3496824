/-
  A place as a value. Nothing is claimed here.
-/
import Derived.Test.YtjnokjoaphmfkaaNum
namespace Go.Proofs.Ytjnokjoaphmfkaa
open Go Go.RowKit

/-- A place as the code has it. -/
def vec (x y : Int) : Value := .agg #[.int .i64 x, .int .i64 y]
end Go.Proofs.Ytjnokjoaphmfkaa

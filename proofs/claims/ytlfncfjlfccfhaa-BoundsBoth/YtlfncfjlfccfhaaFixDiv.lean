/-
  What fix.Div does: for whatever int64s it returns what the plain function of the Num text says; the world is as it was but for answers drawn.
-/
import Derived.Test.YtlfncfjlfccfhaaDiv
namespace Go.Proofs.Ytlfncfjlfccfhaa
open Go.RowKit

end Go.Proofs.Ytlfncfjlfccfhaa

/-
  Nothing is laid here: this program calls no strings.Clone.
-/
import Derived.Lib.Agree
namespace Go.Proofs.Ytbkkhafckkndfab
end Go.Proofs.Ytbkkhafckkndfab

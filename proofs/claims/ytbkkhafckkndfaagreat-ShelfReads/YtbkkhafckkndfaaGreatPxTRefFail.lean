/-
  The document's own platter: its Fail.
-/
import Derived.Test.YtbkkhafckkndfaaGreatPxTRefSettle
import Derived.Test.YtbkkhafckkndfaaGreatPxTAlive
import Derived.Deep.CutRange
namespace Go.Proofs.YtbkkhafckkndfaaGreat
open Go Go.RowKit

theorem Cuts.later {S : Nat → Prop} {w W : World} {a : Option Addr} {l : List Int} (h : Cuts w a l) (G : But S w W) (hS : ∀ z off, a = some ⟨z, off, none⟩ → ¬ S z) : Cuts W a l := h.but G (fun z off e _ => hS z off e)
section
variable {w : World} {base b c1 c2 : Nat} {a1 a2 : Option Addr} {R : Rp}
end
end Go.Proofs.YtbkkhafckkndfaaGreat

/-
  A region that draws its order, whose own operations only read and whose calls only grow the world, walked once, in the order of the text: the library's quiet walk at the class 'Grew M', its remainder shut in a box. Nothing of the program is in sight.
-/
import Derived.Test.YtjcocmoidboamaaCWorld
import Derived.Deep.Quiet
import Derived.BigQuiet
namespace Go.Proofs.Ytjcocmoidboamaa
open Go Go.RowKit

/-- A sentence that no reduction looks into. -/
structure Kept (p : Prop) : Prop where
  out : p
section
variable {P : Program} {ops : Array Oper} {M : World} {Q : Act → Prop} {a : Act} {o : Oper} {rest : List Oper}
theorem kept_region {id : Nat} {R : Exit → Act → World → Prop} {a : Act} (M : World) (hm : P.follows .mixedOrders = true) (hB : Region.lexB .any ops = true)
    (h : Kept (wpQuiet P ops (fun w' => Grew M w') (fun a' => ∀ w', Grew M w' → R .normal a' w') ops.toList a)) : (Code.region id ops true).wp P R a M :=
  wp_region_quiet (C := fun w' => Grew M w') hm hB (Grew.refl M).drew h.out
theorem kept_want (v : Value) (hw : Region.wanted o (yielded ops a.tmps) = true) (h1 : ∀ w', Grew M w' → o.quietAt P a (fun w' => Grew M w') w' v)
    (h2 : Kept (wpQuiet P ops (fun w' => Grew M w') Q rest (a.put o.dst v))) : Kept (wpQuiet P ops (fun w' => Grew M w') Q (o :: rest) a) :=
  ⟨BigFrame.wpQuiet_want hw fun _ hK => ⟨v, h1, hK _ h2.out⟩⟩
theorem kept_skip (hw : Region.wanted o (yielded ops a.tmps) = false) (h : Kept (wpQuiet P ops (fun w' => Grew M w') Q rest (a.put o.dst undef))) : Kept (wpQuiet P ops (fun w' => Grew M w') Q (o :: rest) a) :=
  ⟨BigFrame.wpQuiet_skip hw h.out⟩
theorem kept_nil (h : Q a) : Kept (wpQuiet P ops (fun w' => Grew M w') Q [] a) := ⟨h⟩
end
end Go.Proofs.Ytjcocmoidboamaa

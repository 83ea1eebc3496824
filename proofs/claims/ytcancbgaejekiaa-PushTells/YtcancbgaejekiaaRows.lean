/-
  No cell of these rows narrows 'for every input' (looked for: loops, veiled, ifaces, maps, wideKeys, modest, calm, conditions, laid).
  DERIVED. THE GIVEN ROWS OF THIS SEAT. 6 by the template 'for every input the law returns true; each argument reads behind the call as it read before'; 0 by the template 'total and deterministic' (their statements: YtcancbgaejekiaaTotals.lean).
  GIVEN WITH THE SEED: the statements are not yours to turn. If you find one false, say at which input.
  Laid BY PROGRAM, IN A SANDBOX (cutbox-rows.mjs): the forced cells as the released guide's own fill.sh prints them over the translation e732e9e1307260cd… (all of the seat's roots in one cut). By AI agents, Wed Nov 11 2026. No macro, syntax, notation, axiom, sorry.
-/
import Derived.Test.YtcancbgaejekiaaChecked
import GoSem.Claim
import GoSem.ClaimJoined
import GoSem.ClaimMapViews
import Derived.JoinedTies
import Derived.KernelRfl
namespace Go.Proofs.Ytcancbgaejekiaa
/- THE CELL 'sum', in the pinned program and in every row, IS THE sha256 OF THE DUMP (.gsa) THAT YtcancbgaejekiaaProg.lean LOADS. Nothing in Lean hashes anything: it is a label: what it is worth is what the hold of that sum in a sandbox is worth. -/
noncomputable def Try.pinned : Pinned := { name := "ytcancbgaejekiaa", sum := "e732e9e1307260cdfbf023250dd4872e1d666a6dca618702e86d6ced127d96cf", checked := Try.checked }
namespace Rows
def none {H : Type} : Left H := { results := [], args := [] }

/-- 'maquettelaw11.PushTells': WHATEVER THE INPUT: true; the input reads as it did. -/
def pushTellsSpec : ChangeSpec := { name := "pushTells", fn := fun _ => fun
  | [d1, d2, d3, d4, d5] => { results := [.lit (.bool true)], args := [d1, d2, d3, d4, d5] }
  | _ => none }
def pushTellsRow : OpenClaim := { program := "ytcancbgaejekiaa", sum := "e732e9e1307260cdfbf023250dd4872e1d666a6dca618702e86d6ced127d96cf", func := "maquette/maquettelaw11.PushTells", spec := "pushTells", inPlace := ["math/bits.Add64"], unfollowed := true, recurses := true, named := ["math/bits.divideError", "math/bits.overflowError"], apart := false }
def PushTellsSaid : Prop := pushTellsRow.holds Try.pinned (OpenSpec.ofChange pushTellsSpec)

/-- ITS FALSE NEIGHBOUR: 'it returns false'. Refute it at one input. -/
def pushTellsWrong : ChangeSpec := { name := "pushTells", fn := fun _ => fun
  | [d1, d2, d3, d4, d5] => { results := [.lit (.bool false)], args := [d1, d2, d3, d4, d5] }
  | _ => none }
def PushTellsWrongFalsely : Prop := pushTellsRow.holds Try.pinned (OpenSpec.ofChange pushTellsWrong)

/-- 'maquettelaw11.PushKeeps': WHATEVER THE INPUT: true; the input reads as it did. -/
def pushKeepsSpec : ChangeSpec := { name := "pushKeeps", fn := fun _ => fun
  | [d1, d2, d3, d4, d5] => { results := [.lit (.bool true)], args := [d1, d2, d3, d4, d5] }
  | _ => none }
def pushKeepsRow : OpenClaim := { program := "ytcancbgaejekiaa", sum := "e732e9e1307260cdfbf023250dd4872e1d666a6dca618702e86d6ced127d96cf", func := "maquette/maquettelaw11.PushKeeps", spec := "pushKeeps", inPlace := ["math/bits.Add64"], unfollowed := true, recurses := true, named := ["math/bits.divideError", "math/bits.overflowError"], apart := false }
def PushKeepsSaid : Prop := pushKeepsRow.holds Try.pinned (OpenSpec.ofChange pushKeepsSpec)

/-- ITS FALSE NEIGHBOUR: 'it returns false'. Refute it at one input. -/
def pushKeepsWrong : ChangeSpec := { name := "pushKeeps", fn := fun _ => fun
  | [d1, d2, d3, d4, d5] => { results := [.lit (.bool false)], args := [d1, d2, d3, d4, d5] }
  | _ => none }
def PushKeepsWrongFalsely : Prop := pushKeepsRow.holds Try.pinned (OpenSpec.ofChange pushKeepsWrong)

/-- 'maquettelaw11.PushApart': WHATEVER THE INPUT: true; the input reads as it did. -/
def pushApartSpec : ChangeSpec := { name := "pushApart", fn := fun _ => fun
  | [d1, d2, d3] => { results := [.lit (.bool true)], args := [d1, d2, d3] }
  | _ => none }
def pushApartRow : OpenClaim := { program := "ytcancbgaejekiaa", sum := "e732e9e1307260cdfbf023250dd4872e1d666a6dca618702e86d6ced127d96cf", func := "maquette/maquettelaw11.PushApart", spec := "pushApart", unfollowed := true, recurses := true, named := ["math/bits.divideError", "math/bits.overflowError"], apart := false }
def PushApartSaid : Prop := pushApartRow.holds Try.pinned (OpenSpec.ofChange pushApartSpec)

/-- ITS FALSE NEIGHBOUR: 'it returns false'. Refute it at one input. -/
def pushApartWrong : ChangeSpec := { name := "pushApart", fn := fun _ => fun
  | [d1, d2, d3] => { results := [.lit (.bool false)], args := [d1, d2, d3] }
  | _ => none }
def PushApartWrongFalsely : Prop := pushApartRow.holds Try.pinned (OpenSpec.ofChange pushApartWrong)

/-- 'maquettelaw11.PushFixed': WHATEVER THE INPUT: true; the input reads as it did. -/
def pushFixedSpec : ChangeSpec := { name := "pushFixed", fn := fun _ => fun
  | [d1, d2, d3, d4] => { results := [.lit (.bool true)], args := [d1, d2, d3, d4] }
  | _ => none }
def pushFixedRow : OpenClaim := { program := "ytcancbgaejekiaa", sum := "e732e9e1307260cdfbf023250dd4872e1d666a6dca618702e86d6ced127d96cf", func := "maquette/maquettelaw11.PushFixed", spec := "pushFixed", inPlace := ["math/bits.Add64"], unfollowed := true, recurses := true, named := ["math/bits.divideError", "math/bits.overflowError"], apart := false }
def PushFixedSaid : Prop := pushFixedRow.holds Try.pinned (OpenSpec.ofChange pushFixedSpec)

/-- ITS FALSE NEIGHBOUR: 'it returns false'. Refute it at one input. -/
def pushFixedWrong : ChangeSpec := { name := "pushFixed", fn := fun _ => fun
  | [d1, d2, d3, d4] => { results := [.lit (.bool false)], args := [d1, d2, d3, d4] }
  | _ => none }
def PushFixedWrongFalsely : Prop := pushFixedRow.holds Try.pinned (OpenSpec.ofChange pushFixedWrong)

/-- 'maquettelaw11.PushNothing': WHATEVER THE INPUT: true; the input reads as it did. -/
def pushNothingSpec : ChangeSpec := { name := "pushNothing", fn := fun _ => fun
  | [d1, d2, d3] => { results := [.lit (.bool true)], args := [d1, d2, d3] }
  | _ => none }
def pushNothingRow : OpenClaim := { program := "ytcancbgaejekiaa", sum := "e732e9e1307260cdfbf023250dd4872e1d666a6dca618702e86d6ced127d96cf", func := "maquette/maquettelaw11.PushNothing", spec := "pushNothing", inPlace := ["math/bits.Add64"], unfollowed := true, recurses := true, named := ["math/bits.divideError", "math/bits.overflowError"], apart := false }
def PushNothingSaid : Prop := pushNothingRow.holds Try.pinned (OpenSpec.ofChange pushNothingSpec)

/-- ITS FALSE NEIGHBOUR: 'it returns false'. Refute it at one input. -/
def pushNothingWrong : ChangeSpec := { name := "pushNothing", fn := fun _ => fun
  | [d1, d2, d3] => { results := [.lit (.bool false)], args := [d1, d2, d3] }
  | _ => none }
def PushNothingWrongFalsely : Prop := pushNothingRow.holds Try.pinned (OpenSpec.ofChange pushNothingWrong)

/-- 'maquettelaw11.PushPulls': WHATEVER THE INPUT: true; the input reads as it did. -/
def pushPullsSpec : ChangeSpec := { name := "pushPulls", fn := fun _ => fun
  | [d1, d2] => { results := [.lit (.bool true)], args := [d1, d2] }
  | _ => none }
def pushPullsRow : OpenClaim := { program := "ytcancbgaejekiaa", sum := "e732e9e1307260cdfbf023250dd4872e1d666a6dca618702e86d6ced127d96cf", func := "maquette/maquettelaw11.PushPulls", spec := "pushPulls", inPlace := ["math/bits.Add64"], unfollowed := true, recurses := true, named := ["math/bits.divideError", "math/bits.overflowError"], apart := false }
def PushPullsSaid : Prop := pushPullsRow.holds Try.pinned (OpenSpec.ofChange pushPullsSpec)

/-- ITS FALSE NEIGHBOUR: 'it returns false'. Refute it at one input. -/
def pushPullsWrong : ChangeSpec := { name := "pushPulls", fn := fun _ => fun
  | [d1, d2] => { results := [.lit (.bool false)], args := [d1, d2] }
  | _ => none }
def PushPullsWrongFalsely : Prop := pushPullsRow.holds Try.pinned (OpenSpec.ofChange pushPullsWrong)

/- THE SECOND FORM. 'bulk': how many values and letters a reading holds, each counted each time it is reached (what is shared counts as often as it is met; a slice's spare places count too). A statement '..UptoSaid' is the law's where the arguments, and the package variables that the reading takes, are together of bulk at most 1048576: NARROWER than '..Said'. Prove '..Said' where nothing that the law and all that it calls make is longer than what came in: it says more and counts as full. Else prove '..UptoSaid'. A law counts once. -/
mutual
def uptoBulk {H : Type} : DataW H → Nat
  | .lit (.string bytes) => bytes.length + 1
  | .lit _ => 1
  | .nil => 1
  | .ptr d => uptoBulk d + 1
  | .slice elems spare => uptoBulkAll elems + uptoBulkAll spare + 1
  | .agg parts => uptoBulkAll parts + 1
  | .iface _ d => uptoBulk d + 1
  | .map entries => uptoBulkEntries entries + 1
  | .held _ => 1
def uptoBulkAll {H : Type} : List (DataW H) → Nat
  | [] => 0
  | d :: r => uptoBulk d + uptoBulkAll r
def uptoBulkEntries {H : Type} : List (Lit × DataW H) → Nat
  | [] => 0
  | x :: r => uptoBulkEntry x + uptoBulkEntries r
def uptoBulkEntry {H : Type} : Lit × DataW H → Nat
  | (.string bytes, d) => bytes.length + uptoBulk d + 1
  | (_, d) => uptoBulk d + 1
 end
def uptoSmall : (H : Type) → List (DataW H) → Bool := fun _ ds => decide (uptoBulkAll ds ≤ 1048576)
def OpenSpec.upto (s : _root_.Go.ChangeSpec) : _root_.Go.OpenSpec := { _root_.Go.OpenSpec.ofChange s with cond := some uptoSmall }

/-- 'maquettelaw11.PushTells', WHERE WHAT IT READS IS OF BULK AT MOST 1048576: true; the input reads as it did. -/
def pushTellsUptoRow : OpenClaim := { program := "ytcancbgaejekiaa", sum := "e732e9e1307260cdfbf023250dd4872e1d666a6dca618702e86d6ced127d96cf", func := "maquette/maquettelaw11.PushTells", spec := "pushTells", inPlace := ["math/bits.Add64"], unfollowed := true, recurses := true, named := ["math/bits.divideError", "math/bits.overflowError"], apart := false, narrowed := true }
def PushTellsUptoSaid : Prop := pushTellsUptoRow.holds Try.pinned (OpenSpec.upto pushTellsSpec)

/-- 'maquettelaw11.PushKeeps', WHERE WHAT IT READS IS OF BULK AT MOST 1048576: true; the input reads as it did. -/
def pushKeepsUptoRow : OpenClaim := { program := "ytcancbgaejekiaa", sum := "e732e9e1307260cdfbf023250dd4872e1d666a6dca618702e86d6ced127d96cf", func := "maquette/maquettelaw11.PushKeeps", spec := "pushKeeps", inPlace := ["math/bits.Add64"], unfollowed := true, recurses := true, named := ["math/bits.divideError", "math/bits.overflowError"], apart := false, narrowed := true }
def PushKeepsUptoSaid : Prop := pushKeepsUptoRow.holds Try.pinned (OpenSpec.upto pushKeepsSpec)

/-- 'maquettelaw11.PushApart', WHERE WHAT IT READS IS OF BULK AT MOST 1048576: true; the input reads as it did. -/
def pushApartUptoRow : OpenClaim := { program := "ytcancbgaejekiaa", sum := "e732e9e1307260cdfbf023250dd4872e1d666a6dca618702e86d6ced127d96cf", func := "maquette/maquettelaw11.PushApart", spec := "pushApart", unfollowed := true, recurses := true, named := ["math/bits.divideError", "math/bits.overflowError"], apart := false, narrowed := true }
def PushApartUptoSaid : Prop := pushApartUptoRow.holds Try.pinned (OpenSpec.upto pushApartSpec)

/-- 'maquettelaw11.PushFixed', WHERE WHAT IT READS IS OF BULK AT MOST 1048576: true; the input reads as it did. -/
def pushFixedUptoRow : OpenClaim := { program := "ytcancbgaejekiaa", sum := "e732e9e1307260cdfbf023250dd4872e1d666a6dca618702e86d6ced127d96cf", func := "maquette/maquettelaw11.PushFixed", spec := "pushFixed", inPlace := ["math/bits.Add64"], unfollowed := true, recurses := true, named := ["math/bits.divideError", "math/bits.overflowError"], apart := false, narrowed := true }
def PushFixedUptoSaid : Prop := pushFixedUptoRow.holds Try.pinned (OpenSpec.upto pushFixedSpec)

/-- 'maquettelaw11.PushNothing', WHERE WHAT IT READS IS OF BULK AT MOST 1048576: true; the input reads as it did. -/
def pushNothingUptoRow : OpenClaim := { program := "ytcancbgaejekiaa", sum := "e732e9e1307260cdfbf023250dd4872e1d666a6dca618702e86d6ced127d96cf", func := "maquette/maquettelaw11.PushNothing", spec := "pushNothing", inPlace := ["math/bits.Add64"], unfollowed := true, recurses := true, named := ["math/bits.divideError", "math/bits.overflowError"], apart := false, narrowed := true }
def PushNothingUptoSaid : Prop := pushNothingUptoRow.holds Try.pinned (OpenSpec.upto pushNothingSpec)

/-- 'maquettelaw11.PushPulls', WHERE WHAT IT READS IS OF BULK AT MOST 1048576: true; the input reads as it did. -/
def pushPullsUptoRow : OpenClaim := { program := "ytcancbgaejekiaa", sum := "e732e9e1307260cdfbf023250dd4872e1d666a6dca618702e86d6ced127d96cf", func := "maquette/maquettelaw11.PushPulls", spec := "pushPulls", inPlace := ["math/bits.Add64"], unfollowed := true, recurses := true, named := ["math/bits.divideError", "math/bits.overflowError"], apart := false, narrowed := true }
def PushPullsUptoSaid : Prop := pushPullsUptoRow.holds Try.pinned (OpenSpec.upto pushPullsSpec)

end Rows
end Go.Proofs.Ytcancbgaejekiaa

/-
  No cell of these rows narrows 'for every input' (looked for: loops, veiled, ifaces, maps, wideKeys, modest, calm, conditions, laid).
  DERIVED. THE GIVEN ROWS OF THIS SEAT. 6 by the template 'for every input the law returns true; each argument reads behind the call as it read before'; 0 by the template 'total and deterministic' (their statements: YtklgidjogicfbaaTotals.lean).
  GIVEN WITH THE SEED: the statements are not yours to turn. If you find one false, say at which input.
  Laid BY PROGRAM, IN A SANDBOX (cutbox-rows.mjs): the forced cells as the released guide's own fill.sh prints them over the translation 1bb2b36c356069f5… (all of the seat's roots in one cut). By AI agents, Wed Nov 11 2026. No macro, syntax, notation, axiom, sorry.
-/
import Derived.Test.YtklgidjogicfbaaChecked
import GoSem.Claim
import GoSem.ClaimJoined
import GoSem.ClaimMapViews
import Derived.JoinedTies
import Derived.KernelRfl
namespace Go.Proofs.Ytklgidjogicfbaa
/- THE CELL 'sum', in the pinned program and in every row, IS THE sha256 OF THE DUMP (.gsa) THAT YtklgidjogicfbaaProg.lean LOADS. Nothing in Lean hashes anything: it is a label: what it is worth is what the hold of that sum in a sandbox is worth. -/
noncomputable def Try.pinned : Pinned := { name := "ytklgidjogicfbaa", sum := "1bb2b36c356069f5498855cdc588678760bc17cdc4401d137690f21b3438968c", checked := Try.checked }
namespace Rows
def none {H : Type} : Left H := { results := [], args := [] }

/-- 'maquettelaw4.RootTells': WHATEVER THE INPUT: true; the input reads as it did. -/
def rootTellsSpec : ChangeSpec := { name := "rootTells", fn := fun _ => fun
  | [d1, d2, d3] => { results := [.lit (.bool true)], args := [d1, d2, d3] }
  | _ => none }
def rootTellsRow : OpenClaim := { program := "ytklgidjogicfbaa", sum := "1bb2b36c356069f5498855cdc588678760bc17cdc4401d137690f21b3438968c", func := "maquette/maquettelaw4.RootTells", spec := "rootTells", inPlace := ["math/bits.Add64"], apart := false }
def RootTellsSaid : Prop := rootTellsRow.holds Try.pinned (OpenSpec.ofChange rootTellsSpec)

/-- ITS FALSE NEIGHBOUR: 'it returns false'. Refute it at one input. -/
def rootTellsWrong : ChangeSpec := { name := "rootTells", fn := fun _ => fun
  | [d1, d2, d3] => { results := [.lit (.bool false)], args := [d1, d2, d3] }
  | _ => none }
def RootTellsWrongFalsely : Prop := rootTellsRow.holds Try.pinned (OpenSpec.ofChange rootTellsWrong)

/-- 'maquettelaw4.RootSquares': WHATEVER THE INPUT: true; the input reads as it did. -/
def rootSquaresSpec : ChangeSpec := { name := "rootSquares", fn := fun _ => fun
  | [d1, d2] => { results := [.lit (.bool true)], args := [d1, d2] }
  | _ => none }
def rootSquaresRow : OpenClaim := { program := "ytklgidjogicfbaa", sum := "1bb2b36c356069f5498855cdc588678760bc17cdc4401d137690f21b3438968c", func := "maquette/maquettelaw4.RootSquares", spec := "rootSquares", inPlace := ["math/bits.Add64"], apart := false }
def RootSquaresSaid : Prop := rootSquaresRow.holds Try.pinned (OpenSpec.ofChange rootSquaresSpec)

/-- ITS FALSE NEIGHBOUR: 'it returns false'. Refute it at one input. -/
def rootSquaresWrong : ChangeSpec := { name := "rootSquares", fn := fun _ => fun
  | [d1, d2] => { results := [.lit (.bool false)], args := [d1, d2] }
  | _ => none }
def RootSquaresWrongFalsely : Prop := rootSquaresRow.holds Try.pinned (OpenSpec.ofChange rootSquaresWrong)

/-- 'maquettelaw4.RootLengths': WHATEVER THE INPUT: true; the input reads as it did. -/
def rootLengthsSpec : ChangeSpec := { name := "rootLengths", fn := fun _ => fun
  | [d1, d2] => { results := [.lit (.bool true)], args := [d1, d2] }
  | _ => none }
def rootLengthsRow : OpenClaim := { program := "ytklgidjogicfbaa", sum := "1bb2b36c356069f5498855cdc588678760bc17cdc4401d137690f21b3438968c", func := "maquette/maquettelaw4.RootLengths", spec := "rootLengths", inPlace := ["math/bits.Add64"], apart := false }
def RootLengthsSaid : Prop := rootLengthsRow.holds Try.pinned (OpenSpec.ofChange rootLengthsSpec)

/-- ITS FALSE NEIGHBOUR: 'it returns false'. Refute it at one input. -/
def rootLengthsWrong : ChangeSpec := { name := "rootLengths", fn := fun _ => fun
  | [d1, d2] => { results := [.lit (.bool false)], args := [d1, d2] }
  | _ => none }
def RootLengthsWrongFalsely : Prop := rootLengthsRow.holds Try.pinned (OpenSpec.ofChange rootLengthsWrong)

/-- 'maquettelaw4.RootRises': WHATEVER THE INPUT: true; the input reads as it did. -/
def rootRisesSpec : ChangeSpec := { name := "rootRises", fn := fun _ => fun
  | [d1, d2, d3] => { results := [.lit (.bool true)], args := [d1, d2, d3] }
  | _ => none }
def rootRisesRow : OpenClaim := { program := "ytklgidjogicfbaa", sum := "1bb2b36c356069f5498855cdc588678760bc17cdc4401d137690f21b3438968c", func := "maquette/maquettelaw4.RootRises", spec := "rootRises", inPlace := ["math/bits.Add64"], apart := false }
def RootRisesSaid : Prop := rootRisesRow.holds Try.pinned (OpenSpec.ofChange rootRisesSpec)

/-- ITS FALSE NEIGHBOUR: 'it returns false'. Refute it at one input. -/
def rootRisesWrong : ChangeSpec := { name := "rootRises", fn := fun _ => fun
  | [d1, d2, d3] => { results := [.lit (.bool false)], args := [d1, d2, d3] }
  | _ => none }
def RootRisesWrongFalsely : Prop := rootRisesRow.holds Try.pinned (OpenSpec.ofChange rootRisesWrong)

/-- 'maquettelaw4.RootSides': WHATEVER THE INPUT: true; the input reads as it did. -/
def rootSidesSpec : ChangeSpec := { name := "rootSides", fn := fun _ => fun
  | [d1, d2] => { results := [.lit (.bool true)], args := [d1, d2] }
  | _ => none }
def rootSidesRow : OpenClaim := { program := "ytklgidjogicfbaa", sum := "1bb2b36c356069f5498855cdc588678760bc17cdc4401d137690f21b3438968c", func := "maquette/maquettelaw4.RootSides", spec := "rootSides", inPlace := ["math/bits.Add64"], apart := false }
def RootSidesSaid : Prop := rootSidesRow.holds Try.pinned (OpenSpec.ofChange rootSidesSpec)

/-- ITS FALSE NEIGHBOUR: 'it returns false'. Refute it at one input. -/
def rootSidesWrong : ChangeSpec := { name := "rootSides", fn := fun _ => fun
  | [d1, d2] => { results := [.lit (.bool false)], args := [d1, d2] }
  | _ => none }
def RootSidesWrongFalsely : Prop := rootSidesRow.holds Try.pinned (OpenSpec.ofChange rootSidesWrong)

/-- 'maquettelaw4.RootScales': WHATEVER THE INPUT: true; the input reads as it did. -/
def rootScalesSpec : ChangeSpec := { name := "rootScales", fn := fun _ => fun
  | [d] => { results := [.lit (.bool true)], args := [d] }
  | _ => none }
def rootScalesRow : OpenClaim := { program := "ytklgidjogicfbaa", sum := "1bb2b36c356069f5498855cdc588678760bc17cdc4401d137690f21b3438968c", func := "maquette/maquettelaw4.RootScales", spec := "rootScales", inPlace := ["math/bits.Add64"], apart := false }
def RootScalesSaid : Prop := rootScalesRow.holds Try.pinned (OpenSpec.ofChange rootScalesSpec)

/-- ITS FALSE NEIGHBOUR: 'it returns false'. Refute it at one input. -/
def rootScalesWrong : ChangeSpec := { name := "rootScales", fn := fun _ => fun
  | [d] => { results := [.lit (.bool false)], args := [d] }
  | _ => none }
def RootScalesWrongFalsely : Prop := rootScalesRow.holds Try.pinned (OpenSpec.ofChange rootScalesWrong)

/- THE SECOND FORM. 'bulk': how many values and letters a reading holds, each counted each time it is reached (what is shared counts as often as it is met; a slice's spare places count too). A statement '..UptoSaid' is the law's where the arguments, and the package variables that the reading takes, are together of bulk at most 1048576: NARROWER than '..Said'. Prove '..Said' where nothing that the law and all that it calls make is longer than what came in: it says more and counts as full. Else prove '..UptoSaid'. A law counts once. -/
mutual
def uptoBulk {H : Type} : DataW H → Nat
  | .lit (.string bytes) => bytes.length + 1
  | .lit _ => 1
  | .nil => 1
  | .ptr d => uptoBulk d + 1
  | .slice elems spare => uptoBulkAll elems + uptoBulkAll spare + 1
  | .agg parts => uptoBulkAll parts + 1
  | .iface _ d => uptoBulk d + 1
  | .map entries => uptoBulkEntries entries + 1
  | .held _ => 1
def uptoBulkAll {H : Type} : List (DataW H) → Nat
  | [] => 0
  | d :: r => uptoBulk d + uptoBulkAll r
def uptoBulkEntries {H : Type} : List (Lit × DataW H) → Nat
  | [] => 0
  | x :: r => uptoBulkEntry x + uptoBulkEntries r
def uptoBulkEntry {H : Type} : Lit × DataW H → Nat
  | (.string bytes, d) => bytes.length + uptoBulk d + 1
  | (_, d) => uptoBulk d + 1
 end
def uptoSmall : (H : Type) → List (DataW H) → Bool := fun _ ds => decide (uptoBulkAll ds ≤ 1048576)
def OpenSpec.upto (s : _root_.Go.ChangeSpec) : _root_.Go.OpenSpec := { _root_.Go.OpenSpec.ofChange s with cond := some uptoSmall }

/-- 'maquettelaw4.RootTells', WHERE WHAT IT READS IS OF BULK AT MOST 1048576: true; the input reads as it did. -/
def rootTellsUptoRow : OpenClaim := { program := "ytklgidjogicfbaa", sum := "1bb2b36c356069f5498855cdc588678760bc17cdc4401d137690f21b3438968c", func := "maquette/maquettelaw4.RootTells", spec := "rootTells", inPlace := ["math/bits.Add64"], apart := false, narrowed := true }
def RootTellsUptoSaid : Prop := rootTellsUptoRow.holds Try.pinned (OpenSpec.upto rootTellsSpec)

/-- 'maquettelaw4.RootSquares', WHERE WHAT IT READS IS OF BULK AT MOST 1048576: true; the input reads as it did. -/
def rootSquaresUptoRow : OpenClaim := { program := "ytklgidjogicfbaa", sum := "1bb2b36c356069f5498855cdc588678760bc17cdc4401d137690f21b3438968c", func := "maquette/maquettelaw4.RootSquares", spec := "rootSquares", inPlace := ["math/bits.Add64"], apart := false, narrowed := true }
def RootSquaresUptoSaid : Prop := rootSquaresUptoRow.holds Try.pinned (OpenSpec.upto rootSquaresSpec)

/-- 'maquettelaw4.RootLengths', WHERE WHAT IT READS IS OF BULK AT MOST 1048576: true; the input reads as it did. -/
def rootLengthsUptoRow : OpenClaim := { program := "ytklgidjogicfbaa", sum := "1bb2b36c356069f5498855cdc588678760bc17cdc4401d137690f21b3438968c", func := "maquette/maquettelaw4.RootLengths", spec := "rootLengths", inPlace := ["math/bits.Add64"], apart := false, narrowed := true }
def RootLengthsUptoSaid : Prop := rootLengthsUptoRow.holds Try.pinned (OpenSpec.upto rootLengthsSpec)

/-- 'maquettelaw4.RootRises', WHERE WHAT IT READS IS OF BULK AT MOST 1048576: true; the input reads as it did. -/
def rootRisesUptoRow : OpenClaim := { program := "ytklgidjogicfbaa", sum := "1bb2b36c356069f5498855cdc588678760bc17cdc4401d137690f21b3438968c", func := "maquette/maquettelaw4.RootRises", spec := "rootRises", inPlace := ["math/bits.Add64"], apart := false, narrowed := true }
def RootRisesUptoSaid : Prop := rootRisesUptoRow.holds Try.pinned (OpenSpec.upto rootRisesSpec)

/-- 'maquettelaw4.RootSides', WHERE WHAT IT READS IS OF BULK AT MOST 1048576: true; the input reads as it did. -/
def rootSidesUptoRow : OpenClaim := { program := "ytklgidjogicfbaa", sum := "1bb2b36c356069f5498855cdc588678760bc17cdc4401d137690f21b3438968c", func := "maquette/maquettelaw4.RootSides", spec := "rootSides", inPlace := ["math/bits.Add64"], apart := false, narrowed := true }
def RootSidesUptoSaid : Prop := rootSidesUptoRow.holds Try.pinned (OpenSpec.upto rootSidesSpec)

/-- 'maquettelaw4.RootScales', WHERE WHAT IT READS IS OF BULK AT MOST 1048576: true; the input reads as it did. -/
def rootScalesUptoRow : OpenClaim := { program := "ytklgidjogicfbaa", sum := "1bb2b36c356069f5498855cdc588678760bc17cdc4401d137690f21b3438968c", func := "maquette/maquettelaw4.RootScales", spec := "rootScales", inPlace := ["math/bits.Add64"], apart := false, narrowed := true }
def RootScalesUptoSaid : Prop := rootScalesUptoRow.holds Try.pinned (OpenSpec.upto rootScalesSpec)

end Rows
end Go.Proofs.Ytklgidjogicfbaa

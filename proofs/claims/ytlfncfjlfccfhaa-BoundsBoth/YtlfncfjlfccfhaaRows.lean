/-
  No cell of these rows narrows 'for every input' (looked for: loops, veiled, ifaces, maps, wideKeys, modest, calm, conditions, laid).
  DERIVED. THE GIVEN ROWS OF THIS SEAT. 5 by the template 'for every input the law returns true; each argument reads behind the call as it read before'; 0 by the template 'total and deterministic' (their statements: YtlfncfjlfccfhaaTotals.lean).
  GIVEN WITH THE SEED: the statements are not yours to turn. If you find one false, say at which input.
  Laid BY PROGRAM, IN A SANDBOX (cutbox-rows.mjs): the forced cells as the released guide's own fill.sh prints them over the translation 5779308d5039cc5a… (all of the seat's roots in one cut). By AI agents, Wed Nov 11 2026. No macro, syntax, notation, axiom, sorry.
-/
import Derived.Test.YtlfncfjlfccfhaaChecked
import GoSem.Claim
import GoSem.ClaimJoined
import GoSem.ClaimMapViews
import Derived.JoinedTies
import Derived.KernelRfl
namespace Go.Proofs.Ytlfncfjlfccfhaa
/- THE CELL 'sum', in the pinned program and in every row, IS THE sha256 OF THE DUMP (.gsa) THAT YtlfncfjlfccfhaaProg.lean LOADS. Nothing in Lean hashes anything: it is a label: what it is worth is what the hold of that sum in a sandbox is worth. -/
noncomputable def Try.pinned : Pinned := { name := "ytlfncfjlfccfhaa", sum := "5779308d5039cc5aba3daf2e821ea3c18d392f9c9c8d787066ffe0af48f9e531", checked := Try.checked }
namespace Rows
def none {H : Type} : Left H := { results := [], args := [] }

/-- 'maquettelaw8.BoundsTells': WHATEVER THE INPUT: true; the input reads as it did. -/
def boundsTellsSpec : ChangeSpec := { name := "boundsTells", fn := fun _ => fun
  | [d1, d2, d3, d4] => { results := [.lit (.bool true)], args := [d1, d2, d3, d4] }
  | _ => none }
def boundsTellsRow : OpenClaim := { program := "ytlfncfjlfccfhaa", sum := "5779308d5039cc5aba3daf2e821ea3c18d392f9c9c8d787066ffe0af48f9e531", func := "maquette/maquettelaw8.BoundsTells", spec := "boundsTells", unfollowed := true, recurses := true, apart := false }
def BoundsTellsSaid : Prop := boundsTellsRow.holds Try.pinned (OpenSpec.ofChange boundsTellsSpec)

/-- ITS FALSE NEIGHBOUR: 'it returns false'. Refute it at one input. -/
def boundsTellsWrong : ChangeSpec := { name := "boundsTells", fn := fun _ => fun
  | [d1, d2, d3, d4] => { results := [.lit (.bool false)], args := [d1, d2, d3, d4] }
  | _ => none }
def BoundsTellsWrongFalsely : Prop := boundsTellsRow.holds Try.pinned (OpenSpec.ofChange boundsTellsWrong)

/-- 'maquettelaw8.BoundsMeet': WHATEVER THE INPUT: true; the input reads as it did. -/
def boundsMeetSpec : ChangeSpec := { name := "boundsMeet", fn := fun _ => fun
  | [d1, d2, d3] => { results := [.lit (.bool true)], args := [d1, d2, d3] }
  | _ => none }
def boundsMeetRow : OpenClaim := { program := "ytlfncfjlfccfhaa", sum := "5779308d5039cc5aba3daf2e821ea3c18d392f9c9c8d787066ffe0af48f9e531", func := "maquette/maquettelaw8.BoundsMeet", spec := "boundsMeet", unfollowed := true, recurses := true, apart := false }
def BoundsMeetSaid : Prop := boundsMeetRow.holds Try.pinned (OpenSpec.ofChange boundsMeetSpec)

/-- ITS FALSE NEIGHBOUR: 'it returns false'. Refute it at one input. -/
def boundsMeetWrong : ChangeSpec := { name := "boundsMeet", fn := fun _ => fun
  | [d1, d2, d3] => { results := [.lit (.bool false)], args := [d1, d2, d3] }
  | _ => none }
def BoundsMeetWrongFalsely : Prop := boundsMeetRow.holds Try.pinned (OpenSpec.ofChange boundsMeetWrong)

/-- 'maquettelaw8.BoundsBoth': WHATEVER THE INPUT: true; the input reads as it did. -/
def boundsBothSpec : ChangeSpec := { name := "boundsBoth", fn := fun _ => fun
  | [d1, d2, d3] => { results := [.lit (.bool true)], args := [d1, d2, d3] }
  | _ => none }
def boundsBothRow : OpenClaim := { program := "ytlfncfjlfccfhaa", sum := "5779308d5039cc5aba3daf2e821ea3c18d392f9c9c8d787066ffe0af48f9e531", func := "maquette/maquettelaw8.BoundsBoth", spec := "boundsBoth", unfollowed := true, recurses := true, apart := false }
def BoundsBothSaid : Prop := boundsBothRow.holds Try.pinned (OpenSpec.ofChange boundsBothSpec)

/-- ITS FALSE NEIGHBOUR: 'it returns false'. Refute it at one input. -/
def boundsBothWrong : ChangeSpec := { name := "boundsBoth", fn := fun _ => fun
  | [d1, d2, d3] => { results := [.lit (.bool false)], args := [d1, d2, d3] }
  | _ => none }
def BoundsBothWrongFalsely : Prop := boundsBothRow.holds Try.pinned (OpenSpec.ofChange boundsBothWrong)

/-- 'maquettelaw8.BoundsOf': WHATEVER THE INPUT: true; the input reads as it did. -/
def boundsOfSpec : ChangeSpec := { name := "boundsOf", fn := fun _ => fun
  | [d] => { results := [.lit (.bool true)], args := [d] }
  | _ => none }
def boundsOfRow : OpenClaim := { program := "ytlfncfjlfccfhaa", sum := "5779308d5039cc5aba3daf2e821ea3c18d392f9c9c8d787066ffe0af48f9e531", func := "maquette/maquettelaw8.BoundsOf", spec := "boundsOf", unfollowed := true, recurses := true, apart := false }
def BoundsOfSaid : Prop := boundsOfRow.holds Try.pinned (OpenSpec.ofChange boundsOfSpec)

/-- ITS FALSE NEIGHBOUR: 'it returns false'. Refute it at one input. -/
def boundsOfWrong : ChangeSpec := { name := "boundsOf", fn := fun _ => fun
  | [d] => { results := [.lit (.bool false)], args := [d] }
  | _ => none }
def BoundsOfWrongFalsely : Prop := boundsOfRow.holds Try.pinned (OpenSpec.ofChange boundsOfWrong)

/-- 'maquettelaw8.BoundsClamps': WHATEVER THE INPUT: true; the input reads as it did. -/
def boundsClampsSpec : ChangeSpec := { name := "boundsClamps", fn := fun _ => fun
  | [d1, d2, d3] => { results := [.lit (.bool true)], args := [d1, d2, d3] }
  | _ => none }
def boundsClampsRow : OpenClaim := { program := "ytlfncfjlfccfhaa", sum := "5779308d5039cc5aba3daf2e821ea3c18d392f9c9c8d787066ffe0af48f9e531", func := "maquette/maquettelaw8.BoundsClamps", spec := "boundsClamps", unfollowed := true, recurses := true, apart := false }
def BoundsClampsSaid : Prop := boundsClampsRow.holds Try.pinned (OpenSpec.ofChange boundsClampsSpec)

/-- ITS FALSE NEIGHBOUR: 'it returns false'. Refute it at one input. -/
def boundsClampsWrong : ChangeSpec := { name := "boundsClamps", fn := fun _ => fun
  | [d1, d2, d3] => { results := [.lit (.bool false)], args := [d1, d2, d3] }
  | _ => none }
def BoundsClampsWrongFalsely : Prop := boundsClampsRow.holds Try.pinned (OpenSpec.ofChange boundsClampsWrong)

/- THE SECOND FORM. 'bulk': how many values and letters a reading holds, each counted each time it is reached (what is shared counts as often as it is met; a slice's spare places count too). A statement '..UptoSaid' is the law's where the arguments, and the package variables that the reading takes, are together of bulk at most 1048576: NARROWER than '..Said'. Prove '..Said' where nothing that the law and all that it calls make is longer than what came in: it says more and counts as full. Else prove '..UptoSaid'. A law counts once. -/
mutual
def uptoBulk {H : Type} : DataW H → Nat
  | .lit (.string bytes) => bytes.length + 1
  | .lit _ => 1
  | .nil => 1
  | .ptr d => uptoBulk d + 1
  | .slice elems spare => uptoBulkAll elems + uptoBulkAll spare + 1
  | .agg parts => uptoBulkAll parts + 1
  | .iface _ d => uptoBulk d + 1
  | .map entries => uptoBulkEntries entries + 1
  | .held _ => 1
def uptoBulkAll {H : Type} : List (DataW H) → Nat
  | [] => 0
  | d :: r => uptoBulk d + uptoBulkAll r
def uptoBulkEntries {H : Type} : List (Lit × DataW H) → Nat
  | [] => 0
  | x :: r => uptoBulkEntry x + uptoBulkEntries r
def uptoBulkEntry {H : Type} : Lit × DataW H → Nat
  | (.string bytes, d) => bytes.length + uptoBulk d + 1
  | (_, d) => uptoBulk d + 1
 end
def uptoSmall : (H : Type) → List (DataW H) → Bool := fun _ ds => decide (uptoBulkAll ds ≤ 1048576)
def OpenSpec.upto (s : _root_.Go.ChangeSpec) : _root_.Go.OpenSpec := { _root_.Go.OpenSpec.ofChange s with cond := some uptoSmall }

/-- 'maquettelaw8.BoundsTells', WHERE WHAT IT READS IS OF BULK AT MOST 1048576: true; the input reads as it did. -/
def boundsTellsUptoRow : OpenClaim := { program := "ytlfncfjlfccfhaa", sum := "5779308d5039cc5aba3daf2e821ea3c18d392f9c9c8d787066ffe0af48f9e531", func := "maquette/maquettelaw8.BoundsTells", spec := "boundsTells", unfollowed := true, recurses := true, apart := false, narrowed := true }
def BoundsTellsUptoSaid : Prop := boundsTellsUptoRow.holds Try.pinned (OpenSpec.upto boundsTellsSpec)

/-- 'maquettelaw8.BoundsMeet', WHERE WHAT IT READS IS OF BULK AT MOST 1048576: true; the input reads as it did. -/
def boundsMeetUptoRow : OpenClaim := { program := "ytlfncfjlfccfhaa", sum := "5779308d5039cc5aba3daf2e821ea3c18d392f9c9c8d787066ffe0af48f9e531", func := "maquette/maquettelaw8.BoundsMeet", spec := "boundsMeet", unfollowed := true, recurses := true, apart := false, narrowed := true }
def BoundsMeetUptoSaid : Prop := boundsMeetUptoRow.holds Try.pinned (OpenSpec.upto boundsMeetSpec)

/-- 'maquettelaw8.BoundsBoth', WHERE WHAT IT READS IS OF BULK AT MOST 1048576: true; the input reads as it did. -/
def boundsBothUptoRow : OpenClaim := { program := "ytlfncfjlfccfhaa", sum := "5779308d5039cc5aba3daf2e821ea3c18d392f9c9c8d787066ffe0af48f9e531", func := "maquette/maquettelaw8.BoundsBoth", spec := "boundsBoth", unfollowed := true, recurses := true, apart := false, narrowed := true }
def BoundsBothUptoSaid : Prop := boundsBothUptoRow.holds Try.pinned (OpenSpec.upto boundsBothSpec)

/-- 'maquettelaw8.BoundsOf', WHERE WHAT IT READS IS OF BULK AT MOST 1048576: true; the input reads as it did. -/
def boundsOfUptoRow : OpenClaim := { program := "ytlfncfjlfccfhaa", sum := "5779308d5039cc5aba3daf2e821ea3c18d392f9c9c8d787066ffe0af48f9e531", func := "maquette/maquettelaw8.BoundsOf", spec := "boundsOf", unfollowed := true, recurses := true, apart := false, narrowed := true }
def BoundsOfUptoSaid : Prop := boundsOfUptoRow.holds Try.pinned (OpenSpec.upto boundsOfSpec)

/-- 'maquettelaw8.BoundsClamps', WHERE WHAT IT READS IS OF BULK AT MOST 1048576: true; the input reads as it did. -/
def boundsClampsUptoRow : OpenClaim := { program := "ytlfncfjlfccfhaa", sum := "5779308d5039cc5aba3daf2e821ea3c18d392f9c9c8d787066ffe0af48f9e531", func := "maquette/maquettelaw8.BoundsClamps", spec := "boundsClamps", unfollowed := true, recurses := true, apart := false, narrowed := true }
def BoundsClampsUptoSaid : Prop := boundsClampsUptoRow.holds Try.pinned (OpenSpec.upto boundsClampsSpec)

end Rows
end Go.Proofs.Ytlfncfjlfccfhaa

/-
  No cell of these rows narrows 'for every input' (looked for: loops, veiled, ifaces, maps, wideKeys, modest, calm, conditions, laid).
  DERIVED. THE GIVEN ROWS OF THIS SEAT. 6 by the template 'for every input the law returns true; each argument reads behind the call as it read before'; 0 by the template 'total and deterministic' (their statements: YtjnokjoaphmfkaaTotals.lean).
  GIVEN WITH THE SEED: the statements are not yours to turn. If you find one false, say at which input.
  Laid BY PROGRAM, IN A SANDBOX (cutbox-rows.mjs): the forced cells as the released guide's own fill.sh prints them over the translation 47657510bc19626e… (all of the seat's roots in one cut). By AI agents, Wed Nov 11 2026. No macro, syntax, notation, axiom, sorry.
-/
import Derived.Test.YtjnokjoaphmfkaaChecked
import GoSem.Claim
import GoSem.ClaimJoined
import GoSem.ClaimMapViews
import Derived.JoinedTies
import Derived.KernelRfl
namespace Go.Proofs.Ytjnokjoaphmfkaa
/- THE CELL 'sum', in the pinned program and in every row, IS THE sha256 OF THE DUMP (.gsa) THAT YtjnokjoaphmfkaaProg.lean LOADS. Nothing in Lean hashes anything: it is a label: what it is worth is what the hold of that sum in a sandbox is worth. -/
noncomputable def Try.pinned : Pinned := { name := "ytjnokjoaphmfkaa", sum := "47657510bc19626eb76b5120aff6c1219e5743cf8be199f86fec3dce9f6dd4ec", checked := Try.checked }
namespace Rows
def none {H : Type} : Left H := { results := [], args := [] }

/-- 'maquettelaw10.TouchTells': WHATEVER THE INPUT: true; the input reads as it did. -/
def touchTellsSpec : ChangeSpec := { name := "touchTells", fn := fun _ => fun
  | [d1, d2] => { results := [.lit (.bool true)], args := [d1, d2] }
  | _ => none }
def touchTellsRow : OpenClaim := { program := "ytjnokjoaphmfkaa", sum := "47657510bc19626eb76b5120aff6c1219e5743cf8be199f86fec3dce9f6dd4ec", func := "maquette/maquettelaw10.TouchTells", spec := "touchTells", inPlace := ["math/bits.Add64"], unfollowed := true, recurses := true, named := ["math/bits.divideError", "math/bits.overflowError"], apart := false }
def TouchTellsSaid : Prop := touchTellsRow.holds Try.pinned (OpenSpec.ofChange touchTellsSpec)

/-- ITS FALSE NEIGHBOUR: 'it returns false'. Refute it at one input. -/
def touchTellsWrong : ChangeSpec := { name := "touchTells", fn := fun _ => fun
  | [d1, d2] => { results := [.lit (.bool false)], args := [d1, d2] }
  | _ => none }
def TouchTellsWrongFalsely : Prop := touchTellsRow.holds Try.pinned (OpenSpec.ofChange touchTellsWrong)

/-- 'maquettelaw10.TouchBoth': WHATEVER THE INPUT: true; the input reads as it did. -/
def touchBothSpec : ChangeSpec := { name := "touchBoth", fn := fun _ => fun
  | [d1, d2] => { results := [.lit (.bool true)], args := [d1, d2] }
  | _ => none }
def touchBothRow : OpenClaim := { program := "ytjnokjoaphmfkaa", sum := "47657510bc19626eb76b5120aff6c1219e5743cf8be199f86fec3dce9f6dd4ec", func := "maquette/maquettelaw10.TouchBoth", spec := "touchBoth", inPlace := ["math/bits.Add64"], unfollowed := true, recurses := true, named := ["math/bits.divideError", "math/bits.overflowError"], apart := false }
def TouchBothSaid : Prop := touchBothRow.holds Try.pinned (OpenSpec.ofChange touchBothSpec)

/-- ITS FALSE NEIGHBOUR: 'it returns false'. Refute it at one input. -/
def touchBothWrong : ChangeSpec := { name := "touchBoth", fn := fun _ => fun
  | [d1, d2] => { results := [.lit (.bool false)], args := [d1, d2] }
  | _ => none }
def TouchBothWrongFalsely : Prop := touchBothRow.holds Try.pinned (OpenSpec.ofChange touchBothWrong)

/-- 'maquettelaw10.TouchBalls': WHATEVER THE INPUT: true; the input reads as it did. -/
def touchBallsSpec : ChangeSpec := { name := "touchBalls", fn := fun _ => fun
  | [d1, d2, d3] => { results := [.lit (.bool true)], args := [d1, d2, d3] }
  | _ => none }
def touchBallsRow : OpenClaim := { program := "ytjnokjoaphmfkaa", sum := "47657510bc19626eb76b5120aff6c1219e5743cf8be199f86fec3dce9f6dd4ec", func := "maquette/maquettelaw10.TouchBalls", spec := "touchBalls", inPlace := ["math/bits.Add64"], unfollowed := true, recurses := true, named := ["math/bits.divideError", "math/bits.overflowError"], apart := false }
def TouchBallsSaid : Prop := touchBallsRow.holds Try.pinned (OpenSpec.ofChange touchBallsSpec)

/-- ITS FALSE NEIGHBOUR: 'it returns false'. Refute it at one input. -/
def touchBallsWrong : ChangeSpec := { name := "touchBalls", fn := fun _ => fun
  | [d1, d2, d3] => { results := [.lit (.bool false)], args := [d1, d2, d3] }
  | _ => none }
def TouchBallsWrongFalsely : Prop := touchBallsRow.holds Try.pinned (OpenSpec.ofChange touchBallsWrong)

/-- 'maquettelaw10.TouchMoves': WHATEVER THE INPUT: true; the input reads as it did. -/
def touchMovesSpec : ChangeSpec := { name := "touchMoves", fn := fun _ => fun
  | [d1, d2, d3] => { results := [.lit (.bool true)], args := [d1, d2, d3] }
  | _ => none }
def touchMovesRow : OpenClaim := { program := "ytjnokjoaphmfkaa", sum := "47657510bc19626eb76b5120aff6c1219e5743cf8be199f86fec3dce9f6dd4ec", func := "maquette/maquettelaw10.TouchMoves", spec := "touchMoves", inPlace := ["math/bits.Add64"], unfollowed := true, recurses := true, named := ["math/bits.divideError", "math/bits.overflowError"], apart := false }
def TouchMovesSaid : Prop := touchMovesRow.holds Try.pinned (OpenSpec.ofChange touchMovesSpec)

/-- ITS FALSE NEIGHBOUR: 'it returns false'. Refute it at one input. -/
def touchMovesWrong : ChangeSpec := { name := "touchMoves", fn := fun _ => fun
  | [d1, d2, d3] => { results := [.lit (.bool false)], args := [d1, d2, d3] }
  | _ => none }
def TouchMovesWrongFalsely : Prop := touchMovesRow.holds Try.pinned (OpenSpec.ofChange touchMovesWrong)

/-- 'maquettelaw10.TouchSelf': WHATEVER THE INPUT: true; the input reads as it did. -/
def touchSelfSpec : ChangeSpec := { name := "touchSelf", fn := fun _ => fun
  | [d] => { results := [.lit (.bool true)], args := [d] }
  | _ => none }
def touchSelfRow : OpenClaim := { program := "ytjnokjoaphmfkaa", sum := "47657510bc19626eb76b5120aff6c1219e5743cf8be199f86fec3dce9f6dd4ec", func := "maquette/maquettelaw10.TouchSelf", spec := "touchSelf", inPlace := ["math/bits.Add64"], unfollowed := true, recurses := true, named := ["math/bits.divideError", "math/bits.overflowError"], apart := false }
def TouchSelfSaid : Prop := touchSelfRow.holds Try.pinned (OpenSpec.ofChange touchSelfSpec)

/-- ITS FALSE NEIGHBOUR: 'it returns false'. Refute it at one input. -/
def touchSelfWrong : ChangeSpec := { name := "touchSelf", fn := fun _ => fun
  | [d] => { results := [.lit (.bool false)], args := [d] }
  | _ => none }
def TouchSelfWrongFalsely : Prop := touchSelfRow.holds Try.pinned (OpenSpec.ofChange touchSelfWrong)

/-- 'maquettelaw10.TouchFlips': WHATEVER THE INPUT: true; the input reads as it did. -/
def touchFlipsSpec : ChangeSpec := { name := "touchFlips", fn := fun _ => fun
  | [d1, d2] => { results := [.lit (.bool true)], args := [d1, d2] }
  | _ => none }
def touchFlipsRow : OpenClaim := { program := "ytjnokjoaphmfkaa", sum := "47657510bc19626eb76b5120aff6c1219e5743cf8be199f86fec3dce9f6dd4ec", func := "maquette/maquettelaw10.TouchFlips", spec := "touchFlips", inPlace := ["math/bits.Add64"], unfollowed := true, recurses := true, named := ["math/bits.divideError", "math/bits.overflowError"], apart := false }
def TouchFlipsSaid : Prop := touchFlipsRow.holds Try.pinned (OpenSpec.ofChange touchFlipsSpec)

/-- ITS FALSE NEIGHBOUR: 'it returns false'. Refute it at one input. -/
def touchFlipsWrong : ChangeSpec := { name := "touchFlips", fn := fun _ => fun
  | [d1, d2] => { results := [.lit (.bool false)], args := [d1, d2] }
  | _ => none }
def TouchFlipsWrongFalsely : Prop := touchFlipsRow.holds Try.pinned (OpenSpec.ofChange touchFlipsWrong)

/- THE SECOND FORM. 'bulk': how many values and letters a reading holds, each counted each time it is reached (what is shared counts as often as it is met; a slice's spare places count too). A statement '..UptoSaid' is the law's where the arguments, and the package variables that the reading takes, are together of bulk at most 1048576: NARROWER than '..Said'. Prove '..Said' where nothing that the law and all that it calls make is longer than what came in: it says more and counts as full. Else prove '..UptoSaid'. A law counts once. -/
mutual
def uptoBulk {H : Type} : DataW H → Nat
  | .lit (.string bytes) => bytes.length + 1
  | .lit _ => 1
  | .nil => 1
  | .ptr d => uptoBulk d + 1
  | .slice elems spare => uptoBulkAll elems + uptoBulkAll spare + 1
  | .agg parts => uptoBulkAll parts + 1
  | .iface _ d => uptoBulk d + 1
  | .map entries => uptoBulkEntries entries + 1
  | .held _ => 1
def uptoBulkAll {H : Type} : List (DataW H) → Nat
  | [] => 0
  | d :: r => uptoBulk d + uptoBulkAll r
def uptoBulkEntries {H : Type} : List (Lit × DataW H) → Nat
  | [] => 0
  | x :: r => uptoBulkEntry x + uptoBulkEntries r
def uptoBulkEntry {H : Type} : Lit × DataW H → Nat
  | (.string bytes, d) => bytes.length + uptoBulk d + 1
  | (_, d) => uptoBulk d + 1
 end
def uptoSmall : (H : Type) → List (DataW H) → Bool := fun _ ds => decide (uptoBulkAll ds ≤ 1048576)
def OpenSpec.upto (s : _root_.Go.ChangeSpec) : _root_.Go.OpenSpec := { _root_.Go.OpenSpec.ofChange s with cond := some uptoSmall }

/-- 'maquettelaw10.TouchTells', WHERE WHAT IT READS IS OF BULK AT MOST 1048576: true; the input reads as it did. -/
def touchTellsUptoRow : OpenClaim := { program := "ytjnokjoaphmfkaa", sum := "47657510bc19626eb76b5120aff6c1219e5743cf8be199f86fec3dce9f6dd4ec", func := "maquette/maquettelaw10.TouchTells", spec := "touchTells", inPlace := ["math/bits.Add64"], unfollowed := true, recurses := true, named := ["math/bits.divideError", "math/bits.overflowError"], apart := false, narrowed := true }
def TouchTellsUptoSaid : Prop := touchTellsUptoRow.holds Try.pinned (OpenSpec.upto touchTellsSpec)

/-- 'maquettelaw10.TouchBoth', WHERE WHAT IT READS IS OF BULK AT MOST 1048576: true; the input reads as it did. -/
def touchBothUptoRow : OpenClaim := { program := "ytjnokjoaphmfkaa", sum := "47657510bc19626eb76b5120aff6c1219e5743cf8be199f86fec3dce9f6dd4ec", func := "maquette/maquettelaw10.TouchBoth", spec := "touchBoth", inPlace := ["math/bits.Add64"], unfollowed := true, recurses := true, named := ["math/bits.divideError", "math/bits.overflowError"], apart := false, narrowed := true }
def TouchBothUptoSaid : Prop := touchBothUptoRow.holds Try.pinned (OpenSpec.upto touchBothSpec)

/-- 'maquettelaw10.TouchBalls', WHERE WHAT IT READS IS OF BULK AT MOST 1048576: true; the input reads as it did. -/
def touchBallsUptoRow : OpenClaim := { program := "ytjnokjoaphmfkaa", sum := "47657510bc19626eb76b5120aff6c1219e5743cf8be199f86fec3dce9f6dd4ec", func := "maquette/maquettelaw10.TouchBalls", spec := "touchBalls", inPlace := ["math/bits.Add64"], unfollowed := true, recurses := true, named := ["math/bits.divideError", "math/bits.overflowError"], apart := false, narrowed := true }
def TouchBallsUptoSaid : Prop := touchBallsUptoRow.holds Try.pinned (OpenSpec.upto touchBallsSpec)

/-- 'maquettelaw10.TouchMoves', WHERE WHAT IT READS IS OF BULK AT MOST 1048576: true; the input reads as it did. -/
def touchMovesUptoRow : OpenClaim := { program := "ytjnokjoaphmfkaa", sum := "47657510bc19626eb76b5120aff6c1219e5743cf8be199f86fec3dce9f6dd4ec", func := "maquette/maquettelaw10.TouchMoves", spec := "touchMoves", inPlace := ["math/bits.Add64"], unfollowed := true, recurses := true, named := ["math/bits.divideError", "math/bits.overflowError"], apart := false, narrowed := true }
def TouchMovesUptoSaid : Prop := touchMovesUptoRow.holds Try.pinned (OpenSpec.upto touchMovesSpec)

/-- 'maquettelaw10.TouchSelf', WHERE WHAT IT READS IS OF BULK AT MOST 1048576: true; the input reads as it did. -/
def touchSelfUptoRow : OpenClaim := { program := "ytjnokjoaphmfkaa", sum := "47657510bc19626eb76b5120aff6c1219e5743cf8be199f86fec3dce9f6dd4ec", func := "maquette/maquettelaw10.TouchSelf", spec := "touchSelf", inPlace := ["math/bits.Add64"], unfollowed := true, recurses := true, named := ["math/bits.divideError", "math/bits.overflowError"], apart := false, narrowed := true }
def TouchSelfUptoSaid : Prop := touchSelfUptoRow.holds Try.pinned (OpenSpec.upto touchSelfSpec)

/-- 'maquettelaw10.TouchFlips', WHERE WHAT IT READS IS OF BULK AT MOST 1048576: true; the input reads as it did. -/
def touchFlipsUptoRow : OpenClaim := { program := "ytjnokjoaphmfkaa", sum := "47657510bc19626eb76b5120aff6c1219e5743cf8be199f86fec3dce9f6dd4ec", func := "maquette/maquettelaw10.TouchFlips", spec := "touchFlips", inPlace := ["math/bits.Add64"], unfollowed := true, recurses := true, named := ["math/bits.divideError", "math/bits.overflowError"], apart := false, narrowed := true }
def TouchFlipsUptoSaid : Prop := touchFlipsUptoRow.holds Try.pinned (OpenSpec.upto touchFlipsSpec)

end Rows
end Go.Proofs.Ytjnokjoaphmfkaa

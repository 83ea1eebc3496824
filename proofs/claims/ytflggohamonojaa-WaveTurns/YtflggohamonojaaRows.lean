/-
  No cell of these rows narrows 'for every input' (looked for: loops, veiled, ifaces, maps, wideKeys, modest, calm, conditions, laid).
  DERIVED. THE GIVEN ROWS OF THIS SEAT. 6 by the template 'for every input the law returns true; each argument reads behind the call as it read before'; 0 by the template 'total and deterministic' (their statements: YtflggohamonojaaTotals.lean).
  GIVEN WITH THE SEED: the statements are not yours to turn. If you find one false, say at which input.
  Laid BY PROGRAM, IN A SANDBOX (cutbox-rows.mjs): the forced cells as the released guide's own fill.sh prints them over the translation eb071ebd88b8d85d… (all of the seat's roots in one cut). By AI agents, Wed Nov 11 2026. No macro, syntax, notation, axiom, sorry.
-/
import Derived.Test.YtflggohamonojaaChecked
import GoSem.Claim
import GoSem.ClaimJoined
import GoSem.ClaimMapViews
import Derived.JoinedTies
import Derived.KernelRfl
namespace Go.Proofs.Ytflggohamonojaa
/- THE CELL 'sum', in the pinned program and in every row, IS THE sha256 OF THE DUMP (.gsa) THAT YtflggohamonojaaProg.lean LOADS. Nothing in Lean hashes anything: it is a label: what it is worth is what the hold of that sum in a sandbox is worth. -/
noncomputable def Try.pinned : Pinned := { name := "ytflggohamonojaa", sum := "eb071ebd88b8d85d1cee7f9e337d537e2aff952570abc8a57e47eed3e81250b9", checked := Try.checked }
namespace Rows
def none {H : Type} : Left H := { results := [], args := [] }

/-- 'maquettelaw5.WaveTells': WHATEVER THE INPUT: true; the input reads as it did. -/
def waveTellsSpec : ChangeSpec := { name := "waveTells", fn := fun _ => fun
  | [d1, d2, d3] => { results := [.lit (.bool true)], args := [d1, d2, d3] }
  | _ => none }
def waveTellsRow : OpenClaim := { program := "ytflggohamonojaa", sum := "eb071ebd88b8d85d1cee7f9e337d537e2aff952570abc8a57e47eed3e81250b9", func := "maquette/maquettelaw5.WaveTells", spec := "waveTells", recurses := true, named := ["math/bits.divideError", "math/bits.overflowError"], apart := false }
def WaveTellsSaid : Prop := waveTellsRow.holds Try.pinned (OpenSpec.ofChange waveTellsSpec)

/-- ITS FALSE NEIGHBOUR: 'it returns false'. Refute it at one input. -/
def waveTellsWrong : ChangeSpec := { name := "waveTells", fn := fun _ => fun
  | [d1, d2, d3] => { results := [.lit (.bool false)], args := [d1, d2, d3] }
  | _ => none }
def WaveTellsWrongFalsely : Prop := waveTellsRow.holds Try.pinned (OpenSpec.ofChange waveTellsWrong)

/-- 'maquettelaw5.WaveTurns': WHATEVER THE INPUT: true; the input reads as it did. -/
def waveTurnsSpec : ChangeSpec := { name := "waveTurns", fn := fun _ => fun
  | [d1, d2] => { results := [.lit (.bool true)], args := [d1, d2] }
  | _ => none }
def waveTurnsRow : OpenClaim := { program := "ytflggohamonojaa", sum := "eb071ebd88b8d85d1cee7f9e337d537e2aff952570abc8a57e47eed3e81250b9", func := "maquette/maquettelaw5.WaveTurns", spec := "waveTurns", apart := false }
def WaveTurnsSaid : Prop := waveTurnsRow.holds Try.pinned (OpenSpec.ofChange waveTurnsSpec)

/-- ITS FALSE NEIGHBOUR: 'it returns false'. Refute it at one input. -/
def waveTurnsWrong : ChangeSpec := { name := "waveTurns", fn := fun _ => fun
  | [d1, d2] => { results := [.lit (.bool false)], args := [d1, d2] }
  | _ => none }
def WaveTurnsWrongFalsely : Prop := waveTurnsRow.holds Try.pinned (OpenSpec.ofChange waveTurnsWrong)

/-- 'maquettelaw5.WaveRises': WHATEVER THE INPUT: true; the input reads as it did. -/
def waveRisesSpec : ChangeSpec := { name := "waveRises", fn := fun _ => fun
  | [d1, d2] => { results := [.lit (.bool true)], args := [d1, d2] }
  | _ => none }
def waveRisesRow : OpenClaim := { program := "ytflggohamonojaa", sum := "eb071ebd88b8d85d1cee7f9e337d537e2aff952570abc8a57e47eed3e81250b9", func := "maquette/maquettelaw5.WaveRises", spec := "waveRises", apart := false }
def WaveRisesSaid : Prop := waveRisesRow.holds Try.pinned (OpenSpec.ofChange waveRisesSpec)

/-- ITS FALSE NEIGHBOUR: 'it returns false'. Refute it at one input. -/
def waveRisesWrong : ChangeSpec := { name := "waveRises", fn := fun _ => fun
  | [d1, d2] => { results := [.lit (.bool false)], args := [d1, d2] }
  | _ => none }
def WaveRisesWrongFalsely : Prop := waveRisesRow.holds Try.pinned (OpenSpec.ofChange waveRisesWrong)

/-- 'maquettelaw5.WaveRotates': WHATEVER THE INPUT: true; the input reads as it did. -/
def waveRotatesSpec : ChangeSpec := { name := "waveRotates", fn := fun _ => fun
  | [d1, d2, d3] => { results := [.lit (.bool true)], args := [d1, d2, d3] }
  | _ => none }
def waveRotatesRow : OpenClaim := { program := "ytflggohamonojaa", sum := "eb071ebd88b8d85d1cee7f9e337d537e2aff952570abc8a57e47eed3e81250b9", func := "maquette/maquettelaw5.WaveRotates", spec := "waveRotates", apart := false }
def WaveRotatesSaid : Prop := waveRotatesRow.holds Try.pinned (OpenSpec.ofChange waveRotatesSpec)

/-- ITS FALSE NEIGHBOUR: 'it returns false'. Refute it at one input. -/
def waveRotatesWrong : ChangeSpec := { name := "waveRotates", fn := fun _ => fun
  | [d1, d2, d3] => { results := [.lit (.bool false)], args := [d1, d2, d3] }
  | _ => none }
def WaveRotatesWrongFalsely : Prop := waveRotatesRow.holds Try.pinned (OpenSpec.ofChange waveRotatesWrong)

/-- 'maquettelaw5.WaveSquares': WHATEVER THE INPUT: true; the input reads as it did. -/
def waveSquaresSpec : ChangeSpec := { name := "waveSquares", fn := fun _ => fun
  | [d] => { results := [.lit (.bool true)], args := [d] }
  | _ => none }
def waveSquaresRow : OpenClaim := { program := "ytflggohamonojaa", sum := "eb071ebd88b8d85d1cee7f9e337d537e2aff952570abc8a57e47eed3e81250b9", func := "maquette/maquettelaw5.WaveSquares", spec := "waveSquares", apart := false }
def WaveSquaresSaid : Prop := waveSquaresRow.holds Try.pinned (OpenSpec.ofChange waveSquaresSpec)

/-- ITS FALSE NEIGHBOUR: 'it returns false'. Refute it at one input. -/
def waveSquaresWrong : ChangeSpec := { name := "waveSquares", fn := fun _ => fun
  | [d] => { results := [.lit (.bool false)], args := [d] }
  | _ => none }
def WaveSquaresWrongFalsely : Prop := waveSquaresRow.holds Try.pinned (OpenSpec.ofChange waveSquaresWrong)

/-- 'maquettelaw5.WaveOdd': WHATEVER THE INPUT: true; the input reads as it did. -/
def waveOddSpec : ChangeSpec := { name := "waveOdd", fn := fun _ => fun
  | [d] => { results := [.lit (.bool true)], args := [d] }
  | _ => none }
def waveOddRow : OpenClaim := { program := "ytflggohamonojaa", sum := "eb071ebd88b8d85d1cee7f9e337d537e2aff952570abc8a57e47eed3e81250b9", func := "maquette/maquettelaw5.WaveOdd", spec := "waveOdd", apart := false }
def WaveOddSaid : Prop := waveOddRow.holds Try.pinned (OpenSpec.ofChange waveOddSpec)

/-- ITS FALSE NEIGHBOUR: 'it returns false'. Refute it at one input. -/
def waveOddWrong : ChangeSpec := { name := "waveOdd", fn := fun _ => fun
  | [d] => { results := [.lit (.bool false)], args := [d] }
  | _ => none }
def WaveOddWrongFalsely : Prop := waveOddRow.holds Try.pinned (OpenSpec.ofChange waveOddWrong)

/- THE SECOND FORM. 'bulk': how many values and letters a reading holds, each counted each time it is reached (what is shared counts as often as it is met; a slice's spare places count too). A statement '..UptoSaid' is the law's where the arguments, and the package variables that the reading takes, are together of bulk at most 1048576: NARROWER than '..Said'. Prove '..Said' where nothing that the law and all that it calls make is longer than what came in: it says more and counts as full. Else prove '..UptoSaid'. A law counts once. -/
mutual
def uptoBulk {H : Type} : DataW H → Nat
  | .lit (.string bytes) => bytes.length + 1
  | .lit _ => 1
  | .nil => 1
  | .ptr d => uptoBulk d + 1
  | .slice elems spare => uptoBulkAll elems + uptoBulkAll spare + 1
  | .agg parts => uptoBulkAll parts + 1
  | .iface _ d => uptoBulk d + 1
  | .map entries => uptoBulkEntries entries + 1
  | .held _ => 1
def uptoBulkAll {H : Type} : List (DataW H) → Nat
  | [] => 0
  | d :: r => uptoBulk d + uptoBulkAll r
def uptoBulkEntries {H : Type} : List (Lit × DataW H) → Nat
  | [] => 0
  | x :: r => uptoBulkEntry x + uptoBulkEntries r
def uptoBulkEntry {H : Type} : Lit × DataW H → Nat
  | (.string bytes, d) => bytes.length + uptoBulk d + 1
  | (_, d) => uptoBulk d + 1
 end
def uptoSmall : (H : Type) → List (DataW H) → Bool := fun _ ds => decide (uptoBulkAll ds ≤ 1048576)
def OpenSpec.upto (s : _root_.Go.ChangeSpec) : _root_.Go.OpenSpec := { _root_.Go.OpenSpec.ofChange s with cond := some uptoSmall }

/-- 'maquettelaw5.WaveTells', WHERE WHAT IT READS IS OF BULK AT MOST 1048576: true; the input reads as it did. -/
def waveTellsUptoRow : OpenClaim := { program := "ytflggohamonojaa", sum := "eb071ebd88b8d85d1cee7f9e337d537e2aff952570abc8a57e47eed3e81250b9", func := "maquette/maquettelaw5.WaveTells", spec := "waveTells", recurses := true, named := ["math/bits.divideError", "math/bits.overflowError"], apart := false, narrowed := true }
def WaveTellsUptoSaid : Prop := waveTellsUptoRow.holds Try.pinned (OpenSpec.upto waveTellsSpec)

/-- 'maquettelaw5.WaveTurns', WHERE WHAT IT READS IS OF BULK AT MOST 1048576: true; the input reads as it did. -/
def waveTurnsUptoRow : OpenClaim := { program := "ytflggohamonojaa", sum := "eb071ebd88b8d85d1cee7f9e337d537e2aff952570abc8a57e47eed3e81250b9", func := "maquette/maquettelaw5.WaveTurns", spec := "waveTurns", apart := false, narrowed := true }
def WaveTurnsUptoSaid : Prop := waveTurnsUptoRow.holds Try.pinned (OpenSpec.upto waveTurnsSpec)

/-- 'maquettelaw5.WaveRises', WHERE WHAT IT READS IS OF BULK AT MOST 1048576: true; the input reads as it did. -/
def waveRisesUptoRow : OpenClaim := { program := "ytflggohamonojaa", sum := "eb071ebd88b8d85d1cee7f9e337d537e2aff952570abc8a57e47eed3e81250b9", func := "maquette/maquettelaw5.WaveRises", spec := "waveRises", apart := false, narrowed := true }
def WaveRisesUptoSaid : Prop := waveRisesUptoRow.holds Try.pinned (OpenSpec.upto waveRisesSpec)

/-- 'maquettelaw5.WaveRotates', WHERE WHAT IT READS IS OF BULK AT MOST 1048576: true; the input reads as it did. -/
def waveRotatesUptoRow : OpenClaim := { program := "ytflggohamonojaa", sum := "eb071ebd88b8d85d1cee7f9e337d537e2aff952570abc8a57e47eed3e81250b9", func := "maquette/maquettelaw5.WaveRotates", spec := "waveRotates", apart := false, narrowed := true }
def WaveRotatesUptoSaid : Prop := waveRotatesUptoRow.holds Try.pinned (OpenSpec.upto waveRotatesSpec)

/-- 'maquettelaw5.WaveSquares', WHERE WHAT IT READS IS OF BULK AT MOST 1048576: true; the input reads as it did. -/
def waveSquaresUptoRow : OpenClaim := { program := "ytflggohamonojaa", sum := "eb071ebd88b8d85d1cee7f9e337d537e2aff952570abc8a57e47eed3e81250b9", func := "maquette/maquettelaw5.WaveSquares", spec := "waveSquares", apart := false, narrowed := true }
def WaveSquaresUptoSaid : Prop := waveSquaresUptoRow.holds Try.pinned (OpenSpec.upto waveSquaresSpec)

/-- 'maquettelaw5.WaveOdd', WHERE WHAT IT READS IS OF BULK AT MOST 1048576: true; the input reads as it did. -/
def waveOddUptoRow : OpenClaim := { program := "ytflggohamonojaa", sum := "eb071ebd88b8d85d1cee7f9e337d537e2aff952570abc8a57e47eed3e81250b9", func := "maquette/maquettelaw5.WaveOdd", spec := "waveOdd", apart := false, narrowed := true }
def WaveOddUptoSaid : Prop := waveOddUptoRow.holds Try.pinned (OpenSpec.upto waveOddSpec)

end Rows
end Go.Proofs.Ytflggohamonojaa

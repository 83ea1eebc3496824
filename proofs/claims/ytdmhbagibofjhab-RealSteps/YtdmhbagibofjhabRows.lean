/-
  No cell of these rows narrows 'for every input' (looked for: loops, veiled, ifaces, maps, wideKeys, modest, calm, conditions, laid).
  DERIVED. THE GIVEN ROWS OF THIS SEAT. 6 by the template 'for every input the law returns true; each argument reads behind the call as it read before'; 0 by the template 'total and deterministic' (their statements: YtdmhbagibofjhabTotals.lean).
  GIVEN WITH THE SEED: the statements are not yours to turn. If you find one false, say at which input.
  Laid BY PROGRAM, IN A SANDBOX (cutbox-rows.mjs): the forced cells as the released guide's own fill.sh prints them over the translation 047d5769b6e48016… (all of the seat's roots in one cut). By AI agents, Wed Nov 11 2026. No macro, syntax, notation, axiom, sorry.
-/
import Derived.Test.YtdmhbagibofjhabChecked
import GoSem.Claim
import GoSem.ClaimJoined
import GoSem.ClaimMapViews
import Derived.JoinedTies
import Derived.KernelRfl
namespace Go.Proofs.Ytdmhbagibofjhab
/- THE CELL 'sum', in the pinned program and in every row, IS THE sha256 OF THE DUMP (.gsa) THAT YtdmhbagibofjhabProg.lean LOADS. Nothing in Lean hashes anything: it is a label: what it is worth is what the hold of that sum in a sandbox is worth. -/
noncomputable def Try.pinned : Pinned := { name := "ytdmhbagibofjhab", sum := "047d5769b6e480163a8814d22d574ea627223adb7984176364f7253057438628", checked := Try.checked }
namespace Rows
def none {H : Type} : Left H := { results := [], args := [] }

/-- 'maquettelaw2.RealOverflow': WHATEVER THE INPUT: true; the input reads as it did. -/
def realOverflowSpec : ChangeSpec := { name := "realOverflow", fn := fun _ => fun
  | [d] => { results := [.lit (.bool true)], args := [d] }
  | _ => none }
def realOverflowRow : OpenClaim := { program := "ytdmhbagibofjhab", sum := "047d5769b6e480163a8814d22d574ea627223adb7984176364f7253057438628", func := "maquette/maquettelaw2.RealOverflow", spec := "realOverflow", inPlace := ["math.Float64bits", "math.Float64frombits", "math.RoundToEven"], apart := false }
def RealOverflowSaid : Prop := realOverflowRow.holds Try.pinned (OpenSpec.ofChange realOverflowSpec)

/-- ITS FALSE NEIGHBOUR: 'it returns false'. Refute it at one input. -/
def realOverflowWrong : ChangeSpec := { name := "realOverflow", fn := fun _ => fun
  | [d] => { results := [.lit (.bool false)], args := [d] }
  | _ => none }
def RealOverflowWrongFalsely : Prop := realOverflowRow.holds Try.pinned (OpenSpec.ofChange realOverflowWrong)

/-- 'maquettelaw2.RealTies': WHATEVER THE INPUT: true; the input reads as it did. -/
def realTiesSpec : ChangeSpec := { name := "realTies", fn := fun _ => fun
  | [d] => { results := [.lit (.bool true)], args := [d] }
  | _ => none }
def realTiesRow : OpenClaim := { program := "ytdmhbagibofjhab", sum := "047d5769b6e480163a8814d22d574ea627223adb7984176364f7253057438628", func := "maquette/maquettelaw2.RealTies", spec := "realTies", inPlace := ["math.Float64bits", "math.Float64frombits", "math.RoundToEven"], apart := false }
def RealTiesSaid : Prop := realTiesRow.holds Try.pinned (OpenSpec.ofChange realTiesSpec)

/-- ITS FALSE NEIGHBOUR: 'it returns false'. Refute it at one input. -/
def realTiesWrong : ChangeSpec := { name := "realTies", fn := fun _ => fun
  | [d] => { results := [.lit (.bool false)], args := [d] }
  | _ => none }
def RealTiesWrongFalsely : Prop := realTiesRow.holds Try.pinned (OpenSpec.ofChange realTiesWrong)

/-- 'maquettelaw2.RealBytes': WHATEVER THE INPUT: true; the input reads as it did. -/
def realBytesSpec : ChangeSpec := { name := "realBytes", fn := fun _ => fun
  | [d1, d2] => { results := [.lit (.bool true)], args := [d1, d2] }
  | _ => none }
def realBytesRow : OpenClaim := { program := "ytdmhbagibofjhab", sum := "047d5769b6e480163a8814d22d574ea627223adb7984176364f7253057438628", func := "maquette/maquettelaw2.RealBytes", spec := "realBytes", inPlace := ["math.Float64bits", "math.Float64frombits", "math.RoundToEven"], apart := false }
def RealBytesSaid : Prop := realBytesRow.holds Try.pinned (OpenSpec.ofChange realBytesSpec)

/-- ITS FALSE NEIGHBOUR: 'it returns false'. Refute it at one input. -/
def realBytesWrong : ChangeSpec := { name := "realBytes", fn := fun _ => fun
  | [d1, d2] => { results := [.lit (.bool false)], args := [d1, d2] }
  | _ => none }
def RealBytesWrongFalsely : Prop := realBytesRow.holds Try.pinned (OpenSpec.ofChange realBytesWrong)

/-- 'maquettelaw2.RealSame': WHATEVER THE INPUT: true; the input reads as it did. -/
def realSameSpec : ChangeSpec := { name := "realSame", fn := fun _ => fun
  | [d1, d2] => { results := [.lit (.bool true)], args := [d1, d2] }
  | _ => none }
def realSameRow : OpenClaim := { program := "ytdmhbagibofjhab", sum := "047d5769b6e480163a8814d22d574ea627223adb7984176364f7253057438628", func := "maquette/maquettelaw2.RealSame", spec := "realSame", inPlace := ["math.Float64bits", "math.Float64frombits", "math.RoundToEven"], apart := false }
def RealSameSaid : Prop := realSameRow.holds Try.pinned (OpenSpec.ofChange realSameSpec)

/-- ITS FALSE NEIGHBOUR: 'it returns false'. Refute it at one input. -/
def realSameWrong : ChangeSpec := { name := "realSame", fn := fun _ => fun
  | [d1, d2] => { results := [.lit (.bool false)], args := [d1, d2] }
  | _ => none }
def RealSameWrongFalsely : Prop := realSameRow.holds Try.pinned (OpenSpec.ofChange realSameWrong)

/-- 'maquettelaw2.RealSteps': WHATEVER THE INPUT: true; the input reads as it did. -/
def realStepsSpec : ChangeSpec := { name := "realSteps", fn := fun _ => fun
  | [d1, d2] => { results := [.lit (.bool true)], args := [d1, d2] }
  | _ => none }
def realStepsRow : OpenClaim := { program := "ytdmhbagibofjhab", sum := "047d5769b6e480163a8814d22d574ea627223adb7984176364f7253057438628", func := "maquette/maquettelaw2.RealSteps", spec := "realSteps", inPlace := ["math.Float64bits", "math.Float64frombits", "math.RoundToEven"], apart := false }
def RealStepsSaid : Prop := realStepsRow.holds Try.pinned (OpenSpec.ofChange realStepsSpec)

/-- ITS FALSE NEIGHBOUR: 'it returns false'. Refute it at one input. -/
def realStepsWrong : ChangeSpec := { name := "realSteps", fn := fun _ => fun
  | [d1, d2] => { results := [.lit (.bool false)], args := [d1, d2] }
  | _ => none }
def RealStepsWrongFalsely : Prop := realStepsRow.holds Try.pinned (OpenSpec.ofChange realStepsWrong)

/-- 'maquettelaw2.RealPuts': WHATEVER THE INPUT: true; the input reads as it did. -/
def realPutsSpec : ChangeSpec := { name := "realPuts", fn := fun _ => fun
  | [d1, d2] => { results := [.lit (.bool true)], args := [d1, d2] }
  | _ => none }
def realPutsRow : OpenClaim := { program := "ytdmhbagibofjhab", sum := "047d5769b6e480163a8814d22d574ea627223adb7984176364f7253057438628", func := "maquette/maquettelaw2.RealPuts", spec := "realPuts", inPlace := ["math.Float64bits", "math.Float64frombits", "math.RoundToEven"], apart := false }
def RealPutsSaid : Prop := realPutsRow.holds Try.pinned (OpenSpec.ofChange realPutsSpec)

/-- ITS FALSE NEIGHBOUR: 'it returns false'. Refute it at one input. -/
def realPutsWrong : ChangeSpec := { name := "realPuts", fn := fun _ => fun
  | [d1, d2] => { results := [.lit (.bool false)], args := [d1, d2] }
  | _ => none }
def RealPutsWrongFalsely : Prop := realPutsRow.holds Try.pinned (OpenSpec.ofChange realPutsWrong)

/- THE SECOND FORM. 'bulk': how many values and letters a reading holds, each counted each time it is reached (what is shared counts as often as it is met; a slice's spare places count too). A statement '..UptoSaid' is the law's where the arguments, and the package variables that the reading takes, are together of bulk at most 1048576: NARROWER than '..Said'. Prove '..Said' where nothing that the law and all that it calls make is longer than what came in: it says more and counts as full. Else prove '..UptoSaid'. A law counts once. -/
mutual
def uptoBulk {H : Type} : DataW H → Nat
  | .lit (.string bytes) => bytes.length + 1
  | .lit _ => 1
  | .nil => 1
  | .ptr d => uptoBulk d + 1
  | .slice elems spare => uptoBulkAll elems + uptoBulkAll spare + 1
  | .agg parts => uptoBulkAll parts + 1
  | .iface _ d => uptoBulk d + 1
  | .map entries => uptoBulkEntries entries + 1
  | .held _ => 1
def uptoBulkAll {H : Type} : List (DataW H) → Nat
  | [] => 0
  | d :: r => uptoBulk d + uptoBulkAll r
def uptoBulkEntries {H : Type} : List (Lit × DataW H) → Nat
  | [] => 0
  | x :: r => uptoBulkEntry x + uptoBulkEntries r
def uptoBulkEntry {H : Type} : Lit × DataW H → Nat
  | (.string bytes, d) => bytes.length + uptoBulk d + 1
  | (_, d) => uptoBulk d + 1
 end
def uptoSmall : (H : Type) → List (DataW H) → Bool := fun _ ds => decide (uptoBulkAll ds ≤ 1048576)
def OpenSpec.upto (s : _root_.Go.ChangeSpec) : _root_.Go.OpenSpec := { _root_.Go.OpenSpec.ofChange s with cond := some uptoSmall }

/-- 'maquettelaw2.RealOverflow', WHERE WHAT IT READS IS OF BULK AT MOST 1048576: true; the input reads as it did. -/
def realOverflowUptoRow : OpenClaim := { program := "ytdmhbagibofjhab", sum := "047d5769b6e480163a8814d22d574ea627223adb7984176364f7253057438628", func := "maquette/maquettelaw2.RealOverflow", spec := "realOverflow", inPlace := ["math.Float64bits", "math.Float64frombits", "math.RoundToEven"], apart := false, narrowed := true }
def RealOverflowUptoSaid : Prop := realOverflowUptoRow.holds Try.pinned (OpenSpec.upto realOverflowSpec)

/-- 'maquettelaw2.RealTies', WHERE WHAT IT READS IS OF BULK AT MOST 1048576: true; the input reads as it did. -/
def realTiesUptoRow : OpenClaim := { program := "ytdmhbagibofjhab", sum := "047d5769b6e480163a8814d22d574ea627223adb7984176364f7253057438628", func := "maquette/maquettelaw2.RealTies", spec := "realTies", inPlace := ["math.Float64bits", "math.Float64frombits", "math.RoundToEven"], apart := false, narrowed := true }
def RealTiesUptoSaid : Prop := realTiesUptoRow.holds Try.pinned (OpenSpec.upto realTiesSpec)

/-- 'maquettelaw2.RealBytes', WHERE WHAT IT READS IS OF BULK AT MOST 1048576: true; the input reads as it did. -/
def realBytesUptoRow : OpenClaim := { program := "ytdmhbagibofjhab", sum := "047d5769b6e480163a8814d22d574ea627223adb7984176364f7253057438628", func := "maquette/maquettelaw2.RealBytes", spec := "realBytes", inPlace := ["math.Float64bits", "math.Float64frombits", "math.RoundToEven"], apart := false, narrowed := true }
def RealBytesUptoSaid : Prop := realBytesUptoRow.holds Try.pinned (OpenSpec.upto realBytesSpec)

/-- 'maquettelaw2.RealSame', WHERE WHAT IT READS IS OF BULK AT MOST 1048576: true; the input reads as it did. -/
def realSameUptoRow : OpenClaim := { program := "ytdmhbagibofjhab", sum := "047d5769b6e480163a8814d22d574ea627223adb7984176364f7253057438628", func := "maquette/maquettelaw2.RealSame", spec := "realSame", inPlace := ["math.Float64bits", "math.Float64frombits", "math.RoundToEven"], apart := false, narrowed := true }
def RealSameUptoSaid : Prop := realSameUptoRow.holds Try.pinned (OpenSpec.upto realSameSpec)

/-- 'maquettelaw2.RealSteps', WHERE WHAT IT READS IS OF BULK AT MOST 1048576: true; the input reads as it did. -/
def realStepsUptoRow : OpenClaim := { program := "ytdmhbagibofjhab", sum := "047d5769b6e480163a8814d22d574ea627223adb7984176364f7253057438628", func := "maquette/maquettelaw2.RealSteps", spec := "realSteps", inPlace := ["math.Float64bits", "math.Float64frombits", "math.RoundToEven"], apart := false, narrowed := true }
def RealStepsUptoSaid : Prop := realStepsUptoRow.holds Try.pinned (OpenSpec.upto realStepsSpec)

/-- 'maquettelaw2.RealPuts', WHERE WHAT IT READS IS OF BULK AT MOST 1048576: true; the input reads as it did. -/
def realPutsUptoRow : OpenClaim := { program := "ytdmhbagibofjhab", sum := "047d5769b6e480163a8814d22d574ea627223adb7984176364f7253057438628", func := "maquette/maquettelaw2.RealPuts", spec := "realPuts", inPlace := ["math.Float64bits", "math.Float64frombits", "math.RoundToEven"], apart := false, narrowed := true }
def RealPutsUptoSaid : Prop := realPutsUptoRow.holds Try.pinned (OpenSpec.upto realPutsSpec)

end Rows
end Go.Proofs.Ytdmhbagibofjhab

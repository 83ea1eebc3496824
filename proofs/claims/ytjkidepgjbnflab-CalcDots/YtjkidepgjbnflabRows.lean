/-
  No cell of these rows narrows 'for every input' (looked for: loops, veiled, ifaces, maps, wideKeys, modest, calm, conditions, laid).
  DERIVED. THE GIVEN ROWS OF THIS SEAT. 2 by the template 'for every input the law returns true; each argument reads behind the call as it read before'; 0 by the template 'total and deterministic' (their statements: YtjkidepgjbnflabTotals.lean).
  GIVEN WITH THE SEED: the statements are not yours to turn. If you find one false, say at which input.
  Laid BY PROGRAM, IN A SANDBOX (cutbox-rows.mjs): the forced cells as the released guide's own fill.sh prints them over the translation 798af93ab5674289… (all of the seat's roots in one cut). By AI agents, Wed Nov 11 2026. No macro, syntax, notation, axiom, sorry.
-/
import Derived.Test.YtjkidepgjbnflabChecked
import GoSem.Claim
import GoSem.ClaimJoined
import GoSem.ClaimMapViews
import Derived.JoinedTies
import Derived.KernelRfl
namespace Go.Proofs.Ytjkidepgjbnflab
/- THE CELL 'sum', in the pinned program and in every row, IS THE sha256 OF THE DUMP (.gsa) THAT YtjkidepgjbnflabProg.lean LOADS. Nothing in Lean hashes anything: it is a label: what it is worth is what the hold of that sum in a sandbox is worth. -/
noncomputable def Try.pinned : Pinned := { name := "ytjkidepgjbnflab", sum := "798af93ab56742890bda1ed219503eff59dcbbfa7d12eba14835cc9ac7986120", checked := Try.checked }
namespace Rows
def none {H : Type} : Left H := { results := [], args := [] }

/-- 'maquettelaw3.CalcDots': WHATEVER THE INPUT: true; the input reads as it did. -/
def calcDotsSpec : ChangeSpec := { name := "calcDots", fn := fun _ => fun
  | [d] => { results := [.lit (.bool true)], args := [d] }
  | _ => none }
def calcDotsRow : OpenClaim := { program := "ytjkidepgjbnflab", sum := "798af93ab56742890bda1ed219503eff59dcbbfa7d12eba14835cc9ac7986120", func := "maquette/maquettelaw3.CalcDots", spec := "calcDots", unfollowed := true, recurses := true, named := ["math/bits.divideError", "math/bits.overflowError"], apart := false }
def CalcDotsSaid : Prop := calcDotsRow.holds Try.pinned (OpenSpec.ofChange calcDotsSpec)

/-- ITS FALSE NEIGHBOUR: 'it returns false'. Refute it at one input. -/
def calcDotsWrong : ChangeSpec := { name := "calcDots", fn := fun _ => fun
  | [d] => { results := [.lit (.bool false)], args := [d] }
  | _ => none }
def CalcDotsWrongFalsely : Prop := calcDotsRow.holds Try.pinned (OpenSpec.ofChange calcDotsWrong)

/-- 'maquettelaw3.CalcValues': WHATEVER THE INPUT: true; the input reads as it did. -/
def calcValuesSpec : ChangeSpec := { name := "calcValues", fn := fun _ => fun
  | [d1, d2] => { results := [.lit (.bool true)], args := [d1, d2] }
  | _ => none }
def calcValuesRow : OpenClaim := { program := "ytjkidepgjbnflab", sum := "798af93ab56742890bda1ed219503eff59dcbbfa7d12eba14835cc9ac7986120", func := "maquette/maquettelaw3.CalcValues", spec := "calcValues", unfollowed := true, recurses := true, named := ["math/bits.divideError", "math/bits.overflowError"], apart := false }
def CalcValuesSaid : Prop := calcValuesRow.holds Try.pinned (OpenSpec.ofChange calcValuesSpec)

/-- ITS FALSE NEIGHBOUR: 'it returns false'. Refute it at one input. -/
def calcValuesWrong : ChangeSpec := { name := "calcValues", fn := fun _ => fun
  | [d1, d2] => { results := [.lit (.bool false)], args := [d1, d2] }
  | _ => none }
def CalcValuesWrongFalsely : Prop := calcValuesRow.holds Try.pinned (OpenSpec.ofChange calcValuesWrong)

/- THE SECOND FORM. 'bulk': how many values and letters a reading holds, each counted each time it is reached (what is shared counts as often as it is met; a slice's spare places count too). A statement '..UptoSaid' is the law's where the arguments, and the package variables that the reading takes, are together of bulk at most 1048576: NARROWER than '..Said'. Prove '..Said' where nothing that the law and all that it calls make is longer than what came in: it says more and counts as full. Else prove '..UptoSaid'. A law counts once. -/
mutual
def uptoBulk {H : Type} : DataW H → Nat
  | .lit (.string bytes) => bytes.length + 1
  | .lit _ => 1
  | .nil => 1
  | .ptr d => uptoBulk d + 1
  | .slice elems spare => uptoBulkAll elems + uptoBulkAll spare + 1
  | .agg parts => uptoBulkAll parts + 1
  | .iface _ d => uptoBulk d + 1
  | .map entries => uptoBulkEntries entries + 1
  | .held _ => 1
def uptoBulkAll {H : Type} : List (DataW H) → Nat
  | [] => 0
  | d :: r => uptoBulk d + uptoBulkAll r
def uptoBulkEntries {H : Type} : List (Lit × DataW H) → Nat
  | [] => 0
  | x :: r => uptoBulkEntry x + uptoBulkEntries r
def uptoBulkEntry {H : Type} : Lit × DataW H → Nat
  | (.string bytes, d) => bytes.length + uptoBulk d + 1
  | (_, d) => uptoBulk d + 1
 end
def uptoSmall : (H : Type) → List (DataW H) → Bool := fun _ ds => decide (uptoBulkAll ds ≤ 1048576)
def OpenSpec.upto (s : _root_.Go.ChangeSpec) : _root_.Go.OpenSpec := { _root_.Go.OpenSpec.ofChange s with cond := some uptoSmall }

/-- 'maquettelaw3.CalcDots', WHERE WHAT IT READS IS OF BULK AT MOST 1048576: true; the input reads as it did. -/
def calcDotsUptoRow : OpenClaim := { program := "ytjkidepgjbnflab", sum := "798af93ab56742890bda1ed219503eff59dcbbfa7d12eba14835cc9ac7986120", func := "maquette/maquettelaw3.CalcDots", spec := "calcDots", unfollowed := true, recurses := true, named := ["math/bits.divideError", "math/bits.overflowError"], apart := false, narrowed := true }
def CalcDotsUptoSaid : Prop := calcDotsUptoRow.holds Try.pinned (OpenSpec.upto calcDotsSpec)

/-- 'maquettelaw3.CalcValues', WHERE WHAT IT READS IS OF BULK AT MOST 1048576: true; the input reads as it did. -/
def calcValuesUptoRow : OpenClaim := { program := "ytjkidepgjbnflab", sum := "798af93ab56742890bda1ed219503eff59dcbbfa7d12eba14835cc9ac7986120", func := "maquette/maquettelaw3.CalcValues", spec := "calcValues", unfollowed := true, recurses := true, named := ["math/bits.divideError", "math/bits.overflowError"], apart := false, narrowed := true }
def CalcValuesUptoSaid : Prop := calcValuesUptoRow.holds Try.pinned (OpenSpec.upto calcValuesSpec)

end Rows
end Go.Proofs.Ytjkidepgjbnflab

/-
  No cell of these rows narrows 'for every input' (looked for: loops, veiled, ifaces, maps, wideKeys, modest, calm, conditions, laid).
  DERIVED. THE GIVEN ROWS OF THIS SEAT. 6 by the template 'for every input the law returns true; each argument reads behind the call as it read before'; 0 by the template 'total and deterministic' (their statements: YtjkidepgjbnflaaTotals.lean).
  GIVEN WITH THE SEED: the statements are not yours to turn. If you find one false, say at which input.
  Laid BY PROGRAM, IN A SANDBOX (cutbox-rows.mjs): the forced cells as the released guide's own fill.sh prints them over the translation 8dfb9107b262e660… (all of the seat's roots in one cut). By AI agents, Wed Nov 11 2026. No macro, syntax, notation, axiom, sorry.
-/
import Derived.Test.YtjkidepgjbnflaaChecked
import GoSem.Claim
import GoSem.ClaimJoined
import GoSem.ClaimMapViews
import Derived.JoinedTies
import Derived.KernelRfl
namespace Go.Proofs.Ytjkidepgjbnflaa
/- THE CELL 'sum', in the pinned program and in every row, IS THE sha256 OF THE DUMP (.gsa) THAT YtjkidepgjbnflaaProg.lean LOADS. Nothing in Lean hashes anything: it is a label: what it is worth is what the hold of that sum in a sandbox is worth. -/
noncomputable def Try.pinned : Pinned := { name := "ytjkidepgjbnflaa", sum := "8dfb9107b262e660057407b36df254af78bb13265527e06aea6d17e56b5ed243", checked := Try.checked }
namespace Rows
def none {H : Type} : Left H := { results := [], args := [] }

/-- 'maquettelaw3.CalcTells': WHATEVER THE INPUT: true; the input reads as it did. -/
def calcTellsSpec : ChangeSpec := { name := "calcTells", fn := fun _ => fun
  | [d1, d2, d3] => { results := [.lit (.bool true)], args := [d1, d2, d3] }
  | _ => none }
def calcTellsRow : OpenClaim := { program := "ytjkidepgjbnflaa", sum := "8dfb9107b262e660057407b36df254af78bb13265527e06aea6d17e56b5ed243", func := "maquette/maquettelaw3.CalcTells", spec := "calcTells", unfollowed := true, recurses := true, named := ["math/bits.divideError", "math/bits.overflowError"], apart := false }
def CalcTellsSaid : Prop := calcTellsRow.holds Try.pinned (OpenSpec.ofChange calcTellsSpec)

/-- ITS FALSE NEIGHBOUR: 'it returns false'. Refute it at one input. -/
def calcTellsWrong : ChangeSpec := { name := "calcTells", fn := fun _ => fun
  | [d1, d2, d3] => { results := [.lit (.bool false)], args := [d1, d2, d3] }
  | _ => none }
def CalcTellsWrongFalsely : Prop := calcTellsRow.holds Try.pinned (OpenSpec.ofChange calcTellsWrong)

/-- 'maquettelaw3.CalcPanics': WHATEVER THE INPUT: true; the input reads as it did. -/
def calcPanicsSpec : ChangeSpec := { name := "calcPanics", fn := fun _ => fun
  | [d1, d2] => { results := [.lit (.bool true)], args := [d1, d2] }
  | _ => none }
def calcPanicsRow : OpenClaim := { program := "ytjkidepgjbnflaa", sum := "8dfb9107b262e660057407b36df254af78bb13265527e06aea6d17e56b5ed243", func := "maquette/maquettelaw3.CalcPanics", spec := "calcPanics", unfollowed := true, recurses := true, named := ["math/bits.divideError", "math/bits.overflowError"], apart := false }
def CalcPanicsSaid : Prop := calcPanicsRow.holds Try.pinned (OpenSpec.ofChange calcPanicsSpec)

/-- ITS FALSE NEIGHBOUR: 'it returns false'. Refute it at one input. -/
def calcPanicsWrong : ChangeSpec := { name := "calcPanics", fn := fun _ => fun
  | [d1, d2] => { results := [.lit (.bool false)], args := [d1, d2] }
  | _ => none }
def CalcPanicsWrongFalsely : Prop := calcPanicsRow.holds Try.pinned (OpenSpec.ofChange calcPanicsWrong)

/-- 'maquettelaw3.CalcSums': WHATEVER THE INPUT: true; the input reads as it did. -/
def calcSumsSpec : ChangeSpec := { name := "calcSums", fn := fun _ => fun
  | [d1, d2] => { results := [.lit (.bool true)], args := [d1, d2] }
  | _ => none }
def calcSumsRow : OpenClaim := { program := "ytjkidepgjbnflaa", sum := "8dfb9107b262e660057407b36df254af78bb13265527e06aea6d17e56b5ed243", func := "maquette/maquettelaw3.CalcSums", spec := "calcSums", unfollowed := true, recurses := true, named := ["math/bits.divideError", "math/bits.overflowError"], apart := false }
def CalcSumsSaid : Prop := calcSumsRow.holds Try.pinned (OpenSpec.ofChange calcSumsSpec)

/-- ITS FALSE NEIGHBOUR: 'it returns false'. Refute it at one input. -/
def calcSumsWrong : ChangeSpec := { name := "calcSums", fn := fun _ => fun
  | [d1, d2] => { results := [.lit (.bool false)], args := [d1, d2] }
  | _ => none }
def CalcSumsWrongFalsely : Prop := calcSumsRow.holds Try.pinned (OpenSpec.ofChange calcSumsWrong)

/-- 'maquettelaw3.CalcBehind': WHATEVER THE INPUT: true; the input reads as it did. -/
def calcBehindSpec : ChangeSpec := { name := "calcBehind", fn := fun _ => fun
  | [d] => { results := [.lit (.bool true)], args := [d] }
  | _ => none }
def calcBehindRow : OpenClaim := { program := "ytjkidepgjbnflaa", sum := "8dfb9107b262e660057407b36df254af78bb13265527e06aea6d17e56b5ed243", func := "maquette/maquettelaw3.CalcBehind", spec := "calcBehind", unfollowed := true, recurses := true, named := ["math/bits.divideError", "math/bits.overflowError"], apart := false }
def CalcBehindSaid : Prop := calcBehindRow.holds Try.pinned (OpenSpec.ofChange calcBehindSpec)

/-- ITS FALSE NEIGHBOUR: 'it returns false'. Refute it at one input. -/
def calcBehindWrong : ChangeSpec := { name := "calcBehind", fn := fun _ => fun
  | [d] => { results := [.lit (.bool false)], args := [d] }
  | _ => none }
def CalcBehindWrongFalsely : Prop := calcBehindRow.holds Try.pinned (OpenSpec.ofChange calcBehindWrong)

/-- 'maquettelaw3.CalcNested': WHATEVER THE INPUT: true; the input reads as it did. -/
def calcNestedSpec : ChangeSpec := { name := "calcNested", fn := fun _ => fun
  | [d1, d2, d3] => { results := [.lit (.bool true)], args := [d1, d2, d3] }
  | _ => none }
def calcNestedRow : OpenClaim := { program := "ytjkidepgjbnflaa", sum := "8dfb9107b262e660057407b36df254af78bb13265527e06aea6d17e56b5ed243", func := "maquette/maquettelaw3.CalcNested", spec := "calcNested", unfollowed := true, recurses := true, named := ["math/bits.divideError", "math/bits.overflowError"], apart := false }
def CalcNestedSaid : Prop := calcNestedRow.holds Try.pinned (OpenSpec.ofChange calcNestedSpec)

/-- ITS FALSE NEIGHBOUR: 'it returns false'. Refute it at one input. -/
def calcNestedWrong : ChangeSpec := { name := "calcNested", fn := fun _ => fun
  | [d1, d2, d3] => { results := [.lit (.bool false)], args := [d1, d2, d3] }
  | _ => none }
def CalcNestedWrongFalsely : Prop := calcNestedRow.holds Try.pinned (OpenSpec.ofChange calcNestedWrong)

/-- 'maquettelaw3.CalcOrder': WHATEVER THE INPUT: true; the input reads as it did. -/
def calcOrderSpec : ChangeSpec := { name := "calcOrder", fn := fun _ => fun
  | [d1, d2] => { results := [.lit (.bool true)], args := [d1, d2] }
  | _ => none }
def calcOrderRow : OpenClaim := { program := "ytjkidepgjbnflaa", sum := "8dfb9107b262e660057407b36df254af78bb13265527e06aea6d17e56b5ed243", func := "maquette/maquettelaw3.CalcOrder", spec := "calcOrder", unfollowed := true, recurses := true, named := ["math/bits.divideError", "math/bits.overflowError"], apart := false }
def CalcOrderSaid : Prop := calcOrderRow.holds Try.pinned (OpenSpec.ofChange calcOrderSpec)

/-- ITS FALSE NEIGHBOUR: 'it returns false'. Refute it at one input. -/
def calcOrderWrong : ChangeSpec := { name := "calcOrder", fn := fun _ => fun
  | [d1, d2] => { results := [.lit (.bool false)], args := [d1, d2] }
  | _ => none }
def CalcOrderWrongFalsely : Prop := calcOrderRow.holds Try.pinned (OpenSpec.ofChange calcOrderWrong)

/- THE SECOND FORM. 'bulk': how many values and letters a reading holds, each counted each time it is reached (what is shared counts as often as it is met; a slice's spare places count too). A statement '..UptoSaid' is the law's where the arguments, and the package variables that the reading takes, are together of bulk at most 1048576: NARROWER than '..Said'. Prove '..Said' where nothing that the law and all that it calls make is longer than what came in: it says more and counts as full. Else prove '..UptoSaid'. A law counts once. -/
mutual
def uptoBulk {H : Type} : DataW H → Nat
  | .lit (.string bytes) => bytes.length + 1
  | .lit _ => 1
  | .nil => 1
  | .ptr d => uptoBulk d + 1
  | .slice elems spare => uptoBulkAll elems + uptoBulkAll spare + 1
  | .agg parts => uptoBulkAll parts + 1
  | .iface _ d => uptoBulk d + 1
  | .map entries => uptoBulkEntries entries + 1
  | .held _ => 1
def uptoBulkAll {H : Type} : List (DataW H) → Nat
  | [] => 0
  | d :: r => uptoBulk d + uptoBulkAll r
def uptoBulkEntries {H : Type} : List (Lit × DataW H) → Nat
  | [] => 0
  | x :: r => uptoBulkEntry x + uptoBulkEntries r
def uptoBulkEntry {H : Type} : Lit × DataW H → Nat
  | (.string bytes, d) => bytes.length + uptoBulk d + 1
  | (_, d) => uptoBulk d + 1
 end
def uptoSmall : (H : Type) → List (DataW H) → Bool := fun _ ds => decide (uptoBulkAll ds ≤ 1048576)
def OpenSpec.upto (s : _root_.Go.ChangeSpec) : _root_.Go.OpenSpec := { _root_.Go.OpenSpec.ofChange s with cond := some uptoSmall }

/-- 'maquettelaw3.CalcTells', WHERE WHAT IT READS IS OF BULK AT MOST 1048576: true; the input reads as it did. -/
def calcTellsUptoRow : OpenClaim := { program := "ytjkidepgjbnflaa", sum := "8dfb9107b262e660057407b36df254af78bb13265527e06aea6d17e56b5ed243", func := "maquette/maquettelaw3.CalcTells", spec := "calcTells", unfollowed := true, recurses := true, named := ["math/bits.divideError", "math/bits.overflowError"], apart := false, narrowed := true }
def CalcTellsUptoSaid : Prop := calcTellsUptoRow.holds Try.pinned (OpenSpec.upto calcTellsSpec)

/-- 'maquettelaw3.CalcPanics', WHERE WHAT IT READS IS OF BULK AT MOST 1048576: true; the input reads as it did. -/
def calcPanicsUptoRow : OpenClaim := { program := "ytjkidepgjbnflaa", sum := "8dfb9107b262e660057407b36df254af78bb13265527e06aea6d17e56b5ed243", func := "maquette/maquettelaw3.CalcPanics", spec := "calcPanics", unfollowed := true, recurses := true, named := ["math/bits.divideError", "math/bits.overflowError"], apart := false, narrowed := true }
def CalcPanicsUptoSaid : Prop := calcPanicsUptoRow.holds Try.pinned (OpenSpec.upto calcPanicsSpec)

/-- 'maquettelaw3.CalcSums', WHERE WHAT IT READS IS OF BULK AT MOST 1048576: true; the input reads as it did. -/
def calcSumsUptoRow : OpenClaim := { program := "ytjkidepgjbnflaa", sum := "8dfb9107b262e660057407b36df254af78bb13265527e06aea6d17e56b5ed243", func := "maquette/maquettelaw3.CalcSums", spec := "calcSums", unfollowed := true, recurses := true, named := ["math/bits.divideError", "math/bits.overflowError"], apart := false, narrowed := true }
def CalcSumsUptoSaid : Prop := calcSumsUptoRow.holds Try.pinned (OpenSpec.upto calcSumsSpec)

/-- 'maquettelaw3.CalcBehind', WHERE WHAT IT READS IS OF BULK AT MOST 1048576: true; the input reads as it did. -/
def calcBehindUptoRow : OpenClaim := { program := "ytjkidepgjbnflaa", sum := "8dfb9107b262e660057407b36df254af78bb13265527e06aea6d17e56b5ed243", func := "maquette/maquettelaw3.CalcBehind", spec := "calcBehind", unfollowed := true, recurses := true, named := ["math/bits.divideError", "math/bits.overflowError"], apart := false, narrowed := true }
def CalcBehindUptoSaid : Prop := calcBehindUptoRow.holds Try.pinned (OpenSpec.upto calcBehindSpec)

/-- 'maquettelaw3.CalcNested', WHERE WHAT IT READS IS OF BULK AT MOST 1048576: true; the input reads as it did. -/
def calcNestedUptoRow : OpenClaim := { program := "ytjkidepgjbnflaa", sum := "8dfb9107b262e660057407b36df254af78bb13265527e06aea6d17e56b5ed243", func := "maquette/maquettelaw3.CalcNested", spec := "calcNested", unfollowed := true, recurses := true, named := ["math/bits.divideError", "math/bits.overflowError"], apart := false, narrowed := true }
def CalcNestedUptoSaid : Prop := calcNestedUptoRow.holds Try.pinned (OpenSpec.upto calcNestedSpec)

/-- 'maquettelaw3.CalcOrder', WHERE WHAT IT READS IS OF BULK AT MOST 1048576: true; the input reads as it did. -/
def calcOrderUptoRow : OpenClaim := { program := "ytjkidepgjbnflaa", sum := "8dfb9107b262e660057407b36df254af78bb13265527e06aea6d17e56b5ed243", func := "maquette/maquettelaw3.CalcOrder", spec := "calcOrder", unfollowed := true, recurses := true, named := ["math/bits.divideError", "math/bits.overflowError"], apart := false, narrowed := true }
def CalcOrderUptoSaid : Prop := calcOrderUptoRow.holds Try.pinned (OpenSpec.upto calcOrderSpec)

end Rows
end Go.Proofs.Ytjkidepgjbnflaa

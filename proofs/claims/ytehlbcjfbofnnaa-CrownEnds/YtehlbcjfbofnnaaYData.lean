/-
  A crown as an argument: its data opened, and shut again.
-/
import Derived.Test.YtehlbcjfbofnnaaYPut
import Derived.Lib.SmallJoins
import Derived.ProofKit
import Derived.OpenShut
namespace Go.Proofs.Ytehlbcjfbofnnaa
open Go.ChangeShapes Go.WideShapes Go.ChangeAt Go.RowKit Go.Joins

theorem cells_crown : Try.prog.cellsOf 23 = 3 := by kernel_rfl
def Cr.dat {H : Type} (c : Cr) : DataW H := .agg [.lit (.int .i64 c.g), .lit (.int .i64 c.r), .lit (.int .i64 c.p)]
theorem wf_inY {x : Int} (h : inF x) : (Lit.int .i64 x).wf = true := by
  unfold inF at h
  simp [Lit.wf, IntKind.min, IntKind.max, IntKind.signed, IntKind.bits]
  omega
section
variable {H : Type} {enc : TypeId × Value → H} {W : World} {base : Nat} {spare : Nat → Bool} {held : Bool}
set_option maxRecDepth 100000 in
theorem open_crown {r : Reach} {b0 : Nat} {v : Value} {d : DataW H} {ps : List MemPlace} (hval : Value.okWide Try.prog W r b0 23 v) (h : DataW.Trod enc Try.prog W base spare held 23 v d ps) :
    ∃ c : Cr, v = c.val ∧ d = c.dat ∧ ps = [] ∧ c.ok := by
  obtain ⟨c0, c1, c2, y0, y1, y2, m, rfl, rfl, rfl, hy0, hy1, hy2⟩ := open_agg3 Try.underlying23 (by kernel_rfl) cells_crown hval h
  obtain ⟨a, e0, rfl, wa⟩ := DataW.trod_int Try.underlying3 hy0
  obtain ⟨b, e1, rfl, wb⟩ := DataW.trod_int Try.underlying3 hy1
  obtain ⟨c, e2, rfl, wc⟩ := DataW.trod_int Try.underlying3 hy2
  simp at e0 e1 e2
  subst e0 e1 e2
  exact ⟨⟨a, b, c⟩, rfl, rfl, rfl, inF_wf wa, inF_wf wb, inF_wf wc⟩
set_option maxRecDepth 100000 in
theorem shut_crown {c : Cr} (o : c.ok) : DataW.Trod enc Try.prog W base spare held 23 c.val c.dat [] :=
  shut_agg3 (y0 := (.lit (.int .i64 c.g), [])) (y1 := (.lit (.int .i64 c.r), [])) (y2 := (.lit (.int .i64 c.p), [])) Try.underlying23 (by kernel_rfl) cells_crown ⟨1, by simp [DataW.trod, Try.underlying3, wf_inY o.1]⟩ ⟨1, by simp [DataW.trod, Try.underlying3, wf_inY o.2.1]⟩ ⟨1, by simp [DataW.trod, Try.underlying3, wf_inY o.2.2]⟩
end
end Go.Proofs.Ytehlbcjfbofnnaa

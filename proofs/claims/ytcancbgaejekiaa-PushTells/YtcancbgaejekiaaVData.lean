/-
  A place as an argument: its data opened, and shut again.
-/
import Derived.Test.YtcancbgaejekiaaRows
import Derived.Test.YtcancbgaejekiaaVVec
import Derived.Lib.SmallJoins
import Derived.ProofKit
import Derived.OpenShut
namespace Go.Proofs.Ytcancbgaejekiaa
open Go.ChangeShapes Go.WideShapes Go.ChangeAt Go.RowKit Go.Joins

theorem cells_vec : Try.prog.cellsOf 24 = 2 := by kernel_rfl
section
variable {H : Type} {enc : TypeId × Value → H} {W : World} {base : Nat} {spare : Nat → Bool} {held : Bool}
set_option maxRecDepth 100000 in
theorem open_vec {r : Reach} {b0 : Nat} {v : Value} {d : DataW H} {ps : List MemPlace} (hval : Value.okWide Try.prog W r b0 24 v) (h : DataW.Trod enc Try.prog W base spare held 24 v d ps) :
    ∃ x y : Int, v = vec x y ∧ d = .agg [.lit (.int .i64 x), .lit (.int .i64 y)] ∧ ps = [] ∧ inF x ∧ inF y := by
  obtain ⟨c0, c1, y0, y1, m, rfl, rfl, rfl, hy0, hy1⟩ := open_agg2 Try.underlying24 (by kernel_rfl) cells_vec hval h
  obtain ⟨a, e0, rfl, wa⟩ := DataW.trod_int Try.underlying22 hy0
  obtain ⟨b, e1, rfl, wb⟩ := DataW.trod_int Try.underlying22 hy1
  simp at e0 e1
  subst e0 e1
  exact ⟨a, b, rfl, rfl, rfl, inF_wf wa, inF_wf wb⟩
theorem wf_inF {x : Int} (h : inF x) : (Lit.int .i64 x).wf = true := by
  unfold inF at h
  simp [Lit.wf, IntKind.min, IntKind.max, IntKind.signed, IntKind.bits]
  omega
set_option maxRecDepth 100000 in
theorem shut_vec {x y : Int} (hx : inF x) (hy : inF y) : DataW.Trod enc Try.prog W base spare held 24 (vec x y) (.agg [.lit (.int .i64 x), .lit (.int .i64 y)]) [] :=
  shut_agg2 (y0 := (.lit (.int .i64 x), [])) (y1 := (.lit (.int .i64 y), [])) Try.underlying24 (by kernel_rfl) cells_vec ⟨1, by simp [DataW.trod, Try.underlying22, wf_inF hx]⟩ ⟨1, by simp [DataW.trod, Try.underlying22, wf_inF hy]⟩
theorem cells_fix : Try.prog.cellsOf 22 = 1 := by kernel_rfl
theorem cells_int : Try.prog.cellsOf 3 = 1 := by kernel_rfl
theorem trod_fix {n : Nat} {c : Value} {y : DataW H × List MemPlace} (h : DataW.trod enc Try.prog W base spare held n 22 [c] = some y) : ∃ a, c = .int .i64 a ∧ y = (.lit (.int .i64 a), []) ∧ inF a := by
  obtain ⟨a, e0, rfl, wa⟩ := DataW.trod_int Try.underlying22 h
  simp at e0
  exact ⟨a, e0, rfl, inF_wf wa⟩
theorem trod_int1 {n : Nat} {c : Value} {y : DataW H × List MemPlace} (h : DataW.trod enc Try.prog W base spare held n 3 [c] = some y) : ∃ a, c = .int .i64 a ∧ y = (.lit (.int .i64 a), []) ∧ inF a := by
  obtain ⟨a, e0, rfl, wa⟩ := DataW.trod_int Try.underlying3 h
  simp at e0
  exact ⟨a, e0, rfl, inF_wf wa⟩
theorem trod_vec {n : Nat} {c d : Value} {y : DataW H × List MemPlace} (h : DataW.trod enc Try.prog W base spare held n 24 [c, d] = some y) :
    ∃ a b, c = .int .i64 a ∧ d = .int .i64 b ∧ y = (.agg [.lit (.int .i64 a), .lit (.int .i64 b)], []) ∧ inF a ∧ inF b := by
  obtain ⟨y0, y1, m, rfl, _, h0, h1⟩ := trod_struct2 Try.underlying24 h
  simp only [cells_fix] at h0 h1
  obtain ⟨a, rfl, rfl, fa⟩ := trod_fix (c := c) (by simpa using h0)
  obtain ⟨b, rfl, rfl, fb⟩ := trod_fix (c := d) (by simpa using h1)
  exact ⟨a, b, rfl, rfl, rfl, fa, fb⟩
theorem shut_fixC {x : Int} (h : inF x) (n : Nat) : DataW.trod enc Try.prog W base spare held (n + 1) 22 [.int .i64 x] = some (.lit (.int .i64 x), []) := by
  simp [DataW.trod, Try.underlying22, wf_inF h]
theorem shut_intC {x : Int} (h : inF x) (n : Nat) : DataW.trod enc Try.prog W base spare held (n + 1) 3 [.int .i64 x] = some (.lit (.int .i64 x), []) := by
  simp [DataW.trod, Try.underlying3, wf_inF h]
theorem shut_vecC {x y : Int} (hx : inF x) (hy : inF y) (n : Nat) : DataW.trod enc Try.prog W base spare held (n + 2) 24 [.int .i64 x, .int .i64 y] = some (.agg [.lit (.int .i64 x), .lit (.int .i64 y)], []) :=
  trod_struct2_mk (n := n + 1) (y0 := (.lit (.int .i64 x), [])) (y1 := (.lit (.int .i64 y), [])) Try.underlying24 (by rw [cells_vec]; rfl) (by simp only [cells_fix]; exact shut_fixC hx n) (by simp only [cells_fix]; exact shut_fixC hy n)
end
end Go.Proofs.Ytcancbgaejekiaa

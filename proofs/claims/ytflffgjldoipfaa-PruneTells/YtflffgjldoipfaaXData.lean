/-
  A box as an argument: its data opened, and shut again.
-/
import Derived.Test.YtflffgjldoipfaaVData
import Derived.Test.YtflffgjldoipfaaXBox
namespace Go.Proofs.Ytflffgjldoipfaa
open Go.ChangeShapes Go.WideShapes Go.ChangeAt Go.RowKit Go.Joins

theorem array4 {α : Type} {cs : Array α} (h : cs.size = 4) : ∃ c0 c1 c2 c3, cs = #[c0, c1, c2, c3] := by
  obtain ⟨l⟩ := cs
  match l, h with
  | [c0, c1, c2, c3], _ => exact ⟨c0, c1, c2, c3, rfl⟩
section
variable {H : Type} {enc : TypeId × Value → H} {W : World} {base : Nat} {spare : Nat → Bool} {held : Bool}
theorem cells_box : Try.prog.cellsOf 28 = 4 := by kernel_rfl
/-- A box's data. -/
def Bx.dat {H : Type} (b : Bx) : DataW H := .agg [.agg [.lit (.int .i64 b.l), .lit (.int .i64 b.m)], .agg [.lit (.int .i64 b.h), .lit (.int .i64 b.k)]]
set_option maxRecDepth 100000 in
theorem trod_box {n : Nat} {c0 c1 c2 c3 : Value} {y : DataW H × List MemPlace} (h : DataW.trod enc Try.prog W base spare held n 28 [c0, c1, c2, c3] = some y) :
    ∃ b : Bx, [c0, c1, c2, c3] = b.row ∧ y = (b.dat, []) ∧ b.ok := by
  obtain ⟨y0, y1, m, rfl, _, h0, h1⟩ := trod_struct2 Try.underlying28 h
  simp only [cells_vec] at h0 h1
  obtain ⟨l, m, rfl, rfl, rfl, fl, fm⟩ := trod_vec (c := c0) (d := c1) (by simpa using h0)
  obtain ⟨u, k, rfl, rfl, rfl, fh, fk⟩ := trod_vec (c := c2) (d := c3) (by simpa using h1)
  exact ⟨⟨l, m, u, k⟩, rfl, rfl, ⟨fl, fm, fh, fk⟩⟩
set_option maxRecDepth 100000 in
theorem open_box {r : Reach} {b0 : Nat} {v : Value} {d : DataW H} {ps : List MemPlace} (hval : Value.okWide Try.prog W r b0 28 v) (h : DataW.Trod enc Try.prog W base spare held 28 v d ps) :
    ∃ b : Bx, v = b.val ∧ d = b.dat ∧ ps = [] ∧ b.ok := by
  obtain ⟨cs, rfl, hsz⟩ := okWide_struct Try.underlying28 hval
  obtain ⟨c0, c1, c2, c3, rfl⟩ := array4 (hsz.trans cells_box)
  obtain ⟨fuel, hf⟩ := h
  obtain ⟨b, e, hy, ok⟩ := trod_box (n := fuel) (by simpa [Value.cells] using hf)
  simp only [Prod.mk.injEq] at hy
  refine ⟨b, ?_, hy.1, hy.2, ok⟩
  simp [Bx.val, Bx.row] at e ⊢
  exact e
set_option maxRecDepth 100000 in
theorem shut_boxC {b : Bx} (h : b.ok) (n : Nat) : DataW.trod enc Try.prog W base spare held (n + 3) 28 b.row = some (b.dat, []) :=
  trod_struct2_mk (n := n + 2) (y0 := (.agg [.lit (.int .i64 b.l), .lit (.int .i64 b.m)], [])) (y1 := (.agg [.lit (.int .i64 b.h), .lit (.int .i64 b.k)], [])) Try.underlying28 (by rw [cells_box]; rfl) (by simp only [cells_vec]; exact shut_vecC h.l h.m n) (by simp only [cells_vec]; exact shut_vecC h.h h.k n)
set_option maxRecDepth 100000 in
theorem shut_box {b : Bx} (h : b.ok) : DataW.Trod enc Try.prog W base spare held 28 b.val b.dat [] := ⟨3, shut_boxC h 0⟩
end
end Go.Proofs.Ytflffgjldoipfaa

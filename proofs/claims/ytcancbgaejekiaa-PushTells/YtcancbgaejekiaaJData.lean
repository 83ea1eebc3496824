/-
  A contact as an argument: its data opened, and shut again.
-/
import Derived.Test.YtcancbgaejekiaaVData
import Derived.Test.YtcancbgaejekiaaHNum
namespace Go.Proofs.Ytcancbgaejekiaa
open Go.ChangeShapes Go.WideShapes Go.ChangeAt Go.RowKit Go.Joins

theorem array3 {α : Type} {cs : Array α} (h : cs.size = 3) : ∃ c0 c1 c2, cs = #[c0, c1, c2] := by
  obtain ⟨l⟩ := cs
  match l, h with
  | [c0, c1, c2], _ => exact ⟨c0, c1, c2, rfl⟩
section
variable {H : Type} {enc : TypeId × Value → H} {W : World} {base : Nat} {spare : Nat → Bool} {held : Bool}
theorem cells_hit : Try.prog.cellsOf 28 = 3 := by kernel_rfl
def Ht.row (h : Ht) : List Value := [.int .i64 h.x, .int .i64 h.y, .int .i64 h.d]
/-- A contact's data. -/
def Ht.dat {H : Type} (h : Ht) : DataW H := .agg [.agg [.lit (.int .i64 h.x), .lit (.int .i64 h.y)], .lit (.int .i64 h.d)]
set_option maxRecDepth 100000 in
theorem trod_hit {n : Nat} {c0 c1 c2 : Value} {y : DataW H × List MemPlace} (h : DataW.trod enc Try.prog W base spare held n 28 [c0, c1, c2] = some y) :
    ∃ k : Ht, [c0, c1, c2] = k.row ∧ y = (k.dat, []) ∧ k.ok := by
  obtain ⟨y0, y1, m, rfl, _, h0, h1⟩ := trod_struct2 Try.underlying28 h
  simp only [cells_vec, cells_fix] at h0 h1
  obtain ⟨x, z, rfl, rfl, rfl, fx, fz⟩ := trod_vec (c := c0) (d := c1) (by simpa using h0)
  obtain ⟨d, rfl, rfl, fd⟩ := trod_fix (c := c2) (by simpa using h1)
  exact ⟨⟨x, z, d⟩, rfl, rfl, ⟨fx, fz, fd⟩⟩
set_option maxRecDepth 100000 in
theorem open_hit {r : Reach} {b0 : Nat} {v : Value} {d : DataW H} {ps : List MemPlace} (hval : Value.okWide Try.prog W r b0 28 v) (h : DataW.Trod enc Try.prog W base spare held 28 v d ps) :
    ∃ k : Ht, v = k.val ∧ d = k.dat ∧ ps = [] ∧ k.ok := by
  obtain ⟨cs, rfl, hsz⟩ := okWide_struct Try.underlying28 hval
  obtain ⟨c0, c1, c2, rfl⟩ := array3 (hsz.trans cells_hit)
  obtain ⟨fuel, hf⟩ := h
  obtain ⟨b, e, hy, ok⟩ := trod_hit (n := fuel) (by simpa [Value.cells] using hf)
  simp only [Prod.mk.injEq] at hy
  refine ⟨b, ?_, hy.1, hy.2, ok⟩
  simp [Ht.val, Ht.row] at e ⊢
  exact e
set_option maxRecDepth 100000 in
theorem shut_hitC {h : Ht} (o : h.ok) (n : Nat) : DataW.trod enc Try.prog W base spare held (n + 3) 28 h.row = some (h.dat, []) :=
  trod_struct2_mk (n := n + 2) (y0 := (.agg [.lit (.int .i64 h.x), .lit (.int .i64 h.y)], [])) (y1 := (.lit (.int .i64 h.d), [])) Try.underlying28 (by rw [cells_hit]; rfl) (by simp only [cells_vec]; exact shut_vecC o.x o.y n) (by simp only [cells_fix]; exact shut_fixC o.d (n + 1))
set_option maxRecDepth 100000 in
theorem shut_hit {h : Ht} (o : h.ok) : DataW.Trod enc Try.prog W base spare held 28 h.val h.dat [] := ⟨3, shut_hitC o 0⟩
end
end Go.Proofs.Ytcancbgaejekiaa

/-
  A body as an argument: its data opened, and shut again.
-/
import Derived.Test.YtcancbgaejekiaaVData
import Derived.Test.YtcancbgaejekiaaBNum
namespace Go.Proofs.Ytcancbgaejekiaa
open Go.ChangeShapes Go.WideShapes Go.ChangeAt Go.RowKit Go.Joins

theorem array8 {α : Type} {cs : Array α} (h : cs.size = 8) : ∃ c0 c1 c2 c3 c4 c5 c6 c7, cs = #[c0, c1, c2, c3, c4, c5, c6, c7] := by
  obtain ⟨l⟩ := cs
  match l, h with
  | [c0, c1, c2, c3, c4, c5, c6, c7], _ => exact ⟨c0, c1, c2, c3, c4, c5, c6, c7, rfl⟩
section
variable {H : Type} {enc : TypeId × Value → H} {P : Program} {W : World} {base : Nat} {spare : Nat → Bool} {held : Bool}
theorem trod_struct5 {t : TypeId} {f0 f1 f2 f3 f4 : Field} {fuel : Nat} {cs : List Value} {x : DataW H × List MemPlace} (ht : P.underlying t = some (.struct #[f0, f1, f2, f3, f4])) (h : DataW.trod enc P W base spare held fuel t cs = some x) :
    ∃ y0 y1 y2 y3 y4 n, x = (.agg [y0.1, y1.1, y2.1, y3.1, y4.1], y0.2 ++ (y1.2 ++ (y2.2 ++ (y3.2 ++ y4.2)))) ∧ cs.length = P.cellsOf t ∧ DataW.trod enc P W base spare held n f0.type ((cs.drop f0.offset).take (P.cellsOf f0.type)) = some y0 ∧
      DataW.trod enc P W base spare held n f1.type ((cs.drop f1.offset).take (P.cellsOf f1.type)) = some y1 ∧ DataW.trod enc P W base spare held n f2.type ((cs.drop f2.offset).take (P.cellsOf f2.type)) = some y2 ∧
      DataW.trod enc P W base spare held n f3.type ((cs.drop f3.offset).take (P.cellsOf f3.type)) = some y3 ∧ DataW.trod enc P W base spare held n f4.type ((cs.drop f4.offset).take (P.cellsOf f4.type)) = some y4 := by
  obtain ⟨xs, n, _, rfl, hl, hlen, hf⟩ := DataW.trod_struct ht h
  match xs, hlen with
  | [y0, y1, y2, y3, y4], _ => exact ⟨y0, y1, y2, y3, y4, n, by simp, hl, by simpa using hf 0 f0 rfl, by simpa using hf 1 f1 rfl, by simpa using hf 2 f2 rfl, by simpa using hf 3 f3 rfl, by simpa using hf 4 f4 rfl⟩
end
section
variable {H : Type} {enc : TypeId × Value → H} {W : World} {base : Nat} {spare : Nat → Bool} {held : Bool}
theorem cells_body : Try.prog.cellsOf 26 = 8 := by kernel_rfl
/-- A body's data. -/
def Bd.dat {H : Type} (B : Bd) : DataW H := .agg [.lit (.int .i64 B.s), .agg [.lit (.int .i64 B.a), .lit (.int .i64 B.b)], .lit (.int .i64 B.m), .agg [.lit (.int .i64 B.p), .lit (.int .i64 B.q)], .agg [.lit (.int .i64 B.u), .lit (.int .i64 B.v)]]
theorem trod_body {n : Nat} {c0 c1 c2 c3 c4 c5 c6 c7 : Value} {y : DataW H × List MemPlace} (h : DataW.trod enc Try.prog W base spare held n 26 [c0, c1, c2, c3, c4, c5, c6, c7] = some y) :
    ∃ B : Bd, [c0, c1, c2, c3, c4, c5, c6, c7] = B.row ∧ y = (B.dat, []) ∧ B.ok := by
  obtain ⟨y0, y1, y2, y3, y4, m, rfl, _, h0, h1, h2, h3, h4⟩ := trod_struct5 Try.underlying26 h
  simp only [cells_fix, cells_int, cells_vec] at h0 h1 h2 h3 h4
  obtain ⟨s, rfl, rfl, fs⟩ := trod_int1 (c := c0) (by simpa using h0)
  obtain ⟨a, b, rfl, rfl, rfl, fa, fb⟩ := trod_vec (c := c1) (d := c2) (by simpa using h1)
  obtain ⟨m, rfl, rfl, fm⟩ := trod_fix (c := c3) (by simpa using h2)
  obtain ⟨p, q, rfl, rfl, rfl, fp, fq⟩ := trod_vec (c := c4) (d := c5) (by simpa using h3)
  obtain ⟨u, v, rfl, rfl, rfl, fu, fv⟩ := trod_vec (c := c6) (d := c7) (by simpa using h4)
  exact ⟨⟨s, a, b, m, p, q, u, v⟩, rfl, rfl, ⟨fs, fa, fb, fm, fp, fq, fu, fv⟩⟩
theorem open_body {r : Reach} {b0 : Nat} {v : Value} {d : DataW H} {ps : List MemPlace} (hval : Value.okWide Try.prog W r b0 26 v) (h : DataW.Trod enc Try.prog W base spare held 26 v d ps) :
    ∃ B : Bd, v = B.val ∧ d = B.dat ∧ ps = [] ∧ B.ok := by
  obtain ⟨cs, rfl, hsz⟩ := okWide_struct Try.underlying26 hval
  obtain ⟨c0, c1, c2, c3, c4, c5, c6, c7, rfl⟩ := array8 (hsz.trans cells_body)
  obtain ⟨fuel, hf⟩ := h
  obtain ⟨B, e, hy, ok⟩ := trod_body (n := fuel) (by simpa [Value.cells] using hf)
  simp only [Prod.mk.injEq] at hy
  refine ⟨B, ?_, hy.1, hy.2, ok⟩
  simp [Bd.val, Bd.row] at e ⊢
  exact e
theorem shut_bodyC {B : Bd} (h : B.ok) (n : Nat) : DataW.trod enc Try.prog W base spare held (n + 3) 26 B.row = some (B.dat, []) := by
  have := trod_struct_mk (enc := enc) (w := W) (base := base) (spare := spare) (held := held) (n := n + 2) (cs := B.row) (xs := [(.lit (.int .i64 B.s), []), (.agg [.lit (.int .i64 B.a), .lit (.int .i64 B.b)], []), (.lit (.int .i64 B.m), []), (.agg [.lit (.int .i64 B.p), .lit (.int .i64 B.q)], []), (.agg [.lit (.int .i64 B.u), .lit (.int .i64 B.v)], [])]) Try.underlying26 (by rw [cells_body]; rfl)
    (by simp [cells_fix, cells_int, cells_vec, Bd.row, shut_fixC h.m, shut_intC h.s, shut_vecC h.a h.b, shut_vecC h.p h.q, shut_vecC h.u h.v])
  simpa [Bd.dat] using this
theorem shut_body {B : Bd} (h : B.ok) : DataW.Trod enc Try.prog W base spare held 26 B.val B.dat [] := ⟨3, shut_bodyC h 0⟩
end
end Go.Proofs.Ytcancbgaejekiaa

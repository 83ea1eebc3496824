/-
  What the laws on cells say of Leaf and Cells, in their words.
-/
import Derived.Test.YtjcocmoidboamaaZData
import Derived.Test.YtjcocmoidboamaaZZero
namespace Go.Proofs.Ytjcocmoidboamaa
open Go Go.RowKit

theorem byte_wf {a : Int} (h : (Lit.int .u8 a).wf = true) : ∃ n : Nat, a = n ∧ n < 256 := by
  simp [Lit.wf, IntKind.min, IntKind.max, IntKind.signed, IntKind.bits] at h
  exact ⟨a.toNat, by omega, by omega⟩
theorem leaf_empty : isLeaf ByteArray.empty = false := by decide
theorem no_cells : cellsS ByteArray.empty = [] := by
  unfold cellsS
  rw [leaf_empty, if_neg (by decide)]
theorem Cess.below {w w' : World} {a : Option Addr} {C : List Ce} (h : Cess w a C) (g : Below w.heap.size w w') : Cess w' a C := ⟨h.1, h.2.below g⟩
theorem cells_got {s : ByteArray} {C : List Ce} (W : World) (hs : s.size ≤ 1000000000) (h1 : isLeaf s = true) (h2 : cellsS s = C) : Calls Try.prog 21 #[.string s] W fun e w' => ∃ b c, e = .returned (.tuple #[.slice b C.length c, .bool true]) ∧ CellsAt w' b C ∧ Below W.heap.size W w' := by
  refine (cells_any s W hs).mono fun e w' ⟨v, e1, e2, e3⟩ => ?_
  rw [h1] at e1
  rw [h2] at e2
  obtain ⟨b, c, rfl, q4⟩ := cells_of e2
  exact ⟨b, c, e1, q4, e3⟩
theorem cells_no {s : ByteArray} (W : World) (hs : s.size ≤ 1000000000) (h1 : isLeaf s = false) : Calls Try.prog 21 #[.string s] W fun e w' => ∃ b c, e = .returned (.tuple #[.slice b 0 c, .bool false]) ∧ Below W.heap.size W w' := by
  refine (cells_any s W hs).mono fun e w' ⟨v, e1, e2, e3⟩ => ?_
  have h2 : cellsS s = [] := by unfold cellsS; rw [h1, if_neg (by decide)]
  rw [h1] at e1
  rw [h2] at e2
  obtain ⟨b, c, rfl, q4⟩ := cells_of e2
  exact ⟨b, c, e1, e3⟩
theorem conv_got (C : List Ce) (a : Option Addr) (cap : Nat) (W : World) (hS : CellsAt W a C) (hm : C.length ≤ 1000000) : Calls Try.prog 15 #[.slice a C.length cap] W fun e w' => ∃ b c, e = .returned (.slice b C.length c) ∧ CellsAt w' b C ∧ Below W.heap.size W w' := by
  refine (conv_cell C a cap W hS hm).mono fun e w' ⟨v, q1, q2, q3⟩ => ?_
  obtain ⟨b, c, rfl, q4⟩ := cells_of q2
  exact ⟨b, c, q1, q4, q3⟩
end Go.Proofs.Ytjcocmoidboamaa

/-
  Slots, Cells, Link, Index, Leaf and Chain, the package's own beside the document's, in the words of SheetTells.
-/
import Derived.Test.YtjcocmoidboamaaZRefCell
import Derived.Test.YtjcocmoidboamaaZLaws
namespace Go.Proofs.Ytjcocmoidboamaa
open Go Go.RowKit

theorem idxS_len (s : ByteArray) : (idxS s).length ≤ 300 := by
  unfold idxS
  split
  · rw [rawS_len]; have := cnt_lt s; omega
  · simp
theorem cellsS_len (s : ByteArray) : (cellsS s).length ≤ 300 := by
  cases h : isLeaf s with
  | true => rw [cells_code h, tot_len]; have := cnt_lt s; omega
  | false => unfold cellsS; rw [h, if_neg (by decide)]; simp
theorem slots_at (s : ByteArray) (hs : s.size ≤ 1000000000) (W : World) : Calls Try.prog 19 #[.string s] W fun e w' => ∃ b c, e = .returned (.tuple #[.slice b (idxS s).length c, .bool (isIdx s)]) ∧ SlotsAt w' b (idxS s) ∧ Below W.heap.size W w' := by
  refine (slots_any s W hs).mono fun e w' ⟨v, e1, e2, e3⟩ => ?_
  obtain ⟨b, c, rfl, q⟩ := slots_of e2
  exact ⟨b, c, e1, q, e3⟩
theorem refslots_at (s : ByteArray) (W : World) : Calls Try.prog 20 #[.string s] W fun e w' => ∃ b c, e = .returned (.tuple #[.slice b (idxS s).length c, .bool (isIdx s)]) ∧ SlotsAt w' b (idxS s) ∧ Below W.heap.size W w' := by
  refine (refslots_any s W).mono fun e w' ⟨v, e1, e2, e3⟩ => ?_
  obtain ⟨b, c, rfl, q⟩ := slots_of e2
  exact ⟨b, c, e1, q, e3⟩
theorem cells_at (s : ByteArray) (hs : s.size ≤ 1000000000) (W : World) : Calls Try.prog 21 #[.string s] W fun e w' => ∃ b c, e = .returned (.tuple #[.slice b (cellsS s).length c, .bool (isLeaf s)]) ∧ CellsAt w' b (cellsS s) ∧ Below W.heap.size W w' := by
  refine (cells_any s W hs).mono fun e w' ⟨v, e1, e2, e3⟩ => ?_
  obtain ⟨b, c, rfl, q⟩ := cells_of e2
  exact ⟨b, c, e1, q, e3⟩
theorem refcells_at (s : ByteArray) (W : World) : Calls Try.prog 22 #[.string s] W fun e w' => ∃ b c, e = .returned (.tuple #[.slice b (cellsS s).length c, .bool (isLeaf s)]) ∧ CellsAt w' b (cellsS s) ∧ Below W.heap.size W w' := by
  refine (refcells_any s W).mono fun e w' ⟨v, e1, e2, e3⟩ => ?_
  obtain ⟨b, c, rfl, q⟩ := cells_of e2
  exact ⟨b, c, e1, q, e3⟩
theorem reflink_at (s : ByteArray) (W : World) : Calls Try.prog 24 #[.string s] W fun e w' => e = .returned (.tuple #[.int .i64 (linkV s).1, .string (linkV s).2, .bool (isLink s.data.toList)]) ∧ Below W.heap.size W w' :=
  (reflink_any s W).mono fun _ _ h => ⟨h.1, h.2.below⟩
theorem same_slots (C : List Sl) (hm : C.length ≤ 300) (W : World) (a b : Option Addr) (c d : Nat) (h1 : SlotsAt W a C) (h2 : SlotsAt W b C) : Calls Try.prog 25 #[.slice a C.length c, .slice b C.length d] W fun e w' => e = .returned (.bool true) ∧ Below W.heap.size W w' :=
  (same_slot C C a b c d W h1 h2 (by omega) (by omega)).mono fun e w' ⟨q1, q2⟩ => ⟨q1.yes rfl, q2⟩
theorem same_cells (C : List Ce) (hm : C.length ≤ 300) (W : World) (a b : Option Addr) (c d : Nat) (h1 : CellsAt W a C) (h2 : CellsAt W b C) : Calls Try.prog 26 #[.slice a C.length c, .slice b C.length d] W fun e w' => e = .returned (.bool true) ∧ Below W.heap.size W w' :=
  (same_cell C C a b c d W h1 h2 (by omega) (by omega)).mono fun e w' ⟨q1, q2⟩ => ⟨q1.yes rfl, q2⟩
theorem convs_got (C : List Sl) (a : Option Addr) (cap : Nat) (W : World) (hS : SlotsAt W a C) (hm : C.length ≤ 1000000) : Calls Try.prog 12 #[.slice a C.length cap] W fun e w' => ∃ b c, e = .returned (.slice b C.length c) ∧ SlotsAt w' b C ∧ Below W.heap.size W w' := by
  refine (conv_slot C a cap W hS hm).mono fun e w' ⟨v, q1, q2, q3⟩ => ?_
  obtain ⟨b, c, rfl, q4⟩ := slots_of q2
  exact ⟨b, c, q1, q4, q3⟩
theorem idxV_size (S : List Sl) : (idxV S).size ≤ 300 := by
  unfold idxV
  cases h : idxOk S with
  | false => rw [if_neg (by decide)]; decide
  | true =>
    have hn : S.length ≤ 21 := by
      simp only [idxOk, Bool.and_eq_true, decide_eq_true_eq] at h
      exact h.1
    rw [if_pos rfl, txt_size, idxL_len hn]
    omega
theorem leafV_size (C : List Ce) : (leafV C).size ≤ 300 := by
  unfold leafV
  cases h : leafOk C with
  | false => rw [if_neg (by decide)]; decide
  | true => rw [if_pos rfl, txt_size, leafL_len h]; omega
theorem chainV_size (n : Int) (t : List UInt8) : (chainV n t).size ≤ 300 := by
  unfold chainV
  cases h : chainOk n t with
  | false => rw [if_neg (by decide)]; decide
  | true =>
    have hh := (chainOk_iff n t).1 h
    rw [if_pos rfl, txt_size, chainL_len (by omega)]
    omega
end Go.Proofs.Ytjcocmoidboamaa

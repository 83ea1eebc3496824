/-
  Texts of zeros; what kind a page is, case by case.
-/
import Derived.Test.YtjcocmoidboamaaZAlive
namespace Go.Proofs.Ytjcocmoidboamaa
open Go Go.RowKit

theorem zeros_first (n : Nat) {c : UInt8} (hc : c ≠ 0) : ¬ (zerosB n).data.toList.take 1 = [c] := by
  rw [zerosB_txt, list_txt]
  cases n with
  | zero => simp
  | succ n =>
    rw [List.replicate_succ]
    simp
    exact fun e => hc e.symm
theorem kind_zeros (n : Nat) : kindV (zerosB n) = 0 := by
  apply kind_no
  cases h1 : isIdx (zerosB n) with
  | true => exact absurd (head_idx h1).2 (zeros_first n (by decide))
  | false =>
    cases h2 : isLeaf (zerosB n) with
    | true => exact absurd (head_leaf h2).2 (zeros_first n (by decide))
    | false =>
      cases h3 : isLink (zerosB n).data.toList with
      | true => exact absurd (head_link h3).2 (zeros_first n (by decide))
      | false => rfl
/-- A page is an index, a leaf, a piece, or none. -/
theorem four_kinds (s : ByteArray) : (isIdx s = true ∧ isLeaf s = false ∧ isLink s.data.toList = false ∧ kindV s = 73) ∨ (isIdx s = false ∧ isLeaf s = true ∧ isLink s.data.toList = false ∧ kindV s = 76) ∨ (isIdx s = false ∧ isLeaf s = false ∧ isLink s.data.toList = true ∧ kindV s = 67) ∨ (isIdx s = false ∧ isLeaf s = false ∧ isLink s.data.toList = false ∧ kindV s = 0) := by
  obtain ⟨q1, q2⟩ := one_kind s
  unfold kindV
  cases h1 : isIdx s with
  | true => exact .inl ⟨rfl, (q1 h1).1, (q1 h1).2, rfl⟩
  | false =>
    cases h2 : isLeaf s with
    | true => exact .inr (.inl ⟨rfl, rfl, q2 h2, rfl⟩)
    | false =>
      cases h3 : isLink s.data.toList with
      | true => exact .inr (.inr (.inl ⟨rfl, rfl, rfl, rfl⟩))
      | false => exact .inr (.inr (.inr ⟨rfl, rfl, rfl, rfl⟩))
/-- make([]byte, n), as a text. -/
theorem made_zeros (n : Nat) (hn : n ≤ 100000) : (∀ w : World, (Instr.makeSlice 53 (.int .i64 (n : Int)) (.int .i64 (n : Int))).run Try.prog w = .ok (.slice (some ⟨w.heap.size, 0, none⟩) n n) (w.alloc (.cells (madeCells #[Value.int .u8 0] n) 5))) ∧
    ∀ w : World, (convert 53 9 (.slice (some ⟨w.heap.size, 0, none⟩) n n)).run Try.prog (w.alloc (.cells (madeCells #[Value.int .u8 0] n) 5)) = .ok (.string (zerosB n)) (w.alloc (.cells (madeCells #[Value.int .u8 0] n) 5)) := by
  refine ⟨fun w => run_make_row' (P := Try.prog) 53 5 (.int .u8 0) 1 Try.underlying53 (by kernel_rfl) rfl .i64 .i64 n (by omega) (by omega) w, fun w => ?_⟩
  have hl : (List.replicate n (0 : UInt8)).length = n := List.length_replicate
  have h0 : (w.alloc (.cells (madeCells #[Value.int .u8 0] n) 5)).ownsRow w.heap.size 5 1 (.slice (some ⟨w.heap.size, 0, none⟩) n n) n (u8V (List.replicate n 0)) := by
    have := World.ownsRow_lit (e := 5) (base := w.heap.size) (size := 1) w (madeCells #[Value.int .u8 0] n) n (by omega) (by have : maxLen = 9223372036854775807 := rfl; omega) (by rw [size_madeCells, Nat.mul_one])
    rw [toList_madeCells_one] at this
    have e : u8V (List.replicate n 0) = List.replicate n (Value.int .u8 0) := by simp [u8V]
    rw [e]
    exact this
  exact conv_own h0 hl
theorem slots_is (s : ByteArray) (W : World) (hs : s.size ≤ 1000000000) {k : Bool} (h : isIdx s = k) : Calls Try.prog 19 #[.string s] W fun e w' => ∃ v, e = .returned (.tuple #[v, .bool k]) ∧ Below W.heap.size W w' := by
  rw [← h]
  exact (slots_any s W hs).mono fun e w' ⟨v, h, _, B⟩ => ⟨v, h, B⟩
theorem cells_is (s : ByteArray) (W : World) (hs : s.size ≤ 1000000000) {k : Bool} (h : isLeaf s = k) : Calls Try.prog 21 #[.string s] W fun e w' => ∃ v, e = .returned (.tuple #[v, .bool k]) ∧ Below W.heap.size W w' := by
  rw [← h]
  exact (cells_any s W hs).mono fun e w' ⟨v, h, _, B⟩ => ⟨v, h, B⟩
theorem link_is' (s : ByteArray) (W : World) (hs : s.size ≤ 1000000000) {k : Bool} (h : isLink s.data.toList = k) : Calls Try.prog 23 #[.string s] W fun e w' => ∃ a b, e = .returned (.tuple #[.int .i64 a, .string b, .bool k]) ∧ Below W.heap.size W w' := by
  rw [← h]
  exact (link_any s W hs).mono fun e w' ⟨h, B⟩ => ⟨_, _, h, B⟩
theorem kind_is (s : ByteArray) (W : World) (hs : s.size ≤ 1000000000) {k : Nat} (h : kindV s = k) : Calls Try.prog 27 #[.string s] W fun e w' => e = .returned (.int .u8 k) ∧ Below W.heap.size W w' := by
  rw [← h]
  exact kind_any s W hs
end Go.Proofs.Ytjcocmoidboamaa

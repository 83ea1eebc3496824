/-
  The model of package platter at known states; alive of the statements.
-/
import Derived.Test.YtbkkhafckkndfaaGreatPxTOne
namespace Go.Proofs.YtbkkhafckkndfaaGreat
open Go Go.RowKit

theorem storeP_go {N L : List ByteArray} {F : List Wr} {l : Int} {k : Nat} {x : ByteArray} (hk : k < N.length) (hx : x.size = 128) (hl : l < 0) : storeP ⟨N, L, F, l, false⟩ (k : Int) x = (0, ⟨N.set k x, L, F ++ [⟨k, x⟩], l, false⟩) := by
  unfold storeP
  rw [if_neg (by show ¬ (false = true); decide), if_neg (not_not_intro ⟨by omega, by show (k : Int) < N.length; omega⟩), if_neg (not_not_intro hx), if_neg (by show l ≠ 0; omega), if_neg (by show ¬ 0 < l; omega)]
  simp
theorem settleP_go {N L : List ByteArray} {F : List Wr} {l : Int} : settleP ⟨N, L, F, l, false⟩ = (0, ⟨N, settleL F L, [], l, false⟩) := rfl
theorem loadP_go {N L : List ByteArray} {F : List Wr} {l : Int} {k : Nat} (hk : k < N.length) : loadP ⟨N, L, F, l, false⟩ (k : Int) = (pg N k, 0) := by
  unfold loadP
  rw [if_neg (by show ¬ (false = true); decide), if_pos ⟨by omega, by show (k : Int) < N.length; omega⟩]
  simp

def abcB : ByteArray := ⟨#[97, 98, 99]⟩
def xyzB : ByteArray := ⟨#[120, 121, 122]⟩
def xycB : ByteArray := ⟨#[120, 121, 99]⟩
theorem tear_xyc : tear (fillB abcB) (fillB xyzB) 2 = fillB xycB := by decide +kernel
def al1 : Pl := ⟨[zerosB 128, fillB abcB, zerosB 128], [zerosB 128, zerosB 128, zerosB 128], [⟨1, fillB abcB⟩], -1, false⟩
def al2 : Pl := ⟨[zerosB 128, fillB abcB, zerosB 128], [zerosB 128, fillB abcB, zerosB 128], [], -1, false⟩
def al3 : Pl := ⟨[zerosB 128, fillB xyzB, zerosB 128], [zerosB 128, fillB abcB, zerosB 128], [⟨1, fillB xyzB⟩], -1, false⟩
def al4 : Pl := ⟨[zerosB 128, fillB xycB, zerosB 128], [zerosB 128, fillB xycB, zerosB 128], [], -1, false⟩
theorem al_s1 : storeP (newP 3) 1 (fillB abcB) = (0, al1) := storeP_go (k := 1) (by decide) (fillB_size _) (by decide)
theorem al_s2 : settleP al1 = (0, al2) := rfl
theorem al_s3 : storeP al2 1 (fillB xyzB) = (0, al3) := storeP_go (k := 1) (by decide) (fillB_size _) (by decide)
theorem al_s4 : failP al3 [2] = (1, al4) := by
  have : failP al3 [2] = (1, ⟨[zerosB 128, tear (fillB abcB) (fillB xyzB) 2, zerosB 128], [zerosB 128, tear (fillB abcB) (fillB xyzB) 2, zerosB 128], [], -1, false⟩) := rfl
  rw [this, tear_xyc]
  rfl
theorem al_s5 : loadP al4 1 = (fillB xycB, 0) := loadP_go (k := 1) (by decide)

theorem few0 : (0 : Nat) < 1000000 := by decide
theorem lt12 : (1 : Nat) < 2 := by decide
theorem lt01 : (0 : Nat) < 1 := by decide
theorem lt02 : (0 : Nat) < 2 := by decide
set_option maxRecDepth 100000 in
theorem made_zeros (k : Nat) (hk : k ≤ 100000) : ∃ cs : Array Value, (∀ W : World, (Instr.makeSlice 60 (.int .i64 (k : Int)) (.int .i64 (k : Int))).run Tryz.prog W = .ok (.slice (some ⟨W.heap.size, 0, none⟩) k k) (W.alloc (.cells cs 5))) ∧
    ∀ W : World, (convert 60 9 (.slice (some ⟨W.heap.size, 0, none⟩) k k)).run Tryz.prog (W.alloc (.cells cs 5)) = .ok (.string (zerosB k)) (W.alloc (.cells cs 5)) :=
  ⟨madeCells (Value.int .u8 0).cells (k * 1), fun W => run_make (P := Tryz.prog) W 60 5 _ _ Tryz.underlying60 rfl rfl .i64 .i64 k k (by omega) (Int.le_refl _) (by show (1 : Int) * k ≤ _; omega) (by omega),
    fun W => conv_zeros W k _ (by rw [Nat.mul_one]; exact toList_madeCells_one _ _)⟩
/-! ### What the laws say of bytes -/
theorem tear_eq {old new : ByteArray} {c : Nat} (h : old.size = 128) : tear old new c = new.extract 0 c ++ old.extract c 128 := by
  apply ByteArray.ext
  apply Array.ext'
  have h' : old.data.toList.length = 128 := h
  rw [ByteArray.data_append, Array.toList_append]
  simp only [tear, ByteArray.data_extract, Array.toList_extract, List.extract_eq_take_drop]
  rw [Nat.sub_zero, List.drop_zero, List.take_of_length_le (i := 128 - c) (by rw [List.length_drop, h']; exact Nat.le_refl _)]
end Go.Proofs.YtbkkhafckkndfaaGreat

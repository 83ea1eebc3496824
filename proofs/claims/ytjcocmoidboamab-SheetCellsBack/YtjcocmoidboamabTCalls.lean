/-
  What package platter's small calls do at a platter that lies in memory: none, has, Halted, Afloat, Pages, Halt, Load, cutAt; and the statements' Zeros and Fill.
-/
import Derived.Test.YtjcocmoidboamabTMem
import Derived.Laws.BytesArg
import Derived.Laws.Concat
namespace Go.Proofs.Ytjcocmoidboamab
open Go Go.RowKit

section
variable {w : World} {base b g1 c1 g2 c2 c3 : Nat} {a3 : Option Addr} {P : Pl}
theorem strOf_page (x : ByteArray) : strOfNums (x.data.toList.map fun c => (c.toNat : Int)) = x := by
  unfold strOfNums
  rw [List.map_map]
  have : ((fun n : Int => UInt8.ofNat n.toNat) ∘ fun c : UInt8 => (c.toNat : Int)) = id := by
    funext c
    simp
  rw [this]
  simp
end

/-- How many bytes of a store come: the cuts are a slice of ints that may be read. -/
def Cuts (w : World) (a : Option Addr) (l : List Int) : Prop :=
  (∀ x ∈ l, inF x) ∧ (l = [] ∨ ∃ b off, a = some ⟨b, off, none⟩ ∧ ∀ i, i < l.length → w.cell? ⟨b, off + i, none⟩ = some (.int .i64 (l.getD i 0)))
theorem ret_int {x y : Int} (h : x = y) : Ending.returned (.int .i64 x) = .returned (.int .i64 y) := by rw [h]
theorem conv_zeros (w : World) (n : Nat) (cs : Array Value) (hcs : cs.toList = List.replicate n (.int .u8 0)) : (convert 40 9 (.slice (some ⟨w.heap.size, 0, none⟩) n n)).run Try.prog (w.alloc (.cells cs 5)) = .ok (.string (zerosB n)) (w.alloc (.cells cs 5)) := by
  have e : strOfNums (List.replicate n (0 : Int)) = zerosB n := by simp [strOfNums, zerosB]
  rw [← e]
  refine run_convert_bytes_arg _ _ _ Try.underlying40 Try.underlying5 w.heap.size 0 n n _ (by simp) (fun i hi => ?_) _ Try.underlying9
  rw [cell_of_row _ w.heap.size (0 + i) cs _ _ (heap_alloc_new w _), Nat.zero_add]
  have : cs[i]? = (List.replicate n (Value.int .u8 0))[i]? := by rw [← hcs, Array.getElem?_toList]
  rw [this]
  simp [hi, List.getD]
end Go.Proofs.Ytjcocmoidboamab

/-
  What package platter's small calls do at a platter that lies in memory: none, has, Halted, Afloat, Pages, Halt, Load, cutAt; and the statements' Zeros and Fill.
-/
import Derived.Test.YtjcocmoidboamaaTMem
import Derived.Laws.BytesArg
import Derived.Laws.Concat
namespace Go.Proofs.Ytjcocmoidboamaa
open Go Go.RowKit

section
variable {w : World} {base b g1 c1 g2 c2 c3 : Nat} {a3 : Option Addr} {P : Pl}
theorem strOf_page (x : ByteArray) : strOfNums (x.data.toList.map fun c => (c.toNat : Int)) = x := by
  unfold strOfNums
  rw [List.map_map]
  have : ((fun n : Int => UInt8.ofNat n.toNat) ∘ fun c : UInt8 => (c.toNat : Int)) = id := by
    funext c
    simp
  rw [this]
  simp
end

/-- How many bytes of a store come: the cuts are a slice of ints that may be read. -/
def Cuts (w : World) (a : Option Addr) (l : List Int) : Prop :=
  (∀ x ∈ l, inF x) ∧ (l = [] ∨ ∃ b off, a = some ⟨b, off, none⟩ ∧ ∀ i, i < l.length → w.cell? ⟨b, off + i, none⟩ = some (.int .i64 (l.getD i 0)))
theorem ret_int {x y : Int} (h : x = y) : Ending.returned (.int .i64 x) = .returned (.int .i64 y) := by rw [h]
theorem conv_zeros (w : World) (n : Nat) (cs : Array Value) (hcs : cs.toList = List.replicate n (.int .u8 0)) : (convert 53 9 (.slice (some ⟨w.heap.size, 0, none⟩) n n)).run Try.prog (w.alloc (.cells cs 5)) = .ok (.string (zerosB n)) (w.alloc (.cells cs 5)) := by
  have e : strOfNums (List.replicate n (0 : Int)) = zerosB n := by simp [strOfNums, zerosB]
  rw [← e]
  refine run_convert_bytes_arg _ _ _ Try.underlying53 Try.underlying5 w.heap.size 0 n n _ (by simp) (fun i hi => ?_) _ Try.underlying9
  rw [cell_of_row _ w.heap.size (0 + i) cs _ _ (heap_alloc_new w _), Nat.zero_add]
  have : cs[i]? = (List.replicate n (Value.int .u8 0))[i]? := by rw [← hcs, Array.getElem?_toList]
  rw [this]
  simp [hi, List.getD]
theorem zeros_any (w : World) (n : Int) (h0 : 0 ≤ n) (hn : n ≤ 1000) : Calls Try.prog 44 #[.int .i64 n] w fun e w' => e = .returned (.string (zerosB n.toNat)) ∧ Grew w w' := by
  obtain ⟨k, rfl⟩ := Int.eq_ofNat_of_zero_le h0
  have hm : max (k : Int) 0 = k := by omega
  obtain ⟨cs, hcs, hr⟩ : ∃ cs : Array Value, cs.toList = List.replicate k (.int .u8 0) ∧ (Instr.makeSlice 53 (.int .i64 k) (.int .i64 k)).run Try.prog w = .ok (.slice (some ⟨w.heap.size, 0, none⟩) k k) (w.alloc (.cells cs 5)) :=
    ⟨madeCells (Value.int .u8 0).cells (k * 1), by rw [Nat.mul_one]; exact toList_madeCells_one _ _, run_make (P := Try.prog) w 53 5 _ _ Try.underlying53 rfl rfl .i64 .i64 k k (by omega) (Int.le_refl _) (by show (1 : Int) * k ≤ _; omega) (by omega)⟩
  have hc := conv_zeros w k cs hcs
  simp only [Int.toNat_natCast]
  go_enter Try.func44, Try.ntmps44
  go_wp2
  go_ret
  exact ⟨rfl, (Grew.refl w).alloc _ _⟩
theorem fill_any (w : World) (b : ByteArray) : Calls Try.prog 28 #[.string b] w fun e w' => e = .returned (.string (fillB b)) ∧ Grew w w' := by
  go_enter Try.func28, Try.ntmps28
  unfold fillB
  by_cases h : 128 < b.size
  · have hi : (128 : Int) < b.size := by omega
    rw [if_pos h]
    go_wp2
    go_ret
    exact ⟨rfl, Grew.refl w⟩
  · have hi : ¬ (128 : Int) < b.size := by omega
    have hw : wrap64 (128 - (b.size : Int)) = 128 - b.size := IntWalk.wrap64_in _ ⟨by omega, by omega⟩
    have ht : (128 - (b.size : Int)).toNat = 128 - b.size := by omega
    have hz : ¬ 9223372036854775807 < b.size + (zerosB (128 - b.size)).size := by rw [zerosB_size]; omega
    rw [if_neg h]
    go_wp2_with (first | (go_at_call 44; go_fit (zeros_any w (128 - (b.size : Int)) (by omega) (by omega)); rintro e w' ⟨rfl, hG⟩; rw [ht]))
    go_ret
    exact ⟨rfl, hG⟩
end Go.Proofs.Ytjcocmoidboamaa

/-
  What package platter's small calls do at a platter that lies in memory: none, has, Halted, Afloat, Pages, Halt, Load, cutAt; and the statements' Zeros and Fill.
-/
import Derived.Test.YtedhgejkobdihaaTMem
import Derived.Laws.BytesArg
import Derived.Laws.Concat
namespace Go.Proofs.Ytedhgejkobdihaa
open Go Go.RowKit

section
variable {w : World} {base b g1 c1 g2 c2 c3 : Nat} {a3 : Option Addr} {P : Pl}
theorem none_any (h : PAt w base b g1 c1 g2 c2 a3 c3 P) : Calls Try.prog 24 #[.pointer (some ⟨b, 0, none⟩)] w fun e w' => e = .returned (.bool false) ∧ w' = w := by
  have k0 := h.k0
  have hp := h.ok.pos
  go_enter Try.func24, Try.ntmps24
  have hn : ((P.now.length : Int) == 0) = false := by simp; intro e; rw [e] at hp; simp at hp
  go_wp2
  go_ret
  exact ⟨rfl, rfl⟩
theorem none_nil (w : World) : Calls Try.prog 24 #[.pointer none] w fun e w' => e = .returned (.bool true) ∧ w' = w := by
  go_enter Try.func24, Try.ntmps24
  go_wp2
  go_ret
  exact ⟨rfl, rfl⟩
theorem has_any (h : PAt w base b g1 c1 g2 c2 a3 c3 P) (n : Int) : Calls Try.prog 23 #[.pointer (some ⟨b, 0, none⟩), .int .i64 n] w fun e w' => e = .returned (.bool (decide (0 ≤ n ∧ n < P.now.length))) ∧ w' = w := by
  have k0 := h.k0
  go_enter Try.func23, Try.ntmps23
  by_cases h0 : 0 ≤ n
  · go_wp2
    all_goals (go_ret; exact ⟨ret_bool (by simp [h0]), rfl⟩)
  · have h0' := h0
    go_wp2
    all_goals (go_ret; exact ⟨ret_bool (by simp; omega), rfl⟩)
theorem halted_any (h : PAt w base b g1 c1 g2 c2 a3 c3 P) : Calls Try.prog 12 #[.pointer (some ⟨b, 0, none⟩)] w fun e w' => e = .returned (.bool P.dead) ∧ w' = w := by
  have k4 := h.k4
  go_enter Try.func12, Try.ntmps12
  go_wp2_with (first | (go_at_call 24; go_fit (none_any h); rintro e w' ⟨rfl, rfl⟩))
  go_ret
  exact ⟨rfl, rfl⟩
theorem halted_nil (w : World) : Calls Try.prog 12 #[.pointer none] w fun e w' => e = .returned (.bool true) ∧ w' = w := by
  go_enter Try.func12, Try.ntmps12
  go_wp2_with (first | (go_at_call 24; go_fit (none_nil w); rintro e w' ⟨rfl, rfl⟩))
  go_ret
  exact ⟨rfl, rfl⟩
theorem afloat_any (h : PAt w base b g1 c1 g2 c2 a3 c3 P) : Calls Try.prog 14 #[.pointer (some ⟨b, 0, none⟩)] w fun e w' => e = .returned (.int .i64 P.float.length) ∧ w' = w := by
  have k2 := h.k2
  go_enter Try.func14, Try.ntmps14
  go_wp2_with (first | (go_at_call 24; go_fit (none_any h); rintro e w' ⟨rfl, rfl⟩))
  go_ret
  exact ⟨rfl, rfl⟩
theorem pages_any (h : PAt w base b g1 c1 g2 c2 a3 c3 P) : Calls Try.prog 15 #[.pointer (some ⟨b, 0, none⟩)] w fun e w' => e = .returned (.int .i64 P.now.length) ∧ w' = w := by
  have k0 := h.k0
  go_enter Try.func15, Try.ntmps15
  go_wp2_with (first | (go_at_call 24; go_fit (none_any h); rintro e w' ⟨rfl, rfl⟩))
  go_ret
  exact ⟨rfl, rfl⟩
theorem halt_any (h : PAt w base b g1 c1 g2 c2 a3 c3 P) {n : Int} (hn : inF n) : Calls Try.prog 8 #[.pointer (some ⟨b, 0, none⟩), .int .i64 n] w fun e w' => e = .returned (.tuple #[]) ∧ But (fun i => i = b) w w' ∧ PAt w' base b g1 c1 g2 c2 a3 c3 (haltP P n) := by
  have k3 := h.k3
  have z3 := h.z 3
  go_enter Try.func8, Try.ntmps8
  by_cases hd : P.dead = true
  · have e : haltP P n = P := by unfold haltP; rw [if_pos hd]
    go_wp2_with (first | (go_at_call 12; go_fit (halted_any h); rintro e w' ⟨rfl, rfl⟩; rw [hd]))
    refine bodyPost_ret (results_none rfl _ _ _) rfl ?_
    rw [e]
    exact ⟨rfl, But.refl _ _, h⟩
  · have hd' : P.dead = false := by simpa using hd
    go_wp2_with (first | (go_at_call 12; go_fit (halted_any h); rintro e w' ⟨rfl, rfl⟩; rw [hd']))
    have e : haltP P n = { P with left := n } := by unfold haltP; rw [if_neg hd]
    go_end0
    rw [e]
    exact ⟨rfl, (But.refl (fun i => i = b) w').set (b := b) rfl 3 none _, h.left hn⟩
theorem strOf_page (x : ByteArray) : strOfNums (x.data.toList.map fun c => (c.toNat : Int)) = x := by
  unfold strOfNums
  rw [List.map_map]
  have : ((fun n : Int => UInt8.ofNat n.toNat) ∘ fun c : UInt8 => (c.toNat : Int)) = id := by
    funext c
    simp
  rw [this]
  simp
theorem load_any (h : PAt w base b g1 c1 g2 c2 a3 c3 P) (n : Int) : Calls Try.prog 7 #[.pointer (some ⟨b, 0, none⟩), .int .i64 n] w fun e w' => e = .returned (.tuple #[.string (loadP P n).1, .int .i64 (loadP P n).2]) ∧ w' = w := by
  have k0 := h.k0
  go_enter Try.func7, Try.ntmps7
  by_cases hd : P.dead = true
  · have e : loadP P n = (ByteArray.empty, 7) := by unfold loadP; rw [if_pos hd]
    rw [e]
    go_wp2_with (first | (go_at_call 12; go_fit (halted_any h); rintro e w' ⟨rfl, rfl⟩; rw [hd]))
    go_ret2
    exact ⟨rfl, rfl⟩
  · have hd' : P.dead = false := by simpa using hd
    by_cases hn : 0 ≤ n ∧ n < P.now.length
    · have e : loadP P n = (pg P.now n.toNat, 0) := by unfold loadP; rw [if_neg hd, if_pos hn]
      obtain ⟨k, rfl⟩ := Int.eq_ofNat_of_zero_le hn.1
      have hk : k < P.now.length := by omega
      rw [e]
      have hs : (pg P.now k).size = 128 := h.ok.now _ (pg_mem hk)
      have hr := h.page hk
      obtain ⟨x, hx⟩ : ∃ x, x = pg P.now k := ⟨_, rfl⟩
      rw [← hx] at hs hr
      have hv : (convert 53 9 (.slice (some ⟨g1, k * 128, none⟩) 128 128)).run Try.prog w = .ok (.string x) w := by
        rw [← strOf_page x]
        refine run_convert_bytes_arg w _ _ Try.underlying53 Try.underlying5 g1 (k * 128) 128 128 _ (by rw [List.length_map, Array.length_toList]; exact hs) (fun i hi => ?_) _ Try.underlying9
        have hi' : i < x.data.toList.length := by rw [Array.length_toList]; exact Nat.lt_of_lt_of_eq hi hs.symm
        have hq : x.data[i]? = some (x.data[i]'(by simpa using hi')) := Array.getElem?_eq_getElem _
        exact hr i _ (by rw [pgV, List.getElem?_map, List.getElem?_eq_getElem hi']; simp [List.getD, hq])
      have hdec : decide (0 ≤ (k : Int) ∧ (k : Int) < P.now.length) = true := by simpa using hn
      clear hs hr e
      simp only [Int.toNat_natCast, ← hx]
      clear hx
      go_wp2_with (first
        | (go_at_call 12; go_fit (halted_any h); rintro e w' ⟨rfl, rfl⟩; rw [hd'])
        | (go_at_call 23; go_fit (has_any h k); rintro e w' ⟨rfl, rfl⟩; rw [hdec]))
      go_ret2
      exact ⟨rfl, rfl⟩
    · have e : loadP P n = (ByteArray.empty, 6) := by unfold loadP; rw [if_neg hd, if_neg hn]
      have hdec : decide (0 ≤ n ∧ n < P.now.length) = false := by simpa using hn
      rw [e]
      go_wp2_with (first
        | (go_at_call 12; go_fit (halted_any h); rintro e w' ⟨rfl, rfl⟩; rw [hd'])
        | (go_at_call 23; go_fit (has_any h n); rintro e w' ⟨rfl, rfl⟩; rw [hdec]))
      go_ret2
      exact ⟨rfl, rfl⟩
end

/-- How many bytes of a store come: the cuts are a slice of ints that may be read. -/
def Cuts (w : World) (a : Option Addr) (l : List Int) : Prop :=
  (∀ x ∈ l, inF x) ∧ (l = [] ∨ ∃ b off, a = some ⟨b, off, none⟩ ∧ ∀ i, i < l.length → w.cell? ⟨b, off + i, none⟩ = some (.int .i64 (l.getD i 0)))
theorem ret_int {x y : Int} (h : x = y) : Ending.returned (.int .i64 x) = .returned (.int .i64 y) := by rw [h]
theorem cutAt_any (w : World) (a : Option Addr) (cap : Nat) (l : List Int) (h : Cuts w a l) (k : Nat) : Calls Try.prog 25 #[.slice a l.length cap, .int .i64 k] w fun e w' => e = .returned (.int .i64 (cutN l k)) ∧ w' = w := by
  go_enter Try.func25, Try.ntmps25
  by_cases hk : k < l.length
  · obtain ⟨b, off, rfl, hc0⟩ := h.2.resolve_left (fun e => by rw [e] at hk; simp at hk)
    have hc := hc0 k hk
    clear hc0
    obtain ⟨x, hx⟩ : ∃ x, x = l.getD k 0 := ⟨_, rfl⟩
    rw [← hx] at hc
    have hi : (k : Int) < l.length := by omega
    have e : (cutN l k : Int) = min (max x 0) 128 := by
      unfold cutN
      rw [if_pos hk, ← hx]
      omega
    rw [e]
    clear hx h e
    go_wp2
    all_goals (go_ret; refine ⟨ret_int ?_, rfl⟩; omega)
  · have hi : ¬ (k : Int) < l.length := by omega
    have e : cutN l k = 0 := by unfold cutN; rw [if_neg hk]
    rw [e]
    go_wp2
    go_ret
    exact ⟨rfl, rfl⟩

theorem conv_zeros (w : World) (n : Nat) (cs : Array Value) (hcs : cs.toList = List.replicate n (.int .u8 0)) : (convert 53 9 (.slice (some ⟨w.heap.size, 0, none⟩) n n)).run Try.prog (w.alloc (.cells cs 5)) = .ok (.string (zerosB n)) (w.alloc (.cells cs 5)) := by
  have e : strOfNums (List.replicate n (0 : Int)) = zerosB n := by simp [strOfNums, zerosB]
  rw [← e]
  refine run_convert_bytes_arg _ _ _ Try.underlying53 Try.underlying5 w.heap.size 0 n n _ (by simp) (fun i hi => ?_) _ Try.underlying9
  rw [cell_of_row _ w.heap.size (0 + i) cs _ _ (heap_alloc_new w _), Nat.zero_add]
  have : cs[i]? = (List.replicate n (Value.int .u8 0))[i]? := by rw [← hcs, Array.getElem?_toList]
  rw [this]
  simp [hi, List.getD]
theorem zeros_any (w : World) (n : Int) (h0 : 0 ≤ n) (hn : n ≤ 1000) : Calls Try.prog 22 #[.int .i64 n] w fun e w' => e = .returned (.string (zerosB n.toNat)) ∧ Grew w w' := by
  obtain ⟨k, rfl⟩ := Int.eq_ofNat_of_zero_le h0
  have hm : max (k : Int) 0 = k := by omega
  obtain ⟨cs, hcs, hr⟩ : ∃ cs : Array Value, cs.toList = List.replicate k (.int .u8 0) ∧ (Instr.makeSlice 53 (.int .i64 k) (.int .i64 k)).run Try.prog w = .ok (.slice (some ⟨w.heap.size, 0, none⟩) k k) (w.alloc (.cells cs 5)) :=
    ⟨madeCells (Value.int .u8 0).cells (k * 1), by rw [Nat.mul_one]; exact toList_madeCells_one _ _, run_make (P := Try.prog) w 53 5 _ _ Try.underlying53 rfl rfl .i64 .i64 k k (by omega) (Int.le_refl _) (by show (1 : Int) * k ≤ _; omega) (by omega)⟩
  have hc := conv_zeros w k cs hcs
  simp only [Int.toNat_natCast]
  go_enter Try.func22, Try.ntmps22
  go_wp2
  go_ret
  exact ⟨rfl, (Grew.refl w).alloc _ _⟩
theorem fill_any (w : World) (b : ByteArray) : Calls Try.prog 10 #[.string b] w fun e w' => e = .returned (.string (fillB b)) ∧ Grew w w' := by
  go_enter Try.func10, Try.ntmps10
  unfold fillB
  by_cases h : 128 < b.size
  · have hi : (128 : Int) < b.size := by omega
    rw [if_pos h]
    go_wp2
    go_ret
    exact ⟨rfl, Grew.refl w⟩
  · have hi : ¬ (128 : Int) < b.size := by omega
    have hw : wrap64 (128 - (b.size : Int)) = 128 - b.size := IntWalk.wrap64_in _ ⟨by omega, by omega⟩
    have ht : (128 - (b.size : Int)).toNat = 128 - b.size := by omega
    have hz : ¬ 9223372036854775807 < b.size + (zerosB (128 - b.size)).size := by rw [zerosB_size]; omega
    rw [if_neg h]
    go_wp2_with (first | (go_at_call 22; go_fit (zeros_any w (128 - (b.size : Int)) (by omega) (by omega)); rintro e w' ⟨rfl, hG⟩; rw [ht]))
    go_ret
    exact ⟨rfl, hG⟩
end Go.Proofs.Ytedhgejkobdihaa

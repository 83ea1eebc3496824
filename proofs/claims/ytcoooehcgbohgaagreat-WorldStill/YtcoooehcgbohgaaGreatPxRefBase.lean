/-
  The document's own reckoner (maquetteref1's Calc): its fail, abs and signed, with no error so far.
-/
import Derived.Test.YtcoooehcgbohgaaGreatPk01
namespace Go.Proofs.YtcoooehcgbohgaaGreat
open Go.RowKit

/-- A cell that is laid as it lies. -/
theorem setCell_id (w : World) (b off : Nat) (v : Value) (h : w.cell? ⟨b, off, none⟩ = some v) : w.setCell ⟨b, off, none⟩ v = w := by
  unfold World.cell? at h
  unfold World.setCell
  have e : (w.heap.modify b fun
      | .cells c elem frozen => .cells (if (none : Option Nat).isSome then c else c.setIfInBounds off v) elem frozen
      | o => o) = w.heap := by
    apply Array.ext
    · simp
    · intro i h1 h2
      rw [Array.getElem_modify]
      split
      · rename_i hi
        subst hi
        rw [Array.getElem?_eq_getElem h2] at h
        cases ho : w.heap[b] with
        | cells c elem frozen =>
          rw [ho] at h
          simp at h
          have h3 : off < c.size := by
            rcases Nat.lt_or_ge off c.size with h4 | h4
            · exact h4
            · rw [Array.getElem?_eq_none h4] at h; cases h
          rw [Array.getElem?_eq_getElem h3] at h
          cases h
          simp [Array.setIfInBounds, h3]
        | _ => rw [ho] at h; try simp at h
      · rfl
  exact congrArg (fun x => { w with heap := x }) e

set_option maxHeartbeats 400000 in
theorem fail_any (b off : Nat) (e : Int) (w : World) (hc : w.cell? ⟨b, off, none⟩ = some (.int .i64 0)) (hf : w.frozen? ⟨b, off, none⟩ = false) :
    Calls Tryz.prog 32 #[.pointer (some ⟨b, off, none⟩), .int .i64 e] w fun x w' => x = .returned (.int .i64 0) ∧ w' = w.setCell ⟨b, off, none⟩ (.int .i64 e) := by
  go_enter Tryz.func32, Tryz.ntmps32
  go_wp2
  go_ret
  exact ⟨rfl, rfl⟩
set_option maxHeartbeats 400000 in
theorem rabs_any (a : Int) (w : World) (ha : inF a) :
    Calls Tryz.prog 49 #[.int .i64 a] w fun e w' => e = .returned (.int .u64 (ab a)) ∧ w' = w := by
  unfold inF at ha
  go_enter Tryz.func49, Tryz.ntmps49
  go_wp2
  all_goals (go_ret; refine ⟨ret_int ?_, rfl⟩; have := ab_of a)
  · rw [IntKind.wrap_u64, IntKind.wrap_u64]; omega
  · omega

set_option maxHeartbeats 400000 in
theorem rsigned_any (b off : Nat) (n : Int) (neg : Bool) (w : World) (hn : 0 ≤ n ∧ n ≤ 18446744073709551615) (hc : w.cell? ⟨b, off, none⟩ = some (.int .i64 0)) (hf : w.frozen? ⟨b, off, none⟩ = false) :
    Calls Tryz.prog 51 #[.pointer (some ⟨b, off, none⟩), .bool neg, .int .u64 n] w fun x w' => x = .returned (.int .i64 (sgR neg n).1) ∧ w' = w.setCell ⟨b, off, none⟩ (.int .i64 (sgR neg n).2) := by
  have hid := setCell_id w b off _ hc
  rcases sgR_cases neg n with ⟨h1, h2, h3⟩ | ⟨h1, h2, h3⟩ | ⟨h1, h2, h3⟩
  · subst h1
    rw [h3]; clear h3
    rw [hid]; clear hid
    go_enter Tryz.func51, Tryz.ntmps51
    go_wp2
    go_ret
    exact ⟨ret_int (by rw [IntKind.wrap_u64, wrap64_of]; omega), rfl⟩
  · subst h1
    rw [h3]; clear h3
    rw [hid]; clear hid
    go_enter Tryz.func51, Tryz.ntmps51
    go_wp2
    go_ret
    exact ⟨rfl, rfl⟩
  · rw [h3]; clear h3 hid
    cases neg
    · go_enter Tryz.func51, Tryz.ntmps51
      go_wp2_with (go_at_call 32; refine (fail_any b off 3 _ hc hf).mono ?_; rintro e w' ⟨rfl, rfl⟩)
      go_ret
      exact ⟨rfl, rfl⟩
    · have h4 : 9223372036854775808 < n := by simp at h2; omega
      clear h2
      go_enter Tryz.func51, Tryz.ntmps51
      go_wp2_with (go_at_call 32; refine (fail_any b off 3 _ hc hf).mono ?_; rintro e w' ⟨rfl, rfl⟩)
      go_ret
      exact ⟨rfl, rfl⟩
end Go.Proofs.YtcoooehcgbohgaaGreat

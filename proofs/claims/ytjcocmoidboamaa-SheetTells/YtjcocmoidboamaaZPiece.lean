/-
  A page that is taken to pieces from its front on (package sheet's pieces): take, number, text.
-/
import Derived.Test.YtjcocmoidboamaaZFill
namespace Go.Proofs.Ytjcocmoidboamaa
open Go Go.RowKit

/-- What is left of a page lies at block b. -/
structure PcAt (w : World) (b : Nat) (X : List UInt8) : Prop where
  c : w.cell? ⟨b, 0, none⟩ = some (.string (txt X))
  z : w.frozen? ⟨b, 0, none⟩ = false
section
variable {w w' : World} {b : Nat} {X Y : List UInt8}
theorem PcAt.lt (h : PcAt w b X) : b < w.heap.size := cell_block h.c
theorem PcAt.but {S : Nat → Prop} (h : PcAt w b X) (g : But S w w') (hb : ¬ S b) : PcAt w' b X := ⟨g.cell h.c hb, g.frozen h.lt hb h.z⟩
theorem PcAt.below (h : PcAt w b X) (g : Below w.heap.size w w') : PcAt w' b X := h.but (S := fun _ => False) (Go.Proofs.Ytjcocmoidboamaa.Below.but g) (fun e => e)
theorem PcAt.grew (h : PcAt w b X) (g : Grew w w') : PcAt w' b X := h.below g.below
theorem PcAt.set (h : PcAt w b X) (Y : List UInt8) : PcAt (w.setCell ⟨b, 0, none⟩ (.string (txt Y))) b Y := by
  obtain ⟨h1, h2⟩ := h
  exact ⟨by simp [h1, go_sem], by simp [h2, go_sem]⟩
end
theorem take_size (X : List UInt8) (m : Nat) : txt (X.take m) = (txt X).extract 0 m := by rw [ext_list, list_txt, List.drop_zero, Nat.sub_zero]
theorem drop_size (X : List UInt8) (m : Nat) (_h : m ≤ X.length) : txt (X.drop m) = (txt X).extract m X.length := by
  rw [ext_list, list_txt, List.take_of_length_le]
  rw [List.length_drop]
  omega
theorem take_any (b n : Nat) (X : List UInt8) (w : World) (h : PcAt w b X) (_hX : X.length ≤ 1000000000) (_hn : n ≤ 1000000000) :
    Calls Try.prog 39 #[.pointer (some ⟨b, 0, none⟩), .int .i64 n] w fun e w' => e = .returned (.string (txt (X.take n))) ∧ PcAt w' b (X.drop n) ∧ But (fun i => i = b) w w' := by
  obtain ⟨m, hm⟩ : ∃ m, min n X.length = m := ⟨_, rfl⟩
  have hs := txt_size X
  have e1 : X.take n = X.take m := by
    rw [← hm]
    by_cases e : n ≤ X.length
    · rw [Nat.min_eq_left e]
    · rw [Nat.min_eq_right (by omega), List.take_of_length_le (by omega), List.take_of_length_le (Nat.le_refl _)]
  have e2 : X.drop n = X.drop m := by
    rw [← hm]
    by_cases e : n ≤ X.length
    · rw [Nat.min_eq_left e]
    · rw [Nat.min_eq_right (by omega), List.drop_of_length_le (by omega), List.drop_of_length_le (Nat.le_refl _)]
  have hmi : min (n : Int) ((txt X).size : Int) = m := by rw [hs]; omega
  have hml : (m : Int) ≤ ((txt X).size : Int) := by rw [hs]; omega
  have hm0 : (0 : Int) ≤ m := by omega
  have hq : Hid (PcAt (w.setCell ⟨b, 0, none⟩ (.string (txt (X.drop n)))) b (X.drop n)) := h.set _
  have hB : Hid (But (fun i => i = b) w (w.setCell ⟨b, 0, none⟩ (.string (txt (X.drop n))))) := (But.refl (fun i => i = b) w).set (b := b) rfl 0 none _
  rw [e2, drop_size X m (by omega), ← hs] at hB
  have hq2 := hq.out
  rw [e2] at hq2
  rw [e1, e2, take_size]
  replace hq : Hid (PcAt (w.setCell ⟨b, 0, none⟩ (.string ((txt X).extract m (txt X).size))) b (X.drop m)) := by
    rw [hs, ← drop_size X m (by omega)]
    exact hq2
  obtain ⟨hc, hz⟩ := h
  clear hm e1 e2 hs hq2
  generalize txt X = T at *
  generalize X.drop m = R at *
  go_enter Try.func39, Try.ntmps39
  go_wp2
  go_ret
  exact ⟨rfl, hq.out, hB.out⟩
theorem pnumber_any (b n : Nat) (X : List UInt8) (w : World) (h : PcAt w b X) (hX : X.length ≤ 1000000000) (hn : n ≤ 1000000000) :
    Calls Try.prog 40 #[.pointer (some ⟨b, 0, none⟩), .int .i64 n] w fun e w' => e = .returned (.int .i64 (numR (txt (X.take n)))) ∧ PcAt w' b (X.drop n) ∧ But (fun i => i = b) w w' := by
  have hT : Hid (Calls Try.prog 39 #[.pointer (some ⟨b, 0, none⟩), .int .i64 n] w fun e w' => e = .returned (.string (txt (X.take n))) ∧ PcAt w' b (X.drop n) ∧ But (fun i => i = b) w w') := take_any b n X w h hX hn
  obtain ⟨s, hs⟩ : ∃ s, txt (X.take n) = s := ⟨_, rfl⟩
  have hsz : s.size ≤ 1000000000 := by rw [← hs, txt_size, List.length_take]; omega
  rw [hs] at hT ⊢
  obtain ⟨R, hR⟩ : ∃ R, X.drop n = R := ⟨_, rfl⟩
  rw [hR] at hT ⊢
  clear hs hR hX h hn
  have hl : s.data.toList.length = s.size := Array.length_toList ..
  go_enter Try.func40, Try.ntmps40
  go_wp2_with (first | (go_at_call 39; go_fit hT.out; rintro e w1 ⟨rfl, h1, h2⟩) | fail)
  replace h1 := show Hid _ from h1
  replace h2 := show Hid _ from h2
  go_loopw [6, 13] (fun n i wr => ∃ k : Nat, k ≤ s.size ∧ i = .int .i64 k ∧ n = .int .i64 (wrap64 (valL (s.data.toList.take k))) ∧ wr = w1) (fun _ i _ => s.size - (intOf i).toNat)
  case atStart => exact ⟨0, by omega, rfl, by simp [valL, wrap64], rfl⟩
  case round =>
    obtain ⟨k, hk, rfl, rfl, rfl⟩ := hrel
    by_cases hlt : k < s.size
    · have hi : (k : Int) < s.size := by omega
      have e := (valL_take s.data.toList k (by omega)).symm
      rw [← byte_list s hlt] at e
      go_wp2
      refine ⟨⟨k + 1, by omega, by simp, congrArg (Value.int .i64) ?_, trivial⟩, ?_⟩
      · rw [← e]
        exact or_step _ _
      · exact meas_up hlt
    · have hi : ¬ (k : Int) < s.size := by omega
      go_wp2
      go_ret
      refine ⟨?_, h1.out, h2.out⟩
      rw [List.take_of_length_le (by omega)]
      rfl
theorem ptext_any (b n : Nat) (X : List UInt8) (w : World) (h : PcAt w b X) (hX : X.length ≤ 1000000000) (hn : n ≤ 1000000000) :
    Calls Try.prog 43 #[.pointer (some ⟨b, 0, none⟩), .int .i64 n] w fun e w' => e = .returned (.string (txt (X.take n))) ∧ PcAt w' b (X.drop n) ∧ But (fun i => i = b) w w' := by
  have hT : Hid (Calls Try.prog 39 #[.pointer (some ⟨b, 0, none⟩), .int .i64 n] w fun e w' => e = .returned (.string (txt (X.take n))) ∧ PcAt w' b (X.drop n) ∧ But (fun i => i = b) w w') := take_any b n X w h hX hn
  have hC : Hid (∀ W, Calls Try.prog 47 #[.string (txt (X.take n))] W fun e w' => e = .returned (.string (txt (X.take n))) ∧ Below W.heap.size W w') := fun W => strclone_any (txt (X.take n)) (by rw [txt_size, List.length_take]; omega) W
  obtain ⟨s, hs⟩ : ∃ s, txt (X.take n) = s := ⟨_, rfl⟩
  rw [hs] at hT hC ⊢
  clear hs hX h hn
  go_enter Try.func43, Try.ntmps43
  go_wp2_with (first
    | (go_at_call 39; go_fit hT.out; rintro e w1 ⟨rfl, h1, h2⟩)
    | (go_at_call 47; go_fit (hC.out _); rintro e w2 ⟨rfl, B⟩)
    | fail)
  go_ret
  exact ⟨rfl, h1.below B, h2.trans (Go.Proofs.Ytjcocmoidboamaa.Below.but B)⟩
end Go.Proofs.Ytjcocmoidboamaa

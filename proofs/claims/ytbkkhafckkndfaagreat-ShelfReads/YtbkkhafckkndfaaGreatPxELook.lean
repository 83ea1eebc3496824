/-
  The document's own look: a page that is read is seen.
-/
import Derived.Test.YtbkkhafckkndfaaGreatPxORead
import Derived.Test.YtbkkhafckkndfaaGreatPxTRefLoad
import Derived.Test.YtbkkhafckkndfaaGreatPxESame
namespace Go.Proofs.YtbkkhafckkndfaaGreat
open Go Go.RowKit

/-- The texts of what was seen, 200 of them. -/
def seenV (ld : Ld) (T : List Int) (k : Nat) : Value := .string (if T.contains (k : Int) = true then (ld k).1 else ByteArray.empty)
def seenC (ld : Ld) (T : List Int) : List Value := (List.range 200).map (seenV ld T)
theorem seenC_len (ld : Ld) (T : List Int) : (seenC ld T).length = 200 := by simp [seenC]
theorem seenC_at (ld : Ld) (T : List Int) {k : Nat} (h : k < 200) : (seenC ld T)[k]? = some (seenV ld T k) := by simp [seenC, h]
theorem seenC_set (ld : Ld) (T : List Int) {k : Nat} (h : k < 200) : (seenC ld T).set k (.string (ld k).1) = seenC ld ((k : Int) :: T) := by
  apply List.ext_getElem?
  intro j
  by_cases hj : j < 200
  · rw [List.getElem?_set, seenC_at _ _ hj, seenC_len]
    by_cases e : k = j
    · subst e
      rw [if_pos rfl, if_pos h, seenC_at _ _ hj]
      simp [seenV]
    · rw [if_neg e, seenC_at _ _ hj]
      have : ¬ (j : Int) = (k : Int) := fun e2 => e (by omega)
      simp [seenV, this]
  · rw [List.getElem?_eq_none (by rw [List.length_set, seenC_len]; omega), List.getElem?_eq_none (by rw [seenC_len]; omega)]
/-- What the document's platter at block d answers, in every world that is as it was below w0's end. -/
structure RLd (w0 : World) (d : Nat) (ld : Ld) : Prop where
  call : ∀ (W : World) (n : Int), Below w0.heap.size w0 W → Calls Tryz.prog 38 #[.pointer (some ⟨d, 0, none⟩), .int .i64 n] W fun e w' => e = .returned (.tuple #[.string (ld n).1, .int .i64 (ld n).2]) ∧ w' = W
  rng : ∀ n, (ld n).2 = 0 → 0 ≤ n ∧ n < 200
  sz : ∀ n, (ld n).2 = 0 → (ld n).1.size = 128
/-- What was seen lies at block s. -/
structure RS (w0 W : World) (s : Nat) (ld : Ld) (T : List Int) : Prop where
  blk : W.heap[s]? = some (.cells (seenC ld T).toArray 9 (0, 0))
  bel : Below w0.heap.size w0 W
  ls : w0.heap.size ≤ s
  ok : ∀ n ∈ T, (ld n).2 = 0
section
variable {w0 W W' : World} {s : Nat} {ld : Ld} {T : List Int}
theorem RS.cell (h : RS w0 W s ld T) {k : Nat} (hk : k < 200) : W.cell? ⟨s, k, none⟩ = some (seenV ld T k) := by
  rw [cell_of_row _ _ _ _ _ _ h.blk, List.getElem?_toArray]
  exact seenC_at _ _ hk
theorem RS.z (h : RS w0 W s ld T) (o : Nat) : W.frozen? ⟨s, o, none⟩ = false := frozen_of_row _ _ _ _ _ h.blk
theorem RS.lt (h : RS w0 W s ld T) : s < W.heap.size := (Array.getElem?_eq_some_iff.1 h.blk).1
theorem RS.but (h : RS w0 W s ld T) {S : Nat → Prop} (g : But S W W') (hB : ∀ i, S i → w0.heap.size ≤ i) (hs : ¬ S s) : RS w0 W' s ld T :=
  ⟨(g.block s h.lt hs).trans h.blk, h.bel.trans (g.below hB h.bel.size), h.ls, h.ok⟩
theorem RS.below (h : RS w0 W s ld T) (g : Below W.heap.size W W') : RS w0 W' s ld T :=
  h.but (S := fun _ => False) (Go.Proofs.YtbkkhafckkndfaaGreat.Below.but g) (fun _ e => e.elim) (fun e => e.elim)
theorem RS.set (h : RS w0 W s ld T) {k : Nat} (hk : k < 200) (he : (ld k).2 = 0) : RS w0 (W.setCell ⟨s, k, none⟩ (.string (ld k).1)) s ld ((k : Int) :: T) := by
  have hbut : But (fun i => i = s) W (W.setCell ⟨s, k, none⟩ (.string (ld k).1)) := (But.refl (fun i => i = s) W).set (b := s) rfl k none _
  refine ⟨?_, h.bel.trans (hbut.below (fun n e => by rw [e]; exact h.ls) h.bel.size), h.ls, fun n hn => ?_⟩
  · rw [← seenC_set ld T hk]
    simp [World.setCell, Array.getElem?_modify, h.blk]
  · rcases List.mem_cons.1 hn with rfl | hn
    · exact he
    · exact h.ok n hn
end
set_option maxRecDepth 100000 in
theorem look_any {w0 W : World} {d s : Nat} {ld : Ld} {T : List Int} (hL : RLd w0 d ld) (h : RS w0 W s ld T) (n : Int) :
    Calls Tryz.prog 21 #[.pointer (some ⟨d, 0, none⟩), .int .i64 n, .slice (some ⟨s, 0, none⟩) 200 200] W fun e w' => e = .returned (.tuple #[.string (ld n).1, .int .i64 (ld n).2]) ∧ RS w0 w' s ld (seeT ld n T) ∧ But (fun i => i = s) W w' := by
  have hC := hL.call W n h.bel
  have hr := hL.rng n
  by_cases he : (ld n).2 = 0
  · obtain ⟨r0, r1⟩ := hr he
    obtain ⟨k, rfl⟩ := Int.eq_ofNat_of_zero_le r0
    have hk : k < 200 := by omega
    have hc := h.cell hk
    have hz := h.z k
    have hEnd : Hid (RS w0 (W.setCell ⟨s, k, none⟩ (.string (ld k).1)) s ld (seeT ld k T)) := by
      show RS _ _ _ _ _
      unfold seeT
      rw [if_pos he]
      exact h.set hk he
    have hBut : Hid (But (fun i => i = s) W (W.setCell ⟨s, k, none⟩ (.string (ld k).1))) := (But.refl (fun i => i = s) W).set (b := s) rfl k none _
    rw [he] at hC ⊢
    generalize (ld (k : Int)).1 = X at *
    generalize seeT ld k T = T' at *
    replace hC : Hid (Calls Tryz.prog 38 #[.pointer (some ⟨d, 0, none⟩), .int .i64 (k : Int)] W fun e w' => e = .returned (.tuple #[.string X, .int .i64 0]) ∧ w' = W) := hC
    clear hL h hr he
    go_enter Tryz.func21, Tryz.ntmps21
    go_wp2_with (first
      | (go_at_call 38; go_fit hC.out; rintro e w2 ⟨rfl, rfl⟩)
      | fail)
    go_ret2
    exact ⟨rfl, hEnd.out, hBut.out⟩
  · have hEnd : Hid (RS w0 W s ld (seeT ld n T)) := by
      show RS _ _ _ _ _
      unfold seeT
      rw [if_neg he]
      exact h
    have hBut : Hid (But (fun i => i = s) W W) := But.refl _ _
    generalize (ld n).1 = X at *
    generalize (ld n).2 = E at *
    generalize seeT ld n T = T' at *
    replace hC : Hid (Calls Tryz.prog 38 #[.pointer (some ⟨d, 0, none⟩), .int .i64 n] W fun e w' => e = .returned (.tuple #[.string X, .int .i64 E]) ∧ w' = W) := hC
    clear hL h hr
    go_enter Tryz.func21, Tryz.ntmps21
    go_wp2_with (first
      | (go_at_call 38; go_fit hC.out; rintro e w2 ⟨rfl, rfl⟩)
      | fail)
    go_ret2
    exact ⟨rfl, hEnd.out, hBut.out⟩
end Go.Proofs.YtbkkhafckkndfaaGreat

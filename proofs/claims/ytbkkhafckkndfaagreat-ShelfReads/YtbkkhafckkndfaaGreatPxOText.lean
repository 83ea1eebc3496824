/-
  Package shelf's reading.text: the bytes of a cell, wherever they are.
-/
import Derived.Test.YtbkkhafckkndfaaGreatPxOPiece
namespace Go.Proofs.YtbkkhafckkndfaaGreat
open Go Go.RowKit

theorem bld_not {w : World} {b : Nat} {s : ByteArray} (h : BldAt w b s) (t : TypeId) (ht : t ≠ 137) : ¬ OfT w t b := by
  rintro ⟨cs, hc⟩
  have go : ∀ p, Lib.BuilderAtF 137 5 b b p (Lib.byteCells s.data.toList) w → False := fun p h => by
    obtain ⟨h1, v, h2, h3, h4⟩ := h
    rw [h2] at hc
    simp at hc
    exact ht hc.2.symm
  rcases h with h | h <;> exact go _ h
theorem u_not {w : World} {i : Nat} {t : TypeId} (ht : t ≠ 5) (h : OfT w t i) : ¬ OfU w i := by
  rintro ⟨cs, fz, hc⟩
  obtain ⟨cs2, h2⟩ := h
  rw [h2] at hc
  simp at hc
  exact ht hc.2.1
theorem RdK.ofT {w0 W : World} {r p : Nat} {V : List Pr} (h : RdK w0 W r p V) : OfT W 68 r := by
  obtain ⟨v, h⟩ := h
  exact ⟨_, h.blk⟩
theorem RdK.bel {w0 W : World} {r p : Nat} {V : List Pr} (h : RdK w0 W r p V) : Below w0.heap.size w0 W := by
  obtain ⟨v, h⟩ := h
  exact h.bel
theorem RdK.lt {w0 W : World} {r p : Nat} {V : List Pr} (h : RdK w0 W r p V) : w0.heap.size ≤ r ∧ r < W.heap.size := by
  obtain ⟨v, h⟩ := h
  exact ⟨h.lr, h.lt⟩
theorem RdK.bld {w0 W W' : World} {r p b : Nat} {V : List Pr} {s : ByteArray} (h : RdK w0 W r p V) (g : But (SetB b W) W W') (hb : r < b) (hB : BldAt W b s) : RdK w0 W' r p V := by
  have h1 := h.lt
  refine h.but g (fun i e => by have := e.1; omega) fun i e => ⟨by have := e.1; omega, fun ht => ?_⟩
  rcases e.2 with e | e
  · rw [e] at ht
    exact bld_not hB _ (by decide) ht
  · exact u_not (by decide) ht e
theorem BldAt.wr {w0 W W' : World} {r p b : Nat} {V : List Pr} {s : ByteArray} (h : BldAt W b s) (hR : RdK w0 W r p V) (g : WrR r W W') (hb : r < b) : BldAt W' b s := by
  refine h.but g fun i e => ?_
  rcases e with e | e
  · rw [e]
    exact ⟨by omega, u_not (by decide) hR.ofT⟩
  · refine ⟨fun e2 => ?_, u_not (by decide) e⟩
    rw [e2] at e
    exact bld_not h _ (by decide) e
theorem WrR.bld {w W W' : World} {r b : Nat} (h : WrR r w W) (g : But (SetB b W) W W') (hb : w.heap.size ≤ b) : WrR r w W' :=
  ⟨g.os.trans h.os, g.tape.trans h.tape, g.output.trans h.output, Nat.le_trans h.size g.size, fun i hi hn => (g.block i (Nat.lt_of_lt_of_le hi h.size) fun e => by have := e.1; omega).trans (h.block i hi hn)⟩
theorem tx_seen {ld : Ld} : ∀ (left : Nat) (next : Int) (acc : ByteArray) (T : List Int), (∀ k ∈ T, (ld k).2 = 0) → ∀ k ∈ (txR ld left next acc T).2.2, (ld k).2 = 0 := by
  intro left
  induction left using Nat.strongRecOn with
  | ind left ih =>
    intro next acc T hT
    by_cases h : 0 < left
    · obtain ⟨h1, h2⟩ := tx_piece ld next h acc T
      by_cases e : (pieceR ld next (min left 120) T).e = 0
      · rw [h2 e]
        exact ih _ (by omega) _ _ _ (pc_seen hT)
      · rw [(h1 e).2]
        exact pc_seen hT
    · obtain rfl : left = 0 := by omega
      exact hT
theorem text_seen {ld : Ld} {c : Ce} {T : List Int} (hT : ∀ k ∈ T, (ld k).2 = 0) : ∀ k ∈ (textR ld c T).2.2, (ld k).2 = 0 := by
  unfold textR
  split
  · exact hT
  · exact tx_seen _ _ _ _ hT
def TextK (w0 w w' : World) (r p : Nat) (ld : Ld) (R : Int × ByteArray × List Int) (e : Ending) : Prop := e = .returned (.tuple #[.string (if R.1 = 0 then R.2.1 else ByteArray.empty), .int .i64 R.1]) ∧ RdK w0 w' r p (canon ld R.2.2) ∧ WrR r w w'
set_option maxRecDepth 100000 in
set_option maxHeartbeats 8000000 in
theorem ktext_in {w0 w : World} {r p : Nat} {ld : Ld} {T : List Int} (hL : Loads w0 p ld) (h : RdK w0 w r p (canon ld T)) (hT : ∀ k ∈ T, (ld k).2 = 0) (c : Ce) (hc : c.size ≤ 900) :
    Calls Tryz.prog 37 #[.pointer (some ⟨r, 0, none⟩), ceV c] w fun e w' => TextK w0 w w' r p ld (textR ld c T) e := by
  obtain ⟨K, Z, Q, Y⟩ := c
  unfold textR ceV
  dsimp only at hc ⊢
  have hI : Hid (∀ W, Calls Tryz.prog 59 #[.int .i64 Z] W fun e w' => e = .returned (.bool (decide (Z ≤ 24))) ∧ w' = W) := fun W => kinline_any Z W
  by_cases hz : Z ≤ 24
  · rw [if_pos hz]
    have hI : Hid (∀ W, Calls Tryz.prog 59 #[.int .i64 Z] W fun e w' => e = .returned (.bool true) ∧ w' = W) := fun W => by
      have := hI.out W
      rwa [decide_eq_true hz] at this
    have hEnd : Hid (TextK w0 w (w.alloc (.cells #[.int .i64 K, .int .i64 Z, .int .i64 Q, .string Y] 108)) r p ld (0, Y, T) (.returned (.tuple #[.string Y, .int .i64 0]))) := ⟨rfl, h.below (below_one _ _), WrR.of (below_one _ _)⟩
    clear h hL hT
    go_enter Tryz.func37, Tryz.ntmps37
    go_wp2_with (first
      | (go_at_call 59; go_fit (hI.out _); rintro e w1 ⟨rfl, rfl⟩)
      | fail)
    go_ret2
    exact hEnd.out
  · rw [if_neg hz]
    have hI : Hid (∀ W, Calls Tryz.prog 59 #[.int .i64 Z] W fun e w' => e = .returned (.bool false) ∧ w' = W) := fun W => by
      have := hI.out W
      rwa [decide_eq_false hz] at this
    obtain ⟨R, hR⟩ : ∃ R, txR ld Z.toNat Q ByteArray.empty T = R := ⟨_, rfl⟩
    rw [hR]
    replace hR : Hid (txR ld Z.toNat Q ByteArray.empty T = R) := hR
    have hlt := h.lt
    have h1 : Hid (RdK w0 ((w.alloc (.cells #[.int .i64 K, .int .i64 Z, .int .i64 Q, .string Y] 108)).alloc (.cells #[.pointer none, .slice none 0 0] 137)) r p (canon ld T)) := (h.below (below_one _ _)).below (below_one _ _)
    have hW1 : Hid (WrR r w ((w.alloc (.cells #[.int .i64 K, .int .i64 Z, .int .i64 Q, .string Y] 108)).alloc (.cells #[.pointer none, .slice none 0 0] 137))) := (WrR.of (below_one _ _)).trans (WrR.of (below_one _ _))
    have hb1 : Hid (BldAt ((w.alloc (.cells #[.int .i64 K, .int .i64 Z, .int .i64 Q, .string Y] 108)).alloc (.cells #[.pointer none, .slice none 0 0] 137)) (w.heap.size + 1) ByteArray.empty) := by
      have := BldAt.new (w.alloc (.cells #[.int .i64 K, .int .i64 Z, .int .i64 Q, .string Y] 108))
      rw [World.size_alloc] at this
      exact this
    replace hL : Hid (Loads w0 p ld) := hL
    replace hT : Hid (∀ k ∈ T, (ld k).2 = 0) := hT
    clear h
    go_enter Tryz.func37, Tryz.ntmps37
    go_wp2_with (first
      | (go_at_call 59; go_fit (hI.out _); rintro e w1 ⟨rfl, rfl⟩)
      | fail)
    go_loopw [7, 8] (fun nx lf wr => ∃ (next l : Int) (acc : ByteArray) (T' : List Int), nx = .int .i64 next ∧ lf = .int .i64 l ∧ l ≤ 900 ∧ -200 ≤ l ∧ Hid (txR ld l.toNat next acc T' = R) ∧ Hid (acc.size + l.toNat ≤ 900) ∧ Hid (∀ k ∈ T', (ld k).2 = 0) ∧ Hid (RdK w0 wr r p (canon ld T')) ∧ Hid (WrR r w wr) ∧ Hid (BldAt wr (w.heap.size + 1) acc)) (fun _ lf _ => (intOf lf).toNat)
    case atStart => exact ⟨Q, Z, ByteArray.empty, T, rfl, rfl, hc, by omega, hR, (by show _ + _ ≤ _; rw [ByteArray.size_empty]; omega), hT, h1, hW1, hb1⟩
    case round =>
      obtain ⟨next, l, acc, T', rfl, rfl, hl9, hl2, hI2, hsz, hT', hRd, hW, hB⟩ := hrel
      by_cases hpos : 0 < l
      · obtain ⟨left, rfl⟩ : ∃ left : Nat, l = left := ⟨l.toNat, by omega⟩
        obtain ⟨z, hzm⟩ : ∃ z, min left 120 = z := ⟨_, rfl⟩
        have hz2 : min (left : Int) 120 = (z : Int) := by omega
        have hPc : Hid (Calls Tryz.prog 60 #[.pointer (some ⟨r, 0, none⟩), .int .i64 next, .int .i64 (z : Int)] wr fun e w' => e = .returned (.tuple #[.string (pieceR ld next z T').x, .int .i64 (pieceR ld next z T').n, .int .i64 (pieceR ld next z T').e]) ∧ RdK w0 w' r p (canon ld (pieceR ld next z T').T) ∧ WrR r wr w') := kpiece_in hL.out hRd.out hT'.out next z (by omega)
        obtain ⟨t1, t2⟩ := tx_piece ld next (show 0 < left by omega) acc T'
        have t3 : (pieceR ld next (min left 120) T').e = 0 → (pieceR ld next (min left 120) T').x.size = min left 120 := pc_size
        have t4 : ∀ k ∈ (pieceR ld next (min left 120) T').T, (ld k).2 = 0 := pc_seen hT'.out
        have hI3 := hI2.out
        rw [Int.toNat_natCast] at hI3
        rw [hI3, hzm] at t1 t2
        rw [hzm] at t3 t4
        generalize pieceR ld next z T' = q at *
        obtain ⟨E, X, N, T2⟩ := q
        dsimp only at t1 t2 t3 t4 hPc
        replace hPc : Hid (Calls Tryz.prog 60 #[.pointer (some ⟨r, 0, none⟩), .int .i64 next, .int .i64 (z : Int)] wr fun e w' => e = .returned (.tuple #[.string X, .int .i64 N, .int .i64 E]) ∧ RdK w0 w' r p (canon ld T2) ∧ WrR r wr w') := hPc
        clear hI3
        by_cases hE : E = 0
        · subst hE
          have t2 : Hid _ := t2 rfl
          have t3 : Hid (X.size = z) := t3 rfl
          have hbig : Hid (acc.size + X.size ≤ 1000000000) := by
            have h1 := hsz.out
            have h2 := t3.out
            rw [Int.toNat_natCast] at h1
            show _ ≤ _
            omega
          replace t4 : Hid (∀ k ∈ T2, (ld k).2 = 0) := t4
          clear t1
          go_wp2_with (first
            | (go_at_call 60; go_fit hPc.out; rintro e w1 ⟨rfl, hR1, hW1⟩; have hB1 := hB.out.wr hRd.out hW1 (by omega))
            | (go_at_call 61; go_fit (bwrite_any X hB1 hbig.out); rintro e w2 ⟨rfl, hB2, hG2⟩)
            | fail)
          refine ⟨⟨N, (left : Int) - 120, acc ++ X, T2, rfl, rfl, by omega, by omega, ?_, ?_, t4, hR1.bld hG2 (by omega) hB1, (hW.out.trans hW1).bld hG2 (by omega), hB2⟩, ?_⟩
          · show _ = _
            rw [t2 trivial, show ((left : Int) - 120).toNat = left - 120 by omega]
          · show _ ≤ _
            have h1 := hsz.out
            have h2 := t3 trivial
            rw [Int.toNat_natCast] at h1
            rw [ByteArray.size_append]
            omega
          · show ((left : Int) - 120).toNat < ((left : Int)).toNat
            omega
        · obtain ⟨t5, t6⟩ := t1 hE
          have hEnd : Hid (∀ w', RdK w0 w' r p (canon ld T2) → WrR r w w' → TextK w0 w w' r p ld R (.returned (.tuple #[.string ByteArray.empty, .int .i64 E]))) := fun w' a b => ⟨by rw [t5, if_neg hE], by rw [t6]; exact a, b⟩
          clear t1 t2 t3 t4 t5 t6
          go_wp2_with (first
            | (go_at_call 60; go_fit hPc.out; rintro e w1 ⟨rfl, hR1, hW1⟩)
            | fail)
          go_ret2
          exact hEnd.out _ hR1 (hW.out.trans hW1)
      · have hl0 : l.toNat = 0 := by omega
        have hR2 := hI2.out
        rw [hl0, tx_end] at hR2
        by_cases hn : next = 0
        · subst hn
          rw [if_pos rfl] at hR2
          have hEnd : Hid (∀ w', RdK w0 w' r p (canon ld T') → WrR r w w' → TextK w0 w w' r p ld R (.returned (.tuple #[.string acc, .int .i64 0]))) := fun w' a b => by rw [← hR2]; exact ⟨rfl, a, b⟩
          clear hR2
          go_wp2_with (first
            | (go_at_call 62; go_fit (bstring_any hB.out); rintro e w2 ⟨rfl, hG2⟩)
            | fail)
          go_ret2
          exact hEnd.out _ (hRd.out.bld hG2 (by omega) hB.out) (hW.out.bld hG2 (by omega))
        · rw [if_neg hn] at hR2
          have hEnd : Hid (TextK w0 w wr r p ld R (.returned (.tuple #[.string ByteArray.empty, .int .i64 5]))) := by rw [← hR2]; exact ⟨rfl, hRd.out, hW.out⟩
          clear hR2
          go_wp2_with (fail)
          go_ret2
          exact hEnd.out
end Go.Proofs.YtbkkhafckkndfaaGreat

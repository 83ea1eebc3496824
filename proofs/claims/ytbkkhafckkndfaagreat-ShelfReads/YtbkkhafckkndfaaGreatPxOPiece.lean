/-
  Package shelf's reading.piece: a piece of this size, and which one is behind it.
-/
import Derived.Test.YtbkkhafckkndfaaGreatPxOPage
import Derived.Test.YtbkkhafckkndfaaGreatPk05
namespace Go.Proofs.YtbkkhafckkndfaaGreat
open Go Go.RowKit

/-- What is told of a piece: the error, its text, the one behind it, what was seen. -/
structure PcR where
  e : Int
  x : ByteArray
  n : Int
  T : List Int
def pieceR (ld : Ld) (n : Int) (size : Nat) (T : List Int) : PcR :=
  if n = 0 then ⟨5, ByteArray.empty, 0, T⟩ else if ¬ (ld n).2 = 0 then ⟨(ld n).2, ByteArray.empty, 0, T⟩ else if linkB (ld n).1 size = true then ⟨0, (linkV (ld n).1).2, (linkV (ld n).1).1, n :: T⟩ else ⟨5, ByteArray.empty, 0, n :: T⟩
theorem pc_seen {ld : Ld} {n : Int} {size : Nat} {T : List Int} (hT : ∀ k ∈ T, (ld k).2 = 0) : ∀ k ∈ (pieceR ld n size T).T, (ld k).2 = 0 := by
  unfold pieceR
  split
  · exact hT
  · split
    · exact hT
    · rename_i h
      have : ∀ k ∈ n :: T, (ld k).2 = 0 := fun k hk => by
        rcases List.mem_cons.1 hk with e | e
        · rw [e]
          exact Decidable.of_not_not h
        · exact hT k e
      split <;> exact this
theorem pc_size {ld : Ld} {n : Int} {size : Nat} {T : List Int} (h : (pieceR ld n size T).e = 0) : (pieceR ld n size T).x.size = size := by
  unfold pieceR at h ⊢
  by_cases h0 : n = 0
  · rw [if_pos h0] at h; cases h
  · rw [if_neg h0] at h ⊢
    by_cases hE : ¬ (ld n).2 = 0
    · rw [if_pos hE] at h; exact absurd h hE
    · rw [if_neg hE] at h ⊢
      by_cases hl : linkB (ld n).1 size = true
      · rw [if_pos hl]
        unfold linkB at hl
        simp only [Bool.and_eq_true, decide_eq_true_eq] at hl
        exact hl.2
      · rw [if_neg hl] at h; cases h
/-- A text's next piece. -/
theorem tx_piece (ld : Ld) {left : Nat} (next : Int) (h : 0 < left) (acc : ByteArray) (T : List Int) :
    (¬ (pieceR ld next (min left 120) T).e = 0 → (txR ld left next acc T).1 = (pieceR ld next (min left 120) T).e ∧ (txR ld left next acc T).2.2 = (pieceR ld next (min left 120) T).T) ∧
    ((pieceR ld next (min left 120) T).e = 0 → txR ld left next acc T = txR ld (left - 120) (pieceR ld next (min left 120) T).n (acc ++ (pieceR ld next (min left 120) T).x) (pieceR ld next (min left 120) T).T) := by
  unfold pieceR
  by_cases h0 : next = 0
  · subst h0
    rw [if_pos rfl, tx_zero ld h]
    exact ⟨fun _ => ⟨rfl, rfl⟩, fun e => by cases e⟩
  · rw [if_neg h0]
    by_cases hE : ¬ (ld next).2 = 0
    · rw [if_pos hE, tx_err h h0 hE]
      exact ⟨fun _ => ⟨rfl, rfl⟩, fun e => absurd e hE⟩
    · rw [if_neg hE]
      have hE := Decidable.of_not_not hE
      cases hl : linkB (ld next).1 (min left 120) with
      | false =>
        rw [if_neg (by decide), tx_bad h h0 hE hl]
        exact ⟨fun _ => ⟨rfl, rfl⟩, fun e => by cases e⟩
      | true =>
        rw [if_pos rfl, tx_step h h0 hE hl]
        exact ⟨fun e => absurd rfl e, fun _ => rfl⟩
set_option maxRecDepth 100000 in
set_option maxHeartbeats 4000000 in
theorem kpiece_in {w0 w : World} {r p : Nat} {ld : Ld} {T : List Int} (hL : Loads w0 p ld) (h : RdK w0 w r p (canon ld T)) (hT : ∀ k ∈ T, (ld k).2 = 0) (n : Int) (size : Nat) (hz : size ≤ 1000000) :
    Calls Tryz.prog 60 #[.pointer (some ⟨r, 0, none⟩), .int .i64 n, .int .i64 (size : Int)] w fun e w' => e = .returned (.tuple #[.string (pieceR ld n size T).x, .int .i64 (pieceR ld n size T).n, .int .i64 (pieceR ld n size T).e]) ∧ RdK w0 w' r p (canon ld (pieceR ld n size T).T) ∧ WrR r w w' := by
  have hP := kpage_in hL h hT n
  have hsz := hL.sz n
  unfold pieceR
  by_cases h0 : n = 0
  · subst h0
    rw [if_pos rfl]
    have hRet : Hid (RdK w0 w r p (canon ld T) ∧ WrR r w w) := ⟨h, WrR.refl _ _⟩
    clear hP h hL hT
    go_enter Tryz.func60, Tryz.ntmps60
    go_wp2_with (fail)
    go_ret3
    exact ⟨rfl, hRet.out⟩
  · rw [if_neg h0]
    unfold seeT at hP
    obtain ⟨⟨X, E⟩, hld⟩ : ∃ q, ld n = q := ⟨_, rfl⟩
    rw [hld] at hP hsz ⊢
    dsimp only at hP hsz ⊢
    clear hld
    by_cases hE : E = 0
    · subst hE
      rw [if_pos rfl] at hP
      rw [if_neg (by simp)]
      have hLk : ∀ W, Calls Tryz.prog 84 #[.string X] W fun e w' => e = .returned (.tuple #[.int .i64 (linkV X).1, .string (linkV X).2, .bool (isLink X.data.toList)]) ∧ Below W.heap.size W w' := fun W => link_any X W (by omega)
      unfold linkB
      generalize linkV X = q at *
      obtain ⟨N, Y⟩ := q
      generalize isLink X.data.toList = K at *
      dsimp only at hLk ⊢
      replace hLk : Hid (∀ W, Calls Tryz.prog 84 #[.string X] W fun e w' => e = .returned (.tuple #[.int .i64 N, .string Y, .bool K]) ∧ Below W.heap.size W w') := hLk
      replace hP : Hid (Calls Tryz.prog 34 #[.pointer (some ⟨r, 0, none⟩), .int .i64 n] w fun e w' => e = .returned (.tuple #[.string X, .int .i64 0]) ∧ RdK w0 w' r p (canon ld (n :: T)) ∧ WrR r w w') := hP
      clear h hL hT
      cases K with
      | false =>
        rw [Bool.false_and, if_neg (by decide)]
        go_enter Tryz.func60, Tryz.ntmps60
        go_wp2_with (first
          | (go_at_call 34; go_fit hP.out; rintro e w1 ⟨rfl, hR, hW⟩)
          | (go_at_call 84; go_fit (hLk.out _); rintro e w2 ⟨rfl, B⟩)
          | fail)
        go_ret3
        exact ⟨rfl, hR.below B, hW.trans (WrR.of B)⟩
      | true =>
        rw [Bool.true_and]
        by_cases hs : Y.size = size
        · rw [decide_eq_true hs, if_pos rfl]
          subst hs
          go_enter Tryz.func60, Tryz.ntmps60
          go_wp2_with (first
            | (go_at_call 34; go_fit hP.out; rintro e w1 ⟨rfl, hR, hW⟩)
            | (go_at_call 84; go_fit (hLk.out _); rintro e w2 ⟨rfl, B⟩)
            | fail)
          go_ret3
          exact ⟨rfl, hR.below B, hW.trans (WrR.of B)⟩
        · rw [decide_eq_false hs, if_neg (by decide)]
          have hs2 : ¬ (Y.size : Int) = size := by omega
          go_enter Tryz.func60, Tryz.ntmps60
          go_wp2_with (first
            | (go_at_call 34; go_fit hP.out; rintro e w1 ⟨rfl, hR, hW⟩)
            | (go_at_call 84; go_fit (hLk.out _); rintro e w2 ⟨rfl, B⟩)
            | fail)
          go_ret3
          exact ⟨rfl, hR.below B, hW.trans (WrR.of B)⟩
    · rw [if_neg hE] at hP
      rw [if_pos hE]
      have hRe : Hid (X = ByteArray.empty ∨ True) := .inr trivial
      replace hP : Hid (Calls Tryz.prog 34 #[.pointer (some ⟨r, 0, none⟩), .int .i64 n] w fun e w' => e = .returned (.tuple #[.string X, .int .i64 E]) ∧ RdK w0 w' r p (canon ld T) ∧ WrR r w w') := hP
      clear h hL hT
      go_enter Tryz.func60, Tryz.ntmps60
      go_wp2_with (first
        | (go_at_call 34; go_fit hP.out; rintro e w1 ⟨rfl, hR, hW⟩)
        | fail)
      go_ret3
      exact ⟨rfl, hR, hW⟩
end Go.Proofs.YtbkkhafckkndfaaGreat

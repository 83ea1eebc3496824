/-
  An index's page, read again: its slots. No walk here.
-/
import Derived.Test.YtjcocmoidboamaaZSlot
namespace Go.Proofs.Ytjcocmoidboamaa
open Go Go.RowKit

theorem flat_drop (S : List Sl) : ∀ k, (S.flatMap slB).drop (6 * k) = (S.drop k).flatMap slB := by
  induction S with
  | nil => intro k; simp
  | cons s S ih =>
    intro k
    cases k with
    | zero => rfl
    | succ k =>
      rw [List.flatMap_cons, List.drop_append, slB_len, List.drop_of_length_le (by rw [slB_len]; omega), List.nil_append, show 6 * (k + 1) - 6 = 6 * k by omega, ih, List.drop_succ_cons]
theorem idx_drop (S : List Sl) (k : Nat) (_hk : k ≤ S.length) : (idxL S).drop (2 + 6 * k) = (S.drop k).flatMap slB ++ List.replicate (128 - (idxH S S.length).length) 0 := by
  have e : idxL S = (73 :: digs S.length 1) ++ (S.flatMap slB ++ List.replicate (128 - (idxH S S.length).length) 0) := by
    simp [idxL, padL, idxH]
  have hl : (73 :: digs S.length 1).length = 2 := by simp [digs_len]
  rw [e, List.drop_append, List.drop_of_length_le (by omega), hl, List.nil_append, show 2 + 6 * k - 2 = 6 * k by omega, List.drop_append_of_le_length (by rw [flat_len]; omega), flat_drop]
theorem idx_slot {S : List Sl} (h : idxOk S = true) {k : Nat} (hk : k < S.length) : slAt (txt (idxL S)) k = S[k] := by
  have hok : slOk S k = true := by
    simp only [idxOk, Bool.and_eq_true, List.all_eq_true] at h
    exact h.2 k (List.mem_range.2 hk)
  have e : S.getD k ⟨0, 0⟩ = S[k] := by simp [List.getD, hk]
  simp only [slOk, Bool.and_eq_true] at hok
  rw [e] at hok
  have h1 := (keyB_iff _).1 hok.1.1
  have h2 := (pageB_iff _).1 hok.1.2
  have hd := idx_drop S k (by omega)
  rw [List.drop_eq_getElem_cons hk, List.flatMap_cons] at hd
  generalize S[k] = x at *
  obtain ⟨K, Q⟩ := x
  dsimp only at h1 h2
  have d6 : (idxL S).drop (6 + 6 * k) = ((idxL S).drop (2 + 6 * k)).drop 4 := by rw [List.drop_drop]; congr 1; omega
  unfold slAt
  rw [numR_ext, numR_ext, list_txt, show 6 + 6 * k - (2 + 6 * k) = 4 by omega, show 8 + 6 * k - (6 + 6 * k) = 2 by omega, d6, hd]
  simp only [slB, List.append_assoc]
  rw [List.take_append_of_le_length (by rw [digs_len]; omega), List.take_of_length_le (by rw [digs_len]; omega), List.drop_append_of_le_length (by rw [digs_len]; omega), List.drop_of_length_le (by rw [digs_len]; omega), List.nil_append,
    List.take_append_of_le_length (by rw [digs_len]; omega), List.take_of_length_le (by rw [digs_len]; omega), val_digs 4 _ (by omega), val_digs 2 _ (by omega), wrap_small (by omega), wrap_small (by omega)]
  simp only [Sl.mk.injEq]
  omega
theorem idx_cnt {S : List Sl} (h : S.length ≤ 21) : cntS (txt (idxL S)) = S.length := by
  have e : (idxL S).drop 1 = digs S.length 1 ++ (S.flatMap slB ++ List.replicate (128 - (idxH S S.length).length) 0) := by
    simp only [idxL, padL, idxH, List.cons_append, List.drop_succ_cons, List.drop_zero, List.take_length, List.append_assoc]
  rw [cntS, list_txt, e, List.take_append_of_le_length (by rw [digs_len]; omega), List.take_of_length_le (by rw [digs_len]; omega), val_digs 1 _ (by omega)]
/-- What was laid is read as it was. -/
theorem idx_back {S : List Sl} (h : idxOk S = true) : isIdx (txt (idxL S)) = true ∧ idxS (txt (idxL S)) = S := by
  have hn : S.length ≤ 21 := by
    simp only [idxOk, Bool.and_eq_true, decide_eq_true_eq] at h
    exact h.1
  have hc := idx_cnt hn
  have hr : rawS (txt (idxL S)) S.length = S := by
    apply List.ext_getElem
    · rw [rawS_len]
    · intro i h1 h2
      simp only [rawS, List.getElem_map, List.getElem_range]
      exact idx_slot h h2
  have h1 : isIdx (txt (idxL S)) = true := by
    have ht : (idxL S).take 1 = [73] := by simp only [idxL, padL, idxH, List.cons_append, List.take_succ_cons, List.take_zero]
    unfold isIdx
    rw [hc, hr, h, list_txt, ht, txt_size, idxL_len hn]
    simp [hn]
  refine ⟨h1, ?_⟩
  unfold idxS
  rw [if_pos h1, hc, hr]
end Go.Proofs.Ytjcocmoidboamaa

/-
  A leaf's page, read again: its cells. No walk here.
-/
import Derived.Test.YtjcocmoidboamaaZLeaf
import Derived.Test.YtjcocmoidboamaaZSlot
namespace Go.Proofs.Ytjcocmoidboamaa
open Go Go.RowKit

def celK (s : ByteArray) (i : Nat) : Int := numR (s.extract i (i + 4))
def celZ (s : ByteArray) (i : Nat) : Int := numR (s.extract (i + 4) (i + 6))
def celN (s : ByteArray) (i : Nat) : Nat := if celZ s i ≤ 24 then (celZ s i).toNat else 2
def celAt (s : ByteArray) (i : Nat) : Ce := if celZ s i ≤ 24 then ⟨celK s i, celZ s i, 0, s.extract (i + 6) (i + 6 + celN s i)⟩ else ⟨celK s i, celZ s i, numR (s.extract (i + 6) (i + 6 + celN s i)), ByteArray.empty⟩
/-- The first k cells of a page, and where the next one begins; none: they don't stand there. -/
def runC (s : ByteArray) : Nat → Option (List Ce × Nat)
  | 0 => some ([], 2)
  | k + 1 => match runC s k with
    | none => none
    | some (C, i) => if i + 6 ≤ 128 ∧ i + 6 + celN s i ≤ 128 then some (C ++ [celAt s i], i + 6 + celN s i) else none
def isLeaf (s : ByteArray) : Bool := decide (s.size = 128) && (s.data.toList.take 1 == [76]) && match runC s (cntS s) with
  | none => false
  | some (C, _) => leafOk C && decide (txt (leafL C) = s)
def cellsS (s : ByteArray) : List Ce := if isLeaf s then (match runC s (cntS s) with | none => [] | some (C, _) => C) else []
theorem celZ_le (s : ByteArray) (i : Nat) : 0 ≤ celZ s i ∧ celZ s i ≤ 65535 := by
  unfold celZ
  rw [numR_ext, show i + 6 - (i + 4) = 2 by omega]
  have h : valL ((s.data.toList.drop (i + 4)).take 2) < 65536 := by
    obtain ⟨l, hl⟩ : ∃ l, (s.data.toList.drop (i + 4)).take 2 = l := ⟨_, rfl⟩
    have hlen : l.length ≤ 2 := by rw [← hl, List.length_take]; omega
    rw [hl]
    have := valL_lt l.length l rfl
    have e : l.length = 0 ∨ l.length = 1 ∨ l.length = 2 := by omega
    rcases e with e | e | e <;> rw [e] at this <;> simp at this <;> omega
  rw [wrap_small (by omega)]
  omega
theorem cel_back {A R : List UInt8} {x : Ce} (h : ceGood x = true) : celK (txt (A ++ (ceB x ++ R))) A.length = x.key ∧ celZ (txt (A ++ (ceB x ++ R))) A.length = x.size ∧ celAt (txt (A ++ (ceB x ++ R))) A.length = x ∧ 6 + celN (txt (A ++ (ceB x ++ R))) A.length = (ceB x).length := by
  have h1 : keyB x.key = true := by
    cases e : keyB x.key with
    | true => rfl
    | false => rw [good_key e] at h; cases h
  have hk := (keyB_iff _).1 h1
  have hz : 0 ≤ x.size ∧ x.size ≤ 900 := by
    by_cases e : x.size < 0 ∨ 900 < x.size
    · rw [good_size e] at h; cases h
    · omega
  have d0 : (A ++ (ceB x ++ R)).drop A.length = ceB x ++ R := List.drop_left
  have d4 : (A ++ (ceB x ++ R)).drop (A.length + 4) = (ceB x ++ R).drop 4 := by rw [← List.drop_drop, d0]
  have d6 : (A ++ (ceB x ++ R)).drop (A.length + 6) = (ceB x ++ R).drop 6 := by rw [← List.drop_drop, d0]
  have c0 : ceB x ++ R = digs x.key.toNat 4 ++ (digs x.size.toNat 2 ++ ((if x.size ≤ 24 then x.bytes.data.toList else digs x.page.toNat 2) ++ R)) := by simp [ceB]
  have c4 : (ceB x ++ R).drop 4 = digs x.size.toNat 2 ++ ((if x.size ≤ 24 then x.bytes.data.toList else digs x.page.toNat 2) ++ R) := by
    rw [c0, List.drop_append_of_le_length (by rw [digs_len]; omega), List.drop_of_length_le (by rw [digs_len]; omega), List.nil_append]
  have c6 : (ceB x ++ R).drop 6 = (if x.size ≤ 24 then x.bytes.data.toList else digs x.page.toNat 2) ++ R := by
    rw [show (6 : Nat) = 4 + 2 from rfl, ← List.drop_drop, c4, List.drop_append_of_le_length (by rw [digs_len]; omega), List.drop_of_length_le (by rw [digs_len]; omega), List.nil_append]
  have eK : celK (txt (A ++ (ceB x ++ R))) A.length = x.key := by
    unfold celK
    rw [numR_ext, list_txt, d0, c0, Nat.add_sub_cancel_left, List.take_append_of_le_length (by rw [digs_len]; omega), List.take_of_length_le (by rw [digs_len]; omega), val_digs 4 _ (by omega), wrap_small (by omega)]
    omega
  have eZ : celZ (txt (A ++ (ceB x ++ R))) A.length = x.size := by
    unfold celZ
    rw [numR_ext, list_txt, d4, c4, show A.length + 6 - (A.length + 4) = 2 by omega, List.take_append_of_le_length (by rw [digs_len]; omega), List.take_of_length_le (by rw [digs_len]; omega), val_digs 2 _ (by omega), wrap_small (by omega)]
    omega
  refine ⟨eK, eZ, ?_, ?_⟩
  · unfold celAt
    unfold celN
    rw [eK, eZ]
    by_cases hs : x.size ≤ 24
    · have hp : x.page = 0 := by
        by_cases e : x.page = 0
        · exact e
        · rw [good_page hs e] at h; cases h
      have hl : (x.bytes.size : Int) = x.size := by
        by_cases e : (x.bytes.size : Int) = x.size
        · exact e
        · rw [good_len hs e] at h; cases h
      have hb : x.bytes.data.toList.length = x.bytes.size := Array.length_toList ..
      rw [if_pos hs, if_pos hs]
      have eb : (txt (A ++ (ceB x ++ R))).extract (A.length + 6) (A.length + 6 + x.size.toNat) = x.bytes := by
        rw [ext_list, list_txt, d6, c6, if_pos hs, Nat.add_sub_cancel_left, List.take_append_of_le_length (by omega), List.take_of_length_le (by omega), txt_list]
      rw [eb]
      obtain ⟨K, Z, Q, T⟩ := x
      dsimp only at hp ⊢
      rw [hp]
    · have hp : pageB x.page = true := by
        cases e : pageB x.page with
        | true => rfl
        | false => rw [good_pageB hs e] at h; cases h
      have hb : x.bytes = ByteArray.empty := by
        by_cases e : x.bytes = ByteArray.empty
        · exact e
        · rw [good_bytes hs e] at h; cases h
      have hp2 := (pageB_iff _).1 hp
      rw [if_neg hs, if_neg hs]
      have eb : numR ((txt (A ++ (ceB x ++ R))).extract (A.length + 6) (A.length + 6 + 2)) = x.page := by
        rw [numR_ext, list_txt, d6, c6, if_neg hs, Nat.add_sub_cancel_left, List.take_append_of_le_length (by rw [digs_len]; omega), List.take_of_length_le (by rw [digs_len]; omega), val_digs 2 _ (by omega), wrap_small (by omega)]
        omega
      rw [eb, ← hb]
  · unfold celN
    rw [eZ]
    unfold ceB
    by_cases hs : x.size ≤ 24
    · have hl : (x.bytes.size : Int) = x.size := by
        by_cases e : (x.bytes.size : Int) = x.size
        · exact e
        · rw [good_len hs e] at h; cases h
      have hb : x.bytes.data.toList.length = x.bytes.size := Array.length_toList ..
      rw [if_pos hs, if_pos hs, List.length_append, List.length_append, digs_len, digs_len]
      omega
    · rw [if_neg hs, if_neg hs, List.length_append, List.length_append, digs_len, digs_len, digs_len]
theorem leaf_split (C : List Ce) (k : Nat) (h : k < C.length) : ∃ R, leafL C = leafH C k ++ (ceB C[k] ++ R) := by
  have e : C.flatMap ceB = (C.take k).flatMap ceB ++ (ceB C[k] ++ (C.drop (k + 1)).flatMap ceB) := by
    conv => lhs; rw [← List.take_append_drop k C, List.drop_eq_getElem_cons h]
    rw [List.flatMap_append, List.flatMap_cons]
  refine ⟨(C.drop (k + 1)).flatMap ceB ++ List.replicate (128 - (leafH C C.length).length) 0, ?_⟩
  unfold leafL padL
  have e2 : leafH C C.length = leafH C k ++ (ceB C[k] ++ (C.drop (k + 1)).flatMap ceB) := by
    unfold leafH
    rw [List.take_length, e]
    simp
  generalize 128 - (leafH C C.length).length = z
  rw [e2]
  simp
theorem leafH_mono (C : List Ce) (k : Nat) (_h : k ≤ C.length) : (leafH C k).length ≤ (leafH C C.length).length := by
  have : leafH C C.length = leafH C k ++ (C.drop k).flatMap ceB := by
    unfold leafH
    rw [List.take_length]
    conv => lhs; rw [← List.take_append_drop k C]
    rw [List.flatMap_append]
    simp
  rw [this, List.length_append]
  omega
theorem run_back {C : List Ce} (h : leafOk C = true) : ∀ k, k ≤ C.length → runC (txt (leafL C)) k = some (C.take k, (leafH C k).length) := by
  simp only [leafOk, Bool.and_eq_true, List.all_eq_true, decide_eq_true_eq] at h
  intro k
  induction k with
  | zero =>
    intro _
    simp [runC, leafH, digs_len]
  | succ k ih =>
    intro hk
    have hg : ceGood C[k] = true := by
      have := h.1.2 k (List.mem_range.2 (by omega))
      simp only [ceOk, Bool.and_eq_true] at this
      have e : C.getD k noCe = C[k] := by simp [List.getD, show k < C.length by omega]
      rw [e] at this
      exact this.1
    obtain ⟨R, hR⟩ := leaf_split C k (by omega)
    obtain ⟨_, _, b3, b4⟩ := cel_back (A := leafH C k) (R := R) hg
    rw [← hR] at b3 b4
    have hm := leafH_mono C (k + 1) hk
    have e : C.getD k noCe = C[k] := by simp [List.getD, show k < C.length by omega]
    have hu := leafH_up C k (by omega)
    rw [e] at hu
    have hlen : (leafH C (k + 1)).length = (leafH C k).length + (ceB C[k]).length := by rw [hu, List.length_append]
    rw [runC, ih (by omega)]
    simp only
    rw [if_pos (by omega), b3, List.take_succ_eq_append_getElem (by omega)]
    congr 2
    omega
theorem leaf_cnt {C : List Ce} (h : C.length ≤ 200) : cntS (txt (leafL C)) = C.length := by
  have e : (leafL C).drop 1 = digs C.length 1 ++ (C.flatMap ceB ++ List.replicate (128 - (leafH C C.length).length) 0) := by
    simp only [leafL, padL, leafH, List.cons_append, List.drop_succ_cons, List.drop_zero, List.take_length, List.append_assoc]
  rw [cntS, list_txt, e, List.take_append_of_le_length (by rw [digs_len]; omega), List.take_of_length_le (by rw [digs_len]; omega), val_digs 1 _ (by omega)]
/-- What was laid is read as it was. -/
theorem leaf_back {C : List Ce} (h : leafOk C = true) : isLeaf (txt (leafL C)) = true ∧ cellsS (txt (leafL C)) = C := by
  have hh := h
  simp only [leafOk, Bool.and_eq_true, decide_eq_true_eq] at hh
  have hc := leaf_cnt (C := C) (by omega)
  have hr := run_back h C.length (Nat.le_refl _)
  rw [List.take_length] at hr
  have h1 : isLeaf (txt (leafL C)) = true := by
    have ht : (leafL C).take 1 = [76] := by simp only [leafL, padL, leafH, List.cons_append, List.take_succ_cons, List.take_zero]
    have hl : (leafL C).length = 128 := padL_len hh.2
    unfold isLeaf
    rw [hc, hr, list_txt, ht, txt_size, hl]
    simp [h]
  refine ⟨h1, ?_⟩
  unfold cellsS
  rw [if_pos h1, hc, hr]
end Go.Proofs.Ytjcocmoidboamaa

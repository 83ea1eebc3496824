/-
  Pages of records (chapter 15) as plain lists of bytes; no program in sight: pieces (chains), indexes.
-/
import Derived.Test.YtjcocmoidboamaaYNum
namespace Go.Proofs.Ytjcocmoidboamaa
open Go Go.RowKit

def keyB (k : Int) : Bool := decide (0 ≤ k ∧ k ≤ 2147483647)
def pageB (n : Int) : Bool := decide (2 ≤ n ∧ n < 200)
theorem keyB_iff (k : Int) : keyB k = true ↔ 0 ≤ k ∧ k ≤ 2147483647 := by simp [keyB]
theorem pageB_iff (k : Int) : pageB k = true ↔ 2 ≤ k ∧ k < 200 := by simp [pageB]
/-- Zeros up to a page. -/
def padL (l : List UInt8) : List UInt8 := l ++ List.replicate (128 - l.length) 0
theorem padL_len {l : List UInt8} (h : l.length ≤ 128) : (padL l).length = 128 := by simp [padL]; omega
theorem padL_take {l : List UInt8} (k : Nat) (h : k ≤ l.length) : (padL l).take k = l.take k := List.take_append_of_le_length h
theorem val_one (b : UInt8) : valL [b] = b.toNat := by simp [valL]
theorem wrap_small {n : Nat} (h : n < 9223372036854775808) : wrap64 (n : Int) = n := by unfold wrap64; omega

/-! ### Pieces -/
def chainOk (next : Int) (t : List UInt8) : Bool := (next == 0 || pageB next) && decide (1 ≤ t.length ∧ t.length ≤ 120)
theorem chainOk_iff (next : Int) (t : List UInt8) : chainOk next t = true ↔ (next = 0 ∨ 2 ≤ next ∧ next < 200) ∧ 1 ≤ t.length ∧ t.length ≤ 120 := by
  simp [chainOk, pageB]
def chainH (next : Int) (t : List UInt8) : List UInt8 := 67 :: (digs next.toNat 2 ++ digs t.length 1 ++ t)
def chainL (next : Int) (t : List UInt8) : List UInt8 := padL (chainH next t)
theorem chainH_len (next : Int) (t : List UInt8) : (chainH next t).length = 4 + t.length := by simp [chainH, digs_len]; omega
theorem chainL_len {next : Int} {t : List UInt8} (h : t.length ≤ 124) : (chainL next t).length = 128 := padL_len (by rw [chainH_len]; omega)
/-- What is read of a page as a piece. -/
def linkN (l : List UInt8) : Int := wrap64 (valL ((l.drop 1).take 2))
def linkT (l : List UInt8) : List UInt8 := (l.drop 4).take (valL ((l.drop 3).take 1))
def isLink (l : List UInt8) : Bool := decide (l.length = 128) && (l.take 1 == [67]) && decide (valL ((l.drop 3).take 1) ≤ 120) && (chainOk (linkN l) (linkT l) && chainL (linkN l) (linkT l) == l)
theorem drop1_chain (next : Int) (t : List UInt8) : (chainL next t).drop 1 = digs next.toNat 2 ++ (digs t.length 1 ++ (t ++ List.replicate (128 - (chainH next t).length) 0)) := by
  simp only [chainL, padL, chainH, List.cons_append, List.drop_succ_cons, List.drop_zero, List.append_assoc]
theorem link_chain {next : Int} {t : List UInt8} (h : chainOk next t = true) : linkN (chainL next t) = next ∧ linkT (chainL next t) = t ∧ valL (((chainL next t).drop 3).take 1) = t.length := by
  have hh := (chainOk_iff next t).1 h
  have e1 : ((chainL next t).drop 1).take 2 = digs next.toNat 2 := by
    rw [drop1_chain, List.take_append_of_le_length (by rw [digs_len]; omega), List.take_of_length_le (by rw [digs_len]; omega)]
  have e3 : (chainL next t).drop 3 = digs t.length 1 ++ (t ++ List.replicate (128 - (chainH next t).length) 0) := by
    have : (chainL next t).drop 3 = ((chainL next t).drop 1).drop 2 := by rw [List.drop_drop]
    rw [this, drop1_chain, List.drop_append, List.drop_of_length_le (by rw [digs_len]; omega), digs_len]
    simp
  have e4 : (chainL next t).drop 4 = t ++ List.replicate (128 - (chainH next t).length) 0 := by
    have : (chainL next t).drop 4 = ((chainL next t).drop 3).drop 1 := by rw [List.drop_drop]
    rw [this, e3, List.drop_append, List.drop_of_length_le (by rw [digs_len]; omega), digs_len]
    simp
  have e5 : valL (((chainL next t).drop 3).take 1) = t.length := by
    rw [e3, List.take_append_of_le_length (by rw [digs_len]; omega), List.take_of_length_le (by rw [digs_len]; omega), val_digs 1 _ (by omega)]
  refine ⟨?_, ?_, e5⟩
  · unfold linkN
    rw [e1, val_digs 2 _ (by omega), wrap_small (by omega)]
    omega
  · unfold linkT
    rw [e5, e4, List.take_append_of_le_length (by omega), List.take_of_length_le (by omega)]
theorem isLink_iff (l : List UInt8) : isLink l = true ↔ ∃ next t, chainOk next t = true ∧ chainL next t = l := by
  constructor
  · intro h
    simp only [isLink, Bool.and_eq_true, beq_iff_eq] at h
    exact ⟨_, _, h.2.1, h.2.2⟩
  · rintro ⟨next, t, h, rfl⟩
    obtain ⟨e1, e2, e3⟩ := link_chain h
    have hh := (chainOk_iff next t).1 h
    have hl : (chainL next t).length = 128 := chainL_len (by omega)
    have ht : (chainL next t).take 1 = [67] := by simp only [chainL, padL, chainH, List.cons_append, List.take_succ_cons, List.take_zero]
    unfold isLink
    rw [e1, e2, e3, hl, ht, h]
    have : t.length ≤ 120 := hh.2.2
    simp [this]
theorem link_is {l : List UInt8} (h : isLink l = true) : chainOk (linkN l) (linkT l) = true ∧ chainL (linkN l) (linkT l) = l := by
  obtain ⟨next, t, h1, rfl⟩ := (isLink_iff l).1 h
  obtain ⟨e1, e2, _⟩ := link_chain h1
  rw [e1, e2]
  exact ⟨h1, rfl⟩

theorem isLink_128 {l : List UInt8} (h : isLink l = true) : l.length = 128 := by
  obtain ⟨next, t, h1, rfl⟩ := (isLink_iff l).1 h
  have hh := (chainOk_iff next t).1 h1
  exact chainL_len (by omega)

/-! ### Indexes -/
structure Sl where
  key : Int
  page : Int
def riseB : List Int → Bool
  | [] => true
  | [_] => true
  | a :: b :: r => decide (a < b) && riseB (b :: r)
/-- The first k slots may be. -/
def slOk (S : List Sl) (i : Nat) : Bool := keyB (S.getD i ⟨0, 0⟩).key && pageB (S.getD i ⟨0, 0⟩).page && (decide (i = 0) || decide ((S.getD (i - 1) ⟨0, 0⟩).key < (S.getD i ⟨0, 0⟩).key))
def idxOk (S : List Sl) : Bool := decide (S.length ≤ 21) && (List.range S.length).all (slOk S)
def slB (s : Sl) : List UInt8 := digs s.key.toNat 4 ++ digs s.page.toNat 2
theorem slB_len (s : Sl) : (slB s).length = 6 := by simp [slB, digs_len]
def idxH (S : List Sl) (n : Nat) : List UInt8 := 73 :: (digs S.length 1 ++ (S.take n).flatMap slB)
theorem flat_len (S : List Sl) : (S.flatMap slB).length = 6 * S.length := by
  induction S with
  | nil => rfl
  | cons s S ih => simp [slB_len, ih]; omega
theorem idxH_len (S : List Sl) (n : Nat) (h : n ≤ S.length) : (idxH S n).length = 2 + 6 * n := by
  rw [idxH, List.length_cons, List.length_append, digs_len, flat_len, List.length_take, Nat.min_eq_left h]
  omega
theorem idxH_up (S : List Sl) (n : Nat) (h : n < S.length) : idxH S (n + 1) = idxH S n ++ digs (S.getD n ⟨0, 0⟩).key.toNat 4 ++ digs (S.getD n ⟨0, 0⟩).page.toNat 2 := by
  have e : S.getD n ⟨0, 0⟩ = S[n] := by simp [List.getD, h]
  rw [e, idxH, List.take_succ_eq_append_getElem h, List.flatMap_append]
  simp [idxH, slB]
def idxL (S : List Sl) : List UInt8 := padL (idxH S S.length)
theorem idxL_len {S : List Sl} (h : S.length ≤ 21) : (idxL S).length = 128 := padL_len (by rw [idxH_len S _ (Nat.le_refl _)]; omega)
theorem idx_no {S : List Sl} {k : Nat} (hk : k < S.length) (h : slOk S k = false) : idxOk S = false := by
  cases e : idxOk S with
  | false => rfl
  | true =>
    simp only [idxOk, Bool.and_eq_true, List.all_eq_true] at e
    have := e.2 k (List.mem_range.2 hk)
    rw [h] at this
    cases this
theorem idx_yes {S : List Sl} (hn : S.length ≤ 21) (h : ∀ k, k < S.length → slOk S k = true) : idxOk S = true := by
  simp only [idxOk, Bool.and_eq_true, List.all_eq_true, decide_eq_true_eq]
  exact ⟨hn, fun k hk => h k (List.mem_range.1 hk)⟩
theorem idx_long {S : List Sl} (hn : 21 < S.length) : idxOk S = false := by
  unfold idxOk
  have : ¬ S.length ≤ 21 := by omega
  simp [this]
theorem slOk_zero (S : List Sl) : slOk S 0 = (keyB (S.getD 0 ⟨0, 0⟩).key && pageB (S.getD 0 ⟨0, 0⟩).page) := by simp [slOk]
theorem slOk_succ (S : List Sl) (k : Nat) : slOk S (k + 1) = (keyB (S.getD (k + 1) ⟨0, 0⟩).key && pageB (S.getD (k + 1) ⟨0, 0⟩).page && decide ((S.getD k ⟨0, 0⟩).key < (S.getD (k + 1) ⟨0, 0⟩).key)) := by simp [slOk]
end Go.Proofs.Ytjcocmoidboamaa

/-
  The document's own Slots: a page's slots, as a new list.
-/
import Derived.Test.YtjcocmoidboamabZIdx
import Derived.Test.YtjcocmoidboamabUApp
import Derived.Test.YtjcocmoidboamabTMem
namespace Go.Proofs.Ytjcocmoidboamab
open Go Go.RowKit

def slV (s : Sl) : List Value := [.int .i64 s.key, .int .i64 s.page]
def slsV (S : List Sl) : List Value := S.flatMap slV
theorem pair_at (w : World) (A B : Value) (t : TypeId) (j : Nat) (u : Value) (hj : [A, B][j]? = some u) : (w.alloc (.cells #[A, B] t)).drew.cell? ⟨w.heap.size, 0 + j, none⟩ = some u := by
  show (w.alloc (.cells #[A, B] t)).cell? ⟨w.heap.size, 0 + j, none⟩ = some u
  rw [cell_of_row _ _ _ _ _ _ (heap_alloc_new _ _), Nat.zero_add]
  rw [← hj, List.getElem?_toArray]
theorem sls_more (S : List Sl) (s : Sl) : slsV (S ++ [s]) = slsV S ++ slV s := by simp [slsV]
theorem own_base2 {w : World} {B n k : Nat} {E : TypeId} {v : Value} {xs : List Value} (h : w.ownsRow B E k v n xs) : ∀ i, v.ownBlock = some i → B ≤ i := by
  intro i e
  rcases h.2 with ⟨q, _⟩ | ⟨g, c, cur, q, hb, _⟩
  · rw [q] at e; cases e
  · rw [q] at e
    obtain rfl : g = i := by simpa [Value.ownBlock] using e
    exact hb
/-- The k-th slot of a page. -/
def slAt (s : ByteArray) (k : Nat) : Sl := ⟨numR (s.extract (2 + 6 * k) (6 + 6 * k)), numR (s.extract (6 + 6 * k) (8 + 6 * k))⟩
def rawS (s : ByteArray) (n : Nat) : List Sl := (List.range n).map (slAt s)
theorem rawS_up (s : ByteArray) (n : Nat) : rawS s (n + 1) = rawS s n ++ [slAt s n] := by simp [rawS, List.range_succ]
theorem rawS_len (s : ByteArray) (n : Nat) : (rawS s n).length = n := by simp [rawS]
def cntS (s : ByteArray) : Nat := valL ((s.data.toList.drop 1).take 1)
def isIdx (s : ByteArray) : Bool := decide (s.size = 128) && (s.data.toList.take 1 == [73]) && decide (cntS s ≤ 21) && (idxOk (rawS s (cntS s)) && decide (txt (idxL (rawS s (cntS s))) = s))
def idxS (s : ByteArray) : List Sl := if isIdx s then rawS s (cntS s) else []
theorem slots_of {w : World} {B n : Nat} {E : TypeId} {v : Value} {S : List Sl} (h : w.ownsRow B E 2 v n (slsV S)) : ∃ a cap, v = .slice a n cap ∧ SlotsAt w a S := by
  rcases h.2 with ⟨rfl, h0⟩ | ⟨g, cap, cur, rfl, _⟩
  · refine ⟨none, 0, by rw [h0], .inl ?_⟩
    have := h.1
    rw [h0] at this
    cases S with
    | nil => rfl
    | cons s S => simp [slsV, slV] at this
  · refine ⟨_, cap, rfl, .inr ⟨g, 0, rfl, fun i hi => ?_⟩⟩
    have hl : ∀ S : List Sl, (slsV S).length = S.length * 2 := fun S => by
      induction S with
      | nil => rfl
      | cons s S ih => simp [slsV, slV] at ih ⊢; omega
    have hn : S.length = n := by have := h.1; rw [hl] at this; omega
    have e : S.getD i ⟨0, 0⟩ = S[i] := by simp [List.getD, hi]
    have at2 : ∀ (S : List Sl) (i : Nat) (hi : i < S.length), (slsV S)[i * 2]? = some (.int .i64 (S[i]).key) ∧ (slsV S)[i * 2 + 1]? = some (.int .i64 (S[i]).page) := by
      intro S
      induction S with
      | nil => intro i hi; simp at hi
      | cons s S ih =>
        intro i hi
        cases i with
        | zero => exact ⟨rfl, rfl⟩
        | succ i =>
          have := ih i (by simpa using hi)
          rw [show (i + 1) * 2 = i * 2 + 1 + 1 by omega]
          exact this
    obtain ⟨q1, q2⟩ := at2 S i hi
    rw [e]
    exact ⟨by rw [Nat.zero_add, h.cellAt _ (by omega)]; exact q1, by rw [Nat.zero_add, h.cellAt _ (by omega)]; exact q2⟩
theorem idx_cases (s : ByteArray) (h : s.size = 128) : ∃ c0 c1 : Nat, (∀ h, (s[0]'h).toNat = c0) ∧ (∀ h, (s[1]'h).toNat = c1) ∧ c0 < 256 ∧ c1 < 256 ∧ cntS s = c1 ∧ isIdx s = (decide (c0 = 73) && decide (c1 ≤ 21) && (idxOk (rawS s c1) && decide (txt (idxL (rawS s c1)) = s))) := by
  have h0 := (s[0]'(by omega)).toNat_lt
  have h1 := (s[1]'(by omega)).toNat_lt
  have e1 : cntS s = (s[1]'(by omega)).toNat := by rw [cntS, at_take (by omega), val_one]
  have e0 : s.data.toList.take 1 = [s[0]'(by omega)] := by have := at_take (s := s) (i := 0) (by omega); rwa [List.drop_zero] at this
  refine ⟨(s[0]'(by omega)).toNat, (s[1]'(by omega)).toNat, fun _ => rfl, fun _ => rfl, h0, h1, e1, ?_⟩
  have hd : decide (s.size = 128) = true := by simp [h]
  unfold isIdx
  rw [hd, e1, e0]
  have q1 : (([s[0]'(by omega)] : List UInt8) == [73]) = decide ((s[0]'(by omega)).toNat = 73) := by
    rw [Bool.eq_iff_iff]
    simp only [beq_iff_eq, List.cons.injEq, and_true, decide_eq_true_eq]
    constructor
    · intro e; rw [e]; rfl
    · intro e; exact UInt8.toNat_inj.1 e
  rw [q1]
  simp
theorem isIdx_len {s : ByteArray} (h : ¬ s.size = 128) : isIdx s = false := by
  unfold isIdx
  simp [h]
end Go.Proofs.Ytjcocmoidboamab

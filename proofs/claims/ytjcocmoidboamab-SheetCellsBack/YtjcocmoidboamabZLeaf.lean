/-
  The document's own Leaf: cells in memory, as a page.
-/
import Derived.Test.YtjcocmoidboamabZIdx
namespace Go.Proofs.Ytjcocmoidboamab
open Go Go.RowKit

structure Ce where
  key : Int
  size : Int
  page : Int
  bytes : ByteArray
def noCe : Ce := ⟨0, 0, 0, ByteArray.empty⟩
def ceB (c : Ce) : List UInt8 := digs c.key.toNat 4 ++ digs c.size.toNat 2 ++ (if c.size ≤ 24 then c.bytes.data.toList else digs c.page.toNat 2)
theorem not_empty {T : ByteArray} (h : ¬ T = ByteArray.empty) : T.toList.isEmpty = false := by
  rw [ByteArray.toList_eq]
  obtain ⟨⟨l⟩⟩ := T
  cases l with
  | nil => exact absurd rfl h
  | cons a l => rfl
/-- A cell that may be, but for the order. -/
def ceGood (c : Ce) : Bool := keyB c.key && decide (0 ≤ c.size ∧ c.size ≤ 900) && (if c.size ≤ 24 then decide (c.page = 0 ∧ (c.bytes.size : Int) = c.size) else pageB c.page && decide (c.bytes = ByteArray.empty))
theorem good_key {c : Ce} (h : keyB c.key = false) : ceGood c = false := by unfold ceGood; rw [h]; rfl
theorem good_size {c : Ce} (h : c.size < 0 ∨ 900 < c.size) : ceGood c = false := by
  unfold ceGood
  rw [decide_eq_false (p := 0 ≤ c.size ∧ c.size ≤ 900) (by omega)]
  simp
theorem good_page {c : Ce} (hz : c.size ≤ 24) (h : ¬ c.page = 0) : ceGood c = false := by
  unfold ceGood
  rw [if_pos hz, decide_eq_false (p := c.page = 0 ∧ _) (fun e => h e.1)]
  simp
theorem good_len {c : Ce} (hz : c.size ≤ 24) (h : ¬ (c.bytes.size : Int) = c.size) : ceGood c = false := by
  unfold ceGood
  rw [if_pos hz, decide_eq_false (p := c.page = 0 ∧ _) (fun e => h e.2)]
  simp
theorem good_pageB {c : Ce} (hz : ¬ c.size ≤ 24) (h : pageB c.page = false) : ceGood c = false := by
  unfold ceGood
  rw [if_neg hz, h]
  simp
theorem good_bytes {c : Ce} (hz : ¬ c.size ≤ 24) (h : ¬ c.bytes = ByteArray.empty) : ceGood c = false := by
  unfold ceGood
  rw [if_neg hz, decide_eq_false h]
  simp
theorem good_in {c : Ce} (hk : keyB c.key = true) (h0 : 0 ≤ c.size) (hz : c.size ≤ 24) (hp : c.page = 0) (hl : (c.bytes.size : Int) = c.size) : ceGood c = true := by
  unfold ceGood
  rw [if_pos hz, hk, decide_eq_true (p := 0 ≤ c.size ∧ c.size ≤ 900) ⟨h0, by omega⟩, decide_eq_true (p := c.page = 0 ∧ _) ⟨hp, hl⟩]
  rfl
theorem good_out {c : Ce} (hk : keyB c.key = true) (hz : ¬ c.size ≤ 24) (h9 : c.size ≤ 900) (hp : pageB c.page = true) (hb : c.bytes = ByteArray.empty) : ceGood c = true := by
  unfold ceGood
  rw [if_neg hz, hk, hp, decide_eq_true (p := 0 ≤ c.size ∧ c.size ≤ 900) ⟨by omega, h9⟩, decide_eq_true hb]
  rfl
def ceOk (C : List Ce) (i : Nat) : Bool := ceGood (C.getD i noCe) && (decide (i = 0) || decide ((C.getD (i - 1) noCe).key < (C.getD i noCe).key))
theorem ceOk_zero (C : List Ce) : ceOk C 0 = ceGood (C.getD 0 noCe) := by simp [ceOk]
theorem ceOk_succ (C : List Ce) (k : Nat) : ceOk C (k + 1) = (ceGood (C.getD (k + 1) noCe) && decide ((C.getD k noCe).key < (C.getD (k + 1) noCe).key)) := by simp [ceOk]
def leafH (C : List Ce) (n : Nat) : List UInt8 := 76 :: (digs C.length 1 ++ (C.take n).flatMap ceB)
theorem leafH_up (C : List Ce) (n : Nat) (h : n < C.length) : leafH C (n + 1) = leafH C n ++ ceB (C.getD n noCe) := by
  have e : C.getD n noCe = C[n] := by simp [List.getD, h]
  rw [e, leafH, List.take_succ_eq_append_getElem h, List.flatMap_append]
  simp [leafH]
def leafOk (C : List Ce) : Bool := decide (C.length ≤ 200) && (List.range C.length).all (ceOk C) && decide ((leafH C C.length).length ≤ 128)
def leafL (C : List Ce) : List UInt8 := padL (leafH C C.length)
def leafV (C : List Ce) : ByteArray := if leafOk C then txt (leafL C) else ByteArray.empty
theorem leaf_no {C : List Ce} {k : Nat} (hk : k < C.length) (h : ceOk C k = false) : leafOk C = false := by
  cases e : leafOk C with
  | false => rfl
  | true =>
    simp only [leafOk, Bool.and_eq_true, List.all_eq_true] at e
    have := e.1.2 k (List.mem_range.2 hk)
    rw [h] at this
    cases this
theorem leaf_long {C : List Ce} (hn : 200 < C.length) : leafOk C = false := by
  unfold leafOk
  have : ¬ C.length ≤ 200 := by omega
  simp [this]
theorem leaf_end {C : List Ce} (hn : C.length ≤ 200) (h : ∀ k, k < C.length → ceOk C k = true) : leafOk C = decide ((leafH C C.length).length ≤ 128) := by
  have : (List.range C.length).all (ceOk C) = true := by
    simp only [List.all_eq_true]
    exact fun k hk => h k (List.mem_range.1 hk)
  unfold leafOk
  rw [this, decide_eq_true hn]
  simp
/-- Cells that lie in memory. -/
def C4 (w : World) (b : Nat) (K Z Q : Int) (T : ByteArray) : Prop := w.cell? ⟨b, 0, none⟩ = some (.int .i64 K) ∧ w.cell? ⟨b, 1, none⟩ = some (.int .i64 Z) ∧ w.cell? ⟨b, 2, none⟩ = some (.int .i64 Q) ∧ w.cell? ⟨b, 3, none⟩ = some (.string T)
theorem C4.grew {w w' : World} {b : Nat} {K Z Q : Int} {T : ByteArray} (h : C4 w b K Z Q T) (g : Grew w w') : C4 w' b K Z Q T := ⟨g.cell h.1, g.cell h.2.1, g.cell h.2.2.1, g.cell h.2.2.2⟩
theorem cell_new4 (w : World) (a b c d : Value) (t : TypeId) : (w.alloc (.cells #[a, b, c, d] t)).cell? ⟨w.heap.size, 0, none⟩ = some a ∧ (w.alloc (.cells #[a, b, c, d] t)).cell? ⟨w.heap.size, 1, none⟩ = some b ∧ (w.alloc (.cells #[a, b, c, d] t)).cell? ⟨w.heap.size, 2, none⟩ = some c ∧ (w.alloc (.cells #[a, b, c, d] t)).cell? ⟨w.heap.size, 3, none⟩ = some d := by
  refine ⟨?_, ?_, ?_, ?_⟩ <;> rw [cell_of_row _ _ _ _ _ _ (heap_alloc_new _ _)] <;> rfl
def CellAt (w : World) (b o : Nat) (c : Ce) : Prop := w.cell? ⟨b, o, none⟩ = some (.int .i64 c.key) ∧ w.cell? ⟨b, o + 1, none⟩ = some (.int .i64 c.size) ∧ w.cell? ⟨b, o + 2, none⟩ = some (.int .i64 c.page) ∧ w.cell? ⟨b, o + 3, none⟩ = some (.string c.bytes)
theorem CellAt.grew {w w' : World} {b o : Nat} {c : Ce} (h : CellAt w b o c) (g : Grew w w') : CellAt w' b o c := ⟨g.cell h.1, g.cell h.2.1, g.cell h.2.2.1, g.cell h.2.2.2⟩
def CellsAt (w : World) (a : Option Addr) (C : List Ce) : Prop := C = [] ∨ ∃ b off, a = some ⟨b, off, none⟩ ∧ ∀ i, i < C.length → CellAt w b (off + i * 4) (C.getD i noCe)
theorem ceB_len (c : Ce) (h : ceGood c = true) : (ceB c).length ≤ 30 := by
  unfold ceGood at h
  unfold ceB
  by_cases hz : c.size ≤ 24
  · simp only [hz, if_true, Bool.and_eq_true, decide_eq_true_eq] at h
    have : c.bytes.data.toList.length = c.bytes.size := Array.length_toList ..
    simp [hz, digs_len]
    omega
  · simp [hz, digs_len]
theorem leafH_le (C : List Ce) : ∀ n, n ≤ C.length → (∀ j, j < n → ceOk C j = true) → (leafH C n).length ≤ 2 + 30 * n := by
  intro n
  induction n with
  | zero => intro _ _; simp [leafH, digs_len]
  | succ n ih =>
    intro hn h
    have h1 := ih (by omega) (fun j hj => h j (by omega))
    have h2 := h n (by omega)
    simp only [ceOk, Bool.and_eq_true] at h2
    have h3 := ceB_len _ h2.1
    rw [leafH_up C n (by omega), List.length_append]
    omega
end Go.Proofs.Ytjcocmoidboamab

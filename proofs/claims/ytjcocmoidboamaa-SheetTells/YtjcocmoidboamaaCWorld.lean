/-
  Worlds that grew (Grew): what was there stays, the tape too; a world in which one block's cells may have been written besides (Past); a slice of int64s that lies in memory (Row).
-/
import Derived.Test.YtjcocmoidboamaaRows
import Derived.Test.YtjcocmoidboamaaNum
import Derived.WalkKit
import Derived.WalkSpells
import Derived.WalkLawsBesides
import Derived.Below
import Derived.Recover
namespace Go.Proofs.Ytjcocmoidboamaa
open Go.RowKit

theorem grown_heap {w w' : World} (h : Grown w w') {i : Nat} (hi : i < w.heap.size) : w'.heap[i]? = w.heap[i]? := by
  obtain ⟨⟨_, _, h3⟩, _, _⟩ := h
  have := h3 i hi
  split at this
  · rename_i c t fr c' t' fr' e1 e2
    obtain ⟨rfl, rfl, hs, hj⟩ := this
    rw [e1, e2]
    have : c' = c := Array.ext_getElem? (fun j => hj j (by simp))
    rw [this]
  · rename_i e1 e2
    rcases this with f | ⟨rfl, rfl⟩
    · exact f.elim
    · rw [e1, e2]
  · exact this

theorem cell_block {w : World} {p : Addr} {v : Value} (h : w.cell? p = some v) : p.block < w.heap.size := by
  unfold World.cell? at h
  by_cases e : p.block < w.heap.size
  · exact e
  · rw [Array.getElem?_eq_none (by omega)] at h
    cases h

theorem cell_of_heap {w w' : World} {p : Addr} (h : w'.heap[p.block]? = w.heap[p.block]?) : w'.cell? p = w.cell? p := by
  unfold World.cell?
  rw [h]

/-- w' is w with more blocks, and answers drawn. -/
structure Grew (w w' : World) : Prop where
  grown : Grown w w'
  tape : w'.tape = w.tape

theorem Grew.refl (w : World) : Grew w w := ⟨Grown.refl w, rfl⟩
theorem Grew.trans {a b c : World} (h : Grew a b) (g : Grew b c) : Grew a c :=
  ⟨⟨World.keptBut_trans h.1.1 g.1.1, fun x => (g.1.2.1 x).trans (h.1.2.1 x), Nat.le_trans h.1.2.2 g.1.2.2⟩, g.tape.trans h.tape⟩
theorem Grew.alloc {w w' : World} (h : Grew w w') (c : Array Value) (t : TypeId) : Grew w (w'.alloc (.cells c t)) := ⟨h.grown.alloc c t, h.tape⟩
theorem Grew.setCell {w w' : World} (h : Grew w w') {a : Addr} (ha : w.heap.size ≤ a.block) (v : Value) : Grew w (w'.setCell a v) := ⟨h.grown.setCell ha v, h.tape⟩
theorem drewN_tape (w : World) (n : Nat) : (w.drewN n).tape = w.tape := rfl
theorem Grew.drewN {w w' : World} (h : Grew w w') (n : Nat) : Grew w (w'.drewN n) := ⟨h.grown, h.tape⟩
theorem Grew.drew {w w' : World} (h : Grew w w') : Grew w w'.drew := ⟨h.grown, h.tape⟩
theorem Grew.size {w w' : World} (h : Grew w w') : w.heap.size ≤ w'.heap.size := h.grown.2.2
theorem Grew.heap {w w' : World} (h : Grew w w') {i : Nat} (hi : i < w.heap.size) : w'.heap[i]? = w.heap[i]? := grown_heap h.grown hi
theorem Grew.cell {w w' : World} (h : Grew w w') {p : Addr} {v : Value} (hc : w.cell? p = some v) : w'.cell? p = some v := by
  rw [cell_of_heap (h.heap (cell_block hc)), hc]
theorem Grew.frozen {w w' : World} (h : Grew w w') {p : Addr} (hc : w.frozen? p = false) : w'.frozen? p = false := (h.grown.2.1 p).trans hc
theorem Grew.below {w w' : World} (h : Grew w w') : Below w.heap.size w w' :=
  ⟨h.grown.1.1, h.tape, h.grown.1.2.1, h.size, fun _ hk => h.heap hk⟩

/-- A cell of a block that was not there when w₀ was is not frozen. -/
theorem Grew.free {w₀ w : World} (h : Grew w₀ w) {p : Addr} (hp : w₀.heap.size ≤ p.block) : w.frozen? p = false := by
  rw [h.grown.2.1 p]
  unfold World.frozen?
  rw [Array.getElem?_eq_none hp]

/-- W is w1 with new blocks, and block n may have been written. -/
structure Past (n : Nat) (w1 W : World) : Prop where
  grew : ∀ w₀ : World, w₀.heap.size ≤ n → Grew w₀ w1 → Grew w₀ W
  block : ∀ i, i < w1.heap.size → i ≠ n → W.heap[i]? = w1.heap[i]?
  size : w1.heap.size ≤ W.heap.size

theorem Past.refl (n : Nat) (w : World) : Past n w w := ⟨fun _ _ h => h, fun _ _ _ => rfl, Nat.le_refl _⟩
theorem Past.trans {n : Nat} {a b c : World} (h : Past n a b) (g : Past n b c) : Past n a c :=
  ⟨fun w₀ hw G => g.grew w₀ hw (h.grew w₀ hw G), fun i hi hn => (g.block i (Nat.lt_of_lt_of_le hi h.size) hn).trans (h.block i hi hn), Nat.le_trans h.size g.size⟩
theorem Grew.past {n : Nat} {w W : World} (h : Grew w W) : Past n w W :=
  ⟨fun _ _ G => G.trans h, fun _ hi _ => h.heap hi, h.size⟩
theorem past_setCell (n : Nat) (w : World) (o : Nat) (s : Option Nat) (v : Value) : Past n w (w.setCell ⟨n, o, s⟩ v) := by
  refine ⟨fun w₀ hw G => G.setCell hw v, fun i _ hn => ?_, ?_⟩
  · simp only [World.setCell, Array.getElem?_modify]
    rw [if_neg (by omega)]
  · simp [World.setCell]
theorem Past.cell {n : Nat} {w W : World} (h : Past n w W) {p : Addr} {v : Value} (hn : p.block ≠ n) (hc : w.cell? p = some v) : W.cell? p = some v := by
  rw [cell_of_heap (h.block _ (cell_block hc) hn), hc]

/-- A slice of int64s at a, its elements l. -/
def Row (w : World) (a : Option Addr) (l : List Int) : Prop :=
  l.length ≤ 1000 ∧ (∀ x ∈ l, inF x) ∧ (l = [] ∨ ∃ b off, a = some ⟨b, off, none⟩ ∧ ∀ i, i < l.length → w.cell? ⟨b, off + i, none⟩ = some (.int .i64 (l.getD i 0)))

theorem Row.grew {w w' : World} {a : Option Addr} {l : List Int} (h : Row w a l) (g : Grew w w') : Row w' a l := by
  obtain ⟨h1, h2, h3⟩ := h
  refine ⟨h1, h2, ?_⟩
  rcases h3 with h3 | ⟨b, off, h3, h4⟩
  · exact .inl h3
  · exact .inr ⟨b, off, h3, fun i hi => g.cell (h4 i hi)⟩

theorem ret_bool {a b : Bool} (h : a = b) : Ending.returned (.bool a) = .returned (.bool b) := by rw [h]

end Go.Proofs.Ytjcocmoidboamaa

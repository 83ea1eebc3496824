/-
  Worlds in which some blocks may have been written, with no word on marks (But), and what a call owns there. No program in sight.
-/
import Derived.Test.YtjcocmoidboamaaCWorld
import Derived.OwnWalk
import Derived.Laws.OwnMore
namespace Go.Proofs.Ytjcocmoidboamaa
open Go Go.RowKit

theorem frozen_of_heap {w w' : World} {p : Addr} (h : w'.heap[p.block]? = w.heap[p.block]?) : w'.frozen? p = w.frozen? p := by
  unfold World.frozen?
  rw [h]

/-- W is w with new blocks, and of the old ones those of S may have been written. -/
structure But (S : Nat → Prop) (w W : World) : Prop where
  os : W.os = w.os
  tape : W.tape = w.tape
  output : W.output = w.output
  size : w.heap.size ≤ W.heap.size
  block : ∀ i, i < w.heap.size → ¬ S i → W.heap[i]? = w.heap[i]?
theorem But.refl (S : Nat → Prop) (w : World) : But S w w := ⟨rfl, rfl, rfl, Nat.le_refl _, fun _ _ _ => rfl⟩
theorem But.trans {S : Nat → Prop} {a b c : World} (h : But S a b) (g : But S b c) : But S a c :=
  ⟨g.os.trans h.os, g.tape.trans h.tape, g.output.trans h.output, Nat.le_trans h.size g.size, fun i hi hn => (g.block i (Nat.lt_of_lt_of_le hi h.size) hn).trans (h.block i hi hn)⟩
theorem But.more {S T : Nat → Prop} {a b : World} (h : But S a b) (hS : ∀ n, n < a.heap.size → S n → T n) : But T a b := ⟨h.os, h.tape, h.output, h.size, fun i hi hn => h.block i hi fun e => hn (hS i hi e)⟩
theorem Below.but {S : Nat → Prop} {w W : World} (h : Below w.heap.size w W) : But S w W := ⟨h.os, h.tape, h.output, h.size, fun i hi _ => h.block i hi⟩
theorem Grew.but {S : Nat → Prop} {w W : World} (h : Grew w W) : But S w W := Go.Proofs.Ytjcocmoidboamaa.Below.but h.below
theorem But.below {S : Nat → Prop} {B : Nat} {w W : World} (h : But S w W) (hS : ∀ n, S n → B ≤ n) (hB : B ≤ w.heap.size) : Below B w W := ⟨h.os, h.tape, h.output, h.size, fun i hi => h.block i (by omega) fun e => by have := hS i e; omega⟩
theorem But.set {S : Nat → Prop} {w W : World} (h : But S w W) {b : Nat} (hb : S b) (o : Nat) (s : Option Nat) (v : Value) : But S w (W.setCell ⟨b, o, s⟩ v) :=
  h.trans ⟨rfl, rfl, rfl, by simp [World.setCell], fun i _ hn => Below.heap_setCell _ _ _ _ (fun e => hn (e ▸ hb))⟩
theorem But.alloc {S : Nat → Prop} {w W : World} (h : But S w W) (o : Obj) : But S w (W.alloc o) := h.trans ⟨rfl, rfl, rfl, by simp, fun i hi _ => Below.heap_alloc _ _ _ hi⟩
theorem But.cell {S : Nat → Prop} {w W : World} (h : But S w W) {p : Addr} {v : Value} (hc : w.cell? p = some v) (hn : ¬ S p.block) : W.cell? p = some v := by
  rw [cell_of_heap (h.block _ (cell_block hc) hn), hc]
theorem But.frozen {S : Nat → Prop} {w W : World} (h : But S w W) {p : Addr} (hc : p.block < w.heap.size) (hn : ¬ S p.block) (hz : w.frozen? p = false) : W.frozen? p = false := by
  rw [frozen_of_heap (h.block _ hc hn), hz]
theorem row_grew {w w' : World} {B n k : Nat} {E : TypeId} {v : Value} {xs : List Value} (h : w.ownsRow B E k v n xs) (g : Grew w w') : w'.ownsRow B E k v n xs := by
  refine ⟨h.1, ?_⟩
  rcases h.2 with h | ⟨b, cap, cur, e, hb, hg, r⟩
  · exact .inl h
  · exact .inr ⟨b, cap, cur, e, hb, (g.heap (Array.getElem?_eq_some_iff.1 hg).1).trans hg, r⟩
theorem row_but {S : Nat → Prop} {w w' : World} {B n k : Nat} {E : TypeId} {v : Value} {xs : List Value} (h : w.ownsRow B E k v n xs) (g : But S w w') (hS : ∀ i, v.ownBlock = some i → ¬ S i) : w'.ownsRow B E k v n xs := by
  refine ⟨h.1, ?_⟩
  rcases h.2 with h | ⟨b, cap, cur, rfl, hb, hg, r⟩
  · exact .inl h
  · exact .inr ⟨b, cap, cur, rfl, hb, (g.block _ (Array.getElem?_eq_some_iff.1 hg).1 (hS b rfl)).trans hg, r⟩
theorem row_base {w : World} {B B' n k : Nat} {E : TypeId} {v : Value} {xs : List Value} (h : w.ownsRow B E k v n xs) (hB : B' ≤ B) : w.ownsRow B' E k v n xs := by
  refine ⟨h.1, ?_⟩
  rcases h.2 with h | ⟨b, cap, cur, e, hb, r⟩
  · exact .inl h
  · exact .inr ⟨b, cap, cur, e, Nat.le_trans hB hb, r⟩
end Go.Proofs.Ytjcocmoidboamaa

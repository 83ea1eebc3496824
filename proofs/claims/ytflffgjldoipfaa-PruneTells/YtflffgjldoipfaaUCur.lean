/-
  A list while it is grown: what it was it is still, in its own place; the grown one begins so. No program in sight.
-/
import Derived.Test.YtflffgjldoipfaaUKept
namespace Go.Proofs.Ytflffgjldoipfaa
open Go Go.RowKit

/-- Two slices of one block: the shorter one is there as long as the longer one is. -/
theorem own_same {w w2 : World} {B n m k : Nat} {E : TypeId} {v c : Value} {xs ys zs : List Value} (h : w.ownsRow B E k v n xs) (hc : w.ownsRow B E k c m ys) (e : c.ownBlock = v.ownBlock) (h2 : w2.ownsRow B E k c m (xs ++ zs)) (hk : 0 < k) (hnm : n ≤ m) : w2.ownsRow B E k v n xs := by
  refine ⟨h.1, ?_⟩
  rcases h.2 with h1 | ⟨g, cap, cur, rfl, hb, hg, hn, hcap, hs, ht⟩
  · exact .inl h1
  · rcases hc.2 with ⟨rfl, _⟩ | ⟨g1, cap1, cur1, rfl, _, hg1, _, _, hs1, _⟩
    · simp [Value.ownBlock] at e
    · simp [Value.ownBlock] at e
      subst e
      rw [hg] at hg1
      cases hg1
      have ec : cap = cap1 := Nat.eq_of_mul_eq_mul_right hk (hs.symm.trans hs1)
      subst ec
      rcases h2.2 with ⟨h', _⟩ | ⟨g2, cap2, cur2, e2, _, hg2, _, _, hs2, ht2⟩
      · simp at h'
      · cases e2
        refine .inr ⟨g1, cap, cur2, rfl, hb, hg2, hn, hcap, hs2, ?_⟩
        have e3 : (cur2.toList.take (m * k)).take (n * k) = xs := by rw [ht2, ← h.1]; exact List.take_left
        rw [List.take_take, Nat.min_eq_left (Nat.mul_le_mul_right k hnm)] at e3
        exact e3

/-- A list while it is grown. -/
structure Cur {α : Type} (mk : Nat → Nat → α) (enc : α → List Value) (base : Nat) (E : TypeId) (k t : Nat) (r : Lst α) (W0 wr : World) (cur : Value) (m : Nat) : Prop where
  own : wr.ownsRow base E k cur (r.l.length + m) ((marks mk t 0 (r.l.length + m)).flatMap enc)
  old : wr.ownsRow base E k r.v r.l.length ((marks mk t 0 r.l.length).flatMap enc)
  by' : W0.grownBy wr r.v.ownBlock
  lies : cur.ownBlock = r.v.ownBlock ∨ ∃ g, cur.ownBlock = some g ∧ W0.heap.size ≤ g
  low : ∀ b, r.v.ownBlock = some b → b < W0.heap.size
section
variable {α : Type} {mk : Nat → Nat → α} {enc : α → List Value} {base : Nat} {E : TypeId} {k t : Nat} {r : Lst α} {W0 wr w1 w2 : World} {cur v' : Value} {m x : Nat}
theorem Cur.start (h : wr.ownsRow base E k r.v r.l.length ((marks mk t 0 r.l.length).flatMap enc)) : Cur mk enc base E k t r wr wr r.v 0 := ⟨h, h, gb_refl _ _, .inl rfl, fun b hb => (h.lt b hb).2⟩
theorem Cur.on (h : Cur mk enc base E k t r W0 wr cur m) (g : Below wr.heap.size wr w1) : Cur mk enc base E k t r W0 w1 cur m :=
  ⟨own_on h.own g, own_on h.old g, ⟨g.os.trans h.by'.os, g.tape.trans h.by'.tape, g.output.trans h.by'.output, Nat.le_trans h.by'.size g.size, fun j hj hn => (g.block j (Nat.lt_of_lt_of_le hj h.by'.size)).trans (h.by'.block j hj hn)⟩, h.lies, h.low⟩
theorem Cur.step (h : Cur mk enc base E k t r W0 wr cur m) (hk0 : 0 < k) (hv : w2.ownsRow base E k v' (r.l.length + m + x) ((marks mk t 0 (r.l.length + m)).flatMap enc ++ (marks mk t (r.l.length + m) x).flatMap enc)) (hg : wr.grownBy w2 cur.ownBlock)
    (hk : w2.ownsRow base E k cur (r.l.length + m) ((marks mk t 0 (r.l.length + m)).flatMap enc)) (hl : v'.ownBlock = cur.ownBlock ∨ v'.ownBlock = some wr.heap.size) : Cur mk enc base E k t r W0 w2 v' (m + x) := by
  have e1 : marks mk t 0 (r.l.length + (m + x)) = marks mk t 0 (r.l.length + m) ++ marks mk t (r.l.length + m) x := by rw [← Nat.add_assoc, marks_add]
  refine ⟨?_, ?_, ?_, ?_, h.low⟩
  · rw [e1, List.flatMap_append, ← Nat.add_assoc]; exact hv
  · rcases h.lies with e | ⟨g, e, hge⟩
    · rw [marks_add, List.flatMap_append] at hk
      have ho := h.own
      exact own_same h.old ho e hk hk0 (by omega)
    · refine h.old.kept hg ?_
      rw [e]
      cases hb : r.v.ownBlock with
      | none => exact .inl rfl
      | some b =>
        right
        intro e2
        cases e2
        have := h.low _ hb
        omega
  · refine ⟨hg.os.trans h.by'.os, hg.tape.trans h.by'.tape, hg.output.trans h.by'.output, Nat.le_trans h.by'.size hg.size, fun j hj hn => ?_⟩
    refine (hg.block j (Nat.lt_of_lt_of_le hj h.by'.size) (fun e => ?_)).trans (h.by'.block j hj hn)
    rcases h.lies with e2 | ⟨g, e2, hge⟩
    · rw [e2] at e; exact hn e
    · rw [e2] at e; cases e; omega
  · have hs := h.by'.size
    rcases hl with e | e
    · rw [e]; exact h.lies
    · exact .inr ⟨_, e, hs⟩
/-- What is grown lies apart from every other list. -/
theorem Cur.apart (h : Cur mk enc base E k t r W0 wr cur m) {v : Value} (ha : Apart2 r.v v) (hv : ∀ b, v.ownBlock = some b → b < W0.heap.size) : Apart2 cur v := by
  intro g hg e
  rcases h.lies with e2 | ⟨g2, e2, hge⟩
  · rw [e2] at hg; exact ha g hg e
  · rw [e2] at hg
    cases hg
    have := hv _ e
    omega
/-- .. and leaves it as it was. -/
theorem Cur.kept (h : Cur mk enc base E k t r W0 wr cur m) {v : Value} {n : Nat} {xs : List Value} {B : Nat} {F : TypeId} {q : Nat} (ho : W0.ownsRow B F q v n xs) (ha : Apart2 v r.v) : wr.ownsRow B F q v n xs := by
  refine ho.kept h.by' ?_
  cases hb : v.ownBlock with
  | none => exact .inl rfl
  | some b => exact .inr (fun e => ha b hb e.symm)
theorem Cur.chg (h : Cur mk enc base E k t r W0 wr cur m) {n : Nat} {xs : List Value} (ho : W0.ownsRow base E k r.v n xs) (hb : base ≤ W0.heap.size) : Chg base E W0 wr := Chg.by h.by' ho hb
end
/-- Rows of two types lie in two blocks. -/
theorem apartT {w : World} {B B' n n' k k' : Nat} {E F : TypeId} {v u : Value} {xs ys : List Value} (h : w.ownsRow B E k v n xs) (g : w.ownsRow B' F k' u n' ys) (hn : E ≠ F) : Apart2 v u := by
  intro b hb hu
  rcases h.2 with ⟨rfl, _⟩ | ⟨b1, _, _, rfl, _, hg1, _⟩
  · simp [Value.ownBlock] at hb
  · rcases g.2 with ⟨rfl, _⟩ | ⟨b2, _, _, rfl, _, hg2, _⟩
    · simp [Value.ownBlock] at hu
    · simp [Value.ownBlock] at hb hu
      subst hb hu
      rw [hg1] at hg2
      cases hg2
      exact hn rfl
theorem typeAt {w : World} {B n k b : Nat} {E : TypeId} {v : Value} {xs : List Value} (h : w.ownsRow B E k v n xs) (hb : v.ownBlock = some b) : ∃ cur, w.heap[b]? = some (.cells cur E (0, 0)) := by
  rcases h.2 with ⟨rfl, _⟩ | ⟨b1, _, cur, rfl, _, hg1, _⟩
  · simp [Value.ownBlock] at hb
  · simp [Value.ownBlock] at hb
    subst hb
    exact ⟨cur, hg1⟩
theorem Chg.fresh {base : Nat} {E : TypeId} {w wr w1 : World} {row : Option Nat} (h : Chg base E w wr) (g : wr.grownBy w1 row) (hr : ∀ k, row = some k → w.heap.size ≤ k) (hb : base ≤ w.heap.size) : Chg base E w w1 := by
  refine ⟨h.below.grown g (Nat.le_trans hb h.size) (fun k hk => Nat.le_trans hb (hr k hk)), fun k hk hn => ?_⟩
  rw [g.block k (Nat.lt_of_lt_of_le hk h.size) (fun e => by have := hr k e.symm; omega)]
  exact h.other k hk hn
end Go.Proofs.Ytflffgjldoipfaa

/-
  The Book's own block, and its rows of lists, while it is handed one more. No program in sight.
-/
import Derived.Test.YtflffgjldoipfaaUCur
namespace Go.Proofs.Ytflffgjldoipfaa
open Go Go.RowKit

theorem bk_cell {w : World} {B i : Nat} {T : TypeId} {v : Value} {cs : Array Value} (h : w.heap[B]? = some (.cells cs T (0, 0))) (hv : cs[i]? = some v) : w.cell? ⟨B, i, none⟩ = some v ∧ w.frozen? ⟨B, i, none⟩ = false :=
  ⟨by rw [cell_of_row w B i cs _ _ h]; exact hv, frozen_of_row w B i cs _ h⟩
theorem bk_by {w w1 : World} {base B m : Nat} {E T : TypeId} {v : Value} {xs : List Value} {cs : Array Value} {o : Obj} (ho : w.ownsRow base E 1 v m xs) (hT : T ≠ E) (hbk : w.heap[B]? = some (.cells cs T (0, 0))) (hg : (w.alloc o).grownBy w1 v.ownBlock) : w1.heap[B]? = some (.cells cs T (0, 0)) := by
  have hlt := (Array.getElem?_eq_some_iff.1 hbk).1
  rw [hg.block B (by simp; omega) (fun e => by
    obtain ⟨c2, e2⟩ := typeAt ho e.symm
    rw [hbk] at e2
    cases e2
    exact hT rfl), Below.heap_alloc w o B hlt]
  exact hbk

/-- Only blocks of two types, from base on, have been written, and new ones made. -/
structure FrB (base : Nat) (E T : TypeId) (w w' : World) : Prop where
  below : Below base w w'
  other : ∀ k, k < w.heap.size → (∀ cur fr, w.heap[k]? ≠ some (.cells cur E fr)) → (∀ cur fr, w.heap[k]? ≠ some (.cells cur T fr)) → w'.heap[k]? = w.heap[k]?
theorem FrB.trans {base : Nat} {E T : TypeId} {a b c : World} (h : FrB base E T a b) (g : FrB base E T b c) : FrB base E T a c := by
  refine ⟨h.below.trans g.below, fun k hk hn hm => ?_⟩
  have h1 := h.other k hk hn hm
  rw [← h1]
  exact g.other k (Nat.lt_of_lt_of_le hk h.below.size) (fun cur fr => by rw [h1]; exact hn cur fr) (fun cur fr => by rw [h1]; exact hm cur fr)
theorem FrB.chg {base : Nat} {E T : TypeId} {a b : World} (h : Chg base E a b) : FrB base E T a b := ⟨h.below, fun k hk hn _ => h.other k hk hn⟩
theorem FrB.on {base : Nat} {E T : TypeId} {a b : World} (h : Below a.heap.size a b) (hb : base ≤ a.heap.size) : FrB base E T a b := ⟨h.mono hb, fun k hk _ _ => h.block k hk⟩
theorem FrB.set {base : Nat} {E T : TypeId} {w : World} {B o : Nat} {cs : Array Value} {fr : Nat × Nat} (hb : base ≤ B) (h : w.heap[B]? = some (.cells cs T fr)) (v : Value) : FrB base E T w (w.setCell ⟨B, o, none⟩ v) := by
  refine ⟨(Below.refl base w).setCell hb v, fun k hk _ hm => Below.heap_setCell _ _ _ _ (fun e => ?_)⟩
  rw [e] at hm
  exact hm _ _ h
theorem FrB.cell {base : Nat} {E T F : TypeId} {a b : World} (h : FrB base E T a b) (h1 : F ≠ E) (h2 : F ≠ T) {g : Nat} {cs : Array Value} {fr : Nat × Nat} (hg : a.heap[g]? = some (.cells cs F fr)) : b.heap[g]? = some (.cells cs F fr) := by
  rw [h.other g (Array.getElem?_eq_some_iff.1 hg).1 (fun cur f e => by rw [hg] at e; cases e; exact h1 rfl) (fun cur f e => by rw [hg] at e; cases e; exact h2 rfl)]
  exact hg
theorem FrB.owns {base B : Nat} {E T F : TypeId} {a b : World} (h : FrB base E T a b) (h1 : F ≠ E) (h2 : F ≠ T) {v : Value} {n k : Nat} {xs : List Value} (ho : a.ownsRow B F k v n xs) : b.ownsRow B F k v n xs := by
  refine ⟨ho.1, ?_⟩
  rcases ho.2 with h3 | ⟨g, cap, cur, e, hb, hg, r⟩
  · exact .inl h3
  · exact .inr ⟨g, cap, cur, e, hb, h.cell h1 h2 hg, r⟩
/-- A row of another type than a block that is written stays. -/
theorem own_set {w : World} {B base o n k : Nat} {E T : TypeId} {v u : Value} {xs : List Value} {cs : Array Value} {fr : Nat × Nat} (h : w.ownsRow base E k v n xs) (hb : w.heap[B]? = some (.cells cs T fr)) (hn : T ≠ E) : (w.setCell ⟨B, o, none⟩ u).ownsRow base E k v n xs := by
  refine ⟨h.1, ?_⟩
  rcases h.2 with h3 | ⟨g, cap, cur, e, hg1, hg, r⟩
  · exact .inl h3
  · refine .inr ⟨g, cap, cur, e, hg1, ?_, r⟩
    rw [Below.heap_setCell _ _ _ _ (fun e2 => ?_)]
    · exact hg
    · simp only at e2
      rw [e2, hb] at hg
      cases hg
      exact hn rfl
/-- The row that a list is put into, and the Book's own cell. -/
theorem stage1 {w w1 : World} {B base m c k n cap : Nat} {E H T : TypeId} {cs : Array Value} {hv hq v' : Value} {hs qs ls : List Value} {a : Option Addr} {o : Obj} (hbk : w.heap[B]? = some (.cells cs T (0, 0))) (ho : w.ownsRow base H 1 hv m hs) (hp : w.ownsRow base H 1 hq m qs) (hap : Apart2 hv hq)
    (hl : w.ownsRow base E k (.slice a n cap) n ls) (n1 : T ≠ H) (n2 : T ≠ E) (n3 : E ≠ H) (hbase : base ≤ w.heap.size) (hBb : base ≤ B)
    (hv1 : w1.ownsRow base H 1 v' (m + 1) (hs ++ [.slice a n cap])) (hg1 : (w.alloc o).grownBy w1 hv.ownBlock) (hl1 : v'.ownBlock = hv.ownBlock ∨ v'.ownBlock = some (w.alloc o).heap.size) :
    let W2 := w1.setCell ⟨B, c, none⟩ v'
    W2.heap[B]? = some (.cells (cs.setIfInBounds c v') T (0, 0)) ∧ W2.ownsRow base H 1 v' (m + 1) (hs ++ [.slice a n cap]) ∧ W2.ownsRow base H 1 hq m qs ∧ W2.ownsRow base E k (.slice a n cap) n ls ∧ Apart2 v' hq ∧ FrB base H T w W2 ∧ base ≤ W2.heap.size := by
  have hbk1 := bk_by ho n1 hbk hg1
  have hs1 := hg1.size
  have hss : (w.alloc o).heap.size = w.heap.size + 1 := by simp
  have hkp : w1.ownsRow base H 1 hq m qs := (hp.alloc o).kept hg1 (by
    cases hb : hq.ownBlock with
    | none => exact .inl rfl
    | some b => exact .inr (fun e => hap b e.symm hb))
  have hkl : w1.ownsRow base E k (.slice a n cap) n ls := (hl.alloc o).kept hg1 (by
    cases hb : (Value.slice a n cap).ownBlock with
    | none => exact .inl rfl
    | some b => exact .inr (fun e => apartT hl ho n3 b hb e.symm))
  refine ⟨heap_setCell_same w1 B c cs T v' hbk1, own_set hv1 hbk1 n1, own_set hkp hbk1 n1, own_set hkl hbk1 n2, ?_, ?_, ?_⟩
  · intro g hg e
    rcases hl1 with e1 | e1
    · rw [e1] at hg; exact hap g hg e
    · rw [e1] at hg
      cases hg
      have := (hp.lt _ e).2
      omega
  · have h1 : FrB base H T w w1 := (FrB.on (below1 w o) hbase).trans (FrB.chg (Chg.by hg1 (ho.alloc o) (by omega)))
    exact h1.trans (FrB.set hBb hbk1 v')
  · simp [World.setCell]; omega
theorem stage2 {w W2 w3 w4 : World} {B base m c k n : Nat} {E H T : TypeId} {cs : Array Value} {hv hq v' cv : Value} {hs qs ls : List Value} {o : Obj} (hv2 : W2.ownsRow base H 1 hv (m + 1) hs) (hq2 : W2.ownsRow base H 1 hq m qs) (hap2 : Apart2 hv hq) (hF2 : FrB base H T w W2) (hsz2 : base ≤ W2.heap.size) (hBb : base ≤ B)
    (hB3 : Below W2.heap.size W2 w3) (hbk3 : w3.heap[B]? = some (.cells cs T (0, 0))) (hv3 : w3.ownsRow base E k cv n ls) (n1 : T ≠ H) (n2 : T ≠ E) (n3 : E ≠ H)
    (hv4 : w4.ownsRow base H 1 v' (m + 1) (qs ++ [cv])) (hg4 : (w3.alloc o).grownBy w4 hq.ownBlock) (hl4 : v'.ownBlock = hq.ownBlock ∨ v'.ownBlock = some (w3.alloc o).heap.size) :
    (w4.setCell ⟨B, c, none⟩ v').heap[B]? = some (.cells (cs.setIfInBounds c v') T (0, 0)) ∧ (w4.setCell ⟨B, c, none⟩ v').ownsRow base H 1 hv (m + 1) hs ∧ (w4.setCell ⟨B, c, none⟩ v').ownsRow base H 1 v' (m + 1) (qs ++ [cv]) ∧ Apart2 hv v' ∧ (w4.setCell ⟨B, c, none⟩ v').ownsRow base E k cv n ls ∧ FrB base H T w (w4.setCell ⟨B, c, none⟩ v') := by
  have hq3 := own_on hq2 hB3
  have hv3' := own_on hv2 hB3
  have hbk4 := bk_by hq3 n1 hbk3 hg4
  have hss : (w3.alloc o).heap.size = w3.heap.size + 1 := by simp
  have hs3 := hB3.size
  have hkv : w4.ownsRow base H 1 hv (m + 1) hs := (hv3'.alloc o).kept hg4 (by
    cases hb : hv.ownBlock with
    | none => exact .inl rfl
    | some b => exact .inr (fun e => hap2 b hb e.symm))
  have hkl : w4.ownsRow base E k cv n ls := (hv3.alloc o).kept hg4 (by
    cases hb : cv.ownBlock with
    | none => exact .inl rfl
    | some b => exact .inr (fun e => apartT hv3 hq3 n3 b hb e.symm))
  refine ⟨heap_setCell_same w4 B c cs T v' hbk4, own_set hkv hbk4 n1, own_set hv4 hbk4 n1, ?_, own_set hkl hbk4 n2, ?_⟩
  · intro g hg e
    rcases hl4 with e1 | e1
    · rw [e1] at e; exact hap2 g hg e
    · rw [e1] at e
      cases e
      have := (hv3'.lt _ hg).2
      omega
  · have h1 : FrB base H T w w3 := hF2.trans (FrB.on hB3 hsz2)
    have h2 : FrB base H T w w4 := (h1.trans (FrB.on (below1 w3 o) (by omega))).trans (FrB.chg (Chg.by hg4 (hq3.alloc o) (by omega)))
    exact h2.trans (FrB.set hBb hbk4 v')
end Go.Proofs.Ytflffgjldoipfaa

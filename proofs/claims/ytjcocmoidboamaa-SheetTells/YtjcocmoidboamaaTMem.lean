/-
  A platter in memory: its block, its rows of pages, its writes; what a store of many cells, a copy, leaves of them. No call in sight.
-/
import Derived.Test.YtjcocmoidboamaaTNum
import Derived.Test.YtjcocmoidboamaaUApp
import Derived.Test.YtjcocmoidboamaaBBut
import Derived.Deep.MidRow
import Derived.Deep.RegionLaw
namespace Go.Proofs.Ytjcocmoidboamaa
open Go Go.RowKit

/-! ### Rows of many cells -/
def setL : List Value → Nat → List Value → List Value
  | xs, _, [] => xs
  | xs, o, v :: vs => setL (xs.set o v) (o + 1) vs
theorem setL_far (l : List Value) : ∀ (vs r : List Value) (o : Nat), setL (l ++ r) (l.length + o) vs = l ++ setL r o vs
  | [], _, _ => rfl
  | v :: vs, r, o => by
    rw [setL, setL, List.set_append_right _ _ (by omega), Nat.add_sub_cancel_left]
    exact setL_far l vs (r.set o v) (o + 1)
theorem setL_head : ∀ (vs r : List Value), vs.length ≤ r.length → setL r 0 vs = vs ++ r.drop vs.length
  | [], r, _ => by simp [setL]
  | v :: vs, [], h => by simp at h
  | v :: vs, x :: r, h => by
    have := setL_far [v] vs r 0
    rw [setL, List.set_cons_zero]
    simp only [List.singleton_append, List.length_singleton] at this
    rw [show (0 : Nat) + 1 = 1 + 0 by rfl, this, setL_head vs r (by simpa using h)]
    simp
/-- A row of rows, one of them with other cells at its head. -/
theorem setL_flat (k : Nat) (vs : List Value) (hv : vs.length ≤ k) : ∀ (R : List (List Value)) (i : Nat) (r : List Value), (∀ x ∈ R, x.length = k) → R[i]? = some r → setL R.flatten (i * k) vs = (R.set i (vs ++ r.drop vs.length)).flatten
  | x :: R, 0, r, hk, hr => by
    obtain rfl : x = r := by simpa using hr
    have hx := hk x (by simp)
    rw [List.flatten_cons, Nat.zero_mul, setL_head vs _ (by simp; omega), List.set_cons_zero, List.flatten_cons, List.drop_append_of_le_length (by omega), List.append_assoc]
  | x :: R, i + 1, r, hk, hr => by
    have hx := hk x (by simp)
    rw [List.flatten_cons, show (i + 1) * k = x.length + i * k by rw [hx, Nat.add_mul]; omega, setL_far, setL_flat k vs hv R i r (fun y hy => hk y (by simp [hy])) (by simpa using hr), List.set_cons_succ, List.flatten_cons]
theorem flat_got (k : Nat) : ∀ (R : List (List Value)) (i : Nat) (r : List Value), (∀ x ∈ R, x.length = k) → R[i]? = some r → ∀ j v, r[j]? = some v → R.flatten[i * k + j]? = some v
  | x :: R, 0, r, hk, hr, j, v, hj => by
    obtain rfl : x = r := by simpa using hr
    have hjl : j < x.length := (List.getElem?_eq_some_iff.1 hj).1
    rw [List.flatten_cons, List.getElem?_append_left (by omega), Nat.zero_mul, Nat.zero_add, hj]
  | x :: R, i + 1, r, hk, hr, j, v, hj => by
    have hx := hk x (by simp)
    rw [List.flatten_cons, List.getElem?_append_right (by rw [hx, Nat.add_mul]; omega), hx, show (i + 1) * k + j - k = i * k + j by rw [Nat.add_mul]; omega]
    exact flat_got k R i r (fun y hy => hk y (by simp [hy])) (by simpa using hr) j v hj
theorem flat_length (k : Nat) : ∀ (R : List (List Value)), (∀ x ∈ R, x.length = k) → R.flatten.length = R.length * k
  | [], _ => by simp
  | x :: R, h => by rw [List.flatten_cons, List.length_append, h x (by simp), flat_length k R (fun y hy => h y (by simp [hy])), List.length_cons, Nat.add_mul]; omega

/-! ### What is owned, and a store of many cells -/
section
variable {w : World} {B E k g n cap : Nat} {xs : List Value}
theorem own_setCells : ∀ (vs : List Value) {w : World} {xs : List Value} (o : Nat), w.ownsRow B E k (.slice (some ⟨g, 0, none⟩) n cap) n xs → (w.setCells g o vs).ownsRow B E k (.slice (some ⟨g, 0, none⟩) n cap) n (setL xs o vs)
  | [], _, _, _, h => h
  | v :: vs, _, _, o, h => own_setCells vs (o + 1) (h.stored o v).1
theorem but_setCells {S : Nat → Prop} {b : Nat} (hb : S b) : ∀ (vs : List Value) (o : Nat) {w W : World}, But S w W → But S w (W.setCells b o vs)
  | [], _, _, _, h => h
  | v :: vs, o, _, _, h => but_setCells hb vs (o + 1) (h.set hb o none v)
theorem own_range (h : w.ownsRow B E k (.slice (some ⟨g, 0, none⟩) n cap) n xs) (o : Nat) (cs : List Value) (hc : ∀ j v, cs[j]? = some v → xs[o + j]? = some v) : w.rangeAt g o cs := fun j v hj => by
  have hx := hc j v hj
  have hl : o + j < n * k := by rw [← h.1]; exact (List.getElem?_eq_some_iff.1 hx).1
  rw [h.cellAt _ hl, hx]
theorem own_there (h : w.ownsRow B E k (.slice (some ⟨g, 0, none⟩) n cap) n xs) (o m : Nat) (hm : o + m ≤ n * k) : w.there g o m := fun j hj => by
  refine ⟨?_, h.frozenAt _⟩
  rw [h.cellAt _ (by omega), List.getElem?_eq_getElem (by rw [h.1]; omega)]
  rfl
end

/-! ### The rows of a platter -/
theorem pages_rows (L : List ByteArray) : pagesV L = (L.map pgV).flatten := by simp [pagesV, List.flatMap]
theorem wrs_rows (L : List Wr) : wrsV L = (L.map wrV).flatten := by simp [wrsV, List.flatMap]
theorem pages_len {L : List ByteArray} (h : ∀ x ∈ L, x.size = 128) : ∀ r ∈ L.map pgV, r.length = 128 := by
  intro r hr
  obtain ⟨x, hx, rfl⟩ := List.mem_map.1 hr
  rw [pgV_len, h x hx]
theorem wrs_len {L : List Wr} (h : ∀ x ∈ L, x.b.size = 128) : ∀ r ∈ L.map wrV, r.length = 129 := by
  intro r hr
  obtain ⟨x, hx, rfl⟩ := List.mem_map.1 hr
  rw [wrV_len, h x hx]
theorem pages_size {L : List ByteArray} (h : ∀ x ∈ L, x.size = 128) : (pagesV L).length = L.length * 128 := by rw [pages_rows, flat_length 128 _ (pages_len h), List.length_map]
theorem wrs_size {L : List Wr} (h : ∀ x ∈ L, x.b.size = 128) : (wrsV L).length = L.length * 129 := by rw [wrs_rows, flat_length 129 _ (wrs_len h), List.length_map]
theorem pages_one (L : List ByteArray) : ∀ v ∈ pagesV L, v.oneCell' = true := by
  intro v hv
  obtain ⟨x, _, hx⟩ := List.mem_flatMap.1 hv
  exact pgV_one x v hx
theorem wrs_one (L : List Wr) : ∀ v ∈ wrsV L, v.oneCell' = true := by
  intro v hv
  obtain ⟨x, _, hx⟩ := List.mem_flatMap.1 hv
  exact wrV_one x v hx

/-- The blocks of it. -/
def foot (b g1 g2 : Nat) (a3 : Option Addr) (i : Nat) : Prop := i = b ∨ i = g1 ∨ i = g2 ∨ (Value.slice a3 0 0).ownBlock = some i
theorem own_any (a : Option Addr) (n c : Nat) : (Value.slice a n c).ownBlock = (Value.slice a 0 0).ownBlock := by cases a <;> rfl
section
variable {w : World} {base b g1 c1 g2 c2 c3 : Nat} {a3 : Option Addr} {P : Pl}
end
theorem pages_set (L : List ByteArray) (h : ∀ x ∈ L, x.size = 128) {i : Nat} (hi : i < L.length) (y : ByteArray) (vs : List Value) (hv : vs.length ≤ 128) (e : pgV y = vs ++ (pgV (pg L i)).drop vs.length) : setL (pagesV L) (i * 128) vs = pagesV (L.set i y) := by
  rw [pages_rows, setL_flat 128 vs hv _ i (pgV (pg L i)) (pages_len h) (by rw [List.getElem?_map, pg_get hi]; rfl), ← e, pages_rows, List.map_set]
theorem wrs_set (L : List Wr) (h : ∀ x ∈ L, x.b.size = 128) {i : Nat} (x : Wr) (hi : L[i]? = some x) (j : Nat) (v : Value) (hj : (wrV x)[j]? = some v) : (wrsV L)[i * 129 + j]? = some v := by
  rw [wrs_rows]
  exact flat_got 129 _ i _ (wrs_len h) (by rw [List.getElem?_map, hi]; rfl) j v hj
end Go.Proofs.Ytjcocmoidboamaa

/-
  Lists of bodies and of joints that lie in memory: to be read (Bodies, Joints), or a call's own (Own).
-/
import Derived.Test.YtnkhknmpffcfbaaGreatSNum
import Derived.Test.YtnkhknmpffcfbaaGreatVTry
import Derived.OwnWalk
namespace Go.Proofs.YtnkhknmpffcfbaaGreat
open Go Go.RowKit

theorem flat_at {α : Type} (f : α → List Value) (k : Nat) (hk : ∀ x, (f x).length = k) : ∀ (L : List α) (i : Nat) (x : α), L[i]? = some x → ∀ c, c < k → (L.flatMap f)[i * k + c]? = (f x)[c]?
  | y :: L, 0, x, hx, c, hc => by
    obtain rfl : y = x := by simpa using hx
    rw [List.flatMap_cons, List.getElem?_append_left (by rw [hk]; omega)]
    simp
  | y :: L, i + 1, x, hx, c, hc => by
    have e : (i + 1) * k + c = k + (i * k + c) := by rw [Nat.add_mul]; omega
    rw [List.flatMap_cons, List.getElem?_append_right (by rw [hk, e]; omega), hk, e, Nat.add_sub_cancel_left]
    exact flat_at f k hk L i x (by simpa using hx) c hc
theorem flat_len {α : Type} (f : α → List Value) (k : Nat) (hk : ∀ x, (f x).length = k) (L : List α) : (L.flatMap f).length = L.length * k := by
  induction L with
  | nil => simp
  | cons x L ih => rw [List.flatMap_cons, List.length_append, ih, hk, List.length_cons, Nat.add_mul]; omega
theorem flat_mom (x y : Int) : ∀ (L : List Bd) (i : Nat), i < L.length → ((L.flatMap Bd.row).set (i * 8 + 6) (.int .i64 x)).set (i * 8 + 7) (.int .i64 y) = (L.set i ((bd L i).mom x y)).flatMap Bd.row
  | B :: L, 0, _ => by simp [Bd.row, Bd.mom, bd]
  | B :: L, i + 1, h => by
    have hi : i < L.length := by simpa using h
    have e : bd (B :: L) (i + 1) = bd L i := by simp [bd]
    rw [List.flatMap_cons, show (i + 1) * 8 + 6 = 8 + (i * 8 + 6) by omega, show (i + 1) * 8 + 7 = 8 + (i * 8 + 7) by omega,
      List.set_append_right _ _ (by simp [Bd.row]), List.set_append_right _ _ (by simp [Bd.row]), e, List.set_cons_succ, List.flatMap_cons]
    rw [show 8 + (i * 8 + 6) - B.row.length = i * 8 + 6 by simp [Bd.row], show 8 + (i * 8 + 7) - B.row.length = i * 8 + 7 by simp [Bd.row], flat_mom x y L i hi]
theorem flat_pos (x y : Int) : ∀ (L : List Bd) (i : Nat), i < L.length → ((L.flatMap Bd.row).set (i * 8 + 4) (.int .i64 x)).set (i * 8 + 5) (.int .i64 y) = (L.set i ((bd L i).pos x y)).flatMap Bd.row
  | B :: L, 0, _ => by simp [Bd.row, Bd.pos, bd]
  | B :: L, i + 1, h => by
    have hi : i < L.length := by simpa using h
    have e : bd (B :: L) (i + 1) = bd L i := by simp [bd]
    rw [List.flatMap_cons, show (i + 1) * 8 + 4 = 8 + (i * 8 + 4) by omega, show (i + 1) * 8 + 5 = 8 + (i * 8 + 5) by omega,
      List.set_append_right _ _ (by simp [Bd.row]), List.set_append_right _ _ (by simp [Bd.row]), e, List.set_cons_succ, List.flatMap_cons]
    rw [show 8 + (i * 8 + 4) - B.row.length = i * 8 + 4 by simp [Bd.row], show 8 + (i * 8 + 5) - B.row.length = i * 8 + 5 by simp [Bd.row], flat_pos x y L i hi]
def sets (xs : List Value) (o : Nat) (B : Bd) : List Value :=
  (((((((xs.set o (.int .i64 B.s)).set (o + 1) (.int .i64 B.a)).set (o + 2) (.int .i64 B.b)).set (o + 3) (.int .i64 B.m)).set (o + 4) (.int .i64 B.p)).set (o + 5) (.int .i64 B.q)).set (o + 6) (.int .i64 B.u)).set (o + 7) (.int .i64 B.v)
theorem sets_far (l m : List Value) (o k : Nat) (h : l.length = k) (B : Bd) : sets (l ++ m) (k + o) B = l ++ sets m o B := by
  unfold sets
  simp only [show k + o + 1 = k + (o + 1) by omega, show k + o + 2 = k + (o + 2) by omega, show k + o + 3 = k + (o + 3) by omega, show k + o + 4 = k + (o + 4) by omega, show k + o + 5 = k + (o + 5) by omega, show k + o + 6 = k + (o + 6) by omega, show k + o + 7 = k + (o + 7) by omega]
  have e : ∀ (r : List Value) (j : Nat) (v : Value), (l ++ r).set (k + j) v = l ++ r.set j v := fun r j v => by
    rw [List.set_append_right _ _ (by omega), h, Nat.add_sub_cancel_left]
  simp only [e]
theorem flat_sets (C : Bd) : ∀ (L : List Bd) (i : Nat), i < L.length → sets (L.flatMap Bd.row) (i * 8) C = (L.set i C).flatMap Bd.row
  | B :: L, 0, _ => by simp [sets, Bd.row]
  | B :: L, i + 1, h => by
    have hi : i < L.length := by simpa using h
    rw [List.flatMap_cons, show (i + 1) * 8 = 8 + i * 8 by omega, sets_far _ _ _ 8 (by simp [Bd.row]), flat_sets C L i hi, List.set_cons_succ, List.flatMap_cons]

/-- A body that lies at ⟨b, o⟩. -/
structure BatO (w : World) (b o : Nat) (B : Bd) : Prop where
  c0 : w.cell? ⟨b, o, none⟩ = some (.int .i64 B.s)
  c1 : w.cell? ⟨b, o + 1, none⟩ = some (.int .i64 B.a)
  c2 : w.cell? ⟨b, o + 2, none⟩ = some (.int .i64 B.b)
  c3 : w.cell? ⟨b, o + 3, none⟩ = some (.int .i64 B.m)
  c4 : w.cell? ⟨b, o + 4, none⟩ = some (.int .i64 B.p)
  c5 : w.cell? ⟨b, o + 5, none⟩ = some (.int .i64 B.q)
  c6 : w.cell? ⟨b, o + 6, none⟩ = some (.int .i64 B.u)
  c7 : w.cell? ⟨b, o + 7, none⟩ = some (.int .i64 B.v)
theorem BatO.heap {w W : World} {b o : Nat} {B : Bd} (h : BatO w b o B) (g : W.heap[b]? = w.heap[b]?) : BatO W b o B := by
  have k : ∀ o s, W.cell? ⟨b, o, s⟩ = w.cell? ⟨b, o, s⟩ := fun o s => cell_of_heap g
  exact ⟨(k _ _).trans h.c0, (k _ _).trans h.c1, (k _ _).trans h.c2, (k _ _).trans h.c3, (k _ _).trans h.c4, (k _ _).trans h.c5, (k _ _).trans h.c6, (k _ _).trans h.c7⟩
theorem BatO.size {w : World} {b o : Nat} {B : Bd} (h : BatO w b o B) : b < w.heap.size := cell_block h.c0
theorem BatO.grew {w W : World} {b o : Nat} {B : Bd} (h : BatO w b o B) (g : Grew w W) : BatO W b o B := h.heap (g.heap h.size)
/-- A joint that lies at ⟨b, o⟩. -/
structure JatO (w : World) (b o : Nat) (j : Jt) : Prop where
  c0 : w.cell? ⟨b, o, none⟩ = some (.int .i64 j.a)
  c1 : w.cell? ⟨b, o + 1, none⟩ = some (.int .i64 j.b)
  c2 : w.cell? ⟨b, o + 2, none⟩ = some (.int .i64 j.n)
theorem JatO.heap {w W : World} {b o : Nat} {j : Jt} (h : JatO w b o j) (g : W.heap[b]? = w.heap[b]?) : JatO W b o j := by
  have k : ∀ o s, W.cell? ⟨b, o, s⟩ = w.cell? ⟨b, o, s⟩ := fun o s => cell_of_heap g
  exact ⟨(k _ _).trans h.c0, (k _ _).trans h.c1, (k _ _).trans h.c2⟩
theorem JatO.size {w : World} {b o : Nat} {j : Jt} (h : JatO w b o j) : b < w.heap.size := cell_block h.c0
theorem JatO.grew {w W : World} {b o : Nat} {j : Jt} (h : JatO w b o j) (g : Grew w W) : JatO W b o j := h.heap (g.heap h.size)

/-- Bodies, joints that lie in memory, one behind the other. -/
structure Bodies (w : World) (a : Option Addr) (L : List Bd) : Prop where
  ok : ∀ x ∈ L, x.ok
  at' : L = [] ∨ ∃ b off, a = some ⟨b, off, none⟩ ∧ ∀ i, i < L.length → BatO w b (off + i * 8) (bd L i)
structure Joints (w : World) (a : Option Addr) (J : List Jt) : Prop where
  ok : ∀ x ∈ J, x.ok
  at' : J = [] ∨ ∃ b off, a = some ⟨b, off, none⟩ ∧ ∀ i, i < J.length → JatO w b (off + i * 3) (jt J i)
theorem Bodies.heap {w W : World} {a : Option Addr} {L : List Bd} (h : Bodies w a L) (g : ∀ i, i < w.heap.size → W.heap[i]? = w.heap[i]?) : Bodies W a L := by
  refine ⟨h.ok, ?_⟩
  rcases h.at' with e | ⟨b, off, e, k⟩
  · exact .inl e
  · exact .inr ⟨b, off, e, fun i hi => (k i hi).heap (g _ (k i hi).size)⟩
theorem Joints.heap {w W : World} {a : Option Addr} {J : List Jt} (h : Joints w a J) (g : ∀ i, i < w.heap.size → W.heap[i]? = w.heap[i]?) : Joints W a J := by
  refine ⟨h.ok, ?_⟩
  rcases h.at' with e | ⟨b, off, e, k⟩
  · exact .inl e
  · exact .inr ⟨b, off, e, fun i hi => (k i hi).heap (g _ (k i hi).size)⟩
theorem Bodies.grew {w W : World} {a : Option Addr} {L : List Bd} (h : Bodies w a L) (g : Grew w W) : Bodies W a L := h.heap fun _ hi => g.heap hi
theorem Joints.grew {w W : World} {a : Option Addr} {J : List Jt} (h : Joints w a J) (g : Grew w W) : Joints W a J := h.heap fun _ hi => g.heap hi
theorem Bodies.below {w W : World} {a : Option Addr} {L : List Bd} (h : Bodies w a L) (g : Below w.heap.size w W) : Bodies W a L := h.heap fun i hi => g.block i hi
theorem Joints.below {w W : World} {a : Option Addr} {J : List Jt} (h : Joints w a J) (g : Below w.heap.size w W) : Joints W a J := h.heap fun i hi => g.block i hi
theorem Bodies.block {w : World} {a : Option Addr} {L : List Bd} (h : Bodies w a L) {i : Nat} (hi : i < L.length) : ∃ b off, a = some ⟨b, off, none⟩ ∧ BatO w b (off + i * 8) (bd L i) := by
  rcases h.at' with e | ⟨b, off, e, k⟩
  · rw [e] at hi; simp at hi
  · exact ⟨b, off, e, k i hi⟩
theorem Joints.block {w : World} {a : Option Addr} {J : List Jt} (h : Joints w a J) {i : Nat} (hi : i < J.length) : ∃ b off, a = some ⟨b, off, none⟩ ∧ JatO w b (off + i * 3) (jt J i) := by
  rcases h.at' with e | ⟨b, off, e, k⟩
  · rw [e] at hi; simp at hi
  · exact ⟨b, off, e, k i hi⟩

/-! ### A call's own -/
/-- W is w with new blocks, and of the old ones those of S may have been written. -/
structure But (S : Nat → Prop) (w W : World) : Prop where
  os : W.os = w.os
  tape : W.tape = w.tape
  output : W.output = w.output
  size : w.heap.size ≤ W.heap.size
  block : ∀ i, i < w.heap.size → ¬ S i → W.heap[i]? = w.heap[i]?
theorem But.refl (S : Nat → Prop) (w : World) : But S w w := ⟨rfl, rfl, rfl, Nat.le_refl _, fun _ _ _ => rfl⟩
theorem But.trans {S : Nat → Prop} {a b c : World} (h : But S a b) (g : But S b c) : But S a c :=
  ⟨g.os.trans h.os, g.tape.trans h.tape, g.output.trans h.output, Nat.le_trans h.size g.size, fun i hi hn => (g.block i (Nat.lt_of_lt_of_le hi h.size) hn).trans (h.block i hi hn)⟩
theorem But.more {S T : Nat → Prop} {a b : World} (h : But S a b) (hS : ∀ n, n < a.heap.size → S n → T n) : But T a b := ⟨h.os, h.tape, h.output, h.size, fun i hi hn => h.block i hi fun e => hn (hS i hi e)⟩
theorem Below.but {S : Nat → Prop} {w W : World} (h : Below w.heap.size w W) : But S w W := ⟨h.os, h.tape, h.output, h.size, fun i hi _ => h.block i hi⟩
theorem Grew.but {S : Nat → Prop} {w W : World} (h : Grew w W) : But S w W := Go.Proofs.YtnkhknmpffcfbaaGreat.Below.but h.below
theorem But.below {S : Nat → Prop} {B : Nat} {w W : World} (h : But S w W) (hS : ∀ n, S n → B ≤ n) (hB : B ≤ w.heap.size) : Below B w W := ⟨h.os, h.tape, h.output, h.size, fun i hi => h.block i (by omega) fun e => by have := hS i e; omega⟩
theorem But.set {S : Nat → Prop} {w W : World} (h : But S w W) {b : Nat} (hb : S b) (o : Nat) (s : Option Nat) (v : Value) : But S w (W.setCell ⟨b, o, s⟩ v) :=
  h.trans ⟨rfl, rfl, rfl, by simp [World.setCell], fun i _ hn => Below.heap_setCell _ _ _ _ (fun e => hn (e ▸ hb))⟩
theorem But.alloc {S : Nat → Prop} {w W : World} (h : But S w W) (o : Obj) : But S w (W.alloc o) := h.trans ⟨rfl, rfl, rfl, by simp, fun i hi _ => Below.heap_alloc _ _ _ hi⟩
theorem But.cell {S : Nat → Prop} {w W : World} (h : But S w W) {p : Addr} {v : Value} (hc : w.cell? p = some v) (hn : ¬ S p.block) : W.cell? p = some v := by
  rw [cell_of_heap (h.block _ (cell_block hc) hn), hc]
theorem But.frozen {S : Nat → Prop} {w W : World} (h : But S w W) {p : Addr} (hc : p.block < w.heap.size) (hn : ¬ S p.block) (hz : w.frozen? p = false) : W.frozen? p = false := by
  rw [frozen_of_heap (h.block _ hc hn), hz]
theorem row_grew {w w' : World} {B n k : Nat} {E : TypeId} {v : Value} {xs : List Value} (h : w.ownsRow B E k v n xs) (g : Grew w w') : w'.ownsRow B E k v n xs := by
  refine ⟨h.1, ?_⟩
  rcases h.2 with h | ⟨b, cap, cur, e, hb, hg, r⟩
  · exact .inl h
  · exact .inr ⟨b, cap, cur, e, hb, (g.heap (Array.getElem?_eq_some_iff.1 hg).1).trans hg, r⟩
theorem row_but {S : Nat → Prop} {w w' : World} {B n k : Nat} {E : TypeId} {v : Value} {xs : List Value} (h : w.ownsRow B E k v n xs) (g : But S w w') (hS : ∀ i, v.ownBlock = some i → ¬ S i) : w'.ownsRow B E k v n xs := by
  refine ⟨h.1, ?_⟩
  rcases h.2 with h | ⟨b, cap, cur, rfl, hb, hg, r⟩
  · exact .inl h
  · exact .inr ⟨b, cap, cur, rfl, hb, (g.block _ (Array.getElem?_eq_some_iff.1 hg).1 (hS b rfl)).trans hg, r⟩
theorem row_base {w : World} {B B' n k : Nat} {E : TypeId} {v : Value} {xs : List Value} (h : w.ownsRow B E k v n xs) (hB : B' ≤ B) : w.ownsRow B' E k v n xs := by
  refine ⟨h.1, ?_⟩
  rcases h.2 with h | ⟨b, cap, cur, e, hb, r⟩
  · exact .inl h
  · exact .inr ⟨b, cap, cur, e, Nat.le_trans hB hb, r⟩
/-- The bodies L, in block g, that the call may write. -/
structure Own (w : World) (base : Nat) (a : Option Addr) (g cap : Nat) (L : List Bd) : Prop where
  ok : ∀ x ∈ L, x.ok
  row : w.ownsRow base 39 8 (.slice a L.length cap) L.length (L.flatMap Bd.row)
  at' : (a = none ∧ L = []) ∨ a = some ⟨g, 0, none⟩
theorem Own.grew {w W : World} {base : Nat} {a : Option Addr} {g cap : Nat} {L : List Bd} (h : Own w base a g cap L) (G : Grew w W) : Own W base a g cap L := ⟨h.ok, row_grew h.row G, h.at'⟩
theorem Own.got {w : World} {base : Nat} {a : Option Addr} {g cap : Nat} {L : List Bd} (h : Own w base a g cap L) {i : Nat} (hi : i < L.length) : a = some ⟨g, 0, none⟩ := by
  rcases h.at' with ⟨_, e⟩ | e
  · rw [e] at hi; simp at hi
  · exact e
theorem Own.but {S : Nat → Prop} {w W : World} {base : Nat} {a : Option Addr} {g cap : Nat} {L : List Bd} (h : Own w base a g cap L) (G : But S w W) (hg : ¬ S g) : Own W base a g cap L := by
  refine ⟨h.ok, row_but h.row G fun i hi => ?_, h.at'⟩
  rcases h.at' with ⟨rfl, _⟩ | rfl
  · cases hi
  · cases hi; exact hg
theorem Own.base {w : World} {base base' : Nat} {a : Option Addr} {g cap : Nat} {L : List Bd} (h : Own w base a g cap L) (hb : base' ≤ base) : Own w base' a g cap L := ⟨h.ok, row_base h.row hb, h.at'⟩
theorem Own.lt {w : World} {base : Nat} {a : Option Addr} {g cap : Nat} {L : List Bd} (h : Own w base a g cap L) {i : Nat} (hi : i < L.length) : base ≤ g ∧ g < w.heap.size := by
  have e := h.got hi
  have k := h.row.lt g (by rw [e]; rfl)
  exact k
theorem Own.cells {w : World} {base : Nat} {a : Option Addr} {g cap : Nat} {L : List Bd} (h : Own w base a g cap L) {i : Nat} (hi : i < L.length) : BatO w g (i * 8) (bd L i) := by
  have e := h.got hi
  have r := h.row
  rw [e] at r
  have k : ∀ c, c < 8 → w.cell? ⟨g, i * 8 + c, none⟩ = (bd L i).row[c]? := fun c hc => by
    rw [r.cellAt _ (by omega), flat_at Bd.row 8 (fun _ => rfl) L i _ (bd_get hi) c hc]
  exact ⟨k 0 (by omega), k 1 (by omega), k 2 (by omega), k 3 (by omega), k 4 (by omega), k 5 (by omega), k 6 (by omega), k 7 (by omega)⟩
theorem Own.free {w : World} {base : Nat} {a : Option Addr} {g cap : Nat} {L : List Bd} (h : Own w base a g cap L) {i : Nat} (hi : i < L.length) (k : Nat) : w.frozen? ⟨g, k, none⟩ = false := by
  have e := h.got hi
  have r := h.row
  rw [e] at r
  exact r.frozenAt k
theorem Own.bodies {w : World} {base : Nat} {a : Option Addr} {g cap : Nat} {L : List Bd} (h : Own w base a g cap L) : Bodies w a L := by
  refine ⟨h.ok, ?_⟩
  rcases h.at' with ⟨_, e⟩ | e
  · exact .inl e
  · exact .inr ⟨g, 0, e, fun i hi => by rw [Nat.zero_add]; exact h.cells hi⟩
theorem Own.mom {w : World} {base : Nat} {a : Option Addr} {g cap : Nat} {L : List Bd} (h : Own w base a g cap L) {i : Nat} (hi : i < L.length) {x y : Int} (hx : inF x) (hy : inF y) :
    Own ((w.setCell ⟨g, i * 8 + 6, none⟩ (.int .i64 x)).setCell ⟨g, i * 8 + 7, none⟩ (.int .i64 y)) base a g cap (L.set i ((bd L i).mom x y)) := by
  have e := h.got hi
  have r := h.row
  rw [e] at r
  refine ⟨ok_set h.ok ((h.ok _ (bd_mem hi)).mom hx hy) i, ?_, .inr e⟩
  rw [e, List.length_set, ← flat_mom x y L i hi]
  exact ((r.stored _ _).1.stored _ _).1
theorem Own.pos {w : World} {base : Nat} {a : Option Addr} {g cap : Nat} {L : List Bd} (h : Own w base a g cap L) {i : Nat} (hi : i < L.length) {x y : Int} (hx : inF x) (hy : inF y) :
    Own ((w.setCell ⟨g, i * 8 + 4, none⟩ (.int .i64 x)).setCell ⟨g, i * 8 + 5, none⟩ (.int .i64 y)) base a g cap (L.set i ((bd L i).pos x y)) := by
  have e := h.got hi
  have r := h.row
  rw [e] at r
  refine ⟨ok_set h.ok ((h.ok _ (bd_mem hi)).pos hx hy) i, ?_, .inr e⟩
  rw [e, List.length_set, ← flat_pos x y L i hi]
  exact ((r.stored _ _).1.stored _ _).1
/-- A body laid at ⟨g, o⟩. -/
def layO (V : World) (b o : Nat) (B : Bd) : World := (((((((V.setCell ⟨b, o, none⟩ (.int .i64 B.s)).setCell ⟨b, o + 1, none⟩ (.int .i64 B.a)).setCell ⟨b, o + 2, none⟩ (.int .i64 B.b)).setCell ⟨b, o + 3, none⟩ (.int .i64 B.m)).setCell ⟨b, o + 4, none⟩ (.int .i64 B.p)).setCell ⟨b, o + 5, none⟩ (.int .i64 B.q)).setCell ⟨b, o + 6, none⟩ (.int .i64 B.u)).setCell ⟨b, o + 7, none⟩ (.int .i64 B.v)
theorem Own.lay {w : World} {base : Nat} {a : Option Addr} {g cap : Nat} {L : List Bd} (h : Own w base a g cap L) {i : Nat} (hi : i < L.length) {B : Bd} (hB : B.ok) :
    Own (layO w g (i * 8) B) base a g cap (L.set i B) := by
  have e := h.got hi
  have r := h.row
  rw [e] at r
  refine ⟨ok_set h.ok hB i, ?_, .inr e⟩
  rw [e, List.length_set, ← flat_sets B L i hi]
  exact ((((((((r.stored _ _).1.stored _ _).1.stored _ _).1.stored _ _).1.stored _ _).1.stored _ _).1.stored _ _).1.stored _ _).1
theorem but_lay {S : Nat → Prop} {W V : World} (U : But S W V) {b : Nat} (hb : S b) (o : Nat) (B : Bd) : But S W (layO V b o B) := by
  unfold layO
  exact ((((((((U.set hb _ _ _).set hb _ _ _).set hb _ _ _).set hb _ _ _).set hb _ _ _).set hb _ _ _).set hb _ _ _).set hb _ _ _)
end Go.Proofs.YtnkhknmpffcfbaaGreat

/-
  Lists that the statements' Book keeps, marks and grows: plain words on them, and on the worlds behind it.
-/
import Derived.Test.YtflffgjldoipfaaUApp
import Derived.Test.YtflffgjldoipfaaPAlive
namespace Go.Proofs.Ytflffgjldoipfaa
open Go Go.RowKit

/-- A list: the slice, and what is in it. -/
structure Lst (α : Type) where
  v : Value
  l : List α
/-- .. which is the call's own, its room too. -/
def Lst.own {α : Type} (enc : α → List Value) (w : World) (base : Nat) (E : TypeId) (k : Nat) (r : Lst α) : Prop := w.ownsRow base E k r.v r.l.length (r.l.flatMap enc)
/-- Two slices in two blocks. -/
def Apart2 (v u : Value) : Prop := ∀ g, v.ownBlock = some g → u.ownBlock ≠ some g
theorem Apart2.symm {v u : Value} (h : Apart2 v u) : Apart2 u v := fun g h1 h2 => h g h2 h1

/-- Only blocks of one element type, from base on, have been written, and new ones made. -/
structure Chg (base : Nat) (E : TypeId) (w w' : World) : Prop where
  below : Below base w w'
  other : ∀ k, k < w.heap.size → (∀ cur fr, w.heap[k]? ≠ some (.cells cur E fr)) → w'.heap[k]? = w.heap[k]?
theorem Chg.refl (base : Nat) (E : TypeId) (w : World) : Chg base E w w := ⟨Below.refl _ _, fun _ _ _ => rfl⟩
theorem Chg.trans {base : Nat} {E : TypeId} {a b c : World} (h : Chg base E a b) (g : Chg base E b c) : Chg base E a c := by
  refine ⟨h.below.trans g.below, fun k hk hn => ?_⟩
  have h1 := h.other k hk hn
  rw [← h1]
  exact g.other k (Nat.lt_of_lt_of_le hk h.below.size) (fun cur fr => by rw [h1]; exact hn cur fr)
theorem Chg.on {base : Nat} {E : TypeId} {a b : World} (h : Below a.heap.size a b) (hb : base ≤ a.heap.size) : Chg base E a b := ⟨h.mono hb, fun k hk _ => h.block k hk⟩
theorem Chg.by {base : Nat} {E : TypeId} {a b : World} {v : Value} {k n : Nat} {xs : List Value} (h : a.grownBy b v.ownBlock) (ho : a.ownsRow base E k v n xs) (hb : base ≤ a.heap.size) : Chg base E a b := by
  refine ⟨(Below.refl base a).grown h hb (fun j hj => (ho.lt j hj).1), fun j hj hn => h.block j hj (fun e => ?_)⟩
  rcases ho.2 with ⟨rfl, _⟩ | ⟨g, cap, cur, rfl, _, hg, _⟩
  · simp [Value.ownBlock] at e
  · simp [Value.ownBlock] at e
    subst e
    exact hn _ _ hg
theorem Chg.size {base : Nat} {E : TypeId} {a b : World} (h : Chg base E a b) : a.heap.size ≤ b.heap.size := h.below.size
/-- A cell of a block of another type stays. -/
theorem Chg.cell {base : Nat} {E T : TypeId} {a b : World} (h : Chg base E a b) (hT : T ≠ E) {g : Nat} {cs : Array Value} {fr : Nat × Nat} (hg : a.heap[g]? = some (.cells cs T fr)) : b.heap[g]? = some (.cells cs T fr) := by
  rw [h.other g (Array.getElem?_eq_some_iff.1 hg).1 (fun cur f e => by rw [hg] at e; cases e; exact hT rfl)]
  exact hg
theorem Chg.owns {base B : Nat} {E T : TypeId} {a b : World} (h : Chg base E a b) (hT : T ≠ E) {v : Value} {n k : Nat} {xs : List Value} (ho : a.ownsRow B T k v n xs) : b.ownsRow B T k v n xs := by
  refine ⟨ho.1, ?_⟩
  rcases ho.2 with h1 | ⟨g, cap, cur, e, hb, hg, r⟩
  · exact .inl h1
  · exact .inr ⟨g, cap, cur, e, hb, h.cell hT hg, r⟩

theorem own_on {w w' : World} {B n k : Nat} {E : TypeId} {v : Value} {xs : List Value} (h : w.ownsRow B E k v n xs) (g : Below w.heap.size w w') : w'.ownsRow B E k v n xs := by
  refine ⟨h.1, ?_⟩
  rcases h.2 with h | ⟨b, cap, cur, e, hb, hg, r⟩
  · exact .inl h
  · exact .inr ⟨b, cap, cur, e, hb, (g.block b (Array.getElem?_eq_some_iff.1 hg).1).trans hg, r⟩

/-- Ints and pairs as cells. -/
def encI (x : Int) : List Value := [.int .i64 x]
def encJ (p : Int × Int) : List Value := [.int .i64 p.1, .int .i64 p.2]
theorem encI_one (l : List Int) : ∀ u ∈ l.flatMap encI, u.oneCell' = true := by
  intro u hu
  obtain ⟨x, _, hx⟩ := List.mem_flatMap.1 hu
  simp [encI] at hx
  subst hx; rfl
theorem encJ_one (l : List (Int × Int)) : ∀ u ∈ l.flatMap encJ, u.oneCell' = true := by
  intro u hu
  obtain ⟨x, _, hx⟩ := List.mem_flatMap.1 hu
  simp [encJ] at hx
  rcases hx with rfl | rfl <;> rfl
theorem encI_len : ∀ l : List Int, (l.flatMap encI).length = l.length * 1
  | [] => rfl
  | x :: l => by rw [List.flatMap_cons, List.length_append, encI_len l, List.length_cons]; simp [encI]; omega
theorem encJ_len : ∀ l : List (Int × Int), (l.flatMap encJ).length = l.length * 2
  | [] => rfl
  | x :: l => by rw [List.flatMap_cons, List.length_append, encJ_len l, List.length_cons]; simp [encJ]; omega
theorem readsI {w : World} {a : Option Addr} {l : List Int} (h : Reads w a (l.flatMap encI)) : IntsAt w a l := by
  rcases h with h | ⟨b, off, e, h⟩
  · left
    have := congrArg List.length h
    rw [encI_len] at this
    exact List.eq_nil_of_length_eq_zero (by simpa using this)
  · refine .inr ⟨b, off, e, fun i hi => ?_⟩
    have g := flat_get encI 1 (fun _ => rfl) l i hi 0 (by omega)
    rw [Nat.mul_one, Nat.add_zero] at g
    refine h i _ (g.trans ?_)
    simp [encI, List.getD, hi]
theorem readsJ {w : World} {a : Option Addr} {l : List (Int × Int)} (h : Reads w a (l.flatMap encJ)) : PairsAt w a l := by
  rcases h with h | ⟨b, off, e, h⟩
  · left
    have := congrArg List.length h
    rw [encJ_len, List.length_nil] at this
    exact List.eq_nil_of_length_eq_zero (by omega)
  · refine .inr ⟨b, off, e, fun i hi => ?_⟩
    have g0 := flat_get encJ 2 (fun _ => rfl) l i hi 0 (by omega)
    have g1 := flat_get encJ 2 (fun _ => rfl) l i hi 1 (by omega)
    rw [Nat.add_zero] at g0
    refine ⟨h (i * 2) _ (g0.trans ?_), ?_⟩
    · simp [encJ, List.getD, hi]
    · rw [Nat.add_assoc]
      refine h (i * 2 + 1) _ (g1.trans ?_)
      simp [encJ, List.getD, hi]
theorem nat_flat (F : List (Nat × Nat)) : F.flatMap encP = (F.map toI).flatMap encJ := by
  rw [List.flatMap_map]; rfl
def nI (i : Nat) : Int := (i : Int)
theorem int_flat (S : List Nat) : S.map natV = (S.map nI).flatMap encI := by
  rw [List.flatMap_map]
  induction S with
  | nil => rfl
  | cons x S ih => rw [List.map_cons, ih]; rfl

/-- The marks. -/
def markI (i j : Nat) : Int := -1000000 * (i : Int) - (j : Int) - 7
def markJ (i j : Nat) : Int × Int := (-1000 * (i : Int) - (j : Int) - 1, 0)
def marks {α : Type} (mk : Nat → Nat → α) (i f n : Nat) : List α := (List.range n).map fun j => mk i (f + j)
theorem marks_len {α : Type} (mk : Nat → Nat → α) (i f n : Nat) : (marks mk i f n).length = n := by simp [marks]
theorem marks_succ {α : Type} (mk : Nat → Nat → α) (i f n : Nat) : marks mk i f (n + 1) = marks mk i f n ++ [mk i (f + n)] := by simp [marks, List.range_succ]
theorem marks_add {α : Type} (mk : Nat → Nat → α) (i n m : Nat) : marks mk i 0 (n + m) = marks mk i 0 n ++ marks mk i n m := by
  induction m with
  | zero => simp [marks]
  | succ m ih => rw [← Nat.add_assoc, marks_succ, ih, marks_succ, List.append_assoc, Nat.zero_add]
/-- The heads of lists. -/
def heads {α : Type} (R : List (Lst α)) : List Value := R.map fun r => r.v
theorem heads_len {α : Type} (R : List (Lst α)) : (heads R).length = R.length := by simp [heads]
theorem heads_get {α : Type} {R : List (Lst α)} {i : Nat} {r : Lst α} (h : R[i]? = some r) : (heads R)[i]? = some r.v := by simp [heads, h]
theorem keep1 {wr W w1 : World} {p : Addr} {v : Value} (h : W.cell? p = some v ∧ Below wr.heap.size wr W) (g : Below W.heap.size W w1) : w1.cell? p = some v ∧ Below wr.heap.size wr w1 := ⟨(g.cell (cell_block h.1)).trans h.1, on_trans h.2 g⟩
/-- What is owned, and not empty, begins at the head of a block. -/
theorem own_some {w : World} {B n k : Nat} {E : TypeId} {v : Value} {xs : List Value} (h : w.ownsRow B E k v n xs) (hn : 0 < n) : ∃ g cap, v = .slice (some ⟨g, 0, none⟩) n cap ∧ B ≤ g ∧ g < w.heap.size ∧ ∃ cur, w.heap[g]? = some (.cells cur E (0, 0)) := by
  rcases h.2 with ⟨_, h0⟩ | ⟨g, cap, cur, rfl, hb, hg, _⟩
  · omega
  · exact ⟨g, cap, rfl, hb, (Array.getElem?_eq_some_iff.1 hg).1, cur, hg⟩
theorem set_at {α : Type} (A B : List α) (x y : α) (n : Nat) (h : A.length = n) : (A ++ x :: B).set n y = A ++ y :: B := by
  subst h; simp
theorem set1 (A B : List Int) (x y : Int) (n : Nat) (h : A.length = n) : ((A ++ x :: B).flatMap encI).set n (.int .i64 y) = (A ++ y :: B).flatMap encI := by
  rw [List.flatMap_append, List.flatMap_append, List.flatMap_cons, List.flatMap_cons]
  exact set_at _ _ _ _ _ (by rw [encI_len, h]; omega)
theorem set2 (A B : List (Int × Int)) (x y : Int × Int) (n : Nat) (h : A.length = n) : (((A ++ x :: B).flatMap encJ).set (n * 2) (.int .i64 y.1)).set (n * 2 + 1) (.int .i64 y.2) = (A ++ y :: B).flatMap encJ := by
  rw [List.flatMap_append, List.flatMap_append, List.flatMap_cons, List.flatMap_cons]
  have e : (A.flatMap encJ).length = n * 2 := by rw [encJ_len, h]
  have h1 := set_at (A.flatMap encJ) ([Value.int .i64 x.2] ++ B.flatMap encJ) (.int .i64 x.1) (.int .i64 y.1) (n * 2) e
  have h2 := set_at (A.flatMap encJ ++ [Value.int .i64 y.1]) (B.flatMap encJ) (.int .i64 x.2) (.int .i64 y.2) (n * 2 + 1) (by rw [List.length_append, e]; rfl)
  simp only [encJ, List.cons_append, List.nil_append, List.append_assoc] at h1 h2 ⊢
  rw [h1, h2]
/-- The lists while they are written over. -/
def half {α : Type} (mk : Nat → Nat → α) (t : Nat) (l : List α) (s : Nat) : List α := (marks mk t 0 l.length).take s ++ l.drop s
theorem half_len {α : Type} (mk : Nat → Nat → α) (t : Nat) (l : List α) (s : Nat) (h : s ≤ l.length) : (half mk t l s).length = l.length := by
  simp [half, marks_len]; omega
theorem half_none {α : Type} (mk : Nat → Nat → α) (t : Nat) (l : List α) : half mk t l 0 = l := by simp [half]
theorem half_all {α : Type} (mk : Nat → Nat → α) (t : Nat) (l : List α) : half mk t l l.length = marks mk t 0 l.length := by
  unfold half
  rw [List.drop_eq_nil_of_le (Nat.le_refl _), List.append_nil, List.take_of_length_le (by rw [marks_len]; omega)]
theorem half_parts {α : Type} (mk : Nat → Nat → α) (t : Nat) (l : List α) (s : Nat) (h : s < l.length) : ∃ A B x, A.length = s ∧ half mk t l s = A ++ x :: B ∧ half mk t l (s + 1) = A ++ mk t s :: B := by
  have hm : s < (marks mk t 0 l.length).length := by rw [marks_len]; exact h
  refine ⟨(marks mk t 0 l.length).take s, l.drop (s + 1), l[s], by rw [List.length_take, marks_len]; omega, ?_, ?_⟩
  · unfold half; rw [List.drop_eq_getElem_cons h]
  · unfold half
    rw [List.take_succ_eq_append_getElem hm, List.append_assoc]
    simp [marks]
theorem marks_get {α : Type} (mk : Nat → Nat → α) (i n s : Nat) (h : s < n) : (marks mk i 0 n)[s]? = some (mk i s) := by simp [marks, h]
theorem gb_refl (w : World) (row : Option Nat) : w.grownBy w row := ⟨rfl, rfl, rfl, Nat.le_refl _, fun _ _ _ => rfl⟩
theorem gb_trans {a b c : World} {row : Option Nat} (h : a.grownBy b row) (g : b.grownBy c row) : a.grownBy c row :=
  ⟨g.os.trans h.os, g.tape.trans h.tape, g.output.trans h.output, Nat.le_trans h.size g.size, fun k hk hn => (g.block k (Nat.lt_of_lt_of_le hk h.size) hn).trans (h.block k hk hn)⟩
theorem gb_drew {a b : World} {row : Option Nat} (h : a.grownBy b row) : a.grownBy b.drew row := ⟨h.os, h.tape, h.output, h.size, h.block⟩
theorem gb_on {a b c : World} {row : Option Nat} (h : Below a.heap.size a b) (g : b.grownBy c row) : a.grownBy c row :=
  ⟨g.os.trans h.os, g.tape.trans h.tape, g.output.trans h.output, Nat.le_trans h.size g.size, fun k hk hn => (g.block k (Nat.lt_of_lt_of_le hk h.size) hn).trans (h.block k hk)⟩
theorem apart_at {α : Type} {R : List (Lst α)} (h : R.Pairwise fun a b => Apart2 a.v b.v) {i j : Nat} {r q : Lst α} (hi : R[i]? = some r) (hj : R[j]? = some q) (hn : i ≠ j) : Apart2 r.v q.v := by
  obtain ⟨hil, rfl⟩ := List.getElem?_eq_some_iff.1 hi
  obtain ⟨hjl, rfl⟩ := List.getElem?_eq_some_iff.1 hj
  rcases Nat.lt_or_gt_of_ne hn with g | g
  · exact (List.pairwise_iff_getElem.1 h) i j hil hjl g
  · exact ((List.pairwise_iff_getElem.1 h) j i hjl hil g).symm
theorem far1 {w : World} {g o b q : Nat} {v u : Value} (h : b ≠ g) (hc : w.cell? ⟨b, q, none⟩ = some u) : (w.setCell ⟨g, o, none⟩ v).cell? ⟨b, q, none⟩ = some u := by
  rw [World.cell?_setCell_other _ _ _ _ (fun e => h (by cases e; rfl))]; exact hc
theorem far1d {w : World} {g o b q : Nat} {v u : Value} (h : b ≠ g) (hc : w.cell? ⟨b, q, none⟩ = some u) : (w.setCell ⟨g, o, none⟩ v).drew.cell? ⟨b, q, none⟩ = some u := far1 (w := w) h hc
theorem slice_one {a : Option Addr} {n cap : Nat} : (Value.slice a n cap).oneCell' = true := rfl
end Go.Proofs.Ytflffgjldoipfaa

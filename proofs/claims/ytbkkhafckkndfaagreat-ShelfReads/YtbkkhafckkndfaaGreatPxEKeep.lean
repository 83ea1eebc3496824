/-
  The document's own Read: its lists in memory, what they keep; its steps as plain lists.
-/
import Derived.Test.YtbkkhafckkndfaaGreatPxELook
import Derived.Test.YtbkkhafckkndfaaGreatPk06
namespace Go.Proofs.YtbkkhafckkndfaaGreat
open Go Go.RowKit

/-- What Read holds: what was seen, the records so far, the slots, the cells. -/
structure XR (w0 W : World) (s : Nat) (ld : Ld) (T : List Int) (v : Value) (L : List Pr) (vS : Value) (S : List Sl) (vC : Value) (C : List Ce) : Prop where
  rs : RS w0 W s ld T
  out : W.ownsRow w0.heap.size 83 2 v L.length (prsV L)
  sl : W.ownsRow w0.heap.size 77 2 vS S.length (slsV S)
  ce : W.ownsRow w0.heap.size 82 4 vC C.length (cesV C)
/-- A Cell of its own. -/
def VarC (W : World) (q : Nat) (c : Ce) : Prop := W.heap[q]? = some (.cells #[.int .i64 c.key, .int .i64 c.size, .int .i64 c.page, .string c.bytes] 82 (0, 0))
section
variable {w0 W W' : World} {s q : Nat} {ld : Ld} {T T' : List Int} {v vS vC : Value} {L : List Pr} {S : List Sl} {C : List Ce} {c : Ce}
theorem row_off {B n k : Nat} {E E' : TypeId} {xs : List Value} {cs : Array Value} (h : W.ownsRow B E k v n xs) (hs : W.heap[s]? = some (.cells cs E' (0, 0))) (hne : E ≠ E') : v.ownBlock ≠ some s := fun e => hne (OfT.ne (row_ofT h e) ⟨_, hs⟩)
theorem XR.below (h : XR w0 W s ld T v L vS S vC C) (g : Below W.heap.size W W') : XR w0 W' s ld T v L vS S vC C :=
  ⟨h.rs.below g, row_below h.out g, row_below h.sl g, row_below h.ce g⟩
theorem XR.look (h : XR w0 W s ld T v L vS S vC C) (hs : RS w0 W' s ld T') (g : But (fun i => i = s) W W') : XR w0 W' s ld T' v L vS S vC C :=
  ⟨hs, row_but h.out g fun i e f => row_off h.out h.rs.blk (by decide) (f ▸ e), row_but h.sl g fun i e f => row_off h.sl h.rs.blk (by decide) (f ▸ e), row_but h.ce g fun i e f => row_off h.ce h.rs.blk (by decide) (f ▸ e)⟩
theorem XR.app (h : XR w0 W s ld T v L vS S vC C) {v2 : Value} {L2 : List Pr} (g : W.grownBy W' v.ownBlock) (ho : W'.ownsRow w0.heap.size 83 2 v2 L2.length (prsV L2)) : XR w0 W' s ld T v2 L2 vS S vC C := by
  have g2 := grown_but g
  refine ⟨h.rs.but g2 (fun i e => (h.out.lt i e).1) (row_off h.out h.rs.blk (by decide)), ho, row_but h.sl g2 fun i e f => ?_, row_but h.ce g2 fun i e f => ?_⟩
  · exact absurd (OfT.ne (row_ofT h.out f) (row_ofT h.sl e)) (by decide)
  · exact absurd (OfT.ne (row_ofT h.out f) (row_ofT h.ce e)) (by decide)
/-- A list of another kind is written: all four stay. -/
theorem XR.beside (h : XR w0 W s ld T v L vS S vC C) {n k : Nat} {xs : List Value} {vw : Value} (hw : W.ownsRow w0.heap.size 86 k vw n xs) (g : W.grownBy W' vw.ownBlock) : XR w0 W' s ld T v L vS S vC C := by
  have g2 := grown_but g
  refine ⟨h.rs.but g2 (fun i e => (hw.lt i e).1) (row_off hw h.rs.blk (by decide)), row_but h.out g2 fun i e f => ?_, row_but h.sl g2 fun i e f => ?_, row_but h.ce g2 fun i e f => ?_⟩
  · exact absurd (OfT.ne (row_ofT hw f) (row_ofT h.out e)) (by decide)
  · exact absurd (OfT.ne (row_ofT hw f) (row_ofT h.sl e)) (by decide)
  · exact absurd (OfT.ne (row_ofT hw f) (row_ofT h.ce e)) (by decide)
theorem XR.cells (h : XR w0 W s ld T v L vS S vC C) {v2 : Value} {C2 : List Ce} (hc : W.ownsRow w0.heap.size 82 4 v2 C2.length (cesV C2)) : XR w0 W s ld T v L vS S v2 C2 := ⟨h.rs, h.out, h.sl, hc⟩
theorem XR.bare (h : XR w0 W s ld T v L vS S vC C) : XR w0 W s ld T v L vS S (.slice none 0 0) [] := h.cells (World.ownsRow_nil _ _ _ _)
theorem VarC.new (W : World) (c : Ce) : VarC (W.alloc (.cells #[.int .i64 c.key, .int .i64 c.size, .int .i64 c.page, .string c.bytes] 82)) W.heap.size c := heap_alloc_new W _
theorem VarC.lt (h : VarC W q c) : q < W.heap.size := (Array.getElem?_eq_some_iff.1 h).1
theorem VarC.below (h : VarC W q c) (g : Below W.heap.size W W') : VarC W' q c := (g.block q h.lt).trans h
theorem VarC.look (h : VarC W q c) (hs : RS w0 W s ld T) (g : But (fun i => i = s) W W') : VarC W' q c :=
  (g.block q h.lt fun e => by
    subst e
    have h1 : OfT W 82 q := ⟨_, h⟩
    have h2 : OfT W 9 q := ⟨_, hs.blk⟩
    exact absurd (OfT.ne h1 h2) (by decide)).trans h
theorem VarC.k0 (h : VarC W q c) : W.cell? ⟨q, 0, none⟩ = some (.int .i64 c.key) := by rw [cell_of_row _ _ _ _ _ _ h]; rfl
theorem VarC.k1 (h : VarC W q c) : W.cell? ⟨q, 1, none⟩ = some (.int .i64 c.size) := by rw [cell_of_row _ _ _ _ _ _ h]; rfl
theorem VarC.k2 (h : VarC W q c) : W.cell? ⟨q, 2, none⟩ = some (.int .i64 c.page) := by rw [cell_of_row _ _ _ _ _ _ h]; rfl
theorem VarC.k3 (h : VarC W q c) : W.cell? ⟨q, 3, none⟩ = some (.string c.bytes) := by rw [cell_of_row _ _ _ _ _ _ h]; rfl
theorem own_sls {B n cap : Nat} {E : TypeId} {a : Option Addr} (h : W.ownsRow B E 2 (.slice a n cap) n (slsV S)) : SlotsAt W a S := by
  obtain ⟨a', c', e, q⟩ := slots_of h
  cases e
  exact q
theorem own_ces {B n cap : Nat} {E : TypeId} {a : Option Addr} (h : W.ownsRow B E 4 (.slice a n cap) n (cesV C)) : CellsAt W a C := by
  obtain ⟨a', c', e, q⟩ := cells_of h
  cases e
  exact q
theorem own_prl {B n cap : Nat} {E : TypeId} {a : Option Addr} (h : W.ownsRow B E 2 (.slice a n cap) n (prsV L)) : PrsAt W a L := by
  obtain ⟨a', c', e, q⟩ := prs_of h
  cases e
  exact q
end
/-! ### The steps -/
def contR (ld : Ld) (S : List Sl) (r : Int × List Pr × List Int) : Int × List Pr × List Int := if r.1 = 0 then sltM ld S r.2.1 r.2.2 else r
theorem slt_err {ld : Ld} {x : Sl} {S : List Sl} {L : List Pr} {T : List Int} (h : ¬ (ld x.page).2 = 0) : (sltM ld (x :: S) L T).1 = (ld x.page).2 := by
  rw [sltM, if_pos h]
theorem slt_form {ld : Ld} {x : Sl} {S : List Sl} {L : List Pr} {T : List Int} (h : (ld x.page).2 = 0) (hl : leafAt (ld x.page).1 x.key (lastK L) = false) : (sltM ld (x :: S) L T).1 = 5 := by
  rw [sltM, if_neg (by simp [h]), hl, if_neg (by decide)]
theorem slt_leaf {ld : Ld} {x : Sl} {S : List Sl} {L : List Pr} {T : List Int} (h : (ld x.page).2 = 0) (hl : leafAt (ld x.page).1 x.key (lastK L) = true) : sltM ld (x :: S) L T = contR ld S (celM ld (cellsS (ld x.page).1) L (x.page :: T)) := by
  rw [sltM, if_neg (by simp [h]), if_pos hl]
  rfl
theorem cel_good {s : ByteArray} (h : isLeaf s = true) {j : Nat} (hj : j < (cellsS s).length) : ceOk (cellsS s) j = true := by
  have := leaf_ok h
  simp only [leafOk, Bool.and_eq_true, List.all_eq_true] at this
  exact this.1.2 j (List.mem_range.2 hj)
theorem ceOk_good {C : List Ce} {j : Nat} (h : ceOk C j = true) : ceGood (C.getD j noCe) = true := by
  unfold ceOk at h
  simp only [Bool.and_eq_true] at h
  exact h.1
/-- What there is to know of a cell that stands in a leaf. -/
theorem good_is {c : Ce} (h : ceGood c = true) : 0 ≤ c.key ∧ 0 ≤ c.size ∧ c.size ≤ 900 ∧ (24 < c.size → c.bytes = ByteArray.empty) := by
  unfold ceGood at h
  simp only [Bool.and_eq_true, decide_eq_true_eq] at h
  refine ⟨((keyB_iff _).1 h.1.1).1, h.1.2.1, h.1.2.2, fun e => ?_⟩
  have := h.2
  rw [if_neg (by omega)] at this
  simp only [Bool.and_eq_true, decide_eq_true_eq] at this
  exact this.2
theorem lastK_nil : lastK [] = -1 := rfl
/-- Where Read stands among the cells of a leaf: all is well so far; or the leaf's first key is not behind the last one. -/
def AtC (ld : Ld) (C : List Ce) (S : List Sl) (R : Int × List Pr × List Int) (j : Nat) (L : List Pr) (T : List Int) : Prop :=
  ((j < C.length → lastK L < (C.getD j noCe).key) ∧ contR ld S (celM ld (C.drop j) L T) = R) ∨ (j = 0 ∧ 0 < C.length ∧ ¬ lastK L < (C.getD 0 noCe).key ∧ R.1 = 5)
theorem AtC.start {ld : Ld} {x : Sl} {S : List Sl} {L : List Pr} {T : List Int} {R : Int × List Pr × List Int} (hR : sltM ld (x :: S) L T = R) (h : (ld x.page).2 = 0) (hi : isLeaf (ld x.page).1 = true) (h0 : 0 < (cellsS (ld x.page).1).length) (hk : ((cellsS (ld x.page).1).getD 0 noCe).key = x.key) : AtC ld (cellsS (ld x.page).1) S R 0 L (x.page :: T) := by
  have hl : leafAt (ld x.page).1 x.key (lastK L) = decide (lastK L < x.key) := by
    unfold leafAt
    rw [hi]
    cases hc : cellsS (ld x.page).1 with
    | nil => rw [hc] at h0; simp at h0
    | cons c C =>
      rw [hc] at hk
      have : c.key = x.key := by simpa using hk
      simp [this]
  by_cases e : lastK L < x.key
  · rw [decide_eq_true e] at hl
    refine .inl ⟨fun _ => by rw [hk]; exact e, ?_⟩
    rw [← hR, slt_leaf h hl, List.drop_zero]
  · rw [decide_eq_false e] at hl
    exact .inr ⟨rfl, h0, by rw [hk]; exact e, by rw [← hR]; exact slt_form h hl⟩
theorem AtC.stop {ld : Ld} {C : List Ce} {S : List Sl} {R : Int × List Pr × List Int} {j : Nat} {L : List Pr} {T : List Int} (h : AtC ld C S R j L T) (hj : j < C.length) (hk : ¬ lastK L < (C.getD j noCe).key) : R.1 = 5 := by
  rcases h with h | h
  · exact absurd (h.1 hj) hk
  · exact h.2.2.2
theorem AtC.go {ld : Ld} {C : List Ce} {S : List Sl} {R : Int × List Pr × List Int} {j : Nat} {L : List Pr} {T : List Int} (h : AtC ld C S R j L T) (hj : j < C.length) (hk : lastK L < (C.getD j noCe).key) : contR ld S (celM ld (C.getD j noCe :: C.drop (j + 1)) L T) = R := by
  rcases h with h | ⟨rfl, _, h, _⟩
  · rw [← h.2, ← drop_get C j noCe hj]
  · exact absurd hk h
theorem AtC.done {ld : Ld} {C : List Ce} {S : List Sl} {R : Int × List Pr × List Int} {j : Nat} {L : List Pr} {T : List Int} (h : AtC ld C S R j L T) (hj : j = C.length) : sltM ld S L T = R := by
  rcases h with h | ⟨rfl, h, _⟩
  · rw [← h.2, hj, List.drop_length]
    rfl
  · omega
theorem cont_err {ld : Ld} {c : Ce} {C : List Ce} {S : List Sl} {L : List Pr} {T : List Int} {R : Int × List Pr × List Int} {e : Int} (h : contR ld S (celM ld (c :: C) L T) = R) (ht : (textR ld c T).1 = e) (he : ¬ e = 0) : R.1 = e := by
  subst ht
  rw [← h, (cel_step ld c C L T).1 he]
  unfold contR
  rw [if_neg he]
theorem AtC.next {ld : Ld} {s : ByteArray} {S : List Sl} {R : Int × List Pr × List Int} {j : Nat} {L : List Pr} {T T' : List Int} {t : ByteArray} (h : contR ld S (celM ld ((cellsS s).getD j noCe :: (cellsS s).drop (j + 1)) L T) = R) (hi : isLeaf s = true) (ht : textR ld ((cellsS s).getD j noCe) T = (0, t, T')) : AtC ld (cellsS s) S R (j + 1) (L ++ [⟨((cellsS s).getD j noCe).key, t⟩]) T' := by
  refine .inl ⟨fun hj => ?_, ?_⟩
  · have := cel_good hi hj
    rw [ceOk_succ] at this
    simp only [Bool.and_eq_true, decide_eq_true_eq] at this
    rw [lastK_more]
    exact this.2
  · have h2 := (cel_step ld ((cellsS s).getD j noCe) ((cellsS s).drop (j + 1)) L T).2 (by rw [ht])
    rw [ht] at h2
    rw [h2] at h
    exact h
/-- Where Read stands among the pieces of a record. -/
def AtT (ld : Ld) (c : Ce) (T0 : List Int) (acc : ByteArray) (nx : Int) (T : List Int) : Prop :=
  (c.size ≤ 24 ∧ textR ld c T0 = (0, acc, T)) ∨ (24 < c.size ∧ (acc.size : Int) ≤ c.size ∧ txR ld (c.size.toNat - acc.size) nx acc T = textR ld c T0)
theorem AtT.start {ld : Ld} {c : Ce} {T : List Int} (h : ceGood c = true) : AtT ld c T c.bytes c.page T := by
  obtain ⟨_, h0, _, h1⟩ := good_is h
  by_cases hz : c.size ≤ 24
  · refine .inl ⟨hz, ?_⟩
    unfold textR
    rw [if_pos hz]
  · refine .inr ⟨by omega, ?_, ?_⟩
    · rw [h1 (by omega), ByteArray.size_empty]
      omega
    · rw [h1 (by omega), ByteArray.size_empty]
      unfold textR
      rw [if_neg hz]
      rfl
/-- The first pages that were seen. -/
def preW (ld : Ld) (T : List Int) (x : Nat) : List Pr := (List.range x).filterMap (seenP ld T)
theorem preW_up (ld : Ld) (T : List Int) (x : Nat) : preW ld T (x + 1) = if T.contains (x : Int) = true then preW ld T x ++ [⟨(x : Int), (ld x).1⟩] else preW ld T x := by
  unfold preW
  rw [List.range_succ, List.filterMap_append]
  by_cases h : T.contains (x : Int) = true
  · rw [if_pos h]
    have : seenP ld T x = some ⟨(x : Int), (ld x).1⟩ := if_pos h
    rw [List.filterMap_cons, this]
    rfl
  · rw [if_neg h]
    have : seenP ld T x = none := if_neg h
    rw [List.filterMap_cons, this, List.filterMap_nil, List.append_nil]
theorem preW_len (ld : Ld) (T : List Int) (x : Nat) : (preW ld T x).length ≤ x := Nat.le_trans (List.length_filterMap_le _ _) (by simp)
def RReadE (w w' : World) (ld : Ld) (R : Int × List Pr × List Int) (e : Ending) : Prop :=
  (R.1 = 0 → ∃ v vw, e = .returned (.tuple #[v, vw, .int .i64 0]) ∧ w'.ownsRow w.heap.size 83 2 v R.2.1.length (prsV R.2.1) ∧ w'.ownsRow w.heap.size 86 2 vw (canon ld R.2.2).length (prsV (canon ld R.2.2))) ∧
  (¬ R.1 = 0 → e = .returned (.tuple #[.slice none 0 0, .slice none 0 0, .int .i64 R.1])) ∧ Below w.heap.size w w'
theorem rread_no {w w' : World} {ld : Ld} {R : Int × List Pr × List Int} {E : Int} (h : R.1 = E) (hE : ¬ E = 0) (g : Below w.heap.size w w') : RReadE w w' ld R (.returned (.tuple #[.slice none 0 0, .slice none 0 0, .int .i64 E])) := by
  subst h
  exact ⟨fun e => absurd e hE, fun _ => rfl, g⟩
end Go.Proofs.YtbkkhafckkndfaaGreat

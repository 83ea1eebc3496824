/-
  What one act of a row does to a platter and to the document's own: both go the same way; a block beside them stays as it is.
-/
import Derived.Test.YtbkkhafckkndfaaGreatPxTTrip
namespace Go.Proofs.YtbkkhafckkndfaaGreat
open Go Go.RowKit

/-- The two answer alike, after so many acts. -/
structure St (k j : Nat) (P : Pl) (R : Rp) : Prop where
  sim : Sim P R
  len : P.now.length = k
  few : P.float.length ≤ j
theorem store_len (P : Pl) (n : Int) (x : ByteArray) : (storeP P n x).2.now.length = P.now.length ∧ (storeP P n x).2.float.length ≤ P.float.length + 1 := by
  unfold storeP
  split
  · exact ⟨rfl, Nat.le_succ _⟩
  split
  · exact ⟨rfl, Nat.le_succ _⟩
  split
  · exact ⟨rfl, Nat.le_succ _⟩
  split
  · exact ⟨rfl, by simp⟩
  · exact ⟨by simp, by simp⟩
theorem settle_len2 (P : Pl) : (settleP P).2.now.length = P.now.length ∧ (settleP P).2.float.length ≤ P.float.length := by
  unfold settleP
  split
  · exact ⟨rfl, Nat.le_refl _⟩
  · exact ⟨rfl, by simp⟩
theorem halt_len (P : Pl) (n : Int) : (haltP P n).now.length = P.now.length ∧ (haltP P n).float.length = P.float.length := by
  unfold haltP
  split <;> exact ⟨rfl, rfl⟩
theorem fail_len {P : Pl} (h : P.ok) (cuts : List Int) : (failP P cuts).2.now.length = P.now.length ∧ (failP P cuts).2.float.length = 0 := by
  have := failL_ok cuts P.float 0 (0, P.last) h.last (fun x hx => by rw [h.len]; exact h.float x hx)
  exact ⟨this.2.trans h.len, rfl⟩
section
variable {k j : Nat} {P : Pl} {R : Rp}
theorem St.up (h : St k j P R) : St k (j + 1) P R := ⟨h.sim, h.len, Nat.le_succ_of_le h.few⟩
theorem St.store (h : St k j P R) (hj : j < 1000000) (n : Int) (x : ByteArray) : ∃ r P' R', storeP P n x = (r, P') ∧ storeQ R n x = (r, R') ∧ St k (j + 1) P' R' := by
  obtain ⟨e, s⟩ := sim_store h.sim (Nat.lt_of_le_of_lt h.few hj) n x
  have l := store_len P n x
  refine ⟨(storeP P n x).1, (storeP P n x).2, (storeQ R n x).2, rfl, by rw [← e], s, l.1.trans h.len, Nat.le_trans l.2 (Nat.succ_le_succ h.few)⟩
theorem St.settle (h : St k j P R) : ∃ r P' R', settleP P = (r, P') ∧ settleQ R = (r, R') ∧ St k (j + 1) P' R' := by
  obtain ⟨e, s⟩ := sim_settle h.sim
  have l := settle_len2 P
  refine ⟨(settleP P).1, (settleP P).2, (settleQ R).2, rfl, by rw [← e], s, l.1.trans h.len, Nat.le_succ_of_le (Nat.le_trans l.2 h.few)⟩
theorem St.halt (h : St k j P R) {n : Int} (hn : inF n) : ∃ P' R', haltP P n = P' ∧ haltQ R n = R' ∧ St k (j + 1) P' R' :=
  ⟨_, _, rfl, rfl, sim_halt h.sim hn, (halt_len P n).1.trans h.len, by rw [(halt_len P n).2]; exact Nat.le_succ_of_le h.few⟩
theorem St.fail (h : St k j P R) (cuts : List Int) : ∃ r P' R', failP P cuts = (r, P') ∧ failQ R cuts = (r, R') ∧ St k (j + 1) P' R' := by
  obtain ⟨e, s⟩ := sim_fail h.sim cuts
  have l := fail_len h.sim.ok cuts
  exact ⟨(failP P cuts).1, (failP P cuts).2, (failQ R cuts).2, rfl, by rw [← e], s, l.1.trans h.len, by rw [l.2]; exact Nat.zero_le _⟩
theorem St.load (h : St k j P R) (n : Int) : ∃ x r, loadP P n = (x, r) ∧ loadQ R n = (x, r) := ⟨(loadP P n).1, (loadP P n).2, rfl, sim_load h.sim n⟩
end

/-- A block beside the two. -/
def PairQ (w0 w : World) (q : Nat) (o : Obj) (b : Nat) (P : Pl) (d : Nat) (R : Rp) : Prop :=
  ∃ F G : Nat → Prop, Has w0 w b F P ∧ RHas w0 w d G R ∧ (∀ i, F i → ¬ G i) ∧ Below w0.heap.size w0 w ∧ ¬ F q ∧ ¬ G q ∧ w.heap[q]? = some o
section
variable {w0 w w' : World} {q b d : Nat} {o : Obj} {F G : Nat → Prop} {P P' : Pl} {R R' : Rp}
theorem PairQ.pair (h : PairQ w0 w q o b P d R) : Pair w0 w b P d R := by
  obtain ⟨F, G, h1, h2, h3, h4, _⟩ := h
  exact ⟨F, G, h1, h2, h3, h4⟩
theorem PairQ.blk (h : PairQ w0 w q o b P d R) : w.heap[q]? = some o := by
  obtain ⟨F, G, h1, h2, h3, h4, h5, h6, h7⟩ := h
  exact h7
theorem PairQ.grew (h : PairQ w0 w q o b P d R) (g : Grew w w') : PairQ w0 w' q o b P d R := by
  obtain ⟨F, G, h1, h2, h3, h4, h5, h6, h7⟩ := h
  exact ⟨F, G, h1.but (G := fun _ => False) (Grew.but g) (fun _ _ e => e), h2.but (G := fun _ => False) (Grew.but g) (fun _ _ e => e), h3, h4.trans (g.below.mono h4.size), h5, h6, (g.heap (Array.getElem?_eq_some_iff.1 h7).1).trans h7⟩
theorem Pair.beside (h : Pair w0 w b P d R) (cs : Array Value) (t : TypeId) : PairQ w0 (w.alloc (.cells cs t)) w.heap.size (.cells cs t (0, 0)) b P d R := by
  obtain ⟨F, G, h1, h2, h3, h4⟩ := h
  have g : Grew w (w.alloc (.cells cs t)) := (Grew.refl w).alloc cs t
  exact ⟨F, G, h1.but (G := fun _ => False) (Grew.but g) (fun _ _ e => e), h2.but (G := fun _ => False) (Grew.but g) (fun _ _ e => e), h3, h4.trans (g.below.mono h4.size), fun f => absurd (h1.2 _ f).2 (Nat.lt_irrefl _), fun f => absurd (h2.2 _ f).2 (Nat.lt_irrefl _), heap_alloc_new w _⟩
theorem Did.pairq (h : Did w0 w b F P' w') (h1 : Has w0 w b F P) (h2 : RHas w0 w d G R) (h3 : ∀ i, F i → ¬ G i) (h4 : Below w0.heap.size w0 w) (h5 : ¬ F q) (h6 : ¬ G q) (h7 : w.heap[q]? = some o) : PairQ w0 w' q o b P' d R := by
  obtain ⟨F', k1, k2, k3⟩ := h
  have hq := (Array.getElem?_eq_some_iff.1 h7).1
  refine ⟨F', G, k1, h2.but k2 (fun i g f => h3 i f g), fun i f g => ?_, h4.trans (k2.below (fun i e => (h1.2 i e).1) h4.size), fun f => ?_, h6, (k2.block q hq h5).trans h7⟩
  · rcases k3 i f with f | f
    · exact h3 i f g
    · exact absurd (h2.2 i g).2 (Nat.not_lt.2 f)
  · rcases k3 q f with f | f
    · exact h5 f
    · exact absurd hq (Nat.not_lt.2 f)
theorem RDid.pairq (h : RDid w0 w d G R' w') (h1 : Has w0 w b F P) (h2 : RHas w0 w d G R) (h3 : ∀ i, F i → ¬ G i) (h4 : Below w0.heap.size w0 w) (h5 : ¬ F q) (h6 : ¬ G q) (h7 : w.heap[q]? = some o) : PairQ w0 w' q o b P d R' := by
  obtain ⟨G', k1, k2, k3⟩ := h
  have hq := (Array.getElem?_eq_some_iff.1 h7).1
  refine ⟨F, G', h1.but k2 h3, k1, fun i f g => ?_, h4.trans (k2.below (fun i e => (h2.2 i e).1) h4.size), h5, fun f => ?_, (k2.block q hq h6).trans h7⟩
  · rcases k3 i g with g | g
    · exact h3 i f g
    · exact absurd (h1.2 i f).2 (Nat.not_lt.2 g)
  · rcases k3 q f with f | f
    · exact h6 f
    · exact absurd hq (Nat.not_lt.2 f)
theorem pairq_store (h : PairQ w0 w q o b P d R) {n : Int} {x : ByteArray} {r : Int} (s : storeP P n x = (r, P')) (hm : P.float.length < 1000000) :
    Calls Tryz.prog 8 #[.pointer (some ⟨b, 0, none⟩), .int .i64 n, .string x] w fun e w' => e = .returned (.int .i64 r) ∧ PairQ w0 w' q o b P' d R := by
  obtain ⟨F, G, h1, h2, h3, h4, h5, h6, h7⟩ := h
  exact (has_store h1 s hm).mono fun e w' ⟨e1, e2⟩ => ⟨e1, e2.pairq h1 h2 h3 h4 h5 h6 h7⟩
theorem rpairq_store (h : PairQ w0 w q o b P d R) {n : Int} {x : ByteArray} {r : Int} (s : storeQ R n x = (r, R')) (hm : R.float.length < 1000000) :
    Calls Tryz.prog 9 #[.pointer (some ⟨d, 0, none⟩), .int .i64 n, .string x] w fun e w' => e = .returned (.int .i64 r) ∧ PairQ w0 w' q o b P d R' := by
  obtain ⟨F, G, h1, h2, h3, h4, h5, h6, h7⟩ := h
  exact (rhas_store h2 s hm).mono fun e w' ⟨e1, e2⟩ => ⟨e1, e2.pairq h1 h2 h3 h4 h5 h6 h7⟩
/-- Cuts that were there before w0 are there still. -/
theorem PairQ.cuts (h : PairQ w0 w q o b P d R) {ac : Option Addr} {cuts : List Int} (hc : Cuts w0 ac cuts) : Cuts w ac cuts := h.pair.cuts hc
/-- What is read of the document's own. -/
theorem Pair.fields (h : Pair w0 w b P d R) : ∃ a2 c2, w.cell? ⟨d, 2, none⟩ = some (.bool R.dead) ∧ w.cell? ⟨d, 1, none⟩ = some (.slice a2 R.float.length c2) := by
  obtain ⟨F, G, h1, ⟨⟨a1, c1, a2, c2, hP, hF⟩, hl⟩, h3, h4⟩ := h
  exact ⟨a2, c2, hP.k2, hP.k1⟩
end
end Go.Proofs.YtbkkhafckkndfaaGreat

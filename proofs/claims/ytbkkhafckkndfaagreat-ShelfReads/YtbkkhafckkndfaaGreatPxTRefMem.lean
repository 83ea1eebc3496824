/-
  The document's own platter in memory; its Load and its Halt.
-/
import Derived.Test.YtbkkhafckkndfaaGreatPxTRefNum
import Derived.Test.YtbkkhafckkndfaaGreatPk01
namespace Go.Proofs.YtbkkhafckkndfaaGreat
open Go Go.RowKit

def strsV (L : List ByteArray) : List Value := L.map Value.string
def stV (x : Wr) : List Value := [.int .i64 x.n, .string x.b]
def stsV (F : List Wr) : List Value := F.flatMap stV
theorem sts_len (F : List Wr) : (stsV F).length = F.length * 2 := by
  induction F with
  | nil => rfl
  | cons x F ih => rw [stsV, List.flatMap_cons, List.length_append, List.length_cons, Nat.add_mul]; rw [stsV] at ih; rw [ih]; simp [stV]; omega
theorem sts_one (F : List Wr) : ∀ v ∈ stsV F, v.oneCell' = true := by
  intro v hv
  obtain ⟨x, _, hx⟩ := List.mem_flatMap.1 hv
  simp [stV] at hx
  rcases hx with rfl | rfl <;> rfl
theorem sts_at (F : List Wr) (k : Nat) (x : Wr) (h : F[k]? = some x) : (stsV F)[k * 2]? = some (.int .i64 x.n) ∧ (stsV F)[k * 2 + 1]? = some (.string x.b) := by
  have e : stsV F = (F.map stV).flatten := by simp [stsV, List.flatMap]
  have hl : ∀ r ∈ F.map stV, r.length = 2 := by
    intro r hr
    obtain ⟨y, _, rfl⟩ := List.mem_map.1 hr
    rfl
  have h0 := flat_got 2 (F.map stV) k (stV x) hl (by rw [List.getElem?_map, h]; rfl) 0 _ rfl
  have h1 := flat_got 2 (F.map stV) k (stV x) hl (by rw [List.getElem?_map, h]; rfl) 1 _ rfl
  rw [Nat.add_zero] at h0
  rw [e]
  exact ⟨h0, h1⟩

/-- The document's platter that lies at b. -/
structure RAt (w : World) (base b : Nat) (a1 : Option Addr) (c1 : Nat) (a2 : Option Addr) (c2 : Nat) (R : Rp) : Prop where
  lb : base ≤ b
  blk : w.heap[b]? = some (.cells #[.slice a1 R.last.length c1, .slice a2 R.float.length c2, .bool R.dead, .int .i64 R.after] 57 (0, 0))
  r1 : w.ownsRow base 9 1 (.slice a1 R.last.length c1) R.last.length (strsV R.last)
  r2 : w.ownsRow base 66 2 (.slice a2 R.float.length c2) R.float.length (stsV R.float)
  ok : R.ok
section
variable {w : World} {base b c1 c2 : Nat} {a1 a2 : Option Addr} {R : Rp}
theorem RAt.k0 (h : RAt w base b a1 c1 a2 c2 R) : w.cell? ⟨b, 0, none⟩ = some (.slice a1 R.last.length c1) := by rw [cell_of_row w b 0 _ _ _ h.blk]; rfl
theorem RAt.k1 (h : RAt w base b a1 c1 a2 c2 R) : w.cell? ⟨b, 1, none⟩ = some (.slice a2 R.float.length c2) := by rw [cell_of_row w b 1 _ _ _ h.blk]; rfl
theorem RAt.k2 (h : RAt w base b a1 c1 a2 c2 R) : w.cell? ⟨b, 2, none⟩ = some (.bool R.dead) := by rw [cell_of_row w b 2 _ _ _ h.blk]; rfl
theorem RAt.k3 (h : RAt w base b a1 c1 a2 c2 R) : w.cell? ⟨b, 3, none⟩ = some (.int .i64 R.after) := by rw [cell_of_row w b 3 _ _ _ h.blk]; rfl
theorem RAt.z (h : RAt w base b a1 c1 a2 c2 R) (o : Nat) : w.frozen? ⟨b, o, none⟩ = false := frozen_of_row w b o _ _ h.blk
/-- Its blocks. -/
def rfoot (b : Nat) (a1 a2 : Option Addr) (i : Nat) : Prop := i = b ∨ (Value.slice a1 0 0).ownBlock = some i ∨ (Value.slice a2 0 0).ownBlock = some i
theorem RAt.bg (h : RAt w base b a1 c1 a2 c2 R) : ∀ i, rfoot b a1 a2 i → base ≤ i ∧ i < w.heap.size := by
  rintro i (rfl | e | e)
  · exact ⟨h.lb, (Array.getElem?_eq_some_iff.1 h.blk).1⟩
  · exact h.r1.lt _ ((own_any _ _ _).trans e)
  · exact h.r2.lt _ ((own_any _ _ _).trans e)
theorem RAt.b1 (h : RAt w base b a1 c1 a2 c2 R) {i : Nat} (hi : (Value.slice a1 0 0).ownBlock = some i) : i ≠ b := by
  rintro rfl
  rcases h.r1.2 with ⟨e, _⟩ | ⟨g, c, cur, e, _, hg, _⟩
  · simp at e
    rw [e.1] at hi
    cases hi
  · simp at e
    rw [e.1] at hi
    cases hi
    rw [h.blk] at hg
    simp at hg
theorem RAt.b2 (h : RAt w base b a1 c1 a2 c2 R) {i : Nat} (hi : (Value.slice a2 0 0).ownBlock = some i) : i ≠ b ∧ (Value.slice a1 0 0).ownBlock ≠ some i := by
  rcases h.r2.2 with ⟨e, _⟩ | ⟨g, c, cur, e, _, hg, _⟩
  · simp at e
    rw [e.1] at hi
    cases hi
  · simp at e
    rw [e.1] at hi
    cases hi
    refine ⟨?_, fun q => ?_⟩
    · rintro rfl
      rw [h.blk] at hg
      simp at hg
    · rcases h.r1.2 with ⟨e', _⟩ | ⟨g', c', cur', e', _, hg', _⟩
      · simp at e'
        rw [e'.1] at q
        cases q
      · simp at e'
        rw [e'.1] at q
        cases q
        rw [hg] at hg'
        simp at hg'
theorem RAt.but (h : RAt w base b a1 c1 a2 c2 R) {S : Nat → Prop} {W : World} (G : But S w W) (hS : ∀ i, rfoot b a1 a2 i → ¬ S i) : RAt W base b a1 c1 a2 c2 R := by
  have hb := (Array.getElem?_eq_some_iff.1 h.blk).1
  refine ⟨h.lb, (G.block b hb (hS b (.inl rfl))).trans h.blk, row_but h.r1 G ?_, row_but h.r2 G ?_, h.ok⟩
  · rintro i e; exact hS _ (.inr (.inl ((own_any _ _ _).symm.trans e)))
  · rintro i e; exact hS _ (.inr (.inr ((own_any _ _ _).symm.trans e)))
theorem RAt.page (h : RAt w base b a1 c1 a2 c2 R) {i : Nat} (hi : i < R.last.length) : ∃ g, a1 = some ⟨g, 0, none⟩ ∧ w.cell? ⟨g, i, none⟩ = some (.string (pg R.last i)) := by
  rcases h.r1.2 with ⟨e, e0⟩ | ⟨g, c, cur, e, _⟩
  · omega
  · simp at e
    obtain ⟨rfl, _⟩ := e
    refine ⟨g, rfl, ?_⟩
    rw [h.r1.cellAt i (by omega), strsV, List.getElem?_map, pg_get hi]
    rfl
theorem RAt.st (h : RAt w base b a1 c1 a2 c2 R) {k : Nat} {x : Wr} (hx : R.float[k]? = some x) : ∃ g, a2 = some ⟨g, 0, none⟩ ∧ w.cell? ⟨g, k * 2, none⟩ = some (.int .i64 x.n) ∧ w.cell? ⟨g, k * 2 + 1, none⟩ = some (.string x.b) := by
  have hk := (List.getElem?_eq_some_iff.1 hx).1
  rcases h.r2.2 with ⟨e, e0⟩ | ⟨g, c, cur, e, _⟩
  · omega
  · simp at e
    obtain ⟨rfl, _⟩ := e
    obtain ⟨h1, h2⟩ := sts_at R.float k x hx
    exact ⟨g, rfl, (h.r2.cellAt _ (by omega)).trans h1, (h.r2.cellAt _ (by omega)).trans h2⟩

end
end Go.Proofs.YtbkkhafckkndfaaGreat

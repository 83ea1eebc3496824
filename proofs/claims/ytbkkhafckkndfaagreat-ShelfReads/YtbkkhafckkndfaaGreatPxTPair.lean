/-
  A platter of package platter beside the document's own, in blocks that are not the same: what is done to the one leaves the other as it was.
-/
import Derived.Test.YtbkkhafckkndfaaGreatPxTTwo
import Derived.Test.YtbkkhafckkndfaaGreatPxTRefFail
import Derived.Test.YtbkkhafckkndfaaGreatPxTRefNew
import Derived.Test.YtbkkhafckkndfaaGreatPxTRefLoad
namespace Go.Proofs.YtbkkhafckkndfaaGreat
open Go Go.RowKit

def RHas (w0 w : World) (b : Nat) (F : Nat → Prop) (R : Rp) : Prop :=
  (∃ a1 c1 a2 c2, RAt w w0.heap.size b a1 c1 a2 c2 R ∧ ∀ i, rfoot b a1 a2 i → F i) ∧ ∀ i, F i → w0.heap.size ≤ i ∧ i < w.heap.size
theorem RHas.but {w0 w w' : World} {b : Nat} {F G : Nat → Prop} {R : Rp} (h : RHas w0 w b F R) (g : But G w w') (hd : ∀ i, F i → ¬ G i) : RHas w0 w' b F R := by
  obtain ⟨⟨a1, c1, a2, c2, hP, hF⟩, hl⟩ := h
  exact ⟨⟨a1, c1, a2, c2, hP.but g (fun i e => hd i (hF i e)), hF⟩, fun i e => ⟨(hl i e).1, Nat.lt_of_lt_of_le (hl i e).2 g.size⟩⟩
def RDid (w0 w : World) (b : Nat) (F : Nat → Prop) (R' : Rp) (w' : World) : Prop := ∃ F', RHas w0 w' b F' R' ∧ But F w w' ∧ ∀ i, F' i → F i ∨ w.heap.size ≤ i
theorem rdid_of {w0 w w' : World} {b c1 : Nat} {a1 a2 : Option Addr} {F : Nat → Prop} {R' : Rp} (hF : ∀ i, rfoot b a1 a2 i → F i) (h : RStored w w0.heap.size b a1 c1 a2 R' w') : RDid w0 w b F R' w' := by
  obtain ⟨a4, c4, hP, hB, ho⟩ := h
  refine ⟨rfoot b a1 a4, ⟨⟨a1, c1, a4, c4, hP, fun _ e => e⟩, hP.bg⟩, hB.more fun i _ e => hF i e, ?_⟩
  rintro i (e | e | e)
  · exact .inl (hF i (.inl e))
  · exact .inl (hF i (.inr (.inl e)))
  · rcases ho i e with e | e
    · exact .inl (hF i (.inr (.inr e)))
    · exact .inr e
section
variable {w0 w : World} {b : Nat} {F : Nat → Prop} {R R' : Rp}
theorem rhas_store (h : RHas w0 w b F R) {n : Int} {x : ByteArray} {r : Int} (s : storeQ R n x = (r, R')) (hm : R.float.length < 1000000) :
    Calls Tryz.prog 9 #[.pointer (some ⟨b, 0, none⟩), .int .i64 n, .string x] w fun e w' => e = .returned (.int .i64 r) ∧ RDid w0 w b F R' w' := by
  obtain ⟨⟨a1, c1, a2, c2, hP, hF⟩, hl⟩ := h
  refine (rstore_any hP n x hm).mono fun e w' ⟨e1, e2⟩ => ?_
  rw [s] at e1 e2
  exact ⟨e1, rdid_of hF e2⟩
theorem rhas_load (h : RHas w0 w b F R) {n : Int} {x : ByteArray} {r : Int} (s : loadQ R n = (x, r)) :
    Calls Tryz.prog 38 #[.pointer (some ⟨b, 0, none⟩), .int .i64 n] w fun e w' => e = .returned (.tuple #[.string x, .int .i64 r]) ∧ w' = w := by
  obtain ⟨⟨a1, c1, a2, c2, hP, hF⟩, hl⟩ := h
  refine (rload_any hP n).mono fun e w' ⟨e1, e2⟩ => ?_
  rw [s] at e1
  exact ⟨e1, e2⟩
end

/-! ### The one beside the other -/
def Pair (w0 w : World) (b : Nat) (P : Pl) (d : Nat) (R : Rp) : Prop := ∃ F G : Nat → Prop, Has w0 w b F P ∧ RHas w0 w d G R ∧ (∀ i, F i → ¬ G i) ∧ Below w0.heap.size w0 w
section
variable {w0 w w' : World} {b d : Nat} {F G : Nat → Prop} {P P' : Pl} {R R' : Rp}
theorem Pair.one (h : Pair w0 w b P d R) : One w0 w b P := by
  obtain ⟨F, G, h1, h2, h3, h4⟩ := h
  exact ⟨⟨F, h1⟩, h4⟩
theorem Pair.ok (h : Pair w0 w b P d R) : P.ok := h.one.ok
theorem Pair.below (h : Pair w0 w b P d R) : Below w0.heap.size w0 w := by
  obtain ⟨F, G, h1, h2, h3, h4⟩ := h
  exact h4
theorem Pair.grew (h : Pair w0 w b P d R) (g : Grew w w') : Pair w0 w' b P d R := by
  obtain ⟨F, G, h1, h2, h3, h4⟩ := h
  exact ⟨F, G, h1.but (G := fun _ => False) (Grew.but g) (fun _ _ e => e), h2.but (G := fun _ => False) (Grew.but g) (fun _ _ e => e), h3, h4.trans (g.below.mono h4.size)⟩
theorem Did.pair (h : Did w0 w b F P' w') (h1 : Has w0 w b F P) (h2 : RHas w0 w d G R) (h3 : ∀ i, F i → ¬ G i) (h4 : Below w0.heap.size w0 w) : Pair w0 w' b P' d R := by
  obtain ⟨F', k1, k2, k3⟩ := h
  refine ⟨F', G, k1, h2.but k2 (fun i g f => h3 i f g), fun i f g => ?_, h4.trans (k2.below (fun i e => (h1.2 i e).1) h4.size)⟩
  rcases k3 i f with f | f
  · exact h3 i f g
  · exact absurd (h2.2 i g).2 (Nat.not_lt.2 f)
theorem RDid.pair (h : RDid w0 w d G R' w') (h1 : Has w0 w b F P) (h2 : RHas w0 w d G R) (h3 : ∀ i, F i → ¬ G i) (h4 : Below w0.heap.size w0 w) : Pair w0 w' b P d R' := by
  obtain ⟨G', k1, k2, k3⟩ := h
  refine ⟨F, G', h1.but k2 h3, k1, fun i f g => ?_, h4.trans (k2.below (fun i e => (h2.2 i e).1) h4.size)⟩
  rcases k3 i g with g | g
  · exact h3 i f g
  · exact absurd (h1.2 i f).2 (Nat.not_lt.2 g)
theorem pair_store (h : Pair w0 w b P d R) {n : Int} {x : ByteArray} {r : Int} (s : storeP P n x = (r, P')) (hm : P.float.length < 1000000) :
    Calls Tryz.prog 8 #[.pointer (some ⟨b, 0, none⟩), .int .i64 n, .string x] w fun e w' => e = .returned (.int .i64 r) ∧ Pair w0 w' b P' d R := by
  obtain ⟨F, G, h1, h2, h3, h4⟩ := h
  exact (has_store h1 s hm).mono fun e w' ⟨e1, e2⟩ => ⟨e1, e2.pair h1 h2 h3 h4⟩
theorem rpair_store (h : Pair w0 w b P d R) {n : Int} {x : ByteArray} {r : Int} (s : storeQ R n x = (r, R')) (hm : R.float.length < 1000000) :
    Calls Tryz.prog 9 #[.pointer (some ⟨d, 0, none⟩), .int .i64 n, .string x] w fun e w' => e = .returned (.int .i64 r) ∧ Pair w0 w' b P d R' := by
  obtain ⟨F, G, h1, h2, h3, h4⟩ := h
  exact (rhas_store h2 s hm).mono fun e w' ⟨e1, e2⟩ => ⟨e1, e2.pair h1 h2 h3 h4⟩
/-- Cuts that were there before w0 are there still. -/
theorem Pair.cuts (h : Pair w0 w b P d R) {ac : Option Addr} {cuts : List Int} (hc : Cuts w0 ac cuts) : Cuts w ac cuts := by
  have hb := h.below
  obtain ⟨hi, hc⟩ := hc
  refine ⟨hi, ?_⟩
  rcases hc with hc | ⟨z, off, e, hc⟩
  · exact .inl hc
  · refine .inr ⟨z, off, e, fun i hi => ?_⟩
    have hq := hc i hi
    exact ((But.cell (S := fun _ => False) (Go.Proofs.YtbkkhafckkndfaaGreat.Below.but hb) hq (fun e => e)))
theorem rpair_load (h : Pair w0 w b P d R) {n : Int} {x : ByteArray} {r : Int} (s : loadQ R n = (x, r)) :
    Calls Tryz.prog 38 #[.pointer (some ⟨d, 0, none⟩), .int .i64 n] w fun e w' => e = .returned (.tuple #[.string x, .int .i64 r]) ∧ w' = w := by
  obtain ⟨F, G, h1, h2, h3, h4⟩ := h
  exact rhas_load h2 s
/-- The document's own, made beside one that is there. -/
theorem one_rnew (h : One w0 w b P) {k : Nat} (h0 : 0 < k) (h1 : k ≤ 200) : Calls Tryz.prog 6 #[.int .i64 (k : Int)] w fun e w' => ∃ d, e = .returned (.pointer (some ⟨d, 0, none⟩)) ∧ Pair w0 w' b P d (newQ k) := by
  obtain ⟨⟨F, hF⟩, hB⟩ := h
  refine (rnew_any w k h0 h1).mono fun e w' ⟨d, a1, c1, e1, hP, hG⟩ => ⟨d, e1, F, rfoot d a1 none, hF.but hG (fun _ _ e => e), ⟨⟨a1, c1, none, 0, ⟨Nat.le_trans hB.size hP.lb, hP.blk, row_base hP.r1 hB.size, row_base hP.r2 hB.size, hP.ok⟩, fun _ e => e⟩, fun i e => ⟨Nat.le_trans hB.size (hP.bg i e).1, (hP.bg i e).2⟩⟩, fun i f g => absurd (hF.2 i f).2 (Nat.not_lt.2 (hP.bg i g).1), hB.trans (hG.below (fun _ e => e.elim) hB.size)⟩
end
end Go.Proofs.YtbkkhafckkndfaaGreat

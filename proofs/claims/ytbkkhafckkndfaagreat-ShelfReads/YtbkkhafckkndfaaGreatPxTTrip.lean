/-
  Three platters for a while: one, its twin, and the document's own, in blocks that are not the same.
-/
import Derived.Test.YtbkkhafckkndfaaGreatPxTPair
namespace Go.Proofs.YtbkkhafckkndfaaGreat
open Go Go.RowKit

def Trip (w0 w : World) (b : Nat) (P : Pl) (e : Nat) (Q : Pl) (d : Nat) (R : Rp) : Prop :=
  ∃ F E G : Nat → Prop, Has w0 w b F P ∧ Has w0 w e E Q ∧ RHas w0 w d G R ∧ (∀ i, F i → ¬ E i) ∧ (∀ i, F i → ¬ G i) ∧ (∀ i, E i → ¬ G i) ∧ Below w0.heap.size w0 w
section
variable {w0 w w' : World} {b e d : Nat} {F E G : Nat → Prop} {P P' Q : Pl} {R : Rp}
theorem Trip.pair (h : Trip w0 w b P e Q d R) : Pair w0 w e Q d R := by
  obtain ⟨F, E, G, h1, h2, h3, h4, h5, h6, h7⟩ := h
  exact ⟨E, G, h2, h3, h6, h7⟩
theorem Trip.ok (h : Trip w0 w b P e Q d R) : P.ok := by
  obtain ⟨F, E, G, h1, h2, h3, h4, h5, h6, h7⟩ := h
  exact h1.ok
theorem Trip.grew (h : Trip w0 w b P e Q d R) (g : Grew w w') : Trip w0 w' b P e Q d R := by
  obtain ⟨F, E, G, h1, h2, h3, h4, h5, h6, h7⟩ := h
  exact ⟨F, E, G, h1.but (G := fun _ => False) (Grew.but g) (fun _ _ e => e), h2.but (G := fun _ => False) (Grew.but g) (fun _ _ e => e), h3.but (G := fun _ => False) (Grew.but g) (fun _ _ e => e), h4, h5, h6, h7.trans (g.below.mono h7.size)⟩
theorem Did.trip (h : Did w0 w b F P' w') (h1 : Has w0 w b F P) (h2 : Has w0 w e E Q) (h3 : RHas w0 w d G R) (h4 : ∀ i, F i → ¬ E i) (h5 : ∀ i, F i → ¬ G i) (h6 : ∀ i, E i → ¬ G i) (h7 : Below w0.heap.size w0 w) : Trip w0 w' b P' e Q d R := by
  obtain ⟨F', k1, k2, k3⟩ := h
  refine ⟨F', E, G, k1, h2.but k2 (fun i g f => h4 i f g), h3.but k2 (fun i g f => h5 i f g), fun i f g => ?_, fun i f g => ?_, h6, h7.trans (k2.below (fun i e => (h1.2 i e).1) h7.size)⟩
  · rcases k3 i f with f | f
    · exact h4 i f g
    · exact absurd (h2.2 i g).2 (Nat.not_lt.2 f)
  · rcases k3 i f with f | f
    · exact h5 i f g
    · exact absurd (h3.2 i g).2 (Nat.not_lt.2 f)
theorem trip_store (h : Trip w0 w b P e Q d R) {n : Int} {x : ByteArray} {r : Int} (s : storeP P n x = (r, P')) (hm : P.float.length < 1000000) :
    Calls Tryz.prog 8 #[.pointer (some ⟨b, 0, none⟩), .int .i64 n, .string x] w fun y w' => y = .returned (.int .i64 r) ∧ Trip w0 w' b P' e Q d R := by
  obtain ⟨F, E, G, h1, h2, h3, h4, h5, h6, h7⟩ := h
  exact (has_store h1 s hm).mono fun y w' ⟨e1, e2⟩ => ⟨e1, e2.trip h1 h2 h3 h4 h5 h6 h7⟩
end
end Go.Proofs.YtbkkhafckkndfaaGreat

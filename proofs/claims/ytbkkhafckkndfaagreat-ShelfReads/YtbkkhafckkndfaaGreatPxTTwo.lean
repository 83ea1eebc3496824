/-
  Two platters that a law made, which have no block in common: what is done to the one leaves the other as it was.
-/
import Derived.Test.YtbkkhafckkndfaaGreatPxTAlive
namespace Go.Proofs.YtbkkhafckkndfaaGreat
open Go Go.RowKit

def Two (w0 w : World) (b : Nat) (P : Pl) (d : Nat) (Q : Pl) : Prop := ∃ F G : Nat → Prop, Has w0 w b F P ∧ Has w0 w d G Q ∧ (∀ i, F i → ¬ G i) ∧ Below w0.heap.size w0 w
section
variable {w0 w w' : World} {b d : Nat} {F : Nat → Prop} {P P' Q Q' : Pl}
theorem Two.swap (h : Two w0 w b P d Q) : Two w0 w d Q b P := by
  obtain ⟨F, G, h1, h2, h3, h4⟩ := h
  exact ⟨G, F, h2, h1, fun i g f => h3 i f g, h4⟩
theorem Two.one (h : Two w0 w b P d Q) : One w0 w b P := by
  obtain ⟨F, G, h1, h2, h3, h4⟩ := h
  exact ⟨⟨F, h1⟩, h4⟩
theorem Two.grew (h : Two w0 w b P d Q) (g : Grew w w') : Two w0 w' b P d Q := by
  obtain ⟨F, G, h1, h2, h3, h4⟩ := h
  exact ⟨F, G, h1.but (G := fun _ => False) (Grew.but g) (fun _ _ e => e), h2.but (G := fun _ => False) (Grew.but g) (fun _ _ e => e), h3, h4.trans (g.below.mono h4.size)⟩
theorem Did.two {G : Nat → Prop} (h : Did w0 w b F P' w') (h1 : Has w0 w b F P) (h2 : Has w0 w d G Q) (h3 : ∀ i, F i → ¬ G i) (h4 : Below w0.heap.size w0 w) : Two w0 w' b P' d Q := by
  obtain ⟨F', k1, k2, k3⟩ := h
  refine ⟨F', G, k1, h2.but k2 (fun i g f => h3 i f g), fun i f g => ?_, h4.trans (k2.below (fun i e => (h1.2 i e).1) h4.size)⟩
  rcases k3 i f with f | f
  · exact h3 i f g
  · exact absurd (h2.2 i g).2 (Nat.not_lt.2 f)
theorem two_store (h : Two w0 w b P d Q) {n : Int} {x : ByteArray} {r : Int} (s : storeP P n x = (r, P')) (hm : P.float.length < 1000000) :
    Calls Tryz.prog 8 #[.pointer (some ⟨b, 0, none⟩), .int .i64 n, .string x] w fun e w' => e = .returned (.int .i64 r) ∧ Two w0 w' b P' d Q := by
  obtain ⟨F, G, h1, h2, h3, h4⟩ := h
  exact (has_store h1 s hm).mono fun e w' ⟨e1, e2⟩ => ⟨e1, e2.two h1 h2 h3 h4⟩
end
end Go.Proofs.YtbkkhafckkndfaaGreat
